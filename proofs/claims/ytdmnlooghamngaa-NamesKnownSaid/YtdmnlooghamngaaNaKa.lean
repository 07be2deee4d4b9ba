/-
  The law NamesKnown: a list of calls of the call's own.
-/
import Derived.Test.YtdmnlooghamngaaNaS9
import Derived.Test.YtdmnlooghamngaaNaRo2
import Derived.Test.YtdmnlooghamngaaNaW
import Derived.Test.YtdmnlooghamngaaNaU
namespace Go.Proofs.Ytdmnlooghamngaa
open Go.RowKit

/-- Bytes that a literal has laid. -/
def LitB (y : World) (p : Option Addr) (c : Nat) (L : List Int) : Prop := (p = none ∧ c = 0 ∧ L = []) ∨ ∃ q, p = some ⟨q, 0, none⟩ ∧ L.length ≤ c ∧ c ≤ 1000 ∧ Sha.Byt L ∧ y.heap[q]? = some (.cells (L.map (Value.int .u8)).toArray 5 (0, 0))
theorem LitB.bs {y : World} {p : Option Addr} {c : Nat} {L : List Int} (h : LitB y p c L) : Bs y p c L := by
  rcases h with ⟨rfl, rfl, rfl⟩ | ⟨q, rfl, h1, h2, h3, h4⟩
  · exact bs_none y
  · exact bs_row (bat_row h4 h3) ⟨h1, by omega⟩
theorem LitB.keep {w y : World} {p : Option Addr} {c : Nat} {L : List Int} (h : LitB w p c L) (hk : ∀ (q : Nat) (cur : Array Value), w.heap[q]? = some (.cells cur 5 (0, 0)) → y.heap[q]? = w.heap[q]?) : LitB y p c L := by
  rcases h with h | ⟨q, h0, h1, h2, h3, h4⟩
  · exact Or.inl h
  · exact Or.inr ⟨q, h0, h1, h2, h3, (hk q _ h4).trans h4⟩
theorem LitB.old {w y : World} {p : Option Addr} {c : Nat} {L : List Int} (h : LitB w p c L) (hb : Below w.heap.size w y) : LitB y p c L := LitB.keep h (fun q _ h2 => hb.block q (lt_of_block h2))
def OpsC (y : World) (xs : List Value) (k : Nat) (x : Nm.Cal) : Prop :=
  ∃ ph ch pp cp, xs[k]? = some (.int .i64 x.kind) ∧ xs[k + 1]? = some (.int .i64 x.epoch) ∧ xs[k + 2]? = some (.int .i64 x.number) ∧ xs[k + 3]? = some (.int .i64 x.i) ∧ xs[k + 4]? = some (.slice ph x.head.length ch) ∧ xs[k + 5]? = some (.slice pp x.b.length cp) ∧ xs[k + 6]? = some (.int .u8 x.wi) ∧
    LitB y ph ch x.head ∧ LitB y pp cp x.b ∧ Nm.In64 x.epoch ∧ Nm.In64 x.number ∧ 0 ≤ x.wi ∧ x.wi ≤ 255
/-- So many calls, one behind the other in a row of the call's own. -/
def OpsAt (B : Nat) (y : World) (v : Value) (n : Nat) : Prop := ∃ xs, y.ownsRow B 32 7 v n xs ∧ ∀ j, j < n → ∃ x, OpsC y xs (j * 7) x
theorem OpsAt.old {B n : Nat} {w y : World} {v : Value} (h : OpsAt B w v n) (hb : Below w.heap.size w y) : OpsAt B y v n := by
  obtain ⟨xs, h1, h2⟩ := h
  refine ⟨xs, own_keepX h1 hb, fun j hj => ?_⟩
  obtain ⟨x, ph, ch, pp, cp, a0, a1, a2, a3, a4, a5, a6, b1, b2, b3⟩ := h2 j hj
  exact ⟨x, ph, ch, pp, cp, a0, a1, a2, a3, a4, a5, a6, b1.old hb, b2.old hb, b3⟩
theorem ops_len {B n : Nat} {w : World} {v : Value} (h : OpsAt B w v n) : ∃ a cap, v = .slice a n cap := by
  obtain ⟨xs, h1, _⟩ := h
  rcases h1.2 with ⟨h2, h3⟩ | ⟨g, cap, cur, h2, _⟩
  · exact ⟨none, 0, by rw [h2, h3]⟩
  · exact ⟨_, cap, h2⟩
theorem ops_nil (B : Nat) (y : World) : OpsAt B y (.slice none 0 0) 0 := ⟨[], World.ownsRow_nil _ _ _ _, fun j hj => by omega⟩
/-- Such a list is one that a law reads. -/
theorem OpsAt.rows {B n cap : Nat} {w : World} {a : Option Addr} (h : OpsAt B w (.slice a n cap) n) : ∃ L : List Nm.Cal, L.length = n ∧ CRows w a L := by
  obtain ⟨xs, h1, h2⟩ := h
  rcases h1.2 with ⟨h6, h7⟩ | ⟨g, cap', cur, h6, _, h7, _, _, _, h8⟩
  · cases h6
    exact ⟨[], rfl, fun h0 => by simp at h0⟩
  · cases h6
    have key : ∀ i v, i < n * 7 → xs[i]? = some v → w.cell? ⟨g, 0 + i, none⟩ = some v := fun i v hi hv => by
      rw [← h8, List.getElem?_take_of_lt hi] at hv
      rw [Nat.zero_add, cell_of_row w g i _ _ _ h7]
      simpa using hv
    obtain ⟨L, hl, hq⟩ := list_of (Q := fun r x => OpsC w xs (r * 7) x) n h2
    refine ⟨L, hl, fun _ => ⟨g, 0, rfl, fun r x hx => ?_⟩⟩
    have hr := (List.getElem?_eq_some_iff.1 hx).1
    obtain ⟨ph, ch, pp, cp, a0, a1, a2, a3, a4, a5, a6, b1, b2, b3, b4, b5⟩ := hq r x hx
    refine ⟨ph, ch, pp, cp, key _ _ (by omega) a0, ?_, ?_, ?_, ?_, ?_, ?_, b1.bs, b2.bs, b3, b4, b5⟩
    · exact key _ _ (by omega) a1
    · exact key _ _ (by omega) a2
    · exact key _ _ (by omega) a3
    · exact key _ _ (by omega) a4
    · exact key _ _ (by omega) a5
    · exact key _ _ (by omega) a6
theorem Try.infoOp : (Try.prog.info? 32).map (fun i => (i.zero, i.size, i.bytes)) = some (some (.agg #[.int .i64 0, .int .i64 0, .int .i64 0, .int .i64 0, .slice none 0 0, .slice none 0 0, .int .u8 0]), 7, 88) := by kernel_rfl
def cells7 (x : Nm.Cal) (ph : Option Addr) (ch : Nat) (pp : Option Addr) (cp : Nat) : List Value := [.int .i64 x.kind, .int .i64 x.epoch, .int .i64 x.number, .int .i64 x.i, .slice ph x.head.length ch, .slice pp x.b.length cp, .int .u8 x.wi]
theorem opsc_of {y : World} {xs : List Value} {k : Nat} {x : Nm.Cal} {ph pp : Option Addr} {ch cp : Nat} (hx : ∀ j, j < 7 → xs[k + j]? = (cells7 x ph ch pp cp)[j]?) (h1 : LitB y ph ch x.head) (h2 : LitB y pp cp x.b) (h3 : Nm.In64 x.epoch ∧ Nm.In64 x.number) (h4 : 0 ≤ x.wi ∧ x.wi ≤ 255) : OpsC y xs k x :=
  ⟨ph, ch, pp, cp, hx 0 (by omega), hx 1 (by omega), hx 2 (by omega), hx 3 (by omega), hx 4 (by omega), hx 5 (by omega), hx 6 (by omega), h1, h2, h3.1, h3.2, h4.1, h4.2⟩
/-- append of two calls, as a step of a region that draws. -/
theorem step_append_ops {ops : Array Oper} {o : Oper} {a : Act} {w : World} {K : Act → World → Prop} {Q : Exit → Act → World → Prop} {E : Prop} (hgd : o.guard = none) (s x : Operand) (hop : o.op = .call { callee := .builtin .append, args := #[s, x], argTypes := #[22, 22] }) (B : Nat) (v : Value) (n : Nat) (z1 z2 : Nm.Cal) (q : Nat) (ph pp ph' pp' : Option Addr) (ch cp ch' cp' : Nat)
    (hs : a.eval s = v) (hx : a.eval x = .slice (some ⟨q, 0, none⟩) 2 2) (hg : OpsAt B w v n) (hc : w.heap[q]? = some (.cells (cells7 z1 ph ch pp cp ++ cells7 z2 ph' ch' pp' cp').toArray 32 (0, 0)))
    (hl1 : LitB w ph ch z1.head) (hl2 : LitB w pp cp z1.b) (hl3 : LitB w ph' ch' z2.head) (hl4 : LitB w pp' cp' z2.b) (hi1 : Nm.In64 z1.epoch ∧ Nm.In64 z1.number) (hi2 : Nm.In64 z2.epoch ∧ Nm.In64 z2.number) (hw1 : 0 ≤ z1.wi ∧ z1.wi ≤ 255) (hw2 : 0 ≤ z2.wi ∧ z2.wi ≤ 255) (hk : n ≤ 1000000) (hB : B ≤ w.heap.size)
    (h : ∀ v' w', OpsAt B w' v' (n + 2) → w.grownBy w' v.ownBlock → (∀ g, v.ownBlock = some g → B ≤ g ∧ ∃ cur, w.heap[g]? = some (.cells cur 32 (0, 0))) → K (a.put o.dst v') w') :
    if Region.wanted o (yielded ops a.tmps) = true then Oper.wp Try.prog o a w K Q else E := by
  rw [if_pos (by simp [Region.wanted, hgd])]
  obtain ⟨i0, hi, hz0, hz1, hz2⟩ := info_parts Try.infoOp
  obtain ⟨xs, h1, h2⟩ := hg
  obtain ⟨v', w', hr, ho, hgr, _, hpl⟩ := run_append_own_at (P := Try.prog) w B 22 o.type 32 i0 (.agg #[.int .i64 0, .int .i64 0, .int .i64 0, .int .i64 0, .slice none 0 0, .slice none 0 0, .int .u8 0]) 7 88 Try.underlying22 hi hz0 hz1 hz2 rfl (by decide) v n xs h1 ⟨q, 0, none⟩ 2 2 (cells7 z1 ph ch pp cp ++ cells7 z2 ph' ch' pp' cp') rfl (fun j u hj => by
    have hq : ((⟨q, 0, none⟩ : Addr).add j) = ⟨q, j, none⟩ := by simp [Addr.add]; try omega
    rw [hq, cell_of_row w q j _ _ _ hc]
    simpa only [List.getElem?_toArray] using hj) (fun u hu => by
    simp [cells7] at hu
    rcases hu with rfl | rfl | rfl | rfl | rfl | rfl | rfl | rfl | rfl | rfl | rfl | rfl | rfl | rfl <;> rfl) (by unfold maxLen; omega) (by omega) hB
  unfold Oper.wp execOp
  simp only [hop, resolve, invoke, builtin, Sem.run_bind, Sem.run_pure, Result.andThen_ok, List.map_toArray, List.map_cons, List.map_nil, hs, hx, hr]
  have hty := own_type h1
  have hne : ∀ (q : Nat) (cur : Array Value), w.heap[q]? = some (.cells cur 5 (0, 0)) → w'.heap[q]? = w.heap[q]? := fun q cur h2 => hgr.block q (lt_of_block h2) (fun e => by
    obtain ⟨_, cur', h3⟩ := hty q e.symm
    rw [h3] at h2
    cases h2)
  have hxl : xs.length = n * 7 := h1.1
  refine h v' w' ⟨_, ho, fun j hj => ?_⟩ hgr hty
  by_cases hjk : j < n
  · obtain ⟨y, ph, ch, pp, cp, a0, a1, a2, a3, a4, a5, a6, b1, b2, b3⟩ := h2 j hjk
    refine ⟨y, ph, ch, pp, cp, ?_, ?_, ?_, ?_, ?_, ?_, ?_, b1.keep hne, b2.keep hne, b3⟩
    · rw [List.getElem?_append_left (by omega)]; exact a0
    · rw [List.getElem?_append_left (by omega)]; exact a1
    · rw [List.getElem?_append_left (by omega)]; exact a2
    · rw [List.getElem?_append_left (by omega)]; exact a3
    · rw [List.getElem?_append_left (by omega)]; exact a4
    · rw [List.getElem?_append_left (by omega)]; exact a5
    · rw [List.getElem?_append_left (by omega)]; exact a6
  · by_cases hj2 : j = n
    · subst hj2
      exact ⟨z1, opsc_of (fun i hi => by rw [List.getElem?_append_right (by omega), hxl, show j * 7 + i - j * 7 = i by omega, List.getElem?_append_left (by simp [cells7]; omega)]) (hl1.keep hne) (hl2.keep hne) hi1 hw1⟩
    · obtain rfl : j = n + 1 := by omega
      exact ⟨z2, opsc_of (fun i hi => by rw [List.getElem?_append_right (by omega), hxl, show (n + 1) * 7 + i - n * 7 = 7 + i by omega, List.getElem?_append_right (by simp [cells7]), show 7 + i - (cells7 z1 ph ch pp cp).length = i by simp [cells7]]) (hl3.keep hne) (hl4.keep hne) hi2 hw2⟩
theorem al4 (x : World) (A B C D : Obj) : ((((x.alloc A).alloc B).alloc C).alloc D).heap[x.heap.size]? = some A ∧ ((((x.alloc A).alloc B).alloc C).alloc D).heap[x.heap.size + 1]? = some B ∧ ((((x.alloc A).alloc B).alloc C).alloc D).heap[x.heap.size + 2]? = some C ∧ ((((x.alloc A).alloc B).alloc C).alloc D).heap[x.heap.size + 3]? = some D := by
  have h : ((((x.alloc A).alloc B).alloc C).alloc D).heap = (((x.heap.push A).push B).push C).push D := rfl
  rw [h]
  simp only [Array.getElem?_push, Array.size_push]
  refine ⟨?_, ?_, ?_, ?_⟩
  · rw [if_neg (by omega), if_neg (by omega), if_neg (by omega), if_pos trivial]
  · rw [if_neg (by omega), if_neg (by omega), if_pos trivial]
  · rw [if_neg (by omega), if_pos trivial]
  · rw [if_pos trivial]
theorem Bs.take {w : World} {p : Option Addr} {c : Nat} {l : List Int} (h : Bs w p c l) (k : Nat) : Bs w p c (l.take k) :=
  ⟨h.bat.take k, by have := h.cap; rw [List.length_take]; omega, fun e => by have h1 := h.nil e; exact ⟨by rw [h1.1, List.take_nil], h1.2⟩⟩
theorem Bs.dropk {w : World} {ab ao c k : Nat} {l : List Int} (h : Bs w (some ⟨ab, ao, none⟩) c l) (hk : k < l.length) : Bs w (some ⟨ab, ao + k, none⟩) (c - k) (l.drop k) :=
  ⟨h.bat.dropk hk, by have := h.cap; rw [List.length_drop]; omega, fun e => by cases e⟩
/-- What was sealed. -/
def S34 : List Int := [8, 9] ++ Nm.tg 0 1
theorem s34_len : S34.length = 34 := by unfold S34; rw [List.length_append, Nm.tg_len]; rfl
attribute [irreducible] S34
def fours (q : Nat) (p : Option Addr) (k : Nat) : Obj := .cells #[.int .i64 1, .int .i64 2, .slice (some ⟨q, 0, none⟩) 1 1, .slice (some ⟨q + 1, 0, none⟩) 2 2, .int .i64 1, .int .i64 3, .slice (some ⟨q + 1 + 1, 0, none⟩) 1 1, .slice (some ⟨q + 1 + 1 + 1, 0, none⟩) 2 2, .int .i64 1, .int .i64 2, .slice none 0 0, .slice p 34 k, .int .i64 (-1), .int .i64 0, .slice none 0 0, .slice none 0 0] 47
def L4 : List Nm.Four := [(1, 2, [7], [8, 9]), (1, 3, [7], [8, 9]), (1, 2, [], S34), (-1, 0, [], [])]
theorem l4_rows (w : World) (p : Option Addr) (k : Nat) (hp : Bs w p k S34) (y : World) (hy : (((((w.alloc lit7).alloc lit89).alloc lit7).alloc lit89).alloc (fours w.heap.size p k)) = y) : FRows y (some ⟨w.heap.size + 1 + 1 + 1 + 1, 0, none⟩) L4 ∧ Below w.heap.size w y := by
  have hb0 : Below w.heap.size w (w.alloc lit7) := (Below.refl _ w).alloc (Nat.le_refl _) _
  have hb1 := hb0.alloc (show w.heap.size ≤ (w.alloc lit7).heap.size by simp) lit89
  have hb2 := hb1.alloc (show w.heap.size ≤ ((w.alloc lit7).alloc lit89).heap.size by simp; omega) lit7
  have hb3 := hb2.alloc (show w.heap.size ≤ (((w.alloc lit7).alloc lit89).alloc lit7).heap.size by simp; omega) lit89
  have hb4 := hb3.alloc (show w.heap.size ≤ ((((w.alloc lit7).alloc lit89).alloc lit7).alloc lit89).heap.size by simp; omega) (fours w.heap.size p k)
  have h := al4 (w.alloc lit7) lit89 lit7 lit89 (fours w.heap.size p k)
  rw [hy] at h hb4
  rw [show (w.alloc lit7).heap.size = w.heap.size + 1 by simp] at h
  have h0 : y.heap[w.heap.size]? = some lit7 := by
    rw [← hy]
    have e : (((((w.alloc lit7).alloc lit89).alloc lit7).alloc lit89).alloc (fours w.heap.size p k)).heap = ((((w.heap.push lit7).push lit89).push lit7).push lit89).push (fours w.heap.size p k) := rfl
    rw [e]
    simp only [Array.getElem?_push, Array.size_push]
    rw [if_neg (by omega), if_neg (by omega), if_neg (by omega), if_neg (by omega), if_pos trivial]
  obtain ⟨h1, h2, h3, h4⟩ := h
  have c : ∀ i v, (#[Value.int .i64 1, .int .i64 2, .slice (some ⟨w.heap.size, 0, none⟩) 1 1, .slice (some ⟨w.heap.size + 1, 0, none⟩) 2 2, .int .i64 1, .int .i64 3, .slice (some ⟨w.heap.size + 1 + 1, 0, none⟩) 1 1, .slice (some ⟨w.heap.size + 1 + 1 + 1, 0, none⟩) 2 2, .int .i64 1, .int .i64 2, .slice none 0 0, .slice p 34 k, .int .i64 (-1), .int .i64 0, .slice none 0 0, .slice none 0 0] : Array Value)[i]? = some v → y.cell? ⟨w.heap.size + 1 + 1 + 1 + 1, i, none⟩ = some v := fun i v hv => by
    rw [cell_of_row y _ i _ _ _ h4]
    exact hv
  have b0 : Bs y (some ⟨w.heap.size, 0, none⟩) 1 [7] := bs_row (bat_row h0 byt7) ⟨by decide, by decide⟩
  have b1 : Bs y (some ⟨w.heap.size + 1, 0, none⟩) 2 [8, 9] := bs_row (bat_row h1 byt89) ⟨by decide, by decide⟩
  have b2 : Bs y (some ⟨w.heap.size + 1 + 1, 0, none⟩) 1 [7] := bs_row (bat_row h2 byt7) ⟨by decide, by decide⟩
  have b3 : Bs y (some ⟨w.heap.size + 1 + 1 + 1, 0, none⟩) 2 [8, 9] := bs_row (bat_row h3 byt89) ⟨by decide, by decide⟩
  refine ⟨fun _ => ⟨_, 0, rfl, fun r x hx => ?_⟩, hb4⟩
  have hr := (List.getElem?_eq_some_iff.1 hx).1
  have h5 : r = 0 ∨ r = 1 ∨ r = 2 ∨ r = 3 := by
    unfold L4 at hr
    simp at hr
    omega
  rcases h5 with rfl | rfl | rfl | rfl
  · cases hx
    exact ⟨_, _, _, _, c 0 _ rfl, c 1 _ rfl, c 2 _ rfl, c 3 _ rfl, b0, b1, by unfold Nm.In64; decide, by unfold Nm.In64; decide⟩
  · cases hx
    exact ⟨_, _, _, _, c 4 _ rfl, c 5 _ rfl, c 6 _ rfl, c 7 _ rfl, b2, b3, by unfold Nm.In64; decide, by unfold Nm.In64; decide⟩
  · cases hx
    exact ⟨_, _, _, _, c 8 _ rfl, c 9 _ rfl, c 10 _ rfl, by rw [show ((1, 2, [], S34) : Nm.Four).2.2.2.length = 34 from s34_len]; exact c 11 _ rfl, bs_none y, hp.old hb4, by unfold Nm.In64; decide, by unfold Nm.In64; decide⟩
  · cases hx
    exact ⟨_, _, _, _, c 12 _ rfl, c 13 _ rfl, c 14 _ rfl, c 15 _ rfl, bs_none y, bs_none y, by unfold Nm.In64; decide, by unfold Nm.In64; decide⟩
def lit55 : Obj := .cells #[.int .u8 5, .int .u8 5] 5
def litN : Obj := .cells #[] 5
def lit0 : Obj := .cells #[.int .u8 0] 5
def rows7 (q : Nat) : Obj := .cells #[.slice none 0 0, .slice (some ⟨q, 0, none⟩) 1 1, .slice none 0 0, .slice (some ⟨q + 1, 0, none⟩) 2 2, .slice (some ⟨q + 1 + 1, 0, none⟩) 0 0, .slice (some ⟨q + 1 + 1 + 1, 0, none⟩) 1 1, .slice (some ⟨q + 1 + 1 + 1 + 1, 0, none⟩) 1 1] 30
def R7 : List (List Int) := [[], [5], [], [5, 5], [], [0], [5]]
theorem r7_rows (w y : World) (hy : ((((((w.alloc lit5).alloc lit55).alloc litN).alloc lit0).alloc lit5).alloc (rows7 w.heap.size)) = y) : BRows y (some ⟨w.heap.size + 1 + 1 + 1 + 1 + 1, 0, none⟩) R7 ∧ Below w.heap.size w y := by
  have hb0 : Below w.heap.size w (w.alloc lit5) := (Below.refl _ w).alloc (Nat.le_refl _) _
  have hb1 := hb0.alloc (show w.heap.size ≤ (w.alloc lit5).heap.size by simp) lit55
  have hb2 := hb1.alloc (show w.heap.size ≤ ((w.alloc lit5).alloc lit55).heap.size by simp; omega) litN
  have hb3 := hb2.alloc (show w.heap.size ≤ (((w.alloc lit5).alloc lit55).alloc litN).heap.size by simp; omega) lit0
  have hb4 := hb3.alloc (show w.heap.size ≤ ((((w.alloc lit5).alloc lit55).alloc litN).alloc lit0).heap.size by simp; omega) lit5
  have hb5 := hb4.alloc (show w.heap.size ≤ (((((w.alloc lit5).alloc lit55).alloc litN).alloc lit0).alloc lit5).heap.size by simp; omega) (rows7 w.heap.size)
  rw [hy] at hb5
  have e : y.heap = (((((w.heap.push lit5).push lit55).push litN).push lit0).push lit5).push (rows7 w.heap.size) := by rw [← hy]; rfl
  have h0 : y.heap[w.heap.size]? = some lit5 := by
    rw [e]
    simp only [Array.getElem?_push, Array.size_push]
    rw [if_neg (by omega), if_neg (by omega), if_neg (by omega), if_neg (by omega), if_neg (by omega), if_pos trivial]
  have h1 : y.heap[w.heap.size + 1]? = some lit55 := by
    rw [e]
    simp only [Array.getElem?_push, Array.size_push]
    rw [if_neg (by omega), if_neg (by omega), if_neg (by omega), if_neg (by omega), if_pos trivial]
  have h3 : y.heap[w.heap.size + 1 + 1 + 1]? = some lit0 := by
    rw [e]
    simp only [Array.getElem?_push, Array.size_push]
    rw [if_neg (by omega), if_neg (by omega), if_pos trivial]
  have h4 : y.heap[w.heap.size + 1 + 1 + 1 + 1]? = some lit5 := by
    rw [e]
    simp only [Array.getElem?_push, Array.size_push]
    rw [if_neg (by omega), if_pos trivial]
  have h5 : y.heap[w.heap.size + 1 + 1 + 1 + 1 + 1]? = some (rows7 w.heap.size) := by
    rw [e]
    simp only [Array.getElem?_push, Array.size_push]
    rw [if_pos trivial]
  have c : ∀ i v, (#[Value.slice none 0 0, .slice (some ⟨w.heap.size, 0, none⟩) 1 1, .slice none 0 0, .slice (some ⟨w.heap.size + 1, 0, none⟩) 2 2, .slice (some ⟨w.heap.size + 1 + 1, 0, none⟩) 0 0, .slice (some ⟨w.heap.size + 1 + 1 + 1, 0, none⟩) 1 1, .slice (some ⟨w.heap.size + 1 + 1 + 1 + 1, 0, none⟩) 1 1] : Array Value)[i]? = some v → y.cell? ⟨w.heap.size + 1 + 1 + 1 + 1 + 1, i, none⟩ = some v := fun i v hv => by
    rw [cell_of_row y _ i _ _ _ h5]
    exact hv
  have bN : Bs y (some ⟨w.heap.size + 1 + 1, 0, none⟩) 0 [] := bs_row ⟨fun x hx => by simp at hx, fun h => by simp at h⟩ ⟨by decide, by decide⟩
  refine ⟨fun _ => ⟨_, 0, rfl, lt_of_block h5, fun r hr => ?_⟩, hb5⟩
  have h6 : r = 0 ∨ r = 1 ∨ r = 2 ∨ r = 3 ∨ r = 4 ∨ r = 5 ∨ r = 6 := by
    unfold R7 at hr
    simp at hr
    omega
  rcases h6 with rfl | rfl | rfl | rfl | rfl | rfl | rfl
  · exact ⟨_, _, c 0 _ rfl, bs_none y⟩
  · exact ⟨_, _, c 1 _ rfl, bs_row (bat_row (l := [5]) h0 byt5) ⟨by decide, by decide⟩⟩
  · exact ⟨_, _, c 2 _ rfl, bs_none y⟩
  · exact ⟨_, _, c 3 _ rfl, bs_row (bat_row (l := [5, 5]) h1 (fun x hx => by simp at hx; omega)) ⟨by decide, by decide⟩⟩
  · exact ⟨_, _, c 4 _ rfl, bN⟩
  · exact ⟨_, _, c 5 _ rfl, bs_row (bat_row (l := [0]) h3 (fun x hx => by simp at hx; omega)) ⟨by decide, by decide⟩⟩
  · exact ⟨_, _, c 6 _ rfl, bs_row (bat_row (l := [5]) h4 byt5) ⟨by decide, by decide⟩⟩
end Go.Proofs.Ytdmnlooghamngaa

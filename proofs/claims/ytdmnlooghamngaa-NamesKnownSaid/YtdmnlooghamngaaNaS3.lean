/-
  The reference: New; what turns where the reference remembers.
-/
import Derived.Test.YtdmnlooghamngaaNaS2
import Derived.Deep.RegionLaw
namespace Go.Proofs.Ytdmnlooghamngaa
open Go.RowKit

/-- Of what was there only block gr and one row may have turned. -/
structure Eff (gr : Nat) (row : Option Nat) (w y : World) : Prop where
  os : y.os = w.os
  tape : y.tape = w.tape
  output : y.output = w.output
  size : w.heap.size ≤ y.heap.size
  block : ∀ k, k < w.heap.size → k ≠ gr → some k ≠ row → y.heap[k]? = w.heap[k]?
theorem Eff.of_below {gr : Nat} {row : Option Nat} {w y : World} (h : Below w.heap.size w y) : Eff gr row w y := ⟨h.os, h.tape, h.output, h.size, fun k hk _ _ => h.block k hk⟩
theorem Eff.trans {gr : Nat} {row : Option Nat} {w x y : World} (h : Eff gr row w x) (k : Eff gr row x y) : Eff gr row w y :=
  ⟨k.os.trans h.os, k.tape.trans h.tape, k.output.trans h.output, Nat.le_trans h.size k.size, fun i hi h1 h2 => (k.block i (Nat.lt_of_lt_of_le hi h.size) h1 h2).trans (h.block i hi h1 h2)⟩
theorem Eff.of_grown {gr : Nat} {row : Option Nat} {w y : World} (h : w.grownBy y row) : Eff gr row w y := ⟨h.os, h.tape, h.output, h.size, fun k hk _ h2 => h.block k hk h2⟩
theorem Eff.of_chg {gr : Nat} {row : Option Nat} {w y : World} (h : Chg gr w y) : Eff gr row w y := ⟨h.os, h.tape, h.output, by rw [h.size]; exact Nat.le_refl _, fun k _ h1 _ => h.block k h1⟩
theorem Eff.drew {gr : Nat} {row : Option Nat} {w y : World} (h : Eff gr row w y) : Eff gr row w y.drew := ⟨h.os, h.tape, h.output, h.size, h.block⟩
/-- Where both are new, nothing that was there has turned. -/
theorem Eff.below {gr B : Nat} {row : Option Nat} {w0 w y : World} (h : Eff gr row w y) (hb : Below B w0 w) (hg : B ≤ gr) (hr : ∀ k, row = some k → B ≤ k) (hB : B ≤ w.heap.size) : Below B w0 y :=
  hb.trans ⟨h.os, h.tape, h.output, h.size, fun k hk => h.block k (by omega) (by omega) (fun e => by have := hr k e.symm; omega)⟩
/-- A row of the call's own stays where its block stays. -/
theorem own_keepB {w y : World} {B e s n : Nat} {v : Value} {xs : List Value} (h : w.ownsRow B e s v n xs) (hk : ∀ g, v.ownBlock = some g → y.heap[g]? = w.heap[g]?) : y.ownsRow B e s v n xs := by
  refine ⟨h.1, ?_⟩
  rcases h.2 with h1 | ⟨g, cap, cur, h1, h2, h3, h4⟩
  · exact Or.inl h1
  · exact Or.inr ⟨g, cap, cur, h1, h2, (hk g (by rw [h1]; rfl)).trans h3, h4⟩
theorem own_type {w : World} {B e s n : Nat} {v : Value} {xs : List Value} (h : w.ownsRow B e s v n xs) : ∀ g, v.ownBlock = some g → B ≤ g ∧ ∃ cur, w.heap[g]? = some (.cells cur e (0, 0)) := by
  intro g hg
  rcases h.2 with ⟨h1, _⟩ | ⟨q, cap, cur, h1, h2, h3, h4⟩
  · rw [h1] at hg; cases hg
  · rw [h1] at hg; cases hg; exact ⟨h2, cur, h3⟩
theorem SAt.keep {B : Nat} {w y : World} {v : Value} {S : List Nm.Four} (h : SAt B w v S) (ho : ∀ g, v.ownBlock = some g → y.heap[g]? = w.heap[g]?) (hk : ∀ g cur, w.heap[g]? = some (.cells cur 5 (0, 0)) → B ≤ g → y.heap[g]? = w.heap[g]?) : SAt B y v S := by
  obtain ⟨xs, h1, h2⟩ := h
  have hb : ∀ (n : Nat) (u : Value) (ys : List Value), w.ownsRow B 5 1 u n ys → y.ownsRow B 5 1 u n ys := fun n u ys hu => own_keepB hu (fun g hg => by
    obtain ⟨h3, cur, h4⟩ := own_type hu g hg
    exact hk g cur h4 h3)
  exact ⟨xs, own_keepB h1 ho, fun j x hx => by
    obtain ⟨ph, ch, pp, cp, a, b, c, d, e, f⟩ := h2 j x hx
    exact ⟨ph, ch, pp, cp, a, b, c, d, hb _ _ _ e, hb _ _ _ f⟩⟩
theorem Got.keep {B k : Nat} {w y : World} {v : Value} {Q : Nat → List Int} (h : Got B w v k Q) (ho : ∀ g, v.ownBlock = some g → y.heap[g]? = w.heap[g]?) (hk : ∀ g cur, w.heap[g]? = some (.cells cur 5 (0, 0)) → B ≤ g → y.heap[g]? = w.heap[g]?) : Got B y v k Q := by
  obtain ⟨xs, h1, h2⟩ := h
  have hb : ∀ (n : Nat) (u : Value) (ys : List Value), w.ownsRow B 5 1 u n ys → y.ownsRow B 5 1 u n ys := fun n u ys hu => own_keepB hu (fun g hg => by
    obtain ⟨h3, cur, h4⟩ := own_type hu g hg
    exact hk g cur h4 h3)
  exact ⟨xs, own_keepB h1 ho, fun j hj => by
    obtain ⟨p, m, c, h3, h4, h5⟩ := h2 j hj
    exact ⟨p, m, c, h3, h4, hb _ _ _ h5⟩⟩
theorem SAt.type {B : Nat} {w : World} {v : Value} {S : List Nm.Four} (h : SAt B w v S) : ∀ g, v.ownBlock = some g → B ≤ g ∧ ∃ cur, w.heap[g]? = some (.cells cur 72 (0, 0)) := by
  obtain ⟨xs, h1, _⟩ := h
  exact own_type h1
theorem Got.type {B k : Nat} {w : World} {v : Value} {Q : Nat → List Int} (h : Got B w v k Q) : ∀ g, v.ownBlock = some g → B ≤ g ∧ ∃ cur, w.heap[g]? = some (.cells cur 30 (0, 0)) := by
  obtain ⟨xs, h1, _⟩ := h
  exact own_type h1

theorem own_one {w : World} {B e s n : Nat} {v : Value} {xs ys : List Value} (h : w.ownsRow B e s v n xs) (k : w.ownsRow B e s v n ys) : xs = ys := by
  rcases h.2 with ⟨h1, h2⟩ | ⟨g, cap, cur, h1, _, h3, _, _, _, h4⟩
  · have a := h.1
    have b := k.1
    rw [h2, Nat.zero_mul] at a b
    rw [List.eq_nil_of_length_eq_zero a, List.eq_nil_of_length_eq_zero b]
  · rcases k.2 with ⟨k1, k2⟩ | ⟨g', cap', cur', k1, _, k3, _, _, _, k4⟩
    · rw [h1] at k1; cases k1
    · rw [h1] at k1
      cases k1
      rw [h3] at k3
      cases k3
      rw [← h4, ← k4]
/-- A row, and the rows that it holds, lie in no block of E. -/
def Av (E : List Nat) (y : World) (B e s n : Nat) (v : Value) : Prop :=
  (∀ g, v.ownBlock = some g → g ∉ E) ∧ ∀ xs, y.ownsRow B e s v n xs → ∀ u ∈ xs, ∀ g, u.ownBlock = some g → g ∉ E
theorem Av.keep {E : List Nat} {w y : World} {B e s n : Nat} {v : Value} {xs : List Value} (h : Av E w B e s n v) (ho : w.ownsRow B e s v n xs) (hy : y.ownsRow B e s v n xs) : Av E y B e s n v :=
  ⟨h.1, fun ys hys u hu => h.2 xs ho u (own_one hy hys ▸ hu)⟩
theorem Av.append {E : List Nat} {w y : World} {B e s n m : Nat} {v v' : Value} {xs news : List Value} (h : Av E w B e s n v) (ho : w.ownsRow B e s v n xs) (hy : y.ownsRow B e s v' m (xs ++ news)) (hv : ∀ g, v'.ownBlock = some g → g ∉ E) (hn : ∀ u ∈ news, ∀ g, u.ownBlock = some g → g ∉ E) : Av E y B e s m v' :=
  ⟨hv, fun ys hys u hu => by
    rw [← own_one hy hys] at hu
    rcases List.mem_append.1 hu with h1 | h1
    · exact h.2 xs ho u h1
    · exact hn u h1⟩
/-- Nothing of the reference's lies in a block of E. -/
def RefE (E : List Nat) (y : World) (B gr : Nat) (v1 v2 : Value) (S : Nm.St) : Prop :=
  gr ∉ E ∧ Av E y B 72 4 S.ss.length v1 ∧ Av E y B 30 1 S.ts.length v2
theorem RefE.keep {E : List Nat} {w y : World} {B gr : Nat} {v1 v2 : Value} {S : Nm.St} (h : RefE E w B gr v1 v2 S) (hr : RefAt w B gr v1 v2 S) (h1 : ∀ g, v1.ownBlock = some g → y.heap[g]? = w.heap[g]?) (h2 : ∀ g, v2.ownBlock = some g → y.heap[g]? = w.heap[g]?) : RefE E y B gr v1 v2 S := by
  obtain ⟨xs, a, _⟩ := hr.ss
  obtain ⟨ys, b, _⟩ := hr.ts
  exact ⟨h.1, h.2.1.keep a (own_keepB a h1), h.2.2.keep b (own_keepB b h2)⟩
theorem RefE.old {E : List Nat} {w y : World} {B gr : Nat} {v1 v2 : Value} {S : Nm.St} (h : RefE E w B gr v1 v2 S) (hr : RefAt w B gr v1 v2 S) (hb : Below w.heap.size w y) : RefE E y B gr v1 v2 S :=
  h.keep hr (fun g hg => by obtain ⟨_, cur, h2⟩ := hr.ss.type g hg; exact hb.block _ (lt_of_block h2)) (fun g hg => by obtain ⟨_, cur, h2⟩ := hr.ts.type g hg; exact hb.block _ (lt_of_block h2))
/-- Blocks that are new are apart from all of it. -/
theorem RefAt.fresh {E : List Nat} {w : World} {B gr : Nat} {v1 v2 : Value} {S : Nm.St} (hr : RefAt w B gr v1 v2 S) (hE : ∀ q ∈ E, w.heap.size ≤ q) : RefE E w B gr v1 v2 S := by
  have hlt : ∀ q, q < w.heap.size → q ∉ E := fun q hq he => by have := hE q he; omega
  have hb : ∀ {n m c : Nat} {p : Option Addr} {l : List Value}, w.ownsRow B 5 1 (.slice p n c) m l → ∀ g, (Value.slice p n c).ownBlock = some g → g ∉ E := fun h g hg => by
    obtain ⟨_, cur, h2⟩ := own_type h g hg
    exact hlt g (lt_of_block h2)
  refine ⟨hlt gr (lt_of_block hr.row), ⟨fun g hg => by obtain ⟨_, cur, h2⟩ := hr.ss.type g hg; exact hlt g (lt_of_block h2), fun xs hxs u hu g hg => ?_⟩, ⟨fun g hg => by obtain ⟨_, cur, h2⟩ := hr.ts.type g hg; exact hlt g (lt_of_block h2), fun xs hxs u hu g hg => ?_⟩⟩
  · obtain ⟨zs, a, b⟩ := hr.ss
    obtain rfl := own_one a hxs
    obtain ⟨i, hi⟩ := List.getElem?_of_mem hu
    have hil := (List.getElem?_eq_some_iff.1 hi).1
    have hxl : zs.length = S.ss.length * 4 := a.1
    obtain ⟨x, hx⟩ : ∃ x, S.ss[i / 4]? = some x := ⟨S.ss[i / 4]'(by omega), List.getElem?_eq_getElem _⟩
    obtain ⟨ph, ch, pp, cp, a1, a2, a3, a4, a5, a6⟩ := b _ x hx
    have h4 : i = i / 4 * 4 ∨ i = i / 4 * 4 + 1 ∨ i = i / 4 * 4 + 2 ∨ i = i / 4 * 4 + 3 := by omega
    rcases h4 with e | e | e | e <;> rw [e] at hi
    · rw [a1] at hi; cases hi; cases hg
    · rw [a2] at hi; cases hi; cases hg
    · rw [a3] at hi; cases hi; exact hb a5 g hg
    · rw [a4] at hi; cases hi; exact hb a6 g hg
  · obtain ⟨zs, a, b⟩ := hr.ts
    obtain rfl := own_one a hxs
    obtain ⟨i, hi⟩ := List.getElem?_of_mem hu
    have hil := (List.getElem?_eq_some_iff.1 hi).1
    have hxl : zs.length = S.ts.length * 1 := a.1
    obtain ⟨p, m, c, b1, b2, b3⟩ := b i (by omega)
    rw [b1] at hi
    cases hi
    exact hb b3 g hg
/-- A block of E may turn. -/
theorem RefAt.turn {E : List Nat} {w y : World} {B gr q : Nat} {v1 v2 : Value} {S : Nm.St} (hr : RefAt w B gr v1 v2 S) (he : RefE E w B gr v1 v2 S) (hq : q ∈ E) (ho : Only q w y) : RefAt y B gr v1 v2 S := by
  have hne : ∀ g cur (e : TypeId), w.heap[g]? = some (.cells cur e (0, 0)) → g ∉ E → y.heap[g]? = w.heap[g]? := fun g cur e h1 h2 => ho.block g (lt_of_block h1) (fun h => h2 (h ▸ hq))
  have hb : ∀ {n m c : Nat} {p : Option Addr} {l : List Value}, w.ownsRow B 5 1 (.slice p n c) m l → (∀ g, (Value.slice p n c).ownBlock = some g → g ∉ E) → y.ownsRow B 5 1 (.slice p n c) m l := fun h k => own_keepB h (fun g hg => by
    obtain ⟨_, cur, h2⟩ := own_type h g hg
    exact hne g cur _ h2 (k g hg))
  refine ⟨(hne gr _ _ hr.row he.1).trans hr.row, ?_, ?_, hr.byt, hr.one, hr.base⟩
  · obtain ⟨zs, a, b⟩ := hr.ss
    refine ⟨zs, own_keepB a (fun g hg => by obtain ⟨_, cur, h2⟩ := own_type a g hg; exact hne g cur _ h2 (he.2.1.1 g hg)), fun j x hx => ?_⟩
    obtain ⟨ph, ch, pp, cp, a1, a2, a3, a4, a5, a6⟩ := b _ x hx
    exact ⟨ph, ch, pp, cp, a1, a2, a3, a4, hb a5 (he.2.1.2 zs a _ (List.mem_of_getElem? a3)), hb a6 (he.2.1.2 zs a _ (List.mem_of_getElem? a4))⟩
  · obtain ⟨zs, a, b⟩ := hr.ts
    refine ⟨zs, own_keepB a (fun g hg => by obtain ⟨_, cur, h2⟩ := own_type a g hg; exact hne g cur _ h2 (he.2.2.1 g hg)), fun j hj => ?_⟩
    obtain ⟨p, m, c, b1, b2, b3⟩ := b j hj
    exact ⟨p, m, c, b1, b2, hb b3 (he.2.2.2 zs a _ (List.mem_of_getElem? b1))⟩

set_option maxRecDepth 100000 in
theorem refnew_any (w : World) : Calls Try.prog 12 #[] w fun e w' => ∃ gr, e = .returned (.pointer (some ⟨gr, 0, none⟩)) ∧ Hid (w.heap.size ≤ gr) ∧ Hid (RefAt w' w.heap.size gr (.slice none 0 0) (.slice none 0 0) Nm.St.none) ∧ Below w.heap.size w w' := by
  have h1 : Hid (RefAt (w.alloc (.cells #[.slice none 0 0, .slice none 0 0] 65)) w.heap.size w.heap.size (.slice none 0 0) (.slice none 0 0) Nm.St.none) := by
    refine ⟨heap_alloc_new w _, ⟨[], World.ownsRow_nil _ _ _ _, fun j x hx => by simp [Nm.St.none] at hx⟩, got_nil _ _ _, ⟨fun x hx => by simp [Nm.St.none] at hx, fun t ht => by simp [Nm.St.none] at ht⟩, ⟨List.nodup_nil, List.nodup_nil⟩, Nat.le_refl _⟩
  go_enter Try.func12, Try.ntmps12
  go_wp2
  go_ret
  exact ⟨w.heap.size, rfl, Nat.le_refl _, h1, (Below.refl _ w).alloc (Nat.le_refl _) _⟩

theorem Try.infoSealed : (Try.prog.info? 72).map (fun i => (i.zero, i.size, i.bytes)) = some (some (.agg #[.int .i64 0, .int .i64 0, .slice none 0 0, .slice none 0 0]), 4, 64) := by kernel_rfl
/-- append of one Sealed, as a step of a region that draws. -/
theorem step_append_seal {ops : Array Oper} {o : Oper} {a : Act} {w : World} {K : Act → World → Prop} {Q : Exit → Act → World → Prop} {E : Prop} (hgd : o.guard = none) (s x : Operand) (hop : o.op = .call { callee := .builtin .append, args := #[s, x], argTypes := #[63, 63] }) (B : Nat) (v : Value) (S : List Nm.Four) (z : Nm.Four) (q : Nat) (ph pp : Option Addr) (ch cp : Nat)
    (hs : a.eval s = v) (hx : a.eval x = .slice (some ⟨q, 0, none⟩) 1 1) (hg : SAt B w v S) (hc : w.heap[q]? = some (.cells #[.int .i64 z.1, .int .i64 z.2.1, .slice ph z.2.2.1.length ch, .slice pp z.2.2.2.length cp] 72 (0, 0)))
    (hh : w.ownsRow B 5 1 (.slice ph z.2.2.1.length ch) z.2.2.1.length (U8s z.2.2.1)) (hp : w.ownsRow B 5 1 (.slice pp z.2.2.2.length cp) z.2.2.2.length (U8s z.2.2.2)) (hk : S.length ≤ 1000000) (hB : B ≤ w.heap.size)
    (h : ∀ v' w', SAt B w' v' (S ++ [z]) → w.grownBy w' v.ownBlock → (∀ E : List Nat, (∀ q ∈ E, q < w.heap.size) → Av E w B 72 4 S.length v → (∀ g, (Value.slice ph z.2.2.1.length ch).ownBlock = some g → g ∉ E) → (∀ g, (Value.slice pp z.2.2.2.length cp).ownBlock = some g → g ∉ E) → Av E w' B 72 4 (S.length + 1) v') → K (a.put o.dst v') w') :
    if Region.wanted o (yielded ops a.tmps) = true then Oper.wp Try.prog o a w K Q else E := by
  rw [if_pos (by simp [Region.wanted, hgd])]
  obtain ⟨i0, hi, hz0, hz1, hz2⟩ := info_parts Try.infoSealed
  obtain ⟨xs, h1, h2⟩ := hg
  obtain ⟨v', w', hr, ho, hgr, _, hpl⟩ := run_append_own_at (P := Try.prog) w B 63 o.type 72 i0 (.agg #[.int .i64 0, .int .i64 0, .slice none 0 0, .slice none 0 0]) 4 64 Try.underlying63 hi hz0 hz1 hz2 rfl (by decide) v S.length xs h1 ⟨q, 0, none⟩ 1 1 [.int .i64 z.1, .int .i64 z.2.1, .slice ph z.2.2.1.length ch, .slice pp z.2.2.2.length cp] rfl (fun j u hj => by
    have hq : ((⟨q, 0, none⟩ : Addr).add j) = ⟨q, j, none⟩ := by simp [Addr.add]; try omega
    rw [hq, cell_of_row w q j _ _ _ hc]
    simpa only [List.getElem?_toArray] using hj) (fun u hu => by
    simp at hu
    rcases hu with rfl | rfl | rfl | rfl <;> rfl) (by unfold maxLen; omega) (by omega) hB
  unfold Oper.wp execOp
  simp only [hop, resolve, invoke, builtin, Sem.run_bind, Sem.run_pure, Result.andThen_ok, List.map_toArray, List.map_cons, List.map_nil, hs, hx, hr]
  have hne : ∀ (n : Nat) (u : Value) (ys : List Value), w.ownsRow B 5 1 u n ys → ∀ g, u.ownBlock = some g → some g ≠ v.ownBlock := fun n u ys hu => own_apart hu h1 (by decide)
  have hxl : xs.length = S.length * 4 := h1.1
  refine h v' w' ⟨_, by rw [List.length_append]; exact ho, fun j y hy => ?_⟩ hgr (fun E hE hA he1 he2 => hA.append h1 ho (fun g hg => ?_) (fun u hu g hg => ?_))
  rotate_left
  · rcases hpl with e | e
    · exact hA.1 g (e ▸ hg)
    · rw [e] at hg
      cases hg
      exact fun he => Nat.lt_irrefl _ (hE _ he)
  · simp at hu
    rcases hu with rfl | rfl | rfl | rfl
    · cases hg
    · cases hg
    · exact he1 g hg
    · exact he2 g hg
  · by_cases hjk : j < S.length
    · rw [List.getElem?_append_left hjk] at hy
      obtain ⟨p1, c1, p2, c2, a1, a2, a3, a4, a5, a6⟩ := h2 j y hy
      exact ⟨p1, c1, p2, c2, by rw [List.getElem?_append_left (by omega)]; exact a1, by rw [List.getElem?_append_left (by omega)]; exact a2, by rw [List.getElem?_append_left (by omega)]; exact a3, by rw [List.getElem?_append_left (by omega)]; exact a4, own_grown a5 hgr (hne _ _ _ a5), own_grown a6 hgr (hne _ _ _ a6)⟩
    · have hjl := (List.getElem?_eq_some_iff.1 hy).1
      rw [List.length_append, List.length_singleton] at hjl
      obtain rfl : j = S.length := by omega
      rw [List.getElem?_append_right (Nat.le_refl _)] at hy
      simp at hy
      subst hy
      exact ⟨ph, ch, pp, cp, by rw [List.getElem?_append_right (by omega), hxl]; simp, by rw [List.getElem?_append_right (by omega), hxl, show S.length * 4 + 1 - S.length * 4 = 1 by omega]; rfl, by rw [List.getElem?_append_right (by omega), hxl, show S.length * 4 + 2 - S.length * 4 = 2 by omega]; rfl, by rw [List.getElem?_append_right (by omega), hxl, show S.length * 4 + 3 - S.length * 4 = 3 by omega]; rfl, own_grown hh hgr (hne _ _ _ hh), own_grown hp hgr (hne _ _ _ hp)⟩
/-- The reference where one more is sealed. -/
theorem RefAt.sealed {w y z : World} {B gr : Nat} {v1 v2 v' : Value} {S : Nm.St} {x : Nm.Four} (h : RefAt w B gr v1 v2 S) (hs : SAt B y v' (S.ss ++ [x])) (hg : w.grownBy y v1.ownBlock) (hc : Chg gr y z) (hz : z.heap[gr]? = some (.cells #[v', v2] 65 (0, 0)))
    (hb : Sha.Byt x.2.2.1 ∧ Sha.Byt x.2.2.2) (hn : x ∉ S.ss) : RefAt z B gr v' v2 ⟨S.ss ++ [x], S.ts⟩ := by
  have t1 := h.ss.type
  have t2 := h.ts.type
  have t3 := hs.type
  have hgy : y.heap[gr]? = w.heap[gr]? := hg.block gr (lt_of_block h.row) (fun e => by
    obtain ⟨_, cur, h2⟩ := t1 gr e.symm
    rw [h.row] at h2
    cases h2)
  have hne : ∀ (g : Nat) (cur : Array Value) (e : TypeId), y.heap[g]? = some (.cells cur e (0, 0)) → e ≠ 65 → g ≠ gr := fun g cur e h2 h3 h4 => by
    rw [h4, hgy, h.row] at h2
    cases h2
    exact h3 rfl
  have hne' : ∀ (g : Nat) (cur : Array Value) (e : TypeId), w.heap[g]? = some (.cells cur e (0, 0)) → e ≠ 72 → some g ≠ v1.ownBlock := fun g cur e h2 h3 h4 => by
    obtain ⟨_, cur', h5⟩ := t1 g h4.symm
    rw [h5] at h2
    cases h2
    exact h3 rfl
  have hts : Got B y v2 S.ts.length (fun j => S.ts.getD j []) := h.ts.keep (fun g hg' => by
    obtain ⟨_, cur, h2⟩ := t2 g hg'
    exact hg.block g (lt_of_block h2) (hne' g cur _ h2 (by decide))) (fun g cur h2 _ => hg.block g (lt_of_block h2) (hne' g cur _ h2 (by decide)))
  refine ⟨hz, hs.keep (fun g hg' => ?_) (fun g cur h2 _ => hc.block g (hne g cur _ h2 (by decide))), hts.keep (fun g hg' => ?_) (fun g cur h2 _ => hc.block g (hne g cur _ h2 (by decide))), ⟨fun u hu => ?_, h.byt.2⟩, ⟨?_, h.one.2⟩, h.base⟩
  · obtain ⟨_, cur, h2⟩ := t3 g hg'
    exact hc.block g (hne g cur _ h2 (by decide))
  · obtain ⟨_, cur, h2⟩ := hts.type g hg'
    exact hc.block g (hne g cur _ h2 (by decide))
  · rcases List.mem_append.1 hu with h2 | h2
    · exact h.byt.1 u h2
    · obtain rfl := List.mem_singleton.1 h2
      exact hb
  · exact List.nodup_append.2 ⟨h.one.1, by simp, fun a ha b hb' e => by
      obtain rfl := List.mem_singleton.1 hb'
      exact hn (e ▸ ha)⟩
theorem RefE.sealed {E : List Nat} {w y z : World} {B gr : Nat} {v1 v2 v' : Value} {S : Nm.St} {x : Nm.Four} (he : RefE E w B gr v1 v2 S) (h : RefAt w B gr v1 v2 S) (hs : SAt B y v' (S.ss ++ [x])) (ha : Av E y B 72 4 (S.ss.length + 1) v') (hg : w.grownBy y v1.ownBlock) (hc : Chg gr y z) : RefE E z B gr v' v2 ⟨S.ss ++ [x], S.ts⟩ := by
  have t1 := h.ss.type
  have t2 := h.ts.type
  have hgy : y.heap[gr]? = w.heap[gr]? := hg.block gr (lt_of_block h.row) (fun e => by
    obtain ⟨_, cur, h2⟩ := t1 gr e.symm
    rw [h.row] at h2
    cases h2)
  have hne : ∀ (g : Nat) (cur : Array Value) (e : TypeId), y.heap[g]? = some (.cells cur e (0, 0)) → e ≠ 65 → g ≠ gr := fun g cur e h2 h3 h4 => by
    rw [h4, hgy, h.row] at h2
    cases h2
    exact h3 rfl
  have hne' : ∀ (g : Nat) (cur : Array Value) (e : TypeId), w.heap[g]? = some (.cells cur e (0, 0)) → e ≠ 72 → some g ≠ v1.ownBlock := fun g cur e h2 h3 h4 => by
    obtain ⟨_, cur', h5⟩ := t1 g h4.symm
    rw [h5] at h2
    cases h2
    exact h3 rfl
  obtain ⟨xs, a, _⟩ := hs
  obtain ⟨ys, b, _⟩ := h.ts
  have hl : (S.ss ++ [x]).length = S.ss.length + 1 := by simp
  refine ⟨he.1, ?_, ?_⟩
  · show Av E z B _ 4 (S.ss ++ [x]).length v'
    rw [← hl] at ha
    exact ha.keep a (own_keepB a (fun g hg' => by
      obtain ⟨_, cur, h2⟩ := own_type a g hg'
      exact hc.block g (hne g cur _ h2 (by decide))))
  · have hb : y.ownsRow B 30 1 v2 S.ts.length ys := own_keepB b (fun g hg' => by
      obtain ⟨_, cur, h2⟩ := own_type b g hg'
      exact hg.block g (lt_of_block h2) (hne' g cur _ h2 (by decide)))
    exact he.2.2.keep b (own_keepB hb (fun g hg' => by
      obtain ⟨_, cur, h2⟩ := own_type hb g hg'
      exact hc.block g (hne g cur _ h2 (by decide))))
end Go.Proofs.Ytdmnlooghamngaa

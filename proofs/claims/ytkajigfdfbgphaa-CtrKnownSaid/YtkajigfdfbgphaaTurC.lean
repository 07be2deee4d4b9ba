/-
  Own rows of bytes; the reference's Table.
-/
import Derived.Test.YtkajigfdfbgphaaTurB
import Derived.Test.YtkajigfdfbgphaaAesK
import Derived.OwnWalk
import Derived.BigRegion
import Derived.StillTailTactics
namespace Go.Proofs.Ytkajigfdfbgphaa
open Go.RowKit

/-- Behind an append of one element onto a row of the call's own. -/
theorem below_own {B : Nat} {w wr w1 : World} {v : Value} {n : Nat} {xs : List Value} {o : Obj} {e : TypeId} (hB : Below B w wr) (hs : B ≤ wr.heap.size) (hown : wr.ownsRow B e 1 v n xs) (hg : (wr.alloc o).grownBy w1 v.ownBlock) : Below B w w1 :=
  (hB.alloc hs o).grown hg (by simp; omega) (fun j hj => (hown.lt j hj).1)
def U8s (l : List Int) : List Value := l.map (Value.int .u8)
theorem U8s_nil : U8s [] = [] := rfl
theorem U8s_snoc (l : List Int) (x : Int) : U8s l ++ [.int .u8 x] = U8s (l ++ [x]) := by simp [U8s]
theorem u8_oneX (x : Int) : ∀ u ∈ [Value.int .u8 x], u.oneCell' = true := by
  intro u hu; simp at hu; subst hu; rfl
theorem u8_cell1 (w : World) (x : Int) (e : TypeId) : ∀ j u, [Value.int .u8 x][j]? = some u → (w.alloc (.cells #[.int .u8 x] e)).cell? (Addr.add ⟨w.heap.size, 0, none⟩ j) = some u := by
  intro j u hj
  match j, hj with
  | 0, hj => simp at hj; subst hj; simp [Addr.add]
theorem own_some {w : World} {B n s : Nat} {v : Value} {e : TypeId} {xs : List Value} (h : w.ownsRow B e s v n xs) (hn : 0 < n) : ∃ g c, v = .slice (some ⟨g, 0, none⟩) n c := by
  rcases h.2 with ⟨_, h0⟩ | ⟨g, cap, cur, rfl, _⟩
  · omega
  · exact ⟨g, cap, rfl⟩
theorem own_keepX {w w' : World} {B n : Nat} {v : Value} {xs : List Value} {e : TypeId} {s : Nat} (h : w.ownsRow B e s v n xs) (hb : Below w.heap.size w w') : w'.ownsRow B e s v n xs := by
  refine ⟨h.1, ?_⟩
  rcases h.2 with h' | ⟨g, cap, cur, hv, q0, q1, q2⟩
  · exact Or.inl h'
  · exact Or.inr ⟨g, cap, cur, hv, q0, (hb.block _ (lt_of_block q1)).trans q1, q2⟩
theorem u8_at {w : World} {B n g c : Nat} {l : List Int} (h : w.ownsRow B 5 1 (.slice (some ⟨g, 0, none⟩) n c) n (U8s l)) (j : Nat) (hj : j < n) : w.cell? ⟨g, j, none⟩ = some (.int .u8 (l.getD j 0)) := by
  have hl : (U8s l).length = n := by have := h.1; simpa using this
  rw [h.cellAt j (by omega)]
  unfold U8s at *
  simp only [List.length_map] at hl
  rw [List.getElem?_map, List.getElem?_eq_getElem (by omega), List.getD_eq_getElem?_getD, List.getElem?_eq_getElem (by omega)]
  rfl
attribute [irreducible] U8s
/-- An append onto a row of the call's own, as one step of a region that draws. -/
theorem step_append_own {P : Program} {ops : Array Oper} {o : Oper} {a : Act} {w : World} {K : Act → World → Prop} {Q : Exit → Act → World → Prop} {E : Prop}
    (hg : o.guard = none) (s x : Operand) (t : TypeId) (hop : o.op = Op.call { callee := Callee.builtin Builtin.append, args := #[s, x], argTypes := #[t, t] })
    (base : Nat) (e : TypeId) (i : TypeInfo) (z : Value) (size bytes : Nat) (h1 : P.underlying t = some (.slice e)) (h2 : P.info? e = some i) (h3 : i.zero = some z) (h4 : i.size = size) (h5 : i.bytes = bytes) (h6 : z.cells.size = size) (h7 : 0 < size)
    (v : Value) (n : Nat) (xs : List Value) (hs : a.eval s = v) (hown : w.ownsRow base e size v n xs)
    (ad : Addr) (m c : Nat) (news : List Value) (hx : a.eval x = .slice (some ad) m c) (hn : news.length = m * size) (hc : ∀ j u, news[j]? = some u → w.cell? (ad.add j) = some u) (h1c : ∀ u ∈ news, u.oneCell' = true)
    (b1 : n + m ≤ maxLen) (b2 : (n + m) * bytes ≤ 140737488355328) (b3 : base ≤ w.heap.size)
    (hK : ∀ v' w', w'.ownsRow base e size v' (n + m) (xs ++ news) → w.grownBy w' v.ownBlock → K (a.put o.dst v') w') :
    if Region.wanted o (yielded ops a.tmps) = true then Oper.wp P o a w K Q else E := by
  have hw : Region.wanted o (yielded ops a.tmps) = true := by simp [Region.wanted, hg]
  rw [if_pos hw]
  obtain ⟨v', w', hrun, r1, r2, _⟩ := run_append_own (P := P) w base t o.type e i z size bytes h1 h2 h3 h4 h5 h6 h7 v n xs hown ad m c news hn hc h1c b1 b2 b3
  unfold Oper.wp
  simp [execOp, hop, resolve, invoke, builtin, hs, hx, hrun, Result.andThen]
  exact hK v' w' r1 r2

theorem step_append_u8 {ops : Array Oper} {o : Oper} {a : Act} {K : Act → World → Prop} {Q : Exit → Act → World → Prop} {E : Prop} (w0 : World) (X : Int) 
    (s x : Operand) (base : Nat) (v : Value) (n : Nat) (l : List Int) (hg : o.guard = none) (hop : o.op = Op.call { callee := Callee.builtin Builtin.append, args := #[s, x], argTypes := #[22, 22] })
    (hs : a.eval s = v) (hx : a.eval x = .slice (some ⟨w0.heap.size, 0, none⟩) 1 1) (hown : w0.ownsRow base 5 1 v n (U8s l)) (hn : n ≤ 1000) (hb : base ≤ w0.heap.size)
    (hK : ∀ v' w', w'.ownsRow base 5 1 v' (n + 1) (U8s (l ++ [X])) → ((w0.alloc (.cells #[.int .u8 X] 5)).drew).grownBy w' v.ownBlock → K (a.put o.dst v') w') :
    if Region.wanted o (yielded ops a.tmps) = true then Oper.wp Try.prog o a (w0.alloc (.cells #[.int .u8 X] 5)).drew K Q else E := by
  obtain ⟨i0, hi, hz0, hz1, hz2⟩ := info_parts Try.info_u8
  refine step_append_own hg s x 22 hop base 5 i0 (.int .u8 0) 1 1 Try.underlying22 hi hz0 hz1 hz2 rfl (by decide) v n (U8s l) hs (hown.alloc _).drew ⟨w0.heap.size, 0, none⟩ 1 1 [.int .u8 X] hx rfl ?_ (u8_oneX X) (by unfold maxLen; omega) (by omega) (by show _ ≤ (w0.alloc _).heap.size; simp; omega) ?_
  · intro j u hj
    match j, hj with
    | 0, hj => simp at hj; subst hj; exact u8_cell1 w0 X 5 0 _ rfl
  · intro v' w' h1 h2
    rw [U8s_snoc] at h1
    exact hK v' w' h1 h2
theorem below_own' {B : Nat} {w wr w1 : World} {v : Value} {n : Nat} {xs : List Value} {o : Obj} {e : TypeId} (hB : Below B w wr) (hs : B ≤ wr.heap.size) (hown : wr.ownsRow B e 1 v n xs) (hg : ((wr.alloc o).drew).grownBy w1 v.ownBlock) : Below B w w1 :=
  ((hB.alloc hs o).drew).grown hg (by show _ ≤ (wr.alloc o).heap.size; simp; omega) (fun j hj => (hown.lt j hj).1)


set_option maxHeartbeats 1000000 in
set_option maxRecDepth 100000 in
theorem table_ref (w : World) :
    Calls Try.prog 27 #[] w fun e w' => ∃ g c, e = .returned (.slice (some ⟨g, 0, none⟩) 256 c) ∧ w'.ownsRow w.heap.size 5 1 (.slice (some ⟨g, 0, none⟩) 256 c) 256 (U8s Aes.TB) ∧ Below w.heap.size w w' := by
  rw [Aes.TB_sfor]
  obtain ⟨i0, hi, hz0, hz1, hz2⟩ := info_parts Try.info_u8
  go_enter Try.func27, Try.ntmps27
  go_wp2
  go_loopw [1, 2] (fun v i wr => ∃ k : Nat, k ≤ 256 ∧ i = .int .i64 k ∧ Hid (wr.ownsRow w.heap.size 5 1 v k (U8s (Aes.sfor k))) ∧ Hid (Below w.heap.size w wr)) (fun _ i _ => 256 - (intOf i).toNat)
  case atStart => exact ⟨0, Nat.zero_le _, rfl, by unfold U8s Aes.sfor; exact World.ownsRow_nil _ _ _ _, Below.refl _ _⟩
  case round =>
    obtain ⟨k, hk, rfl, HO, HB⟩ := hrel
    by_cases hlt : k < 256
    · have hm : (k : Int) % 256 = k := by omega
      have HS := Lib.hid (Aes.sfor_succ k)
      go_wp2_with (first
        | (go_at_call 47; refine (S_ref k hlt _).mono ?_; rintro e w2 ⟨rfl, rfl⟩)
        | (at_builtin; refine wpList_append_own _ rfl _ _ 22 rfl w.heap.size 5 i0 (.int .u8 0) 1 1 Try.underlying22 hi hz0 hz1 hz2 rfl (by decide) _ _ _ rfl (HO.out.alloc _) ⟨w2.heap.size, 0, none⟩ 1 1 [.int .u8 (Aes.sb (Aes.inv k))] rfl rfl (u8_cell1 _ _ _) (u8_oneX _) (by unfold maxLen; omega) (by omega) (by have := HB.out.size; simp; omega) ?_)
        | go_in)
      intro v' w1 hown' hgrow _
      have hb1 := below_own HB.out (HB.out.size) HO.out hgrow
      rw [U8s_snoc, ← HS.out] at hown'
      clear hgrow HO HB
      go_wp2
      exact ⟨⟨k + 1, by omega, by go_num, hown', hb1⟩, by simp [intOf]; omega⟩
    · have E : k = 256 := by omega
      subst E
      obtain ⟨g, c, hv⟩ := own_some HO.out (by decide)
      subst hv
      have h256 : (256 : Int) ≤ ((256 : Nat) : Int) := by decide
      go_wp2
      go_ret
      exact ⟨g, c, rfl, HO.out, HB.out⟩

/-- A row of words, four bytes each, as the reference keeps them. -/
def Wrd (w : World) (wb n : Nat) (R : List Int) : Prop :=
  ∀ i, i < n → ∃ b c, w.cell? ⟨wb, i, none⟩ = some (.slice (some ⟨b, 0, none⟩) 4 c) ∧ ∀ j, j < 4 → w.cell? ⟨b, j, none⟩ = some (.int .u8 (R.getD (4 * i + j) 0))
/-- The reference's cipher in memory: its struct, its words, its table. -/
def RCiph (w : World) (g n : Nat) (R : List Int) : Prop :=
  ∃ wb wc tb tc, w.heap[g]? = some (.cells #[.slice (some ⟨wb, 0, none⟩) n wc, .slice (some ⟨tb, 0, none⟩) 256 tc] 60 (0, 0)) ∧ Wrd w wb n R ∧ ∀ j, j < 256 → w.cell? ⟨tb, j, none⟩ = some (.int .u8 (Aes.TB.getD j 0))
/-- A round key laid over a state. -/
def ovl (R S : List Int) (r : Nat) : Nat → List Int
  | 0 => []
  | k + 1 => ovl R S r k ++ [bits .xor .u8 (S.getD k 0) (R.getD (16 * r + k) 0)]

set_option maxHeartbeats 1000000 in
set_option maxRecDepth 100000 in
theorem over_ref (g n : Nat) (R S : List Int) (r : Nat) (hr : r < 15) (hn : 4 * r + 4 ≤ n) (hn2 : n ≤ 60) (sb sc : Nat) (w : World) (hC : RCiph w g n R) (hS : ∀ j, j < 16 → w.cell? ⟨sb, j, none⟩ = some (.int .u8 (S.getD j 0))) :
    Calls Try.prog 34 #[.pointer (some ⟨g, 0, none⟩), .slice (some ⟨sb, 0, none⟩) 16 sc, .int .i64 r] w fun e w' => ∃ g c, e = .returned (.slice (some ⟨g, 0, none⟩) 16 c) ∧ w'.ownsRow w.heap.size 5 1 (.slice (some ⟨g, 0, none⟩) 16 c) 16 (U8s (ovl R S r 16)) ∧ Below w.heap.size w w' := by
  obtain ⟨i0, hi, hz0, hz1, hz2⟩ := info_parts Try.info_u8
  have HC := Lib.hid hC; have HS := Lib.hid hS; clear hC hS
  go_enter Try.func34, Try.ntmps34
  go_wp2
  go_loopw [7, 8] (fun v i wr => ∃ k : Nat, k ≤ 16 ∧ i = .int .i64 k ∧ Hid (wr.ownsRow w.heap.size 5 1 v k (U8s (ovl R S r k))) ∧ Hid (Below w.heap.size w wr)) (fun _ i _ => 16 - (intOf i).toNat)
  case atStart => exact ⟨0, Nat.zero_le _, rfl, by unfold U8s ovl; exact World.ownsRow_nil _ _ _ _, Below.refl _ _⟩
  case round =>
    obtain ⟨k, hk, rfl, HO, HB⟩ := hrel
    by_cases hlt : k < 16
    · obtain ⟨q, t, hq, ht, rfl⟩ : ∃ q t : Nat, q < 4 ∧ t < 4 ∧ k = 4 * q + t := ⟨k / 4, k % 4, by omega, by omega, by omega⟩
      obtain ⟨wb, wc, tb, tc, h0, hW, _⟩ := HC.out
      obtain ⟨b, c, hc1, hc2⟩ := hW (4 * r + q) (by omega)
      have h3 := hc2 t ht
      have e0 := (show w.cell? ⟨g, 0, none⟩ = some (.slice (some ⟨wb, 0, none⟩) n wc) by rw [cell_of_row w g 0 _ _ _ h0]; rfl)
      have c0 := (HB.out.cell (World.block_lt_of_cell? w _ e0)).trans e0
      have c1 := (HB.out.cell (World.block_lt_of_cell? w _ hc1)).trans hc1
      have c2 := (HB.out.cell (World.block_lt_of_cell? w _ h3)).trans h3
      have h4 := HS.out (4 * q + t) hlt
      have c3 := (HB.out.cell (World.block_lt_of_cell? w _ h4)).trans h4
      have HX : Hid (ovl R S r (4 * q + t) ++ [bits .xor .u8 (S.getD (4 * q + t) 0) (R.getD (4 * (4 * r + q) + t) 0)] = ovl R S r (4 * q + t + 1)) := by
        show _ = _
        rw [ovl, show 16 * r + (4 * q + t) = 4 * (4 * r + q) + t by omega]
      clear h0 hW hc1 hc2 h3 e0 h4
      generalize S.getD (4 * q + t) 0 = y at *
      generalize R.getD (4 * (4 * r + q) + t) 0 = z at *
      have d1 : ((4 * (q : Int) + t).tdiv 4) = q := by rw [Int.tdiv_eq_ediv_of_nonneg (by omega)]; omega
      have d2 : ((4 * (q : Int) + t).tmod 4) = t := by rw [Int.tmod_eq_emod_of_nonneg (by omega)]; omega
      have d3 : IntKind.i64.wrap (4 * (r : Int)) = 4 * (r : Int) := IntWalk.i64_in _ ⟨by omega, by omega⟩
      have d4 : IntKind.i64.wrap (4 * (r : Int) + q) = 4 * (r : Int) + q := IntWalk.i64_in _ ⟨by omega, by omega⟩
      go_wp2
      have f1 : 0 ≤ 4 * (q : Int) + t := by omega
      have f2 : (4 * (q : Int) + t).toNat = 4 * q + t := by omega
      have f3 : IntKind.i64.wrap (q : Int) = q := IntWalk.i64_in _ ⟨by omega, by omega⟩
      have f4 : 0 ≤ 4 * (r : Int) + q := by omega
      have f5 : (4 * (r : Int) + q).toNat = 4 * r + q := by omega
      have f6 : 4 * (r : Int) + q < (n : Int) := by omega
      have f7 : 0 ≤ (t : Int) := by omega
      have f8 : (t : Int) < 4 := by omega
      have f9 : ((t : Int)).toNat = t := by omega
      have d0 : wr.drew.cell? ⟨g, 0, none⟩ = some (.slice (some ⟨wb, 0, none⟩) n wc) := c0
      have d5 : wr.drew.cell? ⟨wb, 4 * r + q, none⟩ = some (.slice (some ⟨b, 0, none⟩) 4 c) := c1
      have d6 : wr.drew.cell? ⟨b, t, none⟩ = some (.int .u8 z) := c2
      have d7 : wr.drew.cell? ⟨sb, 4 * q + t, none⟩ = some (.int .u8 y) := c3
      go_region_law ((with_reducible refine step_append_u8 wr _ (.tmp 13) (.tmp 34) w.heap.size u7 (4 * q + t) (ovl R S r (4 * q + t)) ?_ ?_ ?_ ?_ HO.out ?_ ?_ ?_); (exact rfl); (exact rfl); (exact rfl); (exact rfl); omega; (exact HB.out.size); intro v' w4 hown' hgrow; have hb1 := below_own' HB.out HB.out.size HO.out hgrow)
      all_goals
        rw [HX.out] at hown'
        clear hgrow HO HB HX
        go_wp2
        exact ⟨⟨4 * q + t + 1, by omega, by go_num, hown', hb1⟩, by simp [intOf]; omega⟩
    · have E : k = 16 := by omega
      subst E
      obtain ⟨g, c, hv⟩ := own_some HO.out (by decide)
      subst hv
      have h16 : (16 : Int) ≤ ((16 : Nat) : Int) := by decide
      go_wp2
      go_ret
      exact ⟨g, c, rfl, HO.out, HB.out⟩
end Go.Proofs.Ytkajigfdfbgphaa

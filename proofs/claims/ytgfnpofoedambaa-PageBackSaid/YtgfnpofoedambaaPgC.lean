/-
  Contracts: mayBe, Right.
-/
import Derived.Test.YtgfnpofoedambaaPgB
namespace Go.Proofs.Ytgfnpofoedambaa
open Go.RowKit

section
variable {P : Program} {ops : Array Oper} {rest : List Oper} {a : Act} {w : World} {Q : Exit → Act → World → Prop} {D : Option Tmp} {T : TypeId} {ps : String} {af : Array Edge} {gd : Option (Nat × Bool)}
theorem exec_build0 (t : TypeId) (R : Array Value) (hr : P.built t [] = some R) : (execOp a.eval { dst := D, op := .build t #[], type := T, pos := ps, after := af, guard := gd }).run P w = .ok (.value (.agg R)) w := by
  have hrun := run_build (P := P) w t #[] R hr
  unfold execOp
  simp only [List.map_toArray, List.map_nil, hrun, Sem.run_bind, Sem.run_pure, Result.andThen_ok]
theorem row_build0 (t : TypeId) (R : Array Value) (hr : P.built t [] = some R) (h : wpList P ops Q rest (a.put D (.agg R)) w) :
    wpList P ops Q ({ dst := D, op := .build t #[], type := T, pos := ps, after := af, guard := none } :: rest) a w :=
  wpList_plain rfl fun K hK => by
    have hrun := run_build (P := P) w t #[] R hr
    unfold Oper.wp execOp
    simp only [List.map_toArray, List.map_nil, hrun, Sem.run_bind, Sem.run_pure, Result.andThen_ok]
    exact hK _ _ h
theorem row_build0_g (t : TypeId) (R : Array Value) (hw : Region.wanted { dst := D, op := .build t #[], type := T, pos := ps, after := af, guard := gd } (yielded ops a.tmps) = true) (hr : P.built t [] = some R) (h : wpList P ops Q rest (a.put D (.agg R)) w) :
    wpList P ops Q ({ dst := D, op := .build t #[], type := T, pos := ps, after := af, guard := gd } :: rest) a w :=
  BigFrame.wpList_want hw fun K hK => by
    have hrun := run_build (P := P) w t #[] R hr
    unfold Oper.wp execOp
    simp only [List.map_toArray, List.map_nil, hrun, Sem.run_bind, Sem.run_pure, Result.andThen_ok]
    exact hK _ _ h
theorem rng_load_g (ty : TypeId) (x : Operand) (b o : Nat) (A : Array Value) (d : TypeDesc) (hw : Region.wanted { dst := D, op := .load ty x, type := T, pos := ps, after := af, guard := gd } (yielded ops a.tmps) = true)
    (hx : a.eval x = .pointer (some ⟨b, o, none⟩)) (hc : w.rangeAt b o A.toList)
    (hu : P.underlying ty = some d) (hd : d.isRow = true) (hi : (P.info? ty).map (·.size) = some A.size)
    (h : wpList P ops Q rest (a.put D (.agg A)) w) : wpList P ops Q ({ dst := D, op := .load ty x, type := T, pos := ps, after := af, guard := gd } :: rest) a w :=
  BigFrame.wpList_want hw fun K hK => wp_load_mid ty x rfl b o hx A.toList d hc hu hd (by simpa using hi) (hK _ _ (by simpa using h))
theorem row_load_g (ty : TypeId) (x : Operand) (g : Nat) (t : TypeId) (cs : Array Value) (fr : Nat × Nat) (d : TypeDesc) (hw : Region.wanted { dst := D, op := .load ty x, type := T, pos := ps, after := af, guard := gd } (yielded ops a.tmps) = true)
    (hx : a.eval x = .pointer (some ⟨g, 0, none⟩)) (hg : w.heap[g]? = some (.cells cs t fr))
    (hu : P.underlying ty = some d) (hd : d.isRow = true) (hi : (P.info? ty).map (·.size) = some cs.size)
    (h : wpList P ops Q rest (a.put D (.agg cs)) w) : wpList P ops Q ({ dst := D, op := .load ty x, type := T, pos := ps, after := af, guard := gd } :: rest) a w :=
  rng_load_g ty x g 0 cs d hw hx (fun j v hv => by rw [cell_of_row w g (0 + j) _ _ _ hg, Nat.zero_add]; simpa using hv) hu hd hi h
end
def BoSay (b : Bool) (w : World) (e : Ending) (w' : World) : Prop := e = .returned (.bool b) ∧ Hid (Below w.heap.size w w')
/-- A ref as the calls below meet it: an opaque row, its number, held against the zero one. -/
structure RfK (r : Pg.Rf) (A Z : Array Value) : Prop where
  size : A.size = 33
  one : A.all (·.oneCell') = true
  first : A[0]? = some (.int .i64 r.1)
  eqz : ∀ y, (Op.equalIn 10000 25 (.agg A) (.agg Z)).run Try.prog y = .ok (decide (r = Pg.zr)) y
  built : Try.prog.built 25 [] = some Z
theorem rfk {r : Pg.Rf} (h : Pg.Ok r) : ∃ A Z : Array Value, R33 r = .agg A ∧ RfK r A Z := by
  refine ⟨(cl r).toArray, (cl Pg.zr).toArray, by unfold R33 cl; rfl, by rw [List.size_toArray, cl_len h], all_oneCell_toArray (cl_one r), by unfold cl; rfl, fun y => ?_, Try.builtRef⟩
  have h2 := ref_eq h Pg.ok_zr y
  unfold R33 at h2
  unfold cl
  exact h2
theorem mb_eq (r : Pg.Rf) : Pg.mb r = (decide (r = Pg.zr) || (decide (3 ≤ r.1) && decide (r.1 ≤ 4095))) := by unfold Pg.mb; rfl
set_option maxRecDepth 100000 in
theorem maybe_any (r : Pg.Rf) (h : Pg.Ok r) (w : World) : Calls Try.prog 36 #[R33 r] w (BoSay (Pg.mb r) w) := by
  obtain ⟨A, Z, e33, hk⟩ := rfk h
  have HM := Lib.hid (mb_eq r)
  rw [e33, HM.out]
  have HAS := Lib.hid hk.size
  have hsz := row_size Try.sizeRef HAS
  have h1 := hk.one
  have heq := hk.eqz
  have HZ := Lib.hid hk.built
  have R0 : Hid ((w.alloc (.cells A 25)).heap[w.heap.size]? = some (.cells A 25 (0, 0))) := heap_alloc_new w _
  have B0 : Hid (Below w.heap.size w (w.alloc (.cells A 25))) := (Below.refl _ w).alloc (Nat.le_refl _) _
  have c0 : (w.alloc (.cells A 25)).cell? ⟨w.heap.size, 0, none⟩ = some (.int .i64 r.1) := by rw [cell_of_row _ _ 0 _ _ _ R0.out]; exact hk.first
  clear hk HM e33 h
  obtain ⟨k, S⟩ := r
  by_cases hz : (k, S) = Pg.zr
  · have hd : decide ((k, S) = Pg.zr) = true := decide_eq_true hz
    rw [hd, Bool.true_or]
    simp only [hd] at heq
    clear hz hd
    go_enter Try.func36, Try.ntmps36
    go_wp2_with (first
      | ((with_reducible refine row_load _ _ _ _ _ _ _ ?_ R0.out Try.underlying25 ?_ hsz ?_); (exact rfl); (exact rfl))
      | ((with_reducible refine row_build0 _ _ HZ.out ?_)))
    go_ret
    exact ⟨rfl, B0.out⟩
  · have hd : decide ((k, S) = Pg.zr) = false := decide_eq_false hz
    rw [hd, Bool.false_or]
    simp only [hd] at heq
    clear hz hd
    dsimp only at c0 ⊢
    by_cases h3 : 3 ≤ k
    · have hd3 : decide (3 ≤ k) = true := decide_eq_true h3
      rw [hd3, Bool.true_and]
      have h3' : k ≥ 3 := h3
      clear hd3
      by_cases h4 : k < 4096
      · have hd4 : decide (k ≤ 4095) = true := decide_eq_true (by omega)
        rw [hd4]
        clear hd4 h3
        go_enter Try.func36, Try.ntmps36
        go_wp2_with (first
          | ((with_reducible refine row_load _ _ _ _ _ _ _ ?_ R0.out Try.underlying25 ?_ hsz ?_); (exact rfl); (exact rfl))
          | ((with_reducible refine row_build0 _ _ HZ.out ?_)))
        go_ret
        exact ⟨rfl, B0.out⟩
      · have hd4 : decide (k ≤ 4095) = false := decide_eq_false (by omega)
        rw [hd4]
        clear hd4 h3
        go_enter Try.func36, Try.ntmps36
        go_wp2_with (first
          | ((with_reducible refine row_load _ _ _ _ _ _ _ ?_ R0.out Try.underlying25 ?_ hsz ?_); (exact rfl); (exact rfl))
          | ((with_reducible refine row_build0 _ _ HZ.out ?_)))
        go_ret
        exact ⟨rfl, B0.out⟩
    · have hd3 : decide (3 ≤ k) = false := decide_eq_false h3
      rw [hd3, Bool.false_and]
      have h3' : ¬ k ≥ 3 := h3
      clear hd3 h3
      go_enter Try.func36, Try.ntmps36
      go_wp2_with (first
        | ((with_reducible refine row_load _ _ _ _ _ _ _ ?_ R0.out Try.underlying25 ?_ hsz ?_); (exact rfl); (exact rfl))
        | ((with_reducible refine row_build0 _ _ HZ.out ?_)))
      go_ret
      exact ⟨rfl, B0.out⟩
set_option maxRecDepth 100000 in
theorem right_any (r : Pg.Rf) (h : Pg.Ok r) (w : World) : Calls Try.prog 39 #[R33 r] w (BoSay (Pg.mb r) w) := by
  obtain ⟨A, Z, e33, hk⟩ := rfk h
  have HM := Lib.hid (mb_eq r)
  rw [e33, HM.out]
  have HAS := Lib.hid hk.size
  have hsz := row_size Try.sizeRef HAS
  have h1 := hk.one
  have heq := hk.eqz
  have HZ := Lib.hid hk.built
  have R0 : Hid ((w.alloc (.cells A 25)).heap[w.heap.size]? = some (.cells A 25 (0, 0))) := heap_alloc_new w _
  have B0 : Hid (Below w.heap.size w (w.alloc (.cells A 25))) := (Below.refl _ w).alloc (Nat.le_refl _) _
  have c0 : (w.alloc (.cells A 25)).cell? ⟨w.heap.size, 0, none⟩ = some (.int .i64 r.1) := by rw [cell_of_row _ _ 0 _ _ _ R0.out]; exact hk.first
  clear hk HM e33 h
  obtain ⟨k, S⟩ := r
  by_cases hz : (k, S) = Pg.zr
  · have hd : decide ((k, S) = Pg.zr) = true := decide_eq_true hz
    rw [hd, Bool.true_or]
    simp only [hd] at heq
    clear hz hd
    go_enter Try.func39, Try.ntmps39
    go_wp2_with (first
      | ((with_reducible refine row_load _ _ _ _ _ _ _ ?_ R0.out Try.underlying25 ?_ hsz ?_); (exact rfl); (exact rfl))
      | ((with_reducible refine row_build0 _ _ HZ.out ?_)))
    go_ret
    exact ⟨rfl, B0.out⟩
  · have hd : decide ((k, S) = Pg.zr) = false := decide_eq_false hz
    rw [hd, Bool.false_or]
    simp only [hd] at heq
    clear hz hd
    dsimp only at c0 ⊢
    by_cases h3 : 3 ≤ k
    · have hd3 : decide (3 ≤ k) = true := decide_eq_true h3
      rw [hd3, Bool.true_and]
      have h3' : k ≥ 3 := h3
      clear hd3
      by_cases h4 : k ≤ 4095
      · have hd4 : decide (k ≤ 4095) = true := decide_eq_true (by omega)
        rw [hd4]
        clear hd4 h3
        go_enter Try.func39, Try.ntmps39
        go_wp2_with (first
          | ((with_reducible refine row_load _ _ _ _ _ _ _ ?_ R0.out Try.underlying25 ?_ hsz ?_); (exact rfl); (exact rfl))
          | ((with_reducible refine row_build0 _ _ HZ.out ?_)))
        go_ret
        exact ⟨rfl, B0.out⟩
      · have hd4 : decide (k ≤ 4095) = false := decide_eq_false (by omega)
        rw [hd4]
        clear hd4 h3
        go_enter Try.func39, Try.ntmps39
        go_wp2_with (first
          | ((with_reducible refine row_load _ _ _ _ _ _ _ ?_ R0.out Try.underlying25 ?_ hsz ?_); (exact rfl); (exact rfl))
          | ((with_reducible refine row_build0 _ _ HZ.out ?_)))
        go_ret
        exact ⟨rfl, B0.out⟩
    · have hd3 : decide (3 ≤ k) = false := decide_eq_false h3
      rw [hd3, Bool.false_and]
      have h3' : ¬ k ≥ 3 := h3
      clear hd3 h3
      go_enter Try.func39, Try.ntmps39
      go_wp2_with (first
        | ((with_reducible refine row_load _ _ _ _ _ _ _ ?_ R0.out Try.underlying25 ?_ hsz ?_); (exact rfl); (exact rfl))
        | ((with_reducible refine row_build0 _ _ HZ.out ?_)))
      go_ret
      exact ⟨rfl, B0.out⟩
end Go.Proofs.Ytgfnpofoedambaa

/-
  Contracts: within, isNumber, isPlace, isRoot, mayBe, home.
-/
import Derived.Test.YtjnepegohfhgiaaRgB
namespace Go.Proofs.Ytjnepegohfhgiaa
open Go.RowKit

section
variable {P : Program} {ops : Array Oper} {rest : List Oper} {a : Act} {w : World} {Q : Exit → Act → World → Prop} {D : Option Tmp} {T : TypeId} {ps : String} {af : Array Edge} {gd : Option (Nat × Bool)}
theorem exec_build0 (t : TypeId) (R : Array Value) (hr : P.built t [] = some R) : (execOp a.eval { dst := D, op := .build t #[], type := T, pos := ps, after := af, guard := gd }).run P w = .ok (.value (.agg R)) w := by
  have hrun := run_build (P := P) w t #[] R hr
  unfold execOp
  simp only [List.map_toArray, List.map_nil, hrun, Sem.run_bind, Sem.run_pure, Result.andThen_ok]
theorem row_build0 (t : TypeId) (R : Array Value) (hr : P.built t [] = some R) (h : wpList P ops Q rest (a.put D (.agg R)) w) :
    wpList P ops Q ({ dst := D, op := .build t #[], type := T, pos := ps, after := af, guard := none } :: rest) a w :=
  wpList_plain rfl fun K hK => by
    have hrun := run_build (P := P) w t #[] R hr
    unfold Oper.wp execOp
    simp only [List.map_toArray, List.map_nil, hrun, Sem.run_bind, Sem.run_pure, Result.andThen_ok]
    exact hK _ _ h
theorem row_build0_g (t : TypeId) (R : Array Value) (hw : Region.wanted { dst := D, op := .build t #[], type := T, pos := ps, after := af, guard := gd } (yielded ops a.tmps) = true) (hr : P.built t [] = some R) (h : wpList P ops Q rest (a.put D (.agg R)) w) :
    wpList P ops Q ({ dst := D, op := .build t #[], type := T, pos := ps, after := af, guard := gd } :: rest) a w :=
  BigFrame.wpList_want hw fun K hK => by
    have hrun := run_build (P := P) w t #[] R hr
    unfold Oper.wp execOp
    simp only [List.map_toArray, List.map_nil, hrun, Sem.run_bind, Sem.run_pure, Result.andThen_ok]
    exact hK _ _ h
theorem rng_load_g (ty : TypeId) (x : Operand) (b o : Nat) (A : Array Value) (d : TypeDesc) (hw : Region.wanted { dst := D, op := .load ty x, type := T, pos := ps, after := af, guard := gd } (yielded ops a.tmps) = true)
    (hx : a.eval x = .pointer (some ⟨b, o, none⟩)) (hc : w.rangeAt b o A.toList)
    (hu : P.underlying ty = some d) (hd : d.isRow = true) (hi : (P.info? ty).map (·.size) = some A.size)
    (h : wpList P ops Q rest (a.put D (.agg A)) w) : wpList P ops Q ({ dst := D, op := .load ty x, type := T, pos := ps, after := af, guard := gd } :: rest) a w :=
  BigFrame.wpList_want hw fun K hK => wp_load_mid ty x rfl b o hx A.toList d hc hu hd (by simpa using hi) (hK _ _ (by simpa using h))
theorem row_load_g (ty : TypeId) (x : Operand) (g : Nat) (t : TypeId) (cs : Array Value) (fr : Nat × Nat) (d : TypeDesc) (hw : Region.wanted { dst := D, op := .load ty x, type := T, pos := ps, after := af, guard := gd } (yielded ops a.tmps) = true)
    (hx : a.eval x = .pointer (some ⟨g, 0, none⟩)) (hg : w.heap[g]? = some (.cells cs t fr))
    (hu : P.underlying ty = some d) (hd : d.isRow = true) (hi : (P.info? ty).map (·.size) = some cs.size)
    (h : wpList P ops Q rest (a.put D (.agg cs)) w) : wpList P ops Q ({ dst := D, op := .load ty x, type := T, pos := ps, after := af, guard := gd } :: rest) a w :=
  rng_load_g ty x g 0 cs d hw hx (fun j v hv => by rw [cell_of_row w g (0 + j) _ _ _ hg, Nat.zero_add]; simpa using hv) hu hd hi h
end
def BoSay (b : Bool) (w : World) (e : Ending) (w' : World) : Prop := e = .returned (.bool b) ∧ Hid (Below w.heap.size w w')

theorem bool_cases {P : Bool → Prop} (b : Bool) (ht : b = true → P true) (hf : b = false → P false) : P b := by cases b <;> simp_all
set_option maxRecDepth 100000 in
theorem within_any (v l m : Int) (w : World) : Calls Try.prog 89 #[.int .i64 v, .int .i64 l, .int .i64 m] w fun e w' => e = .returned (.bool (decide (l ≤ v) && decide (v ≤ m))) ∧ w = w' := by
  by_cases h1 : v ≥ l
  · by_cases h2 : v ≤ m
    · rw [decide_eq_true (show l ≤ v from h1), decide_eq_true h2]
      go_enter Try.func89, Try.ntmps89
      go_wp2
      go_ret
      exact ⟨rfl, rfl⟩
    · rw [decide_eq_true (show l ≤ v from h1), decide_eq_false h2]
      go_enter Try.func89, Try.ntmps89
      go_wp2
      go_ret
      exact ⟨rfl, rfl⟩
  · rw [decide_eq_false (show ¬ l ≤ v from h1), Bool.false_and]
    go_enter Try.func89, Try.ntmps89
    go_wp2
    go_ret
    exact ⟨rfl, rfl⟩
theorem num_eq (n : Int) : Rg.num n = (decide (1 ≤ n) && decide (n ≤ 1099511627776)) := by unfold Rg.num; rfl
theorem plc_eq (s l : Int) : Rg.plc s l = ((decide (0 ≤ s) && decide (s ≤ 31)) && (decide (0 ≤ l) && decide (l ≤ 63))) := by unfold Rg.plc; rfl
theorem root_eq (r : Int × List Int) : Rg.root r = (decide (r = Rg.zr) || (decide (3 ≤ r.1) && decide (r.1 ≤ 4095))) := by unfold Rg.root; rfl
theorem may_eq (r : Rg.R) : Rg.may r = (Rg.num r.gen && (Rg.num r.st && (Rg.num r.ep && (Rg.root r.rt && (Rg.plc r.bs r.bl && Rg.plc r.ts r.tl))))) := by unfold Rg.may; rfl
set_option maxRecDepth 100000 in
theorem rnum_any (n : Int) (w : World) : Calls Try.prog 70 #[.int .i64 n] w fun e w' => e = .returned (.bool (Rg.num n)) ∧ w = w' := by
  have HC : Hid (∀ y, Calls Try.prog 89 #[.int .i64 n, .int .i64 1, .int .i64 1099511627776] y fun e w' => e = .returned (.bool (Rg.num n)) ∧ y = w') := fun y => by rw [num_eq]; exact within_any n 1 1099511627776 y
  go_enter Try.func70, Try.ntmps70
  go_wp2_with (go_at_call 89; refine (HC.out _).mono ?_; rintro e1 w1 ⟨rfl, rfl⟩)
  go_ret
  exact ⟨rfl, rfl⟩
set_option maxRecDepth 100000 in
theorem rplace_any (s l : Int) (w : World) : Calls Try.prog 72 #[Pv s l] w (BoSay (Rg.plc s l) w) := by
  have HA : Hid (∀ y, Calls Try.prog 89 #[.int .i64 s, .int .i64 0, .int .i64 31] y fun e w' => e = .returned (.bool (decide (0 ≤ s) && decide (s ≤ 31))) ∧ y = w') := fun y => within_any s 0 31 y
  have HB : Hid (∀ y, Calls Try.prog 89 #[.int .i64 l, .int .i64 0, .int .i64 63] y fun e w' => e = .returned (.bool (decide (0 ≤ l) && decide (l ≤ 63))) ∧ y = w') := fun y => within_any l 0 63 y
  have B0 : Hid (Below w.heap.size w (w.alloc (.cells #[.int .i64 s, .int .i64 l] 27))) := (Below.refl _ w).alloc (Nat.le_refl _) _
  rw [plc_eq]
  generalize (decide (0 ≤ s) && decide (s ≤ 31)) = a at *
  generalize (decide (0 ≤ l) && decide (l ≤ 63)) = b at *
  cases a with
  | true =>
    go_enter Try.func72, Try.ntmps72
    go_wp2_with (first
      | (go_at_call 89; with_reducible refine (HA.out _).mono ?_; rintro e1 w1 ⟨rfl, rfl⟩)
      | (go_at_call 89; with_reducible refine (HB.out _).mono ?_; rintro e2 w2 ⟨rfl, rfl⟩))
    go_ret
    exact ⟨by first | rfl | simp, B0.out⟩
  | false =>
    go_enter Try.func72, Try.ntmps72
    go_wp2_with (go_at_call 89; refine (HA.out _).mono ?_; rintro e1 w1 ⟨rfl, rfl⟩)
    go_ret
    exact ⟨by first | rfl | simp, B0.out⟩
set_option maxRecDepth 100000 in
theorem rroot_any (r : Int × List Int) (hr : Rg.OkS r.2) (w : World) : Calls Try.prog 71 #[R33 r] w (BoSay (Rg.root r) w) := by
  obtain ⟨A, eA, HAS', h1⟩ := r33_agg r hr.1
  obtain ⟨Z, hZ⟩ : ∃ Z, (Value.int .i64 Rg.zr.1 :: u8v Rg.zr.2).toArray = Z := ⟨_, rfl⟩
  have heq : ∀ y, (Op.equalIn 10000 25 (.agg A) (.agg Z)).run Try.prog y = .ok (decide (r = Rg.zr)) y := fun y => by
    have h2 := ref_eqz hr y
    rw [hZ, eA] at h2
    exact h2
  have HZ := Lib.hid Try.builtRef
  rw [hZ] at HZ
  have HC : Hid (∀ y, Calls Try.prog 89 #[.int .i64 r.1, .int .i64 3, .int .i64 4095] y fun e w' => e = .returned (.bool (decide (3 ≤ r.1) && decide (r.1 ≤ 4095))) ∧ y = w') := fun y => within_any r.1 3 4095 y
  have HAS := Lib.hid HAS'
  have hsz := row_size Try.sizeRef HAS
  have R0 : Hid ((w.alloc (.cells A 25)).heap[w.heap.size]? = some (.cells A 25 (0, 0))) := heap_alloc_new w _
  have B0 : Hid (Below w.heap.size w (w.alloc (.cells A 25))) := (Below.refl _ w).alloc (Nat.le_refl _) _
  have c0 : (w.alloc (.cells A 25)).cell? ⟨w.heap.size, 0, none⟩ = some (.int .i64 r.1) := by
    rw [cell_of_row _ _ 0 _ _ _ R0.out]
    have h2 : R33 r = .agg A := eA
    unfold R33 at h2
    injection h2 with h2
    rw [← h2]; rfl
  rw [eA, root_eq]
  obtain ⟨k, S⟩ := r
  dsimp only at c0 HC ⊢
  generalize (decide (3 ≤ k) && decide (k ≤ 4095)) = b at *
  clear eA hZ HAS' hr
  cases hd : decide ((k, S) = Rg.zr) with
  | true =>
    rw [Bool.true_or]
    simp only [hd] at heq
    clear hd
    go_enter Try.func71, Try.ntmps71
    go_wp2_with (first
      | ((with_reducible refine row_load _ _ _ _ _ _ _ ?_ R0.out Try.underlying25 ?_ hsz ?_); (exact rfl); (exact rfl))
      | ((with_reducible refine row_build0 _ _ HZ.out ?_)))
    go_ret
    exact ⟨rfl, B0.out⟩
  | false =>
    rw [Bool.false_or]
    simp only [hd] at heq
    clear hd
    go_enter Try.func71, Try.ntmps71
    go_wp2_with (first
      | ((with_reducible refine row_load _ _ _ _ _ _ _ ?_ R0.out Try.underlying25 ?_ hsz ?_); (exact rfl); (exact rfl))
      | ((with_reducible refine row_build0 _ _ HZ.out ?_))
      | (go_at_call 89; refine (HC.out _).mono ?_; rintro e1 w1 ⟨rfl, rfl⟩))
    go_ret
    exact ⟨by first | rfl | simp, B0.out⟩
set_option maxHeartbeats 1000000 in
set_option maxRecDepth 100000 in
theorem maybe_any (r : Rg.R) (h : Rg.Ok r) (w : World) : Calls Try.prog 38 #[RV r] w (BoSay (Rg.may r) w) := by
  obtain ⟨A, SU, RT, B1, B2, eA, hk⟩ := rck h
  have H0 : Hid (∀ y, Calls Try.prog 70 #[.int .i64 r.gen] y fun e w' => e = .returned (.bool (Rg.num r.gen)) ∧ y = w') := fun y => rnum_any r.gen y
  have H1 : Hid (∀ y, Calls Try.prog 70 #[.int .i64 r.st] y fun e w' => e = .returned (.bool (Rg.num r.st)) ∧ y = w') := fun y => rnum_any r.st y
  have H2 : Hid (∀ y, Calls Try.prog 70 #[.int .i64 r.ep] y fun e w' => e = .returned (.bool (Rg.num r.ep)) ∧ y = w') := fun y => rnum_any r.ep y
  have H3 : Hid (∀ y, Calls Try.prog 71 #[.agg RT] y (BoSay (Rg.root r.rt) y)) := fun y => by rw [← hk.vals.2.1]; exact rroot_any r.rt h.rt.2 y
  have H4 : Hid (∀ y, Calls Try.prog 72 #[Pv r.bs r.bl] y (BoSay (Rg.plc r.bs r.bl) y)) := fun y => rplace_any r.bs r.bl y
  have H5 : Hid (∀ y, Calls Try.prog 72 #[Pv r.ts r.tl] y (BoSay (Rg.plc r.ts r.tl) y)) := fun y => rplace_any r.ts r.tl y
  obtain ⟨w0, hw0⟩ : ∃ x, x = w.alloc (.cells A 29) := ⟨_, rfl⟩
  have R0 : Hid (w0.heap[w.heap.size]? = some (.cells A 29 (0, 0))) := by rw [hw0]; exact heap_alloc_new w _
  have B0 : Hid (Below w.heap.size w w0) := by rw [hw0]; exact (Below.refl _ w).alloc (Nat.le_refl _) _
  have BR : Hid (Below w0.heap.size w0 w0) := Below.refl _ _
  have HI : Hid (∀ y, Below w0.heap.size w0 y → _) := fun y hy => hk.ints y w.heap.size _ ((hy.block _ (lt_of_block R0.out)).trans R0.out)
  have RR : Hid (w0.rangeAt w.heap.size 35 RT.toList) := (hk.rngs w0 w.heap.size _ R0.out).2.1
  have RS : Hid (RT.size = 33) := hk.sizes.2.1
  obtain ⟨c0, c1, c2, _, _, _, _, _⟩ := HI.out _ BR.out
  have h1 := hk.one
  have HAS := Lib.hid hk.size
  rw [eA, may_eq]
  clear hk h eA
  obtain ⟨gen, st, ep, su, rt, bs, bl, ts, tl, b1, b2⟩ := r
  dsimp only at *
  generalize Rg.num gen = n0 at *
  generalize Rg.num st = n1 at *
  generalize Rg.num ep = n2 at *
  generalize Rg.root rt = n3 at *
  generalize Rg.plc bs bl = n4 at *
  generalize Rg.plc ts tl = n5 at *
  cases n0 with
  | false =>
    go_enter Try.func38, Try.ntmps38
    go_upto_region 1 with (fail)
    change Code.wp _ _ _ _ (w.alloc (.cells A 29))
    rw [← hw0]
    clear hw0
    go_wp2_with (first
          | (go_at_call 70; with_reducible refine (H0.out _).mono ?_; rintro e0 w0 ⟨rfl, rfl⟩)
          | (go_at_call 70; with_reducible refine (H1.out _).mono ?_; rintro e1 w1 ⟨rfl, rfl⟩)
          | (go_at_call 70; with_reducible refine (H2.out _).mono ?_; rintro e2 w2 ⟨rfl, rfl⟩)
          | ((with_reducible refine rng_load_g _ _ w.heap.size 35 RT _ ?_ ?_ RR.out Try.underlying25 ?_ (row_size Try.sizeRef RS) ?_); (exact rfl); (go_simp); (exact rfl))
          | (go_at_call 71; refine (H3.out _).mono ?_; rintro e3 w3 ⟨rfl, HB3⟩; have B3 := Lib.hid (BR.out.trans (HB3.out.mono (Nat.le_refl _))); obtain ⟨_, _, _, _, e68, e69, e70, e71⟩ := HI.out _ B3.out)
          | (go_at_call 72; have TT := B4.out; refine (H5.out _).mono ?_; rintro e5 w5 ⟨rfl, HB5⟩; have B5 := Lib.hid (B4.out.trans (HB5.out.mono B4.out.size)))
          | (go_at_call 72; have TT := B3.out; refine (H4.out _).mono ?_; rintro e4 w4 ⟨rfl, HB4⟩; have B4 := Lib.hid (B3.out.trans (HB4.out.mono B3.out.size)); obtain ⟨_, _, _, _, g68, g69, g70, g71⟩ := HI.out _ B4.out))
    go_ret
    exact ⟨by first | rfl | simp, B0.out⟩
  | true =>
    cases n1 with
    | false =>
      go_enter Try.func38, Try.ntmps38
      go_upto_region 1 with (fail)
      change Code.wp _ _ _ _ (w.alloc (.cells A 29))
      rw [← hw0]
      clear hw0
      go_wp2_with (first
            | (go_at_call 70; with_reducible refine (H0.out _).mono ?_; rintro e0 w0 ⟨rfl, rfl⟩)
            | (go_at_call 70; with_reducible refine (H1.out _).mono ?_; rintro e1 w1 ⟨rfl, rfl⟩)
            | (go_at_call 70; with_reducible refine (H2.out _).mono ?_; rintro e2 w2 ⟨rfl, rfl⟩)
            | ((with_reducible refine rng_load_g _ _ w.heap.size 35 RT _ ?_ ?_ RR.out Try.underlying25 ?_ (row_size Try.sizeRef RS) ?_); (exact rfl); (go_simp); (exact rfl))
            | (go_at_call 71; refine (H3.out _).mono ?_; rintro e3 w3 ⟨rfl, HB3⟩; have B3 := Lib.hid (BR.out.trans (HB3.out.mono (Nat.le_refl _))); obtain ⟨_, _, _, _, e68, e69, e70, e71⟩ := HI.out _ B3.out)
            | (go_at_call 72; have TT := B4.out; refine (H5.out _).mono ?_; rintro e5 w5 ⟨rfl, HB5⟩; have B5 := Lib.hid (B4.out.trans (HB5.out.mono B4.out.size)))
            | (go_at_call 72; have TT := B3.out; refine (H4.out _).mono ?_; rintro e4 w4 ⟨rfl, HB4⟩; have B4 := Lib.hid (B3.out.trans (HB4.out.mono B3.out.size)); obtain ⟨_, _, _, _, g68, g69, g70, g71⟩ := HI.out _ B4.out))
      go_ret
      exact ⟨by first | rfl | simp, B0.out⟩
    | true =>
      cases n2 with
      | false =>
        go_enter Try.func38, Try.ntmps38
        go_upto_region 1 with (fail)
        change Code.wp _ _ _ _ (w.alloc (.cells A 29))
        rw [← hw0]
        clear hw0
        go_wp2_with (first
              | (go_at_call 70; with_reducible refine (H0.out _).mono ?_; rintro e0 w0 ⟨rfl, rfl⟩)
              | (go_at_call 70; with_reducible refine (H1.out _).mono ?_; rintro e1 w1 ⟨rfl, rfl⟩)
              | (go_at_call 70; with_reducible refine (H2.out _).mono ?_; rintro e2 w2 ⟨rfl, rfl⟩)
              | ((with_reducible refine rng_load_g _ _ w.heap.size 35 RT _ ?_ ?_ RR.out Try.underlying25 ?_ (row_size Try.sizeRef RS) ?_); (exact rfl); (go_simp); (exact rfl))
              | (go_at_call 71; refine (H3.out _).mono ?_; rintro e3 w3 ⟨rfl, HB3⟩; have B3 := Lib.hid (BR.out.trans (HB3.out.mono (Nat.le_refl _))); obtain ⟨_, _, _, _, e68, e69, e70, e71⟩ := HI.out _ B3.out)
              | (go_at_call 72; have TT := B4.out; refine (H5.out _).mono ?_; rintro e5 w5 ⟨rfl, HB5⟩; have B5 := Lib.hid (B4.out.trans (HB5.out.mono B4.out.size)))
              | (go_at_call 72; have TT := B3.out; refine (H4.out _).mono ?_; rintro e4 w4 ⟨rfl, HB4⟩; have B4 := Lib.hid (B3.out.trans (HB4.out.mono B3.out.size)); obtain ⟨_, _, _, _, g68, g69, g70, g71⟩ := HI.out _ B4.out))
        go_ret
        exact ⟨by first | rfl | simp, B0.out⟩
      | true =>
        cases n3 with
        | false =>
          go_enter Try.func38, Try.ntmps38
          go_upto_region 1 with (fail)
          change Code.wp _ _ _ _ (w.alloc (.cells A 29))
          rw [← hw0]
          clear hw0
          go_wp2_with (first
                | (go_at_call 70; with_reducible refine (H0.out _).mono ?_; rintro e0 w0 ⟨rfl, rfl⟩)
                | (go_at_call 70; with_reducible refine (H1.out _).mono ?_; rintro e1 w1 ⟨rfl, rfl⟩)
                | (go_at_call 70; with_reducible refine (H2.out _).mono ?_; rintro e2 w2 ⟨rfl, rfl⟩)
                | ((with_reducible refine rng_load_g _ _ w.heap.size 35 RT _ ?_ ?_ RR.out Try.underlying25 ?_ (row_size Try.sizeRef RS) ?_); (exact rfl); (go_simp); (exact rfl))
                | (go_at_call 71; refine (H3.out _).mono ?_; rintro e3 w3 ⟨rfl, HB3⟩; have B3 := Lib.hid (BR.out.trans (HB3.out.mono (Nat.le_refl _))); obtain ⟨_, _, _, _, e68, e69, e70, e71⟩ := HI.out _ B3.out)
                | (go_at_call 72; have TT := B4.out; refine (H5.out _).mono ?_; rintro e5 w5 ⟨rfl, HB5⟩; have B5 := Lib.hid (B4.out.trans (HB5.out.mono B4.out.size)))
                | (go_at_call 72; have TT := B3.out; refine (H4.out _).mono ?_; rintro e4 w4 ⟨rfl, HB4⟩; have B4 := Lib.hid (B3.out.trans (HB4.out.mono B3.out.size)); obtain ⟨_, _, _, _, g68, g69, g70, g71⟩ := HI.out _ B4.out))
          go_ret
          exact ⟨by first | rfl | simp, B0.out.trans (B3.out.mono B0.out.size)⟩
        | true =>
          cases n4 with
          | false =>
            go_enter Try.func38, Try.ntmps38
            go_upto_region 1 with (fail)
            change Code.wp _ _ _ _ (w.alloc (.cells A 29))
            rw [← hw0]
            clear hw0
            go_wp2_with (first
                  | (go_at_call 70; with_reducible refine (H0.out _).mono ?_; rintro e0 w0 ⟨rfl, rfl⟩)
                  | (go_at_call 70; with_reducible refine (H1.out _).mono ?_; rintro e1 w1 ⟨rfl, rfl⟩)
                  | (go_at_call 70; with_reducible refine (H2.out _).mono ?_; rintro e2 w2 ⟨rfl, rfl⟩)
                  | ((with_reducible refine rng_load_g _ _ w.heap.size 35 RT _ ?_ ?_ RR.out Try.underlying25 ?_ (row_size Try.sizeRef RS) ?_); (exact rfl); (go_simp); (exact rfl))
                  | (go_at_call 71; refine (H3.out _).mono ?_; rintro e3 w3 ⟨rfl, HB3⟩; have B3 := Lib.hid (BR.out.trans (HB3.out.mono (Nat.le_refl _))); obtain ⟨_, _, _, _, e68, e69, e70, e71⟩ := HI.out _ B3.out)
                  | (go_at_call 72; have TT := B4.out; refine (H5.out _).mono ?_; rintro e5 w5 ⟨rfl, HB5⟩; have B5 := Lib.hid (B4.out.trans (HB5.out.mono B4.out.size)))
                  | (go_at_call 72; have TT := B3.out; refine (H4.out _).mono ?_; rintro e4 w4 ⟨rfl, HB4⟩; have B4 := Lib.hid (B3.out.trans (HB4.out.mono B3.out.size)); obtain ⟨_, _, _, _, g68, g69, g70, g71⟩ := HI.out _ B4.out))
            go_ret
            exact ⟨by first | rfl | simp, B0.out.trans (B4.out.mono B0.out.size)⟩
          | true =>
            go_enter Try.func38, Try.ntmps38
            go_upto_region 1 with (fail)
            change Code.wp _ _ _ _ (w.alloc (.cells A 29))
            rw [← hw0]
            clear hw0
            go_wp2_with (first
                  | (go_at_call 70; with_reducible refine (H0.out _).mono ?_; rintro e0 w0 ⟨rfl, rfl⟩)
                  | (go_at_call 70; with_reducible refine (H1.out _).mono ?_; rintro e1 w1 ⟨rfl, rfl⟩)
                  | (go_at_call 70; with_reducible refine (H2.out _).mono ?_; rintro e2 w2 ⟨rfl, rfl⟩)
                  | ((with_reducible refine rng_load_g _ _ w.heap.size 35 RT _ ?_ ?_ RR.out Try.underlying25 ?_ (row_size Try.sizeRef RS) ?_); (exact rfl); (go_simp); (exact rfl))
                  | (go_at_call 71; refine (H3.out _).mono ?_; rintro e3 w3 ⟨rfl, HB3⟩; have B3 := Lib.hid (BR.out.trans (HB3.out.mono (Nat.le_refl _))); obtain ⟨_, _, _, _, e68, e69, e70, e71⟩ := HI.out _ B3.out)
                  | (go_at_call 72; have TT := B4.out; refine (H5.out _).mono ?_; rintro e5 w5 ⟨rfl, HB5⟩; have B5 := Lib.hid (B4.out.trans (HB5.out.mono B4.out.size)))
                  | (go_at_call 72; have TT := B3.out; refine (H4.out _).mono ?_; rintro e4 w4 ⟨rfl, HB4⟩; have B4 := Lib.hid (B3.out.trans (HB4.out.mono B3.out.size)); obtain ⟨_, _, _, _, g68, g69, g70, g71⟩ := HI.out _ B4.out))
            go_ret
            exact ⟨by first | rfl | simp, B0.out.trans (B5.out.mono B0.out.size)⟩
set_option maxRecDepth 100000 in
theorem home_any (r : Rg.R) (h : Rg.Ok r) (w : World) : Calls Try.prog 59 #[RV r] w fun e w' => e = .returned (.int .i64 (Rg.home r)) ∧ Below w.heap.size w w' := by
  obtain ⟨A, SU, RT, B1, B2, eA, hk⟩ := rck h
  have R0 : Hid ((w.alloc (.cells A 29)).heap[w.heap.size]? = some (.cells A 29 (0, 0))) := heap_alloc_new w _
  have B0 : Hid (Below w.heap.size w (w.alloc (.cells A 29))) := (Below.refl _ w).alloc (Nat.le_refl _) _
  have c0 := (hk.ints _ w.heap.size _ R0.out).1
  have h1 := hk.one
  have HG := Lib.hid h.gen
  rw [eA]
  have e : Rg.home r = if r.gen % 2 = 0 then 1 else 2 := by unfold Rg.home; rfl
  rw [e]
  generalize r.gen = g at *
  clear hk h eA e
  have hw2 : Int.tmod g 2 = 0 ↔ g % 2 = 0 := ⟨fun q => Int.emod_eq_zero_of_dvd (Int.dvd_of_tmod_eq_zero q), fun q => Int.tmod_eq_zero_of_dvd (Int.dvd_of_emod_eq_zero q)⟩
  by_cases h2 : g % 2 = 0
  · rw [if_pos h2]
    have h3 : Int.tmod g 2 = 0 := hw2.2 h2
    go_enter Try.func59, Try.ntmps59
    go_wp2
    go_ret
    exact ⟨rfl, B0.out⟩
  · rw [if_neg h2]
    have h3 : ¬ Int.tmod g 2 = 0 := fun q => h2 (hw2.1 q)
    have h4 : (Int.tmod g 2 == 0) = false := by simpa using h3
    go_enter Try.func59, Try.ntmps59
    go_wp2
    go_ret
    exact ⟨rfl, B0.out⟩
end Go.Proofs.Ytjnepegohfhgiaa

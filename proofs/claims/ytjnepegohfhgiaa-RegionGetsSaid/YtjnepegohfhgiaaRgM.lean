/-
  Contracts: the reference's number, place, May.
-/
import Derived.Test.YtjnepegohfhgiaaRgE
namespace Go.Proofs.Ytjnepegohfhgiaa
open Go.RowKit

set_option maxRecDepth 100000 in
theorem fnum_any (n : Int) (w : World) : Calls Try.prog 74 #[.int .i64 n] w fun e w' => e = .returned (.bool (Rg.num n)) ∧ w = w' := by
  rw [num_eq]
  by_cases h1 : n ≥ 1
  · by_cases h2 : n ≤ 1099511627776
    · rw [decide_eq_true (show 1 ≤ n from h1), decide_eq_true h2]
      go_enter Try.func74, Try.ntmps74
      go_wp2
      go_ret
      exact ⟨rfl, rfl⟩
    · rw [decide_eq_true (show 1 ≤ n from h1), decide_eq_false h2]
      go_enter Try.func74, Try.ntmps74
      go_wp2
      go_ret
      exact ⟨rfl, rfl⟩
  · rw [decide_eq_false (show ¬ 1 ≤ n from h1), Bool.false_and]
    go_enter Try.func74, Try.ntmps74
    go_wp2
    go_ret
    exact ⟨rfl, rfl⟩
set_option maxRecDepth 100000 in
theorem fplace_any (s l : Int) (w : World) : Calls Try.prog 75 #[Pv s l] w (BoSay (Rg.plc s l) w) := by
  have B0 : Hid (Below w.heap.size w (w.alloc (.cells #[.int .i64 s, .int .i64 l] 27))) := (Below.refl _ w).alloc (Nat.le_refl _) _
  rw [plc_eq]
  have e : (decide (0 ≤ s) && decide (s ≤ 31) && (decide (0 ≤ l) && decide (l ≤ 63))) = (decide (0 ≤ s) && (decide (s < 32) && (decide (0 ≤ l) && decide (l < 64)))) := by
    have h1 : decide (s ≤ 31) = decide (s < 32) := by congr 1; simp; omega
    have h2 : decide (l ≤ 63) = decide (l < 64) := by congr 1; simp; omega
    rw [h1, h2, Bool.and_assoc]
  rw [e]
  clear e
  by_cases h1 : s ≥ 0
  · rw [decide_eq_true (show 0 ≤ s from h1), Bool.true_and]
    by_cases h2 : s < 32
    · rw [decide_eq_true h2, Bool.true_and]
      by_cases h3 : l ≥ 0
      · rw [decide_eq_true (show 0 ≤ l from h3), Bool.true_and]
        by_cases h4 : l < 64
        · rw [decide_eq_true h4]
          go_enter Try.func75, Try.ntmps75
          go_wp2
          go_ret
          exact ⟨rfl, B0.out⟩
        · rw [decide_eq_false h4]
          go_enter Try.func75, Try.ntmps75
          go_wp2
          go_ret
          exact ⟨rfl, B0.out⟩
      · rw [decide_eq_false (show ¬ 0 ≤ l from h3), Bool.false_and]
        go_enter Try.func75, Try.ntmps75
        go_wp2
        go_ret
        exact ⟨rfl, B0.out⟩
    · rw [decide_eq_false h2, Bool.false_and]
      go_enter Try.func75, Try.ntmps75
      go_wp2
      go_ret
      exact ⟨rfl, B0.out⟩
  · rw [decide_eq_false (show ¬ 0 ≤ s from h1), Bool.false_and]
    go_enter Try.func75, Try.ntmps75
    go_wp2
    go_ret
    exact ⟨rfl, B0.out⟩
theorem root_nil {r : Int × List Int} (h0 : r.1 = 0) (hr : r.2.length = 32) : ((∀ j, j < 32 → r.2.getD j 0 = 0) → Rg.root r = true) ∧ (∀ j, j < 32 → r.2.getD j 0 ≠ 0 → Rg.root r = false) := by
  rw [root_eq, decide_eq_false (show ¬ 3 ≤ r.1 by omega), Bool.false_and, Bool.or_false]
  obtain ⟨k, S⟩ := r
  constructor
  · intro h
    refine decide_eq_true ?_
    unfold Rg.zr Rg.z32
    refine Prod.ext h0 ?_
    apply List.ext_getElem (by rw [List.length_replicate]; exact hr)
    intro i h1 h2
    rw [List.getElem_replicate]
    have h3 := h i (by rw [← hr]; exact h1)
    rw [List.getD_eq_getElem?_getD, List.getElem?_eq_getElem h1] at h3
    exact h3
  · intro j hj hne
    refine decide_eq_false fun h => hne ?_
    have h2 : S = Rg.zr.2 := congrArg Prod.snd h
    unfold Rg.zr Rg.z32 at h2
    show S.getD j 0 = 0
    rw [h2, List.getD_eq_getElem?_getD, List.getElem?_replicate, if_pos hj]
    rfl
theorem root_at {r : Int × List Int} (h0 : r.1 ≠ 0) : Rg.root r = (decide (3 ≤ r.1) && decide (r.1 ≤ 4095)) := by
  rw [root_eq, decide_eq_false (fun h => h0 (by rw [h]; unfold Rg.zr; rfl)), Bool.false_or]
theorem may_ref (r : Rg.R) : Rg.may r = (Rg.num r.gen && (Rg.num r.st && (Rg.num r.ep && (Rg.plc r.bs r.bl && (Rg.plc r.ts r.tl && Rg.root r.rt))))) := by
  rw [may_eq]
  cases Rg.num r.gen <;> cases Rg.num r.st <;> cases Rg.num r.ep <;> cases Rg.root r.rt <;> cases Rg.plc r.bs r.bl <;> cases Rg.plc r.ts r.tl <;> rfl
set_option maxHeartbeats 4000000 in
set_option maxRecDepth 100000 in
theorem fmay_any (r : Rg.R) (h : Rg.Ok r) (w : World) : Calls Try.prog 42 #[RV r] w (BoSay (Rg.may r) w) := by
  obtain ⟨A, SU, RT, B1, B2, eA, hk⟩ := rck h
  have H0 : Hid (∀ y, Calls Try.prog 74 #[.int .i64 r.gen] y fun e w' => e = .returned (.bool (Rg.num r.gen)) ∧ y = w') := fun y => fnum_any r.gen y
  have H1 : Hid (∀ y, Calls Try.prog 74 #[.int .i64 r.st] y fun e w' => e = .returned (.bool (Rg.num r.st)) ∧ y = w') := fun y => fnum_any r.st y
  have H2 : Hid (∀ y, Calls Try.prog 74 #[.int .i64 r.ep] y fun e w' => e = .returned (.bool (Rg.num r.ep)) ∧ y = w') := fun y => fnum_any r.ep y
  have H4 : Hid (∀ y, Calls Try.prog 75 #[Pv r.bs r.bl] y (BoSay (Rg.plc r.bs r.bl) y)) := fun y => fplace_any r.bs r.bl y
  have H5 : Hid (∀ y, Calls Try.prog 75 #[Pv r.ts r.tl] y (BoSay (Rg.plc r.ts r.tl) y)) := fun y => fplace_any r.ts r.tl y
  obtain ⟨w0, hw0⟩ : ∃ x, x = w.alloc (.cells A 29) := ⟨_, rfl⟩
  have R0 : Hid (w0.heap[w.heap.size]? = some (.cells A 29 (0, 0))) := by rw [hw0]; exact heap_alloc_new w _
  have B0 : Hid (Below w.heap.size w w0) := by rw [hw0]; exact (Below.refl _ w).alloc (Nat.le_refl _) _
  have BR : Hid (Below w0.heap.size w0 w0) := Below.refl _ _
  have HR : Hid (∀ y, Below w0.heap.size w0 y → y.heap[w.heap.size]? = some (.cells A 29 (0, 0))) := fun y hy => (hy.block _ (lt_of_block R0.out)).trans R0.out
  have HI : Hid (∀ y, Below w0.heap.size w0 y → _) := fun y hy => hk.ints y w.heap.size _ (HR.out y hy)
  have HT : Hid (∀ y, Below w0.heap.size w0 y → ∀ k, k < 32 → y.cell? ⟨w.heap.size, 36 + k, none⟩ = some (.int .u8 (r.rt.2.getD k 0))) := fun y hy => hk.root y w.heap.size _ (HR.out y hy)
  have HL : Hid (∀ y, Below w0.heap.size w0 y → Below w.heap.size w y) := fun y hy => B0.out.trans (hy.mono B0.out.size)
  obtain ⟨c0, c1, c2, _, c68, c69, _, _⟩ := HI.out _ BR.out
  have h1 := hk.one
  have HAS := Lib.hid hk.size
  have HN0 : Hid (r.rt.1 = 0 → ((∀ j, j < 32 → r.rt.2.getD j 0 = 0) → Rg.root r.rt = true) ∧ (∀ j, j < 32 → r.rt.2.getD j 0 ≠ 0 → Rg.root r.rt = false)) := fun q => root_nil q h.rt.2.1
  have HN1 : Hid (r.rt.1 ≠ 0 → Rg.root r.rt = (decide (3 ≤ r.rt.1) && decide (r.rt.1 ≤ 4095))) := fun q => root_at q
  rw [eA, may_ref]
  clear hk h eA
  obtain ⟨gen, st, ep, su, rt, bs, bl, ts, tl, b1, b2⟩ := r
  dsimp only at *
  generalize Rg.num gen = n0 at *
  generalize Rg.num st = n1 at *
  generalize Rg.num ep = n2 at *
  generalize Rg.plc bs bl = n4 at *
  generalize Rg.plc ts tl = n5 at *
  cases n0 with
  | false =>
    go_enter Try.func42, Try.ntmps42
    go_upto_region 1 with (fail)
    change Code.wp _ _ _ _ (w.alloc (.cells A 29))
    rw [← hw0]
    clear hw0
    go_wp2_with (first
          | (go_at_call 74; with_reducible refine (H0.out _).mono ?_; rintro e0 w0 ⟨rfl, rfl⟩)
          | (go_at_call 74; with_reducible refine (H1.out _).mono ?_; rintro e1 w1 ⟨rfl, rfl⟩)
          | (go_at_call 74; with_reducible refine (H2.out _).mono ?_; rintro e2 w2 ⟨rfl, rfl⟩)
          | (go_at_call 75; have TT := B4.out; refine (H5.out _).mono ?_; rintro e5 w5 ⟨rfl, HB5⟩; have B5 := Lib.hid (B4.out.trans (HB5.out.mono B4.out.size)))
          | (go_at_call 75; refine (H4.out _).mono ?_; rintro e4 w4 ⟨rfl, HB4⟩; have B4 := Lib.hid (BR.out.trans (HB4.out.mono BR.out.size)); obtain ⟨_, _, _, _, g68, g69, g70, g71⟩ := HI.out _ B4.out))
    go_ret
    exact ⟨by first | rfl | simp, HL.out _ BR.out⟩
  | true =>
    cases n1 with
    | false =>
      go_enter Try.func42, Try.ntmps42
      go_upto_region 1 with (fail)
      change Code.wp _ _ _ _ (w.alloc (.cells A 29))
      rw [← hw0]
      clear hw0
      go_wp2_with (first
            | (go_at_call 74; with_reducible refine (H0.out _).mono ?_; rintro e0 w0 ⟨rfl, rfl⟩)
            | (go_at_call 74; with_reducible refine (H1.out _).mono ?_; rintro e1 w1 ⟨rfl, rfl⟩)
            | (go_at_call 74; with_reducible refine (H2.out _).mono ?_; rintro e2 w2 ⟨rfl, rfl⟩)
            | (go_at_call 75; have TT := B4.out; refine (H5.out _).mono ?_; rintro e5 w5 ⟨rfl, HB5⟩; have B5 := Lib.hid (B4.out.trans (HB5.out.mono B4.out.size)))
            | (go_at_call 75; refine (H4.out _).mono ?_; rintro e4 w4 ⟨rfl, HB4⟩; have B4 := Lib.hid (BR.out.trans (HB4.out.mono BR.out.size)); obtain ⟨_, _, _, _, g68, g69, g70, g71⟩ := HI.out _ B4.out))
      go_ret
      exact ⟨by first | rfl | simp, HL.out _ BR.out⟩
    | true =>
      cases n2 with
      | false =>
        go_enter Try.func42, Try.ntmps42
        go_upto_region 1 with (fail)
        change Code.wp _ _ _ _ (w.alloc (.cells A 29))
        rw [← hw0]
        clear hw0
        go_wp2_with (first
              | (go_at_call 74; with_reducible refine (H0.out _).mono ?_; rintro e0 w0 ⟨rfl, rfl⟩)
              | (go_at_call 74; with_reducible refine (H1.out _).mono ?_; rintro e1 w1 ⟨rfl, rfl⟩)
              | (go_at_call 74; with_reducible refine (H2.out _).mono ?_; rintro e2 w2 ⟨rfl, rfl⟩)
              | (go_at_call 75; have TT := B4.out; refine (H5.out _).mono ?_; rintro e5 w5 ⟨rfl, HB5⟩; have B5 := Lib.hid (B4.out.trans (HB5.out.mono B4.out.size)))
              | (go_at_call 75; refine (H4.out _).mono ?_; rintro e4 w4 ⟨rfl, HB4⟩; have B4 := Lib.hid (BR.out.trans (HB4.out.mono BR.out.size)); obtain ⟨_, _, _, _, g68, g69, g70, g71⟩ := HI.out _ B4.out))
        go_ret
        exact ⟨by first | rfl | simp, HL.out _ BR.out⟩
      | true =>
        cases n4 with
        | false =>
          go_enter Try.func42, Try.ntmps42
          go_upto_region 1 with (fail)
          change Code.wp _ _ _ _ (w.alloc (.cells A 29))
          rw [← hw0]
          clear hw0
          go_wp2_with (first
                | (go_at_call 74; with_reducible refine (H0.out _).mono ?_; rintro e0 w0 ⟨rfl, rfl⟩)
                | (go_at_call 74; with_reducible refine (H1.out _).mono ?_; rintro e1 w1 ⟨rfl, rfl⟩)
                | (go_at_call 74; with_reducible refine (H2.out _).mono ?_; rintro e2 w2 ⟨rfl, rfl⟩)
                | (go_at_call 75; have TT := B4.out; refine (H5.out _).mono ?_; rintro e5 w5 ⟨rfl, HB5⟩; have B5 := Lib.hid (B4.out.trans (HB5.out.mono B4.out.size)))
                | (go_at_call 75; refine (H4.out _).mono ?_; rintro e4 w4 ⟨rfl, HB4⟩; have B4 := Lib.hid (BR.out.trans (HB4.out.mono BR.out.size)); obtain ⟨_, _, _, _, g68, g69, g70, g71⟩ := HI.out _ B4.out))
          go_ret
          exact ⟨by first | rfl | simp, HL.out _ B4.out⟩
        | true =>
          cases n5 with
          | false =>
            go_enter Try.func42, Try.ntmps42
            go_upto_region 1 with (fail)
            change Code.wp _ _ _ _ (w.alloc (.cells A 29))
            rw [← hw0]
            clear hw0
            go_wp2_with (first
                  | (go_at_call 74; with_reducible refine (H0.out _).mono ?_; rintro e0 w0 ⟨rfl, rfl⟩)
                  | (go_at_call 74; with_reducible refine (H1.out _).mono ?_; rintro e1 w1 ⟨rfl, rfl⟩)
                  | (go_at_call 74; with_reducible refine (H2.out _).mono ?_; rintro e2 w2 ⟨rfl, rfl⟩)
                  | (go_at_call 75; have TT := B4.out; refine (H5.out _).mono ?_; rintro e5 w5 ⟨rfl, HB5⟩; have B5 := Lib.hid (B4.out.trans (HB5.out.mono B4.out.size)))
                  | (go_at_call 75; refine (H4.out _).mono ?_; rintro e4 w4 ⟨rfl, HB4⟩; have B4 := Lib.hid (BR.out.trans (HB4.out.mono BR.out.size)); obtain ⟨_, _, _, _, g68, g69, g70, g71⟩ := HI.out _ B4.out))
            go_ret
            exact ⟨by first | rfl | simp, HL.out _ B5.out⟩
          | true =>
            simp only [Bool.true_and]
            by_cases h0 : rt.1 = 0
            · have HQ := Lib.hid (HN0.out h0)
              clear HN0 HN1
              generalize Rg.root rt = q at *
              go_enter Try.func42, Try.ntmps42
              go_upto_region 1 with (fail)
              change Code.wp _ _ _ _ (w.alloc (.cells A 29))
              rw [← hw0]
              clear hw0
              go_upto_region 3 with (first
                    | (go_at_call 74; with_reducible refine (H0.out _).mono ?_; rintro e0 w0 ⟨rfl, rfl⟩)
                    | (go_at_call 74; with_reducible refine (H1.out _).mono ?_; rintro e1 w1 ⟨rfl, rfl⟩)
                    | (go_at_call 74; with_reducible refine (H2.out _).mono ?_; rintro e2 w2 ⟨rfl, rfl⟩)
                    | (go_at_call 75; have TT := B4.out; refine (H5.out _).mono ?_; rintro e5 w5 ⟨rfl, HB5⟩; have B5 := Lib.hid (B4.out.trans (HB5.out.mono B4.out.size)))
                    | (go_at_call 75; refine (H4.out _).mono ?_; rintro e4 w4 ⟨rfl, HB4⟩; have B4 := Lib.hid (BR.out.trans (HB4.out.mono BR.out.size)); obtain ⟨_, _, _, _, g68, g69, g70, g71⟩ := HI.out _ B4.out))
              obtain ⟨_, _, _, g35, _, _, _, _⟩ := HI.out _ B5.out
              rw [h0] at g35
              go_upto_region 5 with (fail)
              clear H0 H1 H2 H4 H5 c0 c1 c2 c68 c69
              go_loopw [3] (fun v3 wr => ∃ k : Nat, k ≤ 32 ∧ v3 = .int .i64 k ∧ wr = w5 ∧ Hid (∀ j, j < k → rt.2.getD j 0 = 0)) (fun v3 _ => 32 - (intOf v3).toNat)
              case atStart => exact ⟨0, by omega, rfl, rfl, fun j hj => by omega⟩
              case round =>
                obtain ⟨k, hk, rfl, rfl, HZ⟩ := hrel
                by_cases hlt : k < 32
                · have hx : (k : Int) < 32 := by omega
                  have hx0 : (0 : Int) ≤ (k : Int) := by omega
                  have ck := HT.out _ B5.out k hlt
                  by_cases hb : rt.2.getD k 0 = 0
                  · rw [hb] at ck
                    have HZ2 : Hid (∀ j, j < k + 1 → rt.2.getD j 0 = 0) := fun j hj => by
                      by_cases e : j = k
                      · rw [e]; exact hb
                      · exact HZ.out j (by omega)
                    clear hb HZ
                    go_wp2
                    exact ⟨⟨k + 1, by omega, by go_num, trivial, HZ2.out⟩, by simp [intOf]; omega⟩
                  · obtain rfl : q = false := HQ.out.2 k hlt hb
                    have hb2 : (rt.2.getD k 0 == 0) = false := by simpa using hb
                    have hb3 : (rt.2.getD k 0 != 0) = true := by simpa using hb
                    generalize rt.2.getD k 0 = x at *
                    go_wp2
                    go_ret
                    exact ⟨rfl, HL.out _ B5.out⟩
                · obtain rfl : k = 32 := by omega
                  obtain rfl : q = true := HQ.out.1 HZ.out
                  clear hlt HZ
                  go_wp2
                  go_ret
                  exact ⟨rfl, HL.out _ B5.out⟩
            · rw [HN1.out h0]
              have h0b : (rt.1 == 0) = false := by simpa using h0
              clear HN0 HN1 HT
              obtain ⟨k, S⟩ := rt
              dsimp only at *
              by_cases h3 : k ≥ 3
              · rw [decide_eq_true (show 3 ≤ k from h3), Bool.true_and]
                by_cases h4 : k < 4096
                · rw [decide_eq_true (show k ≤ 4095 by omega)]
                  go_enter Try.func42, Try.ntmps42
                  go_upto_region 1 with (fail)
                  change Code.wp _ _ _ _ (w.alloc (.cells A 29))
                  rw [← hw0]
                  clear hw0
                  go_upto_region 3 with (first
                        | (go_at_call 74; with_reducible refine (H0.out _).mono ?_; rintro e0 w0 ⟨rfl, rfl⟩)
                        | (go_at_call 74; with_reducible refine (H1.out _).mono ?_; rintro e1 w1 ⟨rfl, rfl⟩)
                        | (go_at_call 74; with_reducible refine (H2.out _).mono ?_; rintro e2 w2 ⟨rfl, rfl⟩)
                        | (go_at_call 75; have TT := B4.out; refine (H5.out _).mono ?_; rintro e5 w5 ⟨rfl, HB5⟩; have B5 := Lib.hid (B4.out.trans (HB5.out.mono B4.out.size)))
                        | (go_at_call 75; refine (H4.out _).mono ?_; rintro e4 w4 ⟨rfl, HB4⟩; have B4 := Lib.hid (BR.out.trans (HB4.out.mono BR.out.size)); obtain ⟨_, _, _, _, g68, g69, g70, g71⟩ := HI.out _ B4.out))
                  obtain ⟨_, _, _, g35, _, _, _, _⟩ := HI.out _ B5.out
                  go_wp2
                  go_ret
                  exact ⟨rfl, HL.out _ B5.out⟩
                · rw [decide_eq_false (show ¬ k ≤ 4095 by omega)]
                  go_enter Try.func42, Try.ntmps42
                  go_upto_region 1 with (fail)
                  change Code.wp _ _ _ _ (w.alloc (.cells A 29))
                  rw [← hw0]
                  clear hw0
                  go_upto_region 3 with (first
                        | (go_at_call 74; with_reducible refine (H0.out _).mono ?_; rintro e0 w0 ⟨rfl, rfl⟩)
                        | (go_at_call 74; with_reducible refine (H1.out _).mono ?_; rintro e1 w1 ⟨rfl, rfl⟩)
                        | (go_at_call 74; with_reducible refine (H2.out _).mono ?_; rintro e2 w2 ⟨rfl, rfl⟩)
                        | (go_at_call 75; have TT := B4.out; refine (H5.out _).mono ?_; rintro e5 w5 ⟨rfl, HB5⟩; have B5 := Lib.hid (B4.out.trans (HB5.out.mono B4.out.size)))
                        | (go_at_call 75; refine (H4.out _).mono ?_; rintro e4 w4 ⟨rfl, HB4⟩; have B4 := Lib.hid (BR.out.trans (HB4.out.mono BR.out.size)); obtain ⟨_, _, _, _, g68, g69, g70, g71⟩ := HI.out _ B4.out))
                  obtain ⟨_, _, _, g35, _, _, _, _⟩ := HI.out _ B5.out
                  go_wp2
                  go_ret
                  exact ⟨by first | rfl | simp [h4], HL.out _ B5.out⟩
              · rw [decide_eq_false (show ¬ 3 ≤ k from h3), Bool.false_and]
                go_enter Try.func42, Try.ntmps42
                go_upto_region 1 with (fail)
                change Code.wp _ _ _ _ (w.alloc (.cells A 29))
                rw [← hw0]
                clear hw0
                go_upto_region 3 with (first
                      | (go_at_call 74; with_reducible refine (H0.out _).mono ?_; rintro e0 w0 ⟨rfl, rfl⟩)
                      | (go_at_call 74; with_reducible refine (H1.out _).mono ?_; rintro e1 w1 ⟨rfl, rfl⟩)
                      | (go_at_call 74; with_reducible refine (H2.out _).mono ?_; rintro e2 w2 ⟨rfl, rfl⟩)
                      | (go_at_call 75; have TT := B4.out; refine (H5.out _).mono ?_; rintro e5 w5 ⟨rfl, HB5⟩; have B5 := Lib.hid (B4.out.trans (HB5.out.mono B4.out.size)))
                      | (go_at_call 75; refine (H4.out _).mono ?_; rintro e4 w4 ⟨rfl, HB4⟩; have B4 := Lib.hid (BR.out.trans (HB4.out.mono BR.out.size)); obtain ⟨_, _, _, _, g68, g69, g70, g71⟩ := HI.out _ B4.out))
                obtain ⟨_, _, _, g35, _, _, _, _⟩ := HI.out _ B5.out
                go_wp2
                go_ret
                exact ⟨by first | rfl | simp, HL.out _ B5.out⟩
end Go.Proofs.Ytjnepegohfhgiaa

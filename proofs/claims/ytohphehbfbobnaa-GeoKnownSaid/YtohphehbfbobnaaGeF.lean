/-
  The reference of layer 10 walked: needs, right, Check, Sectors, Lean, Need, Reserve.
-/
import Derived.Test.YtohphehbfbobnaaGeD
namespace Go.Proofs.Ytohphehbfbobnaa
open Go.RowKit

set_option maxHeartbeats 2000000 in
set_option maxRecDepth 100000 in
theorem needs_any (a b c m : Int) (hb : 32 ≤ b ∧ b ≤ 64) (hm : 0 ≤ m ∧ m ≤ 64) (w : World) : Calls Try.prog 29 #[.agg #[.int .i64 a, .int .i64 b, .int .i64 c], .int .i64 m] w (Num (Ge.nd b m) w) := by
  obtain ⟨B0, HX⟩ := gbox a b c w
  obtain ⟨w0, hw0⟩ : ∃ x, x = w.alloc (GBox a b c) := ⟨_, rfl⟩
  rw [← hw0] at B0 HX
  have hn := Ge.nd_in b m hb.1 hm.1 hm.2
  have hl := fun k => Ge.nd_le b m k (by omega)
  obtain ⟨N, hN⟩ : ∃ N : Nat, Ge.nd b m = (N : Int) := ⟨(Ge.nd b m).toNat, by omega⟩
  rw [hN] at hn hl ⊢
  have HL := Lib.hid hl
  clear hl hN
  have hw1 : IntKind.i64.wrap (b - 1) = b - 1 := IntWalk.i64_in _ ⟨by omega, by omega⟩
  have hw2 : IntKind.i64.wrap (4 * m) = 4 * m := IntWalk.i64_in _ ⟨by omega, by omega⟩
  go_enter Try.func29, Try.ntmps29
  go_upto_region 1 with (fail)
  unfold GBox at hw0
  rw [← hw0]
  clear hw0
  obtain ⟨x00, x01, x02⟩ := HX.out _ (Below.refl _ _)
  go_upto_region 2 with (fail)
  go_loopw [5] (fun v5 wr => ∃ k : Nat, k ≤ N ∧ v5 = .int .i64 k ∧ wr = w0) (fun v5 _ => N - (intOf v5).toNat)
  case atStart => exact ⟨0, by omega, rfl, rfl⟩
  case round =>
    obtain ⟨k, hk, rfl, rfl⟩ := hrel
    have hp := Ge.area (k : Int) (b - 1) (by omega) (by omega)
    have hw3 : IntKind.i64.wrap ((k : Int) * (b - 1)) = (k : Int) * (b - 1) := IntWalk.i64_in _ ⟨by omega, by omega⟩
    by_cases hlt : k < N
    · have hc : (k : Int) * (b - 1) < 4 * m := by
        have h := HL.out (k : Int)
        omega
      go_wp2
      exact ⟨⟨k + 1, by omega, by go_num, by first | rfl | trivial⟩, by simp [intOf]; omega⟩
    · have hkN : k = N := by omega
      subst hkN
      have hc : ¬ (k : Int) * (b - 1) < 4 * m := by
        have h := HL.out (k : Int)
        omega
      go_wp2
      go_ret
      exact ⟨rfl, B0.out⟩
def Yes (v : Bool) (w : World) (e : Ending) (w' : World) : Prop := e = .returned (.bool v) ∧ Below w.heap.size w w'
set_option maxHeartbeats 4000000 in
set_option maxRecDepth 100000 in
theorem right_any (a b c : Int) (w : World) : Calls Try.prog 28 #[.agg #[.int .i64 a, .int .i64 b, .int .i64 c]] w (Yes (decide (Ge.ok a b c)) w) := by
  obtain ⟨B0, HX⟩ := gbox a b c w
  obtain ⟨w0, hw0⟩ : ∃ x, x = w.alloc (GBox a b c) := ⟨_, rfl⟩
  rw [← hw0] at B0 HX
  obtain ⟨R, hR⟩ : ∃ R, Hid (decide (Ge.ok a b c) = R) := ⟨_, rfl⟩
  rw [hR.out]
  by_cases hs : Ge.sz a b c
  · have HS := Lib.hid hs
    obtain ⟨⟨ha0, ha1⟩, ⟨hb0, hb1⟩, hc0, hc1⟩ := hs
    have h1 := Ge.nd_in b c hb0 (by omega) hc1
    have h2 := Ge.ln_in b hb0 hb1
    have h3 := Ge.room_in a b c HS.out
    obtain ⟨N, hN⟩ : ∃ N, Hid (Ge.nd b c = N) := ⟨_, rfl⟩
    obtain ⟨M, hM⟩ : ∃ N, Hid (Ge.ln b = N) := ⟨_, rfl⟩
    have hR2 : Hid (R = decide (c + 9 < (a - N - 14) * (M + 1))) := by
      show _ = _
      rw [← hR.out, ← hN.out, ← hM.out]
      exact decide_eq_decide.2 ⟨fun h => h.2, fun h => ⟨HS.out, h⟩⟩
    have KN : ∀ y, Below w0.heap.size w0 y → Calls Try.prog 29 #[.agg #[.int .i64 a, .int .i64 b, .int .i64 c], .int .i64 c] y fun e w' => e = .returned (.int .i64 N) ∧ Hid (Below w0.heap.size w0 w') := fun y hy => by
      rw [← hN.out]
      refine (needs_any a b c c ⟨hb0, hb1⟩ ⟨by omega, hc1⟩ y).mono ?_
      rintro e w' ⟨rfl, hb⟩
      exact ⟨rfl, hy.trans (hb.mono hy.size)⟩
    rw [hN.out] at h1
    have hw6 : IntKind.i64.wrap (b - 1) = b - 1 := IntWalk.i64_in _ ⟨by omega, by omega⟩
    have hw7 : IntKind.i64.wrap ((b - 1).tdiv 5) = M := by
      rw [Int.tdiv_eq_ediv_of_nonneg (by omega), ← hM.out]
      exact IntWalk.i64_in _ ⟨by omega, by omega⟩
    rw [hM.out] at h2
    have h4 := h3
    unfold Ge.room at h4
    rw [hN.out, hM.out] at h4
    have hw1 : IntKind.i64.wrap (c + 9) = c + 9 := IntWalk.i64_in _ ⟨by omega, by omega⟩
    have hw2 : IntKind.i64.wrap (a - N) = a - N := IntWalk.i64_in _ ⟨by omega, by omega⟩
    have hw3 : IntKind.i64.wrap (a - N - 14) = a - N - 14 := IntWalk.i64_in _ ⟨by omega, by omega⟩
    have hw4 : IntKind.i64.wrap (M + 1) = M + 1 := IntWalk.i64_in _ ⟨by omega, by omega⟩
    have hw5 : IntKind.i64.wrap ((a - N - 14) * (M + 1)) = (a - N - 14) * (M + 1) := IntWalk.i64_in _ ⟨by omega, by omega⟩
    obtain ⟨X, hX⟩ : ∃ X, (a - N - 14) * (M + 1) = X := ⟨_, rfl⟩
    rw [hX] at hw5
    have hR3 : Hid (R = decide (c + 9 < X)) := by show _ = _; rw [← hX]; exact hR2.out
    clear h3 h4 hR2
    go_enter Try.func28, Try.ntmps28
    go_upto_region 1 with (fail)
    unfold GBox at hw0
    rw [← hw0]
    clear hw0
    obtain ⟨x00, x01, x02⟩ := HX.out _ (Below.refl _ _)
    go_upto_region 7 with (fail)
    have BB : Hid (Below w0.heap.size w0 w0.drew) := (Below.refl _ w0).drew
    go_region_held3 (fun y => y.cell? ⟨w.heap.size, 0, none⟩ = some (.int .i64 a) ∧ y.cell? ⟨w.heap.size, 1, none⟩ = some (.int .i64 b) ∧ y.cell? ⟨w.heap.size, 2, none⟩ = some (.int .i64 c))
      (exact HX.out _ (Hid.out (by assumption)))
      ((go_at_call 29; refine (KN _ (Hid.out (by assumption))).mono ?_; rintro e1 w1 ⟨rfl, hb1⟩; clear BB; have BB := hb1; clear hb1))
    go_wp2
    go_ret
    exact ⟨by rw [hR3.out]; rfl, B0.out.trans (BB.out.mono B0.out.size)⟩
  · have hR0 : R = false := by rw [← hR.out]; exact decide_eq_false (fun q => hs q.1)
    have HB := B0
    rw [hR0]
    by_cases h0 : a < 16
    · go_enter Try.func28, Try.ntmps28
      go_upto_region 1 with (fail)
      unfold GBox at hw0
      rw [← hw0]
      clear hw0
      obtain ⟨x00, x01, x02⟩ := HX.out _ (Below.refl _ _)
      go_wp2
      go_ret
      exact ⟨rfl, HB.out⟩
    by_cases h1 : 32 < a
    · go_enter Try.func28, Try.ntmps28
      go_upto_region 1 with (fail)
      unfold GBox at hw0
      rw [← hw0]
      clear hw0
      obtain ⟨x00, x01, x02⟩ := HX.out _ (Below.refl _ _)
      go_wp2
      go_ret
      exact ⟨rfl, HB.out⟩
    by_cases h2 : b < 32
    · go_enter Try.func28, Try.ntmps28
      go_upto_region 1 with (fail)
      unfold GBox at hw0
      rw [← hw0]
      clear hw0
      obtain ⟨x00, x01, x02⟩ := HX.out _ (Below.refl _ _)
      go_wp2
      go_ret
      exact ⟨rfl, HB.out⟩
    by_cases h3 : 64 < b
    · go_enter Try.func28, Try.ntmps28
      go_upto_region 1 with (fail)
      unfold GBox at hw0
      rw [← hw0]
      clear hw0
      obtain ⟨x00, x01, x02⟩ := HX.out _ (Below.refl _ _)
      go_wp2
      go_ret
      exact ⟨rfl, HB.out⟩
    by_cases h4 : c < 1
    · go_enter Try.func28, Try.ntmps28
      go_upto_region 1 with (fail)
      unfold GBox at hw0
      rw [← hw0]
      clear hw0
      obtain ⟨x00, x01, x02⟩ := HX.out _ (Below.refl _ _)
      go_wp2
      go_ret
      exact ⟨rfl, HB.out⟩
    have h5 : 64 < c := by
      unfold Ge.sz at hs
      omega
    go_enter Try.func28, Try.ntmps28
    go_upto_region 1 with (fail)
    unfold GBox at hw0
    rw [← hw0]
    clear hw0
    obtain ⟨x00, x01, x02⟩ := HX.out _ (Below.refl _ _)
    go_wp2
    go_ret
    exact ⟨rfl, HB.out⟩
theorem right_ok {a b c : Int} (h : Ge.ok a b c) (w : World) : Calls Try.prog 28 #[.agg #[.int .i64 a, .int .i64 b, .int .i64 c]] w (Yes true w) := by
  have q := right_any a b c w
  rw [decide_eq_true h] at q
  exact q
theorem right_no {a b c : Int} (h : ¬ Ge.ok a b c) (w : World) : Calls Try.prog 28 #[.agg #[.int .i64 a, .int .i64 b, .int .i64 c]] w (Yes false w) := by
  have q := right_any a b c w
  rw [decide_eq_false h] at q
  exact q
set_option maxHeartbeats 2000000 in
set_option maxRecDepth 100000 in
theorem rcheck_any (a b c : Int) (w : World) : Calls Try.prog 12 #[.agg #[.int .i64 a, .int .i64 b, .int .i64 c]] w (Num (Ge.ck a b c) w) := by
  obtain ⟨B0, HX⟩ := gbox a b c w
  obtain ⟨w0, hw0⟩ : ∃ x, x = w.alloc (GBox a b c) := ⟨_, rfl⟩
  rw [← hw0] at B0 HX
  by_cases ho : Ge.ok a b c
  · have hs : Ge.ck a b c = 0 := by unfold Ge.ck; exact if_pos ho
    rw [hs]
    have HO := Lib.hid ho
    go_enter Try.func12, Try.ntmps12
    go_upto_region 1 with (fail)
    unfold GBox at hw0
    rw [← hw0]
    clear hw0
    obtain ⟨x00, x01, x02⟩ := HX.out _ (Below.refl _ _)
    go_wp2_with ((go_at_call 28; refine (right_ok HO.out _).mono ?_; rintro e1 w1 ⟨rfl, hb1⟩; obtain ⟨x10, x11, x12⟩ := HX.out _ hb1))
    go_ret
    exact ⟨rfl, B0.out.trans (hb1.mono B0.out.size)⟩
  · have hs : Ge.ck a b c = 15 := by unfold Ge.ck; exact if_neg ho
    rw [hs]
    go_enter Try.func12, Try.ntmps12
    go_upto_region 1 with (fail)
    unfold GBox at hw0
    rw [← hw0]
    clear hw0
    obtain ⟨x00, x01, x02⟩ := HX.out _ (Below.refl _ _)
    go_wp2_with (go_at_call 28; refine (right_no ho _).mono ?_; rintro e1 w1 ⟨rfl, hb1⟩)
    go_ret
    exact ⟨rfl, B0.out.trans (hb1.mono B0.out.size)⟩
set_option maxHeartbeats 2000000 in
set_option maxRecDepth 100000 in
theorem rsectors_any (a b c : Int) (w : World) : Calls Try.prog 14 #[.agg #[.int .i64 a, .int .i64 b, .int .i64 c]] w (Num (Ge.sec a b c) w) := by
  obtain ⟨B0, HX⟩ := gbox a b c w
  obtain ⟨w0, hw0⟩ : ∃ x, x = w.alloc (GBox a b c) := ⟨_, rfl⟩
  rw [← hw0] at B0 HX
  by_cases ho : Ge.ok a b c
  · have hs : Ge.sec a b c = 3 + a * b := by unfold Ge.sec; exact if_pos ho
    have h := Ge.area a b (by have := ho.1.1; omega) (by have := ho.1.2.1; omega)
    have hw1 : IntKind.i64.wrap (a * b) = a * b := IntWalk.i64_in _ ⟨by omega, by omega⟩
    have hw2 : IntKind.i64.wrap (3 + a * b) = 3 + a * b := IntWalk.i64_in _ ⟨by omega, by omega⟩
    rw [hs]
    have HO := Lib.hid ho
    go_enter Try.func14, Try.ntmps14
    go_upto_region 1 with (fail)
    unfold GBox at hw0
    rw [← hw0]
    clear hw0
    obtain ⟨x00, x01, x02⟩ := HX.out _ (Below.refl _ _)
    go_wp2_with ((go_at_call 28; refine (right_ok HO.out _).mono ?_; rintro e1 w1 ⟨rfl, hb1⟩; obtain ⟨x10, x11, x12⟩ := HX.out _ hb1))
    go_ret
    exact ⟨rfl, B0.out.trans (hb1.mono B0.out.size)⟩
  · have hs : Ge.sec a b c = 0 := by unfold Ge.sec; exact if_neg ho
    rw [hs]
    go_enter Try.func14, Try.ntmps14
    go_upto_region 1 with (fail)
    unfold GBox at hw0
    rw [← hw0]
    clear hw0
    obtain ⟨x00, x01, x02⟩ := HX.out _ (Below.refl _ _)
    go_wp2_with (go_at_call 28; refine (right_no ho _).mono ?_; rintro e1 w1 ⟨rfl, hb1⟩)
    go_ret
    exact ⟨rfl, B0.out.trans (hb1.mono B0.out.size)⟩
set_option maxHeartbeats 2000000 in
set_option maxRecDepth 100000 in
theorem rlean_any (a b c : Int) (w : World) : Calls Try.prog 22 #[.agg #[.int .i64 a, .int .i64 b, .int .i64 c]] w (Num (Ge.lean a b c) w) := by
  obtain ⟨B0, HX⟩ := gbox a b c w
  obtain ⟨w0, hw0⟩ : ∃ x, x = w.alloc (GBox a b c) := ⟨_, rfl⟩
  rw [← hw0] at B0 HX
  by_cases ho : Ge.ok a b c
  · have hs : Ge.lean a b c = Ge.ln b := by unfold Ge.lean; exact if_pos ho
    have hb := ho.1.2.1
    have hw1 : IntKind.i64.wrap (b - 1) = b - 1 := IntWalk.i64_in _ ⟨by omega, by omega⟩
    have hw2 : IntKind.i64.wrap ((b - 1).tdiv 5) = Ge.ln b := by
      rw [Int.tdiv_eq_ediv_of_nonneg (by omega)]
      exact IntWalk.i64_in _ ⟨by omega, by omega⟩
    rw [hs]
    have HO := Lib.hid ho
    go_enter Try.func22, Try.ntmps22
    go_upto_region 1 with (fail)
    unfold GBox at hw0
    rw [← hw0]
    clear hw0
    obtain ⟨x00, x01, x02⟩ := HX.out _ (Below.refl _ _)
    go_wp2_with ((go_at_call 28; refine (right_ok HO.out _).mono ?_; rintro e1 w1 ⟨rfl, hb1⟩; obtain ⟨x10, x11, x12⟩ := HX.out _ hb1))
    go_ret
    exact ⟨rfl, B0.out.trans (hb1.mono B0.out.size)⟩
  · have hs : Ge.lean a b c = 0 := by unfold Ge.lean; exact if_neg ho
    rw [hs]
    go_enter Try.func22, Try.ntmps22
    go_upto_region 1 with (fail)
    unfold GBox at hw0
    rw [← hw0]
    clear hw0
    obtain ⟨x00, x01, x02⟩ := HX.out _ (Below.refl _ _)
    go_wp2_with (go_at_call 28; refine (right_no ho _).mono ?_; rintro e1 w1 ⟨rfl, hb1⟩)
    go_ret
    exact ⟨rfl, B0.out.trans (hb1.mono B0.out.size)⟩
set_option maxHeartbeats 2000000 in
set_option maxRecDepth 100000 in
theorem rneed_any (a b c m : Int) (w : World) : Calls Try.prog 18 #[.agg #[.int .i64 a, .int .i64 b, .int .i64 c], .int .i64 m] w (Num (Ge.need a b c m) w) := by
  obtain ⟨B0, HX⟩ := gbox a b c w
  obtain ⟨w0, hw0⟩ : ∃ x, x = w.alloc (GBox a b c) := ⟨_, rfl⟩
  rw [← hw0] at B0 HX
  by_cases ho : Ge.ok a b c
  · have hs : Ge.need a b c m = Ge.nd b (Ge.cut m) := by unfold Ge.need; exact if_pos ho
    rw [hs]
    have HO := Lib.hid ho
    by_cases h0 : m < 0
    · have h1 : Ge.nd b (Ge.cut m) = 0 := by
        have h2 : Ge.cut m = 0 := by unfold Ge.cut; exact if_pos h0
        have h3 := (Ge.nd_le b 0 0 (by have := ho.1.2.1; omega)).2 (by omega)
        have h4 := Ge.nd_in b 0 (by have := ho.1.2.1; omega) (by omega) (by omega)
        rw [h2]
        omega
      rw [h1]
      clear h1 hs
      go_enter Try.func18, Try.ntmps18
      go_upto_region 1 with (fail)
      unfold GBox at hw0
      rw [← hw0]
      clear hw0
      obtain ⟨x00, x01, x02⟩ := HX.out _ (Below.refl _ _)
      go_wp2_with ((go_at_call 28; refine (right_ok HO.out _).mono ?_; rintro e1 w1 ⟨rfl, hb1⟩; obtain ⟨x10, x11, x12⟩ := HX.out _ hb1))
      go_ret
      exact ⟨rfl, B0.out.trans (hb1.mono B0.out.size)⟩
    by_cases h1 : 64 < m
    · have h2 : Ge.cut m = 64 := by unfold Ge.cut; rw [if_neg h0, if_pos h1]
      rw [h2]
      clear h2 hs
      go_enter Try.func18, Try.ntmps18
      go_upto_region 1 with (fail)
      unfold GBox at hw0
      rw [← hw0]
      clear hw0
      obtain ⟨x00, x01, x02⟩ := HX.out _ (Below.refl _ _)
      go_wp2_with (first
        | (go_at_call 28; refine (right_ok HO.out _).mono ?_; rintro e1 w1 ⟨rfl, hb1⟩; obtain ⟨x10, x11, x12⟩ := HX.out _ hb1)
        | (go_at_call 29; refine (needs_any a b c 64 HO.out.1.2.1 ⟨by omega, by omega⟩ _).mono ?_; rintro e1 w1 ⟨rfl, hb2⟩))
      go_ret
      exact ⟨rfl, B0.out.trans ((hb1.trans (hb2.mono hb1.size)).mono B0.out.size)⟩
    have h2 : Ge.cut m = m := by unfold Ge.cut; rw [if_neg h0, if_neg h1]
    rw [h2]
    clear h2 hs
    go_enter Try.func18, Try.ntmps18
    go_upto_region 1 with (fail)
    unfold GBox at hw0
    rw [← hw0]
    clear hw0
    obtain ⟨x00, x01, x02⟩ := HX.out _ (Below.refl _ _)
    go_wp2_with (first
      | (go_at_call 28; refine (right_ok HO.out _).mono ?_; rintro e1 w1 ⟨rfl, hb1⟩; obtain ⟨x10, x11, x12⟩ := HX.out _ hb1)
      | (go_at_call 29; refine (needs_any a b c m HO.out.1.2.1 ⟨by omega, by omega⟩ _).mono ?_; rintro e1 w1 ⟨rfl, hb2⟩))
    go_ret
    exact ⟨rfl, B0.out.trans ((hb1.trans (hb2.mono hb1.size)).mono B0.out.size)⟩
  · have hs : Ge.need a b c m = 0 := by unfold Ge.need; exact if_neg ho
    rw [hs]
    go_enter Try.func18, Try.ntmps18
    go_upto_region 1 with (fail)
    unfold GBox at hw0
    rw [← hw0]
    clear hw0
    obtain ⟨x00, x01, x02⟩ := HX.out _ (Below.refl _ _)
    go_wp2_with (go_at_call 28; refine (right_no ho _).mono ?_; rintro e1 w1 ⟨rfl, hb1⟩)
    go_ret
    exact ⟨rfl, B0.out.trans (hb1.mono B0.out.size)⟩
set_option maxHeartbeats 2000000 in
set_option maxRecDepth 100000 in
theorem rreserve_any (a b c m : Int) (w : World) : Calls Try.prog 20 #[.agg #[.int .i64 a, .int .i64 b, .int .i64 c], .int .i64 m] w (Num (Ge.rsv a b c m) w) := by
  obtain ⟨B0, HX⟩ := gbox a b c w
  obtain ⟨w0, hw0⟩ : ∃ x, x = w.alloc (GBox a b c) := ⟨_, rfl⟩
  rw [← hw0] at B0 HX
  by_cases ho : Ge.ok a b c
  · have hs : Ge.rsv a b c m = Ge.nd b (Ge.cut m) + 8 := by unfold Ge.rsv; exact if_pos ho
    have hn : Ge.need a b c m = Ge.nd b (Ge.cut m) := by unfold Ge.need; exact if_pos ho
    have hN := Ge.nd_in b (Ge.cut m) ho.1.2.1.1 (Ge.cut_in m).1 (Ge.cut_in m).2
    have KN : ∀ y, Calls Try.prog 18 #[.agg #[.int .i64 a, .int .i64 b, .int .i64 c], .int .i64 m] y (Num (Ge.nd b (Ge.cut m)) y) := fun y => by
      have q := rneed_any a b c m y
      rw [hn] at q
      exact q
    have hw : IntKind.i64.wrap (Ge.nd b (Ge.cut m) + 8) = Ge.nd b (Ge.cut m) + 8 := IntWalk.i64_in _ ⟨by omega, by omega⟩
    clear hn
    generalize Ge.nd b (Ge.cut m) = N at *
    rw [hs]
    have HO := Lib.hid ho
    go_enter Try.func20, Try.ntmps20
    go_upto_region 1 with (fail)
    unfold GBox at hw0
    rw [← hw0]
    clear hw0
    obtain ⟨x00, x01, x02⟩ := HX.out _ (Below.refl _ _)
    go_wp2_with (first
      | (go_at_call 28; refine (right_ok HO.out _).mono ?_; rintro e1 w1 ⟨rfl, hb1⟩; obtain ⟨x10, x11, x12⟩ := HX.out _ hb1)
      | (go_at_call 18; refine (KN _).mono ?_; rintro e1 w1 ⟨rfl, hb2⟩))
    go_ret
    exact ⟨rfl, B0.out.trans ((hb1.trans (hb2.mono hb1.size)).mono B0.out.size)⟩
  · have hs : Ge.rsv a b c m = 0 := by unfold Ge.rsv; exact if_neg ho
    rw [hs]
    go_enter Try.func20, Try.ntmps20
    go_upto_region 1 with (fail)
    unfold GBox at hw0
    rw [← hw0]
    clear hw0
    obtain ⟨x00, x01, x02⟩ := HX.out _ (Below.refl _ _)
    go_wp2_with (go_at_call 28; refine (right_no ho _).mono ?_; rintro e1 w1 ⟨rfl, hb1⟩)
    go_ret
    exact ⟨rfl, B0.out.trans (hb1.mono B0.out.size)⟩
end Go.Proofs.Ytohphehbfbobnaa

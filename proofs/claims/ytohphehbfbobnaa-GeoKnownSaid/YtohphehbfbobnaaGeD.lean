/-
  Package geo walked: Sectors, Lean, Need, Reserve.
-/
import Derived.Test.YtohphehbfbobnaaGeC
import Derived.Lib.MinMax
namespace Go.Proofs.Ytohphehbfbobnaa
open Go.RowKit

theorem ck_ok {a b c : Int} (h : Ge.ok a b c) : Ge.ck a b c = 0 := by unfold Ge.ck; exact if_pos h
theorem ck_no {a b c : Int} (h : ¬ Ge.ok a b c) : Ge.ck a b c = 15 := by unfold Ge.ck; exact if_neg h
theorem check_ok {a b c : Int} (h : Ge.ok a b c) (w : World) : Calls Try.prog 11 #[.agg #[.int .i64 a, .int .i64 b, .int .i64 c]] w (Num 0 w) := by
  have q := check_any a b c w
  rw [ck_ok h] at q
  exact q
theorem check_no {a b c : Int} (h : ¬ Ge.ok a b c) (w : World) : Calls Try.prog 11 #[.agg #[.int .i64 a, .int .i64 b, .int .i64 c]] w (Num 15 w) := by
  have q := check_any a b c w
  rw [ck_no h] at q
  exact q
/-- Behind the boxes of a geometry. -/
theorem gbox (a b c : Int) (w : World) : Hid (Below w.heap.size w (w.alloc (GBox a b c))) ∧ Hid (∀ y, Below (w.alloc (GBox a b c)).heap.size (w.alloc (GBox a b c)) y → Bx y w.heap.size a b c) :=
  ⟨(Below.refl _ w).alloc (Nat.le_refl _) _, fun _ hy => (bx_of (heap_alloc_new w _)).old hy⟩
set_option maxHeartbeats 2000000 in
set_option maxRecDepth 100000 in
theorem sectors_any (a b c : Int) (w : World) : Calls Try.prog 13 #[.agg #[.int .i64 a, .int .i64 b, .int .i64 c]] w (Num (Ge.sec a b c) w) := by
  obtain ⟨B0, HX⟩ := gbox a b c w
  obtain ⟨w0, hw0⟩ : ∃ x, x = w.alloc (GBox a b c) := ⟨_, rfl⟩
  rw [← hw0] at B0 HX
  by_cases ho : Ge.ok a b c
  · have hs : Ge.sec a b c = 3 + a * b := by unfold Ge.sec; exact if_pos ho
    have h := Ge.area a b (by have := ho.1.1; omega) (by have := ho.1.2.1; omega)
    have hw1 : IntKind.i64.wrap (a * b) = a * b := IntWalk.i64_in _ ⟨by omega, by omega⟩
    have hw2 : IntKind.i64.wrap (3 + a * b) = 3 + a * b := IntWalk.i64_in _ ⟨by omega, by omega⟩
    rw [hs]
    go_enter Try.func13, Try.ntmps13
    go_upto_region 1 with (fail)
    unfold GBox at hw0
    rw [← hw0]
    clear hw0
    obtain ⟨x00, x01, x02⟩ := HX.out _ (Below.refl _ _)
    go_wp2_with (go_at_call 11; refine (check_ok ho _).mono ?_; rintro e1 w1 ⟨rfl, hb1⟩; obtain ⟨x10, x11, x12⟩ := HX.out _ hb1)
    go_ret
    exact ⟨rfl, B0.out.trans (hb1.mono B0.out.size)⟩
  · have hs : Ge.sec a b c = 0 := by unfold Ge.sec; exact if_neg ho
    rw [hs]
    go_enter Try.func13, Try.ntmps13
    go_upto_region 1 with (fail)
    unfold GBox at hw0
    rw [← hw0]
    clear hw0
    obtain ⟨x00, x01, x02⟩ := HX.out _ (Below.refl _ _)
    go_wp2_with (go_at_call 11; refine (check_no ho _).mono ?_; rintro e1 w1 ⟨rfl, hb1⟩)
    go_ret
    exact ⟨rfl, B0.out.trans (hb1.mono B0.out.size)⟩
set_option maxHeartbeats 2000000 in
set_option maxRecDepth 100000 in
theorem leans_any (a b c : Int) (w : World) : Calls Try.prog 21 #[.agg #[.int .i64 a, .int .i64 b, .int .i64 c]] w (Num (Ge.lean a b c) w) := by
  obtain ⟨B0, HX⟩ := gbox a b c w
  obtain ⟨w0, hw0⟩ : ∃ x, x = w.alloc (GBox a b c) := ⟨_, rfl⟩
  rw [← hw0] at B0 HX
  by_cases ho : Ge.ok a b c
  · have hs : Ge.lean a b c = Ge.ln b := by unfold Ge.lean; exact if_pos ho
    rw [hs]
    have HO := Lib.hid ho
    go_enter Try.func21, Try.ntmps21
    go_upto_region 1 with (fail)
    unfold GBox at hw0
    rw [← hw0]
    clear hw0
    obtain ⟨x00, x01, x02⟩ := HX.out _ (Below.refl _ _)
    go_wp2_with (first
      | (go_at_call 11; refine (check_ok ho _).mono ?_; rintro e1 w1 ⟨rfl, hb1⟩; obtain ⟨x10, x11, x12⟩ := HX.out _ hb1)
      | (go_at_call 27; refine (lean_any a b c HO.out.1.2.1 _).mono ?_; rintro e1 w1 ⟨rfl, hb2⟩))
    go_ret
    exact ⟨rfl, B0.out.trans ((hb1.trans (hb2.mono hb1.size)).mono B0.out.size)⟩
  · have hs : Ge.lean a b c = 0 := by unfold Ge.lean; exact if_neg ho
    rw [hs]
    go_enter Try.func21, Try.ntmps21
    go_upto_region 1 with (fail)
    unfold GBox at hw0
    rw [← hw0]
    clear hw0
    obtain ⟨x00, x01, x02⟩ := HX.out _ (Below.refl _ _)
    go_wp2_with (go_at_call 11; refine (check_no ho _).mono ?_; rintro e1 w1 ⟨rfl, hb1⟩)
    go_ret
    exact ⟨rfl, B0.out.trans (hb1.mono B0.out.size)⟩
theorem cut_minmax (m : Int) : min (max m 0) 64 = Ge.cut m := by unfold Ge.cut; split <;> omega
set_option maxHeartbeats 2000000 in
set_option maxRecDepth 100000 in
theorem need_any (a b c m : Int) (w : World) : Calls Try.prog 17 #[.agg #[.int .i64 a, .int .i64 b, .int .i64 c], .int .i64 m] w (Num (Ge.need a b c m) w) := by
  obtain ⟨B0, HX⟩ := gbox a b c w
  obtain ⟨w0, hw0⟩ : ∃ x, x = w.alloc (GBox a b c) := ⟨_, rfl⟩
  rw [← hw0] at B0 HX
  by_cases ho : Ge.ok a b c
  · have hs : Ge.need a b c m = Ge.nd b (Ge.cut m) := by unfold Ge.need; exact if_pos ho
    rw [hs]
    have HO := Lib.hid ho
    have hc := cut_minmax m
    have HC := Lib.hid (Ge.cut_in m)
    generalize Ge.cut m = M at hc HC ⊢
    go_enter Try.func17, Try.ntmps17
    go_upto_region 1 with (fail)
    unfold GBox at hw0
    rw [← hw0]
    clear hw0
    obtain ⟨x00, x01, x02⟩ := HX.out _ (Below.refl _ _)
    go_wp2_with (first
      | (go_at_call 11; refine (check_ok ho _).mono ?_; rintro e1 w1 ⟨rfl, hb1⟩; obtain ⟨x10, x11, x12⟩ := HX.out _ hb1)
      | (go_at_call 26; refine (need_in a b c M HO.out.1.2.1 HC.out _).mono ?_; rintro e1 w1 ⟨rfl, hb2⟩))
    go_ret
    exact ⟨rfl, B0.out.trans ((hb1.trans (hb2.mono hb1.size)).mono B0.out.size)⟩
  · have hs : Ge.need a b c m = 0 := by unfold Ge.need; exact if_neg ho
    rw [hs]
    go_enter Try.func17, Try.ntmps17
    go_upto_region 1 with (fail)
    unfold GBox at hw0
    rw [← hw0]
    clear hw0
    obtain ⟨x00, x01, x02⟩ := HX.out _ (Below.refl _ _)
    go_wp2_with (go_at_call 11; refine (check_no ho _).mono ?_; rintro e1 w1 ⟨rfl, hb1⟩)
    go_ret
    exact ⟨rfl, B0.out.trans (hb1.mono B0.out.size)⟩
set_option maxHeartbeats 2000000 in
set_option maxRecDepth 100000 in
theorem reserve_any (a b c m : Int) (w : World) : Calls Try.prog 19 #[.agg #[.int .i64 a, .int .i64 b, .int .i64 c], .int .i64 m] w (Num (Ge.rsv a b c m) w) := by
  obtain ⟨B0, HX⟩ := gbox a b c w
  obtain ⟨w0, hw0⟩ : ∃ x, x = w.alloc (GBox a b c) := ⟨_, rfl⟩
  rw [← hw0] at B0 HX
  by_cases ho : Ge.ok a b c
  · have hs : Ge.rsv a b c m = Ge.nd b (Ge.cut m) + 8 := by unfold Ge.rsv; exact if_pos ho
    have hn : Ge.need a b c m = Ge.nd b (Ge.cut m) := by unfold Ge.need; exact if_pos ho
    have hN := Ge.nd_in b (Ge.cut m) ho.1.2.1.1 (Ge.cut_in m).1 (Ge.cut_in m).2
    rw [hs]
    have KN : ∀ y, Calls Try.prog 17 #[.agg #[.int .i64 a, .int .i64 b, .int .i64 c], .int .i64 m] y (Num (Ge.nd b (Ge.cut m)) y) := fun y => by
      have q := need_any a b c m y
      rw [hn] at q
      exact q
    clear hn hs
    generalize Ge.nd b (Ge.cut m) = N at *
    have hw : IntKind.i64.wrap (N + 8) = N + 8 := IntWalk.i64_in _ ⟨by omega, by omega⟩
    have HO := Lib.hid ho
    go_enter Try.func19, Try.ntmps19
    go_upto_region 1 with (fail)
    unfold GBox at hw0
    rw [← hw0]
    clear hw0
    obtain ⟨x00, x01, x02⟩ := HX.out _ (Below.refl _ _)
    go_wp2_with (first
      | (go_at_call 11; refine (check_ok ho _).mono ?_; rintro e1 w1 ⟨rfl, hb1⟩; obtain ⟨x10, x11, x12⟩ := HX.out _ hb1)
      | (go_at_call 17; refine (KN _).mono ?_; rintro e1 w1 ⟨rfl, hb2⟩))
    go_ret
    exact ⟨rfl, B0.out.trans ((hb1.trans (hb2.mono hb1.size)).mono B0.out.size)⟩
  · have hs : Ge.rsv a b c m = 0 := by unfold Ge.rsv; exact if_neg ho
    rw [hs]
    go_enter Try.func19, Try.ntmps19
    go_upto_region 1 with (fail)
    unfold GBox at hw0
    rw [← hw0]
    clear hw0
    obtain ⟨x00, x01, x02⟩ := HX.out _ (Below.refl _ _)
    go_wp2_with (go_at_call 11; refine (check_no ho _).mono ?_; rintro e1 w1 ⟨rfl, hb1⟩)
    go_ret
    exact ⟨rfl, B0.out.trans (hb1.mono B0.out.size)⟩
end Go.Proofs.Ytohphehbfbobnaa

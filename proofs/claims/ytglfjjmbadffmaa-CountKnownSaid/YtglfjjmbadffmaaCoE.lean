/-
  CountOrders walked.
-/
import Derived.Test.YtglfjjmbadffmaaCoD
namespace Go.Proofs.Ytglfjjmbadffmaa
open Go.RowKit

namespace Cn
theorem mk_lt (a b t u : Int) (ha : 0 ≤ a ∧ a ≤ 1099511627776) (hb : 0 ≤ b ∧ b ≤ 1099511627776) (h : a < b) (ht : 0 ≤ t ∧ t ≤ 1048575) : mk a t < mk b u := by
  have h1 := cut_in a _ ha
  have h2 := cut_in b _ hb
  have h3 := cut_in t _ ht
  have h4 := cut_le u 1048575 (by omega)
  unfold mk
  rw [h1, h2, h3]
  omega
theorem mk_one (a t : Int) (ht : 0 ≤ t ∧ t + 1 ≤ 1048575) : mk a (t + 1) = mk a t + 1 := by
  have h1 := cut_in t 1048575 (by omega)
  have h2 := cut_in (t + 1) 1048575 (by omega)
  unfold mk
  rw [h1, h2]
  omega
end Cn
set_option maxHeartbeats 4000000 in
set_option maxRecDepth 100000 in
theorem orders_any (a b t u : Int) (w : World) : Calls Try.prog 6 #[.int .i64 a, .int .i64 b, .int .i64 t, .int .i64 u] w (YesSay w) := by
  obtain ⟨X, HX⟩ : ∃ M, Hid (Cn.mk a t = M) := ⟨_, rfl⟩
  obtain ⟨Y, HY⟩ : ∃ M, Hid (Cn.mk b u = M) := ⟨_, rfl⟩
  have hx0 : 0 ≤ X := by rw [← HX.out]; exact (Cn.mk_le a t).1
  have hx1 : X ≤ 1152921504607895551 := by rw [← HX.out]; exact (Cn.mk_le a t).2
  have K1 : ∀ y, Calls Try.prog 17 #[.int .i64 a, .int .i64 t] y fun e w' => e = .returned (.int .i64 X) ∧ w' = y := fun y => by
    have q := make_any a t y
    rw [HX.out] at q
    exact q
  have K2 : ∀ y, Calls Try.prog 17 #[.int .i64 b, .int .i64 u] y fun e w' => e = .returned (.int .i64 Y) ∧ w' = y := fun y => by
    have q := make_any b u y
    rw [HY.out] at q
    exact q
  by_cases hin : (0 ≤ a ∧ a ≤ 1099511627776) ∧ 0 ≤ t ∧ t < 1048576
  · obtain ⟨⟨a0, a1⟩, t0, t1⟩ := hin
    obtain ⟨l1, l2⟩ := Cn.lv_mk a t ⟨a0, a1⟩ ⟨t0, by omega⟩
    rw [HX.out] at l1 l2
    have KL : ∀ y, Calls Try.prog 19 #[.int .i64 X] y fun e w' => e = .returned (.int .i64 a) ∧ w' = y := fun y => by
      have q := level_any X (by unfold In64; omega) y
      rw [l1] at q
      exact q
    have KT : ∀ y, Calls Try.prog 21 #[.int .i64 X] y fun e w' => e = .returned (.int .i64 t) ∧ w' = y := fun y => by
      have q := tries_any X (by unfold In64; omega) y
      rw [l2] at q
      exact q
    have hw1 : IntKind.i64.wrap (t + 1) = t + 1 := IntWalk.i64_in _ ⟨by omega, by omega⟩
    have hw2 : IntKind.i64.wrap (X + 1) = X + 1 := IntWalk.i64_in _ ⟨by omega, by omega⟩
    have hlt : 0 ≤ b → b ≤ 1099511627776 → a < b → X < Y := fun h1 h2 h3 => by
      rw [← HX.out, ← HY.out]
      exact Cn.mk_lt a b t u ⟨a0, a1⟩ ⟨h1, h2⟩ h3 ⟨t0, by omega⟩
    have K3 : t + 1 < 1048576 → ∀ y, Calls Try.prog 17 #[.int .i64 a, .int .i64 (t + 1)] y fun e w' => e = .returned (.int .i64 (X + 1)) ∧ w' = y := fun h y => by
      have q := make_any a (t + 1) y
      rw [Cn.mk_one a t ⟨t0, by omega⟩, HX.out] at q
      exact q
    have HK3 := Lib.hid K3; clear K3
    have HK1 := Lib.hid K1; clear K1
    have HK2 := Lib.hid K2; clear K2
    have HLT := Lib.hid hlt; clear hlt
    clear l1 l2
    obtain ⟨bq, hbq⟩ : ∃ n : Nat, n < 4 ∧ ((n = 0 → b < 0) ∧ (n = 1 → 0 ≤ b ∧ 1099511627776 < b) ∧ (n = 2 → 0 ≤ b ∧ b ≤ 1099511627776 ∧ b ≤ a) ∧ (n = 3 → 0 ≤ b ∧ b ≤ 1099511627776 ∧ a < b)) := by
      by_cases h0 : b < 0
      · exact ⟨0, by omega, by omega, by omega, by omega, by omega⟩
      · by_cases h1 : 1099511627776 < b
        · exact ⟨1, by omega, by omega, by omega, by omega, by omega⟩
        · by_cases h2 : b ≤ a
          · exact ⟨2, by omega, by omega, by omega, by omega, by omega⟩
          · exact ⟨3, by omega, by omega, by omega, by omega, by omega⟩
    obtain ⟨hb4, hb0, hb1, hb2, hb3⟩ := hbq
    by_cases ht : t + 1 < 1048576
    · have KM := Lib.hid (HK3.out ht)
      obtain rfl | rfl | rfl | rfl : bq = 0 ∨ bq = 1 ∨ bq = 2 ∨ bq = 3 := by omega
      · have g := hb0 rfl
        clear hb0 hb1 hb2 hb3 hb4
        go_enter Try.func6, Try.ntmps6
        go_wp2_with (first
          | (go_at_call 17; with_reducible refine (HK1.out _).mono ?_; rintro e1 w1 ⟨rfl, rfl⟩)
          | (go_at_call 17; with_reducible refine (HK2.out _).mono ?_; rintro e1 w1 ⟨rfl, rfl⟩)
          | (go_at_call 17; with_reducible refine (KM.out _).mono ?_; rintro e1 w1 ⟨rfl, rfl⟩)
          | (go_at_call 19; refine (KL _).mono ?_; rintro e1 w1 ⟨rfl, rfl⟩)
          | (go_at_call 21; refine (KT _).mono ?_; rintro e1 w1 ⟨rfl, rfl⟩)
          | (go_at_call 9; refine (works_any _).mono ?_; rintro e1 w1 ⟨rfl, hb1⟩))
        go_ret
        exact ⟨rfl, hb1⟩
      · have g := hb1 rfl
        obtain ⟨g0, g1⟩ := g
        clear hb0 hb1 hb2 hb3 hb4
        go_enter Try.func6, Try.ntmps6
        go_wp2_with (first
          | (go_at_call 17; with_reducible refine (HK1.out _).mono ?_; rintro e1 w1 ⟨rfl, rfl⟩)
          | (go_at_call 17; with_reducible refine (HK2.out _).mono ?_; rintro e1 w1 ⟨rfl, rfl⟩)
          | (go_at_call 17; with_reducible refine (KM.out _).mono ?_; rintro e1 w1 ⟨rfl, rfl⟩)
          | (go_at_call 19; refine (KL _).mono ?_; rintro e1 w1 ⟨rfl, rfl⟩)
          | (go_at_call 21; refine (KT _).mono ?_; rintro e1 w1 ⟨rfl, rfl⟩)
          | (go_at_call 9; refine (works_any _).mono ?_; rintro e1 w1 ⟨rfl, hb1⟩))
        go_ret
        exact ⟨rfl, hb1⟩
      · have g := hb2 rfl
        obtain ⟨g0, g1, g2⟩ := g
        clear hb0 hb1 hb2 hb3 hb4
        go_enter Try.func6, Try.ntmps6
        go_wp2_with (first
          | (go_at_call 17; with_reducible refine (HK1.out _).mono ?_; rintro e1 w1 ⟨rfl, rfl⟩)
          | (go_at_call 17; with_reducible refine (HK2.out _).mono ?_; rintro e1 w1 ⟨rfl, rfl⟩)
          | (go_at_call 17; with_reducible refine (KM.out _).mono ?_; rintro e1 w1 ⟨rfl, rfl⟩)
          | (go_at_call 19; refine (KL _).mono ?_; rintro e1 w1 ⟨rfl, rfl⟩)
          | (go_at_call 21; refine (KT _).mono ?_; rintro e1 w1 ⟨rfl, rfl⟩)
          | (go_at_call 9; refine (works_any _).mono ?_; rintro e1 w1 ⟨rfl, hb1⟩))
        go_ret
        exact ⟨rfl, hb1⟩
      · have g := hb3 rfl
        obtain ⟨g0, g1, g2⟩ := g
        have g3 := HLT.out g0 g1 g2
        clear hb0 hb1 hb2 hb3 hb4
        go_enter Try.func6, Try.ntmps6
        go_wp2_with (first
          | (go_at_call 17; with_reducible refine (HK1.out _).mono ?_; rintro e1 w1 ⟨rfl, rfl⟩)
          | (go_at_call 17; with_reducible refine (HK2.out _).mono ?_; rintro e1 w1 ⟨rfl, rfl⟩)
          | (go_at_call 17; with_reducible refine (KM.out _).mono ?_; rintro e1 w1 ⟨rfl, rfl⟩)
          | (go_at_call 19; refine (KL _).mono ?_; rintro e1 w1 ⟨rfl, rfl⟩)
          | (go_at_call 21; refine (KT _).mono ?_; rintro e1 w1 ⟨rfl, rfl⟩)
          | (go_at_call 9; refine (works_any _).mono ?_; rintro e1 w1 ⟨rfl, hb1⟩))
        go_ret
        exact ⟨rfl, hb1⟩
    · obtain rfl | rfl | rfl | rfl : bq = 0 ∨ bq = 1 ∨ bq = 2 ∨ bq = 3 := by omega
      · have g := hb0 rfl
        clear hb0 hb1 hb2 hb3 hb4
        go_enter Try.func6, Try.ntmps6
        go_wp2_with (first
          | (go_at_call 17; with_reducible refine (HK1.out _).mono ?_; rintro e1 w1 ⟨rfl, rfl⟩)
          | (go_at_call 17; with_reducible refine (HK2.out _).mono ?_; rintro e1 w1 ⟨rfl, rfl⟩)
          | (go_at_call 19; refine (KL _).mono ?_; rintro e1 w1 ⟨rfl, rfl⟩)
          | (go_at_call 21; refine (KT _).mono ?_; rintro e1 w1 ⟨rfl, rfl⟩)
          | (go_at_call 9; refine (works_any _).mono ?_; rintro e1 w1 ⟨rfl, hb1⟩))
        go_ret
        exact ⟨rfl, hb1⟩
      · have g := hb1 rfl
        obtain ⟨g0, g1⟩ := g
        clear hb0 hb1 hb2 hb3 hb4
        go_enter Try.func6, Try.ntmps6
        go_wp2_with (first
          | (go_at_call 17; with_reducible refine (HK1.out _).mono ?_; rintro e1 w1 ⟨rfl, rfl⟩)
          | (go_at_call 17; with_reducible refine (HK2.out _).mono ?_; rintro e1 w1 ⟨rfl, rfl⟩)
          | (go_at_call 19; refine (KL _).mono ?_; rintro e1 w1 ⟨rfl, rfl⟩)
          | (go_at_call 21; refine (KT _).mono ?_; rintro e1 w1 ⟨rfl, rfl⟩)
          | (go_at_call 9; refine (works_any _).mono ?_; rintro e1 w1 ⟨rfl, hb1⟩))
        go_ret
        exact ⟨rfl, hb1⟩
      · have g := hb2 rfl
        obtain ⟨g0, g1, g2⟩ := g
        clear hb0 hb1 hb2 hb3 hb4
        go_enter Try.func6, Try.ntmps6
        go_wp2_with (first
          | (go_at_call 17; with_reducible refine (HK1.out _).mono ?_; rintro e1 w1 ⟨rfl, rfl⟩)
          | (go_at_call 17; with_reducible refine (HK2.out _).mono ?_; rintro e1 w1 ⟨rfl, rfl⟩)
          | (go_at_call 19; refine (KL _).mono ?_; rintro e1 w1 ⟨rfl, rfl⟩)
          | (go_at_call 21; refine (KT _).mono ?_; rintro e1 w1 ⟨rfl, rfl⟩)
          | (go_at_call 9; refine (works_any _).mono ?_; rintro e1 w1 ⟨rfl, hb1⟩))
        go_ret
        exact ⟨rfl, hb1⟩
      · have g := hb3 rfl
        obtain ⟨g0, g1, g2⟩ := g
        have g3 := HLT.out g0 g1 g2
        clear hb0 hb1 hb2 hb3 hb4
        go_enter Try.func6, Try.ntmps6
        go_wp2_with (first
          | (go_at_call 17; with_reducible refine (HK1.out _).mono ?_; rintro e1 w1 ⟨rfl, rfl⟩)
          | (go_at_call 17; with_reducible refine (HK2.out _).mono ?_; rintro e1 w1 ⟨rfl, rfl⟩)
          | (go_at_call 19; refine (KL _).mono ?_; rintro e1 w1 ⟨rfl, rfl⟩)
          | (go_at_call 21; refine (KT _).mono ?_; rintro e1 w1 ⟨rfl, rfl⟩)
          | (go_at_call 9; refine (works_any _).mono ?_; rintro e1 w1 ⟨rfl, hb1⟩))
        go_ret
        exact ⟨rfl, hb1⟩
  · have HK1 := Lib.hid K1; clear K1
    have HK2 := Lib.hid K2; clear K2
    obtain ⟨n, hn4, h0, h1, h2, h3⟩ : ∃ n : Nat, n < 4 ∧ (n = 0 → a < 0) ∧ (n = 1 → 0 ≤ a ∧ 1099511627776 < a) ∧ (n = 2 → 0 ≤ a ∧ a ≤ 1099511627776 ∧ t < 0) ∧ (n = 3 → 0 ≤ a ∧ a ≤ 1099511627776 ∧ 0 ≤ t ∧ 1048576 ≤ t) := by
      by_cases h0 : a < 0
      · exact ⟨0, by omega, by omega, by omega, by omega, by omega⟩
      · by_cases h1 : 1099511627776 < a
        · exact ⟨1, by omega, by omega, by omega, by omega, by omega⟩
        · by_cases h2 : t < 0
          · exact ⟨2, by omega, by omega, by omega, by omega, by omega⟩
          · exact ⟨3, by omega, by omega, by omega, by omega, by omega⟩
    clear hin
    obtain rfl | rfl | rfl | rfl : n = 0 ∨ n = 1 ∨ n = 2 ∨ n = 3 := by omega
    · have g := h0 rfl
      clear h0 h1 h2 h3 hn4
      go_enter Try.func6, Try.ntmps6
      go_wp2_with (first
        | (go_at_call 17; with_reducible refine (HK1.out _).mono ?_; rintro e1 w1 ⟨rfl, rfl⟩)
        | (go_at_call 17; with_reducible refine (HK2.out _).mono ?_; rintro e1 w1 ⟨rfl, rfl⟩)
        | (go_at_call 9; refine (works_any _).mono ?_; rintro e1 w1 ⟨rfl, hb1⟩))
      go_ret
      exact ⟨rfl, hb1⟩
    · have g := h1 rfl
      obtain ⟨g0, g1⟩ := g
      clear h0 h1 h2 h3 hn4
      go_enter Try.func6, Try.ntmps6
      go_wp2_with (first
        | (go_at_call 17; with_reducible refine (HK1.out _).mono ?_; rintro e1 w1 ⟨rfl, rfl⟩)
        | (go_at_call 17; with_reducible refine (HK2.out _).mono ?_; rintro e1 w1 ⟨rfl, rfl⟩)
        | (go_at_call 9; refine (works_any _).mono ?_; rintro e1 w1 ⟨rfl, hb1⟩))
      go_ret
      exact ⟨rfl, hb1⟩
    · have g := h2 rfl
      obtain ⟨g0, g1, g2⟩ := g
      clear h0 h1 h2 h3 hn4
      go_enter Try.func6, Try.ntmps6
      go_wp2_with (first
        | (go_at_call 17; with_reducible refine (HK1.out _).mono ?_; rintro e1 w1 ⟨rfl, rfl⟩)
        | (go_at_call 17; with_reducible refine (HK2.out _).mono ?_; rintro e1 w1 ⟨rfl, rfl⟩)
        | (go_at_call 9; refine (works_any _).mono ?_; rintro e1 w1 ⟨rfl, hb1⟩))
      go_ret
      exact ⟨rfl, hb1⟩
    · have g := h3 rfl
      obtain ⟨g0, g1, g2, g3⟩ := g
      clear h0 h1 h2 h3 hn4
      go_enter Try.func6, Try.ntmps6
      go_wp2_with (first
        | (go_at_call 17; with_reducible refine (HK1.out _).mono ?_; rintro e1 w1 ⟨rfl, rfl⟩)
        | (go_at_call 17; with_reducible refine (HK2.out _).mono ?_; rintro e1 w1 ⟨rfl, rfl⟩)
        | (go_at_call 9; refine (works_any _).mono ?_; rintro e1 w1 ⟨rfl, hb1⟩))
      go_ret
      exact ⟨rfl, hb1⟩
end Go.Proofs.Ytglfjjmbadffmaa

/-
  Contracts: within, Of, age; the reference's Of, Age.
-/
import Derived.Test.YthgjfjmampmiiaaVcA
namespace Go.Proofs.Ythgjfjmampmiiaa
open Go.RowKit

def NuSay (k : Int) (w : World) (e : Ending) (w' : World) : Prop := e = .returned (.int .i64 k) ∧ Below w.heap.size w w'
set_option maxHeartbeats 1000000 in
set_option maxRecDepth 100000 in
theorem within_any (v l m : Int) (w : World) : Calls Try.prog 15 #[.int .i64 v, .int .i64 l, .int .i64 m] w fun e w' => e = .returned (.bool (decide (l ≤ v ∧ v ≤ m))) ∧ w' = w := by
  by_cases h1 : l ≤ v
  · by_cases h2 : v ≤ m
    · rw [decide_eq_true (And.intro h1 h2)]
      go_enter Try.func15, Try.ntmps15
      go_wp2
      go_ret
      exact ⟨rfl, rfl⟩
    · rw [decide_eq_false (fun h => h2 h.2)]
      have h2' : m < v := by omega
      go_enter Try.func15, Try.ntmps15
      go_wp2
      go_ret
      exact ⟨rfl, rfl⟩
  · rw [decide_eq_false (fun h => h1 h.1)]
    have h1' : v < l := by omega
    go_enter Try.func15, Try.ntmps15
    go_wp2
    go_ret
    exact ⟨rfl, rfl⟩
theorem Vc.of_if {s l a : Int} (h : 1 ≤ s ∧ s ≤ 64 ∧ 0 ≤ l ∧ l ≤ s ∧ 0 ≤ a ∧ a ≤ 1099511627776) : Vc.of s l a = (s - l) * (a + 1) * 1000 / (s + l) := by unfold Vc.of; rw [if_pos h]
theorem Vc.of_no {s l a : Int} (h : ¬ (1 ≤ s ∧ s ≤ 64 ∧ 0 ≤ l ∧ l ≤ s ∧ 0 ≤ a ∧ a ≤ 1099511627776)) : Vc.of s l a = 0 := by unfold Vc.of; rw [if_neg h]
set_option maxHeartbeats 1000000 in
set_option maxRecDepth 100000 in
theorem of_any (s l a : Int) (w : World) : Calls Try.prog 8 #[.int .i64 s, .int .i64 l, .int .i64 a] w fun e w' => e = .returned (.int .i64 (Vc.of s l a)) ∧ w' = w := by
  have W1 : ∀ w, Calls Try.prog 15 #[.int .i64 s, .int .i64 1, .int .i64 64] w fun e w' => e = .returned (.bool (decide (1 ≤ s ∧ s ≤ 64))) ∧ w' = w := within_any _ _ _
  have W2 : ∀ w, Calls Try.prog 15 #[.int .i64 l, .int .i64 0, .int .i64 s] w fun e w' => e = .returned (.bool (decide (0 ≤ l ∧ l ≤ s))) ∧ w' = w := within_any _ _ _
  have W3 : ∀ w, Calls Try.prog 15 #[.int .i64 a, .int .i64 0, .int .i64 1099511627776] w fun e w' => e = .returned (.bool (decide (0 ≤ a ∧ a ≤ 1099511627776))) ∧ w' = w := within_any _ _ _
  by_cases h1 : 1 ≤ s ∧ s ≤ 64
  · rw [decide_eq_true h1] at W1
    by_cases h2 : 0 ≤ l ∧ l ≤ s
    · rw [decide_eq_true h2] at W2
      by_cases h3 : 0 ≤ a ∧ a ≤ 1099511627776
      · rw [decide_eq_true h3] at W3
        have hall : 1 ≤ s ∧ s ≤ 64 ∧ 0 ≤ l ∧ l ≤ s ∧ 0 ≤ a ∧ a ≤ 1099511627776 := ⟨h1.1, h1.2, h2.1, h2.2, h3.1, h3.2⟩
        rw [Vc.of_if hall]
        have ht := Vc.top_in hall
        have hr := Vc.of_in s l a
        rw [Vc.of_if hall] at hr
        obtain ⟨T, hT⟩ : ∃ T, (s - l) * (a + 1) = T := ⟨_, rfl⟩
        rw [hT] at ht hr ⊢
        have hw1 : IntKind.i64.wrap (s - l) = s - l := IntWalk.i64_in _ ⟨by omega, by omega⟩
        have hw2 : IntKind.i64.wrap (a + 1) = a + 1 := IntWalk.i64_in _ ⟨by omega, by omega⟩
        have hw3 : IntKind.i64.wrap ((s - l) * (a + 1)) = T := by rw [hT]; exact IntWalk.i64_in _ ⟨by omega, by omega⟩
        have hw4 : IntKind.i64.wrap (T * 1000) = T * 1000 := IntWalk.i64_in _ ⟨by omega, by omega⟩
        have hw5 : IntKind.i64.wrap (s + l) = s + l := IntWalk.i64_in _ ⟨by omega, by omega⟩
        have hn0 : ¬ s + l = 0 := by omega
        obtain ⟨R, hR⟩ : ∃ R, T * 1000 / (s + l) = R := ⟨_, rfl⟩
        have hw6 : IntKind.i64.wrap ((T * 1000).tdiv (s + l)) = R := by
          rw [← hR, Int.tdiv_eq_ediv_of_nonneg (by omega)]
          exact IntWalk.i64_in _ ⟨by omega, by omega⟩
        rw [hR]
        clear hr hR hT ht hall
        go_enter Try.func8, Try.ntmps8
        go_wp2_with (first
          | (go_at_call 15; first | (with_reducible refine (W1 _).mono ?_; rintro e1 w1 ⟨rfl, rfl⟩) | (with_reducible refine (W2 _).mono ?_; rintro e1 w1 ⟨rfl, rfl⟩) | (with_reducible refine (W3 _).mono ?_; rintro e1 w1 ⟨rfl, rfl⟩)))
        go_ret
        exact ⟨rfl, rfl⟩
      · rw [decide_eq_false h3] at W3
        rw [Vc.of_no (by omega)]
        go_enter Try.func8, Try.ntmps8
        go_wp2_with (first
          | (go_at_call 15; first | (with_reducible refine (W1 _).mono ?_; rintro e1 w1 ⟨rfl, rfl⟩) | (with_reducible refine (W2 _).mono ?_; rintro e1 w1 ⟨rfl, rfl⟩) | (with_reducible refine (W3 _).mono ?_; rintro e1 w1 ⟨rfl, rfl⟩)))
        go_ret
        exact ⟨rfl, rfl⟩
    · rw [decide_eq_false h2] at W2
      rw [Vc.of_no (by omega)]
      go_enter Try.func8, Try.ntmps8
      go_wp2_with (first
        | (go_at_call 15; first | (with_reducible refine (W1 _).mono ?_; rintro e1 w1 ⟨rfl, rfl⟩) | (with_reducible refine (W2 _).mono ?_; rintro e1 w1 ⟨rfl, rfl⟩)))
      go_ret
      exact ⟨rfl, rfl⟩
  · rw [decide_eq_false h1] at W1
    rw [Vc.of_no (by omega)]
    go_enter Try.func8, Try.ntmps8
    go_wp2_with (first
      | (go_at_call 15; (with_reducible refine (W1 _).mono ?_; rintro e1 w1 ⟨rfl, rfl⟩)))
    go_ret
    exact ⟨rfl, rfl⟩
set_option maxHeartbeats 1000000 in
set_option maxRecDepth 100000 in
theorem age_any (now t : Int) (hn : In64 now) (ht : In64 t) (w : World) : Calls Try.prog 17 #[.int .i64 t, .int .i64 now] w fun e w' => e = .returned (.int .i64 (Vc.age now t)) ∧ w' = w := by
  unfold In64 at hn ht
  by_cases h1 : now ≤ t
  · have e : Vc.age now t = 0 := by unfold Vc.age; rw [if_pos h1]
    rw [e]
    go_enter Try.func17, Try.ntmps17
    go_wp2
    go_ret
    exact ⟨rfl, rfl⟩
  · have hw : IntKind.u64.wrap (IntKind.u64.wrap now - IntKind.u64.wrap t) = now - t := by
      simp [IntKind.wrap, IntKind.bits, IntKind.signed]
      omega
    have hw1 : wrap64 1099511627776 = 1099511627776 := IntWalk.wrap64_in _ (by omega)
    by_cases h2 : now - t ≤ 1099511627776
    · have e : Vc.age now t = now - t := by unfold Vc.age; rw [if_neg h1, if_pos h2]
      have hw2 : wrap64 (now - t) = now - t := IntWalk.wrap64_in _ (by omega)
      rw [e]
      go_enter Try.func17, Try.ntmps17
      go_wp2
      all_goals first | (exfalso; rw [hw] at *; omega) | (go_ret; exact ⟨rfl, rfl⟩)
    · have e : Vc.age now t = 1099511627776 := by unfold Vc.age; rw [if_neg h1, if_neg h2]
      rw [e]
      go_enter Try.func17, Try.ntmps17
      go_wp2
      all_goals first | (exfalso; rw [hw] at *; omega) | (go_ret; exact ⟨rfl, rfl⟩)
end Go.Proofs.Ythgjfjmampmiiaa

/-
  Package usage: a table in memory; contracts: within, cut, age, mayBe, is, has.
-/
import Derived.Test.YtnnalemboeccbaaUsB
namespace Go.Proofs.Ytnnalemboeccbaa
open Go.RowKit

/-- A number answered; nothing old turns. -/
def NuSay (k : Int) (w : World) (e : Ending) (w' : World) : Prop := e = .returned (.int .i64 k) ∧ Below w.heap.size w w'
/-- A table in memory: its box, its rows. -/
structure TAt (t : TypeId) (B : Nat) (y : World) (b : Nat) (v : Value) (T : List Us.S) : Prop where
  box : y.heap[b]? = some (.cells #[v] t (0, 0))
  own : SgO B y v T
  lo : B ≤ b
section
variable {t : TypeId} {B b : Nat} {w y : World} {v : Value} {T : List Us.S}
theorem TAt.cell (h : TAt t B y b v T) : y.cell? ⟨b, 0, none⟩ = some v := by rw [cell_of_row y b _ _ _ _ h.box]; rfl
theorem TAt.old (h : TAt t B w b v T) (hb : Below w.heap.size w y) : TAt t B y b v T := ⟨(hb.block _ (lt_of_block h.box)).trans h.box, h.own.old hb, h.lo⟩
theorem TAt.only {k : Nat} (h : TAt t B w b v T) (ho : Only k w y) (hb : b ≠ k) (hk : v.ownBlock ≠ some k) : TAt t B y b v T := ⟨(ho.block _ (lt_of_block h.box) hb).trans h.box, h.own.only ho hk, h.lo⟩
/-- Its rows lie elsewhere than a block of another type. -/
theorem TAt.ne (h : TAt t B y b v T) (ht : t ≠ 30) {g : Nat} (hg : v.ownBlock = some g) : b ≠ g := fun e => by
  obtain ⟨_, cur, hc⟩ := h.own.blk hg
  rw [← e, h.box] at hc
  injection hc with hc
  injection hc with _ hc _
  exact ht hc
end
set_option maxHeartbeats 1000000 in
set_option maxRecDepth 100000 in
theorem within_any (v l m : Int) (w : World) : Calls Try.prog 39 #[.int .i64 v, .int .i64 l, .int .i64 m] w fun e w' => e = .returned (.bool (decide (l ≤ v ∧ v ≤ m))) ∧ w' = w := by
  by_cases h1 : l ≤ v
  · by_cases h2 : v ≤ m
    · rw [decide_eq_true (And.intro h1 h2)]
      go_enter Try.func39, Try.ntmps39
      go_wp2
      go_ret
      exact ⟨rfl, rfl⟩
    · rw [decide_eq_false (fun h => h2 h.2)]
      have h2' : m < v := by omega
      go_enter Try.func39, Try.ntmps39
      go_wp2
      go_ret
      exact ⟨rfl, rfl⟩
  · rw [decide_eq_false (fun h => h1 h.1)]
    have h1' : v < l := by omega
    go_enter Try.func39, Try.ntmps39
    go_wp2
    go_ret
    exact ⟨rfl, rfl⟩
set_option maxHeartbeats 1000000 in
set_option maxRecDepth 100000 in
theorem cut_any (n most : Int) (hm : 0 ≤ most) (w : World) : Calls Try.prog 26 #[.int .i64 n, .int .i64 most] w fun e w' => e = .returned (.int .i64 (Us.cut n most)) ∧ w' = w := by
  by_cases h0 : n < 0
  · have e : Us.cut n most = 0 := by unfold Us.cut; rw [if_pos h0]
    rw [e]
    go_enter Try.func26, Try.ntmps26
    go_wp2
    all_goals first | (exfalso; split at * <;> omega) | (go_ret; exact ⟨rfl, rfl⟩)
  · by_cases h1 : most < n
    · have e : Us.cut n most = most := by unfold Us.cut; rw [if_neg h0, if_pos h1]
      rw [e]
      go_enter Try.func26, Try.ntmps26
      go_wp2
      all_goals first | (exfalso; split at * <;> omega) | (go_ret; exact ⟨rfl, rfl⟩)
    · have e : Us.cut n most = n := by unfold Us.cut; rw [if_neg h0, if_neg h1]
      rw [e]
      go_enter Try.func26, Try.ntmps26
      go_wp2
      all_goals first | (exfalso; split at * <;> omega) | (go_ret; exact ⟨rfl, rfl⟩)
set_option maxHeartbeats 1000000 in
set_option maxRecDepth 100000 in
theorem age_any (n : Int) (w : World) : Calls Try.prog 37 #[.int .i64 n] w fun e w' => e = .returned (.int .i64 (Us.ageOf n)) ∧ w' = w := by
  have H1 : ∀ w, Calls Try.prog 26 #[.int .i64 n, .int .i64 1099511627776] w fun e w' => e = .returned (.int .i64 (Us.ageOf n)) ∧ w' = w := cut_any n _ (by omega)
  generalize Us.ageOf n = a at *
  go_enter Try.func37, Try.ntmps37
  go_wp2_with (go_at_call 26; refine (H1 _).mono ?_; rintro e1 w1 ⟨rfl, rfl⟩)
  go_ret
  exact ⟨rfl, rfl⟩
set_option maxHeartbeats 1000000 in
set_option maxRecDepth 100000 in
theorem maybe_any (x : Us.S) (w : World) : Calls Try.prog 40 #[.agg (SgA x)] w (BoSay (decide (Us.ok x)) w) := by
  have H1 : ∀ w, Calls Try.prog 39 #[.int .i64 x.s, .int .i64 0, .int .i64 3] w fun e w' => e = .returned (.bool (decide (0 ≤ x.s ∧ x.s ≤ 3))) ∧ w' = w := within_any _ _ _
  have H2 : ∀ w, Calls Try.prog 39 #[.int .i64 x.l, .int .i64 0, .int .i64 64] w fun e w' => e = .returned (.bool (decide (0 ≤ x.l ∧ x.l ≤ 64))) ∧ w' = w := within_any _ _ _
  have H3 : ∀ w, Calls Try.prog 39 #[.int .i64 x.a, .int .i64 0, .int .i64 1099511627776] w fun e w' => e = .returned (.bool (decide (0 ≤ x.a ∧ x.a ≤ 1099511627776))) ∧ w' = w := within_any _ _ _
  have B0 : Hid (Below w.heap.size w (w.alloc (.cells #[.int .i64 x.s, .int .i64 x.l, .int .i64 x.a] 30))) := (Below.refl _ w).alloc (Nat.le_refl _) _
  have E : decide (Us.ok x) = (decide (0 ≤ x.s ∧ x.s ≤ 3) && (decide (0 ≤ x.l ∧ x.l ≤ 64) && decide (0 ≤ x.a ∧ x.a ≤ 1099511627776))) := by unfold Us.ok; exact (Bool.decide_and _ _).trans (congrArg _ (Bool.decide_and _ _))
  rw [E]
  clear E
  generalize decide (0 ≤ x.s ∧ x.s ≤ 3) = b1 at *
  generalize decide (0 ≤ x.l ∧ x.l ≤ 64) = b2 at *
  generalize decide (0 ≤ x.a ∧ x.a ≤ 1099511627776) = b3 at *
  unfold SgA
  cases b1 <;> cases b2 <;> cases b3 <;>
  · go_enter Try.func40, Try.ntmps40
    go_wp2_with (go_at_call 39; first | (with_reducible refine (H1 _).mono ?_; rintro e1 w1 ⟨rfl, rfl⟩) | (with_reducible refine (H2 _).mono ?_; rintro e1 w1 ⟨rfl, rfl⟩) | (with_reducible refine (H3 _).mono ?_; rintro e1 w1 ⟨rfl, rfl⟩))
    go_ret
    exact ⟨rfl, B0.out⟩
set_option maxHeartbeats 1000000 in
set_option maxRecDepth 100000 in
theorem is_any (k : Int) (x : Us.S) (w : World) : Calls Try.prog 34 #[.int .i64 k, .agg (SgA x)] w (BoSay (decide (x.s = k)) w) := by
  have B0 : Hid (Below w.heap.size w (w.alloc (.cells #[.int .i64 x.s, .int .i64 x.l, .int .i64 x.a] 30))) := (Below.refl _ w).alloc (Nat.le_refl _) _
  unfold SgA
  by_cases h : x.s = k
  · rw [decide_eq_true h]
    rw [h] at B0 ⊢
    clear h
    go_enter Try.func34, Try.ntmps34
    go_wp2
    go_ret
    exact ⟨rfl, B0.out⟩
  · rw [decide_eq_false h]
    have h2 : (x.s == k) = false := by simp [h]
    clear h
    go_enter Try.func34, Try.ntmps34
    go_wp2
    go_ret
    exact ⟨rfl, B0.out⟩
set_option maxHeartbeats 1000000 in
set_option maxRecDepth 100000 in
theorem has_any {B b : Nat} {v : Value} {T : List Us.S} (i : Int) (w : World) (h : TAt 50 B w b v T) (hl : T.length ≤ 32) : Calls Try.prog 38 #[.pointer (some ⟨b, 0, none⟩), .int .i64 i] w fun e w' => e = .returned (.bool (decide (Us.has T i))) ∧ w' = w := by
  obtain ⟨p, c, rfl⟩ := h.own.len
  have hc := h.cell
  have hw : IntKind.i64.wrap ((T.length : Int) - 1) = (T.length : Int) - 1 := IntWalk.i64_in _ ⟨by omega, by omega⟩
  have H1 : ∀ w, Calls Try.prog 39 #[.int .i64 i, .int .i64 0, .int .i64 ((T.length : Int) - 1)] w fun e w' => e = .returned (.bool (decide (Us.has T i))) ∧ w' = w := fun w => by
    have := within_any i 0 ((T.length : Int) - 1) w
    have e : decide (0 ≤ i ∧ i ≤ (T.length : Int) - 1) = decide (Us.has T i) := decide_eq_decide.2 (by unfold Us.has; omega)
    rw [e] at this
    exact this
  clear h
  generalize decide (Us.has T i) = r at *
  go_enter Try.func38, Try.ntmps38
  go_wp2_with (go_at_call 39; with_reducible refine (H1 _).mono ?_; rintro e1 w1 ⟨rfl, rfl⟩)
  go_ret
  exact ⟨rfl, rfl⟩
end Go.Proofs.Ytnnalemboeccbaa

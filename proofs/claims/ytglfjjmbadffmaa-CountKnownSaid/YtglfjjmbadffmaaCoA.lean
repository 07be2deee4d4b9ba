/-
  Package count: cut, Make, Level, Tries; the reference's too.
-/
import Derived.Test.YtglfjjmbadffmaaDkG
namespace Go.Proofs.Ytglfjjmbadffmaa
open Go.RowKit

namespace Cn
/-- A number cut to its place. -/
def cut (n most : Int) : Int := if n < 0 then 0 else if most < n then most else n
def mk (l t : Int) : Int := cut l 1099511627776 * 1048576 + cut t 1048575
def pos (v : Int) : Int := if v < 0 then 0 else v
def lv (v : Int) : Int := pos v / 1048576
def tr (v : Int) : Int := pos v % 1048576
theorem cut_le (n most : Int) (h : 0 ≤ most) : 0 ≤ cut n most ∧ cut n most ≤ most := by
  unfold cut
  split
  · omega
  · split <;> omega
theorem cut_in (n most : Int) (h : 0 ≤ n ∧ n ≤ most) : cut n most = n := by
  unfold cut
  rw [if_neg (by omega), if_neg (by omega)]
theorem mk_le (l t : Int) : 0 ≤ mk l t ∧ mk l t ≤ 1152921504607895551 := by
  have h1 := cut_le l 1099511627776 (by omega)
  have h2 := cut_le t 1048575 (by omega)
  unfold mk
  omega
theorem pos_le (v : Int) : 0 ≤ pos v := by
  unfold pos
  split <;> omega
theorem lv_mk (l t : Int) (hl : 0 ≤ l ∧ l ≤ 1099511627776) (ht : 0 ≤ t ∧ t ≤ 1048575) : lv (mk l t) = l ∧ tr (mk l t) = t := by
  have h1 := cut_in l 1099511627776 hl
  have h2 := cut_in t 1048575 ht
  unfold lv tr pos mk
  rw [h1, h2, if_neg (by omega)]
  omega
end Cn
set_option maxHeartbeats 1000000 in
set_option maxRecDepth 100000 in
theorem cut_any (n most : Int) (hm : 0 ≤ most) (w : World) : Calls Try.prog 35 #[.int .i64 n, .int .i64 most] w fun e w' => e = .returned (.int .i64 (Cn.cut n most)) ∧ w' = w := by
  by_cases h0 : n < 0
  · have e : Cn.cut n most = 0 := by unfold Cn.cut; rw [if_pos h0]
    rw [e]
    go_enter Try.func35, Try.ntmps35
    go_wp2
    all_goals first | (exfalso; split at * <;> omega) | (go_ret; exact ⟨rfl, rfl⟩)
  · by_cases h1 : most < n
    · have e : Cn.cut n most = most := by unfold Cn.cut; rw [if_neg h0, if_pos h1]
      rw [e]
      go_enter Try.func35, Try.ntmps35
      go_wp2
      all_goals first | (exfalso; split at * <;> omega) | (go_ret; exact ⟨rfl, rfl⟩)
    · have e : Cn.cut n most = n := by unfold Cn.cut; rw [if_neg h0, if_neg h1]
      rw [e]
      go_enter Try.func35, Try.ntmps35
      go_wp2
      all_goals first | (exfalso; split at * <;> omega) | (go_ret; exact ⟨rfl, rfl⟩)
set_option maxHeartbeats 1000000 in
set_option maxRecDepth 100000 in
theorem rcut_any (n most : Int) (w : World) : Calls Try.prog 36 #[.int .i64 n, .int .i64 most] w fun e w' => e = .returned (.int .i64 (Cn.cut n most)) ∧ w' = w := by
  by_cases h0 : n < 0
  · have e : Cn.cut n most = 0 := by unfold Cn.cut; rw [if_pos h0]
    rw [e]
    go_enter Try.func36, Try.ntmps36
    go_wp2
    go_ret
    exact ⟨rfl, rfl⟩
  · by_cases h1 : most < n
    · have e : Cn.cut n most = most := by unfold Cn.cut; rw [if_neg h0, if_pos h1]
      rw [e]
      go_enter Try.func36, Try.ntmps36
      go_wp2
      go_ret
      exact ⟨rfl, rfl⟩
    · have e : Cn.cut n most = n := by unfold Cn.cut; rw [if_neg h0, if_neg h1]
      rw [e]
      go_enter Try.func36, Try.ntmps36
      go_wp2
      go_ret
      exact ⟨rfl, rfl⟩
theorem mk_wrap (l t : Int) : IntKind.i64.wrap (Cn.cut l 1099511627776 * 1048576) = Cn.cut l 1099511627776 * 1048576 ∧ IntKind.i64.wrap (Cn.cut l 1099511627776 * 1048576 + Cn.cut t 1048575) = Cn.cut l 1099511627776 * 1048576 + Cn.cut t 1048575 := by
  have h1 := Cn.cut_le l 1099511627776 (by omega)
  have h2 := Cn.cut_le t 1048575 (by omega)
  exact ⟨IntWalk.i64_in _ ⟨by omega, by omega⟩, IntWalk.i64_in _ ⟨by omega, by omega⟩⟩
set_option maxHeartbeats 1000000 in
set_option maxRecDepth 100000 in
theorem make_any (l t : Int) (w : World) : Calls Try.prog 17 #[.int .i64 l, .int .i64 t] w fun e w' => e = .returned (.int .i64 (Cn.mk l t)) ∧ w' = w := by
  obtain ⟨hw1, hw2⟩ := mk_wrap l t
  have H1 : ∀ w, Calls Try.prog 35 #[.int .i64 l, .int .i64 1099511627776] w fun e w' => e = .returned (.int .i64 (Cn.cut l 1099511627776)) ∧ w' = w := cut_any l _ (by omega)
  have H2 : ∀ w, Calls Try.prog 35 #[.int .i64 t, .int .i64 1048575] w fun e w' => e = .returned (.int .i64 (Cn.cut t 1048575)) ∧ w' = w := cut_any t _ (by omega)
  go_enter Try.func17, Try.ntmps17
  go_wp2_with (go_at_call 35; first | (with_reducible refine (H1 _).mono ?_; rintro e1 w1 ⟨rfl, rfl⟩) | (with_reducible refine (H2 _).mono ?_; rintro e1 w1 ⟨rfl, rfl⟩))
  go_ret
  exact ⟨rfl, rfl⟩
set_option maxHeartbeats 1000000 in
set_option maxRecDepth 100000 in
theorem rmake_any (l t : Int) (w : World) : Calls Try.prog 18 #[.int .i64 l, .int .i64 t] w fun e w' => e = .returned (.int .i64 (Cn.mk l t)) ∧ w' = w := by
  obtain ⟨hw1, hw2⟩ := mk_wrap l t
  have H1 : ∀ w, Calls Try.prog 36 #[.int .i64 l, .int .i64 1099511627776] w fun e w' => e = .returned (.int .i64 (Cn.cut l 1099511627776)) ∧ w' = w := rcut_any l _
  have H2 : ∀ w, Calls Try.prog 36 #[.int .i64 t, .int .i64 1048575] w fun e w' => e = .returned (.int .i64 (Cn.cut t 1048575)) ∧ w' = w := rcut_any t _
  go_enter Try.func18, Try.ntmps18
  go_wp2_with (go_at_call 36; first | (with_reducible refine (H1 _).mono ?_; rintro e1 w1 ⟨rfl, rfl⟩) | (with_reducible refine (H2 _).mono ?_; rintro e1 w1 ⟨rfl, rfl⟩))
  go_ret
  exact ⟨rfl, rfl⟩
theorem lv_wrap (v : Int) (h0 : 0 ≤ v) (hv : In64 v) : IntKind.i64.wrap (v.tdiv 1048576) = v / 1048576 ∧ IntKind.i64.wrap (v.tmod 1048576) = v % 1048576 := by
  unfold In64 at hv
  rw [Int.tdiv_eq_ediv_of_nonneg h0, Int.tmod_eq_emod_of_nonneg h0]
  exact ⟨IntWalk.i64_in _ ⟨by omega, by omega⟩, IntWalk.i64_in _ ⟨by omega, by omega⟩⟩
theorem pos_neg (v : Int) (h : v < 0) : Cn.lv v = 0 ∧ Cn.tr v = 0 := by unfold Cn.lv Cn.tr Cn.pos; rw [if_pos h]; exact ⟨rfl, rfl⟩
theorem pos_pos (v : Int) (h : 0 ≤ v) : Cn.lv v = v / 1048576 ∧ Cn.tr v = v % 1048576 := by unfold Cn.lv Cn.tr Cn.pos; rw [if_neg (by omega)]; exact ⟨rfl, rfl⟩
set_option maxHeartbeats 1000000 in
set_option maxRecDepth 100000 in
theorem level_any (v : Int) (hv : In64 v) (w : World) : Calls Try.prog 19 #[.int .i64 v] w fun e w' => e = .returned (.int .i64 (Cn.lv v)) ∧ w' = w := by
  by_cases h0 : v < 0
  · rw [(pos_neg v h0).1]
    go_enter Try.func19, Try.ntmps19
    go_wp2
    go_ret
    exact ⟨rfl, rfl⟩
  · obtain ⟨h1, _⟩ := lv_wrap v (by omega) hv
    rw [(pos_pos v (by omega)).1]
    go_enter Try.func19, Try.ntmps19
    go_wp2
    go_ret
    exact ⟨rfl, rfl⟩
set_option maxHeartbeats 1000000 in
set_option maxRecDepth 100000 in
theorem tries_any (v : Int) (hv : In64 v) (w : World) : Calls Try.prog 21 #[.int .i64 v] w fun e w' => e = .returned (.int .i64 (Cn.tr v)) ∧ w' = w := by
  by_cases h0 : v < 0
  · rw [(pos_neg v h0).2]
    go_enter Try.func21, Try.ntmps21
    go_wp2
    go_ret
    exact ⟨rfl, rfl⟩
  · obtain ⟨_, h1⟩ := lv_wrap v (by omega) hv
    rw [(pos_pos v (by omega)).2]
    go_enter Try.func21, Try.ntmps21
    go_wp2
    go_ret
    exact ⟨rfl, rfl⟩
set_option maxHeartbeats 1000000 in
set_option maxRecDepth 100000 in
theorem rlevel_any (v : Int) (hv : In64 v) (w : World) : Calls Try.prog 20 #[.int .i64 v] w fun e w' => e = .returned (.int .i64 (Cn.lv v)) ∧ w' = w := by
  by_cases h0 : v < 0
  · rw [(pos_neg v h0).1]
    go_enter Try.func20, Try.ntmps20
    go_wp2
    go_ret
    exact ⟨rfl, rfl⟩
  · obtain ⟨h1, _⟩ := lv_wrap v (by omega) hv
    rw [(pos_pos v (by omega)).1]
    go_enter Try.func20, Try.ntmps20
    go_wp2
    go_ret
    exact ⟨rfl, rfl⟩
set_option maxHeartbeats 1000000 in
set_option maxRecDepth 100000 in
theorem rtries_any (v : Int) (hv : In64 v) (w : World) : Calls Try.prog 22 #[.int .i64 v] w fun e w' => e = .returned (.int .i64 (Cn.tr v)) ∧ w' = w := by
  by_cases h0 : v < 0
  · rw [(pos_neg v h0).2]
    go_enter Try.func22, Try.ntmps22
    go_wp2
    go_ret
    exact ⟨rfl, rfl⟩
  · obtain ⟨_, h1⟩ := lv_wrap v (by omega) hv
    rw [(pos_pos v (by omega)).2]
    go_enter Try.func22, Try.ntmps22
    go_wp2
    go_ret
    exact ⟨rfl, rfl⟩
end Go.Proofs.Ytglfjjmbadffmaa

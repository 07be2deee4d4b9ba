/-
  CountMakes walked.
-/
import Derived.Test.YtglfjjmbadffmaaCoC
namespace Go.Proofs.Ytglfjjmbadffmaa
open Go.RowKit

set_option maxHeartbeats 4000000 in
set_option maxRecDepth 100000 in
theorem makes_any (l t v : Int) (hv : In64 v) (w : World) : Calls Try.prog 4 #[.int .i64 l, .int .i64 t, .int .i64 v] w (YesSay w) := by
  obtain ⟨M, HM⟩ : ∃ M, Hid (Cn.mk l t = M) := ⟨_, rfl⟩
  obtain ⟨L, HL⟩ : ∃ M, Hid (Cn.lv v = M) := ⟨_, rfl⟩
  obtain ⟨R, HR⟩ : ∃ M, Hid (Cn.tr v = M) := ⟨_, rfl⟩
  have HV := Lib.hid hv; clear hv
  go_enter Try.func4, Try.ntmps4
  go_wp2_with (first
    | (go_at_call 17; refine (make_any l t _).mono ?_; rw [HM.out]; rintro e1 w1 ⟨rfl, rfl⟩)
    | (go_at_call 18; refine (rmake_any l t _).mono ?_; rw [HM.out]; rintro e1 w1 ⟨rfl, rfl⟩)
    | (go_at_call 19; refine (level_any v HV.out _).mono ?_; rw [HL.out]; rintro e1 w1 ⟨rfl, rfl⟩)
    | (go_at_call 20; refine (rlevel_any v HV.out _).mono ?_; rw [HL.out]; rintro e1 w1 ⟨rfl, rfl⟩)
    | (go_at_call 21; refine (tries_any v HV.out _).mono ?_; rw [HR.out]; rintro e1 w1 ⟨rfl, rfl⟩)
    | (go_at_call 22; refine (rtries_any v HV.out _).mono ?_; rw [HR.out]; rintro e1 w1 ⟨rfl, rfl⟩)
    | (go_at_call 9; refine (works_any _).mono ?_; rintro e1 w1 ⟨rfl, hb1⟩))
  go_ret
  exact ⟨rfl, hb1⟩
end Go.Proofs.Ytglfjjmbadffmaa

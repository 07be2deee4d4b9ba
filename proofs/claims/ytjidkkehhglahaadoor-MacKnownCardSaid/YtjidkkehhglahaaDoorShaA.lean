/-
  Contracts: math/bits.RotateLeft32 and sha.right.
-/
import Derived.Test.YtjidkkehhglahaaDoorChecked
import Derived.WalkKit
import Derived.Lib.Hide
import Derived.WalkSpells
import Derived.WalkLawsBesides
import Derived.Test.YtjidkkehhglahaaDoorShaM
namespace Go.Proofs.YtjidkkehhglahaaDoor
open Go.RowKit

theorem okn_cases {n : Int} (h : Sha.okn n = true) : n = 2 ∨ n = 6 ∨ n = 7 ∨ n = 11 ∨ n = 13 ∨ n = 17 ∨ n = 18 ∨ n = 19 ∨ n = 22 ∨ n = 25 := by
  simp [Sha.okn] at h; omega

theorem rot_hb (n : Int) (h : Sha.okn n = true) : bits .and .u64 (IntKind.u64.wrap (-n)) 31 = 32 - n := by
  rcases okn_cases h with rfl | rfl | rfl | rfl | rfl | rfl | rfl | rfl | rfl | rfl <;> decide +kernel

set_option maxHeartbeats 400000 in
theorem rot_any (x n : Int) (h : Sha.okn n = true) (w : World) :
    Calls Tryd.prog 43 #[.int .u32 x, .int .i64 (-n)] w fun e w' => e = .returned (.int .u32 (Sha.rr n x)) ∧ w = w' := by
  have hb := rot_hb n h
  have hlo : 2 ≤ n ∧ n ≤ 25 := by rcases okn_cases h with rfl | rfl | rfl | rfl | rfl | rfl | rfl | rfl | rfl | rfl <;> omega
  obtain ⟨h1, h2⟩ := hlo
  clear h
  have h3 : IntKind.u64.wrap (32 - (32 - n)) = n := by rw [IntWalk.u64_in _ (by omega)]; omega
  go_enter Tryd.func43, Tryd.ntmps43
  go_wp2
  go_ret
  refine ⟨?_, rfl⟩
  unfold Sha.rr
  rfl

set_option maxHeartbeats 400000 in
theorem right_any (n x : Int) (h : Sha.okn n = true) (w : World) :
    Calls Tryd.prog 37 #[.int .i64 n, .int .u32 x] w fun e w' => e = .returned (.int .u32 (Sha.rr n x)) ∧ w = w' := by
  have hlo : 2 ≤ n ∧ n ≤ 25 := by rcases okn_cases h with rfl | rfl | rfl | rfl | rfl | rfl | rfl | rfl | rfl | rfl <;> omega
  obtain ⟨h1, h2⟩ := hlo
  have H := Lib.hid h; clear h
  go_enter Tryd.func37, Tryd.ntmps37
  go_wp2_with fail
  refine (rot_any x n H.out w).mono ?_
  rintro e w' ⟨rfl, rfl⟩
  go_wp2
  go_ret
  exact ⟨rfl, rfl⟩

end Go.Proofs.YtjidkkehhglahaaDoor

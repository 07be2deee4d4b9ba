/-
  Contracts: known, Pick.
-/
import Derived.Test.YtkgefogkdmbciaaPaS
namespace Go.Proofs.Ytkgefogkdmbciaa
open Go.RowKit

namespace Pk
def K9 : List Int := [7, 0, 0, 0, 0, 0, 0, 1, 2]
theorem k9_eq : [7] ++ e8 258 8 = K9 := by rw [e8_eight]; rfl
theorem k9_len : K9.length = 9 := rfl
theorem k9_vb : vb K9 = 7 := by unfold vb; rfl
theorem k9_nx : nx 1 K9 = K9.drop 1 := by unfold nx; rfl
theorem k9_nb : nb 1 K9 false = false := by unfold nb; rfl
theorem k9_vi : vi (K9.drop 1) = 258 := by unfold vi in8 be; rfl
theorem k9_nx2 : nx 8 (K9.drop 1) = [] := by unfold nx; rfl
theorem k9_nb2 : nb 8 (K9.drop 1) false = false := by unfold nb; rfl
theorem k9_en : en [] false = 0 := by unfold en; rfl
theorem k9_len2 : (K9.drop 1).length = 8 := rfl
attribute [irreducible] K9
end Pk
/-- Which number Pick answers. -/
def pk (k n : Int) : Nat := (if k.tmod n < 0 then k.tmod n + n else k.tmod n).toNat
theorem pk_lt (k n : Int) (h1 : 1 ≤ n) : (pk k n : Int) < n := by
  have hlt : k.tmod n < n := Int.tmod_lt_of_pos k (by omega)
  have hge : -n < k.tmod n := by
    have h := Int.tmod_lt_of_pos (-k) (show 0 < n by omega)
    rw [Int.neg_tmod] at h
    omega
  unfold pk
  split <;> omega
attribute [irreducible] pk
set_option maxHeartbeats 1000000 in
theorem pick_at (k n : Int) (h1 : 1 ≤ n) (hn : n ≤ 1000000) (w : World) : Calls Try.prog 25 #[.int .i64 k, .int .i64 n] w fun r w' => w' = w ∧ r = .returned (.int .i64 (pk k n : Nat)) := by
  have hlt : k.tmod n < n := Int.tmod_lt_of_pos k (by omega)
  have hge : -n < k.tmod n := by
    have h := Int.tmod_lt_of_pos (-k) (show 0 < n by omega)
    rw [Int.neg_tmod] at h
    omega
  have hw : IntKind.i64.wrap (k.tmod n) = k.tmod n := IntWalk.i64_in _ ⟨by omega, by omega⟩
  have hnz : n ≠ 0 := by omega
  have hw2 : IntKind.i64.wrap (k.tmod n + n) = k.tmod n + n := IntWalk.i64_in _ ⟨by omega, by omega⟩
  by_cases h0 : k.tmod n < 0
  · have hp : ((pk k n : Nat) : Int) = k.tmod n + n := by unfold pk; rw [if_pos h0]; omega
    go_enter Try.func25, Try.ntmps25
    go_wp2
    go_ret
    exact ⟨rfl, by first | rfl | (rw [hp]; rfl)⟩
  · have h0' : 0 ≤ k.tmod n := by omega
    have hp : ((pk k n : Nat) : Int) = k.tmod n := by unfold pk; rw [if_neg h0]; omega
    go_enter Try.func25, Try.ntmps25
    go_wp2
    go_ret
    exact ⟨rfl, by first | rfl | (rw [hp]; rfl)⟩
end Go.Proofs.Ytkgefogkdmbciaa

/-
  Contracts: known, Pick.
-/
import Derived.Test.YtgfnpofoedambaaPaS
namespace Go.Proofs.Ytgfnpofoedambaa
open Go.RowKit

namespace Pk
def K9 : List Int := [7, 0, 0, 0, 0, 0, 0, 1, 2]
theorem k9_eq : [7] ++ e8 258 8 = K9 := by rw [e8_eight]; rfl
theorem k9_len : K9.length = 9 := rfl
theorem k9_vb : vb K9 = 7 := by unfold vb; rfl
theorem k9_nx : nx 1 K9 = K9.drop 1 := by unfold nx; rfl
theorem k9_nb : nb 1 K9 false = false := by unfold nb; rfl
theorem k9_vi : vi (K9.drop 1) = 258 := by unfold vi in8 be; rfl
theorem k9_nx2 : nx 8 (K9.drop 1) = [] := by unfold nx; rfl
theorem k9_nb2 : nb 8 (K9.drop 1) false = false := by unfold nb; rfl
theorem k9_en : en [] false = 0 := by unfold en; rfl
theorem k9_len2 : (K9.drop 1).length = 8 := rfl
attribute [irreducible] K9
end Pk
/-- Which number Pick answers. -/
def pk (k n : Int) : Nat := (if k.tmod n < 0 then k.tmod n + n else k.tmod n).toNat
theorem pk_lt (k n : Int) (h1 : 1 ≤ n) : (pk k n : Int) < n := by
  have hlt : k.tmod n < n := Int.tmod_lt_of_pos k (by omega)
  have hge : -n < k.tmod n := by
    have h := Int.tmod_lt_of_pos (-k) (show 0 < n by omega)
    rw [Int.neg_tmod] at h
    omega
  unfold pk
  split <;> omega
attribute [irreducible] pk
end Go.Proofs.Ytgfnpofoedambaa

/-
  The reference's table is the program's.
-/
import Derived.Test.YtkajigfdfbgphaaTurA
namespace Go.Proofs.Ytkajigfdfbgphaa
namespace Aes
/-- S of the first n bytes. -/
def sfor (n : Nat) : List Int := (List.range n).map fun b => sb (inv b)
theorem TB_sfor : TB = sfor 256 := by decide +kernel
theorem sfor_len (n : Nat) : (sfor n).length = n := by simp [sfor]
theorem sfor_succ (n : Nat) : sfor (n + 1) = sfor n ++ [sb (inv n)] := by simp [sfor, List.range_succ]
attribute [irreducible] sfor
end Aes
end Go.Proofs.Ytkajigfdfbgphaa

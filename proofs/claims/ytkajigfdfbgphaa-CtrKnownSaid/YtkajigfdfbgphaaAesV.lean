/-
  The published blocks, by the plain functions.
-/
import Derived.Test.YtkajigfdfbgphaaAesS
import Derived.Test.YtkajigfdfbgphaaAesD
namespace Go.Proofs.Ytkajigfdfbgphaa
open Go.RowKit
namespace Aes
/-- The bytes 0, 1, 2 ..; the standard's block. -/
def cnt (n : Nat) : List Int := (List.range n).map fun (i : Nat) => (i : Int)
def pl : List Int := (List.range 16).map fun (i : Nat) => 17 * (i : Int)
set_option maxRecDepth 100000 in
theorem kn16 : blk TB (kws TB (cnt 16)) 9 pl = [105, 196, 224, 216, 106, 123, 4, 48, 216, 205, 183, 128, 112, 180, 197, 90] := by decide +kernel
set_option maxRecDepth 100000 in
theorem kn24 : blk TB (kws TB (cnt 24)) 11 pl = [221, 169, 124, 164, 134, 76, 223, 224, 110, 175, 112, 160, 236, 13, 113, 145] := by decide +kernel
set_option maxRecDepth 100000 in
theorem kn32 : blk TB (kws TB (cnt 32)) 13 pl = [142, 162, 183, 202, 81, 103, 69, 191, 234, 252, 73, 144, 75, 73, 96, 137] := by decide +kernel
end Aes
end Go.Proofs.Ytkajigfdfbgphaa

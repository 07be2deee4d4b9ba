/-
  The reference's turn: the program's formula, the 'or' the other way round.
-/
import Derived.Test.YtjidkkehhglahaaDoorShaA
namespace Go.Proofs.YtjidkkehhglahaaDoor
open Go.RowKit

theorem bits_or_swap (k : IntKind) (a b : Int) : bits .or k a b = bits .or k b a := by
  show k.wrap ((BitVec.ofInt k.bits a ||| BitVec.ofInt k.bits b).toNat) = k.wrap ((BitVec.ofInt k.bits b ||| BitVec.ofInt k.bits a).toNat)
  rw [BitVec.or_comm]

set_option maxHeartbeats 400000 in
theorem rotr_any (n x : Int) (h : Sha.okn n = true) (w : World) :
    Calls Tryd.prog 45 #[.int .u64 n, .int .u32 x] w fun e w' => e = .returned (.int .u32 (Sha.rr n x)) ∧ w = w' := by
  have hlo : 2 ≤ n ∧ n ≤ 25 := by rcases okn_cases h with rfl | rfl | rfl | rfl | rfl | rfl | rfl | rfl | rfl | rfl <;> omega
  obtain ⟨h1, h2⟩ := hlo
  clear h
  have h3 : IntKind.u64.wrap (32 - n) = 32 - n := by rw [IntWalk.u64_in _ (by omega)]
  go_enter Tryd.func45, Tryd.ntmps45
  go_wp2
  go_ret
  refine ⟨?_, rfl⟩
  exact congrArg (fun z => Ending.returned (.int .u32 z)) ((bits_or_swap .u32 _ _).trans (by unfold Sha.rr; rfl))

end Go.Proofs.YtjidkkehhglahaaDoor

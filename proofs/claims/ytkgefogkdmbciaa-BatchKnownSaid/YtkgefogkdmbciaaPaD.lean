/-
  Contract: pack.Ref.
-/
import Derived.Test.YtkgefogkdmbciaaPaC
namespace Go.Proofs.Ytkgefogkdmbciaa
open Go.RowKit

theorem exec_arr {P : Program} {a : Act} {w : World} {D : Option Tmp} {T : TypeId} {ps : String} {af : Array Edge} {gd : Option (Nat × Bool)} (ty : TypeId) (x : Operand) (b o : Nat) (A : Array Value) (d : TypeDesc) (hx : a.eval x = .pointer (some ⟨b, o, none⟩)) (hc : w.rangeAt b o A.toList)
    (hu : P.underlying ty = some d) (hd : d.isRow = true) (hi : (P.info? ty).map (·.size) = some A.size) :
    (execOp a.eval { dst := D, op := .load ty x, type := T, pos := ps, after := af, guard := gd }).run P w = .ok (.value (.agg A)) w := by
  have h := run_loadAt_mid (P := P) w b o ty A.toList d hc hu hd (by simpa using hi)
  unfold execOp
  simp only [hx, h, Sem.run_bind, Sem.run_pure, Result.andThen_ok, Array.toArray_toList]
theorem all_oneCell_toArray {l : List Value} (h : ∀ v ∈ l, v.oneCell' = true) : l.toArray.all (·.oneCell') = true := by
  rw [Array.all_eq_true_iff_forall_mem]
  intro v hv
  exact h v (by simpa using hv)
/-- A ref, as bytes. -/
def Pk.ref (r : Int × List Int) : List Int := Pk.e8 r.1 8 ++ r.2
end Go.Proofs.Ytkgefogkdmbciaa

/-
  What the rows of the laws share.
-/
import Derived.Test.YtkgefogkdmbciaaRows
import Derived.Test.YtkgefogkdmbciaaPaT
import Derived.ChangeSame
import Derived.ChangeVars
import Derived.ChangeSlices
import Derived.JoinedOf
import Derived.JoinedAt
import Derived.RowKit
import Derived.RowKitTokens
import Derived.ProofKit
import Derived.SizedLaws
import Derived.Carry
import Derived.OpenShut
import Derived.Deep.Slices
import Derived.ChangeArms
namespace Go.Proofs.Ytkgefogkdmbciaa
open Go.ChangeShapes Go.WideShapes Go.RowKit

theorem Try.own : ownKnob Try.prog.godebug = none := by kernel_rfl
theorem laid_out : laidOutB Try.prog = true := by kernel_rfl
theorem trod_below_args {H : Type} {enc : TypeId × Value → H} {t : TypeId} {W W' : World} {v : Value} {d : DataW H} {ps : List MemPlace}
    (h : DataW.Trod enc Try.prog W 0 (fun _ => true) true t v d ps) (hb : Below W.heap.size W W') (hlt : ∀ x ∈ ps, x.block < W.heap.size) (hr : Try.prog.readableRec t = true) (hrow : t < Try.prog.types.size) :
    DataW.Trod enc Try.prog W' 0 (fun b => decide (b < W.heap.size)) true t v d ps :=
  Below.trod laid_out hr hrow h hb hlt
theorem in64_wf {n : Int} (h : (Lit.int .i64 n).wf = true) : Pk.In64 n := by
  simp [Lit.wf, IntKind.min, IntKind.max, IntKind.signed, IntKind.bits] at h
  unfold Pk.In64
  omega
theorem Try.cells_int : Try.prog.cellsOf 3 = 1 := by kernel_rfl
theorem cells_sum : Try.prog.cellsOf 23 = 32 := by kernel_rfl
/-- A digest's cells. -/
theorem open_sum_cells {H : Type} {enc : TypeId × Value → H} {W : World} {fuel : Nat} {cs : List Value} {x : DataW H × List MemPlace} (hlen : cs.length = 32) (hf : DataW.trod enc Try.prog W 0 (fun _ => true) true fuel 23 cs = some x) :
    ∃ l : List Int, cs = l.map (Value.int .u8) ∧ l.length = 32 ∧ Sha.Byt l := by
  obtain ⟨xs, m, _, _, _, hlx, hel⟩ := DataW.trod_array Try.underlying23 hf
  have each : ∀ i, i < 32 → ∃ n : Int, cs[i]? = some (.int .u8 n) ∧ 0 ≤ n ∧ n ≤ 255 := fun i hi => by
    have h1 := hel i hi
    rw [Try.cells5, Nat.mul_one, List.getElem?_eq_getElem (by omega)] at h1
    obtain ⟨n, e, _, hw⟩ := DataW.trod_int Try.underlying5 h1
    refine ⟨n, ?_, ?_⟩
    · have h2 := congrArg (fun z : List Value => z[0]?) e
      simpa [List.getElem?_take, List.getElem?_drop, Value.cells] using h2
    · simp [Lit.wf, IntKind.min, IntKind.max, IntKind.signed, IntKind.bits] at hw
      omega
  refine ⟨cs.map intOf, ?_, by simpa using hlen, fun x hx => ?_⟩
  · rw [List.map_map]
    apply List.ext_getElem?
    intro i
    by_cases hi : i < 32
    · obtain ⟨n, h1, _⟩ := each i hi
      rw [List.getElem?_map, h1]
      rfl
    · rw [List.getElem?_eq_none (by omega), List.getElem?_eq_none (by rw [List.length_map]; omega)]
  · rw [List.mem_map] at hx
    obtain ⟨y, hy, rfl⟩ := hx
    obtain ⟨i, hi, rfl⟩ := List.mem_iff_getElem.1 hy
    obtain ⟨n, h1, h2⟩ := each i (by omega)
    rw [List.getElem?_eq_getElem hi] at h1
    have h3 := Option.some.inj h1
    rw [h3]
    exact h2
def RefC (r : Int × List Int) : List Value := Value.int .i64 r.1 :: r.2.map (Value.int .u8)
def RefOk (r : Int × List Int) : Prop := r.2.length = 32 ∧ Sha.Byt r.2 ∧ Pk.In64 r.1
end Go.Proofs.Ytkgefogkdmbciaa

/-
  What the rows of the laws of layer 10 share: a geometry and a place that came in.
-/
import Derived.Test.YtohphehbfbobnaaRows
import Derived.Test.YtohphehbfbobnaaGeA
import Derived.ChangeSame
import Derived.ChangeVars
import Derived.ChangeSlices
import Derived.JoinedOf
import Derived.JoinedAt
import Derived.RowKit
import Derived.RowKitTokens
import Derived.ProofKit
import Derived.SizedLaws
import Derived.Carry
import Derived.OpenShut
import Derived.Deep.Slices
import Derived.ChangeArms
namespace Go.Proofs.Ytohphehbfbobnaa
open Go.ChangeShapes Go.WideShapes Go.RowKit

theorem Try.own : ownKnob Try.prog.godebug = none := by kernel_rfl
theorem laid_out : laidOutB Try.prog = true := by kernel_rfl
theorem trod_below_args {H : Type} {enc : TypeId × Value → H} {t : TypeId} {W W' : World} {v : Value} {d : DataW H} {ps : List MemPlace}
    (h : DataW.Trod enc Try.prog W 0 (fun _ => true) true t v d ps) (hb : Below W.heap.size W W') (hlt : ∀ x ∈ ps, x.block < W.heap.size) (hr : Try.prog.readableRec t = true) (hrow : t < Try.prog.types.size) :
    DataW.Trod enc Try.prog W' 0 (fun b => decide (b < W.heap.size)) true t v d ps :=
  Below.trod laid_out hr hrow h hb hlt
theorem Try.cells_int : Try.prog.cellsOf 3 = 1 := by kernel_rfl
theorem cells_geo : Try.prog.cellsOf 23 = 3 := by kernel_rfl
theorem cells_place : Try.prog.cellsOf 25 = 2 := by kernel_rfl
theorem open_geo {H : Type} {enc : TypeId × Value → H} {W : World} {base : Nat} {v : Value} {d : DataW H} {ps : List MemPlace} (hok : Value.okWide Try.prog W .any base 23 v)
    (h : DataW.Trod enc Try.prog W 0 (fun _ => true) true 23 v d ps) : ∃ a b c : Int, v = .agg #[.int .i64 a, .int .i64 b, .int .i64 c] := by
  obtain ⟨cs, rfl, hsz, _⟩ : ∃ cs, v = .agg cs ∧ cs.size = Try.prog.cellsOf 23 ∧ Row.okWide Try.prog W .any base 23 cs := by
    simpa [Value.okWide, Try.underlying23] using hok
  rw [cells_geo] at hsz
  obtain ⟨fuel, hf⟩ := h
  have hf' : DataW.trod enc Try.prog W 0 (fun _ => true) true fuel 23 cs.toList = some (d, ps) := hf
  obtain ⟨xs, m, _, _, _, hlx, hel⟩ := DataW.trod_struct Try.underlying23 hf'
  have hl3 : xs.length = 3 := by simpa using hlx
  have h0 := hel 0 _ rfl
  have h1 := hel 1 _ rfl
  have h2 := hel 2 _ rfl
  rw [List.getElem?_eq_getElem (by omega)] at h0 h1 h2
  obtain ⟨a, e0, _, _⟩ := DataW.trod_int Try.underlying3 h0
  obtain ⟨b, e1, _, _⟩ := DataW.trod_int Try.underlying3 h1
  obtain ⟨c, e2, _, _⟩ := DataW.trod_int Try.underlying3 h2
  refine ⟨a, b, c, ?_⟩
  obtain ⟨cs⟩ := cs
  rcases cs with _ | ⟨u, _ | ⟨x, _ | ⟨y, _ | ⟨z, r⟩⟩⟩⟩
  · simp at hsz
  · simp at hsz
  · simp at hsz
  · obtain rfl : u = .int .i64 a := by simpa [Try.cells_int, Value.cells] using e0
    obtain rfl : x = .int .i64 b := by simpa [Try.cells_int, Value.cells] using e1
    obtain rfl : y = .int .i64 c := by simpa [Try.cells_int, Value.cells] using e2
    rfl
  · simp at hsz
theorem open_place {H : Type} {enc : TypeId × Value → H} {W : World} {base : Nat} {v : Value} {d : DataW H} {ps : List MemPlace} (hok : Value.okWide Try.prog W .any base 25 v)
    (h : DataW.Trod enc Try.prog W 0 (fun _ => true) true 25 v d ps) : ∃ p q : Int, v = .agg #[.int .i64 p, .int .i64 q] := by
  obtain ⟨cs, rfl, hsz, _⟩ : ∃ cs, v = .agg cs ∧ cs.size = Try.prog.cellsOf 25 ∧ Row.okWide Try.prog W .any base 25 cs := by
    simpa [Value.okWide, Try.underlying25] using hok
  rw [cells_place] at hsz
  obtain ⟨fuel, hf⟩ := h
  have hf' : DataW.trod enc Try.prog W 0 (fun _ => true) true fuel 25 cs.toList = some (d, ps) := hf
  obtain ⟨xs, m, _, _, _, hlx, hel⟩ := DataW.trod_struct Try.underlying25 hf'
  have hl2 : xs.length = 2 := by simpa using hlx
  have h0 := hel 0 _ rfl
  have h1 := hel 1 _ rfl
  rw [List.getElem?_eq_getElem (by omega)] at h0 h1
  obtain ⟨a, e0, _, _⟩ := DataW.trod_int Try.underlying3 h0
  obtain ⟨b, e1, _, _⟩ := DataW.trod_int Try.underlying3 h1
  refine ⟨a, b, ?_⟩
  obtain ⟨cs⟩ := cs
  rcases cs with _ | ⟨u, _ | ⟨x, _ | ⟨y, r⟩⟩⟩
  · simp at hsz
  · simp at hsz
  · obtain rfl : u = .int .i64 a := by simpa [Try.cells_int, Value.cells] using e0
    obtain rfl : x = .int .i64 b := by simpa [Try.cells_int, Value.cells] using e1
    rfl
  · simp at hsz
end Go.Proofs.Ytohphehbfbobnaa

/-
  What the rows of the laws share.
-/
import Derived.Test.YtgfnpofoedambaaRows
import Derived.Test.YtgfnpofoedambaaPaT
import Derived.ChangeSame
import Derived.ChangeVars
import Derived.ChangeSlices
import Derived.JoinedOf
import Derived.JoinedAt
import Derived.RowKit
import Derived.RowKitTokens
import Derived.ProofKit
import Derived.SizedLaws
import Derived.Carry
import Derived.OpenShut
import Derived.Deep.Slices
import Derived.ChangeArms
namespace Go.Proofs.Ytgfnpofoedambaa
open Go.ChangeShapes Go.WideShapes Go.RowKit

theorem Try.own : ownKnob Try.prog.godebug = none := by kernel_rfl
theorem laid_out : laidOutB Try.prog = true := by kernel_rfl
theorem trod_below_args {H : Type} {enc : TypeId × Value → H} {t : TypeId} {W W' : World} {v : Value} {d : DataW H} {ps : List MemPlace}
    (h : DataW.Trod enc Try.prog W 0 (fun _ => true) true t v d ps) (hb : Below W.heap.size W W') (hlt : ∀ x ∈ ps, x.block < W.heap.size) (hr : Try.prog.readableRec t = true) (hrow : t < Try.prog.types.size) :
    DataW.Trod enc Try.prog W' 0 (fun b => decide (b < W.heap.size)) true t v d ps :=
  Below.trod laid_out hr hrow h hb hlt
theorem in64_wf {n : Int} (h : (Lit.int .i64 n).wf = true) : Pk.In64 n := by
  simp [Lit.wf, IntKind.min, IntKind.max, IntKind.signed, IntKind.bits] at h
  unfold Pk.In64
  omega
theorem Try.cells_int : Try.prog.cellsOf 3 = 1 := by kernel_rfl
theorem cells_sum : Try.prog.cellsOf 23 = 32 := by kernel_rfl
theorem cells_ref : Try.prog.cellsOf 25 = 33 := by kernel_rfl
/-- A digest's cells. -/
theorem open_sum_cells {H : Type} {enc : TypeId × Value → H} {W : World} {fuel : Nat} {cs : List Value} {x : DataW H × List MemPlace} (hlen : cs.length = 32) (hf : DataW.trod enc Try.prog W 0 (fun _ => true) true fuel 23 cs = some x) :
    ∃ l : List Int, cs = l.map (Value.int .u8) ∧ l.length = 32 ∧ Sha.Byt l := by
  obtain ⟨xs, m, _, _, _, hlx, hel⟩ := DataW.trod_array Try.underlying23 hf
  have each : ∀ i, i < 32 → ∃ n : Int, cs[i]? = some (.int .u8 n) ∧ 0 ≤ n ∧ n ≤ 255 := fun i hi => by
    have h1 := hel i hi
    rw [Try.cells5, Nat.mul_one, List.getElem?_eq_getElem (by omega)] at h1
    obtain ⟨n, e, _, hw⟩ := DataW.trod_int Try.underlying5 h1
    refine ⟨n, ?_, ?_⟩
    · have h2 := congrArg (fun z : List Value => z[0]?) e
      simpa [List.getElem?_take, List.getElem?_drop, Value.cells] using h2
    · simp [Lit.wf, IntKind.min, IntKind.max, IntKind.signed, IntKind.bits] at hw
      omega
  refine ⟨cs.map intOf, ?_, by simpa using hlen, fun x hx => ?_⟩
  · rw [List.map_map]
    apply List.ext_getElem?
    intro i
    by_cases hi : i < 32
    · obtain ⟨n, h1, _⟩ := each i hi
      rw [List.getElem?_map, h1]
      rfl
    · rw [List.getElem?_eq_none (by omega), List.getElem?_eq_none (by rw [List.length_map]; omega)]
  · rw [List.mem_map] at hx
    obtain ⟨y, hy, rfl⟩ := hx
    obtain ⟨i, hi, rfl⟩ := List.mem_iff_getElem.1 hy
    obtain ⟨n, h1, h2⟩ := each i (by omega)
    rw [List.getElem?_eq_getElem hi] at h1
    have h3 := Option.some.inj h1
    rw [h3]
    exact h2
def RefC (r : Int × List Int) : List Value := Value.int .i64 r.1 :: r.2.map (Value.int .u8)
def RefOk (r : Int × List Int) : Prop := r.2.length = 32 ∧ Sha.Byt r.2 ∧ Pk.In64 r.1
/-- A ref's cells. -/
theorem open_ref_cells {H : Type} {enc : TypeId × Value → H} {W : World} {fuel : Nat} {cs : List Value} {x : DataW H × List MemPlace} (hlen : cs.length = 33) (hf : DataW.trod enc Try.prog W 0 (fun _ => true) true fuel 25 cs = some x) :
    ∃ r : Int × List Int, cs = RefC r ∧ RefOk r := by
  obtain ⟨xs, m, _, _, _, hlx, hel⟩ := DataW.trod_struct Try.underlying25 hf
  have hl2 : xs.length = 2 := by simpa using hlx
  have h0 := hel 0 _ rfl
  have h1 := hel 1 _ rfl
  rw [List.getElem?_eq_getElem (by omega)] at h0 h1
  obtain ⟨k, e0, _, w0⟩ := DataW.trod_int Try.underlying3 h0
  have h1' : DataW.trod enc Try.prog W 0 (fun _ => true) true m 23 ((cs.drop 1).take 32) = some xs[1] := by
    rw [← cells_sum]; exact h1
  obtain ⟨l, e1, hl, hb⟩ := open_sum_cells (by simp; omega) h1'
  have hd : (cs.drop 1).take 32 = cs.drop 1 := List.take_of_length_le (by simp; omega)
  rw [hd] at e1
  refine ⟨(k, l), ?_, hl, hb, in64_wf w0⟩
  unfold RefC
  rw [← e1]
  cases cs with
  | nil => simp at hlen
  | cons c r =>
    have e2 : c = .int .i64 k := by simpa [Try.cells_int, Value.cells] using e0
    rw [e2]
    rfl
theorem open_ref {H : Type} {enc : TypeId × Value → H} {W : World} {base : Nat} {v : Value} {d : DataW H} {ps : List MemPlace} (hok : Value.okWide Try.prog W .any base 25 v)
    (h : DataW.Trod enc Try.prog W 0 (fun _ => true) true 25 v d ps) : ∃ r : Int × List Int, v = R33 r ∧ RefOk r := by
  obtain ⟨cs, rfl, hsz, _⟩ : ∃ cs, v = .agg cs ∧ cs.size = Try.prog.cellsOf 25 ∧ Row.okWide Try.prog W .any base 25 cs := by
    simpa [Value.okWide, Try.underlying25] using hok
  rw [cells_ref] at hsz
  obtain ⟨fuel, hf⟩ := h
  obtain ⟨r, e, hr⟩ := open_ref_cells (cs := cs.toList) (by simpa using hsz) hf
  refine ⟨r, ?_, hr⟩
  unfold R33
  congr 1
  apply Array.ext'
  rw [e]
  rfl
end Go.Proofs.Ytgfnpofoedambaa

/-
  A node that comes in.
-/
import Derived.Test.YtgfnpofoedambaaPaRo
import Derived.Test.YtgfnpofoedambaaPgB
namespace Go.Proofs.Ytgfnpofoedambaa
open Go.ChangeShapes Go.WideShapes Go.RowKit

theorem byte_wf {n : Int} (h : (Lit.int .u8 n).wf = true) : 0 ≤ n ∧ n ≤ 255 := by
  simp [Lit.wf, IntKind.min, IntKind.max, IntKind.signed, IntKind.bits] at h
  omega
theorem flat_of (r : Nat → Pg.Rf) : ∀ (n : Nat) (C : List Value), C.length = n * 33 → (∀ i, i < n → (C.drop (i * 33)).take 33 = cl (r i)) → C = cs ((List.range n).map r)
  | 0, C, hl, _ => by
    have : C = [] := List.eq_nil_of_length_eq_zero (by omega)
    rw [this]
    unfold cs
    rfl
  | n + 1, C, hl, h => by
    have h1 := h n (by omega)
    have h2 := flat_of r n (C.take (n * 33)) (by rw [List.length_take]; omega) (fun i hi => by
      rw [← h i (by omega), List.drop_take, List.take_take, Nat.min_eq_left (by omega)])
    rw [List.range_succ, List.map_append, cs_append, ← h2, List.map_cons, List.map_nil, cs_cons]
    have h3 : cs ([] : List Pg.Rf) = [] := by unfold cs; rfl
    have h4 : (C.drop (n * 33)).take 33 = C.drop (n * 33) := List.take_of_length_le (by rw [List.length_drop]; omega)
    rw [h3, List.append_nil, ← h1, h4, List.take_append_drop]
theorem cells_page : Try.prog.cellsOf 28 = 264 := by kernel_rfl
theorem open_page {H : Type} {enc : TypeId × Value → H} {W : World} {base : Nat} {v : Value} {d : DataW H} {ps : List MemPlace} (hok : Value.okWide Try.prog W .any base 28 v)
    (h : DataW.Trod enc Try.prog W 0 (fun _ => true) true 28 v d ps) : ∃ R : List Pg.Rf, v = PV R ∧ Pg.OkA R := by
  obtain ⟨C, rfl, hsz, _⟩ : ∃ C, v = .agg C ∧ C.size = Try.prog.cellsOf 28 ∧ Row.okWide Try.prog W .any base 28 C := by
    simpa [Value.okWide, Try.underlying28] using hok
  rw [cells_page] at hsz
  obtain ⟨fuel, hf0⟩ := h
  have hf : DataW.trod enc Try.prog W 0 (fun _ => true) true fuel 28 C.toList = some (d, ps) := hf0
  obtain ⟨xs, m, _, _, _, hlx, hel⟩ := DataW.trod_struct Try.underlying28 hf
  have hl1 : xs.length = 1 := by simpa using hlx
  have h0 := hel 0 _ rfl
  rw [List.getElem?_eq_getElem (by omega)] at h0
  have h0' : DataW.trod enc Try.prog W 0 (fun _ => true) true m 26 C.toList = some xs[0] := by
    have e : (C.toList.drop 0).take (Try.prog.cellsOf 26) = C.toList := by
      rw [Try.cellsRefs, List.drop_zero]
      exact List.take_of_length_le (by rw [Array.length_toList, hsz]; exact Nat.le_refl _)
    rw [← e]
    exact h0
  obtain ⟨ys, m2, _, _, _, hly, hey⟩ := DataW.trod_array Try.underlying26 h0'
  have each : ∀ i, i < 8 → ∃ r : Pg.Rf, (C.toList.drop (i * 33)).take 33 = cl r ∧ Pg.Ok r := fun i hi => by
    have h1 := hey i hi
    rw [Try.cellsRef, List.getElem?_eq_getElem (by omega)] at h1
    obtain ⟨r, e, hr⟩ := open_ref_cells (by rw [List.length_take, List.length_drop, Array.length_toList, hsz]; omega) h1
    refine ⟨r, ?_, hr⟩
    rw [e]
    unfold cl RefC
    rfl
  have hch : ∃ r : Nat → Pg.Rf, ∀ i, i < 8 → (C.toList.drop (i * 33)).take 33 = cl (r i) ∧ Pg.Ok (r i) := by
    refine ⟨fun i => if hi : i < 8 then Classical.choose (each i hi) else Pg.zr, fun i hi => ?_⟩
    simp only [hi, dif_pos]
    exact Classical.choose_spec (each i hi)
  obtain ⟨r, hr⟩ := hch
  refine ⟨(List.range 8).map r, ?_, by simp, fun x hx => ?_⟩
  · unfold PV
    rw [← flat_of r 8 C.toList (by rw [Array.length_toList, hsz]) (fun i hi => (hr i hi).1), Array.toArray_toList]
  · rw [List.mem_map] at hx
    obtain ⟨i, hi, rfl⟩ := hx
    exact (hr i (List.mem_range.1 hi)).2
end Go.Proofs.Ytgfnpofoedambaa

/-
  Bytes, and an epoch with a number and a head, that came in.
-/
import Derived.Test.YtkhaiiiioieglaaDoorSeB
namespace Go.Proofs.YtkhaiiiioieglaaDoor
open Go.ChangeShapes Go.WideShapes Go.RowKit

set_option maxRecDepth 100000 in
theorem open_bs_cells {H : Type} {enc : TypeId × Value → H} {W : World} {m : Nat} {c : Value} {x : DataW H × List MemPlace} (hf : DataW.trod enc Tryd.prog W 0 (fun _ => true) true m 22 [c] = some x) :
    ∃ (L : List Int) (p : Option Addr) (cap : Nat), c = .slice p L.length cap ∧ Bs W p cap L := by
  rcases open_ints Tryd.underlying22 Tryd.underlying5 Tryd.cells5 hf with ⟨hcs, _⟩ | ⟨a, len, cap, zs, hcs, _, hl, hm, hz, _, hcell, hwz⟩
  · obtain rfl : c = .slice none 0 0 := by simpa using hcs
    exact ⟨[], none, 0, rfl, bs_none W⟩
  · obtain rfl : c = .slice (some a) len cap := by simpa using hcs
    simp only [if_true] at hz
    have hll : (zs.take len).length = len := by simp; omega
    refine ⟨zs.take len, some a, cap, by rw [hll], ⟨fun x hx => ?_, fun h0 => ?_⟩, ⟨by omega, by unfold maxLen at hm; omega⟩, fun e => by cases e⟩
    · have h := hwz x (List.mem_of_mem_take hx)
      simp [Lit.wf, IntKind.min, IntKind.max, IntKind.signed, IntKind.bits] at h
      omega
    · rw [hll] at h0 ⊢
      obtain ⟨ab, ao, spot⟩ := a
      have hspot : spot = none := by simpa [Addr.add] using World.cell?_spot (hcell 0 (by omega))
      subst hspot
      refine ⟨ab, ao, rfl, fun j hj => ?_⟩
      have h := hcell j (by omega)
      rw [Addr.add_mid] at h
      rw [h]
      congr 2
      simp [List.getD_eq_getElem?_getD, hj]
set_option maxRecDepth 100000 in
/-- A slice of bytes that came in. -/
theorem open_bs {H : Type} {enc : TypeId × Value → H} {W : World} {base : Nat} {v : Value} {d : DataW H} {ps : List MemPlace} (hok : Value.okWide Tryd.prog W .any base 22 v)
    (h : DataW.Trod enc Tryd.prog W 0 (fun _ => true) true 22 v d ps) : ∃ (L : List Int) (p : Option Addr) (cap : Nat), v = .slice p L.length cap ∧ Bs W p cap L := by
  obtain ⟨a0, len, cap, rfl⟩ := okWide_slice Tryd.underlying22 hok
  obtain ⟨fuel, hf⟩ := h
  exact open_bs_cells hf
set_option maxRecDepth 100000 in
/-- An epoch, a number and a head that came in. -/
theorem open_what {H : Type} {enc : TypeId × Value → H} {W : World} {base : Nat} {v : Value} {d : DataW H} {ps : List MemPlace} (hok : Value.okWide Tryd.prog W .any base 24 v)
    (h : DataW.Trod enc Tryd.prog W 0 (fun _ => true) true 24 v d ps) : ∃ (e n : Int) (L : List Int) (p : Option Addr) (cap : Nat), v = .agg #[.int .i64 e, .int .i64 n, .slice p L.length cap] ∧ Bs W p cap L := by
  obtain ⟨cs, rfl, hsz, _⟩ : ∃ cs, v = .agg cs ∧ cs.size = Tryd.prog.cellsOf 24 ∧ Row.okWide Tryd.prog W .any base 24 cs := by
    simpa [Value.okWide, Tryd.underlying24] using hok
  have hc3 : Tryd.prog.cellsOf 24 = 3 := by kernel_rfl
  have hci : Tryd.prog.cellsOf 3 = 1 := by kernel_rfl
  rw [hc3] at hsz
  obtain ⟨fuel, hf⟩ := h
  obtain ⟨xs, m, _, _, _, hlx, hel⟩ := DataW.trod_struct Tryd.underlying24 hf
  obtain ⟨l⟩ := cs
  rcases l with _ | ⟨a, _ | ⟨b, _ | ⟨c, _ | ⟨x, r⟩⟩⟩⟩
  · simp at hsz
  · simp at hsz
  · simp at hsz
  · have hl3 : xs.length = 3 := by simpa using hlx
    have h0 := hel 0 _ rfl
    have h1 := hel 1 _ rfl
    have h2 := hel 2 _ rfl
    rw [List.getElem?_eq_getElem (by omega)] at h0 h1 h2
    obtain ⟨e, e1, _, _⟩ := DataW.trod_int Tryd.underlying3 h0
    obtain ⟨n, e2, _, _⟩ := DataW.trod_int Tryd.underlying3 h1
    obtain ⟨L, p, cap, e3, hb⟩ := open_bs_cells h2
    obtain rfl : a = .int .i64 e := by simpa [hci, Value.cells] using e1
    obtain rfl : b = .int .i64 n := by simpa [hci, Value.cells] using e2
    subst e3
    exact ⟨e, n, L, p, cap, rfl, hb⟩
  · simp at hsz
end Go.Proofs.YtkhaiiiioieglaaDoor

/-
  What came in: calls.
-/
import Derived.Test.YtglfjjmbadffmaaCoRo
import Derived.Test.YtglfjjmbadffmaaCoG
namespace Go.Proofs.Ytglfjjmbadffmaa
open Go.ChangeShapes Go.WideShapes Go.RowKit

theorem cells_law_op : Try.prog.cellsOf 37 = 2 := by kernel_rfl
set_option maxRecDepth 100000 in
theorem open_ops {H : Type} {enc : TypeId × Value → H} {W : World} {base : Nat} {v : Value} {d : DataW H} {ps : List MemPlace} (hok : Value.okWide Try.prog W .any base 22 v)
    (h : DataW.Trod enc Try.prog W 0 (fun _ => true) true 22 v d ps) : ∃ (L : List (Int × Int)) (tp : Option Addr) (cap : Nat), v = .slice tp L.length cap ∧ ORows W tp L := by
  obtain ⟨a0, len, cap, rfl⟩ := okWide_slice Try.underlying22 hok
  obtain ⟨fuel, hf⟩ := h
  rcases Go.Deep.open_slice Try.underlying22 hf with ⟨hcs, _⟩ | ⟨a, len', cap', m, n, D, Pl, hcs, _, hl, hm, hmm, _, hi⟩
  · simp [Value.cells] at hcs
    obtain ⟨rfl, rfl, rfl⟩ := hcs
    exact ⟨[], none, 0, rfl, fun h0 => by simp at h0⟩
  · simp [Value.cells] at hcs
    obtain ⟨rfl, rfl, rfl⟩ := hcs
    simp only [if_true] at hmm
    have key : ∀ i, i < len → ∃ x : Int × Int, ∃ ab ao, a = ⟨ab, ao, none⟩ ∧ OpAt W ab (ao + i * 2) x := fun i hil => by
      obtain ⟨cs0, hc0, _⟩ := hi 0 (by omega)
      rw [cells_law_op, Nat.zero_mul] at hc0
      obtain ⟨_, hcl0, hat0⟩ := World.cells?_some hc0
      have z0 := hat0 0 (by omega)
      rw [List.getElem?_eq_getElem (by omega)] at z0
      obtain ⟨cs', hc, ht⟩ := hi i (by omega)
      rw [cells_law_op] at hc
      obtain ⟨_, hcl, hat⟩ := World.cells?_some hc
      obtain ⟨xs, n', _, _, _, hlx, hel⟩ := DataW.trod_struct Try.underlying37 ht
      match cs', hcl with
      | [u0, u1], _ =>
        have hl7 : xs.length = 2 := by simpa using hlx
        have h0 := hel 0 _ rfl
        have h1 := hel 1 _ rfl
        rw [List.getElem?_eq_getElem (by omega)] at h0 h1
        obtain ⟨k0, e0, _, w0⟩ := DataW.trod_int Try.underlying3 h0
        obtain ⟨k1, e1, _, w1⟩ := DataW.trod_int Try.underlying3 h1
        obtain rfl : u0 = .int .i64 k0 := by simpa [Try.cells_int] using e0
        obtain rfl : u1 = .int .i64 k1 := by simpa [Try.cells_int] using e1
        have a0 := hat 0 (by omega)
        have a1 := hat 1 (by omega)
        rw [Go.Deep.add_add] at a0 a1
        obtain ⟨ab, ao, spot⟩ := a
        have hspot : spot = none := by simpa [Addr.add] using World.cell?_spot z0
        subst hspot
        rw [Addr.add_mid] at a0 a1
        exact ⟨(k0, k1), ab, ao, rfl, a0, a1, in64_wf w0, in64_wf w1⟩
    obtain ⟨L, hL, hq⟩ := list_of len key
    refine ⟨L, some a, cap, by rw [hL], fun h0 => ?_⟩
    obtain ⟨x, hx⟩ : ∃ x, L[0]? = some x := ⟨L[0], List.getElem?_eq_getElem h0⟩
    obtain ⟨ab, ao, rfl, _⟩ := hq 0 x hx
    refine ⟨ab, ao, rfl, fun r y hy => ?_⟩
    obtain ⟨ab', ao', e, hf⟩ := hq r y hy
    cases e
    exact hf
end Go.Proofs.Ytglfjjmbadffmaa

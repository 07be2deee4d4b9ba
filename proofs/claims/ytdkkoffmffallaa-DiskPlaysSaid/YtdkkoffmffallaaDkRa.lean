/-
  What came in: acts.
-/
import Derived.Test.YtdkkoffmffallaaDkRo
import Derived.Test.YtdkkoffmffallaaDkW
namespace Go.Proofs.Ytdkkoffmffallaa
open Go.ChangeShapes Go.WideShapes Go.RowKit

theorem cells_law_act : Try.prog.cellsOf 34 = 4 := by kernel_rfl
theorem cells_nums : Try.prog.cellsOf 32 = 1 := by kernel_rfl
theorem open_nums_cells {H : Type} {enc : TypeId × Value → H} {W : World} {m : Nat} {c : Value} {x : DataW H × List MemPlace} (hf : DataW.trod enc Try.prog W 0 (fun _ => true) true m 32 [c] = some x) :
    ∃ (L : List Int) (p : Option Addr) (cap : Nat), c = .slice p L.length cap ∧ IAt W p L := by
  rcases open_ints Try.underlying32 Try.underlying3 Try.cells_int hf with ⟨hcs, _⟩ | ⟨a, len, cap, zs, hcs, _, hl, hm, hz, _, hcell, hwz⟩
  · obtain rfl : c = .slice none 0 0 := by simpa using hcs
    exact ⟨[], none, 0, rfl, fun h0 => by simp at h0⟩
  · obtain rfl : c = .slice (some a) len cap := by simpa using hcs
    simp only [if_true] at hz
    have hll : (zs.take len).length = len := by simp; omega
    refine ⟨zs.take len, some a, cap, by rw [hll], fun h0 => ?_⟩
    rw [hll] at h0 ⊢
    obtain ⟨ab, ao, spot⟩ := a
    have hspot : spot = none := by simpa [Addr.add] using World.cell?_spot (hcell 0 (by omega))
    subst hspot
    refine ⟨ab, ao, rfl, fun j hj => ?_⟩
    have h := hcell j (by omega)
    rw [Addr.add_mid] at h
    rw [h]
    congr 2
    simp [List.getD_eq_getElem?_getD, hj]
set_option maxRecDepth 100000 in
theorem open_acts {H : Type} {enc : TypeId × Value → H} {W : World} {base : Nat} {v : Value} {d : DataW H} {ps : List MemPlace} (hok : Value.okWide Try.prog W .any base 22 v)
    (h : DataW.Trod enc Try.prog W 0 (fun _ => true) true 22 v d ps) : ∃ (L : List Dk.Act) (tp : Option Addr) (cap : Nat), v = .slice tp L.length cap ∧ ARows W tp L := by
  obtain ⟨a0, len, cap, rfl⟩ := okWide_slice Try.underlying22 hok
  obtain ⟨fuel, hf⟩ := h
  rcases Go.Deep.open_slice Try.underlying22 hf with ⟨hcs, _⟩ | ⟨a, len', cap', m, n, D, Pl, hcs, _, hl, hm, hmm, _, hi⟩
  · simp [Value.cells] at hcs
    obtain ⟨rfl, rfl, rfl⟩ := hcs
    exact ⟨[], none, 0, rfl, fun h0 => by simp at h0⟩
  · simp [Value.cells] at hcs
    obtain ⟨rfl, rfl, rfl⟩ := hcs
    simp only [if_true] at hmm
    have key : ∀ i, i < len → ∃ x : Dk.Act, ∃ ab ao, a = ⟨ab, ao, none⟩ ∧ ∃ pd cd pf cf, ActAt W ab (ao + i * 4) x pd cd pf cf := fun i hil => by
      obtain ⟨cs0, hc0, _⟩ := hi 0 (by omega)
      rw [cells_law_act, Nat.zero_mul] at hc0
      obtain ⟨_, hcl0, hat0⟩ := World.cells?_some hc0
      have z0 := hat0 0 (by omega)
      rw [List.getElem?_eq_getElem (by omega)] at z0
      obtain ⟨cs', hc, ht⟩ := hi i (by omega)
      rw [cells_law_act] at hc
      obtain ⟨_, hcl, hat⟩ := World.cells?_some hc
      obtain ⟨xs, n', _, _, _, hlx, hel⟩ := DataW.trod_struct Try.underlying34 ht
      match cs', hcl with
      | [u0, u1, u2, u3], _ =>
        have hl7 : xs.length = 4 := by simpa using hlx
        have h0 := hel 0 _ rfl
        have h1 := hel 1 _ rfl
        have h2 := hel 2 _ rfl
        have h3 := hel 3 _ rfl
        rw [List.getElem?_eq_getElem (by omega)] at h0 h1 h2 h3
        obtain ⟨k0, e0, _, w0⟩ := DataW.trod_int Try.underlying3 h0
        obtain ⟨k1, e1, _, w1⟩ := DataW.trod_int Try.underlying3 h1
        have h2' : DataW.trod enc Try.prog W 0 (fun _ => true) true n' 31 [u2] = some (xs[2]'(by omega)) := by simpa [Try.cells22] using h2
        have h3' : DataW.trod enc Try.prog W 0 (fun _ => true) true n' 32 [u3] = some (xs[3]'(by omega)) := by simpa [cells_nums, Try.cells22] using h3
        obtain ⟨Ld, pd, cd, e4, bd⟩ := open_bs_cells h2'
        obtain ⟨Lf, pf, cf, e5, bf⟩ := open_nums_cells h3'
        obtain rfl : u0 = .int .i64 k0 := by simpa [Try.cells_int] using e0
        obtain rfl : u1 = .int .i64 k1 := by simpa [Try.cells_int] using e1
        subst e4
        subst e5
        have a0 := hat 0 (by omega)
        have a1 := hat 1 (by omega)
        have a2 := hat 2 (by omega)
        have a3 := hat 3 (by omega)
        rw [Go.Deep.add_add] at a0 a1 a2 a3
        obtain ⟨ab, ao, spot⟩ := a
        have hspot : spot = none := by simpa [Addr.add] using World.cell?_spot z0
        subst hspot
        rw [Addr.add_mid] at a0 a1 a2 a3
        exact ⟨⟨k0, k1, Ld, Lf⟩, ab, ao, rfl, pd, cd, pf, cf, a0, a1, a2, a3, bd, bf, in64_wf w1⟩
    obtain ⟨L, hL, hq⟩ := list_of len key
    refine ⟨L, some a, cap, by rw [hL], fun h0 => ?_⟩
    obtain ⟨x, hx⟩ : ∃ x, L[0]? = some x := ⟨L[0], List.getElem?_eq_getElem h0⟩
    obtain ⟨ab, ao, rfl, _⟩ := hq 0 x hx
    refine ⟨ab, ao, rfl, fun r y hy => ?_⟩
    obtain ⟨ab', ao', e, hf⟩ := hq r y hy
    cases e
    exact hf
end Go.Proofs.Ytdkkoffmffallaa

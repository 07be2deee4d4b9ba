/-
  What came in: calls.
-/
import Derived.Test.YtdmnlooghamngaaNaRo
import Derived.Test.YtdmnlooghamngaaNaS7
namespace Go.Proofs.Ytdmnlooghamngaa
open Go.ChangeShapes Go.WideShapes Go.RowKit

theorem u8_wf {n : Int} (h : (Lit.int .u8 n).wf = true) : 0 ≤ n ∧ n ≤ 255 := by
  simp [Lit.wf, IntKind.min, IntKind.max, IntKind.signed, IntKind.bits] at h
  omega
theorem cells_law_op : Try.prog.cellsOf 32 = 7 := by kernel_rfl
theorem cells_u8 : Try.prog.cellsOf 5 = 1 := by kernel_rfl
set_option maxRecDepth 100000 in
theorem open_cals {H : Type} {enc : TypeId × Value → H} {W : World} {base : Nat} {v : Value} {d : DataW H} {ps : List MemPlace} (hok : Value.okWide Try.prog W .any base 22 v)
    (h : DataW.Trod enc Try.prog W 0 (fun _ => true) true 22 v d ps) : ∃ (L : List Nm.Cal) (tp : Option Addr) (cap : Nat), v = .slice tp L.length cap ∧ CRows W tp L := by
  obtain ⟨a0, len, cap, rfl⟩ := okWide_slice Try.underlying22 hok
  obtain ⟨fuel, hf⟩ := h
  rcases Go.Deep.open_slice Try.underlying22 hf with ⟨hcs, _⟩ | ⟨a, len', cap', m, n, D, Pl, hcs, _, hl, hm, hmm, _, hi⟩
  · simp [Value.cells] at hcs
    obtain ⟨rfl, rfl, rfl⟩ := hcs
    exact ⟨[], none, 0, rfl, fun h0 => by simp at h0⟩
  · simp [Value.cells] at hcs
    obtain ⟨rfl, rfl, rfl⟩ := hcs
    simp only [if_true] at hmm
    have key : ∀ i, i < len → ∃ x : Nm.Cal, ∃ ab ao, a = ⟨ab, ao, none⟩ ∧ ∃ ph ch pp cp, CalAt W ab (ao + i * 7) x ph ch pp cp := fun i hil => by
      obtain ⟨cs0, hc0, _⟩ := hi 0 (by omega)
      rw [cells_law_op, Nat.zero_mul] at hc0
      obtain ⟨_, hcl0, hat0⟩ := World.cells?_some hc0
      have z0 := hat0 0 (by omega)
      rw [List.getElem?_eq_getElem (by omega)] at z0
      obtain ⟨cs', hc, ht⟩ := hi i (by omega)
      rw [cells_law_op] at hc
      obtain ⟨_, hcl, hat⟩ := World.cells?_some hc
      obtain ⟨xs, n', _, _, _, hlx, hel⟩ := DataW.trod_struct Try.underlying32 ht
      match cs', hcl with
      | [u0, u1, u2, u3, u4, u5, u6], _ =>
        have hl7 : xs.length = 7 := by simpa using hlx
        have h0 := hel 0 _ rfl
        have h1 := hel 1 _ rfl
        have h2 := hel 2 _ rfl
        have h3 := hel 3 _ rfl
        have h4 := hel 4 _ rfl
        have h5 := hel 5 _ rfl
        have h6 := hel 6 _ rfl
        rw [List.getElem?_eq_getElem (by omega)] at h0 h1 h2 h3 h4 h5 h6
        obtain ⟨k0, e0, _, w0⟩ := DataW.trod_int Try.underlying3 h0
        obtain ⟨k1, e1, _, w1⟩ := DataW.trod_int Try.underlying3 h1
        obtain ⟨k2, e2, _, w2⟩ := DataW.trod_int Try.underlying3 h2
        obtain ⟨k3, e3, _, w3⟩ := DataW.trod_int Try.underlying3 h3
        obtain ⟨k6, e6, _, w6⟩ := DataW.trod_int Try.underlying5 h6
        have h4' : DataW.trod enc Try.prog W 0 (fun _ => true) true n' 30 [u4] = some (xs[4]'(by omega)) := by simpa [cells_bytes] using h4
        have h5' : DataW.trod enc Try.prog W 0 (fun _ => true) true n' 30 [u5] = some (xs[5]'(by omega)) := by simpa [cells_bytes] using h5
        obtain ⟨Lh, ph, ch, e4, bh⟩ := open_bs_cells h4'
        obtain ⟨Lp, pp, cp, e5, bp⟩ := open_bs_cells h5'
        obtain rfl : u0 = .int .i64 k0 := by simpa [cells_int] using e0
        obtain rfl : u1 = .int .i64 k1 := by simpa [cells_int] using e1
        obtain rfl : u2 = .int .i64 k2 := by simpa [cells_int] using e2
        obtain rfl : u3 = .int .i64 k3 := by simpa [cells_int] using e3
        obtain rfl : u6 = .int .u8 k6 := by simpa [cells_int, cells_u8, cells_bytes] using e6
        subst e4
        subst e5
        have a0 := hat 0 (by omega)
        have a1 := hat 1 (by omega)
        have a2 := hat 2 (by omega)
        have a3 := hat 3 (by omega)
        have a4 := hat 4 (by omega)
        have a5 := hat 5 (by omega)
        have a6 := hat 6 (by omega)
        rw [Go.Deep.add_add] at a0 a1 a2 a3 a4 a5 a6
        obtain ⟨ab, ao, spot⟩ := a
        have hspot : spot = none := by simpa [Addr.add] using World.cell?_spot z0
        subst hspot
        rw [Addr.add_mid] at a0 a1 a2 a3 a4 a5 a6
        exact ⟨⟨k0, k1, k2, k3, Lh, Lp, k6⟩, ab, ao, rfl, ph, ch, pp, cp, a0, a1, a2, a3, a4, a5, a6, bh, bp, in64_wf w1, in64_wf w2, u8_wf w6⟩
    obtain ⟨L, hL, hq⟩ := list_of len key
    refine ⟨L, some a, cap, by rw [hL], fun h0 => ?_⟩
    obtain ⟨x, hx⟩ : ∃ x, L[0]? = some x := ⟨L[0], List.getElem?_eq_getElem h0⟩
    obtain ⟨ab, ao, rfl, _⟩ := hq 0 x hx
    refine ⟨ab, ao, rfl, fun r y hy => ?_⟩
    obtain ⟨ab', ao', e, hf⟩ := hq r y hy
    cases e
    exact hf
end Go.Proofs.Ytdmnlooghamngaa

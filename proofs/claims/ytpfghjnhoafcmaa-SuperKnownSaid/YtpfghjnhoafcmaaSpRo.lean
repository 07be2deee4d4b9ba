/-
  Geometries that came in, opened; lists of them.
-/
import Derived.Test.YtpfghjnhoafcmaaRgRo
import Derived.Test.YtpfghjnhoafcmaaSpB
namespace Go.Proofs.Ytpfghjnhoafcmaa
open Go.ChangeShapes Go.WideShapes Go.RowKit

theorem cells_geo : Try.prog.cellsOf 54 = 3 := by kernel_rfl
set_option maxRecDepth 100000 in
theorem open_geo_cells {H : Type} {enc : TypeId × Value → H} {W : World} {fuel : Nat} {cs : List Value} {x : DataW H × List MemPlace} (hlen : cs.length = 3) (hf : DataW.trod enc Try.prog W 0 (fun _ => true) true fuel 54 cs = some x) :
    ∃ g : Sp.G, cs = (GA g).toList ∧ Sp.Ok g := by
  obtain ⟨xs, m, _, _, _, hlx, hel⟩ := DataW.trod_struct Try.underlying54 hf
  have hl3 : xs.length = 3 := by simpa using hlx
  have h0 := hel 0 _ rfl
  have h1 := hel 1 _ rfl
  have h2 := hel 2 _ rfl
  rw [List.getElem?_eq_getElem (by omega)] at h0 h1 h2
  obtain ⟨a, e0, _, w0⟩ := DataW.trod_int Try.underlying3 h0
  obtain ⟨b, e1, _, w1⟩ := DataW.trod_int Try.underlying3 h1
  obtain ⟨c, e2, _, w2⟩ := DataW.trod_int Try.underlying3 h2
  refine ⟨⟨a, b, c⟩, ?_, in64_wf w0, in64_wf w1, in64_wf w2⟩
  rcases cs with _ | ⟨u, _ | ⟨x, _ | ⟨y, _ | ⟨z, r⟩⟩⟩⟩
  · simp at hlen
  · simp at hlen
  · simp at hlen
  · obtain rfl : u = .int .i64 a := by simpa [Try.cells_int] using e0
    obtain rfl : x = .int .i64 b := by simpa [Try.cells_int] using e1
    obtain rfl : y = .int .i64 c := by simpa [Try.cells_int] using e2
    rfl
  · simp at hlen
set_option maxRecDepth 100000 in
theorem open_geo {H : Type} {enc : TypeId × Value → H} {W : World} {base : Nat} {v : Value} {d : DataW H} {ps : List MemPlace} (hok : Value.okWide Try.prog W .any base 54 v)
    (h : DataW.Trod enc Try.prog W 0 (fun _ => true) true 54 v d ps) : ∃ g : Sp.G, v = GV g ∧ Sp.Ok g := by
  obtain ⟨cs, rfl, hsz, _⟩ : ∃ cs, v = .agg cs ∧ cs.size = Try.prog.cellsOf 54 ∧ Row.okWide Try.prog W .any base 54 cs := by
    simpa [Value.okWide, Try.underlying54] using hok
  rw [cells_geo] at hsz
  obtain ⟨fuel, hf⟩ := h
  obtain ⟨g, e, hg⟩ := open_geo_cells (cs := cs.toList) (by simpa using hsz) hf
  refine ⟨g, ?_, hg⟩
  unfold GV
  congr 1
  apply Array.ext'
  rw [e]
/-- Geometries as a slice sees them. -/
structure Gs (w : World) (p : Option Addr) (L : List Sp.G) : Prop where
  ok : ∀ x ∈ L, Sp.Ok x
  at_ : 0 < L.length → ∃ ab ao, p = some ⟨ab, ao, none⟩ ∧ ∀ i, i < L.length → w.rangeAt ab (ao + i * 3) (GA (L.getD i Sp.zero)).toList
  len : L.length ≤ 9223372036854775807
theorem Gs.old {w y : World} {p : Option Addr} {L : List Sp.G} (h : Gs w p L) (hb : Below w.heap.size w y) : Gs y p L :=
  ⟨h.ok, fun h0 => by
    obtain ⟨ab, ao, h1, h2⟩ := h.at_ h0
    exact ⟨ab, ao, h1, fun i hi => rng_old (h2 i hi) hb⟩, h.len⟩
set_option maxRecDepth 100000 in
theorem open_geos_cells {H : Type} {enc : TypeId × Value → H} {W : World} {fuel : Nat} {c : Value} {x : DataW H × List MemPlace} (hf : DataW.trod enc Try.prog W 0 (fun _ => true) true fuel 61 [c] = some x) :
    ∃ (L : List Sp.G) (m : Nat) (p : Option Addr) (cap : Nat), c = .slice p m cap ∧ L.length = m ∧ Gs W p L := by
  rcases Go.Deep.open_slice Try.underlying61 hf with ⟨hcs, _⟩ | ⟨a, len, cap, m, n, D, Pl, hcs, _, hl, hm, hmm, _, hi⟩
  · obtain rfl : c = .slice none 0 0 := by simpa using hcs
    exact ⟨[], 0, none, 0, rfl, rfl, fun x hx => (by cases hx), fun h0 => (by simp at h0), by simp⟩
  · obtain rfl : c = .slice (some a) len cap := by simpa using hcs
    simp only [if_true] at hmm
    have key : ∀ i, i < len → ∃ x : Sp.G, Sp.Ok x ∧ ∃ ab ao, a = ⟨ab, ao, none⟩ ∧ W.rangeAt ab (ao + i * 3) (GA x).toList := fun i hil => by
      obtain ⟨cs0, hc0, _⟩ := hi 0 (by omega)
      rw [cells_geo, Nat.zero_mul] at hc0
      obtain ⟨_, hcl0, hat0⟩ := World.cells?_some hc0
      have z0 := hat0 0 (by omega)
      rw [List.getElem?_eq_getElem (by omega)] at z0
      obtain ⟨cs', hc, ht⟩ := hi i (by omega)
      rw [cells_geo] at hc
      obtain ⟨_, hcl, hat⟩ := World.cells?_some hc
      obtain ⟨e, he, hok⟩ := open_geo_cells hcl ht
      obtain ⟨ab, ao, spot⟩ := a
      have hspot : spot = none := by simpa [Addr.add] using World.cell?_spot z0
      subst hspot
      refine ⟨e, hok, ab, ao, rfl, fun j u hu => ?_⟩
      rw [← he] at hu
      have hj := (List.getElem?_eq_some_iff.1 hu).1
      have hx := hat j (by omega)
      rw [Go.Deep.add_add, Addr.add_mid, hu] at hx
      rw [show ao + i * 3 + j = ao + (i * 3 + j) by omega]
      exact hx
    obtain ⟨L, hL, hq⟩ := list_of (Q := fun i x => Sp.Ok x ∧ ∃ ab ao, a = ⟨ab, ao, none⟩ ∧ W.rangeAt ab (ao + i * 3) (GA x).toList) len key
    have hget : ∀ i, i < len → Sp.Ok (L.getD i Sp.zero) ∧ ∃ ab ao, a = ⟨ab, ao, none⟩ ∧ W.rangeAt ab (ao + i * 3) (GA (L.getD i Sp.zero)).toList := fun i hil => by
      refine hq i _ ?_
      rw [List.getD_eq_getElem?_getD, List.getElem?_eq_getElem (by omega)]
      rfl
    refine ⟨L, len, some a, cap, rfl, hL, fun x hx => ?_, fun h0 => ?_, by unfold maxLen at hm; omega⟩
    · obtain ⟨i, hil, rfl⟩ := List.mem_iff_getElem.1 hx
      exact (hq i _ (List.getElem?_eq_getElem hil)).1
    · obtain ⟨_, ab, ao, e, _⟩ := hget 0 (by omega)
      subst e
      refine ⟨ab, ao, rfl, fun i hil => ?_⟩
      obtain ⟨_, ab', ao', e', hr⟩ := hget i (by omega)
      cases e'
      exact hr
set_option maxRecDepth 100000 in
theorem open_geos {H : Type} {enc : TypeId × Value → H} {W : World} {base : Nat} {v : Value} {d : DataW H} {ps : List MemPlace} (hok : Value.okWide Try.prog W .any base 61 v)
    (h : DataW.Trod enc Try.prog W 0 (fun _ => true) true 61 v d ps) : ∃ (L : List Sp.G) (p : Option Addr) (cap : Nat), v = .slice p L.length cap ∧ Gs W p L := by
  obtain ⟨a0, len, cap, rfl⟩ := okWide_slice Try.underlying61 hok
  obtain ⟨fuel, hf⟩ := h
  obtain ⟨L, m, p, c, e, hL, hr⟩ := open_geos_cells hf
  refine ⟨L, p, c, ?_, hr⟩
  rw [hL]
  exact e
end Go.Proofs.Ytpfghjnhoafcmaa

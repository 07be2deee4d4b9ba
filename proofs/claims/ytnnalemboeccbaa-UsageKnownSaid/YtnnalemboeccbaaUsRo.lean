/-
  Calls, and numbers, that came in, opened.
-/
import Derived.Test.YtnnalemboeccbaaRows
import Derived.Test.YtnnalemboeccbaaUsJ
import Derived.ChangeSame
import Derived.ChangeVars
import Derived.ChangeSlices
import Derived.JoinedOf
import Derived.JoinedAt
import Derived.RowKit
import Derived.RowKitTokens
import Derived.ProofKit
import Derived.SizedLaws
import Derived.Carry
import Derived.OpenShut
import Derived.Deep.Slices
import Derived.ChangeArms
namespace Go.Proofs.Ytnnalemboeccbaa
open Go.ChangeShapes Go.WideShapes Go.RowKit

theorem Try.own : ownKnob Try.prog.godebug = none := by kernel_rfl
theorem laid_out : laidOutB Try.prog = true := by kernel_rfl
theorem trod_below_args {H : Type} {enc : TypeId × Value → H} {t : TypeId} {W W' : World} {v : Value} {d : DataW H} {ps : List MemPlace}
    (h : DataW.Trod enc Try.prog W 0 (fun _ => true) true t v d ps) (hb : Below W.heap.size W W') (hlt : ∀ x ∈ ps, x.block < W.heap.size) (hr : Try.prog.readableRec t = true) (hrow : t < Try.prog.types.size) :
    DataW.Trod enc Try.prog W' 0 (fun b => decide (b < W.heap.size)) true t v d ps :=
  Below.trod laid_out hr hrow h hb hlt
theorem Try.cells_int : Try.prog.cellsOf 3 = 1 := by kernel_rfl
theorem cells_seg : Try.prog.cellsOf 30 = 3 := by kernel_rfl
theorem cells_op : Try.prog.cellsOf 32 = 7 := by kernel_rfl
set_option maxRecDepth 100000 in
theorem open_seg_cells {H : Type} {enc : TypeId × Value → H} {W : World} {fuel : Nat} {cs : List Value} {x : DataW H × List MemPlace} (hlen : cs.length = 3) (hf : DataW.trod enc Try.prog W 0 (fun _ => true) true fuel 30 cs = some x) :
    ∃ g : Us.S, cs = (SgA g).toList := by
  obtain ⟨xs, m, _, _, _, hlx, hel⟩ := DataW.trod_struct Try.underlying30 hf
  have hl3 : xs.length = 3 := by simpa using hlx
  have h0 := hel 0 _ rfl
  have h1 := hel 1 _ rfl
  have h2 := hel 2 _ rfl
  rw [List.getElem?_eq_getElem (by omega)] at h0 h1 h2
  obtain ⟨a, e0, _, _⟩ := DataW.trod_int Try.underlying3 h0
  obtain ⟨b, e1, _, _⟩ := DataW.trod_int Try.underlying3 h1
  obtain ⟨c, e2, _, _⟩ := DataW.trod_int Try.underlying3 h2
  refine ⟨⟨a, b, c⟩, ?_⟩
  rcases cs with _ | ⟨u, _ | ⟨x, _ | ⟨y, _ | ⟨z, r⟩⟩⟩⟩
  · simp at hlen
  · simp at hlen
  · simp at hlen
  · obtain rfl : u = .int .i64 a := by simpa [Try.cells_int] using e0
    obtain rfl : x = .int .i64 b := by simpa [Try.cells_int] using e1
    obtain rfl : y = .int .i64 c := by simpa [Try.cells_int] using e2
    rfl
  · simp at hlen
set_option maxRecDepth 100000 in
theorem open_op_cells {H : Type} {enc : TypeId × Value → H} {W : World} {fuel : Nat} {cs : List Value} {x : DataW H × List MemPlace} (hlen : cs.length = 7) (hf : DataW.trod enc Try.prog W 0 (fun _ => true) true fuel 32 cs = some x) :
    ∃ o : Us.O, cs = (OpA o).toList := by
  obtain ⟨xs, m, _, _, _, hlx, hel⟩ := DataW.trod_struct Try.underlying32 hf
  have hl5 : xs.length = 5 := by simpa using hlx
  have h0 := hel 0 _ rfl
  have h1 := hel 1 _ rfl
  have h2 := hel 2 _ rfl
  have h3 := hel 3 _ rfl
  have h4 := hel 4 _ rfl
  rw [List.getElem?_eq_getElem (by omega)] at h0 h1 h2 h3 h4
  obtain ⟨a, e0, _, _⟩ := DataW.trod_int Try.underlying3 h0
  obtain ⟨b, e1, _, _⟩ := DataW.trod_int Try.underlying3 h1
  obtain ⟨c, e2, _, _⟩ := DataW.trod_int Try.underlying3 h2
  obtain ⟨d, e3, _, _⟩ := DataW.trod_int Try.underlying3 h3
  have g4 : DataW.trod enc Try.prog W 0 (fun _ => true) true m 30 ((cs.drop 4).take 3) = some xs[4] := by
    rw [← cells_seg]; exact h4
  obtain ⟨s, e4⟩ := open_seg_cells (by simp; omega) g4
  refine ⟨⟨a, b, c, d, s⟩, ?_⟩
  rcases cs with _ | ⟨u, _ | ⟨x, _ | ⟨y, _ | ⟨z, r⟩⟩⟩⟩
  · simp at hlen
  · simp at hlen
  · simp at hlen
  · simp at hlen
  · obtain rfl : u = .int .i64 a := by simpa [Try.cells_int] using e0
    obtain rfl : x = .int .i64 b := by simpa [Try.cells_int] using e1
    obtain rfl : y = .int .i64 c := by simpa [Try.cells_int] using e2
    obtain rfl : z = .int .i64 d := by simpa [Try.cells_int] using e3
    have hr : r = (SgA s).toList := by
      have : r.take 3 = (SgA s).toList := by simpa using e4
      rw [List.take_of_length_le (by simp at hlen; omega)] at this
      exact this
    rw [hr]
    rfl
set_option maxRecDepth 100000 in
theorem open_ops {H : Type} {enc : TypeId × Value → H} {W : World} {base : Nat} {v : Value} {d : DataW H} {ps : List MemPlace} (hok : Value.okWide Try.prog W .any base 22 v)
    (h : DataW.Trod enc Try.prog W 0 (fun _ => true) true 22 v d ps) : ∃ (L : List Us.O) (p : Option Addr) (cap : Nat), v = .slice p L.length cap ∧ OpS W p L := by
  obtain ⟨a0, len, cap, rfl⟩ := okWide_slice Try.underlying22 hok
  obtain ⟨fuel, hf⟩ := h
  rcases Go.Deep.open_slice Try.underlying22 hf with ⟨hcs, _⟩ | ⟨a, len', cap', m, n, D, Pl, hcs, _, hl, hm, hmm, _, hi⟩
  · simp [Value.cells] at hcs
    obtain ⟨rfl, rfl, rfl⟩ := hcs
    exact ⟨[], none, 0, rfl, fun h0 => by simp at h0⟩
  · simp [Value.cells] at hcs
    obtain ⟨rfl, rfl, rfl⟩ := hcs
    simp only [if_true] at hmm
    have key : ∀ i, i < len → ∃ x : Us.O, ∃ ab ao, a = ⟨ab, ao, none⟩ ∧ W.rangeAt ab (ao + i * 7) (OpA x).toList := fun i hil => by
      obtain ⟨cs0, hc0, _⟩ := hi 0 (by omega)
      rw [cells_op, Nat.zero_mul] at hc0
      obtain ⟨_, hcl0, hat0⟩ := World.cells?_some hc0
      have z0 := hat0 0 (by omega)
      rw [List.getElem?_eq_getElem (by omega)] at z0
      obtain ⟨cs', hc, ht⟩ := hi i (by omega)
      rw [cells_op] at hc
      obtain ⟨_, hcl, hat⟩ := World.cells?_some hc
      obtain ⟨e, he⟩ := open_op_cells hcl ht
      obtain ⟨ab, ao, spot⟩ := a
      have hspot : spot = none := by simpa [Addr.add] using World.cell?_spot z0
      subst hspot
      refine ⟨e, ab, ao, rfl, fun j u hu => ?_⟩
      rw [← he] at hu
      have hj := (List.getElem?_eq_some_iff.1 hu).1
      have hx := hat j (by omega)
      rw [Go.Deep.add_add, Addr.add_mid, hu] at hx
      rw [show ao + i * 7 + j = ao + (i * 7 + j) by omega]
      exact hx
    obtain ⟨L, hL, hq⟩ := list_of (Q := fun i (x : Us.O) => ∃ ab ao, a = ⟨ab, ao, none⟩ ∧ W.rangeAt ab (ao + i * 7) (OpA x).toList) len key
    have hget : ∀ i, i < len → ∃ ab ao, a = ⟨ab, ao, none⟩ ∧ W.rangeAt ab (ao + i * 7) (OpA (L.getD i Us.o0)).toList := fun i hil => by
      refine hq i _ ?_
      rw [List.getD_eq_getElem?_getD, List.getElem?_eq_getElem (by omega)]
      rfl
    refine ⟨L, some a, cap, by rw [hL], fun h0 => ?_⟩
    obtain ⟨ab, ao, e, _⟩ := hget 0 (by omega)
    subst e
    refine ⟨ab, ao, rfl, fun i hil => ?_⟩
    obtain ⟨ab', ao', e', hr⟩ := hget i (by omega)
    cases e'
    exact hr
end Go.Proofs.Ytnnalemboeccbaa

/-
  Rows, and a how, that came in, opened.
-/
import Derived.Test.YthgjfjmampmiiaaRows
import Derived.Test.YthgjfjmampmiiaaVcJ
import Derived.ChangeSame
import Derived.ChangeVars
import Derived.ChangeSlices
import Derived.JoinedOf
import Derived.JoinedAt
import Derived.RowKit
import Derived.RowKitTokens
import Derived.ProofKit
import Derived.SizedLaws
import Derived.Carry
import Derived.OpenShut
import Derived.Deep.Slices
import Derived.ChangeArms
namespace Go.Proofs.Ythgjfjmampmiiaa
open Go.ChangeShapes Go.WideShapes Go.RowKit

theorem Try.own : ownKnob Try.prog.godebug = none := by kernel_rfl
theorem laid_out : laidOutB Try.prog = true := by kernel_rfl
theorem trod_below_args {H : Type} {enc : TypeId × Value → H} {t : TypeId} {W W' : World} {v : Value} {d : DataW H} {ps : List MemPlace}
    (h : DataW.Trod enc Try.prog W 0 (fun _ => true) true t v d ps) (hb : Below W.heap.size W W') (hlt : ∀ x ∈ ps, x.block < W.heap.size) (hr : Try.prog.readableRec t = true) (hrow : t < Try.prog.types.size) :
    DataW.Trod enc Try.prog W' 0 (fun b => decide (b < W.heap.size)) true t v d ps :=
  Below.trod laid_out hr hrow h hb hlt
theorem Try.cells_int : Try.prog.cellsOf 3 = 1 := by kernel_rfl
theorem cells_seg : Try.prog.cellsOf 36 = 3 := by kernel_rfl
theorem cells_how : Try.prog.cellsOf 27 = 3 := by kernel_rfl
set_option maxRecDepth 100000 in
theorem open_seg_cells {H : Type} {enc : TypeId × Value → H} {W : World} {fuel : Nat} {cs : List Value} {x : DataW H × List MemPlace} (hlen : cs.length = 3) (hf : DataW.trod enc Try.prog W 0 (fun _ => true) true fuel 36 cs = some x) :
    ∃ a b c : Int, cs = [.int .i64 a, .int .i64 b, .int .i64 c] ∧ In64 a ∧ In64 b ∧ In64 c := by
  obtain ⟨xs, m, _, _, _, hlx, hel⟩ := DataW.trod_struct Try.underlying36 hf
  have hl3 : xs.length = 3 := by simpa using hlx
  have h0 := hel 0 _ rfl
  have h1 := hel 1 _ rfl
  have h2 := hel 2 _ rfl
  rw [List.getElem?_eq_getElem (by omega)] at h0 h1 h2
  obtain ⟨a, e0, _, w0⟩ := DataW.trod_int Try.underlying3 h0
  obtain ⟨b, e1, _, w1⟩ := DataW.trod_int Try.underlying3 h1
  obtain ⟨c, e2, _, w2⟩ := DataW.trod_int Try.underlying3 h2
  refine ⟨a, b, c, ?_, in64_wf w0, in64_wf w1, in64_wf w2⟩
  rcases cs with _ | ⟨u, _ | ⟨x, _ | ⟨y, _ | ⟨z, r⟩⟩⟩⟩
  · simp at hlen
  · simp at hlen
  · simp at hlen
  · obtain rfl : u = .int .i64 a := by simpa [Try.cells_int] using e0
    obtain rfl : x = .int .i64 b := by simpa [Try.cells_int] using e1
    obtain rfl : y = .int .i64 c := by simpa [Try.cells_int] using e2
    rfl
  · simp at hlen
set_option maxRecDepth 100000 in
theorem open_how_cells {H : Type} {enc : TypeId × Value → H} {W : World} {fuel : Nat} {cs : List Value} {x : DataW H × List MemPlace} (hlen : cs.length = 3) (hf : DataW.trod enc Try.prog W 0 (fun _ => true) true fuel 27 cs = some x) :
    ∃ a b c : Int, cs = [.int .i64 a, .int .i64 b, .int .i64 c] ∧ In64 a ∧ In64 b ∧ In64 c := by
  obtain ⟨xs, m, _, _, _, hlx, hel⟩ := DataW.trod_struct Try.underlying27 hf
  have hl3 : xs.length = 3 := by simpa using hlx
  have h0 := hel 0 _ rfl
  have h1 := hel 1 _ rfl
  have h2 := hel 2 _ rfl
  rw [List.getElem?_eq_getElem (by omega)] at h0 h1 h2
  obtain ⟨a, e0, _, w0⟩ := DataW.trod_int Try.underlying3 h0
  obtain ⟨b, e1, _, w1⟩ := DataW.trod_int Try.underlying3 h1
  obtain ⟨c, e2, _, w2⟩ := DataW.trod_int Try.underlying3 h2
  refine ⟨a, b, c, ?_, in64_wf w0, in64_wf w1, in64_wf w2⟩
  rcases cs with _ | ⟨u, _ | ⟨x, _ | ⟨y, _ | ⟨z, r⟩⟩⟩⟩
  · simp at hlen
  · simp at hlen
  · simp at hlen
  · obtain rfl : u = .int .i64 a := by simpa [Try.cells_int] using e0
    obtain rfl : x = .int .i64 b := by simpa [Try.cells_int] using e1
    obtain rfl : y = .int .i64 c := by simpa [Try.cells_int] using e2
    rfl
  · simp at hlen
set_option maxRecDepth 100000 in
theorem open_segs {H : Type} {enc : TypeId × Value → H} {W : World} {base : Nat} {v : Value} {d : DataW H} {ps : List MemPlace} (hok : Value.okWide Try.prog W .any base 25 v)
    (h : DataW.Trod enc Try.prog W 0 (fun _ => true) true 25 v d ps) : ∃ (L : List Us.S) (p : Option Addr) (cap : Nat), v = .slice p L.length cap ∧ SgS W p L ∧ (∀ i, i < L.length → In64 (Us.at_ L i).a) ∧ (p = none → cap = 0) := by
  obtain ⟨a0, len, cap, rfl⟩ := okWide_slice Try.underlying25 hok
  obtain ⟨fuel, hf⟩ := h
  rcases Go.Deep.open_slice Try.underlying25 hf with ⟨hcs, _⟩ | ⟨a, len', cap', m, n, D, Pl, hcs, _, hl, hm, hmm, _, hi⟩
  · simp [Value.cells] at hcs
    obtain ⟨rfl, rfl, rfl⟩ := hcs
    exact ⟨[], none, 0, rfl, fun h0 => by simp at h0, fun i hi => by simp at hi, fun _ => rfl⟩
  · simp [Value.cells] at hcs
    obtain ⟨rfl, rfl, rfl⟩ := hcs
    simp only [if_true] at hmm
    have key : ∀ i, i < len → ∃ x : Us.S, (∃ ab ao, a = ⟨ab, ao, none⟩ ∧ W.rangeAt ab (ao + i * 3) (SgA x).toList) ∧ In64 x.a := fun i hil => by
      obtain ⟨cs0, hc0, _⟩ := hi 0 (by omega)
      rw [cells_seg, Nat.zero_mul] at hc0
      obtain ⟨_, hcl0, hat0⟩ := World.cells?_some hc0
      have z0 := hat0 0 (by omega)
      rw [List.getElem?_eq_getElem (by omega)] at z0
      obtain ⟨cs', hc, ht⟩ := hi i (by omega)
      rw [cells_seg] at hc
      obtain ⟨_, hcl, hat⟩ := World.cells?_some hc
      obtain ⟨e1, e2, e3, he, _, _, hin⟩ := open_seg_cells hcl ht
      obtain ⟨ab, ao, spot⟩ := a
      have hspot : spot = none := by simpa [Addr.add] using World.cell?_spot z0
      subst hspot
      refine ⟨⟨e1, e2, e3⟩, ⟨ab, ao, rfl, fun j u hu => ?_⟩, hin⟩
      have hu' : cs'[j]? = some u := by rw [he]; exact hu
      have hj : j < 3 := (List.getElem?_eq_some_iff.1 hu).1
      have hx := hat j (by omega)
      rw [Go.Deep.add_add, Addr.add_mid, hu'] at hx
      rw [show ao + i * 3 + j = ao + (i * 3 + j) by omega]
      exact hx
    obtain ⟨L, hL, hq⟩ := list_of (Q := fun i (x : Us.S) => (∃ ab ao, a = ⟨ab, ao, none⟩ ∧ W.rangeAt ab (ao + i * 3) (SgA x).toList) ∧ In64 x.a) len key
    have hget : ∀ i, i < len → (∃ ab ao, a = ⟨ab, ao, none⟩ ∧ W.rangeAt ab (ao + i * 3) (SgA (Us.at_ L i)).toList) ∧ In64 (Us.at_ L i).a := fun i hil => by
      refine hq i _ ?_
      unfold Us.at_
      rw [List.getD_eq_getElem?_getD, List.getElem?_eq_getElem (by omega)]
      rfl
    refine ⟨L, some a, cap, by rw [hL], fun h0 => ?_, fun i hi => (hget i (by omega)).2, fun h => by cases h⟩
    obtain ⟨⟨ab, ao, e, _⟩, _⟩ := hget 0 (by omega)
    subst e
    refine ⟨ab, ao, rfl, fun i hil => ?_⟩
    obtain ⟨⟨ab', ao', e', hr⟩, _⟩ := hget i (by omega)
    cases e'
    exact hr
theorem open_how {H : Type} {enc : TypeId × Value → H} {W : World} {base : Nat} {v : Value} {d : DataW H} {ps : List MemPlace} (hok : Value.okWide Try.prog W .any base 27 v)
    (h : DataW.Trod enc Try.prog W 0 (fun _ => true) true 27 v d ps) : ∃ s l n : Int, v = .agg (HwA s l n) ∧ In64 n := by
  obtain ⟨cs, rfl, hsz, _⟩ : ∃ cs, v = .agg cs ∧ cs.size = Try.prog.cellsOf 27 ∧ Row.okWide Try.prog W .any base 27 cs := by
    simpa [Value.okWide, Try.underlying27] using hok
  rw [cells_how] at hsz
  obtain ⟨fuel, hf⟩ := h
  obtain ⟨a, b, c, e, _, _, hn⟩ := open_how_cells (cs := cs.toList) (by simpa using hsz) hf
  refine ⟨a, b, c, ?_, hn⟩
  unfold HwA
  congr 1
  apply Array.ext'
  rw [e]
end Go.Proofs.Ythgjfjmampmiiaa

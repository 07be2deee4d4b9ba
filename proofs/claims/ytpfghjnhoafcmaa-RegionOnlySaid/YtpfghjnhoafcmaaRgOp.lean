/-
  A list of acts that came in.
-/
import Derived.Test.YtpfghjnhoafcmaaRgRo
import Derived.Test.YtpfghjnhoafcmaaRgRn
import Derived.Test.YtpfghjnhoafcmaaDk4
namespace Go.Proofs.Ytpfghjnhoafcmaa
open Go.ChangeShapes Go.WideShapes Go.RowKit

namespace Rg
/-- An act. -/
structure O where
  k : Int
  n : Int
  m : Int
  r : R
  D : List Int
  L : List Int
def ozero : O := ⟨0, 0, 0, zero, [], []⟩
end Rg
/-- Its cells. -/
def oc (x : Rg.O) (pd : Option Addr) (cd : Nat) (pf : Option Addr) (cf : Nat) : List Value := [.int .i64 x.k, .int .i64 x.n, .int .i64 x.m] ++ (cv x.r ++ [.slice pd x.D.length cd, .slice pf x.L.length cf])
structure OpOk (w : World) (x : Rg.O) (pd : Option Addr) (cd : Nat) (pf : Option Addr) (cf : Nat) : Prop where
  ok : Rg.Ok x.r
  k : Pk.In64 x.k
  n : Pk.In64 x.n
  m : Pk.In64 x.m
  D : Bs w pd cd x.D
  L : IAt w pf x.L
theorem OpOk.old {w y : World} {x : Rg.O} {pd : Option Addr} {cd : Nat} {pf : Option Addr} {cf : Nat} (h : OpOk w x pd cd pf cf) (hb : Below w.heap.size w y) : OpOk y x pd cd pf cf := ⟨h.ok, h.k, h.n, h.m, h.D.old hb, h.L.old hb⟩
theorem oc_len {x : Rg.O} (h : Rg.Ok x.r) (pd : Option Addr) (cd : Nat) (pf : Option Addr) (cf : Nat) : (oc x pd cd pf cf).length = 141 := by unfold oc; simp [cv_len h]
/-- Acts in memory. -/
def Os (y : World) (p : Option Addr) (X : List Rg.O) : Prop := 0 < X.length → ∃ ab ao, p = some ⟨ab, ao, none⟩ ∧ ∀ i, i < X.length → ∃ pd cd pf cf, y.rangeAt ab (ao + i * 141) (oc (X.getD i Rg.ozero) pd cd pf cf) ∧ OpOk y (X.getD i Rg.ozero) pd cd pf cf
theorem Os.old {w y : World} {p : Option Addr} {X : List Rg.O} (h : Os w p X) (hb : Below w.heap.size w y) : Os y p X := fun h0 => by
  obtain ⟨ab, ao, e, hi⟩ := h h0
  refine ⟨ab, ao, e, fun i hil => ?_⟩
  obtain ⟨pd, cd, pf, cf, h1, h2⟩ := hi i hil
  exact ⟨pd, cd, pf, cf, rng_old h1 hb, h2.old hb⟩
theorem cells_op : Try.prog.cellsOf 44 = 141 := by kernel_rfl
theorem cells_nums : Try.prog.cellsOf 42 = 1 := by kernel_rfl
theorem cells_bts : Try.prog.cellsOf 41 = 1 := by kernel_rfl
theorem open_nums_cells {H : Type} {enc : TypeId × Value → H} {W : World} {m : Nat} {c : Value} {x : DataW H × List MemPlace} (hf : DataW.trod enc Try.prog W 0 (fun _ => true) true m 42 [c] = some x) :
    ∃ (L : List Int) (p : Option Addr) (cap : Nat), c = .slice p L.length cap ∧ IAt W p L := by
  rcases open_ints Try.underlying42 Try.underlying3 Try.cells_int hf with ⟨hcs, _⟩ | ⟨a, len, cap, zs, hcs, _, hl, hm, hz, _, hcell, hwz⟩
  · obtain rfl : c = .slice none 0 0 := by simpa using hcs
    exact ⟨[], none, 0, rfl, fun h0 => by simp at h0⟩
  · obtain rfl : c = .slice (some a) len cap := by simpa using hcs
    simp only [if_true] at hz
    have hll : (zs.take len).length = len := by simp; omega
    refine ⟨zs.take len, some a, cap, by rw [hll], fun h0 => ?_⟩
    rw [hll] at h0 ⊢
    obtain ⟨ab, ao, spot⟩ := a
    have hspot : spot = none := by simpa [Addr.add] using World.cell?_spot (hcell 0 (by omega))
    subst hspot
    refine ⟨ab, ao, rfl, fun j hj => ?_⟩
    have h := hcell j (by omega)
    rw [Addr.add_mid] at h
    rw [h]
    congr 2
    simp [List.getD_eq_getElem?_getD, hj]
set_option maxHeartbeats 1000000 in
set_option maxRecDepth 100000 in
theorem open_op_cells {H : Type} {enc : TypeId × Value → H} {W : World} {fuel : Nat} {cs : List Value} {x : DataW H × List MemPlace} (hlen : cs.length = 141) (hf : DataW.trod enc Try.prog W 0 (fun _ => true) true fuel 44 cs = some x) :
    ∃ (o : Rg.O) (pd : Option Addr) (cd : Nat) (pf : Option Addr) (cf : Nat), cs = oc o pd cd pf cf ∧ OpOk W o pd cd pf cf := by
  obtain ⟨xs, m, _, _, _, hlx, hel⟩ := DataW.trod_struct Try.underlying44 hf
  have hl9 : xs.length = 6 := by simpa using hlx
  have h0 := hel 0 _ rfl
  have h1 := hel 1 _ rfl
  have h2 := hel 2 _ rfl
  have h3 := hel 3 _ rfl
  have h4 := hel 4 _ rfl
  have h5 := hel 5 _ rfl
  rw [List.getElem?_eq_getElem (by omega)] at h0 h1 h2 h3 h4 h5
  obtain ⟨k0, e0, _, w0⟩ := DataW.trod_int Try.underlying3 h0
  obtain ⟨k1, e1, _, w1⟩ := DataW.trod_int Try.underlying3 h1
  obtain ⟨k2, e2, _, w2⟩ := DataW.trod_int Try.underlying3 h2
  have g3 : DataW.trod enc Try.prog W 0 (fun _ => true) true m 40 ((cs.drop 3).take 136) = some xs[3] := by
    rw [← cells_rec]; exact h3
  obtain ⟨r, e3, hr⟩ := open_rec_cells (by simp; omega) g3
  have q4 : (cs.drop 139).take 1 = [cs.getD 139 (.bool false)] := by
    rw [List.getD_eq_getElem?_getD, List.getElem?_eq_getElem (by omega)]
    rw [List.drop_eq_getElem_cons (by omega)]
    rfl
  have q5 : (cs.drop 140).take 1 = [cs.getD 140 (.bool false)] := by
    rw [List.getD_eq_getElem?_getD, List.getElem?_eq_getElem (by omega)]
    rw [List.drop_eq_getElem_cons (by omega)]
    rfl
  have g4 : DataW.trod enc Try.prog W 0 (fun _ => true) true m 41 [cs.getD 139 (.bool false)] = some xs[4] := by
    rw [← q4, ← cells_bts]; exact h4
  have g5 : DataW.trod enc Try.prog W 0 (fun _ => true) true m 42 [cs.getD 140 (.bool false)] = some xs[5] := by
    rw [← q5, ← cells_nums]; exact h5
  obtain ⟨Ld, pd, cd, e4, bd⟩ := open_bs_cells g4
  obtain ⟨Lf, pf, cf, e5, bf⟩ := open_nums_cells g5
  refine ⟨⟨k0, k1, k2, r, Ld, Lf⟩, pd, cd, pf, cf, ?_, hr, in64_wf w0, in64_wf w1, in64_wf w2, bd, bf⟩
  have q0 : cs.take 3 = [.int .i64 k0, .int .i64 k1, .int .i64 k2] := by
    rcases cs with _ | ⟨u0, _ | ⟨u1, _ | ⟨u2, q⟩⟩⟩
    · simp at hlen
    · simp at hlen
    · simp at hlen
    · obtain rfl : u0 = .int .i64 k0 := by simpa [Try.cells_int] using e0
      obtain rfl : u1 = .int .i64 k1 := by simpa [Try.cells_int] using e1
      obtain rfl : u2 = .int .i64 k2 := by simpa [Try.cells_int] using e2
      rfl
  have q6 : cs.drop 139 = [.slice pd Ld.length cd, .slice pf Lf.length cf] := by
    rw [seg_cut 139 1, q4, e4]
    have : cs.drop (139 + 1) = (cs.drop 140).take 1 := by rw [List.take_of_length_le (by simp; omega)]
    rw [this, q5, e5]
    rfl
  unfold oc
  rw [← List.take_append_drop 3 cs, q0, seg_cut 3 136, e3, q6]
set_option maxRecDepth 100000 in
theorem open_ops {H : Type} {enc : TypeId × Value → H} {W : World} {base : Nat} {v : Value} {d : DataW H} {ps : List MemPlace} (hok : Value.okWide Try.prog W .any base 22 v)
    (h : DataW.Trod enc Try.prog W 0 (fun _ => true) true 22 v d ps) : ∃ (X : List Rg.O) (p : Option Addr) (cap : Nat), v = .slice p X.length cap ∧ Os W p X := by
  obtain ⟨a0, len, cap, rfl⟩ := okWide_slice Try.underlying22 hok
  obtain ⟨fuel, hf⟩ := h
  rcases Go.Deep.open_slice Try.underlying22 hf with ⟨hcs, _⟩ | ⟨a, len', cap', m, n, D, Pl, hcs, _, hl, hm, hmm, _, hi⟩
  · simp [Value.cells] at hcs
    obtain ⟨rfl, rfl, rfl⟩ := hcs
    exact ⟨[], none, 0, rfl, fun h0 => by simp at h0⟩
  · simp [Value.cells] at hcs
    obtain ⟨rfl, rfl, rfl⟩ := hcs
    simp only [if_true] at hmm
    have key : ∀ i, i < len → ∃ x : Rg.O, ∃ ab ao, a = ⟨ab, ao, none⟩ ∧ ∃ pd cd pf cf, W.rangeAt ab (ao + i * 141) (oc x pd cd pf cf) ∧ OpOk W x pd cd pf cf := fun i hil => by
      obtain ⟨cs0, hc0, _⟩ := hi 0 (by omega)
      rw [cells_op, Nat.zero_mul] at hc0
      obtain ⟨_, hcl0, hat0⟩ := World.cells?_some hc0
      have z0 := hat0 0 (by omega)
      rw [List.getElem?_eq_getElem (by omega)] at z0
      obtain ⟨cs', hc, ht⟩ := hi i (by omega)
      rw [cells_op] at hc
      obtain ⟨_, hcl, hat⟩ := World.cells?_some hc
      obtain ⟨o, pd, cd, pf, cf, he, hop⟩ := open_op_cells hcl ht
      obtain ⟨ab, ao, spot⟩ := a
      have hspot : spot = none := by simpa [Addr.add] using World.cell?_spot z0
      subst hspot
      refine ⟨o, ab, ao, rfl, pd, cd, pf, cf, fun j u hu => ?_, hop⟩
      rw [← he] at hu
      have hj := (List.getElem?_eq_some_iff.1 hu).1
      have hx := hat j (by omega)
      rw [Go.Deep.add_add, Addr.add_mid, hu] at hx
      rw [show ao + i * 141 + j = ao + (i * 141 + j) by omega]
      exact hx
    obtain ⟨L, hL, hq⟩ := list_of (Q := fun i x => ∃ ab ao, a = ⟨ab, ao, none⟩ ∧ ∃ pd cd pf cf, W.rangeAt ab (ao + i * 141) (oc x pd cd pf cf) ∧ OpOk W x pd cd pf cf) len key
    have hget : ∀ i, i < len → ∃ ab ao, a = ⟨ab, ao, none⟩ ∧ ∃ pd cd pf cf, W.rangeAt ab (ao + i * 141) (oc (L.getD i Rg.ozero) pd cd pf cf) ∧ OpOk W (L.getD i Rg.ozero) pd cd pf cf := fun i hil => by
      refine hq i _ ?_
      rw [List.getD_eq_getElem?_getD, List.getElem?_eq_getElem (by omega)]
      rfl
    refine ⟨L, some a, cap, by rw [hL], fun h0 => ?_⟩
    obtain ⟨ab, ao, e, _⟩ := hget 0 (by omega)
    subst e
    refine ⟨ab, ao, rfl, fun i hil => ?_⟩
    obtain ⟨ab', ao', e', pd, cd, pf, cf, h1, h2⟩ := hget i (by omega)
    cases e'
    exact ⟨pd, cd, pf, cf, h1, h2⟩

end Go.Proofs.Ytpfghjnhoafcmaa

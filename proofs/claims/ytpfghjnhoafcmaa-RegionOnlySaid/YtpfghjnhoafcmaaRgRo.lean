/-
  Records that came in, opened; lists of them.
-/
import Derived.Test.YtpfghjnhoafcmaaPa4
import Derived.Test.YtpfghjnhoafcmaaRgL
namespace Go.Proofs.Ytpfghjnhoafcmaa
open Go.ChangeShapes Go.WideShapes Go.RowKit

theorem cells_pl : Try.prog.cellsOf 38 = 2 := by kernel_rfl
theorem cells_rec : Try.prog.cellsOf 40 = 136 := by kernel_rfl
theorem open_pl_cells {H : Type} {enc : TypeId × Value → H} {W : World} {fuel : Nat} {cs : List Value} {x : DataW H × List MemPlace} (hlen : cs.length = 2) (hf : DataW.trod enc Try.prog W 0 (fun _ => true) true fuel 38 cs = some x) :
    ∃ s l : Int, cs = [.int .i64 s, .int .i64 l] ∧ Pk.In64 s ∧ Pk.In64 l := by
  obtain ⟨xs, m, _, _, _, hlx, hel⟩ := DataW.trod_struct Try.underlying38 hf
  have hl2 : xs.length = 2 := by simpa using hlx
  have h0 := hel 0 _ rfl
  have h1 := hel 1 _ rfl
  rw [List.getElem?_eq_getElem (by omega)] at h0 h1
  obtain ⟨k0, e0, _, w0⟩ := DataW.trod_int Try.underlying3 h0
  obtain ⟨k1, e1, _, w1⟩ := DataW.trod_int Try.underlying3 h1
  refine ⟨k0, k1, ?_, in64_wf w0, in64_wf w1⟩
  rcases cs with _ | ⟨u0, _ | ⟨u1, _ | ⟨u2, q⟩⟩⟩
  · simp at hlen
  · simp at hlen
  · obtain rfl : u0 = .int .i64 k0 := by simpa [Try.cells_int] using e0
    obtain rfl : u1 = .int .i64 k1 := by simpa [Try.cells_int] using e1
    rfl
  · simp at hlen
theorem seg_cut {l : List Value} (o n : Nat) : l.drop o = (l.drop o).take n ++ l.drop (o + n) := by
  conv => lhs; rw [← List.take_append_drop n (l.drop o)]
  rw [List.drop_drop]
set_option maxHeartbeats 1000000 in
set_option maxRecDepth 100000 in
theorem open_rec_cells {H : Type} {enc : TypeId × Value → H} {W : World} {fuel : Nat} {cs : List Value} {x : DataW H × List MemPlace} (hlen : cs.length = 136) (hf : DataW.trod enc Try.prog W 0 (fun _ => true) true fuel 40 cs = some x) :
    ∃ r : Rg.R, cs = cv r ∧ Rg.Ok r := by
  obtain ⟨xs, m, _, _, _, hlx, hel⟩ := DataW.trod_struct Try.underlying40 hf
  have hl9 : xs.length = 9 := by simpa using hlx
  have h0 := hel 0 _ rfl
  have h1 := hel 1 _ rfl
  have h2 := hel 2 _ rfl
  have h3 := hel 3 _ rfl
  have h4 := hel 4 _ rfl
  have h5 := hel 5 _ rfl
  have h6 := hel 6 _ rfl
  have h7 := hel 7 _ rfl
  have h8 := hel 8 _ rfl
  rw [List.getElem?_eq_getElem (by omega)] at h0 h1 h2 h3 h4 h5 h6 h7 h8
  obtain ⟨k0, e0, _, w0⟩ := DataW.trod_int Try.underlying3 h0
  obtain ⟨k1, e1, _, w1⟩ := DataW.trod_int Try.underlying3 h1
  obtain ⟨k2, e2, _, w2⟩ := DataW.trod_int Try.underlying3 h2
  have g3 : DataW.trod enc Try.prog W 0 (fun _ => true) true m 34 ((cs.drop 3).take 32) = some xs[3] := by
    rw [← cells_sum]; exact h3
  obtain ⟨l3, e3, hl3, hb3⟩ := open_sum_cells (by simp; omega) g3
  have g4 : DataW.trod enc Try.prog W 0 (fun _ => true) true m 36 ((cs.drop 35).take 33) = some xs[4] := by
    rw [← cells_ref]; exact h4
  obtain ⟨r4, e4, hr4⟩ := open_ref_cells (by simp; omega) g4
  have g5 : DataW.trod enc Try.prog W 0 (fun _ => true) true m 38 ((cs.drop 68).take 2) = some xs[5] := by
    rw [← cells_pl]; exact h5
  obtain ⟨s5, p5, e5, hs5, hp5⟩ := open_pl_cells (by simp; omega) g5
  have g6 : DataW.trod enc Try.prog W 0 (fun _ => true) true m 38 ((cs.drop 70).take 2) = some xs[6] := by
    rw [← cells_pl]; exact h6
  obtain ⟨s6, p6, e6, hs6, hp6⟩ := open_pl_cells (by simp; omega) g6
  have g7 : DataW.trod enc Try.prog W 0 (fun _ => true) true m 34 ((cs.drop 72).take 32) = some xs[7] := by
    rw [← cells_sum]; exact h7
  obtain ⟨l7, e7, hl7, hb7⟩ := open_sum_cells (by simp; omega) g7
  have g8 : DataW.trod enc Try.prog W 0 (fun _ => true) true m 34 ((cs.drop 104).take 32) = some xs[8] := by
    rw [← cells_sum]; exact h8
  obtain ⟨l8, e8, hl8, hb8⟩ := open_sum_cells (by simp; omega) g8
  refine ⟨⟨k0, k1, k2, l3, r4, s5, p5, s6, p6, l7, l8⟩, ?_, ⟨in64_wf w0, in64_wf w1, in64_wf w2, ⟨hl3, hb3⟩, ⟨hr4.2.2, hr4.1, hr4.2.1⟩, hs5, hp5, hs6, hp6, ⟨hl7, hb7⟩, ⟨hl8, hb8⟩⟩⟩
  have q0 : cs.take 3 = [.int .i64 k0, .int .i64 k1, .int .i64 k2] := by
    rcases cs with _ | ⟨u0, _ | ⟨u1, _ | ⟨u2, q⟩⟩⟩
    · simp at hlen
    · simp at hlen
    · simp at hlen
    · obtain rfl : u0 = .int .i64 k0 := by simpa [Try.cells_int] using e0
      obtain rfl : u1 = .int .i64 k1 := by simpa [Try.cells_int] using e1
      obtain rfl : u2 = .int .i64 k2 := by simpa [Try.cells_int] using e2
      rfl
  have q8 : cs.drop 104 = l8.map (Value.int .u8) := by
    rw [← e8, List.take_of_length_le (by simp; omega)]
  have e4' : (cs.drop 35).take 33 = Value.int .i64 r4.1 :: r4.2.map (Value.int .u8) := e4
  unfold cv
  rw [← List.take_append_drop 3 cs, q0, seg_cut 3 32, e3, seg_cut 35 33, e4', seg_cut 68 2, e5, seg_cut 70 2, e6, seg_cut 72 32, e7, q8]
set_option maxRecDepth 100000 in
theorem open_rec {H : Type} {enc : TypeId × Value → H} {W : World} {base : Nat} {v : Value} {d : DataW H} {ps : List MemPlace} (hok : Value.okWide Try.prog W .any base 40 v)
    (h : DataW.Trod enc Try.prog W 0 (fun _ => true) true 40 v d ps) : ∃ r : Rg.R, v = RV r ∧ Rg.Ok r := by
  obtain ⟨cs, rfl, hsz, _⟩ : ∃ cs, v = .agg cs ∧ cs.size = Try.prog.cellsOf 40 ∧ Row.okWide Try.prog W .any base 40 cs := by
    simpa [Value.okWide, Try.underlying40] using hok
  rw [cells_rec] at hsz
  obtain ⟨fuel, hf⟩ := h
  obtain ⟨r, e, hr⟩ := open_rec_cells (cs := cs.toList) (by simpa using hsz) hf
  refine ⟨r, ?_, hr⟩
  unfold RV
  congr 1
  apply Array.ext'
  rw [e]
set_option maxRecDepth 100000 in
theorem open_recs_cells {H : Type} {enc : TypeId × Value → H} {W : World} {fuel : Nat} {c : Value} {x : DataW H × List MemPlace} (hf : DataW.trod enc Try.prog W 0 (fun _ => true) true fuel 31 [c] = some x) :
    ∃ (L : List Rg.R) (m : Nat) (p : Option Addr) (cap : Nat), c = .slice p m cap ∧ L.length = m ∧ Rs W p cap L := by
  rcases Go.Deep.open_slice Try.underlying31 hf with ⟨hcs, _⟩ | ⟨a, len, cap, m, n, D, Pl, hcs, _, hl, hm, hmm, _, hi⟩
  · obtain rfl : c = .slice none 0 0 := by simpa using hcs
    exact ⟨[], 0, none, 0, rfl, rfl, rs_none W⟩
  · obtain rfl : c = .slice (some a) len cap := by simpa using hcs
    simp only [if_true] at hmm
    have key : ∀ i, i < len → ∃ x : Rg.R, Rg.Ok x ∧ ∃ ab ao, a = ⟨ab, ao, none⟩ ∧ W.rangeAt ab (ao + i * 136) (cv x) := fun i hil => by
      obtain ⟨cs0, hc0, _⟩ := hi 0 (by omega)
      rw [cells_rec, Nat.zero_mul] at hc0
      obtain ⟨_, hcl0, hat0⟩ := World.cells?_some hc0
      have z0 := hat0 0 (by omega)
      rw [List.getElem?_eq_getElem (by omega)] at z0
      obtain ⟨cs', hc, ht⟩ := hi i (by omega)
      rw [cells_rec] at hc
      obtain ⟨_, hcl, hat⟩ := World.cells?_some hc
      obtain ⟨e, he, hok⟩ := open_rec_cells hcl ht
      obtain ⟨ab, ao, spot⟩ := a
      have hspot : spot = none := by simpa [Addr.add] using World.cell?_spot z0
      subst hspot
      refine ⟨e, hok, ab, ao, rfl, fun j u hu => ?_⟩
      rw [← he] at hu
      have hj := (List.getElem?_eq_some_iff.1 hu).1
      have hx := hat j (by omega)
      rw [Go.Deep.add_add, Addr.add_mid, hu] at hx
      rw [show ao + i * 136 + j = ao + (i * 136 + j) by omega]
      exact hx
    obtain ⟨L, hL, hq⟩ := list_of (Q := fun i x => Rg.Ok x ∧ ∃ ab ao, a = ⟨ab, ao, none⟩ ∧ W.rangeAt ab (ao + i * 136) (cv x)) len key
    have hget : ∀ i, i < len → Rg.Ok (L.getD i Rg.zero) ∧ ∃ ab ao, a = ⟨ab, ao, none⟩ ∧ W.rangeAt ab (ao + i * 136) (cv (L.getD i Rg.zero)) := fun i hil => by
      refine hq i _ ?_
      rw [List.getD_eq_getElem?_getD, List.getElem?_eq_getElem (by omega)]
      rfl
    refine ⟨L, len, some a, cap, rfl, hL, fun x hx => ?_, fun h0 => ?_, ⟨by omega, by unfold maxLen at hm; exact hm⟩, fun e => by cases e⟩
    · obtain ⟨i, hil, rfl⟩ := List.mem_iff_getElem.1 hx
      exact (hq i _ (List.getElem?_eq_getElem hil)).1
    · obtain ⟨_, ab, ao, e, _⟩ := hget 0 (by omega)
      subst e
      refine ⟨ab, ao, rfl, fun i hil => ?_⟩
      obtain ⟨_, ab', ao', e', hr⟩ := hget i (by omega)
      cases e'
      exact hr
set_option maxRecDepth 100000 in
theorem open_recs {H : Type} {enc : TypeId × Value → H} {W : World} {base : Nat} {v : Value} {d : DataW H} {ps : List MemPlace} (hok : Value.okWide Try.prog W .any base 31 v)
    (h : DataW.Trod enc Try.prog W 0 (fun _ => true) true 31 v d ps) : ∃ (L : List Rg.R) (p : Option Addr) (cap : Nat), v = .slice p L.length cap ∧ Rs W p cap L := by
  obtain ⟨a0, len, cap, rfl⟩ := okWide_slice Try.underlying31 hok
  obtain ⟨fuel, hf⟩ := h
  obtain ⟨L, m, p, c, e, hL, hr⟩ := open_recs_cells hf
  refine ⟨L, p, c, ?_, hr⟩
  rw [hL]
  exact e

end Go.Proofs.Ytpfghjnhoafcmaa

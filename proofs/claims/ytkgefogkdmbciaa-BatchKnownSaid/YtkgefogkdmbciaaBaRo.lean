/-
  Summaries that came in, opened.
-/
import Derived.Test.YtkgefogkdmbciaaPaRo
import Derived.Test.YtkgefogkdmbciaaBaD
namespace Go.Proofs.Ytkgefogkdmbciaa
open Go.ChangeShapes Go.WideShapes Go.RowKit

theorem cells_en : Try.prog.cellsOf 50 = 35 := by kernel_rfl
theorem cells_sm : Try.prog.cellsOf 26 = 35 := by kernel_rfl
theorem cells_es : Try.prog.cellsOf 24 = 1 := by kernel_rfl
set_option maxRecDepth 100000 in
theorem open_en_cells {H : Type} {enc : TypeId × Value → H} {W : World} {fuel : Nat} {cs : List Value} {x : DataW H × List MemPlace} (hlen : cs.length = 35) (hf : DataW.trod enc Try.prog W 0 (fun _ => true) true fuel 50 cs = some x) :
    ∃ e : Bt.En, cs = Bt.cells e ∧ e.ok := by
  obtain ⟨xs, m, _, _, _, hlx, hel⟩ := DataW.trod_struct Try.underlying50 hf
  have hl4 : xs.length = 4 := by simpa using hlx
  have h0 := hel 0 _ rfl
  have h1 := hel 1 _ rfl
  have h2 := hel 2 _ rfl
  have h3 := hel 3 _ rfl
  rw [List.getElem?_eq_getElem (by omega)] at h0 h1 h2 h3
  obtain ⟨k0, e0, _, w0⟩ := DataW.trod_int Try.underlying3 h0
  obtain ⟨k1, e1, _, w1⟩ := DataW.trod_int Try.underlying3 h1
  obtain ⟨k2, e2, _, w2⟩ := DataW.trod_int Try.underlying3 h2
  have h3' : DataW.trod enc Try.prog W 0 (fun _ => true) true m 23 ((cs.drop 3).take 32) = some xs[3] := by
    rw [← cells_sum]; exact h3
  obtain ⟨l, e3, hl, hb⟩ := open_sum_cells (by simp; omega) h3'
  have hd : (cs.drop 3).take 32 = cs.drop 3 := List.take_of_length_le (by simp; omega)
  rw [hd] at e3
  refine ⟨⟨k0, k1, k2, l⟩, ?_, in64_wf w0, in64_wf w1, in64_wf w2, hl, hb⟩
  rcases cs with _ | ⟨u0, _ | ⟨u1, _ | ⟨u2, q⟩⟩⟩
  · simp at hlen
  · simp at hlen
  · simp at hlen
  · obtain rfl : u0 = .int .i64 k0 := by simpa [Try.cells_int] using e0
    obtain rfl : u1 = .int .i64 k1 := by simpa [Try.cells_int] using e1
    obtain rfl : u2 = .int .i64 k2 := by simpa [Try.cells_int] using e2
    unfold Bt.cells
    rw [← e3]
    rfl
set_option maxRecDepth 100000 in
theorem open_es_cells {H : Type} {enc : TypeId × Value → H} {W : World} {fuel : Nat} {c : Value} {x : DataW H × List MemPlace} (hf : DataW.trod enc Try.prog W 0 (fun _ => true) true fuel 24 [c] = some x) :
    ∃ (L : List Bt.En) (m : Nat) (p : Option Addr) (cap : Nat), c = .slice p m cap ∧ L.length = m ∧ Es W p cap L := by
  rcases Go.Deep.open_slice Try.underlying24 hf with ⟨hcs, _⟩ | ⟨a, len, cap, m, n, D, Pl, hcs, _, hl, hm, hmm, _, hi⟩
  · obtain rfl : c = .slice none 0 0 := by simpa using hcs
    exact ⟨[], 0, none, 0, rfl, rfl, es_none W⟩
  · obtain rfl : c = .slice (some a) len cap := by simpa using hcs
    simp only [if_true] at hmm
    have key : ∀ i, i < len → ∃ x : Bt.En, x.ok ∧ ∃ ab ao, a = ⟨ab, ao, none⟩ ∧ W.rangeAt ab (ao + i * 35) (Bt.cells x) := fun i hil => by
      obtain ⟨cs0, hc0, _⟩ := hi 0 (by omega)
      rw [cells_en, Nat.zero_mul] at hc0
      obtain ⟨_, hcl0, hat0⟩ := World.cells?_some hc0
      have z0 := hat0 0 (by omega)
      rw [List.getElem?_eq_getElem (by omega)] at z0
      obtain ⟨cs', hc, ht⟩ := hi i (by omega)
      rw [cells_en] at hc
      obtain ⟨_, hcl, hat⟩ := World.cells?_some hc
      obtain ⟨e, he, hok⟩ := open_en_cells hcl ht
      obtain ⟨ab, ao, spot⟩ := a
      have hspot : spot = none := by simpa [Addr.add] using World.cell?_spot z0
      subst hspot
      refine ⟨e, hok, ab, ao, rfl, fun j u hu => ?_⟩
      rw [← he] at hu
      have hj := (List.getElem?_eq_some_iff.1 hu).1
      have hx := hat j (by omega)
      rw [Go.Deep.add_add, Addr.add_mid, hu] at hx
      rw [show ao + i * 35 + j = ao + (i * 35 + j) by omega]
      exact hx
    obtain ⟨L, hL, hq⟩ := list_of (Q := fun i x => x.ok ∧ ∃ ab ao, a = ⟨ab, ao, none⟩ ∧ W.rangeAt ab (ao + i * 35) (Bt.cells x)) len key
    have hget : ∀ i, i < len → (L.getD i Bt.en0).ok ∧ ∃ ab ao, a = ⟨ab, ao, none⟩ ∧ W.rangeAt ab (ao + i * 35) (Bt.cells (L.getD i Bt.en0)) := fun i hil => by
      refine hq i _ ?_
      rw [List.getD_eq_getElem?_getD, List.getElem?_eq_getElem (by omega)]
      rfl
    refine ⟨L, len, some a, cap, rfl, hL, fun x hx => ?_, fun h0 => ?_, ⟨by omega, by unfold maxLen at hm; exact hm⟩, fun e => by cases e⟩
    · obtain ⟨i, hil, rfl⟩ := List.mem_iff_getElem.1 hx
      exact (hq i _ (List.getElem?_eq_getElem hil)).1
    · obtain ⟨_, ab, ao, e, _⟩ := hget 0 (by omega)
      subst e
      refine ⟨ab, ao, rfl, fun i hil => ?_⟩
      obtain ⟨_, ab', ao', e', hr⟩ := hget i (by omega)
      cases e'
      exact hr
set_option maxRecDepth 100000 in
theorem open_summary {H : Type} {enc : TypeId × Value → H} {W : World} {base : Nat} {v : Value} {d : DataW H} {ps : List MemPlace} (hok : Value.okWide Try.prog W .any base 26 v)
    (h : DataW.Trod enc Try.prog W 0 (fun _ => true) true 26 v d ps) : ∃ (t : Int) (P : List Int) (n : Int) (p : Option Addr) (m c : Nat) (L : List Bt.En), v = .agg (SmA t P n (.slice p m c)) ∧ L.length = m ∧ Sv W P p c L ∧ Pk.In64 t ∧ Pk.In64 n := by
  obtain ⟨cs, rfl, hsz, _⟩ : ∃ cs, v = .agg cs ∧ cs.size = Try.prog.cellsOf 26 ∧ Row.okWide Try.prog W .any base 26 cs := by
    simpa [Value.okWide, Try.underlying26] using hok
  rw [cells_sm] at hsz
  obtain ⟨fuel, hf⟩ := h
  have hlen : cs.toList.length = 35 := by simpa using hsz
  have hf' : DataW.trod enc Try.prog W 0 (fun _ => true) true fuel 26 cs.toList = some (d, ps) := hf
  obtain ⟨xs, m, _, _, _, hlx, hel⟩ := DataW.trod_struct Try.underlying26 hf'
  have hl4 : xs.length = 4 := by simpa using hlx
  have h0 := hel 0 _ rfl
  have h1 := hel 1 _ rfl
  have h2 := hel 2 _ rfl
  have h3 := hel 3 _ rfl
  rw [List.getElem?_eq_getElem (by omega)] at h0 h1 h2 h3
  obtain ⟨t, e0, _, w0⟩ := DataW.trod_int Try.underlying3 h0
  have h1' : DataW.trod enc Try.prog W 0 (fun _ => true) true m 23 ((cs.toList.drop 1).take 32) = some xs[1] := by
    rw [← cells_sum]; exact h1
  obtain ⟨P, e1, hP, hPb⟩ := open_sum_cells (by simp; omega) h1'
  obtain ⟨n, e2, _, w2⟩ := DataW.trod_int Try.underlying3 h2
  have h3' : DataW.trod enc Try.prog W 0 (fun _ => true) true m 24 ((cs.toList.drop 34).take 1) = some xs[3] := by
    rw [← cells_es]; exact h3
  have q0 : cs.toList[0]? = some (.int .i64 t) := by
    have h := congrArg (fun z : List Value => z[0]?) e0
    simpa [Try.cells_int, Value.cells, List.getElem?_take, List.getElem?_drop] using h
  have q33 : cs.toList[33]? = some (.int .i64 n) := by
    have h := congrArg (fun z : List Value => z[0]?) e2
    simpa [Try.cells_int, Value.cells, List.getElem?_take, List.getElem?_drop] using h
  obtain ⟨c, hc⟩ : ∃ c, cs.toList[34]? = some c := ⟨_, List.getElem?_eq_getElem (by omega)⟩
  have e3 : (cs.toList.drop 34).take 1 = [c] := by
    rw [List.drop_eq_getElem_cons (by omega), List.take_succ_cons, List.take_zero]
    rw [List.getElem?_eq_getElem (by omega)] at hc
    rw [Option.some.inj hc]
  rw [e3] at h3'
  obtain ⟨L, k, p, cap, rfl, hL, hes⟩ := open_es_cells h3'
  refine ⟨t, P, n, p, k, cap, L, ?_, hL, ⟨hP, hPb, hes⟩, in64_wf w0, in64_wf w2⟩
  congr 1
  apply Array.ext'
  show cs.toList = SmC t P n (.slice p k cap)
  unfold SmC
  apply List.ext_getElem?
  intro i
  by_cases h0 : i = 0
  · subst h0; rw [q0]; rfl
  · obtain ⟨j, rfl⟩ : ∃ j, i = j + 1 := ⟨i - 1, by omega⟩
    rw [List.getElem?_cons_succ]
    by_cases hj : j < 32
    · rw [List.getElem?_append_left (by simp [hP]; omega), ← e1, List.getElem?_take, if_pos hj, List.getElem?_drop, Nat.add_comm 1 j]
    · rw [List.getElem?_append_right (by simp [hP]; omega)]
      simp only [List.length_map, hP]
      by_cases h33 : j = 32
      · subst h33; rw [q33]; rfl
      · by_cases h34 : j = 33
        · subst h34; rw [hc]; rfl
        · rw [List.getElem?_eq_none (by omega), List.getElem?_eq_none (by simp; omega)]
end Go.Proofs.Ytkgefogkdmbciaa

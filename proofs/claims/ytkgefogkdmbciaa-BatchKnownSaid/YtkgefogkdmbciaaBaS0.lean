/-
  Contract: set.
-/
import Derived.Test.YtkgefogkdmbciaaBaR0
namespace Go.Proofs.Ytkgefogkdmbciaa
open Go.RowKit

theorem Bt.ec_cell {L : List Bt.En} (h : ∀ x ∈ L, x.ok) (i j : Nat) (hi : i < L.length) (hj : j < 35) (v : Value) (y : Bt.En) (hc : (Bt.cells (L.getD i Bt.en0)).set j v = Bt.cells y) : (Bt.ec L).set (i * 35 + j) v = Bt.ec (L.set i y) := by
  have e : L = L.take i ++ L.getD i Bt.en0 :: L.drop (i + 1) := by
    rw [← Bt.drop_getD L i hi, List.take_append_drop]
  have h1 : ∀ x ∈ L.take i, x.ok := fun x hx => h x (List.mem_of_mem_take hx)
  have l1 : (Bt.ec (L.take i)).length = i * 35 := by rw [Bt.ec_len h1, List.length_take]; omega
  have hx : (Bt.cells (L.getD i Bt.en0)).length = 35 := by
    rw [List.getD_eq_getElem?_getD, List.getElem?_eq_getElem hi]
    exact Bt.cells_len (h _ (List.getElem_mem hi))
  have e2 : Bt.ec L = Bt.ec (L.take i) ++ (Bt.cells (L.getD i Bt.en0) ++ Bt.ec (L.drop (i + 1))) := by
    conv => lhs; rw [e]
    rw [Bt.ec_append, Bt.ec]
  have e3 : L.set i y = L.take i ++ y :: L.drop (i + 1) := by
    rw [List.set_eq_take_append_cons_drop, if_pos hi]
  rw [e3, Bt.ec_append, Bt.ec, e2, List.set_append_right _ _ (by omega), l1, show i * 35 + j - i * 35 = j by omega, List.set_append_left _ _ (by omega), hc]
theorem EsO.setc {B g c m : Nat} {y : World} {L : List Bt.En} {v : Value} (h : EsO B y (.slice (some ⟨g, 0, none⟩) m c) L) (hok : ∀ x ∈ L, x.ok) (hm : L.length = m) (i j : Nat) (hi : i < m) (hj : j < 35) (x : Bt.En) (hc : (Bt.cells (L.getD i Bt.en0)).set j v = Bt.cells x) :
    EsO B (y.setCell ⟨g, i * 35 + j, none⟩ v) (.slice (some ⟨g, 0, none⟩) m c) (L.set i x) := by
  subst hm
  obtain ⟨h1, h2⟩ := h
  have he := Bt.ec_cell hok i j hi hj v x hc
  rcases h2 with ⟨h3, _⟩ | ⟨g', cap, cur, h3, q0, hg, hn, hx, hs, ht⟩
  · cases h3
  · cases h3
    refine ⟨by rw [← he, List.length_set, List.length_set]; exact h1, Or.inr ⟨g, c, cur.setIfInBounds (i * 35 + j) v, by rw [List.length_set], q0, heap_setCell_same y g (i * 35 + j) _ _ v hg, by rw [List.length_set]; exact hn, hx, by rw [Array.size_setIfInBounds]; exact hs, ?_⟩⟩
    rw [← he, List.length_set, Array.toList_setIfInBounds, List.take_set, ht]
theorem EsO.blk {B : Nat} {y : World} {q : Option Addr} {m c : Nat} {L : List Bt.En} (h : EsO B y (.slice q m c) L) (h0 : 0 < m) : ∃ g, q = some ⟨g, 0, none⟩ ∧ B ≤ g ∧ g < y.heap.size ∧ (∀ k, y.frozen? ⟨g, k, none⟩ = false) := by
  rcases h.2 with ⟨h3, _⟩ | ⟨g, cap, cur, h3, q0, hg, _⟩
  · cases h3; omega
  · cases h3; exact ⟨g, rfl, q0, lt_of_block hg, fun k => frozen_of_row y g k _ _ hg⟩
theorem EsO.en {B g c m : Nat} {y : World} {L : List Bt.En} (h : EsO B y (.slice (some ⟨g, 0, none⟩) m c) L) (hok : ∀ x ∈ L, x.ok) (hm : L.length = m) {i : Nat} (hi : i < m) : EnAt y g (i * 35) (L.getD i Bt.en0) := by
  obtain ⟨p, d, e, hes⟩ := h.es hok
  cases e
  obtain ⟨ab, ao, e1, e2⟩ := hes.at_ (by omega)
  cases e1
  have h1 := e2 i (by omega)
  rw [Nat.zero_add] at h1
  exact en_at h1
def SetSay (w : World) (e : Ending) (w' : World) : Prop :=
  ∃ t P n q c L, e = .returned (.agg (SmA t P n (.slice q 3 c))) ∧ Hid (Pk.In64 t ∧ Pk.In64 n ∧ L.length = 3) ∧ Hid (Sv w' P q c L) ∧ Hid (∀ ad, q = some ad → w.heap.size ≤ ad.block ∧ ad.block < w'.heap.size) ∧ Hid (Below w.heap.size w w')
theorem setsay {w w' : World} {t n : Int} {B : Nat} {q : Option Addr} {c : Nat} {L : List Bt.En} (ht : Pk.In64 t) (hn : Pk.In64 n) (hL : L.length = 3) (hok : ∀ x ∈ L, x.ok) (h : EsO B w' (.slice q 3 c) L) (hB : w.heap.size ≤ B) (hb : Below w.heap.size w w') : SetSay w (.returned (.agg (SmA t Bt.Z n (.slice q 3 c)))) w' := by
  obtain ⟨p, d, e, he⟩ := h.es hok
  rw [hL] at e
  cases e
  exact ⟨t, Bt.Z, n, q, c, L, rfl, ⟨ht, hn, hL⟩, ⟨Bt.z_len, Bt.z_byt, he⟩, fun ad e => by obtain ⟨g, h1, h2, h3, _⟩ := h.blk (by omega); rw [h1] at e; cases e; exact ⟨Nat.le_trans hB h2, h3⟩, hb⟩
set_option maxHeartbeats 4000000 in
set_option maxRecDepth 100000 in
theorem set_any (f n : Int) (a : Nat) (hf : f = 0 ∨ f = 1 ∨ f = 2 ∨ f = 3 ∨ f = 4 ∨ f = 5) (ha : a < 3) (hn : Pk.In64 n) (g0 : Nat) (w : World) (hg : EsRow w g0 Bt.T3) :
    Calls Try.prog 27 #[.agg (SmA 3 Bt.Z (-1) (.slice (some ⟨g0, 0, none⟩) 3 3)), .int .i64 f, .int .i64 (a : Nat), .int .i64 n] w (SetSay w) := by
  have HT : Hid (∀ x ∈ Bt.T3, x.ok) := Bt.t3s_ok
  have HL3 : Hid (Bt.T3.length = 3) := Bt.t3_len
  have HCE : Hid (∀ y, Below w.heap.size w y → Calls Try.prog 29 #[.slice (some ⟨g0, 0, none⟩) 3 3] y (fun e w' => ∃ q d, e = .returned (.slice q 3 d) ∧ EsO y.heap.size w' (.slice q 3 d) Bt.T3 ∧ Below y.heap.size y w')) := fun y hy => copys_any Bt.T3 _ 3 3 Bt.t3_len (by omega) y ((hg.old hy).es Bt.t3s_ok (by rw [Bt.t3_len]; omega))
  have HNN := Lib.hid hn
  have HSZ : Hid (∀ t n v, (SmA t Bt.Z n v).size = 35) := fun t n v => smA_size t n v Bt.z_len
  have HS1 : Hid (∀ t n q c, (SmA t Bt.Z n (.slice q 3 c)).all (·.oneCell') = true) := fun t n q c => smA_one _ _ _ _ _ _
  have hsx := sm_info (HSZ.out 3 (-1) (.slice (some ⟨g0, 0, none⟩) 3 3))
  have hZS := sm_info (A := ZSm.toArray) rfl
  have HA : Hid (SmAt ((w.alloc (.cells (SmA 3 Bt.Z (-1) (.slice (some ⟨g0, 0, none⟩) 3 3)) 26)).alloc (.cells ZSm.toArray 26)) w.heap.size 3 Bt.Z (-1) (.slice (some ⟨g0, 0, none⟩) 3 3)) := (heap_oldX _ _ (by simp)).trans (heap_alloc_new w _)
  have B0 : Hid (Below w.heap.size w ((w.alloc (.cells (SmA 3 Bt.Z (-1) (.slice (some ⟨g0, 0, none⟩) 3 3)) 26)).alloc (.cells ZSm.toArray 26))) := below_two w _ _
  have Z0 : Hid (((w.alloc (.cells (SmA 3 Bt.Z (-1) (.slice (some ⟨g0, 0, none⟩) 3 3)) 26)).alloc (.cells ZSm.toArray 26)).heap[w.heap.size + 1]? = some (.cells ZSm.toArray 26 (0, 0))) := heap_alloc2_new w _ _
  have HI : Hid (0 ≤ (a : Int) ∧ (a : Int) < 3) := by show _ ∧ _; omega
  clear hn hg
  obtain ⟨X, hX⟩ : ∃ X, SmA 3 Bt.Z (-1) (.slice (some ⟨g0, 0, none⟩) 3 3) = X := ⟨_, rfl⟩
  rw [hX] at HA B0 Z0 hsx ⊢
  clear hX
  go_enter Try.func27, Try.ntmps27
  go_upto_region 1 with (fail)
  change Code.wp _ _ _ _ ((w.alloc (.cells X 26)).alloc (.cells ZSm.toArray 26))
  obtain ⟨w0, hw0⟩ : ∃ y, y = (w.alloc (.cells X 26)).alloc (.cells ZSm.toArray 26) := ⟨_, rfl⟩
  rw [← hw0] at HA B0 Z0 ⊢
  clear hw0
  have c34 := HA.out.c34 Bt.z_len
  go_upto_region 2 with (go_at_call 29; refine (HCE.out _ B0.out).mono ?_; rintro e1 w1 ⟨q, d, rfl, o1, k1⟩; have S1 : Hid (SmAt w1 w.heap.size 3 Bt.Z (-1) (.slice (some ⟨g0, 0, none⟩) 3 3)) := HA.out.old k1; have d34 := S1.out.c34 Bt.z_len; have e34 := S1.out.fr 34)
  change Code.wp _ _ _ _ (w1.setCell ⟨w.heap.size, 34, none⟩ (.slice q 3 d))
  obtain ⟨g, rfl, HBG⟩ := o1.blk (by omega)
  have ch := (Chg.setCell w1 ⟨w.heap.size, 34, none⟩ (.slice (some ⟨g, 0, none⟩) 3 d)).only
  have Z1 : Hid (w1.heap[w.heap.size + 1]? = some (.cells ZSm.toArray 26 (0, 0))) := (k1.block _ (lt_of_block Z0.out)).trans Z0.out
  have S2 : Hid (SmAt (w1.setCell ⟨w.heap.size, 34, none⟩ (.slice (some ⟨g, 0, none⟩) 3 d)) w.heap.size 3 Bt.Z (-1) (.slice (some ⟨g, 0, none⟩) 3 d)) := S1.out.set Bt.z_len _
  have Z2 : Hid ((w1.setCell ⟨w.heap.size, 34, none⟩ (.slice (some ⟨g, 0, none⟩) 3 d)).heap[w.heap.size + 1]? = some (.cells ZSm.toArray 26 (0, 0))) := (ch.block _ (lt_of_block Z1.out) (Nat.succ_ne_self _)).trans Z1.out
  have HGG : Hid (w.heap.size + 1 < g) := Nat.lt_of_lt_of_le (lt_of_block Z0.out) HBG.1
  have O2 : Hid (EsO w0.heap.size (w1.setCell ⟨w.heap.size, 34, none⟩ (.slice (some ⟨g, 0, none⟩) 3 d)) (.slice (some ⟨g, 0, none⟩) 3 d) Bt.T3) := EsO.only o1 ch (Nat.lt_of_succ_lt (lt_of_block Z0.out))
  have B2 : Hid (Below w.heap.size w (w1.setCell ⟨w.heap.size, 34, none⟩ (.slice (some ⟨g, 0, none⟩) 3 d))) := ch.below (B0.out.trans (k1.mono B0.out.size)) (Nat.le_refl _) (Nat.le_trans B0.out.size k1.size)
  obtain ⟨w2, hw2⟩ : ∃ y, y = w1.setCell ⟨w.heap.size, 34, none⟩ (.slice (some ⟨g, 0, none⟩) 3 d) := ⟨_, rfl⟩
  rw [← hw2] at S2 Z2 O2 B2 ⊢
  have HW0 : Hid (w.heap.size < w0.heap.size) := Nat.lt_of_succ_lt (lt_of_block Z0.out)
  clear hw2 ch Z1 HBG S1 d34 e34 o1 k1 c34 HA B0 Z0 HCE
  have HGL : Hid (g < w2.heap.size) := (O2.out.blk (by omega)).elim fun g' h => by cases h.1; exact h.2.2.1
  have HEA : Hid (EnAt w2 g (a * 35) (Bt.T3.getD a Bt.en0)) := O2.out.en HT.out HL3.out ha
  have HXO : Hid ((Bt.T3.getD a Bt.en0).ok) := HT.out _ (by rw [List.getD_eq_getElem?_getD, List.getElem?_eq_getElem (by rw [HL3.out]; exact ha)]; exact List.getElem_mem _)
  have HFR : Hid (∀ k, w2.frozen? ⟨g, k, none⟩ = false) := (O2.out.blk (by omega)).elim fun g' h => by cases h.1; exact h.2.2.2
  have HXC : Hid (∀ x j v, j < 35 → (Bt.cells (Bt.T3.getD a Bt.en0)).set j v = Bt.cells x → EsO w0.heap.size (w2.setCell ⟨g, a * 35 + j, none⟩ v) (.slice (some ⟨g, 0, none⟩) 3 d) (Bt.T3.set a x)) := fun x j v hj hc => O2.out.setc HT.out HL3.out a j ha hj x hc
  have HOS : Hid (∀ x : Bt.En, x.ok → ∀ y ∈ Bt.T3.set a x, y.ok) := fun x hx => Bt.ok_set HT.out a hx
  have HLS : Hid (∀ x, (Bt.T3.set a x).length = 3) := fun x => by rw [List.length_set]; exact HL3.out
  have hi0 := HI.out.1
  have hi1 := HI.out.2
  generalize hx : Bt.T3.getD a Bt.en0 = x at *
  have HG1 := HGG.out
  rcases hf with rfl | rfl | rfl | rfl | rfl | rfl
  · have c0 := S2.out.c0
    have f0 := S2.out.fr 0
    go_upto_region 15 with (fail)
    change Code.wp _ _ _ _ (w2.setCell ⟨w.heap.size, 0, none⟩ (.int .i64 n))
    have ch3 := (Chg.setCell w2 ⟨w.heap.size, 0, none⟩ (.int .i64 n)).only
    have S3 : Hid (SmAt (w2.setCell ⟨w.heap.size, 0, none⟩ (.int .i64 n)) w.heap.size n Bt.Z (-1) (.slice (some ⟨g, 0, none⟩) 3 d)) := S2.out.setT n
    have Z3 : Hid ((w2.setCell ⟨w.heap.size, 0, none⟩ (.int .i64 n)).heap[w.heap.size + 1]? = some (.cells ZSm.toArray 26 (0, 0))) := (ch3.block _ (lt_of_block Z2.out) (Nat.succ_ne_self _)).trans Z2.out
    have O3 : Hid (EsO w0.heap.size (w2.setCell ⟨w.heap.size, 0, none⟩ (.int .i64 n)) (.slice (some ⟨g, 0, none⟩) 3 d) Bt.T3) := O2.out.only ch3 HW0.out
    have B3 : Hid (Below w.heap.size w (w2.setCell ⟨w.heap.size, 0, none⟩ (.int .i64 n))) := ch3.below B2.out (Nat.le_refl _) B2.out.size
    obtain ⟨w3, hw3⟩ : ∃ y, y = w2.setCell ⟨w.heap.size, 0, none⟩ (.int .i64 n) := ⟨_, rfl⟩
    rw [← hw3] at S3 Z3 O3 B3 ⊢
    clear hw3 ch3 c0 f0 S2 Z2 O2 B2 HEA HFR HXC
    have HSZ3 := HSZ.out n (-1) (.slice (some ⟨g, 0, none⟩) 3 d)
    have S3' : Hid (w3.heap[w.heap.size]? = some (.cells (SmA n Bt.Z (-1) (.slice (some ⟨g, 0, none⟩) 3 d)) 26 (0, 0))) := S3.out
    go_wp2_with (first
      | ((with_reducible refine row_load _ _ _ _ _ _ _ ?_ S3'.out Try.underlying26 ?_ (sm_info HSZ3) ?_); (exact rfl); (exact rfl))
      | ((with_reducible refine row_store _ _ _ _ _ _ (SmA n Bt.Z (-1) (.slice (some ⟨g, 0, none⟩) 3 d)) ?_ ?_ Z3.out (sm_info HSZ3) ?_ (HS1.out _ _ _ _) ?_); (exact rfl); (exact rfl); (rw [HSZ3]; rfl); intro w4 G4 ch4))
    refine bodyPost_ret (results_cell_row rfl _ _ (w.heap.size + 1) 26 _ (0, 0) _ rfl G4.out Try.underlying26 rfl (sm_info HSZ3)) rfl (setsay HNN.out ⟨by decide, by decide⟩ HL3.out HT.out (O3.out.keep (fun b hb => ch4.block b (by cases hb; exact Nat.ne_of_gt HGG.out))) (Nat.le_of_lt HW0.out) (ch4.below B3.out (Nat.le_succ _)))
  · have c0 := S2.out.c33 Bt.z_len
    have f0 := S2.out.fr 33
    go_upto_region 15 with (fail)
    change Code.wp _ _ _ _ (w2.setCell ⟨w.heap.size, 33, none⟩ (.int .i64 n))
    have ch3 := (Chg.setCell w2 ⟨w.heap.size, 33, none⟩ (.int .i64 n)).only
    have S3 : Hid (SmAt (w2.setCell ⟨w.heap.size, 33, none⟩ (.int .i64 n)) w.heap.size 3 Bt.Z n (.slice (some ⟨g, 0, none⟩) 3 d)) := S2.out.setN Bt.z_len n
    have Z3 : Hid ((w2.setCell ⟨w.heap.size, 33, none⟩ (.int .i64 n)).heap[w.heap.size + 1]? = some (.cells ZSm.toArray 26 (0, 0))) := (ch3.block _ (lt_of_block Z2.out) (Nat.succ_ne_self _)).trans Z2.out
    have O3 : Hid (EsO w0.heap.size (w2.setCell ⟨w.heap.size, 33, none⟩ (.int .i64 n)) (.slice (some ⟨g, 0, none⟩) 3 d) Bt.T3) := O2.out.only ch3 HW0.out
    have B3 : Hid (Below w.heap.size w (w2.setCell ⟨w.heap.size, 33, none⟩ (.int .i64 n))) := ch3.below B2.out (Nat.le_refl _) B2.out.size
    obtain ⟨w3, hw3⟩ : ∃ y, y = w2.setCell ⟨w.heap.size, 33, none⟩ (.int .i64 n) := ⟨_, rfl⟩
    rw [← hw3] at S3 Z3 O3 B3 ⊢
    clear hw3 ch3 c0 f0 S2 Z2 O2 B2 HEA HFR HXC
    have HSZ3 := HSZ.out 3 n (.slice (some ⟨g, 0, none⟩) 3 d)
    have S3' : Hid (w3.heap[w.heap.size]? = some (.cells (SmA 3 Bt.Z n (.slice (some ⟨g, 0, none⟩) 3 d)) 26 (0, 0))) := S3.out
    go_wp2_with (first
      | ((with_reducible refine row_load _ _ _ _ _ _ _ ?_ S3'.out Try.underlying26 ?_ (sm_info HSZ3) ?_); (exact rfl); (exact rfl))
      | ((with_reducible refine row_store _ _ _ _ _ _ (SmA 3 Bt.Z n (.slice (some ⟨g, 0, none⟩) 3 d)) ?_ ?_ Z3.out (sm_info HSZ3) ?_ (HS1.out _ _ _ _) ?_); (exact rfl); (exact rfl); (rw [HSZ3]; rfl); intro w4 G4 ch4))
    refine bodyPost_ret (results_cell_row rfl _ _ (w.heap.size + 1) 26 _ (0, 0) _ rfl G4.out Try.underlying26 rfl (sm_info HSZ3)) rfl (setsay ⟨by decide, by decide⟩ HNN.out HL3.out HT.out (O3.out.keep (fun b hb => ch4.block b (by cases hb; exact Nat.ne_of_gt HGG.out))) (Nat.le_of_lt HW0.out) (ch4.below B3.out (Nat.le_succ _)))
  · have c34 := S2.out.c34 Bt.z_len
    have c0 := HEA.out.ck
    have f0 := HFR.out (a * 35)
    go_upto_region 15 with (fail)
    change Code.wp _ _ _ _ (w2.setCell ⟨g, a * 35, none⟩ (.int .i64 n))
    have ch3 := (Chg.setCell w2 ⟨g, a * 35, none⟩ (.int .i64 n)).only
    have S3 : Hid (SmAt (w2.setCell ⟨g, a * 35, none⟩ (.int .i64 n)) w.heap.size 3 Bt.Z (-1) (.slice (some ⟨g, 0, none⟩) 3 d)) := (ch3.block _ (lt_of_block S2.out) (Nat.ne_of_lt (Nat.lt_of_succ_lt HGG.out))).trans S2.out
    have Z3 : Hid ((w2.setCell ⟨g, a * 35, none⟩ (.int .i64 n)).heap[w.heap.size + 1]? = some (.cells ZSm.toArray 26 (0, 0))) := (ch3.block _ (lt_of_block Z2.out) (Nat.ne_of_lt HGG.out)).trans Z2.out
    have O3 : Hid (EsO w0.heap.size (w2.setCell ⟨g, a * 35, none⟩ (.int .i64 n)) (.slice (some ⟨g, 0, none⟩) 3 d) (Bt.T3.set a ⟨n, x.b, x.s, x.u⟩)) := HXC.out ⟨n, x.b, x.s, x.u⟩ 0 (.int .i64 n) (by omega) (by unfold Bt.cells; rfl)
    have B3 : Hid (Below w.heap.size w (w2.setCell ⟨g, a * 35, none⟩ (.int .i64 n))) := ch3.below B2.out (Nat.le_of_lt (Nat.lt_of_succ_lt HGG.out)) B2.out.size
    obtain ⟨w3, hw3⟩ : ∃ y, y = w2.setCell ⟨g, a * 35, none⟩ (.int .i64 n) := ⟨_, rfl⟩
    rw [← hw3] at S3 Z3 O3 B3 ⊢
    clear hw3 ch3 c34 c0 f0 S2 Z2 O2 B2 HEA HFR HXC
    have HXK := Lib.hid (HOS.out ⟨n, x.b, x.s, x.u⟩ ⟨HNN.out, HXO.out.2.1, HXO.out.2.2.1, HXO.out.2.2.2.1, HXO.out.2.2.2.2⟩)
    have HXL := Lib.hid (HLS.out ⟨n, x.b, x.s, x.u⟩)
    have HSZ3 := HSZ.out 3 (-1) (.slice (some ⟨g, 0, none⟩) 3 d)
    have S3' : Hid (w3.heap[w.heap.size]? = some (.cells (SmA 3 Bt.Z (-1) (.slice (some ⟨g, 0, none⟩) 3 d)) 26 (0, 0))) := S3.out
    go_wp2_with (first
      | ((with_reducible refine row_load _ _ _ _ _ _ _ ?_ S3'.out Try.underlying26 ?_ (sm_info HSZ3) ?_); (exact rfl); (exact rfl))
      | ((with_reducible refine row_store _ _ _ _ _ _ (SmA 3 Bt.Z (-1) (.slice (some ⟨g, 0, none⟩) 3 d)) ?_ ?_ Z3.out (sm_info HSZ3) ?_ (HS1.out _ _ _ _) ?_); (exact rfl); (exact rfl); (rw [HSZ3]; rfl); intro w4 G4 ch4))
    refine bodyPost_ret (results_cell_row rfl _ _ (w.heap.size + 1) 26 _ (0, 0) _ rfl G4.out Try.underlying26 rfl (sm_info HSZ3)) rfl (setsay ⟨by decide, by decide⟩ ⟨by decide, by decide⟩ HXL.out HXK.out (O3.out.keep (fun b hb => ch4.block b (by cases hb; exact Nat.ne_of_gt HGG.out))) (Nat.le_of_lt HW0.out) (ch4.below B3.out (Nat.le_succ _)))
  · have c34 := S2.out.c34 Bt.z_len
    have c0 := HEA.out.cb
    have f0 := HFR.out (a * 35 + 1)
    go_upto_region 15 with (fail)
    change Code.wp _ _ _ _ (w2.setCell ⟨g, a * 35 + 1, none⟩ (.int .i64 n))
    have ch3 := (Chg.setCell w2 ⟨g, a * 35 + 1, none⟩ (.int .i64 n)).only
    have S3 : Hid (SmAt (w2.setCell ⟨g, a * 35 + 1, none⟩ (.int .i64 n)) w.heap.size 3 Bt.Z (-1) (.slice (some ⟨g, 0, none⟩) 3 d)) := (ch3.block _ (lt_of_block S2.out) (Nat.ne_of_lt (Nat.lt_of_succ_lt HGG.out))).trans S2.out
    have Z3 : Hid ((w2.setCell ⟨g, a * 35 + 1, none⟩ (.int .i64 n)).heap[w.heap.size + 1]? = some (.cells ZSm.toArray 26 (0, 0))) := (ch3.block _ (lt_of_block Z2.out) (Nat.ne_of_lt HGG.out)).trans Z2.out
    have O3 : Hid (EsO w0.heap.size (w2.setCell ⟨g, a * 35 + 1, none⟩ (.int .i64 n)) (.slice (some ⟨g, 0, none⟩) 3 d) (Bt.T3.set a ⟨x.k, n, x.s, x.u⟩)) := HXC.out ⟨x.k, n, x.s, x.u⟩ 1 (.int .i64 n) (by omega) (by unfold Bt.cells; rfl)
    have B3 : Hid (Below w.heap.size w (w2.setCell ⟨g, a * 35 + 1, none⟩ (.int .i64 n))) := ch3.below B2.out (Nat.le_of_lt (Nat.lt_of_succ_lt HGG.out)) B2.out.size
    obtain ⟨w3, hw3⟩ : ∃ y, y = w2.setCell ⟨g, a * 35 + 1, none⟩ (.int .i64 n) := ⟨_, rfl⟩
    rw [← hw3] at S3 Z3 O3 B3 ⊢
    clear hw3 ch3 c34 c0 f0 S2 Z2 O2 B2 HEA HFR HXC
    have HXK := Lib.hid (HOS.out ⟨x.k, n, x.s, x.u⟩ ⟨HXO.out.1, HNN.out, HXO.out.2.2.1, HXO.out.2.2.2.1, HXO.out.2.2.2.2⟩)
    have HXL := Lib.hid (HLS.out ⟨x.k, n, x.s, x.u⟩)
    have HSZ3 := HSZ.out 3 (-1) (.slice (some ⟨g, 0, none⟩) 3 d)
    have S3' : Hid (w3.heap[w.heap.size]? = some (.cells (SmA 3 Bt.Z (-1) (.slice (some ⟨g, 0, none⟩) 3 d)) 26 (0, 0))) := S3.out
    go_wp2_with (first
      | ((with_reducible refine row_load _ _ _ _ _ _ _ ?_ S3'.out Try.underlying26 ?_ (sm_info HSZ3) ?_); (exact rfl); (exact rfl))
      | ((with_reducible refine row_store _ _ _ _ _ _ (SmA 3 Bt.Z (-1) (.slice (some ⟨g, 0, none⟩) 3 d)) ?_ ?_ Z3.out (sm_info HSZ3) ?_ (HS1.out _ _ _ _) ?_); (exact rfl); (exact rfl); (rw [HSZ3]; rfl); intro w4 G4 ch4))
    refine bodyPost_ret (results_cell_row rfl _ _ (w.heap.size + 1) 26 _ (0, 0) _ rfl G4.out Try.underlying26 rfl (sm_info HSZ3)) rfl (setsay ⟨by decide, by decide⟩ ⟨by decide, by decide⟩ HXL.out HXK.out (O3.out.keep (fun b hb => ch4.block b (by cases hb; exact Nat.ne_of_gt HGG.out))) (Nat.le_of_lt HW0.out) (ch4.below B3.out (Nat.le_succ _)))
  · have c34 := S2.out.c34 Bt.z_len
    have c0 := HEA.out.cs
    have f0 := HFR.out (a * 35 + 2)
    go_upto_region 15 with (fail)
    change Code.wp _ _ _ _ (w2.setCell ⟨g, a * 35 + 2, none⟩ (.int .i64 n))
    have ch3 := (Chg.setCell w2 ⟨g, a * 35 + 2, none⟩ (.int .i64 n)).only
    have S3 : Hid (SmAt (w2.setCell ⟨g, a * 35 + 2, none⟩ (.int .i64 n)) w.heap.size 3 Bt.Z (-1) (.slice (some ⟨g, 0, none⟩) 3 d)) := (ch3.block _ (lt_of_block S2.out) (Nat.ne_of_lt (Nat.lt_of_succ_lt HGG.out))).trans S2.out
    have Z3 : Hid ((w2.setCell ⟨g, a * 35 + 2, none⟩ (.int .i64 n)).heap[w.heap.size + 1]? = some (.cells ZSm.toArray 26 (0, 0))) := (ch3.block _ (lt_of_block Z2.out) (Nat.ne_of_lt HGG.out)).trans Z2.out
    have O3 : Hid (EsO w0.heap.size (w2.setCell ⟨g, a * 35 + 2, none⟩ (.int .i64 n)) (.slice (some ⟨g, 0, none⟩) 3 d) (Bt.T3.set a ⟨x.k, x.b, n, x.u⟩)) := HXC.out ⟨x.k, x.b, n, x.u⟩ 2 (.int .i64 n) (by omega) (by unfold Bt.cells; rfl)
    have B3 : Hid (Below w.heap.size w (w2.setCell ⟨g, a * 35 + 2, none⟩ (.int .i64 n))) := ch3.below B2.out (Nat.le_of_lt (Nat.lt_of_succ_lt HGG.out)) B2.out.size
    obtain ⟨w3, hw3⟩ : ∃ y, y = w2.setCell ⟨g, a * 35 + 2, none⟩ (.int .i64 n) := ⟨_, rfl⟩
    rw [← hw3] at S3 Z3 O3 B3 ⊢
    clear hw3 ch3 c34 c0 f0 S2 Z2 O2 B2 HEA HFR HXC
    have HXK := Lib.hid (HOS.out ⟨x.k, x.b, n, x.u⟩ ⟨HXO.out.1, HXO.out.2.1, HNN.out, HXO.out.2.2.2.1, HXO.out.2.2.2.2⟩)
    have HXL := Lib.hid (HLS.out ⟨x.k, x.b, n, x.u⟩)
    have HSZ3 := HSZ.out 3 (-1) (.slice (some ⟨g, 0, none⟩) 3 d)
    have S3' : Hid (w3.heap[w.heap.size]? = some (.cells (SmA 3 Bt.Z (-1) (.slice (some ⟨g, 0, none⟩) 3 d)) 26 (0, 0))) := S3.out
    go_wp2_with (first
      | ((with_reducible refine row_load _ _ _ _ _ _ _ ?_ S3'.out Try.underlying26 ?_ (sm_info HSZ3) ?_); (exact rfl); (exact rfl))
      | ((with_reducible refine row_store _ _ _ _ _ _ (SmA 3 Bt.Z (-1) (.slice (some ⟨g, 0, none⟩) 3 d)) ?_ ?_ Z3.out (sm_info HSZ3) ?_ (HS1.out _ _ _ _) ?_); (exact rfl); (exact rfl); (rw [HSZ3]; rfl); intro w4 G4 ch4))
    refine bodyPost_ret (results_cell_row rfl _ _ (w.heap.size + 1) 26 _ (0, 0) _ rfl G4.out Try.underlying26 rfl (sm_info HSZ3)) rfl (setsay ⟨by decide, by decide⟩ ⟨by decide, by decide⟩ HXL.out HXK.out (O3.out.keep (fun b hb => ch4.block b (by cases hb; exact Nat.ne_of_gt HGG.out))) (Nat.le_of_lt HW0.out) (ch4.below B3.out (Nat.le_succ _)))
  · have HPK : Hid (∀ y, Calls Try.prog 25 #[.int .i64 n, .int .i64 32] y fun r w' => w' = y ∧ r = .returned (.int .i64 (pk n 32 : Nat))) := fun y => pick_at n 32 (by omega) (by omega) y
    have hj := pk_lt n 32 (by omega)
    obtain ⟨j, hje⟩ : ∃ j, pk n 32 = j := ⟨_, rfl⟩
    rw [hje] at HPK hj
    have hj0 : 0 ≤ (j : Int) := by omega
    clear hje
    obtain ⟨U, hU, hU2, _⟩ := a32_agg x.u HXO.out.2.2.2.1
    have HUJ : Hid (U.toList[j]? = some (.int .u8 (x.u.getD j 0))) := by
      show _ = _
      unfold A32 at hU
      cases hU
      show (List.map (Value.int .u8) x.u)[j]? = _
      rw [List.getElem?_map, List.getD_eq_getElem?_getD, List.getElem?_eq_getElem (by rw [HXO.out.2.2.2.1]; omega)]
      rfl
    have HCU : Hid (w2.cell? ⟨g, a * 35 + 3 + j, none⟩ = some (.int .u8 (x.u.getD j 0))) := HEA.out.cu U hU j _ HUJ.out
    clear hU hU2 HUJ
    go_upto_region 14 with (fail)
    refine wp_region_any (by kernel_rfl) ?_
    change wpAny _ _ _ _ _ _ _ (World.drew _)
    have Sz : Hid (SmAt w2.drew w.heap.size 3 Bt.Z (-1) (.slice (some ⟨g, 0, none⟩) 3 d)) := S2.out.drew
    have Zz : Hid (w2.drew.heap[w.heap.size + 1]? = some (.cells ZSm.toArray 26 (0, 0))) := Z2.out
    have Bz : Hid (Below w.heap.size w w2.drew) := B2.out.drew
    have Cz : Hid (w2.drew.cell? ⟨g, a * 35 + 3 + j, none⟩ = some (.int .u8 (x.u.getD j 0))) := HCU.out
    have Fz : Hid (∀ k, w2.drew.frozen? ⟨g, k, none⟩ = false) := HFR.out
    have Xz : Hid (∀ x1 j v, j < 35 → (Bt.cells x).set j v = Bt.cells x1 → EsO w0.heap.size (w2.drew.setCell ⟨g, a * 35 + j, none⟩ v) (.slice (some ⟨g, 0, none⟩) 3 d) (Bt.T3.set a x1)) := HXC.out
    have Gz : Hid (g < w2.drew.heap.size) := HGL.out
    obtain ⟨z, hz⟩ : ∃ y, y = w2.drew := ⟨_, rfl⟩
    rw [← hz] at Sz Zz Bz Cz Fz Xz Gz ⊢
    clear hz
    refine wpAny_of_held (S := fun y => SmAt y w.heap.size 3 Bt.Z (-1) (.slice (some ⟨g, 0, none⟩) 3 d)) _ _ _ _ ?_
    refine anyH_take 0 48 (.pointer (some ⟨w.heap.size, 34, none⟩)) Sz.out rfl (by kernel_rfl) (by kernel_rfl) (by kernel_rfl) (fun _ _ _ h => h) (by rfl) (by intro y hy; go_simp) ?_
    try simp only [Act.put, List.setIfInBounds_toArray, List.set_cons_zero, List.set_cons_succ]
    refine anyH_take 1 49 (.slice (some ⟨g, 0, none⟩) 3 d) Sz.out rfl (by kernel_rfl) (by kernel_rfl) (by kernel_rfl) (fun _ _ _ h => h) (by rfl) (by intro y hy; have c34 := hy.c34 Bt.z_len; go_simp) ?_
    try simp only [Act.put, List.setIfInBounds_toArray, List.set_cons_zero, List.set_cons_succ]
    refine anyH_take 2 50 (.int .i64 (a : Nat)) Sz.out rfl (by kernel_rfl) (by kernel_rfl) (by kernel_rfl) (fun _ _ _ h => h) (by rfl) (by intro y hy; go_simp) ?_
    try simp only [Act.put, List.setIfInBounds_toArray, List.set_cons_zero, List.set_cons_succ]
    refine anyH_take 3 51 (.int .i64 n) Sz.out rfl (by kernel_rfl) (by kernel_rfl) (by kernel_rfl) (fun _ _ _ h => h) (by rfl) (by intro y hy; go_simp) ?_
    try simp only [Act.put, List.setIfInBounds_toArray, List.set_cons_zero, List.set_cons_succ]
    refine anyH_take 5 53 (.pointer (some ⟨g, a * 35, none⟩)) Sz.out rfl (by kernel_rfl) (by kernel_rfl) (by kernel_rfl) (fun _ _ _ h => h) (by rfl) (by intro y hy; go_simp) ?_
    try simp only [Act.put, List.setIfInBounds_toArray, List.set_cons_zero, List.set_cons_succ]
    refine anyH_take 6 54 (.pointer (some ⟨g, a * 35 + 3, none⟩)) Sz.out rfl (by kernel_rfl) (by kernel_rfl) (by kernel_rfl) (fun _ _ _ h => h) (by rfl) (by intro y hy; go_simp) ?_
    try simp only [Act.put, List.setIfInBounds_toArray, List.set_cons_zero, List.set_cons_succ]
    refine anyH_one 4 (by kernel_rfl) ?_
    refine wpOp_step rfl (fun Kc hKc => ?_)
    go_simp
    refine (HPK.out _).mono ?_
    rintro e5 w5 ⟨hw5, rfl⟩
    subst w5
    dsimp only
    refine hKc _ _ ⟨Sz.out, ?_⟩
    clear hKc Kc
    try simp only [Act.put, List.setIfInBounds_toArray, List.set_cons_zero, List.set_cons_succ]
    refine anyH_take 7 55 (.pointer (some ⟨g, a * 35 + 3 + j, none⟩)) Sz.out rfl (by kernel_rfl) (by kernel_rfl) (by kernel_rfl) (fun _ _ _ h => h) (by rfl) (by intro y hy; go_simp) ?_
    try simp only [Act.put, List.setIfInBounds_toArray, List.set_cons_zero, List.set_cons_succ]
    have cst := Cz.out
    have fst := Fz.out (a * 35 + 3 + j)
    refine anyH_one 8 (by kernel_rfl) ?_
    refine wpOp_step rfl (fun Kc hKc => ?_)
    go_simp
    change Kc _ (z.setCell ⟨g, a * 35 + 3 + j, none⟩ (.int .u8 1))
    have chS := (Chg.setCell z ⟨g, a * 35 + 3 + j, none⟩ (.int .u8 1)).only
    refine hKc _ _ ⟨(chS.block _ (lt_of_block Sz.out) (Nat.ne_of_lt (Nat.lt_of_succ_lt HGG.out))).trans Sz.out, ?_⟩
    clear hKc Kc cst fst
    try simp only [Act.put, List.setIfInBounds_toArray, List.set_cons_zero, List.set_cons_succ]
    refine wpAnyH_done (by kernel_rfl) ?_ _
    have ch3 := (Chg.setCell z ⟨g, a * 35 + 3 + j, none⟩ (.int .u8 1)).only
    have S3 : Hid (SmAt (z.setCell ⟨g, a * 35 + 3 + j, none⟩ (.int .u8 1)) w.heap.size 3 Bt.Z (-1) (.slice (some ⟨g, 0, none⟩) 3 d)) := (ch3.block _ (lt_of_block Sz.out) (Nat.ne_of_lt (Nat.lt_of_succ_lt HGG.out))).trans Sz.out
    have Z3 : Hid ((z.setCell ⟨g, a * 35 + 3 + j, none⟩ (.int .u8 1)).heap[w.heap.size + 1]? = some (.cells ZSm.toArray 26 (0, 0))) := (ch3.block _ (lt_of_block Zz.out) (Nat.ne_of_lt HGG.out)).trans Zz.out
    have O3 : Hid (EsO w0.heap.size (z.setCell ⟨g, a * 35 + 3 + j, none⟩ (.int .u8 1)) (.slice (some ⟨g, 0, none⟩) 3 d) (Bt.T3.set a ⟨x.k, x.b, x.s, x.u.set j 1⟩)) := by have h := Xz.out ⟨x.k, x.b, x.s, x.u.set j 1⟩ (3 + j) (.int .u8 1) (by omega) (by unfold Bt.cells; rw [Nat.add_comm 3 j]; simp only [List.set_cons_succ, List.map_set]); rw [← Nat.add_assoc] at h; exact h
    have B3 : Hid (Below w.heap.size w (z.setCell ⟨g, a * 35 + 3 + j, none⟩ (.int .u8 1))) := ch3.below Bz.out (Nat.le_of_lt (Nat.lt_of_succ_lt HGG.out)) Bz.out.size
    obtain ⟨w3, hw3⟩ : ∃ y, y = z.setCell ⟨g, a * 35 + 3 + j, none⟩ (.int .u8 1) := ⟨_, rfl⟩
    rw [← hw3] at S3 Z3 O3 B3 ⊢
    clear hw3 ch3 HCU HPK hj hj0 S2 Z2 O2 B2 HEA HFR HXC
    have HXK := Lib.hid (HOS.out ⟨x.k, x.b, x.s, x.u.set j 1⟩ ⟨HXO.out.1, HXO.out.2.1, HXO.out.2.2.1, by rw [List.length_set]; exact HXO.out.2.2.2.1, fun z hz => by rcases List.mem_or_eq_of_mem_set hz with h | rfl; exact HXO.out.2.2.2.2 z h; omega⟩)
    have HXL := Lib.hid (HLS.out ⟨x.k, x.b, x.s, x.u.set j 1⟩)
    have HSZ3 := HSZ.out 3 (-1) (.slice (some ⟨g, 0, none⟩) 3 d)
    have S3' : Hid (w3.heap[w.heap.size]? = some (.cells (SmA 3 Bt.Z (-1) (.slice (some ⟨g, 0, none⟩) 3 d)) 26 (0, 0))) := S3.out
    go_wp2_with (first
      | ((with_reducible refine row_load _ _ _ _ _ _ _ ?_ S3'.out Try.underlying26 ?_ (sm_info HSZ3) ?_); (exact rfl); (exact rfl))
      | ((with_reducible refine row_store _ _ _ _ _ _ (SmA 3 Bt.Z (-1) (.slice (some ⟨g, 0, none⟩) 3 d)) ?_ ?_ Z3.out (sm_info HSZ3) ?_ (HS1.out _ _ _ _) ?_); (exact rfl); (exact rfl); (rw [HSZ3]; rfl); intro w4 G4 ch4))
    refine bodyPost_ret (results_cell_row rfl _ _ (w.heap.size + 1) 26 _ (0, 0) _ rfl G4.out Try.underlying26 rfl (sm_info HSZ3)) rfl (setsay ⟨by decide, by decide⟩ ⟨by decide, by decide⟩ HXL.out HXK.out (O3.out.keep (fun b hb => ch4.block b (by cases hb; exact Nat.ne_of_gt HGG.out))) (Nat.le_of_lt HW0.out) (ch4.below B3.out (Nat.le_succ _)))
end Go.Proofs.Ytkgefogkdmbciaa

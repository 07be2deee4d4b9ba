/-
  BatchBack: the law walked.
-/
import Derived.Test.YtkgefogkdmbciaaBaL
namespace Go.Proofs.Ytkgefogkdmbciaa
open Go.RowKit

/-- What is made of a summary, read. -/
theorem get_back {t n : Int} {P : List Int} {m : Nat} {L : List Bt.En} (ht : Pk.In64 t) (hn : Pk.In64 n) (hP : P.length = 32) (hok : ∀ x ∈ L, x.ok) (hm : L.length = m) (hck : Bt.ck t n L = 0) (w : World) (p : Option Addr) (c : Nat) (h : Bs w p c (Bt.ofS t P n L)) :
    Calls Try.prog 20 #[.slice p (56 + 56 * m) c] w (GetOk t P n m L w) := by
  have hl := (Bt.ck_ok hck).1
  obtain ⟨b1, b2, b3, b4, b5, b6⟩ := Bt.back ht hn hP hok hl
  have hg := get_any _ p (56 + 56 * m) c (by rw [Bt.ofS_len _ _ hP hok, hm]) (by omega) w h
  rw [b1, b2, b3, b5, b6, hck, b4, hm] at hg
  refine hg.mono ?_
  rintro e w' (⟨_, h1⟩ | ⟨h0, _⟩)
  · exact h1
  · exact absurd rfl h0
theorem same_self (t n : Int) (P : List Int) (p p' : Option Addr) (m c c' : Nat) (L : List Bt.En) (hm : L.length = m) (hL : m ≤ 100000) (w : World) (h : Sv w P p c L) (h' : Sv w P p' c' L) :
    Calls Try.prog 22 #[.agg (SmA t P n (.slice p m c)), .agg (SmA t P n (.slice p' m c'))] w (YesSay w) := by
  have e := samesum_any t t n n P P p p' m m c c' L L hm hm hL w h h'
  rw [decide_eq_true (show _ ∧ _ ∧ _ ∧ _ from ⟨rfl, rfl, rfl, rfl⟩)] at e
  exact e
set_option maxHeartbeats 2000000 in
set_option maxRecDepth 100000 in
theorem back_any' (t n : Int) (ht : Pk.In64 t) (hn : Pk.In64 n) (P : List Int) (p : Option Addr) (m c : Nat) (L : List Bt.En) (hm : L.length = m) (w : World) (h : Sv w P p c L) :
    Calls Try.prog 5 #[.agg (SmA t P n (.slice p m c))] w (YesSay w) := by
  have HWK : Hid (∀ y, Calls Try.prog 10 #[] y (YesSay y)) := fun y => works_any y
  have HV : Hid (Sv w P p c L) := h
  obtain ⟨A, hA, _, _⟩ := a32_agg P h.len
  have HX := Lib.hid (smx_of w.heap.size t n (.slice p m c) h.len hA)
  have HXS : Hid ((SmA t P n (.slice p m c)).size = 35) := HX.out.size
  have hsx := sm_info HXS.out
  have HPN : Hid (∀ r, Bt.ck t n L = r → r ≠ 0 → ∀ y, Below w.heap.size w y → Calls Try.prog 12 #[.agg (SmA t P n (.slice p m c))] y (PutNo r y)) := fun r hr h0 y hy => put_no t n P p m c L hm y (HV.out.old hy) r hr h0
  have HPY : Hid (Bt.ck t n L = 0 → ∀ y, Below w.heap.size w y → Calls Try.prog 12 #[.agg (SmA t P n (.slice p m c))] y (PutOk (Bt.ofS t P n L) (56 + 56 * m) y)) := fun hr y hy => put_ok t n P p m c L hm y (HV.out.old hy) hr
  have HCK : Hid (∀ y, Below w.heap.size w y → Calls Try.prog 14 #[.agg (SmA t P n (.slice p m c))] y (InSay (Bt.ck t n L) y)) := fun y hy => check_any t n P p m c L hm y (HV.out.old hy)
  have HGB : Hid (Bt.ck t n L = 0 → ∀ y q d, Bs y q d (Bt.ofS t P n L) → Calls Try.prog 20 #[.slice q (56 + 56 * m) d] y (GetOk t P n m L y)) := fun hr y q d hy => get_back ht hn h.len h.es.ok hm hr y q d hy
  have HSM : Hid (m ≤ 300 → ∀ y g, Below w.heap.size w y → EsRow y g L → Calls Try.prog 22 #[.agg (SmA t P n (.slice (some ⟨g, 0, none⟩) m m)), .agg (SmA t P n (.slice p m c))] y (YesSay y)) := fun hl y g hy hg => same_self t n P (some ⟨g, 0, none⟩) p m m c L hm (by omega) y ⟨HV.out.len, HV.out.byt, hg.es HV.out.es.ok (by omega)⟩ (HV.out.old hy)
  have HL16 : Hid (Bt.ck t n L = 0 → m ≤ 16) := fun hr => by rw [← hm]; exact (Bt.ck_ok hr).1
  have HXG : Hid (∀ g, (SmA t P n (.slice (some ⟨g, 0, none⟩) m m)).size = 35) := fun g => smA_size _ _ _ HV.out.len
  have HXH : Hid (∀ g, (SmA t P n (.slice (some ⟨g, 0, none⟩) m m)).all (·.oneCell') = true) := fun g => smA_one _ _ _ _ _ _
  obtain ⟨r, hr⟩ : ∃ r, Bt.ck t n L = r := ⟨_, rfl⟩
  rw [hr] at HPN HPY HCK HGB HL16
  clear h hA ht hn hr
  generalize Bt.ofS t P n L = BB at *
  obtain ⟨X, hX⟩ : ∃ X, SmA t P n (.slice p m c) = X := ⟨_, rfl⟩
  rw [hX] at HX HXS HPN HPY HCK HSM hsx ⊢
  clear hX
  have B0 : Hid (Below w.heap.size w (w.alloc (.cells X 26))) := (Below.refl _ w).alloc (Nat.le_refl _) _
  have G0 : Hid ((w.alloc (.cells X 26)).heap[w.heap.size]? = some (.cells X 26 (0, 0))) := heap_alloc_new w _
  go_enter Try.func5, Try.ntmps5
  go_upto_region 1 with (fail)
  change Code.wp _ _ _ _ (w.alloc (.cells X 26))
  obtain ⟨w0, hw0⟩ : ∃ y, y = w.alloc (.cells X 26) := ⟨_, rfl⟩
  rw [← hw0] at B0 G0 ⊢
  clear hw0
  have c34 := (HX.out.at_ _ G0.out).2.2.1
  by_cases h3 : 300 < m
  · have hgt : (m : Int) > 300 := by omega
    clear h3
    go_wp2_with (go_at_call 10; refine (HWK.out _).mono ?_; rintro e1 w1 ⟨rfl, hb1⟩)
    go_ret
    exact ⟨rfl, B0.out.trans (hb1.mono B0.out.size)⟩
  · have hgt : ¬ (m : Int) > 300 := by omega
    have HS := Lib.hid (HSM.out (by omega))
    by_cases h0 : r = 0
    · have HP := Lib.hid (HPY.out h0)
      have HG := Lib.hid (HGB.out h0)
      have hl := HL16.out h0
      subst h0
      have h975 : 56 + 56 * (m : Int) ≤ 975 := by omega
      clear HPN HPY HGB HCK HSM HL16 h3
      go_upto_region 7 with (first
        | ((with_reducible refine row_load _ _ _ _ _ _ _ ?_ G0.out Try.underlying26 ?_ (sm_info HXS.out) ?_); (exact rfl); (exact rfl))
        | (go_at_call 12; refine (HP.out _ B0.out).mono ?_; rintro e1 w1 ⟨p1, c1, rfl, HO1, HB1, B1⟩; have BW1 : Hid (Below w.heap.size w w1) := B0.out.trans (B1.out.mono B0.out.size); have G1 : Hid (w1.heap[w.heap.size]? = some (.cells X 26 (0, 0))) := (B1.out.block _ (lt_of_block G0.out)).trans G0.out)
        | (go_at_call 20; refine (HG.out _ _ _ HB1.out).mono ?_; rintro e2 w2 ⟨g2, rfl, R2, HG2, B2⟩)
        | ((with_reducible refine row_store _ _ _ _ _ _ _ ?_ ?_ (heap_alloc_new _ _) (sm_info (HXG.out g2)) ?_ (HXH.out g2) ?_); (exact rfl); (exact rfl); (rw [HXG.out g2]; rfl); intro w3 G3 ch3))
      have K3 : Hid (Below w2.heap.size w2 w3) := ch3.below ((Below.refl _ w2).alloc (Nat.le_refl _) _) (Nat.le_refl _)
      have R3 : Hid (EsRow w3 g2 L) := R2.out.old K3.out
      have K13 : Hid (Below w1.heap.size w1 w3) := B2.out.trans (K3.out.mono B2.out.size)
      have B3 : Hid (Below w.heap.size w w3) := BW1.out.trans (K13.out.mono BW1.out.size)
      have GX3 : Hid (w3.heap[w.heap.size]? = some (.cells X 26 (0, 0))) := (K13.out.block _ (lt_of_block G1.out)).trans G1.out
      clear ch3 K3 R2 B2 HO1 HB1 B1 BW1 G1 G0 B0 c34 K13
      go_wp2_with (first
        | ((with_reducible refine row_load_g _ _ _ _ _ _ _ ?_ ?_ G3.out Try.underlying26 ?_ (sm_info (HXG.out g2)) ?_); (exact rfl); (exact rfl); (exact rfl))
        | ((with_reducible refine row_load_g _ _ _ _ _ _ _ ?_ ?_ GX3.out Try.underlying26 ?_ (sm_info HXS.out) ?_); (exact rfl); (exact rfl); (exact rfl))
        | (go_at_call 22; refine (HS.out _ _ B3.out R3.out).mono ?_; rintro e4 w4 ⟨rfl, hb4⟩)
        | (go_at_call 10; refine (HWK.out _).mono ?_; rintro e5 w5 ⟨rfl, hb5⟩))
      go_ret
      exact ⟨rfl, B3.out.trans ((hb4.trans (hb5.mono hb4.size)).mono B3.out.size)⟩
    · have HP := Lib.hid (HPN.out r rfl h0)
      have hb0 : (r == 0) = false := by simp [h0]
      have hbr : (r == r) = true := by simp
      clear HPN HPY HGB HSM HL16 h3 h0
      go_wp2_with (first
        | ((with_reducible refine row_load _ _ _ _ _ _ _ ?_ G0.out Try.underlying26 ?_ (sm_info HXS.out) ?_); (exact rfl); (exact rfl))
        | (go_at_call 12; refine (HP.out _ B0.out).mono ?_; rintro e1 w1 ⟨rfl, B1⟩; have BW1 : Hid (Below w.heap.size w w1) := B0.out.trans (B1.mono B0.out.size); have G1 : Hid (w1.heap[w.heap.size]? = some (.cells X 26 (0, 0))) := (B1.block _ (lt_of_block G0.out)).trans G0.out)
        | ((with_reducible refine row_load_g _ _ _ _ _ _ _ ?_ ?_ G1.out Try.underlying26 ?_ (sm_info HXS.out) ?_); (exact rfl); (exact rfl); (exact rfl))
        | (go_at_call 14; refine (HCK.out _ BW1.out).mono ?_; rintro e2 w2 ⟨rfl, hb2⟩)
        | (go_at_call 10; refine (HWK.out _).mono ?_; rintro e5 w5 ⟨rfl, hb5⟩))
      go_ret
      exact ⟨rfl, BW1.out.trans ((hb2.trans (hb5.mono hb2.size)).mono BW1.out.size)⟩
end Go.Proofs.Ytkgefogkdmbciaa

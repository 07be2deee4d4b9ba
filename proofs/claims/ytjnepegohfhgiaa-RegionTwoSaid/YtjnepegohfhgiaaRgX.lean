/-
  The law RegionTwo walked.
-/
import Derived.Test.YtjnepegohfhgiaaRgX0
import Derived.Test.YtjnepegohfhgiaaRgX1
import Derived.Test.YtjnepegohfhgiaaRgU
namespace Go.Proofs.Ytjnepegohfhgiaa
open Go.RowKit

theorem set_st (g s u : Int) : (RAr (Rg.mkr g s)).setIfInBounds 1 (.int .i64 u) = RAr (Rg.mkr g u) := by
  unfold RAr cv Rg.mkr
  rw [List.setIfInBounds_toArray]
  rfl
set_option maxHeartbeats 4000000 in
set_option maxRecDepth 100000 in
theorem two_any (gen many : Int) (L0 : List Int) (p0 : Option Addr) (n0 c0 : Nat) (hn0 : L0.length = n0) (w : World) (hp0 : IAt w p0 L0) :
    Calls Try.prog 10 #[.int .i64 gen, .int .i64 many, .slice p0 n0 c0] w (YesSay w) := by
  have HWK : Hid (∀ y, Calls Try.prog 15 #[] y (YesSay y)) := fun y => works_any y
  by_cases hlong : 100 < n0
  · have hl : (n0 : Int) > 100 := by omega
    go_enter Try.func10, Try.ntmps10
    go_wp2_with (go_at_call 15; refine (HWK.out _).mono ?_; rintro e1 w1 ⟨rfl, hb1⟩)
    go_ret
    exact ⟨rfl, hb1⟩
  have hl : ¬ (n0 : Int) > 100 := by omega
  have HI : Hid (∀ y, Below w.heap.size w y → ∀ k, k < n0 → ∃ ab ao, p0 = some ⟨ab, ao, none⟩ ∧ y.cell? ⟨ab, ao + k, none⟩ = some (.int .i64 (L0.getD k 0))) := fun y hy k hk => by
    obtain ⟨ab, ao, h1, h2⟩ := (hp0.old hy) (by omega)
    exact ⟨ab, ao, h1, h2 k (by omega)⟩
  have HM : Hid (Dk.fresh 4 = Rg.m0) := by show _ = _; unfold Rg.m0; rfl
  obtain ⟨Z, hZ⟩ : ∃ Z, Hid (RAr Rg.zero = Z) := ⟨_, rfl⟩
  have HZS : Hid (Z.size = 136) := by show _ = _; rw [← hZ.out]; exact rar_size Rg.ok_zero
  have hz := (zero_of_info Try.zeroRec).1
  rw [show (cv Rg.zero).toArray = Z from hZ.out] at hz
  have hzn : ¬ Z = #[] := fun h => by have := HZS.out; rw [h] at this; simp at this
  have hszz := row_size Try.sizeRec HZS
  clear hlong hp0 hn0
  go_enter Try.func10, Try.ntmps10
  go_upto_region 5 with (first
    | (go_at_call 24; refine (new4 4 (by omega) (by omega) _).mono ?_; rintro e1 w1 ⟨d, lb, rb, cb, rfl, hd1, hb1⟩; have HB1 := Lib.hid hb1)
    | (go_at_call 25; refine (new_any _).mono ?_; rintro e2 w2 ⟨g, b, c, rfl, hg2, hs2, hb2⟩; have HV2 : Hid (Vs w w2.heap.size w2 d g Rg.m0 Nm.St.none) := by rw [← HM.out]; exact vs_make hd1.out HB1.out hs2.out hg2.out hb2))
  clear hd1 hs2 hg2 hb2 hb1 HM HB1
  generalize w2.heap.size = K at *
  go_upto_region 6 with (go_at_call 28; refine (pickz_any _ 549755813888 (by omega) (by omega) _).mono ?_; rintro e3 w3 ⟨hw3, jg, hj0, hj1, rfl⟩; subst hw3)
  obtain ⟨g0, hg0⟩ : ∃ g0, 1 + jg = g0 := ⟨_, rfl⟩
  rw [hg0]
  have HG0 : Hid (1 ≤ g0 ∧ g0 ≤ 549755813888) := by show _ ∧ _; omega
  clear hg0 hj0 hj1
  go_upto_region 7 with (go_at_call 28; refine (pick_any _ 20 (by omega) (by omega) _).mono ?_; rintro e4 w4 ⟨hw4, jm, hj2, rfl⟩; subst hw4)
  obtain ⟨N, hN⟩ : ∃ N : Nat, 1 + (jm : Int) = (N : Int) := ⟨jm + 1, by omega⟩
  rw [hN]
  have HN : Hid (1 ≤ N ∧ N ≤ 20) := by show _ ∧ _; omega
  clear hN hj2
  have HREC : Hid (∀ y (k : Nat), k < 20 → Calls Try.prog 35 #[.int .i64 (g0 + (k : Int)), .int .i64 1] y (fun e w' => e = .returned (.agg (RAr (Rg.mkr (g0 + (k : Int)) 1))) ∧ Hid (Below y.heap.size y w'))) := fun y k hk => by
    have h := rec_any (g0 + (k : Int)) 1 (by have := HG0.out; unfold Pk.In64; omega) (by unfold Pk.In64; omega) y
    rw [rv_eq] at h
    exact h
  have HSZ : Hid (∀ (k : Nat) (st : Int), k < 20 → 1 ≤ st → st ≤ 549755813888 → (RAr (Rg.mkr (g0 + (k : Int)) st)).size = 136) := fun k st hk h1 h2 => rar_size (Rg.mkr_ok (by have := HG0.out; unfold Pk.In64; omega) (by unfold Pk.In64; omega))
  have HOK : Hid (∀ (k : Nat) (st : Int), k < 20 → 1 ≤ st → st ≤ 549755813888 → Rg.Ok (Rg.mkr (g0 + (k : Int)) st)) := fun k st hk h1 h2 => Rg.mkr_ok (by have := HG0.out; unfold Pk.In64; omega) (by unfold Pk.In64; omega)
  have HSTEP : Hid (∀ (L : List Rg.R) m S (k : Nat) (st : Int), k < 20 → 1 ≤ st → st ≤ 549755813888 → Rg.Tw g0 L m S → L.length = k → Rg.Tw g0 (L ++ [Rg.mkr (g0 + (k : Int)) st]) (Rg.vM m S (Rg.mkr (g0 + (k : Int)) st) (k : Int)) (Rg.vS S (Rg.mkr (g0 + (k : Int)) st) (k : Int))) := fun L m S k st hk h1 h2 ht hl =>
    ht.step hl (by omega) (HOK.out k st hk h1 h2) (Rg.mkr_may (by have := HG0.out; omega) (by omega)) (Rg.mkr_gen _ _)
  have HWR : Hid (∀ y m S (k : Nat) (st : Int), k < 20 → 1 ≤ st → st ≤ 549755813888 → Dk.Up m 4 → m.wr ≤ k → S.ss.length ≤ k → Vs w K y d g m S → Calls Try.prog 26 #[.pointer (some ⟨d, 0, none⟩), .iface 51 (.pointer (some ⟨g, 0, none⟩)), .agg (RAr (Rg.mkr (g0 + (k : Int)) st)), .int .i64 (k : Int)] y (VSay w K d g (.int .i64 0) (Rg.vM m S (Rg.mkr (g0 + (k : Int)) st) (k : Int)) (Rg.vS S (Rg.mkr (g0 + (k : Int)) st) (k : Int)) y)) := fun y m S k st hk h1 h2 hu hwr hss hv => by
    have h := vs_write (Rg.mkr (g0 + (k : Int)) st) (HOK.out k st hk h1 h2) (k : Int) hv (by omega) (by omega)
    rw [(Rg.write_in hu (by omega) (HOK.out k st hk h1 h2) (Rg.mkr_may (by have := HG0.out; omega) (by omega)) (by unfold Rg.inN; omega)).1, rv_eq] at h
    exact h
  have HT0 : Hid (Rg.Tw g0 [] Rg.m0 Nm.St.none) := Rg.Tw.start g0
  have HC0 : Hid (Rg.m0.wr = 0 ∧ (∀ j, Rg.m0.rd j = 0) ∧ Nm.St.none.ss.length = 0) := by unfold Rg.m0; exact ⟨rfl, fun _ => rfl, rfl⟩
  go_wp2
  go_loopw [10, 11] (fun v10 v11 wr => ∃ (k : Nat) (L : List Rg.R) (m : Dk.M) (S : Nm.St), k ≤ N ∧ v11 = .int .i64 (k : Int) ∧ Hid (L.length = k) ∧ Hid (RsO K wr v10 L) ∧ Hid (Rg.Tw g0 L m S) ∧ Hid (Vs w K wr d g m S) ∧ Hid (m.wr ≤ k ∧ (∀ j, m.rd j = 0) ∧ S.ss.length ≤ k)) (fun _ v11 _ => N - (intOf v11).toNat)
  case atStart => exact ⟨0, [], Rg.m0, Nm.St.none, by omega, rfl, rfl, rso_nil _ _, HT0.out, HV2.out, by rw [HC0.out.1]; exact Nat.le_refl _, HC0.out.2.1, by rw [HC0.out.2.2]; exact Nat.le_refl _⟩
  case round =>
    clear HV2 HT0 HC0
    obtain ⟨k, L, m, S, hk, rfl, HL, HO, HT, HV, HC⟩ := hrel
    by_cases hlt : k < N
    · have hk20 : k < 20 := by have := HN.out; omega
      have hgk : IntKind.i64.wrap (g0 + (k : Int)) = g0 + (k : Int) := IntWalk.i64_in _ ⟨by have := HG0.out; omega, by have := HG0.out; omega⟩
      have hltI : (k : Int) < (N : Int) := by omega
      have HAS := Lib.hid (HSZ.out k 1 hk20 (by omega) (by omega))
      have HA1 : Hid ((RAr (Rg.mkr (g0 + (k : Int)) 1)).all (·.oneCell') = true) := rar_one _
      have HE1 : Hid (∀ u : Int, (RAr (Rg.mkr (g0 + (k : Int)) 1)).setIfInBounds 1 (.int .i64 u) = RAr (Rg.mkr (g0 + (k : Int)) u)) := fun u => set_st _ _ _
      have HW1 := Lib.hid (HWR.out · m S k · hk20 · · HT.out.up HC.out.1 HC.out.2.2)
      have HST := Lib.hid (HSTEP.out L m S k · hk20 · · HT.out HL.out)
      have HOK1 := Lib.hid (HOK.out k · hk20)
      have HSZ1 := Lib.hid (HSZ.out k · hk20)
      have HGS : Hid (∀ st, (Rg.vM m S (Rg.mkr (g0 + (k : Int)) st) (k : Int)).wr ≤ k + 1 ∧ (∀ j, (Rg.vM m S (Rg.mkr (g0 + (k : Int)) st) (k : Int)).rd j = 0) ∧ (Rg.vS S (Rg.mkr (g0 + (k : Int)) st) (k : Int)).ss.length ≤ k + 1) := fun st => by
        obtain ⟨q1, q2⟩ := Rg.wr_le m S (Rg.mkr (g0 + (k : Int)) st) (k : Int)
        have q3 := Rg.vS_le S (Rg.mkr (g0 + (k : Int)) st) (k : Int)
        have q4 := HC.out
        exact ⟨by omega, fun j => by rw [q2]; exact q4.2.1 j, by omega⟩
      have HRC := Lib.hid (HREC.out · k hk20)
      obtain ⟨RR, hRR⟩ : ∃ RR : Int → Rg.R, RR = fun st => Rg.mkr (g0 + (k : Int)) st := ⟨_, rfl⟩
      have eRR : ∀ st, Rg.mkr (g0 + (k : Int)) st = RR st := fun st => by rw [hRR]
      simp only [eRR] at HAS HA1 HE1 HW1 HST HOK1 HSZ1 HGS HRC
      clear hRR eRR hlt hk20
      go_upto_region 12 with (first
        | (go_at_call 35; refine (HRC.out _).mono ?_; rintro e5 w5 ⟨rfl, HB5⟩)
        | ((with_reducible refine row_store _ _ _ _ _ _ _ ?_ ?_ (heap_alloc_new _ _) (row_size Try.sizeRec HAS) ?_ HA1.out ?_); (exact rfl); (exact rfl); (rw [HAS.out, HZS.out]); intro w6 G6 ch6))
      have K6 : Hid (Below wr.heap.size wr w6) := ch6.below (HB5.out.alloc HB5.out.size _) HB5.out.size
      have HBX : Hid (wr.heap.size ≤ w5.heap.size) := HB5.out.size
      have V6 := Lib.hid (HV.out.old K6.out)
      have O6 := Lib.hid (HO.out.old K6.out)
      obtain ⟨bx, hbx⟩ : ∃ b, w5.heap.size = b := ⟨_, rfl⟩
      rw [hbx] at G6 HBX ⊢
      clear hbx ch6 HB5 HRC hgk
      by_cases hks : k < n0
      · obtain ⟨sb, so, hpp, ck⟩ := HI.out _ V6.out.low k hks
        subst hpp
        have hs0 : 0 ≤ (k : Int) := by omega
        have hs1 : (k : Int) < (n0 : Int) := by omega
        generalize L0.getD k 0 = s0 at ck
        have f6 := frozen_of_row w6 bx 1 _ _ G6.out
        have c6 := rar_st G6.out
        generalize (RR 1).st = s6 at c6
        go_upto_region 14 with (go_at_call 28; refine (pickz_any _ 549755813888 (by omega) (by omega) _).mono ?_; rintro e7 w7 ⟨hw7, js, hj0, hj1, rfl⟩; subst hw7)
        obtain ⟨st, hst⟩ : ∃ st, 1 + js = st := ⟨_, rfl⟩
        rw [hst]
        have hst1 : 1 ≤ st := by omega
        have hst2 : st ≤ 549755813888 := by omega
        have G8 : Hid ((w7.setCell ⟨bx, 1, none⟩ (.int .i64 st)).heap[bx]? = some (.cells (RAr (RR st)) 29 (0, 0))) := by
          show _ = _
          rw [heap_setCell_same w7 bx 1 _ _ _ G6.out, HE1.out]
        have K8 : Hid (Below wr.heap.size wr (w7.setCell ⟨bx, 1, none⟩ (.int .i64 st))) := (Chg.setCell w7 ⟨bx, 1, none⟩ (.int .i64 st)).only.below K6.out HBX.out K6.out.size
        generalize w7.setCell ⟨bx, 1, none⟩ (.int .i64 st) = w8 at G8 K8 ⊢
        have V8 := Lib.hid (HV.out.old K8.out)
        have O8 := Lib.hid (HO.out.old K8.out)
        clear f6 c6 ck hst hj0 hj1 K6 V6 O6 G6 hs0 hs1 hks
        have HASt := Lib.hid (HSZ1.out st hst1 hst2)
        have HXO := Lib.hid (HOK1.out st hst1 hst2)
        have HWx := Lib.hid (HW1.out · st hst1 hst2)
        have HSx := Lib.hid (HST.out st hst1 hst2)
        have HGx := Lib.hid (HGS.out st)
        have HKBX : Hid (K ≤ bx) := Nat.le_trans HV.out.size HBX.out
        have HTok := Lib.hid HT.out.ok
        clear HSZ1 HOK1 HW1 HST HGS HE1 HV HO HA1 HAS hst1 hst2
        generalize RR st = rr at *
        go_upto_region 16 with (first
          | ((with_reducible refine row_load _ _ _ _ _ _ _ ?_ G8.out Try.underlying29 ?_ (row_size Try.sizeRec HASt) ?_); (exact rfl); (exact rfl))
          | (go_at_call 26; refine (HWx.out _ V8.out).mono ?_; rintro e9 w9 ⟨rfl, V9, HK9⟩))
        have G9 : Hid (w9.heap[bx]? = some (.cells (RAr rr) 29 (0, 0))) := (HK9.out.block bx HKBX.out (lt_of_block G8.out)).trans G8.out
        have O9 : Hid (RsO K w9 u10 L) := own_kp O8.out HK9.out (Nat.le_refl _)
        have HKS9 := Lib.hid V9.out.size
        have hkn : k ≤ 100000 := by have := HN.out; omega
        go_wp2_with (first
          | ((with_reducible refine row_load _ _ _ _ _ _ _ ?_ G9.out Try.underlying29 ?_ (row_size Try.sizeRec HASt) ?_); (exact rfl); (exact rfl))
          | ((with_reducible refine bs_one _ rr HXO.out ?_ ?_); (exact rfl))
          | ((with_reducible refine app_rc _ _ K _ L rr ?_ ?_ O9.out HTok.out HXO.out k HL.out hkn HKS9.out ?_); (exact rfl); (exact rfl); intro q1 d1 w10 O10 K10 GR10))
        refine ⟨⟨k + 1, _, _, _, by omega, by go_num, ?_, O10.out, HSx.out, ?_, HGx.out⟩, by simp [intOf]; omega⟩
        · show _ = _; rw [List.length_append, HL.out]; rfl
        · exact vs_grown V9.out O9.out GR10
      · have hs1 : ¬ (k : Int) < (n0 : Int) := by omega
        clear hks
        go_upto_region 14 with (fail)
        obtain ⟨st, hst⟩ : ∃ st : Int, st = 1 := ⟨_, rfl⟩
        have hst1 : 1 ≤ st := by omega
        have hst2 : st ≤ 549755813888 := by omega
        obtain ⟨w8, hw8⟩ : ∃ y, y = w6 := ⟨_, rfl⟩
        rw [← hw8] at K6 V6 O6 G6 ⊢
        rw [← hst] at G6
        have V8 := V6
        have O8 := O6
        have G8 := G6
        have K8 := K6
        clear hw8 hst K6 V6 O6 G6 hs1
        have HASt := Lib.hid (HSZ1.out st hst1 hst2)
        have HXO := Lib.hid (HOK1.out st hst1 hst2)
        have HWx := Lib.hid (HW1.out · st hst1 hst2)
        have HSx := Lib.hid (HST.out st hst1 hst2)
        have HGx := Lib.hid (HGS.out st)
        have HKBX : Hid (K ≤ bx) := Nat.le_trans HV.out.size HBX.out
        have HTok := Lib.hid HT.out.ok
        clear HSZ1 HOK1 HW1 HST HGS HE1 HV HO HA1 HAS hst1 hst2
        generalize RR st = rr at *
        go_upto_region 16 with (first
          | ((with_reducible refine row_load _ _ _ _ _ _ _ ?_ G8.out Try.underlying29 ?_ (row_size Try.sizeRec HASt) ?_); (exact rfl); (exact rfl))
          | (go_at_call 26; refine (HWx.out _ V8.out).mono ?_; rintro e9 w9 ⟨rfl, V9, HK9⟩))
        have G9 : Hid (w9.heap[bx]? = some (.cells (RAr rr) 29 (0, 0))) := (HK9.out.block bx HKBX.out (lt_of_block G8.out)).trans G8.out
        have O9 : Hid (RsO K w9 u10 L) := own_kp O8.out HK9.out (Nat.le_refl _)
        have HKS9 := Lib.hid V9.out.size
        have hkn : k ≤ 100000 := by have := HN.out; omega
        go_wp2_with (first
          | ((with_reducible refine row_load _ _ _ _ _ _ _ ?_ G9.out Try.underlying29 ?_ (row_size Try.sizeRec HASt) ?_); (exact rfl); (exact rfl))
          | ((with_reducible refine bs_one _ rr HXO.out ?_ ?_); (exact rfl))
          | ((with_reducible refine app_rc _ _ K _ L rr ?_ ?_ O9.out HTok.out HXO.out k HL.out hkn HKS9.out ?_); (exact rfl); (exact rfl); intro q1 d1 w10 O10 K10 GR10))
        refine ⟨⟨k + 1, _, _, _, by omega, by go_num, ?_, O10.out, HSx.out, ?_, HGx.out⟩, by simp [intOf]; omega⟩
        · show _ = _; rw [List.length_append, HL.out]; rfl
        · exact vs_grown V9.out O9.out GR10
    · have E : k = N := by omega
      subst E
      have hltI : ¬ (k : Int) < (k : Int) := by omega
      clear hlt hk HREC HSZ HSTEP HWR
      have hltf : decide ((k : Int) < (k : Int)) = false := decide_eq_false hltI
      have HTG : Hid (Rg.Tw g0 L (Dk.crash (Dk.syM m) (Dk.fate [])) S) := HT.out.gone _
      obtain ⟨p9, c9, hv, hR⟩ := HO.out.es HT.out.ok
      subst hv
      have hLk := HL.out
      rw [hLk] at HO ⊢
      clear hLk
      go_upto_region 18 with (go_at_call 36; refine (vs_sync HV.out).mono ?_; rintro e9 w9 ⟨rfl, HV9, HK9⟩)
      have HWC : Hid ((Dk.syM m).wr ≤ 1000000000) := by
        show _ ≤ _
        rw [HT.out.up.syM]
        have := HC.out.1
        have := HN.out.2
        exact Nat.le_trans HC.out.1 (by omega)
      go_upto_region 19 with (go_at_call 37; refine (vs_crash HV9.out HWC.out [] none 0 0 rfl (fun _ _ _ _ _ _ h => by simp at h)).mono ?_; rintro e10 w10 ⟨rfl, HV10, HK10⟩)
      have HRD : Hid (∀ j, (Dk.crash (Dk.syM m) (Dk.fate [])).rd j ≤ 999999990) := fun j => by
        rw [(Dk.crash_rd _ _).1, HT.out.up.syM]
        show m.rd j ≤ _
        rw [HC.out.2.1 j]
        exact Nat.zero_le _
      have HK2 : Hid (Kp K wr w10) := HK9.out.trans HK10.out
      clear HV HV9 HK9 HK10 HWC HC HT
      go_upto_region 20 with (go_at_call 27; refine (vs_all HV10.out HRD.out).mono ?_; rintro e11 w11 ⟨v11, rfl, HO11, HOK11, HV11, HK11⟩)
      have HKA : Hid (Kp K wr w11) := HK2.out.trans HK11.out
      have HO9 : Hid (RsO K w11 (.slice p9 k c9) L) := by
        have h := own_kp HO.out HKA.out (Nat.le_refl _)
        exact h
      have BW := Lib.hid HV11.out.low
      obtain ⟨p11, c11, hv11, hr11⟩ := HO11.out.es HOK11.out
      subst hv11
      have HR11 := Lib.hid hr11
      have HLR : Hid (∀ y i, Below w11.heap.size w11 y → i < k → ∃ ab ao, p9 = some ⟨ab, ao, none⟩ ∧ y.rangeAt ab (ao + i * 136) (RAr (L.getD i Rg.zero)).toList) := fun y i hy hi => by
        obtain ⟨p', c', hv', hr'⟩ := (HO9.out.old hy).es HTG.out.ok
        have e : p9 = p' := by injection hv'
        subst e
        obtain ⟨ab, ao, hp, _⟩ := hr'.at_ (by rw [HL.out]; omega)
        subst hp
        exact ⟨ab, ao, rfl, hr'.rng (by rw [HL.out]; exact hi)⟩
      have HHAS : Hid (∀ y i (nn : Nat), Below w11.heap.size w11 y → i < k → L.getD i Rg.zero ∈ Rg.vA (Dk.crash (Dk.syM m) (Dk.fate [])) S → (Rg.vA (Dk.crash (Dk.syM m) (Dk.fate [])) S).length = nn → nn ≤ 2 → Calls Try.prog 33 #[.slice p11 nn c11, .agg (RAr (L.getD i Rg.zero))] y (BlSay true y)) := fun y i nn hy hi hm hl hnn => by
        have hok : Rg.Ok (L.getD i Rg.zero) := HOK11.out _ hm
        have h := rhas_any (Rg.vA (Dk.crash (Dk.syM m) (Dk.fate [])) S) (L.getD i Rg.zero) hok p11 nn c11 hl (by omega) y (HR11.out.old hy)
        rw [decide_eq_true hm] at h
        exact h
      have HSZ9 : Hid (∀ i, i < k → (RAr (L.getD i Rg.zero)).size = 136) := fun i hi => rar_size (HTG.out.ok _ (by rw [List.getD_eq_getElem?_getD, List.getElem?_eq_getElem (by rw [HL.out]; exact hi)]; exact List.getElem_mem _))
      clear HO11 HV11 HK11 HKA HO HO9 hr11 HR11 HK2 HV10 hltI hltf hR
      have hn1 := HN.out
      by_cases h1 : k = 1
      · have ha := HTG.out.one_all (by rw [HL.out]; exact h1)
        rw [ha.1]
        have hk0 : (0 : Int) < (k : Int) := by omega
        have hk1 : decide ((k : Int) = 1) = true := decide_eq_true (by omega)
        have hq1 : (k : Int) - 1 = 0 := by omega
        have hmin : min (k : Int) 2 = 1 := by omega
        obtain ⟨ab, ao, hp, _⟩ := HLR.out w11 0 (Below.refl _ _) (by omega)
        subst hp
        have HL1 : Hid (w11.rangeAt ab (ao + 0 * 136) (RAr (L.getD 0 Rg.zero)).toList) := by
          obtain ⟨ab', ao', e, hr⟩ := HLR.out w11 0 (Below.refl _ _) (by omega)
          cases e
          exact hr
        rw [Nat.zero_mul, Nat.add_zero] at HL1
        have HH1 := Lib.hid (HHAS.out w11 0 1 (Below.refl _ _) (by omega) ha.2 ha.1 (by omega))
        have hs := HSZ9.out 0 (by omega)
        clear HHAS HLR HSZ9 ha HTG hn1 h1 HN
        generalize RAr (L.getD 0 Rg.zero) = X at *
        have hsx := row_size Try.sizeRec (Lib.hid hs)
        go_upto_region 22 with (first
          | ((with_reducible refine rng_load_g _ _ ab ao X _ ?_ ?_ HL1.out Try.underlying29 ?_ hsx ?_); (exact rfl); (exact rfl); (exact rfl))
          | (go_at_call 33; refine HH1.out.mono ?_; rintro e12 w12 ⟨rfl, hb12⟩; have B12 := Lib.hid (BW.out.trans (hb12.mono BW.out.size)); clear hb12))
        go_wp2_with (first
          | (go_at_call 15; refine (HWK.out _).mono ?_; rintro e13 w13 ⟨rfl, hb13⟩; have B13 := Lib.hid (B12.out.trans (hb13.mono B12.out.size)); clear hb13))
        go_ret
        exact ⟨rfl, B13.out⟩
      · obtain ⟨i2, hi2⟩ : ∃ i2, i2 + 2 = k := ⟨k - 2, by omega⟩
        obtain ⟨i1, hi1⟩ : ∃ i1, i1 = i2 + 1 := ⟨_, rfl⟩
        have ha := HTG.out.two_all (by rw [HL.out]; exact hi2)
        rw [← hi1] at ha
        rw [ha.1]
        have hq1 : (k : Int) - 1 = (i1 : Int) := by omega
        have hq2 : (k : Int) - 2 = (i2 : Int) := by omega
        have hm1 : ((k : Int) == 1) = false := beq_eq_false_iff_ne.2 (by omega)
        have hmin : min (k : Int) 2 = 2 := by omega
        have hw1 : wrap64 (i1 : Int) = (i1 : Int) := by have := HN.out; unfold wrap64; omega
        have hw2 : wrap64 (i2 : Int) = (i2 : Int) := by have := HN.out; unfold wrap64; omega
        have hi10 : 0 ≤ (i1 : Int) := by omega
        have hi11 : (i1 : Int) < (k : Int) := by omega
        have hi20 : 0 ≤ (i2 : Int) := by omega
        have hi21 : (i2 : Int) < (k : Int) := by omega
        obtain ⟨ab, ao, hp, _⟩ := HLR.out w11 i1 (Below.refl _ _) (by omega)
        subst hp
        have HL1 : Hid (∀ y i, Below w11.heap.size w11 y → i < k → y.rangeAt ab (ao + i * 136) (RAr (L.getD i Rg.zero)).toList) := fun y i hy hi => by
          obtain ⟨ab', ao', e, hr⟩ := HLR.out y i hy hi
          cases e
          exact hr
        have HLa := Lib.hid (HL1.out w11 i1 (Below.refl _ _) (by omega))
        have HH1 := Lib.hid (HHAS.out w11 i1 2 (Below.refl _ _) (by omega) ha.2.1 ha.1 (by omega))
        have HH2 : Hid (∀ y, Below w11.heap.size w11 y → y.rangeAt ab (ao + i2 * 136) (RAr (L.getD i2 Rg.zero)).toList ∧ Calls Try.prog 33 #[.slice p11 2 c11, .agg (RAr (L.getD i2 Rg.zero))] y (BlSay true y)) := fun y hy => ⟨HL1.out y i2 hy (by omega), HHAS.out y i2 2 hy (by omega) ha.2.2 ha.1 (by omega)⟩
        have hs1 := HSZ9.out i1 (by omega)
        have hs2 := HSZ9.out i2 (by omega)
        clear HHAS HLR HSZ9 ha HTG HL1 hn1 hi1 hi2 HN h1
        generalize RAr (L.getD i1 Rg.zero) = X1 at *
        generalize RAr (L.getD i2 Rg.zero) = X2 at *
        have hsx1 := row_size Try.sizeRec (Lib.hid hs1)
        have hsx2 := row_size Try.sizeRec (Lib.hid hs2)
        go_upto_region 22 with (first
          | ((with_reducible refine rng_load_g _ _ ab (ao + i1 * 136) X1 _ ?_ ?_ HLa.out Try.underlying29 ?_ hsx1 ?_); (exact rfl); (exact rfl); (exact rfl))
          | (go_at_call 33; refine HH1.out.mono ?_; rintro e12 w12 ⟨rfl, hb12⟩; have HB12 := Lib.hid hb12; have B12 := Lib.hid (BW.out.trans (hb12.mono BW.out.size)); clear hb12))
        have HLb := Lib.hid (HH2.out w12 HB12.out)
        go_wp2_with (first
          | ((with_reducible refine rng_load_g _ _ ab (ao + i2 * 136) X2 _ ?_ ?_ HLb.out.1 Try.underlying29 ?_ hsx2 ?_); (exact rfl); (exact rfl); (exact rfl))
          | (go_at_call 33; refine HLb.out.2.mono ?_; rintro e14 w14 ⟨rfl, hb14⟩; have B14 := Lib.hid (B12.out.trans (hb14.mono B12.out.size)); clear hb14)
          | (go_at_call 15; refine (HWK.out _).mono ?_; rintro e13 w13 ⟨rfl, hb13⟩; have B13 := Lib.hid (B14.out.trans (hb13.mono B14.out.size)); clear hb13))
        go_ret
        exact ⟨rfl, B13.out⟩
end Go.Proofs.Ytjnepegohfhgiaa

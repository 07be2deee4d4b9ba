/-
  The law RegionOnly walked.
-/
import Derived.Test.YtpfghjnhoafcmaaRgY3
import Derived.Test.YtpfghjnhoafcmaaRgW
namespace Go.Proofs.Ytpfghjnhoafcmaa
open Go.RowKit

theorem own_zero2 {B : Nat} {y : World} {p : Option Addr} {c : Nat} {L : List Rg.R} (h0 : 0 < L.length) (ho : RsO B y (.slice p L.length c) L) (hs : Rs y p c L) : ∃ q, p = some ⟨q, 0, none⟩ := by
  cases L with
  | nil => simp at h0
  | cons x L => exact own_zero ho hs
theorem rec_cells {y : World} {q o : Nat} {r : Rg.R} (h : y.rangeAt q o (RAr r).toList) : y.cell? ⟨q, o, none⟩ = some (.int .i64 r.gen) := by
  have h1 := h 0 (.int .i64 r.gen) (by unfold RAr cv; rfl)
  rwa [Nat.add_zero] at h1
/-- Behind a Tamper by an image. -/
def VtTm (x : World) (K : Nat) (d g g2 : Nat) (m : Dk.M) (S S2 : Nm.St) (y : World) (e : Ending) (z : World) : Prop := ∃ (v : Value) (m' : Dk.M), e = .returned v ∧ (m'.wr ≤ m.wr + 1 ∧ (∀ j, m'.rd j ≤ m.rd j + 1) ∧ m'.n = m.n) ∧ Vt x K z d g g2 m' S S2 ∧ Kp K y z
theorem Im.fn {K N : Nat} {y : World} {p : Option Addr} {c : Nat} (h : Im K y (.slice p N c) N) (h0 : 0 < N) : ∃ (b : Nat) (f : Nat → Value), p = some ⟨b, 0, none⟩ ∧ K ≤ b ∧ ∀ j, j < N → y.cell? ⟨b, j, none⟩ = some (f j) ∧ Im1 K y (f j) := by
  obtain ⟨b, c', u, hv, hk, _, _⟩ := h.at_ 0 h0
  injection hv with hp _ _
  subst hp
  refine ⟨b, fun j => (y.cell? ⟨b, j, none⟩).getD (.int .i64 0), rfl, hk, fun j hj => ?_⟩
  obtain ⟨b', c'', u', hv', _, hc, hu⟩ := h.at_ j hj
  injection hv' with hp _ _
  injection hp with hp
  injection hp with hp _ _
  subst hp
  show y.cell? _ = some ((y.cell? ⟨b, j, none⟩).getD _) ∧ Im1 K y ((y.cell? ⟨b, j, none⟩).getD _)
  rw [hc]
  exact ⟨rfl, hu⟩
theorem Try.zeroOp : (Try.prog.info? 44).map (fun i => (i.zero, i.size)) = some (some (.agg (oc Rg.ozero none 0 none 0).toArray), 141) := by kernel_rfl
set_option maxHeartbeats 4000000 in
set_option maxRecDepth 100000 in
theorem only_far (X : List Rg.O) (p : Option Addr) (n c : Nat) (hn : X.length = n) (w : World) (hp : Os w p X) (h : ¬ Short X n) : Calls Try.prog 3 #[.slice p n c] w (YesSay w) := by
  have HL := Lib.hid (long_yes X p n c hn w hp h)
  clear hn hp h
  go_enter Try.func3, Try.ntmps3
  go_wp2_with (first
    | (go_at_call 7; refine HL.out.mono ?_; rintro e1 w1 ⟨rfl, hb1⟩; have HB1 := Lib.hid hb1; clear hb1)
    | (go_at_call 8; refine (works_any _).mono ?_; rintro e2 w2 ⟨rfl, hb2⟩; have HB2 := Lib.hid (HB1.out.trans (hb2.mono HB1.out.size)); clear hb2))
  go_ret
  exact ⟨rfl, HB2.out⟩
set_option maxHeartbeats 40000000 in
set_option maxRecDepth 100000 in
theorem only_near (X : List Rg.O) (p : Option Addr) (n c : Nat) (hn : X.length = n) (w : World) (hp : Os w p X) (h : Short X n) : Calls Try.prog 3 #[.slice p n c] w (YesSay w) := by
  have HWK : Hid (∀ y, Calls Try.prog 8 #[] y (YesSay y)) := fun y => works_any y
  have HL := Lib.hid (long_no X p n c hn w hp h)
  have HP := Lib.hid hp
  have HN := Lib.hid hn
  have HS := Lib.hid h
  have HM : Hid (Dk.fresh 4 = Rg.m0) := by show _ = _; unfold Rg.m0; rfl
  obtain ⟨Z, hZ⟩ : ∃ Z, Hid ((oc Rg.ozero none 0 none 0).toArray = Z) := ⟨_, rfl⟩
  have HZS : Hid (Z.size = 141) := by show _ = _; rw [← hZ.out, List.size_toArray]; exact oc_len Rg.ok_zero _ _ _ _
  have hz := (zero_of_info Try.zeroOp).1
  rw [hZ.out] at hz
  have hzn : ¬ Z = #[] := fun h => by have := HZS.out; rw [h] at this; simp at this
  have hszz := row_size Try.sizeOp HZS
  clear hn hp h
  go_enter Try.func3, Try.ntmps3
  go_upto_region 5 with (first
    | (go_at_call 7; refine HL.out.mono ?_; rintro e0 w0 ⟨rfl, hb0⟩; have HB0 := Lib.hid hb0; clear hb0)
    | (go_at_call 9; refine (new4 4 (by omega) (by omega) _).mono ?_; rintro e1 w1 ⟨d, lb, rb, cb, rfl, hd1, hb1⟩; have HB1 := Lib.hid hb1; clear hb1)
    | (go_at_call 10; refine (new_any _).mono ?_; rintro e2 w2 ⟨g, b, c2, rfl, hg2, hs2, hb2⟩; have HB2 := Lib.hid hb2; clear hb2))
  go_upto_region 6 with (go_at_call 10; refine (new_any _).mono ?_; rintro e3 w3 ⟨g2, b3, c3, rfl, hg3, hs3, hb3⟩; have HB3 := Lib.hid hb3; clear hb3)
  have HV3 : Hid (Vt w0 w3.heap.size w3 d g g2 Rg.m0 Nm.St.none Nm.St.none) := by rw [← HM.out]; exact vt_make hd1.out HB1.out hs2.out hg2.out HB2.out hs3.out hg3.out HB3.out
  clear hd1 hs2 hg2 hs3 hg3 HB1 HB2 HB3 HL
  generalize w3.heap.size = K at *
  have HC0 : Hid (Rg.m0.wr = 0 ∧ (∀ j, Rg.m0.rd j = 0) ∧ Nm.St.none.ss.length = 0 ∧ Rg.m0.n = 4) := by unfold Rg.m0; exact ⟨rfl, fun _ => rfl, rfl, rfl⟩
  go_wp2
  go_loopw [7, 8, 9] (fun v7 v8 v9 wr => ∃ (k NI : Nat) (T : List Rg.R) (m : Dk.M) (S : Nm.St), k ≤ n ∧ v9 = .int .i64 (k : Int) ∧ Hid (RsO K wr v7 T) ∧ Hid (Im K wr v8 NI) ∧ Hid (Rg.Told T S ∧ (∀ r ∈ T, Rg.Ok r) ∧ T.length ≤ k ∧ NI ≤ 2 * k) ∧ Hid (Vt w0 K wr d g g2 m S Nm.St.none) ∧ Hid (m.wr ≤ 10 * k ∧ (∀ j, m.rd j ≤ 10 * k) ∧ S.ss.length ≤ k ∧ m.n = 4)) (fun _ _ v9 _ => n - (intOf v9).toNat)
  case atStart => exact ⟨0, 0, [], Rg.m0, Nm.St.none, by omega, rfl, rso_nil _ _, Im.nil _ _, ⟨Rg.told_none _, (fun r hr => by cases hr), Nat.le_refl _, Nat.le_refl _⟩, HV3.out, ⟨by rw [HC0.out.1]; exact Nat.le_refl _, fun j => by rw [HC0.out.2.1 j]; exact Nat.le_refl _, by rw [HC0.out.2.2.1]; exact Nat.le_refl _, HC0.out.2.2.2⟩⟩
  case round =>
    clear HV3 HC0
    obtain ⟨k, NI, T, m, S, hk, rfl, HO, HI, HT, HV, HC⟩ := hrel
    by_cases hlt : k < n
    · obtain ⟨ab, ao, hpp, hi⟩ := HP.out (by rw [HN.out]; omega)
      subst hpp
      obtain ⟨pd, cd, pf, cf, hr, hop⟩ := hi k (by rw [HN.out]; exact hlt)
      obtain ⟨o, ho⟩ : ∃ o, X.getD k Rg.ozero = o := ⟨_, rfl⟩
      have HDL : Hid (o.D.length ≤ 1024) := by have h1 := (HS.out.2 k hlt).1; rw [ho] at h1; exact h1
      have hk60 : k < 60 := by have h1 := HS.out.1; omega
      rw [ho] at hr hop
      have HOP : Hid (OpOk w0 o pd cd pf cf) := hop.old HB0.out
      have HR0 : Hid (wr.rangeAt ab (ao + k * 141) (oc o pd cd pf cf)) := rng_old (rng_old hr HB0.out) HV.out.low
      have HAK := Lib.hid (opk o hop.ok pd cd pf cf)
      have HRS : Hid ((RAr o.r).size = 136) := rar_size hop.ok
      have HRO : Hid (Rg.Ok o.r) := hop.ok
      obtain ⟨A, hA⟩ : ∃ A, (oc o pd cd pf cf).toArray = A := ⟨_, rfl⟩
      have HR1 : Hid (wr.rangeAt ab (ao + k * 141) A.toList) := by rw [← hA]; exact HR0.out
      rw [hA] at HAK
      have HAS : Hid (A.size = 141) := HAK.out.size
      have HA1 : Hid (A.all (·.oneCell') = true) := HAK.out.one
      have hsa := row_size Try.sizeOp HAS
      have hi0 : 0 ≤ (k : Int) := by omega
      have hi1 : (k : Int) < (n : Int) := by omega
      clear hr hop hi ho hA HR0
      go_upto_region 12 with (first
        | ((with_reducible refine rng_load_g _ _ ab (ao + k * 141) A _ ?_ ?_ HR1.out Try.underlying44 ?_ hsa ?_); (exact rfl); (exact rfl); (exact rfl))
        | ((with_reducible refine row_store _ _ _ _ _ _ _ ?_ ?_ (heap_alloc_new _ _) hsa ?_ HA1.out ?_); (exact rfl); (exact rfl); (rw [HAS.out, HZS.out]); intro w4 G4 ch4))
      have K4 : Hid (Below wr.heap.size wr w4) := ch4.below ((Below.refl _ wr).alloc (Nat.le_refl _) _) (Nat.le_refl _)
      have V4 := Lib.hid (HV.out.old K4.out)
      have HKB : Hid (K ≤ wr.heap.size) := HV.out.size
      have KP4 : Hid (Kp K wr w4) := Kp.of_below K4.out
      have O4 : Hid (RsO K w4 u7 T) := own_kp HO.out KP4.out (Nat.le_refl _)
      have I4 : Hid (Im K w4 u8 NI) := HI.out.kp KP4.out
      obtain ⟨bx, hbx⟩ : ∃ b, wr.heap.size = b := ⟨_, rfl⟩
      rw [hbx] at G4 HKB ⊢
      clear hbx ch4 K4 HV HO HI KP4 HR1 hlt hi0
      obtain ⟨c0, c1, c2', rr, c4, c5⟩ := HAK.out.at_ _ _ _ G4.out
      obtain ⟨p8, c8, hv8⟩ := I4.out.len
      subst hv8
      have HRR := Lib.hid rr
      have hsr := row_size Try.sizeRec HRS
      have HCW : Hid (∀ y, Vt w0 K y d g g2 m S Nm.St.none → Calls Try.prog 13 #[.pointer (some ⟨d, 0, none⟩), .iface 29 (.pointer (some ⟨g2, 0, none⟩)), .agg (RAr o.r), .int .i64 o.n] y (VtSay w0 K d g2 g (.int .i64 (Rg.vE m Nm.St.none o.r o.n)) (Rg.vM m Nm.St.none o.r o.n) (Rg.vS Nm.St.none o.r o.n) S y)) := fun y hy => by
        have h2 := vt_write o.r HRO.out o.n hy.swap (by have := HC.out.1; omega) (Nat.zero_le _)
        rw [rv_eq] at h2
        exact h2
      clear rr
      by_cases k7 : o.k = 7
      · have f7 : (o.k == 7) = true := by simpa using k7
        have f6 : (o.k == 6) = false := by rw [k7]; rfl
        have f0 : (o.k == 0) = false := by rw [k7]; rfl
        as_aux_lemma =>
          go_upto_region 16 with (first
            | ((with_reducible refine rng_load_g _ _ bx 3 (RAr o.r) _ ?_ ?_ HRR.out Try.underlying40 ?_ hsr ?_); (exact rfl); (exact rfl); (exact rfl))
            | (go_at_call 13; refine (HCW.out _ V4.out).mono ?_; rintro e5 wA ⟨rfl, VA', HKA⟩))
          have VA := Lib.hid VA'.out.swap
          have GA : Hid (wA.heap[bx]? = some (.cells A 44 (0, 0))) := (HKA.out.block bx HKB.out (lt_of_block G4.out)).trans G4.out
          have OA : Hid (RsO K wA u7 T) := own_kp O4.out HKA.out (Nat.le_refl _)
          have IA : Hid (Im K wA (.slice p8 NI c8) NI) := I4.out.kp HKA.out
          have HSA : Hid ((o.k == 7) = false → Rg.vS Nm.St.none o.r o.n = Nm.St.none) := fun h => by rw [f7] at h; cases h
          have HMA : Hid ((Rg.vM m Nm.St.none o.r o.n).wr ≤ m.wr + 1 ∧ (∀ j, (Rg.vM m Nm.St.none o.r o.n).rd j ≤ m.rd j + 1) ∧ (Rg.vM m Nm.St.none o.r o.n).n = m.n) := ⟨(Rg.wr_le m Nm.St.none o.r o.n).1, fun j => by rw [(Rg.wr_le m Nm.St.none o.r o.n).2]; omega, Rg.vM_n m Nm.St.none o.r o.n⟩
          generalize Rg.vM m Nm.St.none o.r o.n = mA at *
          generalize Rg.vS Nm.St.none o.r o.n = S2A at *
          clear VA' HKA V4 G4 O4 I4
          have HRUN : Hid (∀ y, Vt w0 K y d g g2 mA S S2A → Calls Try.prog 14 #[.pointer (some ⟨d, 0, none⟩), .iface 29 (.pointer (some ⟨g, 0, none⟩)), .agg A] y (RunSay w0 K d g g2 o mA S S2A y)) := fun y hy => run_any o A pd cd pf cf HAK.out HOP.out y hy ⟨HDL.out, by have h1 := HMA.out.1; have h2 := HC.out.1; omega, by have h2 := HC.out.2.2.1; omega, fun j => by have h1 := HMA.out.2.1 j; have h2 := HC.out.2.1 j; omega⟩
          go_upto_region 17 with (first
            | ((with_reducible refine row_load _ _ _ _ _ _ _ ?_ GA.out Try.underlying44 ?_ hsa ?_); (exact rfl); (exact rfl))
            | (go_at_call 14; refine (HRUN.out _ VA.out).mono ?_; rintro e6 wB ⟨er6, mB, rfl, VB, HMB, HKC⟩))
          have GB : Hid (wB.heap[bx]? = some (.cells A 44 (0, 0))) := (HKC.out.block bx HKB.out (lt_of_block GA.out)).trans GA.out
          have OB : Hid (RsO K wB u7 T) := own_kp OA.out HKC.out (Nat.le_refl _)
          have IB : Hid (Im K wB (.slice p8 NI c8) NI) := IA.out.kp HKC.out
          have HMC : Hid (mB.wr ≤ 10 * k + 2 ∧ (∀ j, mB.rd j ≤ 10 * k + 2) ∧ mB.n = 4) := ⟨by have h1 := HMA.out.1; have h2 := HC.out.1; have h3 := HMB.out.1; omega, fun j => by have h1 := HMA.out.2.1 j; have h2 := HC.out.2.1 j; have h3 := HMB.out.2.1 j; omega, by rw [HMB.out.2.2, HMA.out.2.2]; exact HC.out.2.2.2⟩
          have HSC : Hid ((Rg.rS S o).ss.length ≤ k + 1) := by
            have h2 := HC.out.2.2.1
            show _ ≤ _
            unfold Rg.rS
            split
            · exact Nat.le_trans (Rg.vS_le S o.r o.n) (by omega)
            · omega
          obtain ⟨d0, d1, d2, rB, d4, d5⟩ := HAK.out.at_ _ _ _ GB.out
          have HRB := Lib.hid rB
          clear VA GA OA IA HMA HMB HKC HRUN HCW rB d1 d2 d4 d5 c0 c1 c2' c4 c5 HC
          have HTC : Hid (Rg.Told T (Rg.rS S o) ∧ (∀ r ∈ T, Rg.Ok r) ∧ T.length ≤ k + 1 ∧ NI ≤ 2 * k) := by
            refine ⟨?_, HT.out.2.1, by have h1 := HT.out.2.2.1; omega, HT.out.2.2.2⟩
            unfold Rg.rS
            rw [if_neg (by simpa using f0)]
            exact HT.out.1
          go_upto_region 19 with (fail)
          obtain ⟨wC, TC, v7C, hwC, hTC, hv7⟩ : ∃ wC TC v7C, wC = wB ∧ TC = T ∧ v7C = u7 := ⟨_, _, _, rfl, rfl, rfl⟩
          rw [← hwC, ← hv7]
          rw [← hwC] at VB GB OB IB
          rw [← hTC] at OB HTC
          rw [← hv7] at OB
          have VC := VB
          have GC := GB
          have OC := OB
          have IC := IB
          clear hwC hTC hv7 VB GB OB IB HRB
          have HBY : Hid (∀ i, i < mB.n → Sha.Byt (Dk.peek mB i)) := VC.out.vs.byt
          have HIN : Hid (∀ x ∈ Rg.vA mB (Rg.rS S o), x ∈ TC) := Rg.vA_told HBY.out HTC.out.1 HTC.out.2.1
          have HPA := Lib.hid (Rg.vA_par HBY.out (Rg.rS S o))
          have HRDC : Hid (∀ j, mB.rd j ≤ 999999990) := fun j => by have h1 := HMC.out.2.1 j; omega
          have HALL := Lib.hid (vt_all VC.out HRDC.out)
          obtain ⟨mD, hmD⟩ : ∃ mD, Hid (Rg.alM mB 2 = mD) := ⟨_, rfl⟩
          have HMD : Hid (mD.wr ≤ 10 * k + 3 ∧ (∀ j, mD.rd j ≤ 10 * k + 5) ∧ mD.n = 4) := by
            rw [← hmD.out]
            obtain ⟨h1, h2, h3⟩ := HMC.out
            have e1 := Rg.rdM_le mB 1
            have e2 := Rg.rdM_le (Dk.rdM mB 1) 2
            have e : Rg.alM mB 2 = Dk.rdM (Dk.rdM mB 1) 2 := rfl
            have w1 := (Rg.rdM_same mB 1).2.2.2.1
            have w2 := (Rg.rdM_same (Dk.rdM mB 1) 2).2.2.2.1
            rw [e]
            refine ⟨by omega, fun j => ?_, by rw [e2.2.2, e1.2.2]; exact h3⟩
            have a1 := e1.2.1 j
            have a2 := e2.2.1 j
            have a3 := h2 j
            omega
          unfold VtAll at HALL
          rw [hmD.out] at HALL
          obtain ⟨LA, hLA⟩ : ∃ LA, Rg.vA mB (Rg.rS S o) = LA := ⟨_, rfl⟩
          rw [hLA] at HALL HPA HIN
          obtain ⟨S3, hS3⟩ : ∃ S3, Rg.rS S o = S3 := ⟨_, rfl⟩
          rw [hS3] at HALL HTC HSC
          clear hLA hS3 VC HBY HRDC HMC hmD HT
          go_upto_region 20 with (go_at_call 15; refine HALL.out.mono ?_; rintro e7 wD ⟨v7D, rfl, HOD, HOKD, VD, HKD⟩)
          have GD : Hid (wD.heap[bx]? = some (.cells A 44 (0, 0))) := (HKD.out.block bx HKB.out (lt_of_block GC.out)).trans GC.out
          have OD : Hid (RsO K wD v7C TC) := own_kp OC.out HKD.out (Nat.le_refl _)
          have ID : Hid (Im K wD (.slice p8 NI c8) NI) := IC.out.kp HKD.out
          obtain ⟨pD, cD, hvD, hrD⟩ := HOD.out.es HOKD.out
          subst hvD
          have HRD := Lib.hid hrD
          have HQ0 : Hid (0 < LA.length → ∃ q, pD = some ⟨q, 0, none⟩) := fun h0 => own_zero2 h0 HOD.out hrD
          obtain ⟨pT, cT, hvT, hrT⟩ := OD.out.es HTC.out.2.1
          subst hvT
          have HRT := Lib.hid hrT
          obtain ⟨NT2, hNT2⟩ : ∃ NT2, TC.length = NT2 := ⟨_, rfl⟩
          rw [hNT2] at OD ⊢
          have HNT2 := Lib.hid hNT2
          obtain ⟨NL, hNL⟩ : ∃ NL, LA.length = NL := ⟨_, rfl⟩
          rw [hNL] at HPA HQ0 ⊢
          have HNL := Lib.hid hNL
          have HHAS : Hid (∀ y j, Below wD.heap.size wD y → j < NL → Calls Try.prog 16 #[.slice pT NT2 cT, .agg (RAr (LA.getD j Rg.zero))] y (BlSay true y)) := fun y j hy hj => by
            have hm : LA.getD j Rg.zero ∈ LA := by rw [List.getD_eq_getElem?_getD, List.getElem?_eq_getElem (by rw [HNL.out]; exact hj)]; exact List.getElem_mem _
            have h := rhas_any TC (LA.getD j Rg.zero) (HOKD.out _ hm) pT NT2 cT HNT2.out (by have h1 := HTC.out.2.2.1; rw [HNT2.out] at h1; omega) y (HRT.out.old hy)
            rw [decide_eq_true (HIN.out _ hm)] at h
            exact h
          clear hrD hrT hNT2 hNL HOD HKD HALL GC OC IC
          go_wp2
          go_loopw [12] (fun v12 wr2 => ∃ j : Nat, j ≤ NL ∧ v12 = .int .i64 (j : Int) ∧ Hid (Below wD.heap.size wD wr2)) (fun v12 _ => NL - (intOf v12).toNat)
          case atStart => exact ⟨0, by omega, rfl, Below.refl _ _⟩
          case round =>
            obtain ⟨j, hj, rfl, HBJ⟩ := hrel
            by_cases hjl : j < NL
            · obtain ⟨q, hq⟩ := HQ0.out (by omega)
              subst hq
              have hji : (j : Int) < (NL : Int) := by omega
              have hjn : 0 ≤ (j : Int) := by omega
              have hj00 : (0 : Int) < (NL : Int) := by omega
              have HKY : Hid (∀ y, Below wD.heap.size wD y → y.rangeAt q (j * 136) (RAr (LA.getD j Rg.zero)).toList ∧ y.cell? ⟨q, j * 136, none⟩ = some (.int .i64 (LA.getD j Rg.zero).gen) ∧ y.cell? ⟨q, 0, none⟩ = some (.int .i64 (LA.getD 0 Rg.zero).gen) ∧ y.cell? ⟨bx, 0, none⟩ = some (.int .i64 o.k)) := fun y hy => by
                have a1 := (HRD.out.old hy).rng (i := j) (by rw [HNL.out]; exact hjl)
                have a2 := (HRD.out.old hy).rng (i := 0) (by rw [HNL.out]; omega)
                rw [Nat.zero_add] at a1
                rw [Nat.zero_add, Nat.zero_mul] at a2
                exact ⟨a1, rec_cells a1, rec_cells a2, (HAK.out.at_ _ _ _ ((hy.block _ (lt_of_block GD.out)).trans GD.out)).1⟩
              have HPJ : Hid (0 < j → (LA.getD j Rg.zero).gen.tmod 2 ≠ (LA.getD 0 Rg.zero).gen.tmod 2) := fun h0 => HPA.out.2 j h0 hjl
              have HHJ : Hid (∀ y, Below wD.heap.size wD y → Calls Try.prog 16 #[.slice pT NT2 cT, .agg (RAr (LA.getD j Rg.zero))] y (BlSay true y)) := fun y hy => HHAS.out y j hy hjl
              have hXS : (RAr (LA.getD j Rg.zero)).size = 136 := rar_size (HRD.out.getD j)
              have hsx := row_size Try.sizeRec (Lib.hid hXS)
              generalize RAr (LA.getD j Rg.zero) = XX at *
              generalize (LA.getD j Rg.zero).gen = gj at *
              generalize (LA.getD 0 Rg.zero).gen = gz at *
              generalize o.k = kk at *
              clear hXS hj
              have hNL2 : NL ≤ 2 := HPA.out.1
              go_upto_region 23 with (fail)
              have BZ := Lib.hid HBJ.out.drew
              refine wp_region_any (by kernel_rfl) ?_
              change wpAny _ _ _ _ _ _ _ (World.drew _)
              obtain ⟨z, hz'⟩ : ∃ x, x = wr.drew := ⟨_, rfl⟩
              rw [← hz'] at BZ ⊢
              clear hz'
              have KZ : Hid (∀ y, Below z.heap.size z y → y.rangeAt q (j * 136) XX.toList ∧ y.cell? ⟨q, j * 136, none⟩ = some (.int .i64 gj) ∧ y.cell? ⟨q, 0, none⟩ = some (.int .i64 gz) ∧ y.cell? ⟨bx, 0, none⟩ = some (.int .i64 kk)) := fun y hy => HKY.out y (BZ.out.trans (hy.mono BZ.out.size))
              have D0 : Hid (Below z.heap.size z z) := Below.refl _ _
              by_cases hjz : j = 0
              · have hjp : ¬ (j : Int) > 0 := by omega
                refine wpAny_of_held (S := fun y => y.rangeAt q (j * 136) XX.toList ∧ y.cell? ⟨q, j * 136, none⟩ = some (.int .i64 gj) ∧ y.cell? ⟨q, 0, none⟩ = some (.int .i64 gz) ∧ y.cell? ⟨bx, 0, none⟩ = some (.int .i64 kk)) _ _ _ _ ?_
                have SD := KZ.out _ D0.out
                refine anyH_take 0 89 (.slice pT NT2 cT) SD rfl (by kernel_rfl) (by kernel_rfl) (by kernel_rfl) (fun _ _ _ h => h) (by rfl) (by intro x hx; have y0 := hx; (first | exact exec_arr 40 (.tmp 92) q (j * 136) XX _ rfl hx.1 Try.underlying40 rfl hsx | go_simp); try (intro h; omega)) ?_
                try simp only [Act.put, List.setIfInBounds_toArray, List.set_cons_zero, List.set_cons_succ]
                refine anyH_take 1 90 (.slice (some ⟨q, 0, none⟩) NL cD) SD rfl (by kernel_rfl) (by kernel_rfl) (by kernel_rfl) (fun _ _ _ h => h) (by rfl) (by intro x hx; have y0 := hx; (first | exact exec_arr 40 (.tmp 92) q (j * 136) XX _ rfl hx.1 Try.underlying40 rfl hsx | go_simp); try (intro h; omega)) ?_
                try simp only [Act.put, List.setIfInBounds_toArray, List.set_cons_zero, List.set_cons_succ]
                refine anyH_take 2 91 (.int .i64 (j : Int)) SD rfl (by kernel_rfl) (by kernel_rfl) (by kernel_rfl) (fun _ _ _ h => h) (by rfl) (by intro x hx; have y0 := hx; (first | exact exec_arr 40 (.tmp 92) q (j * 136) XX _ rfl hx.1 Try.underlying40 rfl hsx | go_simp); try (intro h; omega)) ?_
                try simp only [Act.put, List.setIfInBounds_toArray, List.set_cons_zero, List.set_cons_succ]
                refine anyH_take 3 92 (.pointer (some ⟨q, (j * 136), none⟩)) SD rfl (by kernel_rfl) (by kernel_rfl) (by kernel_rfl) (fun _ _ _ h => h) (by rfl) (by intro x hx; have y0 := hx; (first | exact exec_arr 40 (.tmp 92) q (j * 136) XX _ rfl hx.1 Try.underlying40 rfl hsx | go_simp); try (intro h; omega)) ?_
                try simp only [Act.put, List.setIfInBounds_toArray, List.set_cons_zero, List.set_cons_succ]
                refine anyH_take 4 93 (.agg XX) SD rfl (by kernel_rfl) (by kernel_rfl) (by kernel_rfl) (fun _ _ _ h => h) (by rfl) (by intro x hx; have y0 := hx; (first | exact exec_arr 40 (.tmp 92) q (j * 136) XX _ rfl hx.1 Try.underlying40 rfl hsx | go_simp); try (intro h; omega)) ?_
                try simp only [Act.put, List.setIfInBounds_toArray, List.set_cons_zero, List.set_cons_succ]
                refine anyH_one 5 (by kernel_rfl) ?_
                refine wpOp_step rfl (fun Kc hKc => ?_)
                go_simp
                refine (HHJ.out _ (BZ.out.trans (D0.out.mono BZ.out.size))).mono ?_
                rintro e21 z1 ⟨rfl, hbz1⟩
                have D1 := Lib.hid (D0.out.trans (hbz1.mono D0.out.size))
                clear hbz1
                dsimp only
                refine hKc _ _ ⟨KZ.out _ D1.out, ?_⟩
                clear hKc Kc
                try simp only [Act.put, List.setIfInBounds_toArray, List.set_cons_zero, List.set_cons_succ]
                clear SD
                have SD := KZ.out _ D1.out
                refine anyH_take 6 95 (.bool false) SD rfl (by kernel_rfl) (by kernel_rfl) (by kernel_rfl) (fun _ _ _ h => h) (by rfl) (by intro x hx; have y0 := hx; (first | exact exec_arr 40 (.tmp 92) q (j * 136) XX _ rfl hx.1 Try.underlying40 rfl hsx | go_simp); try (intro h; omega)) ?_
                try simp only [Act.put, List.setIfInBounds_toArray, List.set_cons_zero, List.set_cons_succ]
                refine anyH_take 7 96 (.bool false) SD rfl (by kernel_rfl) (by kernel_rfl) (by kernel_rfl) (fun _ _ _ h => h) (by rfl) (by intro x hx; have y0 := hx; (first | exact exec_arr 40 (.tmp 92) q (j * 136) XX _ rfl hx.1 Try.underlying40 rfl hsx | go_simp); try (intro h; omega)) ?_
                try simp only [Act.put, List.setIfInBounds_toArray, List.set_cons_zero, List.set_cons_succ]
                refine anyH_skip 8 97 SD rfl (by kernel_rfl) (by kernel_rfl) (by kernel_rfl) (fun _ _ _ h => h) (by rfl) ?_
                try simp only [Act.put, List.setIfInBounds_toArray, List.set_cons_zero, List.set_cons_succ]
                refine anyH_skip 9 98 SD rfl (by kernel_rfl) (by kernel_rfl) (by kernel_rfl) (fun _ _ _ h => h) (by rfl) ?_
                try simp only [Act.put, List.setIfInBounds_toArray, List.set_cons_zero, List.set_cons_succ]
                refine anyH_skip 10 99 SD rfl (by kernel_rfl) (by kernel_rfl) (by kernel_rfl) (fun _ _ _ h => h) (by rfl) ?_
                try simp only [Act.put, List.setIfInBounds_toArray, List.set_cons_zero, List.set_cons_succ]
                refine anyH_take 11 100 (.bool false) SD rfl (by kernel_rfl) (by kernel_rfl) (by kernel_rfl) (fun _ _ _ h => h) (by rfl) (by intro x hx; have y0 := hx; (first | exact exec_arr 40 (.tmp 92) q (j * 136) XX _ rfl hx.1 Try.underlying40 rfl hsx | go_simp); try (intro h; omega)) ?_
                try simp only [Act.put, List.setIfInBounds_toArray, List.set_cons_zero, List.set_cons_succ]
                refine anyH_take 12 101 (.bool false) SD rfl (by kernel_rfl) (by kernel_rfl) (by kernel_rfl) (fun _ _ _ h => h) (by rfl) (by intro x hx; have y0 := hx; (first | exact exec_arr 40 (.tmp 92) q (j * 136) XX _ rfl hx.1 Try.underlying40 rfl hsx | go_simp); try (intro h; omega)) ?_
                try simp only [Act.put, List.setIfInBounds_toArray, List.set_cons_zero, List.set_cons_succ]
                refine anyH_take 13 102 (.int .i64 (j : Int)) SD rfl (by kernel_rfl) (by kernel_rfl) (by kernel_rfl) (fun _ _ _ h => h) (by rfl) (by intro x hx; have y0 := hx; (first | exact exec_arr 40 (.tmp 92) q (j * 136) XX _ rfl hx.1 Try.underlying40 rfl hsx | go_simp); try (intro h; omega)) ?_
                try simp only [Act.put, List.setIfInBounds_toArray, List.set_cons_zero, List.set_cons_succ]
                refine anyH_take 14 103 (.bool false) SD rfl (by kernel_rfl) (by kernel_rfl) (by kernel_rfl) (fun _ _ _ h => h) (by rfl) (by intro x hx; have y0 := hx; (first | exact exec_arr 40 (.tmp 92) q (j * 136) XX _ rfl hx.1 Try.underlying40 rfl hsx | go_simp); try (intro h; omega)) ?_
                try simp only [Act.put, List.setIfInBounds_toArray, List.set_cons_zero, List.set_cons_succ]
                refine anyH_take 15 104 (.bool false) SD rfl (by kernel_rfl) (by kernel_rfl) (by kernel_rfl) (fun _ _ _ h => h) (by rfl) (by intro x hx; have y0 := hx; (first | exact exec_arr 40 (.tmp 92) q (j * 136) XX _ rfl hx.1 Try.underlying40 rfl hsx | go_simp); try (intro h; omega)) ?_
                try simp only [Act.put, List.setIfInBounds_toArray, List.set_cons_zero, List.set_cons_succ]
                refine anyH_skip 16 105 SD rfl (by kernel_rfl) (by kernel_rfl) (by kernel_rfl) (fun _ _ _ h => h) (by rfl) ?_
                try simp only [Act.put, List.setIfInBounds_toArray, List.set_cons_zero, List.set_cons_succ]
                refine anyH_skip 17 106 SD rfl (by kernel_rfl) (by kernel_rfl) (by kernel_rfl) (fun _ _ _ h => h) (by rfl) ?_
                try simp only [Act.put, List.setIfInBounds_toArray, List.set_cons_zero, List.set_cons_succ]
                refine anyH_skip 18 107 SD rfl (by kernel_rfl) (by kernel_rfl) (by kernel_rfl) (fun _ _ _ h => h) (by rfl) ?_
                try simp only [Act.put, List.setIfInBounds_toArray, List.set_cons_zero, List.set_cons_succ]
                refine anyH_skip 19 108 SD rfl (by kernel_rfl) (by kernel_rfl) (by kernel_rfl) (fun _ _ _ h => h) (by rfl) ?_
                try simp only [Act.put, List.setIfInBounds_toArray, List.set_cons_zero, List.set_cons_succ]
                refine anyH_skip 20 109 SD rfl (by kernel_rfl) (by kernel_rfl) (by kernel_rfl) (fun _ _ _ h => h) (by rfl) ?_
                try simp only [Act.put, List.setIfInBounds_toArray, List.set_cons_zero, List.set_cons_succ]
                refine anyH_skip 21 110 SD rfl (by kernel_rfl) (by kernel_rfl) (by kernel_rfl) (fun _ _ _ h => h) (by rfl) ?_
                try simp only [Act.put, List.setIfInBounds_toArray, List.set_cons_zero, List.set_cons_succ]
                refine anyH_skip 22 111 SD rfl (by kernel_rfl) (by kernel_rfl) (by kernel_rfl) (fun _ _ _ h => h) (by rfl) ?_
                try simp only [Act.put, List.setIfInBounds_toArray, List.set_cons_zero, List.set_cons_succ]
                refine anyH_skip 23 112 SD rfl (by kernel_rfl) (by kernel_rfl) (by kernel_rfl) (fun _ _ _ h => h) (by rfl) ?_
                try simp only [Act.put, List.setIfInBounds_toArray, List.set_cons_zero, List.set_cons_succ]
                refine anyH_skip 24 113 SD rfl (by kernel_rfl) (by kernel_rfl) (by kernel_rfl) (fun _ _ _ h => h) (by rfl) ?_
                try simp only [Act.put, List.setIfInBounds_toArray, List.set_cons_zero, List.set_cons_succ]
                refine anyH_skip 25 114 SD rfl (by kernel_rfl) (by kernel_rfl) (by kernel_rfl) (fun _ _ _ h => h) (by rfl) ?_
                try simp only [Act.put, List.setIfInBounds_toArray, List.set_cons_zero, List.set_cons_succ]
                refine anyH_skip 26 115 SD rfl (by kernel_rfl) (by kernel_rfl) (by kernel_rfl) (fun _ _ _ h => h) (by rfl) ?_
                try simp only [Act.put, List.setIfInBounds_toArray, List.set_cons_zero, List.set_cons_succ]
                refine anyH_skip 27 116 SD rfl (by kernel_rfl) (by kernel_rfl) (by kernel_rfl) (fun _ _ _ h => h) (by rfl) ?_
                try simp only [Act.put, List.setIfInBounds_toArray, List.set_cons_zero, List.set_cons_succ]
                refine anyH_take 28 117 (.bool false) SD rfl (by kernel_rfl) (by kernel_rfl) (by kernel_rfl) (fun _ _ _ h => h) (by rfl) (by intro x hx; have y0 := hx; (first | exact exec_arr 40 (.tmp 92) q (j * 136) XX _ rfl hx.1 Try.underlying40 rfl hsx | go_simp); try (intro h; omega)) ?_
                try simp only [Act.put, List.setIfInBounds_toArray, List.set_cons_zero, List.set_cons_succ]
                refine anyH_take 29 118 (.bool false) SD rfl (by kernel_rfl) (by kernel_rfl) (by kernel_rfl) (fun _ _ _ h => h) (by rfl) (by intro x hx; have y0 := hx; (first | exact exec_arr 40 (.tmp 92) q (j * 136) XX _ rfl hx.1 Try.underlying40 rfl hsx | go_simp); try (intro h; omega)) ?_
                try simp only [Act.put, List.setIfInBounds_toArray, List.set_cons_zero, List.set_cons_succ]
                refine wpAnyH_done (by kernel_rfl) ?_ _
                go_wp2
                exact ⟨⟨j + 1, by omega, by go_num, BZ.out.trans (D1.out.mono BZ.out.size)⟩, by simp [intOf]; omega⟩
              · have hjp : (j : Int) > 0 := by omega
                have hjpn : 0 < j := by omega
                have hpar : ¬ gj.tmod 2 = gz.tmod 2 := HPJ.out (by omega)
                refine wpAny_of_held (S := fun y => y.rangeAt q (j * 136) XX.toList ∧ y.cell? ⟨q, j * 136, none⟩ = some (.int .i64 gj) ∧ y.cell? ⟨q, 0, none⟩ = some (.int .i64 gz) ∧ y.cell? ⟨bx, 0, none⟩ = some (.int .i64 kk)) _ _ _ _ ?_
                have SD := KZ.out _ D0.out
                refine anyH_take 0 89 (.slice pT NT2 cT) SD rfl (by kernel_rfl) (by kernel_rfl) (by kernel_rfl) (fun _ _ _ h => h) (by rfl) (by intro x hx; have y0 := hx; (first | exact exec_arr 40 (.tmp 92) q (j * 136) XX _ rfl hx.1 Try.underlying40 rfl hsx | go_simp); try (intro h; omega)) ?_
                try simp only [Act.put, List.setIfInBounds_toArray, List.set_cons_zero, List.set_cons_succ]
                refine anyH_take 1 90 (.slice (some ⟨q, 0, none⟩) NL cD) SD rfl (by kernel_rfl) (by kernel_rfl) (by kernel_rfl) (fun _ _ _ h => h) (by rfl) (by intro x hx; have y0 := hx; (first | exact exec_arr 40 (.tmp 92) q (j * 136) XX _ rfl hx.1 Try.underlying40 rfl hsx | go_simp); try (intro h; omega)) ?_
                try simp only [Act.put, List.setIfInBounds_toArray, List.set_cons_zero, List.set_cons_succ]
                refine anyH_take 2 91 (.int .i64 (j : Int)) SD rfl (by kernel_rfl) (by kernel_rfl) (by kernel_rfl) (fun _ _ _ h => h) (by rfl) (by intro x hx; have y0 := hx; (first | exact exec_arr 40 (.tmp 92) q (j * 136) XX _ rfl hx.1 Try.underlying40 rfl hsx | go_simp); try (intro h; omega)) ?_
                try simp only [Act.put, List.setIfInBounds_toArray, List.set_cons_zero, List.set_cons_succ]
                refine anyH_take 3 92 (.pointer (some ⟨q, (j * 136), none⟩)) SD rfl (by kernel_rfl) (by kernel_rfl) (by kernel_rfl) (fun _ _ _ h => h) (by rfl) (by intro x hx; have y0 := hx; (first | exact exec_arr 40 (.tmp 92) q (j * 136) XX _ rfl hx.1 Try.underlying40 rfl hsx | go_simp); try (intro h; omega)) ?_
                try simp only [Act.put, List.setIfInBounds_toArray, List.set_cons_zero, List.set_cons_succ]
                refine anyH_take 4 93 (.agg XX) SD rfl (by kernel_rfl) (by kernel_rfl) (by kernel_rfl) (fun _ _ _ h => h) (by rfl) (by intro x hx; have y0 := hx; (first | exact exec_arr 40 (.tmp 92) q (j * 136) XX _ rfl hx.1 Try.underlying40 rfl hsx | go_simp); try (intro h; omega)) ?_
                try simp only [Act.put, List.setIfInBounds_toArray, List.set_cons_zero, List.set_cons_succ]
                refine anyH_one 5 (by kernel_rfl) ?_
                refine wpOp_step rfl (fun Kc hKc => ?_)
                go_simp
                refine (HHJ.out _ (BZ.out.trans (D0.out.mono BZ.out.size))).mono ?_
                rintro e21 z1 ⟨rfl, hbz1⟩
                have D1 := Lib.hid (D0.out.trans (hbz1.mono D0.out.size))
                clear hbz1
                dsimp only
                refine hKc _ _ ⟨KZ.out _ D1.out, ?_⟩
                clear hKc Kc
                try simp only [Act.put, List.setIfInBounds_toArray, List.set_cons_zero, List.set_cons_succ]
                clear SD
                have SD := KZ.out _ D1.out
                refine anyH_take 6 95 (.bool false) SD rfl (by kernel_rfl) (by kernel_rfl) (by kernel_rfl) (fun _ _ _ h => h) (by rfl) (by intro x hx; have y0 := hx; (first | exact exec_arr 40 (.tmp 92) q (j * 136) XX _ rfl hx.1 Try.underlying40 rfl hsx | go_simp); try (intro h; omega)) ?_
                try simp only [Act.put, List.setIfInBounds_toArray, List.set_cons_zero, List.set_cons_succ]
                refine anyH_take 7 96 (.bool false) SD rfl (by kernel_rfl) (by kernel_rfl) (by kernel_rfl) (fun _ _ _ h => h) (by rfl) (by intro x hx; have y0 := hx; (first | exact exec_arr 40 (.tmp 92) q (j * 136) XX _ rfl hx.1 Try.underlying40 rfl hsx | go_simp); try (intro h; omega)) ?_
                try simp only [Act.put, List.setIfInBounds_toArray, List.set_cons_zero, List.set_cons_succ]
                refine anyH_skip 8 97 SD rfl (by kernel_rfl) (by kernel_rfl) (by kernel_rfl) (fun _ _ _ h => h) (by rfl) ?_
                try simp only [Act.put, List.setIfInBounds_toArray, List.set_cons_zero, List.set_cons_succ]
                refine anyH_skip 9 98 SD rfl (by kernel_rfl) (by kernel_rfl) (by kernel_rfl) (fun _ _ _ h => h) (by rfl) ?_
                try simp only [Act.put, List.setIfInBounds_toArray, List.set_cons_zero, List.set_cons_succ]
                refine anyH_skip 10 99 SD rfl (by kernel_rfl) (by kernel_rfl) (by kernel_rfl) (fun _ _ _ h => h) (by rfl) ?_
                try simp only [Act.put, List.setIfInBounds_toArray, List.set_cons_zero, List.set_cons_succ]
                refine anyH_take 11 100 (.bool false) SD rfl (by kernel_rfl) (by kernel_rfl) (by kernel_rfl) (fun _ _ _ h => h) (by rfl) (by intro x hx; have y0 := hx; (first | exact exec_arr 40 (.tmp 92) q (j * 136) XX _ rfl hx.1 Try.underlying40 rfl hsx | go_simp); try (intro h; omega)) ?_
                try simp only [Act.put, List.setIfInBounds_toArray, List.set_cons_zero, List.set_cons_succ]
                refine anyH_take 12 101 (.bool false) SD rfl (by kernel_rfl) (by kernel_rfl) (by kernel_rfl) (fun _ _ _ h => h) (by rfl) (by intro x hx; have y0 := hx; (first | exact exec_arr 40 (.tmp 92) q (j * 136) XX _ rfl hx.1 Try.underlying40 rfl hsx | go_simp); try (intro h; omega)) ?_
                try simp only [Act.put, List.setIfInBounds_toArray, List.set_cons_zero, List.set_cons_succ]
                refine anyH_take 13 102 (.int .i64 (j : Int)) SD rfl (by kernel_rfl) (by kernel_rfl) (by kernel_rfl) (fun _ _ _ h => h) (by rfl) (by intro x hx; have y0 := hx; (first | exact exec_arr 40 (.tmp 92) q (j * 136) XX _ rfl hx.1 Try.underlying40 rfl hsx | go_simp); try (intro h; omega)) ?_
                try simp only [Act.put, List.setIfInBounds_toArray, List.set_cons_zero, List.set_cons_succ]
                refine anyH_take 14 103 (.bool true) SD rfl (by kernel_rfl) (by kernel_rfl) (by kernel_rfl) (fun _ _ _ h => h) (by rfl) (by intro x hx; have y0 := hx; (first | exact exec_arr 40 (.tmp 92) q (j * 136) XX _ rfl hx.1 Try.underlying40 rfl hsx | go_simp); try (intro h; omega)) ?_
                try simp only [Act.put, List.setIfInBounds_toArray, List.set_cons_zero, List.set_cons_succ]
                refine anyH_take 15 104 (.bool true) SD rfl (by kernel_rfl) (by kernel_rfl) (by kernel_rfl) (fun _ _ _ h => h) (by rfl) (by intro x hx; have y0 := hx; (first | exact exec_arr 40 (.tmp 92) q (j * 136) XX _ rfl hx.1 Try.underlying40 rfl hsx | go_simp); try (intro h; omega)) ?_
                try simp only [Act.put, List.setIfInBounds_toArray, List.set_cons_zero, List.set_cons_succ]
                refine anyH_take 16 105 (.slice (some ⟨q, 0, none⟩) NL cD) SD rfl (by kernel_rfl) (by kernel_rfl) (by kernel_rfl) (fun _ _ _ h => h) (by rfl) (by intro x hx; have y0 := hx; (first | exact exec_arr 40 (.tmp 92) q (j * 136) XX _ rfl hx.1 Try.underlying40 rfl hsx | go_simp); try (intro h; omega)) ?_
                try simp only [Act.put, List.setIfInBounds_toArray, List.set_cons_zero, List.set_cons_succ]
                refine anyH_take 17 106 (.int .i64 (j : Int)) SD rfl (by kernel_rfl) (by kernel_rfl) (by kernel_rfl) (fun _ _ _ h => h) (by rfl) (by intro x hx; have y0 := hx; (first | exact exec_arr 40 (.tmp 92) q (j * 136) XX _ rfl hx.1 Try.underlying40 rfl hsx | go_simp); try (intro h; omega)) ?_
                try simp only [Act.put, List.setIfInBounds_toArray, List.set_cons_zero, List.set_cons_succ]
                refine anyH_take 18 107 (.pointer (some ⟨q, (j * 136), none⟩)) SD rfl (by kernel_rfl) (by kernel_rfl) (by kernel_rfl) (fun _ _ _ h => h) (by rfl) (by intro x hx; have y0 := hx; (first | exact exec_arr 40 (.tmp 92) q (j * 136) XX _ rfl hx.1 Try.underlying40 rfl hsx | go_simp); try (intro h; omega)) ?_
                try simp only [Act.put, List.setIfInBounds_toArray, List.set_cons_zero, List.set_cons_succ]
                refine anyH_take 19 108 (.pointer (some ⟨q, (j * 136), none⟩)) SD rfl (by kernel_rfl) (by kernel_rfl) (by kernel_rfl) (fun _ _ _ h => h) (by rfl) (by intro x hx; have y0 := hx; (first | exact exec_arr 40 (.tmp 92) q (j * 136) XX _ rfl hx.1 Try.underlying40 rfl hsx | go_simp); try (intro h; omega)) ?_
                try simp only [Act.put, List.setIfInBounds_toArray, List.set_cons_zero, List.set_cons_succ]
                refine anyH_take 20 109 (.int .i64 gj) SD rfl (by kernel_rfl) (by kernel_rfl) (by kernel_rfl) (fun _ _ _ h => h) (by rfl) (by intro x hx; have y0 := hx; (first | exact exec_arr 40 (.tmp 92) q (j * 136) XX _ rfl hx.1 Try.underlying40 rfl hsx | go_simp); try (intro h; omega)) ?_
                try simp only [Act.put, List.setIfInBounds_toArray, List.set_cons_zero, List.set_cons_succ]
                refine anyH_take 21 110 (.int .i64 (gj.tmod 2)) SD rfl (by kernel_rfl) (by kernel_rfl) (by kernel_rfl) (fun _ _ _ h => h) (by rfl) (by intro x hx; have y0 := hx; (first | exact exec_arr 40 (.tmp 92) q (j * 136) XX _ rfl hx.1 Try.underlying40 rfl hsx | go_simp); try (intro h; omega)) ?_
                try simp only [Act.put, List.setIfInBounds_toArray, List.set_cons_zero, List.set_cons_succ]
                refine anyH_take 22 111 (.slice (some ⟨q, 0, none⟩) NL cD) SD rfl (by kernel_rfl) (by kernel_rfl) (by kernel_rfl) (fun _ _ _ h => h) (by rfl) (by intro x hx; have y0 := hx; (first | exact exec_arr 40 (.tmp 92) q (j * 136) XX _ rfl hx.1 Try.underlying40 rfl hsx | go_simp); try (intro h; omega)) ?_
                try simp only [Act.put, List.setIfInBounds_toArray, List.set_cons_zero, List.set_cons_succ]
                refine anyH_take 23 112 (.pointer (some ⟨q, 0, none⟩)) SD rfl (by kernel_rfl) (by kernel_rfl) (by kernel_rfl) (fun _ _ _ h => h) (by rfl) (by intro x hx; have y0 := hx; (first | exact exec_arr 40 (.tmp 92) q (j * 136) XX _ rfl hx.1 Try.underlying40 rfl hsx | go_simp); try (intro h; omega)) ?_
                try simp only [Act.put, List.setIfInBounds_toArray, List.set_cons_zero, List.set_cons_succ]
                refine anyH_take 24 113 (.pointer (some ⟨q, 0, none⟩)) SD rfl (by kernel_rfl) (by kernel_rfl) (by kernel_rfl) (fun _ _ _ h => h) (by rfl) (by intro x hx; have y0 := hx; (first | exact exec_arr 40 (.tmp 92) q (j * 136) XX _ rfl hx.1 Try.underlying40 rfl hsx | go_simp); try (intro h; omega)) ?_
                try simp only [Act.put, List.setIfInBounds_toArray, List.set_cons_zero, List.set_cons_succ]
                refine anyH_take 25 114 (.int .i64 gz) SD rfl (by kernel_rfl) (by kernel_rfl) (by kernel_rfl) (fun _ _ _ h => h) (by rfl) (by intro x hx; have y0 := hx; (first | exact exec_arr 40 (.tmp 92) q (j * 136) XX _ rfl hx.1 Try.underlying40 rfl hsx | go_simp); try (intro h; omega)) ?_
                try simp only [Act.put, List.setIfInBounds_toArray, List.set_cons_zero, List.set_cons_succ]
                refine anyH_take 26 115 (.int .i64 (gz.tmod 2)) SD rfl (by kernel_rfl) (by kernel_rfl) (by kernel_rfl) (fun _ _ _ h => h) (by rfl) (by intro x hx; have y0 := hx; (first | exact exec_arr 40 (.tmp 92) q (j * 136) XX _ rfl hx.1 Try.underlying40 rfl hsx | go_simp); try (intro h; omega)) ?_
                try simp only [Act.put, List.setIfInBounds_toArray, List.set_cons_zero, List.set_cons_succ]
                refine anyH_take 27 116 (.bool false) SD rfl (by kernel_rfl) (by kernel_rfl) (by kernel_rfl) (fun _ _ _ h => h) (by rfl) (by intro x hx; have y0 := hx; (first | exact exec_arr 40 (.tmp 92) q (j * 136) XX _ rfl hx.1 Try.underlying40 rfl hsx | go_simp); try (intro h; omega)) ?_
                try simp only [Act.put, List.setIfInBounds_toArray, List.set_cons_zero, List.set_cons_succ]
                refine anyH_take 28 117 (.bool false) SD rfl (by kernel_rfl) (by kernel_rfl) (by kernel_rfl) (fun _ _ _ h => h) (by rfl) (by intro x hx; have y0 := hx; (first | exact exec_arr 40 (.tmp 92) q (j * 136) XX _ rfl hx.1 Try.underlying40 rfl hsx | go_simp); try (intro h; omega)) ?_
                try simp only [Act.put, List.setIfInBounds_toArray, List.set_cons_zero, List.set_cons_succ]
                refine anyH_take 29 118 (.bool false) SD rfl (by kernel_rfl) (by kernel_rfl) (by kernel_rfl) (fun _ _ _ h => h) (by rfl) (by intro x hx; have y0 := hx; (first | exact exec_arr 40 (.tmp 92) q (j * 136) XX _ rfl hx.1 Try.underlying40 rfl hsx | go_simp); try (intro h; omega)) ?_
                try simp only [Act.put, List.setIfInBounds_toArray, List.set_cons_zero, List.set_cons_succ]
                refine wpAnyH_done (by kernel_rfl) ?_ _
                go_wp2
                exact ⟨⟨j + 1, by omega, by go_num, BZ.out.trans (D1.out.mono BZ.out.size)⟩, by simp [intOf]; omega⟩
            · have hjg : NL ≤ j := by omega
              have hjgi : ¬ (j : Int) < (NL : Int) := by omega
              clear hjl
              have GE : Hid (wr.heap[bx]? = some (.cells A 44 (0, 0))) := (HBJ.out.block _ (lt_of_block GD.out)).trans GD.out
              have c0E := (HAK.out.at_ _ _ _ GE.out).1
              rw [k7] at c0E
              have HLE : Hid (Below w0.heap.size w0 wr) := VD.out.low.trans (HBJ.out.mono VD.out.low.size)
              go_wp2_with (go_at_call 8; refine (HWK.out _).mono ?_; rintro e7 w7 ⟨rfl, hb7⟩; have B7 := Lib.hid ((HB0.out.trans (HLE.out.mono HB0.out.size)).trans (hb7.mono (HB0.out.trans (HLE.out.mono HB0.out.size)).size)); clear hb7)
              go_ret
              exact ⟨rfl, B7.out⟩
      · have f7 : (o.k == 7) = false := by simpa using k7
        by_cases k6 : o.k = 6
        · have f6 : (o.k == 6) = true := by simpa using k6
          have f0 : (o.k == 0) = false := by rw [k6]; rfl
          by_cases hNI : 0 < NI
          · as_aux_lemma =>
            go_upto_region 13 with (fail)
            obtain ⟨b8, fi, hp8, hkb8, hfi⟩ := I4.out.fn hNI
            have HB8 : Hid (K ≤ b8) := hkb8
            subst hp8
            have HFI := Lib.hid hfi
            have HTMP : Hid (∀ (y : World) (jj : Nat), Kp K w4 y → Vt w0 K y d g g2 m S Nm.St.none → jj < NI → Calls Try.prog 11 #[.pointer (some ⟨d, 0, none⟩), .int .i64 o.n, fi jj] y (VtTm w0 K d g g2 m S Nm.St.none y)) := fun y jj hk hv hj => by
              obtain ⟨p, c, Lx, e, hl, hb⟩ := ((hfi jj hj).2.kp hk).bs
              rw [e]
              refine (vt_tamper o.n Lx p Lx.length c rfl (by omega) hv hb).mono ?_
              rintro r z ⟨rfl, h1, h2⟩
              exact ⟨_, _, rfl, Rg.tpM_le m o.n Lx, h1, h2⟩
            have HPK : Hid (∀ y, Calls Try.prog 12 #[.int .i64 o.m, .int .i64 (NI : Int)] y fun r w' => w' = y ∧ ∃ j : Nat, (j : Int) < (NI : Int) ∧ r = .returned (.int .i64 j)) := fun y => pick_any o.m (NI : Int) (by omega) (by have := HT.out.2.2.2; omega) y
            refine wp_region_any (by kernel_rfl) ?_
            change wpAny _ _ _ _ _ _ _ (World.drew _)
            have VZ : Hid (Vt w0 K w4.drew d g g2 m S Nm.St.none) := V4.out.old (Below.refl _ w4).drew
            have PZ : Hid (Kp K w4 w4.drew) := Kp.of_below (Below.refl _ w4).drew
            have SD : w4.drew.cell? ⟨bx, 1, none⟩ = some (.int .i64 o.n) ∧ w4.drew.cell? ⟨bx, 2, none⟩ = some (.int .i64 o.m) ∧ ∀ j, j < NI → w4.drew.cell? ⟨b8, j, none⟩ = some (fi j) := ⟨c1, c2', fun j hj => (hfi j hj).1⟩
            obtain ⟨z, hz'⟩ : ∃ x, x = w4.drew := ⟨_, rfl⟩
            rw [← hz'] at VZ PZ SD ⊢
            clear hz' hfi
            refine wpAny_of_held (S := fun y => y.cell? ⟨bx, 1, none⟩ = some (.int .i64 o.n) ∧ y.cell? ⟨bx, 2, none⟩ = some (.int .i64 o.m) ∧ ∀ j, j < NI → y.cell? ⟨b8, j, none⟩ = some (fi j)) _ _ _ _ ?_
            refine anyH_take 0 43 (.pointer (some ⟨d, 0, none⟩)) SD rfl (by kernel_rfl) (by kernel_rfl) (by kernel_rfl) (fun _ _ _ h => h) (by rfl) (by intro x hx; obtain ⟨y0, y1, y2⟩ := hx; (first | (have y3 := y2 jj hjj; go_simp) | go_simp); try (intro h; omega)) ?_
            try simp only [Act.put, List.setIfInBounds_toArray, List.set_cons_zero, List.set_cons_succ]
            refine anyH_take 1 44 (.pointer (some ⟨bx, 1, none⟩)) SD rfl (by kernel_rfl) (by kernel_rfl) (by kernel_rfl) (fun _ _ _ h => h) (by rfl) (by intro x hx; obtain ⟨y0, y1, y2⟩ := hx; (first | (have y3 := y2 jj hjj; go_simp) | go_simp); try (intro h; omega)) ?_
            try simp only [Act.put, List.setIfInBounds_toArray, List.set_cons_zero, List.set_cons_succ]
            refine anyH_take 2 45 (.int .i64 o.n) SD rfl (by kernel_rfl) (by kernel_rfl) (by kernel_rfl) (fun _ _ _ h => h) (by rfl) (by intro x hx; obtain ⟨y0, y1, y2⟩ := hx; (first | (have y3 := y2 jj hjj; go_simp) | go_simp); try (intro h; omega)) ?_
            try simp only [Act.put, List.setIfInBounds_toArray, List.set_cons_zero, List.set_cons_succ]
            refine anyH_take 3 46 (.slice (some ⟨b8, 0, none⟩) NI c8) SD rfl (by kernel_rfl) (by kernel_rfl) (by kernel_rfl) (fun _ _ _ h => h) (by rfl) (by intro x hx; obtain ⟨y0, y1, y2⟩ := hx; (first | (have y3 := y2 jj hjj; go_simp) | go_simp); try (intro h; omega)) ?_
            try simp only [Act.put, List.setIfInBounds_toArray, List.set_cons_zero, List.set_cons_succ]
            refine anyH_take 4 47 (.pointer (some ⟨bx, 2, none⟩)) SD rfl (by kernel_rfl) (by kernel_rfl) (by kernel_rfl) (fun _ _ _ h => h) (by rfl) (by intro x hx; obtain ⟨y0, y1, y2⟩ := hx; (first | (have y3 := y2 jj hjj; go_simp) | go_simp); try (intro h; omega)) ?_
            try simp only [Act.put, List.setIfInBounds_toArray, List.set_cons_zero, List.set_cons_succ]
            refine anyH_take 5 48 (.int .i64 o.m) SD rfl (by kernel_rfl) (by kernel_rfl) (by kernel_rfl) (fun _ _ _ h => h) (by rfl) (by intro x hx; obtain ⟨y0, y1, y2⟩ := hx; (first | (have y3 := y2 jj hjj; go_simp) | go_simp); try (intro h; omega)) ?_
            try simp only [Act.put, List.setIfInBounds_toArray, List.set_cons_zero, List.set_cons_succ]
            refine anyH_take 6 49 (.slice (some ⟨b8, 0, none⟩) NI c8) SD rfl (by kernel_rfl) (by kernel_rfl) (by kernel_rfl) (fun _ _ _ h => h) (by rfl) (by intro x hx; obtain ⟨y0, y1, y2⟩ := hx; (first | (have y3 := y2 jj hjj; go_simp) | go_simp); try (intro h; omega)) ?_
            try simp only [Act.put, List.setIfInBounds_toArray, List.set_cons_zero, List.set_cons_succ]
            refine anyH_take 7 50 (.int .i64 (NI : Int)) SD rfl (by kernel_rfl) (by kernel_rfl) (by kernel_rfl) (fun _ _ _ h => h) (by rfl) (by intro x hx; obtain ⟨y0, y1, y2⟩ := hx; (first | (have y3 := y2 jj hjj; go_simp) | go_simp); try (intro h; omega)) ?_
            try simp only [Act.put, List.setIfInBounds_toArray, List.set_cons_zero, List.set_cons_succ]
            refine anyH_one 8 (by kernel_rfl) ?_
            refine wpOp_step rfl (fun Kc hKc => ?_)
            go_simp
            refine (HPK.out _).mono ?_
            rintro e41 z41 ⟨rfl, jj, hjlt, rfl⟩
            have hjj : jj < NI := by omega
            have hj0 : (0 : Int) ≤ (jj : Int) := by omega
            dsimp only
            refine hKc _ _ ⟨SD, ?_⟩
            clear hKc Kc
            try simp only [Act.put, List.setIfInBounds_toArray, List.set_cons_zero, List.set_cons_succ]
            refine anyH_take 9 52 (.pointer (some ⟨b8, jj, none⟩)) SD rfl (by kernel_rfl) (by kernel_rfl) (by kernel_rfl) (fun _ _ _ h => h) (by rfl) (by intro x hx; obtain ⟨y0, y1, y2⟩ := hx; (first | (have y3 := y2 jj hjj; go_simp) | go_simp); try (intro h; omega)) ?_
            try simp only [Act.put, List.setIfInBounds_toArray, List.set_cons_zero, List.set_cons_succ]
            refine anyH_take 10 53 (fi jj) SD rfl (by kernel_rfl) (by kernel_rfl) (by kernel_rfl) (fun _ _ _ h => h) (by rfl) (by intro x hx; obtain ⟨y0, y1, y2⟩ := hx; (first | (have y3 := y2 jj hjj; go_simp) | go_simp); try (intro h; omega)) ?_
            try simp only [Act.put, List.setIfInBounds_toArray, List.set_cons_zero, List.set_cons_succ]
            refine anyH_one 11 (by kernel_rfl) ?_
            refine wpOp_step rfl (fun Kc hKc => ?_)
            go_simp
            refine (HTMP.out _ jj PZ.out VZ.out hjj).mono ?_
            rintro e42 wA ⟨rz, mA, rfl, hMA, hVT, hPA⟩
            have HMA := Lib.hid hMA
            have VT := Lib.hid hVT
            have PA := Lib.hid (PZ.out.trans hPA)
            clear hMA hVT hPA
            dsimp only
            have SD2 : wA.cell? ⟨bx, 1, none⟩ = some (.int .i64 o.n) ∧ wA.cell? ⟨bx, 2, none⟩ = some (.int .i64 o.m) ∧ ∀ j, j < NI → wA.cell? ⟨b8, j, none⟩ = some (fi j) := by
              have hg := (PA.out.block bx HKB.out (lt_of_block G4.out)).trans G4.out
              obtain ⟨_, x1, x2, _, _, _⟩ := HAK.out.at_ _ _ _ hg
              refine ⟨x1, x2, fun j hj => ?_⟩
              have hb := (HFI.out j hj).1
              exact (World.cell?_of_block (a := ⟨b8, j, none⟩) (PA.out.block b8 HB8.out (World.block_lt_of_cell? _ _ hb))).trans hb
            refine hKc _ _ ⟨SD2, ?_⟩
            clear hKc Kc SD
            have SD := SD2
            clear SD2
            try simp only [Act.put, List.setIfInBounds_toArray, List.set_cons_zero, List.set_cons_succ]
            refine wpAnyH_done (by kernel_rfl) ?_ _
            have GA : Hid (wA.heap[bx]? = some (.cells A 44 (0, 0))) := (PA.out.block bx HKB.out (lt_of_block G4.out)).trans G4.out
            have c0A := (HAK.out.at_ _ _ _ GA.out).1
            go_upto_region 16 with (fail)
            clear c0A
            obtain ⟨S2A, hS2A⟩ : ∃ S2A, S2A = Nm.St.none := ⟨_, rfl⟩
            have VA : Hid (Vt w0 K wA d g g2 mA S S2A) := by rw [hS2A]; exact VT.out
            have OA : Hid (RsO K wA u7 T) := own_kp O4.out PA.out (Nat.le_refl _)
            have IA : Hid (Im K wA (.slice (some ⟨b8, 0, none⟩) NI c8) NI) := I4.out.kp PA.out
            have HSA : Hid ((o.k == 7) = false → S2A = Nm.St.none) := fun _ => hS2A
            obtain ⟨p8, hp8⟩ : ∃ p8 : Option Addr, p8 = some ⟨b8, 0, none⟩ := ⟨_, rfl⟩
            rw [← hp8] at IA ⊢
            clear V4 G4 O4 I4 VT PA hS2A VZ PZ HFI HTMP HPK hp8
            have HRUN : Hid (∀ y, Vt w0 K y d g g2 mA S S2A → Calls Try.prog 14 #[.pointer (some ⟨d, 0, none⟩), .iface 29 (.pointer (some ⟨g, 0, none⟩)), .agg A] y (RunSay w0 K d g g2 o mA S S2A y)) := fun y hy => run_any o A pd cd pf cf HAK.out HOP.out y hy ⟨HDL.out, by have h1 := HMA.out.1; have h2 := HC.out.1; omega, by have h2 := HC.out.2.2.1; omega, fun j => by have h1 := HMA.out.2.1 j; have h2 := HC.out.2.1 j; omega⟩
            go_upto_region 17 with (first
              | ((with_reducible refine row_load _ _ _ _ _ _ _ ?_ GA.out Try.underlying44 ?_ hsa ?_); (exact rfl); (exact rfl))
              | (go_at_call 14; refine (HRUN.out _ VA.out).mono ?_; rintro e6 wB ⟨er6, mB, rfl, VB, HMB, HKC⟩))
            have GB : Hid (wB.heap[bx]? = some (.cells A 44 (0, 0))) := (HKC.out.block bx HKB.out (lt_of_block GA.out)).trans GA.out
            have OB : Hid (RsO K wB u7 T) := own_kp OA.out HKC.out (Nat.le_refl _)
            have IB : Hid (Im K wB (.slice p8 NI c8) NI) := IA.out.kp HKC.out
            have HMC : Hid (mB.wr ≤ 10 * k + 2 ∧ (∀ j, mB.rd j ≤ 10 * k + 2) ∧ mB.n = 4) := ⟨by have h1 := HMA.out.1; have h2 := HC.out.1; have h3 := HMB.out.1; omega, fun j => by have h1 := HMA.out.2.1 j; have h2 := HC.out.2.1 j; have h3 := HMB.out.2.1 j; omega, by rw [HMB.out.2.2, HMA.out.2.2]; exact HC.out.2.2.2⟩
            have HSC : Hid ((Rg.rS S o).ss.length ≤ k + 1) := by
              have h2 := HC.out.2.2.1
              show _ ≤ _
              unfold Rg.rS
              split
              · exact Nat.le_trans (Rg.vS_le S o.r o.n) (by omega)
              · omega
            obtain ⟨d0, d1, d2, rB, d4, d5⟩ := HAK.out.at_ _ _ _ GB.out
            have HRB := Lib.hid rB
            clear VA GA OA IA HMA HMB HKC HRUN HCW rB d1 d2 d4 d5 c0 c1 c2' c4 c5 HC
            have HTC : Hid (Rg.Told T (Rg.rS S o) ∧ (∀ r ∈ T, Rg.Ok r) ∧ T.length ≤ k + 1 ∧ NI ≤ 2 * k) := by
              refine ⟨?_, HT.out.2.1, by have h1 := HT.out.2.2.1; omega, HT.out.2.2.2⟩
              unfold Rg.rS
              rw [if_neg (by simpa using f0)]
              exact HT.out.1
            go_upto_region 19 with (fail)
            obtain ⟨wC, TC, v7C, hwC, hTC, hv7⟩ : ∃ wC TC v7C, wC = wB ∧ TC = T ∧ v7C = u7 := ⟨_, _, _, rfl, rfl, rfl⟩
            rw [← hwC, ← hv7]
            rw [← hwC] at VB GB OB IB
            rw [← hTC] at OB HTC
            rw [← hv7] at OB
            have VC := VB
            have GC := GB
            have OC := OB
            have IC := IB
            clear hwC hTC hv7 VB GB OB IB HRB
            have HBY : Hid (∀ i, i < mB.n → Sha.Byt (Dk.peek mB i)) := VC.out.vs.byt
            have HIN : Hid (∀ x ∈ Rg.vA mB (Rg.rS S o), x ∈ TC) := Rg.vA_told HBY.out HTC.out.1 HTC.out.2.1
            have HPA := Lib.hid (Rg.vA_par HBY.out (Rg.rS S o))
            have HRDC : Hid (∀ j, mB.rd j ≤ 999999990) := fun j => by have h1 := HMC.out.2.1 j; omega
            have HALL := Lib.hid (vt_all VC.out HRDC.out)
            obtain ⟨mD, hmD⟩ : ∃ mD, Hid (Rg.alM mB 2 = mD) := ⟨_, rfl⟩
            have HMD : Hid (mD.wr ≤ 10 * k + 3 ∧ (∀ j, mD.rd j ≤ 10 * k + 5) ∧ mD.n = 4) := by
              rw [← hmD.out]
              obtain ⟨h1, h2, h3⟩ := HMC.out
              have e1 := Rg.rdM_le mB 1
              have e2 := Rg.rdM_le (Dk.rdM mB 1) 2
              have e : Rg.alM mB 2 = Dk.rdM (Dk.rdM mB 1) 2 := rfl
              have w1 := (Rg.rdM_same mB 1).2.2.2.1
              have w2 := (Rg.rdM_same (Dk.rdM mB 1) 2).2.2.2.1
              rw [e]
              refine ⟨by omega, fun j => ?_, by rw [e2.2.2, e1.2.2]; exact h3⟩
              have a1 := e1.2.1 j
              have a2 := e2.2.1 j
              have a3 := h2 j
              omega
            unfold VtAll at HALL
            rw [hmD.out] at HALL
            obtain ⟨LA, hLA⟩ : ∃ LA, Rg.vA mB (Rg.rS S o) = LA := ⟨_, rfl⟩
            rw [hLA] at HALL HPA HIN
            obtain ⟨S3, hS3⟩ : ∃ S3, Rg.rS S o = S3 := ⟨_, rfl⟩
            rw [hS3] at HALL HTC HSC
            clear hLA hS3 VC HBY HRDC HMC hmD HT
            go_upto_region 20 with (go_at_call 15; refine HALL.out.mono ?_; rintro e7 wD ⟨v7D, rfl, HOD, HOKD, VD, HKD⟩)
            have GD : Hid (wD.heap[bx]? = some (.cells A 44 (0, 0))) := (HKD.out.block bx HKB.out (lt_of_block GC.out)).trans GC.out
            have OD : Hid (RsO K wD v7C TC) := own_kp OC.out HKD.out (Nat.le_refl _)
            have ID : Hid (Im K wD (.slice p8 NI c8) NI) := IC.out.kp HKD.out
            obtain ⟨pD, cD, hvD, hrD⟩ := HOD.out.es HOKD.out
            subst hvD
            have HRD := Lib.hid hrD
            have HQ0 : Hid (0 < LA.length → ∃ q, pD = some ⟨q, 0, none⟩) := fun h0 => own_zero2 h0 HOD.out hrD
            obtain ⟨pT, cT, hvT, hrT⟩ := OD.out.es HTC.out.2.1
            subst hvT
            have HRT := Lib.hid hrT
            obtain ⟨NT2, hNT2⟩ : ∃ NT2, TC.length = NT2 := ⟨_, rfl⟩
            rw [hNT2] at OD ⊢
            have HNT2 := Lib.hid hNT2
            obtain ⟨NL, hNL⟩ : ∃ NL, LA.length = NL := ⟨_, rfl⟩
            rw [hNL] at HPA HQ0 ⊢
            have HNL := Lib.hid hNL
            have HHAS : Hid (∀ y j, Below wD.heap.size wD y → j < NL → Calls Try.prog 16 #[.slice pT NT2 cT, .agg (RAr (LA.getD j Rg.zero))] y (BlSay true y)) := fun y j hy hj => by
              have hm : LA.getD j Rg.zero ∈ LA := by rw [List.getD_eq_getElem?_getD, List.getElem?_eq_getElem (by rw [HNL.out]; exact hj)]; exact List.getElem_mem _
              have h := rhas_any TC (LA.getD j Rg.zero) (HOKD.out _ hm) pT NT2 cT HNT2.out (by have h1 := HTC.out.2.2.1; rw [HNT2.out] at h1; omega) y (HRT.out.old hy)
              rw [decide_eq_true (HIN.out _ hm)] at h
              exact h
            clear hrD hrT hNT2 hNL HOD HKD HALL GC OC IC
            go_wp2
            go_loopw [12] (fun v12 wr2 => ∃ j : Nat, j ≤ NL ∧ v12 = .int .i64 (j : Int) ∧ Hid (Below wD.heap.size wD wr2)) (fun v12 _ => NL - (intOf v12).toNat)
            case atStart => exact ⟨0, by omega, rfl, Below.refl _ _⟩
            case round =>
              obtain ⟨j, hj, rfl, HBJ⟩ := hrel
              by_cases hjl : j < NL
              · obtain ⟨q, hq⟩ := HQ0.out (by omega)
                subst hq
                have hji : (j : Int) < (NL : Int) := by omega
                have hjn : 0 ≤ (j : Int) := by omega
                have hj00 : (0 : Int) < (NL : Int) := by omega
                have HKY : Hid (∀ y, Below wD.heap.size wD y → y.rangeAt q (j * 136) (RAr (LA.getD j Rg.zero)).toList ∧ y.cell? ⟨q, j * 136, none⟩ = some (.int .i64 (LA.getD j Rg.zero).gen) ∧ y.cell? ⟨q, 0, none⟩ = some (.int .i64 (LA.getD 0 Rg.zero).gen) ∧ y.cell? ⟨bx, 0, none⟩ = some (.int .i64 o.k)) := fun y hy => by
                  have a1 := (HRD.out.old hy).rng (i := j) (by rw [HNL.out]; exact hjl)
                  have a2 := (HRD.out.old hy).rng (i := 0) (by rw [HNL.out]; omega)
                  rw [Nat.zero_add] at a1
                  rw [Nat.zero_add, Nat.zero_mul] at a2
                  exact ⟨a1, rec_cells a1, rec_cells a2, (HAK.out.at_ _ _ _ ((hy.block _ (lt_of_block GD.out)).trans GD.out)).1⟩
                have HPJ : Hid (0 < j → (LA.getD j Rg.zero).gen.tmod 2 ≠ (LA.getD 0 Rg.zero).gen.tmod 2) := fun h0 => HPA.out.2 j h0 hjl
                have HHJ : Hid (∀ y, Below wD.heap.size wD y → Calls Try.prog 16 #[.slice pT NT2 cT, .agg (RAr (LA.getD j Rg.zero))] y (BlSay true y)) := fun y hy => HHAS.out y j hy hjl
                have hXS : (RAr (LA.getD j Rg.zero)).size = 136 := rar_size (HRD.out.getD j)
                have hsx := row_size Try.sizeRec (Lib.hid hXS)
                generalize RAr (LA.getD j Rg.zero) = XX at *
                generalize (LA.getD j Rg.zero).gen = gj at *
                generalize (LA.getD 0 Rg.zero).gen = gz at *
                generalize o.k = kk at *
                clear hXS hj
                have hNL2 : NL ≤ 2 := HPA.out.1
                go_upto_region 23 with (fail)
                have BZ := Lib.hid HBJ.out.drew
                refine wp_region_any (by kernel_rfl) ?_
                change wpAny _ _ _ _ _ _ _ (World.drew _)
                obtain ⟨z, hz'⟩ : ∃ x, x = wr.drew := ⟨_, rfl⟩
                rw [← hz'] at BZ ⊢
                clear hz'
                have KZ : Hid (∀ y, Below z.heap.size z y → y.rangeAt q (j * 136) XX.toList ∧ y.cell? ⟨q, j * 136, none⟩ = some (.int .i64 gj) ∧ y.cell? ⟨q, 0, none⟩ = some (.int .i64 gz) ∧ y.cell? ⟨bx, 0, none⟩ = some (.int .i64 kk)) := fun y hy => HKY.out y (BZ.out.trans (hy.mono BZ.out.size))
                have D0 : Hid (Below z.heap.size z z) := Below.refl _ _
                by_cases hjz : j = 0
                · have hjp : ¬ (j : Int) > 0 := by omega
                  refine wpAny_of_held (S := fun y => y.rangeAt q (j * 136) XX.toList ∧ y.cell? ⟨q, j * 136, none⟩ = some (.int .i64 gj) ∧ y.cell? ⟨q, 0, none⟩ = some (.int .i64 gz) ∧ y.cell? ⟨bx, 0, none⟩ = some (.int .i64 kk)) _ _ _ _ ?_
                  have SD := KZ.out _ D0.out
                  refine anyH_take 0 89 (.slice pT NT2 cT) SD rfl (by kernel_rfl) (by kernel_rfl) (by kernel_rfl) (fun _ _ _ h => h) (by rfl) (by intro x hx; have y0 := hx; (first | exact exec_arr 40 (.tmp 92) q (j * 136) XX _ rfl hx.1 Try.underlying40 rfl hsx | go_simp); try (intro h; omega)) ?_
                  try simp only [Act.put, List.setIfInBounds_toArray, List.set_cons_zero, List.set_cons_succ]
                  refine anyH_take 1 90 (.slice (some ⟨q, 0, none⟩) NL cD) SD rfl (by kernel_rfl) (by kernel_rfl) (by kernel_rfl) (fun _ _ _ h => h) (by rfl) (by intro x hx; have y0 := hx; (first | exact exec_arr 40 (.tmp 92) q (j * 136) XX _ rfl hx.1 Try.underlying40 rfl hsx | go_simp); try (intro h; omega)) ?_
                  try simp only [Act.put, List.setIfInBounds_toArray, List.set_cons_zero, List.set_cons_succ]
                  refine anyH_take 2 91 (.int .i64 (j : Int)) SD rfl (by kernel_rfl) (by kernel_rfl) (by kernel_rfl) (fun _ _ _ h => h) (by rfl) (by intro x hx; have y0 := hx; (first | exact exec_arr 40 (.tmp 92) q (j * 136) XX _ rfl hx.1 Try.underlying40 rfl hsx | go_simp); try (intro h; omega)) ?_
                  try simp only [Act.put, List.setIfInBounds_toArray, List.set_cons_zero, List.set_cons_succ]
                  refine anyH_take 3 92 (.pointer (some ⟨q, (j * 136), none⟩)) SD rfl (by kernel_rfl) (by kernel_rfl) (by kernel_rfl) (fun _ _ _ h => h) (by rfl) (by intro x hx; have y0 := hx; (first | exact exec_arr 40 (.tmp 92) q (j * 136) XX _ rfl hx.1 Try.underlying40 rfl hsx | go_simp); try (intro h; omega)) ?_
                  try simp only [Act.put, List.setIfInBounds_toArray, List.set_cons_zero, List.set_cons_succ]
                  refine anyH_take 4 93 (.agg XX) SD rfl (by kernel_rfl) (by kernel_rfl) (by kernel_rfl) (fun _ _ _ h => h) (by rfl) (by intro x hx; have y0 := hx; (first | exact exec_arr 40 (.tmp 92) q (j * 136) XX _ rfl hx.1 Try.underlying40 rfl hsx | go_simp); try (intro h; omega)) ?_
                  try simp only [Act.put, List.setIfInBounds_toArray, List.set_cons_zero, List.set_cons_succ]
                  refine anyH_one 5 (by kernel_rfl) ?_
                  refine wpOp_step rfl (fun Kc hKc => ?_)
                  go_simp
                  refine (HHJ.out _ (BZ.out.trans (D0.out.mono BZ.out.size))).mono ?_
                  rintro e21 z1 ⟨rfl, hbz1⟩
                  have D1 := Lib.hid (D0.out.trans (hbz1.mono D0.out.size))
                  clear hbz1
                  dsimp only
                  refine hKc _ _ ⟨KZ.out _ D1.out, ?_⟩
                  clear hKc Kc
                  try simp only [Act.put, List.setIfInBounds_toArray, List.set_cons_zero, List.set_cons_succ]
                  clear SD
                  have SD := KZ.out _ D1.out
                  refine anyH_take 6 95 (.bool false) SD rfl (by kernel_rfl) (by kernel_rfl) (by kernel_rfl) (fun _ _ _ h => h) (by rfl) (by intro x hx; have y0 := hx; (first | exact exec_arr 40 (.tmp 92) q (j * 136) XX _ rfl hx.1 Try.underlying40 rfl hsx | go_simp); try (intro h; omega)) ?_
                  try simp only [Act.put, List.setIfInBounds_toArray, List.set_cons_zero, List.set_cons_succ]
                  refine anyH_take 7 96 (.bool false) SD rfl (by kernel_rfl) (by kernel_rfl) (by kernel_rfl) (fun _ _ _ h => h) (by rfl) (by intro x hx; have y0 := hx; (first | exact exec_arr 40 (.tmp 92) q (j * 136) XX _ rfl hx.1 Try.underlying40 rfl hsx | go_simp); try (intro h; omega)) ?_
                  try simp only [Act.put, List.setIfInBounds_toArray, List.set_cons_zero, List.set_cons_succ]
                  refine anyH_skip 8 97 SD rfl (by kernel_rfl) (by kernel_rfl) (by kernel_rfl) (fun _ _ _ h => h) (by rfl) ?_
                  try simp only [Act.put, List.setIfInBounds_toArray, List.set_cons_zero, List.set_cons_succ]
                  refine anyH_skip 9 98 SD rfl (by kernel_rfl) (by kernel_rfl) (by kernel_rfl) (fun _ _ _ h => h) (by rfl) ?_
                  try simp only [Act.put, List.setIfInBounds_toArray, List.set_cons_zero, List.set_cons_succ]
                  refine anyH_skip 10 99 SD rfl (by kernel_rfl) (by kernel_rfl) (by kernel_rfl) (fun _ _ _ h => h) (by rfl) ?_
                  try simp only [Act.put, List.setIfInBounds_toArray, List.set_cons_zero, List.set_cons_succ]
                  refine anyH_take 11 100 (.bool false) SD rfl (by kernel_rfl) (by kernel_rfl) (by kernel_rfl) (fun _ _ _ h => h) (by rfl) (by intro x hx; have y0 := hx; (first | exact exec_arr 40 (.tmp 92) q (j * 136) XX _ rfl hx.1 Try.underlying40 rfl hsx | go_simp); try (intro h; omega)) ?_
                  try simp only [Act.put, List.setIfInBounds_toArray, List.set_cons_zero, List.set_cons_succ]
                  refine anyH_take 12 101 (.bool false) SD rfl (by kernel_rfl) (by kernel_rfl) (by kernel_rfl) (fun _ _ _ h => h) (by rfl) (by intro x hx; have y0 := hx; (first | exact exec_arr 40 (.tmp 92) q (j * 136) XX _ rfl hx.1 Try.underlying40 rfl hsx | go_simp); try (intro h; omega)) ?_
                  try simp only [Act.put, List.setIfInBounds_toArray, List.set_cons_zero, List.set_cons_succ]
                  refine anyH_take 13 102 (.int .i64 (j : Int)) SD rfl (by kernel_rfl) (by kernel_rfl) (by kernel_rfl) (fun _ _ _ h => h) (by rfl) (by intro x hx; have y0 := hx; (first | exact exec_arr 40 (.tmp 92) q (j * 136) XX _ rfl hx.1 Try.underlying40 rfl hsx | go_simp); try (intro h; omega)) ?_
                  try simp only [Act.put, List.setIfInBounds_toArray, List.set_cons_zero, List.set_cons_succ]
                  refine anyH_take 14 103 (.bool false) SD rfl (by kernel_rfl) (by kernel_rfl) (by kernel_rfl) (fun _ _ _ h => h) (by rfl) (by intro x hx; have y0 := hx; (first | exact exec_arr 40 (.tmp 92) q (j * 136) XX _ rfl hx.1 Try.underlying40 rfl hsx | go_simp); try (intro h; omega)) ?_
                  try simp only [Act.put, List.setIfInBounds_toArray, List.set_cons_zero, List.set_cons_succ]
                  refine anyH_take 15 104 (.bool false) SD rfl (by kernel_rfl) (by kernel_rfl) (by kernel_rfl) (fun _ _ _ h => h) (by rfl) (by intro x hx; have y0 := hx; (first | exact exec_arr 40 (.tmp 92) q (j * 136) XX _ rfl hx.1 Try.underlying40 rfl hsx | go_simp); try (intro h; omega)) ?_
                  try simp only [Act.put, List.setIfInBounds_toArray, List.set_cons_zero, List.set_cons_succ]
                  refine anyH_skip 16 105 SD rfl (by kernel_rfl) (by kernel_rfl) (by kernel_rfl) (fun _ _ _ h => h) (by rfl) ?_
                  try simp only [Act.put, List.setIfInBounds_toArray, List.set_cons_zero, List.set_cons_succ]
                  refine anyH_skip 17 106 SD rfl (by kernel_rfl) (by kernel_rfl) (by kernel_rfl) (fun _ _ _ h => h) (by rfl) ?_
                  try simp only [Act.put, List.setIfInBounds_toArray, List.set_cons_zero, List.set_cons_succ]
                  refine anyH_skip 18 107 SD rfl (by kernel_rfl) (by kernel_rfl) (by kernel_rfl) (fun _ _ _ h => h) (by rfl) ?_
                  try simp only [Act.put, List.setIfInBounds_toArray, List.set_cons_zero, List.set_cons_succ]
                  refine anyH_skip 19 108 SD rfl (by kernel_rfl) (by kernel_rfl) (by kernel_rfl) (fun _ _ _ h => h) (by rfl) ?_
                  try simp only [Act.put, List.setIfInBounds_toArray, List.set_cons_zero, List.set_cons_succ]
                  refine anyH_skip 20 109 SD rfl (by kernel_rfl) (by kernel_rfl) (by kernel_rfl) (fun _ _ _ h => h) (by rfl) ?_
                  try simp only [Act.put, List.setIfInBounds_toArray, List.set_cons_zero, List.set_cons_succ]
                  refine anyH_skip 21 110 SD rfl (by kernel_rfl) (by kernel_rfl) (by kernel_rfl) (fun _ _ _ h => h) (by rfl) ?_
                  try simp only [Act.put, List.setIfInBounds_toArray, List.set_cons_zero, List.set_cons_succ]
                  refine anyH_skip 22 111 SD rfl (by kernel_rfl) (by kernel_rfl) (by kernel_rfl) (fun _ _ _ h => h) (by rfl) ?_
                  try simp only [Act.put, List.setIfInBounds_toArray, List.set_cons_zero, List.set_cons_succ]
                  refine anyH_skip 23 112 SD rfl (by kernel_rfl) (by kernel_rfl) (by kernel_rfl) (fun _ _ _ h => h) (by rfl) ?_
                  try simp only [Act.put, List.setIfInBounds_toArray, List.set_cons_zero, List.set_cons_succ]
                  refine anyH_skip 24 113 SD rfl (by kernel_rfl) (by kernel_rfl) (by kernel_rfl) (fun _ _ _ h => h) (by rfl) ?_
                  try simp only [Act.put, List.setIfInBounds_toArray, List.set_cons_zero, List.set_cons_succ]
                  refine anyH_skip 25 114 SD rfl (by kernel_rfl) (by kernel_rfl) (by kernel_rfl) (fun _ _ _ h => h) (by rfl) ?_
                  try simp only [Act.put, List.setIfInBounds_toArray, List.set_cons_zero, List.set_cons_succ]
                  refine anyH_skip 26 115 SD rfl (by kernel_rfl) (by kernel_rfl) (by kernel_rfl) (fun _ _ _ h => h) (by rfl) ?_
                  try simp only [Act.put, List.setIfInBounds_toArray, List.set_cons_zero, List.set_cons_succ]
                  refine anyH_skip 27 116 SD rfl (by kernel_rfl) (by kernel_rfl) (by kernel_rfl) (fun _ _ _ h => h) (by rfl) ?_
                  try simp only [Act.put, List.setIfInBounds_toArray, List.set_cons_zero, List.set_cons_succ]
                  refine anyH_take 28 117 (.bool false) SD rfl (by kernel_rfl) (by kernel_rfl) (by kernel_rfl) (fun _ _ _ h => h) (by rfl) (by intro x hx; have y0 := hx; (first | exact exec_arr 40 (.tmp 92) q (j * 136) XX _ rfl hx.1 Try.underlying40 rfl hsx | go_simp); try (intro h; omega)) ?_
                  try simp only [Act.put, List.setIfInBounds_toArray, List.set_cons_zero, List.set_cons_succ]
                  refine anyH_take 29 118 (.bool false) SD rfl (by kernel_rfl) (by kernel_rfl) (by kernel_rfl) (fun _ _ _ h => h) (by rfl) (by intro x hx; have y0 := hx; (first | exact exec_arr 40 (.tmp 92) q (j * 136) XX _ rfl hx.1 Try.underlying40 rfl hsx | go_simp); try (intro h; omega)) ?_
                  try simp only [Act.put, List.setIfInBounds_toArray, List.set_cons_zero, List.set_cons_succ]
                  refine wpAnyH_done (by kernel_rfl) ?_ _
                  go_wp2
                  exact ⟨⟨j + 1, by omega, by go_num, BZ.out.trans (D1.out.mono BZ.out.size)⟩, by simp [intOf]; omega⟩
                · have hjp : (j : Int) > 0 := by omega
                  have hjpn : 0 < j := by omega
                  have hpar : ¬ gj.tmod 2 = gz.tmod 2 := HPJ.out (by omega)
                  refine wpAny_of_held (S := fun y => y.rangeAt q (j * 136) XX.toList ∧ y.cell? ⟨q, j * 136, none⟩ = some (.int .i64 gj) ∧ y.cell? ⟨q, 0, none⟩ = some (.int .i64 gz) ∧ y.cell? ⟨bx, 0, none⟩ = some (.int .i64 kk)) _ _ _ _ ?_
                  have SD := KZ.out _ D0.out
                  refine anyH_take 0 89 (.slice pT NT2 cT) SD rfl (by kernel_rfl) (by kernel_rfl) (by kernel_rfl) (fun _ _ _ h => h) (by rfl) (by intro x hx; have y0 := hx; (first | exact exec_arr 40 (.tmp 92) q (j * 136) XX _ rfl hx.1 Try.underlying40 rfl hsx | go_simp); try (intro h; omega)) ?_
                  try simp only [Act.put, List.setIfInBounds_toArray, List.set_cons_zero, List.set_cons_succ]
                  refine anyH_take 1 90 (.slice (some ⟨q, 0, none⟩) NL cD) SD rfl (by kernel_rfl) (by kernel_rfl) (by kernel_rfl) (fun _ _ _ h => h) (by rfl) (by intro x hx; have y0 := hx; (first | exact exec_arr 40 (.tmp 92) q (j * 136) XX _ rfl hx.1 Try.underlying40 rfl hsx | go_simp); try (intro h; omega)) ?_
                  try simp only [Act.put, List.setIfInBounds_toArray, List.set_cons_zero, List.set_cons_succ]
                  refine anyH_take 2 91 (.int .i64 (j : Int)) SD rfl (by kernel_rfl) (by kernel_rfl) (by kernel_rfl) (fun _ _ _ h => h) (by rfl) (by intro x hx; have y0 := hx; (first | exact exec_arr 40 (.tmp 92) q (j * 136) XX _ rfl hx.1 Try.underlying40 rfl hsx | go_simp); try (intro h; omega)) ?_
                  try simp only [Act.put, List.setIfInBounds_toArray, List.set_cons_zero, List.set_cons_succ]
                  refine anyH_take 3 92 (.pointer (some ⟨q, (j * 136), none⟩)) SD rfl (by kernel_rfl) (by kernel_rfl) (by kernel_rfl) (fun _ _ _ h => h) (by rfl) (by intro x hx; have y0 := hx; (first | exact exec_arr 40 (.tmp 92) q (j * 136) XX _ rfl hx.1 Try.underlying40 rfl hsx | go_simp); try (intro h; omega)) ?_
                  try simp only [Act.put, List.setIfInBounds_toArray, List.set_cons_zero, List.set_cons_succ]
                  refine anyH_take 4 93 (.agg XX) SD rfl (by kernel_rfl) (by kernel_rfl) (by kernel_rfl) (fun _ _ _ h => h) (by rfl) (by intro x hx; have y0 := hx; (first | exact exec_arr 40 (.tmp 92) q (j * 136) XX _ rfl hx.1 Try.underlying40 rfl hsx | go_simp); try (intro h; omega)) ?_
                  try simp only [Act.put, List.setIfInBounds_toArray, List.set_cons_zero, List.set_cons_succ]
                  refine anyH_one 5 (by kernel_rfl) ?_
                  refine wpOp_step rfl (fun Kc hKc => ?_)
                  go_simp
                  refine (HHJ.out _ (BZ.out.trans (D0.out.mono BZ.out.size))).mono ?_
                  rintro e21 z1 ⟨rfl, hbz1⟩
                  have D1 := Lib.hid (D0.out.trans (hbz1.mono D0.out.size))
                  clear hbz1
                  dsimp only
                  refine hKc _ _ ⟨KZ.out _ D1.out, ?_⟩
                  clear hKc Kc
                  try simp only [Act.put, List.setIfInBounds_toArray, List.set_cons_zero, List.set_cons_succ]
                  clear SD
                  have SD := KZ.out _ D1.out
                  refine anyH_take 6 95 (.bool false) SD rfl (by kernel_rfl) (by kernel_rfl) (by kernel_rfl) (fun _ _ _ h => h) (by rfl) (by intro x hx; have y0 := hx; (first | exact exec_arr 40 (.tmp 92) q (j * 136) XX _ rfl hx.1 Try.underlying40 rfl hsx | go_simp); try (intro h; omega)) ?_
                  try simp only [Act.put, List.setIfInBounds_toArray, List.set_cons_zero, List.set_cons_succ]
                  refine anyH_take 7 96 (.bool false) SD rfl (by kernel_rfl) (by kernel_rfl) (by kernel_rfl) (fun _ _ _ h => h) (by rfl) (by intro x hx; have y0 := hx; (first | exact exec_arr 40 (.tmp 92) q (j * 136) XX _ rfl hx.1 Try.underlying40 rfl hsx | go_simp); try (intro h; omega)) ?_
                  try simp only [Act.put, List.setIfInBounds_toArray, List.set_cons_zero, List.set_cons_succ]
                  refine anyH_skip 8 97 SD rfl (by kernel_rfl) (by kernel_rfl) (by kernel_rfl) (fun _ _ _ h => h) (by rfl) ?_
                  try simp only [Act.put, List.setIfInBounds_toArray, List.set_cons_zero, List.set_cons_succ]
                  refine anyH_skip 9 98 SD rfl (by kernel_rfl) (by kernel_rfl) (by kernel_rfl) (fun _ _ _ h => h) (by rfl) ?_
                  try simp only [Act.put, List.setIfInBounds_toArray, List.set_cons_zero, List.set_cons_succ]
                  refine anyH_skip 10 99 SD rfl (by kernel_rfl) (by kernel_rfl) (by kernel_rfl) (fun _ _ _ h => h) (by rfl) ?_
                  try simp only [Act.put, List.setIfInBounds_toArray, List.set_cons_zero, List.set_cons_succ]
                  refine anyH_take 11 100 (.bool false) SD rfl (by kernel_rfl) (by kernel_rfl) (by kernel_rfl) (fun _ _ _ h => h) (by rfl) (by intro x hx; have y0 := hx; (first | exact exec_arr 40 (.tmp 92) q (j * 136) XX _ rfl hx.1 Try.underlying40 rfl hsx | go_simp); try (intro h; omega)) ?_
                  try simp only [Act.put, List.setIfInBounds_toArray, List.set_cons_zero, List.set_cons_succ]
                  refine anyH_take 12 101 (.bool false) SD rfl (by kernel_rfl) (by kernel_rfl) (by kernel_rfl) (fun _ _ _ h => h) (by rfl) (by intro x hx; have y0 := hx; (first | exact exec_arr 40 (.tmp 92) q (j * 136) XX _ rfl hx.1 Try.underlying40 rfl hsx | go_simp); try (intro h; omega)) ?_
                  try simp only [Act.put, List.setIfInBounds_toArray, List.set_cons_zero, List.set_cons_succ]
                  refine anyH_take 13 102 (.int .i64 (j : Int)) SD rfl (by kernel_rfl) (by kernel_rfl) (by kernel_rfl) (fun _ _ _ h => h) (by rfl) (by intro x hx; have y0 := hx; (first | exact exec_arr 40 (.tmp 92) q (j * 136) XX _ rfl hx.1 Try.underlying40 rfl hsx | go_simp); try (intro h; omega)) ?_
                  try simp only [Act.put, List.setIfInBounds_toArray, List.set_cons_zero, List.set_cons_succ]
                  refine anyH_take 14 103 (.bool true) SD rfl (by kernel_rfl) (by kernel_rfl) (by kernel_rfl) (fun _ _ _ h => h) (by rfl) (by intro x hx; have y0 := hx; (first | exact exec_arr 40 (.tmp 92) q (j * 136) XX _ rfl hx.1 Try.underlying40 rfl hsx | go_simp); try (intro h; omega)) ?_
                  try simp only [Act.put, List.setIfInBounds_toArray, List.set_cons_zero, List.set_cons_succ]
                  refine anyH_take 15 104 (.bool true) SD rfl (by kernel_rfl) (by kernel_rfl) (by kernel_rfl) (fun _ _ _ h => h) (by rfl) (by intro x hx; have y0 := hx; (first | exact exec_arr 40 (.tmp 92) q (j * 136) XX _ rfl hx.1 Try.underlying40 rfl hsx | go_simp); try (intro h; omega)) ?_
                  try simp only [Act.put, List.setIfInBounds_toArray, List.set_cons_zero, List.set_cons_succ]
                  refine anyH_take 16 105 (.slice (some ⟨q, 0, none⟩) NL cD) SD rfl (by kernel_rfl) (by kernel_rfl) (by kernel_rfl) (fun _ _ _ h => h) (by rfl) (by intro x hx; have y0 := hx; (first | exact exec_arr 40 (.tmp 92) q (j * 136) XX _ rfl hx.1 Try.underlying40 rfl hsx | go_simp); try (intro h; omega)) ?_
                  try simp only [Act.put, List.setIfInBounds_toArray, List.set_cons_zero, List.set_cons_succ]
                  refine anyH_take 17 106 (.int .i64 (j : Int)) SD rfl (by kernel_rfl) (by kernel_rfl) (by kernel_rfl) (fun _ _ _ h => h) (by rfl) (by intro x hx; have y0 := hx; (first | exact exec_arr 40 (.tmp 92) q (j * 136) XX _ rfl hx.1 Try.underlying40 rfl hsx | go_simp); try (intro h; omega)) ?_
                  try simp only [Act.put, List.setIfInBounds_toArray, List.set_cons_zero, List.set_cons_succ]
                  refine anyH_take 18 107 (.pointer (some ⟨q, (j * 136), none⟩)) SD rfl (by kernel_rfl) (by kernel_rfl) (by kernel_rfl) (fun _ _ _ h => h) (by rfl) (by intro x hx; have y0 := hx; (first | exact exec_arr 40 (.tmp 92) q (j * 136) XX _ rfl hx.1 Try.underlying40 rfl hsx | go_simp); try (intro h; omega)) ?_
                  try simp only [Act.put, List.setIfInBounds_toArray, List.set_cons_zero, List.set_cons_succ]
                  refine anyH_take 19 108 (.pointer (some ⟨q, (j * 136), none⟩)) SD rfl (by kernel_rfl) (by kernel_rfl) (by kernel_rfl) (fun _ _ _ h => h) (by rfl) (by intro x hx; have y0 := hx; (first | exact exec_arr 40 (.tmp 92) q (j * 136) XX _ rfl hx.1 Try.underlying40 rfl hsx | go_simp); try (intro h; omega)) ?_
                  try simp only [Act.put, List.setIfInBounds_toArray, List.set_cons_zero, List.set_cons_succ]
                  refine anyH_take 20 109 (.int .i64 gj) SD rfl (by kernel_rfl) (by kernel_rfl) (by kernel_rfl) (fun _ _ _ h => h) (by rfl) (by intro x hx; have y0 := hx; (first | exact exec_arr 40 (.tmp 92) q (j * 136) XX _ rfl hx.1 Try.underlying40 rfl hsx | go_simp); try (intro h; omega)) ?_
                  try simp only [Act.put, List.setIfInBounds_toArray, List.set_cons_zero, List.set_cons_succ]
                  refine anyH_take 21 110 (.int .i64 (gj.tmod 2)) SD rfl (by kernel_rfl) (by kernel_rfl) (by kernel_rfl) (fun _ _ _ h => h) (by rfl) (by intro x hx; have y0 := hx; (first | exact exec_arr 40 (.tmp 92) q (j * 136) XX _ rfl hx.1 Try.underlying40 rfl hsx | go_simp); try (intro h; omega)) ?_
                  try simp only [Act.put, List.setIfInBounds_toArray, List.set_cons_zero, List.set_cons_succ]
                  refine anyH_take 22 111 (.slice (some ⟨q, 0, none⟩) NL cD) SD rfl (by kernel_rfl) (by kernel_rfl) (by kernel_rfl) (fun _ _ _ h => h) (by rfl) (by intro x hx; have y0 := hx; (first | exact exec_arr 40 (.tmp 92) q (j * 136) XX _ rfl hx.1 Try.underlying40 rfl hsx | go_simp); try (intro h; omega)) ?_
                  try simp only [Act.put, List.setIfInBounds_toArray, List.set_cons_zero, List.set_cons_succ]
                  refine anyH_take 23 112 (.pointer (some ⟨q, 0, none⟩)) SD rfl (by kernel_rfl) (by kernel_rfl) (by kernel_rfl) (fun _ _ _ h => h) (by rfl) (by intro x hx; have y0 := hx; (first | exact exec_arr 40 (.tmp 92) q (j * 136) XX _ rfl hx.1 Try.underlying40 rfl hsx | go_simp); try (intro h; omega)) ?_
                  try simp only [Act.put, List.setIfInBounds_toArray, List.set_cons_zero, List.set_cons_succ]
                  refine anyH_take 24 113 (.pointer (some ⟨q, 0, none⟩)) SD rfl (by kernel_rfl) (by kernel_rfl) (by kernel_rfl) (fun _ _ _ h => h) (by rfl) (by intro x hx; have y0 := hx; (first | exact exec_arr 40 (.tmp 92) q (j * 136) XX _ rfl hx.1 Try.underlying40 rfl hsx | go_simp); try (intro h; omega)) ?_
                  try simp only [Act.put, List.setIfInBounds_toArray, List.set_cons_zero, List.set_cons_succ]
                  refine anyH_take 25 114 (.int .i64 gz) SD rfl (by kernel_rfl) (by kernel_rfl) (by kernel_rfl) (fun _ _ _ h => h) (by rfl) (by intro x hx; have y0 := hx; (first | exact exec_arr 40 (.tmp 92) q (j * 136) XX _ rfl hx.1 Try.underlying40 rfl hsx | go_simp); try (intro h; omega)) ?_
                  try simp only [Act.put, List.setIfInBounds_toArray, List.set_cons_zero, List.set_cons_succ]
                  refine anyH_take 26 115 (.int .i64 (gz.tmod 2)) SD rfl (by kernel_rfl) (by kernel_rfl) (by kernel_rfl) (fun _ _ _ h => h) (by rfl) (by intro x hx; have y0 := hx; (first | exact exec_arr 40 (.tmp 92) q (j * 136) XX _ rfl hx.1 Try.underlying40 rfl hsx | go_simp); try (intro h; omega)) ?_
                  try simp only [Act.put, List.setIfInBounds_toArray, List.set_cons_zero, List.set_cons_succ]
                  refine anyH_take 27 116 (.bool false) SD rfl (by kernel_rfl) (by kernel_rfl) (by kernel_rfl) (fun _ _ _ h => h) (by rfl) (by intro x hx; have y0 := hx; (first | exact exec_arr 40 (.tmp 92) q (j * 136) XX _ rfl hx.1 Try.underlying40 rfl hsx | go_simp); try (intro h; omega)) ?_
                  try simp only [Act.put, List.setIfInBounds_toArray, List.set_cons_zero, List.set_cons_succ]
                  refine anyH_take 28 117 (.bool false) SD rfl (by kernel_rfl) (by kernel_rfl) (by kernel_rfl) (fun _ _ _ h => h) (by rfl) (by intro x hx; have y0 := hx; (first | exact exec_arr 40 (.tmp 92) q (j * 136) XX _ rfl hx.1 Try.underlying40 rfl hsx | go_simp); try (intro h; omega)) ?_
                  try simp only [Act.put, List.setIfInBounds_toArray, List.set_cons_zero, List.set_cons_succ]
                  refine anyH_take 29 118 (.bool false) SD rfl (by kernel_rfl) (by kernel_rfl) (by kernel_rfl) (fun _ _ _ h => h) (by rfl) (by intro x hx; have y0 := hx; (first | exact exec_arr 40 (.tmp 92) q (j * 136) XX _ rfl hx.1 Try.underlying40 rfl hsx | go_simp); try (intro h; omega)) ?_
                  try simp only [Act.put, List.setIfInBounds_toArray, List.set_cons_zero, List.set_cons_succ]
                  refine wpAnyH_done (by kernel_rfl) ?_ _
                  go_wp2
                  exact ⟨⟨j + 1, by omega, by go_num, BZ.out.trans (D1.out.mono BZ.out.size)⟩, by simp [intOf]; omega⟩
              · have hjg : NL ≤ j := by omega
                have hjgi : ¬ (j : Int) < (NL : Int) := by omega
                clear hjl
                have GE : Hid (wr.heap[bx]? = some (.cells A 44 (0, 0))) := (HBJ.out.block _ (lt_of_block GD.out)).trans GD.out
                have c0E := (HAK.out.at_ _ _ _ GE.out).1
                have VE : Hid (Vt w0 K wr d g g2 mD S3 Nm.St.none) := by
                  have h := VD.out.old HBJ.out
                  rw [HSA.out f7] at h
                  exact h
                have OE : Hid (RsO K wr (.slice pT NT2 cT) TC) := own_kp OD.out (Kp.of_below HBJ.out) (Nat.le_refl _)
                have IE : Hid (Im K wr (.slice p8 NI c8) NI) := ID.out.kp (Kp.of_below HBJ.out)
                have hq7 : o.k ≠ 7 := by simpa using f7
                clear HHAS HIN HPA HRD HRT HQ0 HBJ GD OD ID VD HSA GE hjg
                go_wp2
                go_loopw [8, 13] (fun v8 v13 wr3 => ∃ (i N2 : Nat) (m2 : Dk.M), 1 ≤ i ∧ i ≤ 3 ∧ v13 = .int .i64 (i : Int) ∧ Hid (N2 + 1 = NI + i) ∧ Hid (Im K wr3 v8 N2) ∧ Hid (RsO K wr3 (.slice pT NT2 cT) TC) ∧ Hid (Vt w0 K wr3 d g g2 m2 S3 Nm.St.none) ∧ Hid (m2.wr ≤ 10 * k + 3 ∧ (∀ j, m2.rd j ≤ 10 * k + 4 + i) ∧ m2.n = 4)) (fun _ v13 _ => 3 - (intOf v13).toNat)
                case atStart => exact ⟨1, NI, mD, by omega, by omega, rfl, rfl, IE.out, OE.out, VE.out, HMD.out⟩
                case round =>
                  obtain ⟨i, N2, m2, hi1, hi3, rfl, HN2, IF, OF, VF, HMF⟩ := hrel
                  clear VE OE IE
                  by_cases hi2 : i < 3
                  · have hle : (i : Int) ≤ 2 := by omega
                    obtain ⟨pF, cF, hvF⟩ := IF.out.len
                    subst hvF
                    have HRF := Lib.hid (vt_read (i : Int) (fun j => by have := HMF.out.2.1 j; omega) VF.out)
                    have HXL := Lib.hid (Rg.rdX_le VF.out.vs.ok (i : Int))
                    have HMG : Hid ((Dk.rdM m2 (i : Int)).wr ≤ 10 * k + 3 ∧ (∀ j, (Dk.rdM m2 (i : Int)).rd j ≤ 10 * k + 4 + (i + 1)) ∧ (Dk.rdM m2 (i : Int)).n = 4) := by
                      have e1 := Rg.rdM_le m2 (i : Int)
                      have e2 := (Rg.rdM_same m2 (i : Int)).2.2.2.1
                      refine ⟨by rw [e2]; exact HMF.out.1, fun j => ?_, by rw [e1.2.2]; exact HMF.out.2.2⟩
                      have a1 := e1.2.1 j
                      have a2 := HMF.out.2.1 j
                      omega
                    unfold VtRd at HRF
                    generalize Dk.rdM m2 (i : Int) = m3 at *
                    generalize Dk.rdX m2 (i : Int) = LX at *
                    obtain ⟨nl, hnl⟩ : ∃ nl, LX.length = nl := ⟨_, rfl⟩
                    rw [hnl] at HRF HXL
                    go_upto_region 31 with (go_at_call 17; refine HRF.out.mono ?_; rintro e9 w9 ⟨p9, c9, rfl, HO9, HB9, HV9, HK9⟩)
                    have HU : Hid (Im1 K w9 (.slice p9 nl c9)) := by
                      refine ⟨p9, c9, LX, by rw [hnl], by rw [hnl]; exact HXL.out, HB9.out.bat.1, ?_⟩
                      rw [hnl]
                      exact own_weak HO9.out VF.out.size
                    have IF9 := Lib.hid (IF.out.kp HK9.out)
                    have OF9 : Hid (RsO K w9 (.slice pT NT2 cT) TC) := own_kp OF.out HK9.out (Nat.le_refl _)
                    have S9 : Hid (K ≤ w9.heap.size) := HV9.out.size
                    go_upto_region 29 with (at_builtin; (with_reducible refine app_im _ _ K _ _ N2 ?_ ?_ IF9.out HU.out ?_ S9.out ?_); (exact rfl); (exact rfl); (have := HN2.out; have := HTC.out.2.2.2; omega); intro q10 d10 w10 HI10 HS10 HT10 HG10)
                    have VF10 := Lib.hid (vt_far HV9.out HT10.out (by decide) (by decide) HG10.out).1
                    have OF10 : Hid (RsO K w10 (.slice pT NT2 cT) TC) := own_other OF9.out (fun q h => (HT10.out q h).2) (by decide) HG10.out
                    go_wp2
                    exact ⟨⟨i + 1, N2 + 1, m3, by omega, by omega, by go_num, by show N2 + 1 + 1 = NI + (i + 1); have := HN2.out; omega, HI10.out, OF10.out, VF10.out, HMG.out⟩, by simp [intOf]; omega⟩
                  · have hi33 : i = 3 := by omega
                    subst hi33
                    have hN3 : N2 = NI + 2 := by have := HN2.out; omega
                    subst hN3
                    go_wp2
                    exact ⟨⟨k + 1, NI + 2, TC, m2, S3, by omega, by go_num, OF.out, IF.out, ⟨HTC.out.1, HTC.out.2.1, HTC.out.2.2.1, by have := HTC.out.2.2.2; omega⟩, VF.out, ⟨by have := HMF.out.1; omega, fun j => by have := HMF.out.2.1 j; omega, HSC.out, HMF.out.2.2⟩⟩, by simp [intOf]; omega⟩
          · have hNI0 : ¬ (NI : Int) > 0 := by omega
            as_aux_lemma =>
              go_upto_region 16 with (fail)
              obtain ⟨wA, mA, S2A, VA, GA, OA, IA, HMA, HSA⟩ : ∃ (wA : World) (mA : Dk.M) (S2A : Nm.St), Hid (Vt w0 K wA d g g2 mA S S2A) ∧ Hid (wA.heap[bx]? = some (.cells A 44 (0, 0))) ∧ Hid (RsO K wA u7 T) ∧ Hid (Im K wA (.slice p8 NI c8) NI) ∧ Hid (mA.wr ≤ m.wr + 1 ∧ (∀ j, mA.rd j ≤ m.rd j + 1) ∧ mA.n = m.n) ∧ Hid ((o.k == 7) = false → S2A = Nm.St.none) ∧ wA = w4 := ⟨w4, m, _, V4, G4, O4, I4, ⟨Nat.le_succ _, fun j => Nat.le_succ _, rfl⟩, fun _ => rfl, rfl⟩
              obtain ⟨HSA, hwA⟩ := HSA
              rw [← hwA]
              clear hwA V4 G4 O4 I4
              have HRUN : Hid (∀ y, Vt w0 K y d g g2 mA S S2A → Calls Try.prog 14 #[.pointer (some ⟨d, 0, none⟩), .iface 29 (.pointer (some ⟨g, 0, none⟩)), .agg A] y (RunSay w0 K d g g2 o mA S S2A y)) := fun y hy => run_any o A pd cd pf cf HAK.out HOP.out y hy ⟨HDL.out, by have h1 := HMA.out.1; have h2 := HC.out.1; omega, by have h2 := HC.out.2.2.1; omega, fun j => by have h1 := HMA.out.2.1 j; have h2 := HC.out.2.1 j; omega⟩
              go_upto_region 17 with (first
                | ((with_reducible refine row_load _ _ _ _ _ _ _ ?_ GA.out Try.underlying44 ?_ hsa ?_); (exact rfl); (exact rfl))
                | (go_at_call 14; refine (HRUN.out _ VA.out).mono ?_; rintro e6 wB ⟨er6, mB, rfl, VB, HMB, HKC⟩))
              have GB : Hid (wB.heap[bx]? = some (.cells A 44 (0, 0))) := (HKC.out.block bx HKB.out (lt_of_block GA.out)).trans GA.out
              have OB : Hid (RsO K wB u7 T) := own_kp OA.out HKC.out (Nat.le_refl _)
              have IB : Hid (Im K wB (.slice p8 NI c8) NI) := IA.out.kp HKC.out
              have HMC : Hid (mB.wr ≤ 10 * k + 2 ∧ (∀ j, mB.rd j ≤ 10 * k + 2) ∧ mB.n = 4) := ⟨by have h1 := HMA.out.1; have h2 := HC.out.1; have h3 := HMB.out.1; omega, fun j => by have h1 := HMA.out.2.1 j; have h2 := HC.out.2.1 j; have h3 := HMB.out.2.1 j; omega, by rw [HMB.out.2.2, HMA.out.2.2]; exact HC.out.2.2.2⟩
              have HSC : Hid ((Rg.rS S o).ss.length ≤ k + 1) := by
                have h2 := HC.out.2.2.1
                show _ ≤ _
                unfold Rg.rS
                split
                · exact Nat.le_trans (Rg.vS_le S o.r o.n) (by omega)
                · omega
              obtain ⟨d0, d1, d2, rB, d4, d5⟩ := HAK.out.at_ _ _ _ GB.out
              have HRB := Lib.hid rB
              clear VA GA OA IA HMA HMB HKC HRUN HCW rB d1 d2 d4 d5 c0 c1 c2' c4 c5 HC
              have HTC : Hid (Rg.Told T (Rg.rS S o) ∧ (∀ r ∈ T, Rg.Ok r) ∧ T.length ≤ k + 1 ∧ NI ≤ 2 * k) := by
                refine ⟨?_, HT.out.2.1, by have h1 := HT.out.2.2.1; omega, HT.out.2.2.2⟩
                unfold Rg.rS
                rw [if_neg (by simpa using f0)]
                exact HT.out.1
              go_upto_region 19 with (fail)
              obtain ⟨wC, TC, v7C, hwC, hTC, hv7⟩ : ∃ wC TC v7C, wC = wB ∧ TC = T ∧ v7C = u7 := ⟨_, _, _, rfl, rfl, rfl⟩
              rw [← hwC, ← hv7]
              rw [← hwC] at VB GB OB IB
              rw [← hTC] at OB HTC
              rw [← hv7] at OB
              have VC := VB
              have GC := GB
              have OC := OB
              have IC := IB
              clear hwC hTC hv7 VB GB OB IB HRB
              have HBY : Hid (∀ i, i < mB.n → Sha.Byt (Dk.peek mB i)) := VC.out.vs.byt
              have HIN : Hid (∀ x ∈ Rg.vA mB (Rg.rS S o), x ∈ TC) := Rg.vA_told HBY.out HTC.out.1 HTC.out.2.1
              have HPA := Lib.hid (Rg.vA_par HBY.out (Rg.rS S o))
              have HRDC : Hid (∀ j, mB.rd j ≤ 999999990) := fun j => by have h1 := HMC.out.2.1 j; omega
              have HALL := Lib.hid (vt_all VC.out HRDC.out)
              obtain ⟨mD, hmD⟩ : ∃ mD, Hid (Rg.alM mB 2 = mD) := ⟨_, rfl⟩
              have HMD : Hid (mD.wr ≤ 10 * k + 3 ∧ (∀ j, mD.rd j ≤ 10 * k + 5) ∧ mD.n = 4) := by
                rw [← hmD.out]
                obtain ⟨h1, h2, h3⟩ := HMC.out
                have e1 := Rg.rdM_le mB 1
                have e2 := Rg.rdM_le (Dk.rdM mB 1) 2
                have e : Rg.alM mB 2 = Dk.rdM (Dk.rdM mB 1) 2 := rfl
                have w1 := (Rg.rdM_same mB 1).2.2.2.1
                have w2 := (Rg.rdM_same (Dk.rdM mB 1) 2).2.2.2.1
                rw [e]
                refine ⟨by omega, fun j => ?_, by rw [e2.2.2, e1.2.2]; exact h3⟩
                have a1 := e1.2.1 j
                have a2 := e2.2.1 j
                have a3 := h2 j
                omega
              unfold VtAll at HALL
              rw [hmD.out] at HALL
              obtain ⟨LA, hLA⟩ : ∃ LA, Rg.vA mB (Rg.rS S o) = LA := ⟨_, rfl⟩
              rw [hLA] at HALL HPA HIN
              obtain ⟨S3, hS3⟩ : ∃ S3, Rg.rS S o = S3 := ⟨_, rfl⟩
              rw [hS3] at HALL HTC HSC
              clear hLA hS3 VC HBY HRDC HMC hmD HT
              go_upto_region 20 with (go_at_call 15; refine HALL.out.mono ?_; rintro e7 wD ⟨v7D, rfl, HOD, HOKD, VD, HKD⟩)
              have GD : Hid (wD.heap[bx]? = some (.cells A 44 (0, 0))) := (HKD.out.block bx HKB.out (lt_of_block GC.out)).trans GC.out
              have OD : Hid (RsO K wD v7C TC) := own_kp OC.out HKD.out (Nat.le_refl _)
              have ID : Hid (Im K wD (.slice p8 NI c8) NI) := IC.out.kp HKD.out
              obtain ⟨pD, cD, hvD, hrD⟩ := HOD.out.es HOKD.out
              subst hvD
              have HRD := Lib.hid hrD
              have HQ0 : Hid (0 < LA.length → ∃ q, pD = some ⟨q, 0, none⟩) := fun h0 => own_zero2 h0 HOD.out hrD
              obtain ⟨pT, cT, hvT, hrT⟩ := OD.out.es HTC.out.2.1
              subst hvT
              have HRT := Lib.hid hrT
              obtain ⟨NT2, hNT2⟩ : ∃ NT2, TC.length = NT2 := ⟨_, rfl⟩
              rw [hNT2] at OD ⊢
              have HNT2 := Lib.hid hNT2
              obtain ⟨NL, hNL⟩ : ∃ NL, LA.length = NL := ⟨_, rfl⟩
              rw [hNL] at HPA HQ0 ⊢
              have HNL := Lib.hid hNL
              have HHAS : Hid (∀ y j, Below wD.heap.size wD y → j < NL → Calls Try.prog 16 #[.slice pT NT2 cT, .agg (RAr (LA.getD j Rg.zero))] y (BlSay true y)) := fun y j hy hj => by
                have hm : LA.getD j Rg.zero ∈ LA := by rw [List.getD_eq_getElem?_getD, List.getElem?_eq_getElem (by rw [HNL.out]; exact hj)]; exact List.getElem_mem _
                have h := rhas_any TC (LA.getD j Rg.zero) (HOKD.out _ hm) pT NT2 cT HNT2.out (by have h1 := HTC.out.2.2.1; rw [HNT2.out] at h1; omega) y (HRT.out.old hy)
                rw [decide_eq_true (HIN.out _ hm)] at h
                exact h
              clear hrD hrT hNT2 hNL HOD HKD HALL GC OC IC
              go_wp2
              go_loopw [12] (fun v12 wr2 => ∃ j : Nat, j ≤ NL ∧ v12 = .int .i64 (j : Int) ∧ Hid (Below wD.heap.size wD wr2)) (fun v12 _ => NL - (intOf v12).toNat)
              case atStart => exact ⟨0, by omega, rfl, Below.refl _ _⟩
              case round =>
                obtain ⟨j, hj, rfl, HBJ⟩ := hrel
                by_cases hjl : j < NL
                · obtain ⟨q, hq⟩ := HQ0.out (by omega)
                  subst hq
                  have hji : (j : Int) < (NL : Int) := by omega
                  have hjn : 0 ≤ (j : Int) := by omega
                  have hj00 : (0 : Int) < (NL : Int) := by omega
                  have HKY : Hid (∀ y, Below wD.heap.size wD y → y.rangeAt q (j * 136) (RAr (LA.getD j Rg.zero)).toList ∧ y.cell? ⟨q, j * 136, none⟩ = some (.int .i64 (LA.getD j Rg.zero).gen) ∧ y.cell? ⟨q, 0, none⟩ = some (.int .i64 (LA.getD 0 Rg.zero).gen) ∧ y.cell? ⟨bx, 0, none⟩ = some (.int .i64 o.k)) := fun y hy => by
                    have a1 := (HRD.out.old hy).rng (i := j) (by rw [HNL.out]; exact hjl)
                    have a2 := (HRD.out.old hy).rng (i := 0) (by rw [HNL.out]; omega)
                    rw [Nat.zero_add] at a1
                    rw [Nat.zero_add, Nat.zero_mul] at a2
                    exact ⟨a1, rec_cells a1, rec_cells a2, (HAK.out.at_ _ _ _ ((hy.block _ (lt_of_block GD.out)).trans GD.out)).1⟩
                  have HPJ : Hid (0 < j → (LA.getD j Rg.zero).gen.tmod 2 ≠ (LA.getD 0 Rg.zero).gen.tmod 2) := fun h0 => HPA.out.2 j h0 hjl
                  have HHJ : Hid (∀ y, Below wD.heap.size wD y → Calls Try.prog 16 #[.slice pT NT2 cT, .agg (RAr (LA.getD j Rg.zero))] y (BlSay true y)) := fun y hy => HHAS.out y j hy hjl
                  have hXS : (RAr (LA.getD j Rg.zero)).size = 136 := rar_size (HRD.out.getD j)
                  have hsx := row_size Try.sizeRec (Lib.hid hXS)
                  generalize RAr (LA.getD j Rg.zero) = XX at *
                  generalize (LA.getD j Rg.zero).gen = gj at *
                  generalize (LA.getD 0 Rg.zero).gen = gz at *
                  generalize o.k = kk at *
                  clear hXS hj
                  have hNL2 : NL ≤ 2 := HPA.out.1
                  go_upto_region 23 with (fail)
                  have BZ := Lib.hid HBJ.out.drew
                  refine wp_region_any (by kernel_rfl) ?_
                  change wpAny _ _ _ _ _ _ _ (World.drew _)
                  obtain ⟨z, hz'⟩ : ∃ x, x = wr.drew := ⟨_, rfl⟩
                  rw [← hz'] at BZ ⊢
                  clear hz'
                  have KZ : Hid (∀ y, Below z.heap.size z y → y.rangeAt q (j * 136) XX.toList ∧ y.cell? ⟨q, j * 136, none⟩ = some (.int .i64 gj) ∧ y.cell? ⟨q, 0, none⟩ = some (.int .i64 gz) ∧ y.cell? ⟨bx, 0, none⟩ = some (.int .i64 kk)) := fun y hy => HKY.out y (BZ.out.trans (hy.mono BZ.out.size))
                  have D0 : Hid (Below z.heap.size z z) := Below.refl _ _
                  by_cases hjz : j = 0
                  · have hjp : ¬ (j : Int) > 0 := by omega
                    refine wpAny_of_held (S := fun y => y.rangeAt q (j * 136) XX.toList ∧ y.cell? ⟨q, j * 136, none⟩ = some (.int .i64 gj) ∧ y.cell? ⟨q, 0, none⟩ = some (.int .i64 gz) ∧ y.cell? ⟨bx, 0, none⟩ = some (.int .i64 kk)) _ _ _ _ ?_
                    have SD := KZ.out _ D0.out
                    refine anyH_take 0 89 (.slice pT NT2 cT) SD rfl (by kernel_rfl) (by kernel_rfl) (by kernel_rfl) (fun _ _ _ h => h) (by rfl) (by intro x hx; have y0 := hx; (first | exact exec_arr 40 (.tmp 92) q (j * 136) XX _ rfl hx.1 Try.underlying40 rfl hsx | go_simp); try (intro h; omega)) ?_
                    try simp only [Act.put, List.setIfInBounds_toArray, List.set_cons_zero, List.set_cons_succ]
                    refine anyH_take 1 90 (.slice (some ⟨q, 0, none⟩) NL cD) SD rfl (by kernel_rfl) (by kernel_rfl) (by kernel_rfl) (fun _ _ _ h => h) (by rfl) (by intro x hx; have y0 := hx; (first | exact exec_arr 40 (.tmp 92) q (j * 136) XX _ rfl hx.1 Try.underlying40 rfl hsx | go_simp); try (intro h; omega)) ?_
                    try simp only [Act.put, List.setIfInBounds_toArray, List.set_cons_zero, List.set_cons_succ]
                    refine anyH_take 2 91 (.int .i64 (j : Int)) SD rfl (by kernel_rfl) (by kernel_rfl) (by kernel_rfl) (fun _ _ _ h => h) (by rfl) (by intro x hx; have y0 := hx; (first | exact exec_arr 40 (.tmp 92) q (j * 136) XX _ rfl hx.1 Try.underlying40 rfl hsx | go_simp); try (intro h; omega)) ?_
                    try simp only [Act.put, List.setIfInBounds_toArray, List.set_cons_zero, List.set_cons_succ]
                    refine anyH_take 3 92 (.pointer (some ⟨q, (j * 136), none⟩)) SD rfl (by kernel_rfl) (by kernel_rfl) (by kernel_rfl) (fun _ _ _ h => h) (by rfl) (by intro x hx; have y0 := hx; (first | exact exec_arr 40 (.tmp 92) q (j * 136) XX _ rfl hx.1 Try.underlying40 rfl hsx | go_simp); try (intro h; omega)) ?_
                    try simp only [Act.put, List.setIfInBounds_toArray, List.set_cons_zero, List.set_cons_succ]
                    refine anyH_take 4 93 (.agg XX) SD rfl (by kernel_rfl) (by kernel_rfl) (by kernel_rfl) (fun _ _ _ h => h) (by rfl) (by intro x hx; have y0 := hx; (first | exact exec_arr 40 (.tmp 92) q (j * 136) XX _ rfl hx.1 Try.underlying40 rfl hsx | go_simp); try (intro h; omega)) ?_
                    try simp only [Act.put, List.setIfInBounds_toArray, List.set_cons_zero, List.set_cons_succ]
                    refine anyH_one 5 (by kernel_rfl) ?_
                    refine wpOp_step rfl (fun Kc hKc => ?_)
                    go_simp
                    refine (HHJ.out _ (BZ.out.trans (D0.out.mono BZ.out.size))).mono ?_
                    rintro e21 z1 ⟨rfl, hbz1⟩
                    have D1 := Lib.hid (D0.out.trans (hbz1.mono D0.out.size))
                    clear hbz1
                    dsimp only
                    refine hKc _ _ ⟨KZ.out _ D1.out, ?_⟩
                    clear hKc Kc
                    try simp only [Act.put, List.setIfInBounds_toArray, List.set_cons_zero, List.set_cons_succ]
                    clear SD
                    have SD := KZ.out _ D1.out
                    refine anyH_take 6 95 (.bool false) SD rfl (by kernel_rfl) (by kernel_rfl) (by kernel_rfl) (fun _ _ _ h => h) (by rfl) (by intro x hx; have y0 := hx; (first | exact exec_arr 40 (.tmp 92) q (j * 136) XX _ rfl hx.1 Try.underlying40 rfl hsx | go_simp); try (intro h; omega)) ?_
                    try simp only [Act.put, List.setIfInBounds_toArray, List.set_cons_zero, List.set_cons_succ]
                    refine anyH_take 7 96 (.bool false) SD rfl (by kernel_rfl) (by kernel_rfl) (by kernel_rfl) (fun _ _ _ h => h) (by rfl) (by intro x hx; have y0 := hx; (first | exact exec_arr 40 (.tmp 92) q (j * 136) XX _ rfl hx.1 Try.underlying40 rfl hsx | go_simp); try (intro h; omega)) ?_
                    try simp only [Act.put, List.setIfInBounds_toArray, List.set_cons_zero, List.set_cons_succ]
                    refine anyH_skip 8 97 SD rfl (by kernel_rfl) (by kernel_rfl) (by kernel_rfl) (fun _ _ _ h => h) (by rfl) ?_
                    try simp only [Act.put, List.setIfInBounds_toArray, List.set_cons_zero, List.set_cons_succ]
                    refine anyH_skip 9 98 SD rfl (by kernel_rfl) (by kernel_rfl) (by kernel_rfl) (fun _ _ _ h => h) (by rfl) ?_
                    try simp only [Act.put, List.setIfInBounds_toArray, List.set_cons_zero, List.set_cons_succ]
                    refine anyH_skip 10 99 SD rfl (by kernel_rfl) (by kernel_rfl) (by kernel_rfl) (fun _ _ _ h => h) (by rfl) ?_
                    try simp only [Act.put, List.setIfInBounds_toArray, List.set_cons_zero, List.set_cons_succ]
                    refine anyH_take 11 100 (.bool false) SD rfl (by kernel_rfl) (by kernel_rfl) (by kernel_rfl) (fun _ _ _ h => h) (by rfl) (by intro x hx; have y0 := hx; (first | exact exec_arr 40 (.tmp 92) q (j * 136) XX _ rfl hx.1 Try.underlying40 rfl hsx | go_simp); try (intro h; omega)) ?_
                    try simp only [Act.put, List.setIfInBounds_toArray, List.set_cons_zero, List.set_cons_succ]
                    refine anyH_take 12 101 (.bool false) SD rfl (by kernel_rfl) (by kernel_rfl) (by kernel_rfl) (fun _ _ _ h => h) (by rfl) (by intro x hx; have y0 := hx; (first | exact exec_arr 40 (.tmp 92) q (j * 136) XX _ rfl hx.1 Try.underlying40 rfl hsx | go_simp); try (intro h; omega)) ?_
                    try simp only [Act.put, List.setIfInBounds_toArray, List.set_cons_zero, List.set_cons_succ]
                    refine anyH_take 13 102 (.int .i64 (j : Int)) SD rfl (by kernel_rfl) (by kernel_rfl) (by kernel_rfl) (fun _ _ _ h => h) (by rfl) (by intro x hx; have y0 := hx; (first | exact exec_arr 40 (.tmp 92) q (j * 136) XX _ rfl hx.1 Try.underlying40 rfl hsx | go_simp); try (intro h; omega)) ?_
                    try simp only [Act.put, List.setIfInBounds_toArray, List.set_cons_zero, List.set_cons_succ]
                    refine anyH_take 14 103 (.bool false) SD rfl (by kernel_rfl) (by kernel_rfl) (by kernel_rfl) (fun _ _ _ h => h) (by rfl) (by intro x hx; have y0 := hx; (first | exact exec_arr 40 (.tmp 92) q (j * 136) XX _ rfl hx.1 Try.underlying40 rfl hsx | go_simp); try (intro h; omega)) ?_
                    try simp only [Act.put, List.setIfInBounds_toArray, List.set_cons_zero, List.set_cons_succ]
                    refine anyH_take 15 104 (.bool false) SD rfl (by kernel_rfl) (by kernel_rfl) (by kernel_rfl) (fun _ _ _ h => h) (by rfl) (by intro x hx; have y0 := hx; (first | exact exec_arr 40 (.tmp 92) q (j * 136) XX _ rfl hx.1 Try.underlying40 rfl hsx | go_simp); try (intro h; omega)) ?_
                    try simp only [Act.put, List.setIfInBounds_toArray, List.set_cons_zero, List.set_cons_succ]
                    refine anyH_skip 16 105 SD rfl (by kernel_rfl) (by kernel_rfl) (by kernel_rfl) (fun _ _ _ h => h) (by rfl) ?_
                    try simp only [Act.put, List.setIfInBounds_toArray, List.set_cons_zero, List.set_cons_succ]
                    refine anyH_skip 17 106 SD rfl (by kernel_rfl) (by kernel_rfl) (by kernel_rfl) (fun _ _ _ h => h) (by rfl) ?_
                    try simp only [Act.put, List.setIfInBounds_toArray, List.set_cons_zero, List.set_cons_succ]
                    refine anyH_skip 18 107 SD rfl (by kernel_rfl) (by kernel_rfl) (by kernel_rfl) (fun _ _ _ h => h) (by rfl) ?_
                    try simp only [Act.put, List.setIfInBounds_toArray, List.set_cons_zero, List.set_cons_succ]
                    refine anyH_skip 19 108 SD rfl (by kernel_rfl) (by kernel_rfl) (by kernel_rfl) (fun _ _ _ h => h) (by rfl) ?_
                    try simp only [Act.put, List.setIfInBounds_toArray, List.set_cons_zero, List.set_cons_succ]
                    refine anyH_skip 20 109 SD rfl (by kernel_rfl) (by kernel_rfl) (by kernel_rfl) (fun _ _ _ h => h) (by rfl) ?_
                    try simp only [Act.put, List.setIfInBounds_toArray, List.set_cons_zero, List.set_cons_succ]
                    refine anyH_skip 21 110 SD rfl (by kernel_rfl) (by kernel_rfl) (by kernel_rfl) (fun _ _ _ h => h) (by rfl) ?_
                    try simp only [Act.put, List.setIfInBounds_toArray, List.set_cons_zero, List.set_cons_succ]
                    refine anyH_skip 22 111 SD rfl (by kernel_rfl) (by kernel_rfl) (by kernel_rfl) (fun _ _ _ h => h) (by rfl) ?_
                    try simp only [Act.put, List.setIfInBounds_toArray, List.set_cons_zero, List.set_cons_succ]
                    refine anyH_skip 23 112 SD rfl (by kernel_rfl) (by kernel_rfl) (by kernel_rfl) (fun _ _ _ h => h) (by rfl) ?_
                    try simp only [Act.put, List.setIfInBounds_toArray, List.set_cons_zero, List.set_cons_succ]
                    refine anyH_skip 24 113 SD rfl (by kernel_rfl) (by kernel_rfl) (by kernel_rfl) (fun _ _ _ h => h) (by rfl) ?_
                    try simp only [Act.put, List.setIfInBounds_toArray, List.set_cons_zero, List.set_cons_succ]
                    refine anyH_skip 25 114 SD rfl (by kernel_rfl) (by kernel_rfl) (by kernel_rfl) (fun _ _ _ h => h) (by rfl) ?_
                    try simp only [Act.put, List.setIfInBounds_toArray, List.set_cons_zero, List.set_cons_succ]
                    refine anyH_skip 26 115 SD rfl (by kernel_rfl) (by kernel_rfl) (by kernel_rfl) (fun _ _ _ h => h) (by rfl) ?_
                    try simp only [Act.put, List.setIfInBounds_toArray, List.set_cons_zero, List.set_cons_succ]
                    refine anyH_skip 27 116 SD rfl (by kernel_rfl) (by kernel_rfl) (by kernel_rfl) (fun _ _ _ h => h) (by rfl) ?_
                    try simp only [Act.put, List.setIfInBounds_toArray, List.set_cons_zero, List.set_cons_succ]
                    refine anyH_take 28 117 (.bool false) SD rfl (by kernel_rfl) (by kernel_rfl) (by kernel_rfl) (fun _ _ _ h => h) (by rfl) (by intro x hx; have y0 := hx; (first | exact exec_arr 40 (.tmp 92) q (j * 136) XX _ rfl hx.1 Try.underlying40 rfl hsx | go_simp); try (intro h; omega)) ?_
                    try simp only [Act.put, List.setIfInBounds_toArray, List.set_cons_zero, List.set_cons_succ]
                    refine anyH_take 29 118 (.bool false) SD rfl (by kernel_rfl) (by kernel_rfl) (by kernel_rfl) (fun _ _ _ h => h) (by rfl) (by intro x hx; have y0 := hx; (first | exact exec_arr 40 (.tmp 92) q (j * 136) XX _ rfl hx.1 Try.underlying40 rfl hsx | go_simp); try (intro h; omega)) ?_
                    try simp only [Act.put, List.setIfInBounds_toArray, List.set_cons_zero, List.set_cons_succ]
                    refine wpAnyH_done (by kernel_rfl) ?_ _
                    go_wp2
                    exact ⟨⟨j + 1, by omega, by go_num, BZ.out.trans (D1.out.mono BZ.out.size)⟩, by simp [intOf]; omega⟩
                  · have hjp : (j : Int) > 0 := by omega
                    have hjpn : 0 < j := by omega
                    have hpar : ¬ gj.tmod 2 = gz.tmod 2 := HPJ.out (by omega)
                    refine wpAny_of_held (S := fun y => y.rangeAt q (j * 136) XX.toList ∧ y.cell? ⟨q, j * 136, none⟩ = some (.int .i64 gj) ∧ y.cell? ⟨q, 0, none⟩ = some (.int .i64 gz) ∧ y.cell? ⟨bx, 0, none⟩ = some (.int .i64 kk)) _ _ _ _ ?_
                    have SD := KZ.out _ D0.out
                    refine anyH_take 0 89 (.slice pT NT2 cT) SD rfl (by kernel_rfl) (by kernel_rfl) (by kernel_rfl) (fun _ _ _ h => h) (by rfl) (by intro x hx; have y0 := hx; (first | exact exec_arr 40 (.tmp 92) q (j * 136) XX _ rfl hx.1 Try.underlying40 rfl hsx | go_simp); try (intro h; omega)) ?_
                    try simp only [Act.put, List.setIfInBounds_toArray, List.set_cons_zero, List.set_cons_succ]
                    refine anyH_take 1 90 (.slice (some ⟨q, 0, none⟩) NL cD) SD rfl (by kernel_rfl) (by kernel_rfl) (by kernel_rfl) (fun _ _ _ h => h) (by rfl) (by intro x hx; have y0 := hx; (first | exact exec_arr 40 (.tmp 92) q (j * 136) XX _ rfl hx.1 Try.underlying40 rfl hsx | go_simp); try (intro h; omega)) ?_
                    try simp only [Act.put, List.setIfInBounds_toArray, List.set_cons_zero, List.set_cons_succ]
                    refine anyH_take 2 91 (.int .i64 (j : Int)) SD rfl (by kernel_rfl) (by kernel_rfl) (by kernel_rfl) (fun _ _ _ h => h) (by rfl) (by intro x hx; have y0 := hx; (first | exact exec_arr 40 (.tmp 92) q (j * 136) XX _ rfl hx.1 Try.underlying40 rfl hsx | go_simp); try (intro h; omega)) ?_
                    try simp only [Act.put, List.setIfInBounds_toArray, List.set_cons_zero, List.set_cons_succ]
                    refine anyH_take 3 92 (.pointer (some ⟨q, (j * 136), none⟩)) SD rfl (by kernel_rfl) (by kernel_rfl) (by kernel_rfl) (fun _ _ _ h => h) (by rfl) (by intro x hx; have y0 := hx; (first | exact exec_arr 40 (.tmp 92) q (j * 136) XX _ rfl hx.1 Try.underlying40 rfl hsx | go_simp); try (intro h; omega)) ?_
                    try simp only [Act.put, List.setIfInBounds_toArray, List.set_cons_zero, List.set_cons_succ]
                    refine anyH_take 4 93 (.agg XX) SD rfl (by kernel_rfl) (by kernel_rfl) (by kernel_rfl) (fun _ _ _ h => h) (by rfl) (by intro x hx; have y0 := hx; (first | exact exec_arr 40 (.tmp 92) q (j * 136) XX _ rfl hx.1 Try.underlying40 rfl hsx | go_simp); try (intro h; omega)) ?_
                    try simp only [Act.put, List.setIfInBounds_toArray, List.set_cons_zero, List.set_cons_succ]
                    refine anyH_one 5 (by kernel_rfl) ?_
                    refine wpOp_step rfl (fun Kc hKc => ?_)
                    go_simp
                    refine (HHJ.out _ (BZ.out.trans (D0.out.mono BZ.out.size))).mono ?_
                    rintro e21 z1 ⟨rfl, hbz1⟩
                    have D1 := Lib.hid (D0.out.trans (hbz1.mono D0.out.size))
                    clear hbz1
                    dsimp only
                    refine hKc _ _ ⟨KZ.out _ D1.out, ?_⟩
                    clear hKc Kc
                    try simp only [Act.put, List.setIfInBounds_toArray, List.set_cons_zero, List.set_cons_succ]
                    clear SD
                    have SD := KZ.out _ D1.out
                    refine anyH_take 6 95 (.bool false) SD rfl (by kernel_rfl) (by kernel_rfl) (by kernel_rfl) (fun _ _ _ h => h) (by rfl) (by intro x hx; have y0 := hx; (first | exact exec_arr 40 (.tmp 92) q (j * 136) XX _ rfl hx.1 Try.underlying40 rfl hsx | go_simp); try (intro h; omega)) ?_
                    try simp only [Act.put, List.setIfInBounds_toArray, List.set_cons_zero, List.set_cons_succ]
                    refine anyH_take 7 96 (.bool false) SD rfl (by kernel_rfl) (by kernel_rfl) (by kernel_rfl) (fun _ _ _ h => h) (by rfl) (by intro x hx; have y0 := hx; (first | exact exec_arr 40 (.tmp 92) q (j * 136) XX _ rfl hx.1 Try.underlying40 rfl hsx | go_simp); try (intro h; omega)) ?_
                    try simp only [Act.put, List.setIfInBounds_toArray, List.set_cons_zero, List.set_cons_succ]
                    refine anyH_skip 8 97 SD rfl (by kernel_rfl) (by kernel_rfl) (by kernel_rfl) (fun _ _ _ h => h) (by rfl) ?_
                    try simp only [Act.put, List.setIfInBounds_toArray, List.set_cons_zero, List.set_cons_succ]
                    refine anyH_skip 9 98 SD rfl (by kernel_rfl) (by kernel_rfl) (by kernel_rfl) (fun _ _ _ h => h) (by rfl) ?_
                    try simp only [Act.put, List.setIfInBounds_toArray, List.set_cons_zero, List.set_cons_succ]
                    refine anyH_skip 10 99 SD rfl (by kernel_rfl) (by kernel_rfl) (by kernel_rfl) (fun _ _ _ h => h) (by rfl) ?_
                    try simp only [Act.put, List.setIfInBounds_toArray, List.set_cons_zero, List.set_cons_succ]
                    refine anyH_take 11 100 (.bool false) SD rfl (by kernel_rfl) (by kernel_rfl) (by kernel_rfl) (fun _ _ _ h => h) (by rfl) (by intro x hx; have y0 := hx; (first | exact exec_arr 40 (.tmp 92) q (j * 136) XX _ rfl hx.1 Try.underlying40 rfl hsx | go_simp); try (intro h; omega)) ?_
                    try simp only [Act.put, List.setIfInBounds_toArray, List.set_cons_zero, List.set_cons_succ]
                    refine anyH_take 12 101 (.bool false) SD rfl (by kernel_rfl) (by kernel_rfl) (by kernel_rfl) (fun _ _ _ h => h) (by rfl) (by intro x hx; have y0 := hx; (first | exact exec_arr 40 (.tmp 92) q (j * 136) XX _ rfl hx.1 Try.underlying40 rfl hsx | go_simp); try (intro h; omega)) ?_
                    try simp only [Act.put, List.setIfInBounds_toArray, List.set_cons_zero, List.set_cons_succ]
                    refine anyH_take 13 102 (.int .i64 (j : Int)) SD rfl (by kernel_rfl) (by kernel_rfl) (by kernel_rfl) (fun _ _ _ h => h) (by rfl) (by intro x hx; have y0 := hx; (first | exact exec_arr 40 (.tmp 92) q (j * 136) XX _ rfl hx.1 Try.underlying40 rfl hsx | go_simp); try (intro h; omega)) ?_
                    try simp only [Act.put, List.setIfInBounds_toArray, List.set_cons_zero, List.set_cons_succ]
                    refine anyH_take 14 103 (.bool true) SD rfl (by kernel_rfl) (by kernel_rfl) (by kernel_rfl) (fun _ _ _ h => h) (by rfl) (by intro x hx; have y0 := hx; (first | exact exec_arr 40 (.tmp 92) q (j * 136) XX _ rfl hx.1 Try.underlying40 rfl hsx | go_simp); try (intro h; omega)) ?_
                    try simp only [Act.put, List.setIfInBounds_toArray, List.set_cons_zero, List.set_cons_succ]
                    refine anyH_take 15 104 (.bool true) SD rfl (by kernel_rfl) (by kernel_rfl) (by kernel_rfl) (fun _ _ _ h => h) (by rfl) (by intro x hx; have y0 := hx; (first | exact exec_arr 40 (.tmp 92) q (j * 136) XX _ rfl hx.1 Try.underlying40 rfl hsx | go_simp); try (intro h; omega)) ?_
                    try simp only [Act.put, List.setIfInBounds_toArray, List.set_cons_zero, List.set_cons_succ]
                    refine anyH_take 16 105 (.slice (some ⟨q, 0, none⟩) NL cD) SD rfl (by kernel_rfl) (by kernel_rfl) (by kernel_rfl) (fun _ _ _ h => h) (by rfl) (by intro x hx; have y0 := hx; (first | exact exec_arr 40 (.tmp 92) q (j * 136) XX _ rfl hx.1 Try.underlying40 rfl hsx | go_simp); try (intro h; omega)) ?_
                    try simp only [Act.put, List.setIfInBounds_toArray, List.set_cons_zero, List.set_cons_succ]
                    refine anyH_take 17 106 (.int .i64 (j : Int)) SD rfl (by kernel_rfl) (by kernel_rfl) (by kernel_rfl) (fun _ _ _ h => h) (by rfl) (by intro x hx; have y0 := hx; (first | exact exec_arr 40 (.tmp 92) q (j * 136) XX _ rfl hx.1 Try.underlying40 rfl hsx | go_simp); try (intro h; omega)) ?_
                    try simp only [Act.put, List.setIfInBounds_toArray, List.set_cons_zero, List.set_cons_succ]
                    refine anyH_take 18 107 (.pointer (some ⟨q, (j * 136), none⟩)) SD rfl (by kernel_rfl) (by kernel_rfl) (by kernel_rfl) (fun _ _ _ h => h) (by rfl) (by intro x hx; have y0 := hx; (first | exact exec_arr 40 (.tmp 92) q (j * 136) XX _ rfl hx.1 Try.underlying40 rfl hsx | go_simp); try (intro h; omega)) ?_
                    try simp only [Act.put, List.setIfInBounds_toArray, List.set_cons_zero, List.set_cons_succ]
                    refine anyH_take 19 108 (.pointer (some ⟨q, (j * 136), none⟩)) SD rfl (by kernel_rfl) (by kernel_rfl) (by kernel_rfl) (fun _ _ _ h => h) (by rfl) (by intro x hx; have y0 := hx; (first | exact exec_arr 40 (.tmp 92) q (j * 136) XX _ rfl hx.1 Try.underlying40 rfl hsx | go_simp); try (intro h; omega)) ?_
                    try simp only [Act.put, List.setIfInBounds_toArray, List.set_cons_zero, List.set_cons_succ]
                    refine anyH_take 20 109 (.int .i64 gj) SD rfl (by kernel_rfl) (by kernel_rfl) (by kernel_rfl) (fun _ _ _ h => h) (by rfl) (by intro x hx; have y0 := hx; (first | exact exec_arr 40 (.tmp 92) q (j * 136) XX _ rfl hx.1 Try.underlying40 rfl hsx | go_simp); try (intro h; omega)) ?_
                    try simp only [Act.put, List.setIfInBounds_toArray, List.set_cons_zero, List.set_cons_succ]
                    refine anyH_take 21 110 (.int .i64 (gj.tmod 2)) SD rfl (by kernel_rfl) (by kernel_rfl) (by kernel_rfl) (fun _ _ _ h => h) (by rfl) (by intro x hx; have y0 := hx; (first | exact exec_arr 40 (.tmp 92) q (j * 136) XX _ rfl hx.1 Try.underlying40 rfl hsx | go_simp); try (intro h; omega)) ?_
                    try simp only [Act.put, List.setIfInBounds_toArray, List.set_cons_zero, List.set_cons_succ]
                    refine anyH_take 22 111 (.slice (some ⟨q, 0, none⟩) NL cD) SD rfl (by kernel_rfl) (by kernel_rfl) (by kernel_rfl) (fun _ _ _ h => h) (by rfl) (by intro x hx; have y0 := hx; (first | exact exec_arr 40 (.tmp 92) q (j * 136) XX _ rfl hx.1 Try.underlying40 rfl hsx | go_simp); try (intro h; omega)) ?_
                    try simp only [Act.put, List.setIfInBounds_toArray, List.set_cons_zero, List.set_cons_succ]
                    refine anyH_take 23 112 (.pointer (some ⟨q, 0, none⟩)) SD rfl (by kernel_rfl) (by kernel_rfl) (by kernel_rfl) (fun _ _ _ h => h) (by rfl) (by intro x hx; have y0 := hx; (first | exact exec_arr 40 (.tmp 92) q (j * 136) XX _ rfl hx.1 Try.underlying40 rfl hsx | go_simp); try (intro h; omega)) ?_
                    try simp only [Act.put, List.setIfInBounds_toArray, List.set_cons_zero, List.set_cons_succ]
                    refine anyH_take 24 113 (.pointer (some ⟨q, 0, none⟩)) SD rfl (by kernel_rfl) (by kernel_rfl) (by kernel_rfl) (fun _ _ _ h => h) (by rfl) (by intro x hx; have y0 := hx; (first | exact exec_arr 40 (.tmp 92) q (j * 136) XX _ rfl hx.1 Try.underlying40 rfl hsx | go_simp); try (intro h; omega)) ?_
                    try simp only [Act.put, List.setIfInBounds_toArray, List.set_cons_zero, List.set_cons_succ]
                    refine anyH_take 25 114 (.int .i64 gz) SD rfl (by kernel_rfl) (by kernel_rfl) (by kernel_rfl) (fun _ _ _ h => h) (by rfl) (by intro x hx; have y0 := hx; (first | exact exec_arr 40 (.tmp 92) q (j * 136) XX _ rfl hx.1 Try.underlying40 rfl hsx | go_simp); try (intro h; omega)) ?_
                    try simp only [Act.put, List.setIfInBounds_toArray, List.set_cons_zero, List.set_cons_succ]
                    refine anyH_take 26 115 (.int .i64 (gz.tmod 2)) SD rfl (by kernel_rfl) (by kernel_rfl) (by kernel_rfl) (fun _ _ _ h => h) (by rfl) (by intro x hx; have y0 := hx; (first | exact exec_arr 40 (.tmp 92) q (j * 136) XX _ rfl hx.1 Try.underlying40 rfl hsx | go_simp); try (intro h; omega)) ?_
                    try simp only [Act.put, List.setIfInBounds_toArray, List.set_cons_zero, List.set_cons_succ]
                    refine anyH_take 27 116 (.bool false) SD rfl (by kernel_rfl) (by kernel_rfl) (by kernel_rfl) (fun _ _ _ h => h) (by rfl) (by intro x hx; have y0 := hx; (first | exact exec_arr 40 (.tmp 92) q (j * 136) XX _ rfl hx.1 Try.underlying40 rfl hsx | go_simp); try (intro h; omega)) ?_
                    try simp only [Act.put, List.setIfInBounds_toArray, List.set_cons_zero, List.set_cons_succ]
                    refine anyH_take 28 117 (.bool false) SD rfl (by kernel_rfl) (by kernel_rfl) (by kernel_rfl) (fun _ _ _ h => h) (by rfl) (by intro x hx; have y0 := hx; (first | exact exec_arr 40 (.tmp 92) q (j * 136) XX _ rfl hx.1 Try.underlying40 rfl hsx | go_simp); try (intro h; omega)) ?_
                    try simp only [Act.put, List.setIfInBounds_toArray, List.set_cons_zero, List.set_cons_succ]
                    refine anyH_take 29 118 (.bool false) SD rfl (by kernel_rfl) (by kernel_rfl) (by kernel_rfl) (fun _ _ _ h => h) (by rfl) (by intro x hx; have y0 := hx; (first | exact exec_arr 40 (.tmp 92) q (j * 136) XX _ rfl hx.1 Try.underlying40 rfl hsx | go_simp); try (intro h; omega)) ?_
                    try simp only [Act.put, List.setIfInBounds_toArray, List.set_cons_zero, List.set_cons_succ]
                    refine wpAnyH_done (by kernel_rfl) ?_ _
                    go_wp2
                    exact ⟨⟨j + 1, by omega, by go_num, BZ.out.trans (D1.out.mono BZ.out.size)⟩, by simp [intOf]; omega⟩
                · have hjg : NL ≤ j := by omega
                  have hjgi : ¬ (j : Int) < (NL : Int) := by omega
                  clear hjl
                  have GE : Hid (wr.heap[bx]? = some (.cells A 44 (0, 0))) := (HBJ.out.block _ (lt_of_block GD.out)).trans GD.out
                  have c0E := (HAK.out.at_ _ _ _ GE.out).1
                  have VE : Hid (Vt w0 K wr d g g2 mD S3 Nm.St.none) := by
                    have h := VD.out.old HBJ.out
                    rw [HSA.out f7] at h
                    exact h
                  have OE : Hid (RsO K wr (.slice pT NT2 cT) TC) := own_kp OD.out (Kp.of_below HBJ.out) (Nat.le_refl _)
                  have IE : Hid (Im K wr (.slice p8 NI c8) NI) := ID.out.kp (Kp.of_below HBJ.out)
                  have hq7 : o.k ≠ 7 := by simpa using f7
                  clear HHAS HIN HPA HRD HRT HQ0 HBJ GD OD ID VD HSA GE hjg
                  go_wp2
                  go_loopw [8, 13] (fun v8 v13 wr3 => ∃ (i N2 : Nat) (m2 : Dk.M), 1 ≤ i ∧ i ≤ 3 ∧ v13 = .int .i64 (i : Int) ∧ Hid (N2 + 1 = NI + i) ∧ Hid (Im K wr3 v8 N2) ∧ Hid (RsO K wr3 (.slice pT NT2 cT) TC) ∧ Hid (Vt w0 K wr3 d g g2 m2 S3 Nm.St.none) ∧ Hid (m2.wr ≤ 10 * k + 3 ∧ (∀ j, m2.rd j ≤ 10 * k + 4 + i) ∧ m2.n = 4)) (fun _ v13 _ => 3 - (intOf v13).toNat)
                  case atStart => exact ⟨1, NI, mD, by omega, by omega, rfl, rfl, IE.out, OE.out, VE.out, HMD.out⟩
                  case round =>
                    obtain ⟨i, N2, m2, hi1, hi3, rfl, HN2, IF, OF, VF, HMF⟩ := hrel
                    clear VE OE IE
                    by_cases hi2 : i < 3
                    · have hle : (i : Int) ≤ 2 := by omega
                      obtain ⟨pF, cF, hvF⟩ := IF.out.len
                      subst hvF
                      have HRF := Lib.hid (vt_read (i : Int) (fun j => by have := HMF.out.2.1 j; omega) VF.out)
                      have HXL := Lib.hid (Rg.rdX_le VF.out.vs.ok (i : Int))
                      have HMG : Hid ((Dk.rdM m2 (i : Int)).wr ≤ 10 * k + 3 ∧ (∀ j, (Dk.rdM m2 (i : Int)).rd j ≤ 10 * k + 4 + (i + 1)) ∧ (Dk.rdM m2 (i : Int)).n = 4) := by
                        have e1 := Rg.rdM_le m2 (i : Int)
                        have e2 := (Rg.rdM_same m2 (i : Int)).2.2.2.1
                        refine ⟨by rw [e2]; exact HMF.out.1, fun j => ?_, by rw [e1.2.2]; exact HMF.out.2.2⟩
                        have a1 := e1.2.1 j
                        have a2 := HMF.out.2.1 j
                        omega
                      unfold VtRd at HRF
                      generalize Dk.rdM m2 (i : Int) = m3 at *
                      generalize Dk.rdX m2 (i : Int) = LX at *
                      obtain ⟨nl, hnl⟩ : ∃ nl, LX.length = nl := ⟨_, rfl⟩
                      rw [hnl] at HRF HXL
                      go_upto_region 31 with (go_at_call 17; refine HRF.out.mono ?_; rintro e9 w9 ⟨p9, c9, rfl, HO9, HB9, HV9, HK9⟩)
                      have HU : Hid (Im1 K w9 (.slice p9 nl c9)) := by
                        refine ⟨p9, c9, LX, by rw [hnl], by rw [hnl]; exact HXL.out, HB9.out.bat.1, ?_⟩
                        rw [hnl]
                        exact own_weak HO9.out VF.out.size
                      have IF9 := Lib.hid (IF.out.kp HK9.out)
                      have OF9 : Hid (RsO K w9 (.slice pT NT2 cT) TC) := own_kp OF.out HK9.out (Nat.le_refl _)
                      have S9 : Hid (K ≤ w9.heap.size) := HV9.out.size
                      go_upto_region 29 with (at_builtin; (with_reducible refine app_im _ _ K _ _ N2 ?_ ?_ IF9.out HU.out ?_ S9.out ?_); (exact rfl); (exact rfl); (have := HN2.out; have := HTC.out.2.2.2; omega); intro q10 d10 w10 HI10 HS10 HT10 HG10)
                      have VF10 := Lib.hid (vt_far HV9.out HT10.out (by decide) (by decide) HG10.out).1
                      have OF10 : Hid (RsO K w10 (.slice pT NT2 cT) TC) := own_other OF9.out (fun q h => (HT10.out q h).2) (by decide) HG10.out
                      go_wp2
                      exact ⟨⟨i + 1, N2 + 1, m3, by omega, by omega, by go_num, by show N2 + 1 + 1 = NI + (i + 1); have := HN2.out; omega, HI10.out, OF10.out, VF10.out, HMG.out⟩, by simp [intOf]; omega⟩
                    · have hi33 : i = 3 := by omega
                      subst hi33
                      have hN3 : N2 = NI + 2 := by have := HN2.out; omega
                      subst hN3
                      go_wp2
                      exact ⟨⟨k + 1, NI + 2, TC, m2, S3, by omega, by go_num, OF.out, IF.out, ⟨HTC.out.1, HTC.out.2.1, HTC.out.2.2.1, by have := HTC.out.2.2.2; omega⟩, VF.out, ⟨by have := HMF.out.1; omega, fun j => by have := HMF.out.2.1 j; omega, HSC.out, HMF.out.2.2⟩⟩, by simp [intOf]; omega⟩
        · have f6 : (o.k == 6) = false := by simpa using k6
          by_cases k0 : o.k = 0
          · have f0 : (o.k == 0) = true := by simpa using k0
            as_aux_lemma =>
              go_upto_region 16 with (fail)
              obtain ⟨wA, mA, S2A, VA, GA, OA, IA, HMA, HSA⟩ : ∃ (wA : World) (mA : Dk.M) (S2A : Nm.St), Hid (Vt w0 K wA d g g2 mA S S2A) ∧ Hid (wA.heap[bx]? = some (.cells A 44 (0, 0))) ∧ Hid (RsO K wA u7 T) ∧ Hid (Im K wA (.slice p8 NI c8) NI) ∧ Hid (mA.wr ≤ m.wr + 1 ∧ (∀ j, mA.rd j ≤ m.rd j + 1) ∧ mA.n = m.n) ∧ Hid ((o.k == 7) = false → S2A = Nm.St.none) ∧ wA = w4 := ⟨w4, m, _, V4, G4, O4, I4, ⟨Nat.le_succ _, fun j => Nat.le_succ _, rfl⟩, fun _ => rfl, rfl⟩
              obtain ⟨HSA, hwA⟩ := HSA
              rw [← hwA]
              clear hwA V4 G4 O4 I4
              have HRUN : Hid (∀ y, Vt w0 K y d g g2 mA S S2A → Calls Try.prog 14 #[.pointer (some ⟨d, 0, none⟩), .iface 29 (.pointer (some ⟨g, 0, none⟩)), .agg A] y (RunSay w0 K d g g2 o mA S S2A y)) := fun y hy => run_any o A pd cd pf cf HAK.out HOP.out y hy ⟨HDL.out, by have h1 := HMA.out.1; have h2 := HC.out.1; omega, by have h2 := HC.out.2.2.1; omega, fun j => by have h1 := HMA.out.2.1 j; have h2 := HC.out.2.1 j; omega⟩
              go_upto_region 17 with (first
                | ((with_reducible refine row_load _ _ _ _ _ _ _ ?_ GA.out Try.underlying44 ?_ hsa ?_); (exact rfl); (exact rfl))
                | (go_at_call 14; refine (HRUN.out _ VA.out).mono ?_; rintro e6 wB ⟨er6, mB, rfl, VB, HMB, HKC⟩))
              have GB : Hid (wB.heap[bx]? = some (.cells A 44 (0, 0))) := (HKC.out.block bx HKB.out (lt_of_block GA.out)).trans GA.out
              have OB : Hid (RsO K wB u7 T) := own_kp OA.out HKC.out (Nat.le_refl _)
              have IB : Hid (Im K wB (.slice p8 NI c8) NI) := IA.out.kp HKC.out
              have HMC : Hid (mB.wr ≤ 10 * k + 2 ∧ (∀ j, mB.rd j ≤ 10 * k + 2) ∧ mB.n = 4) := ⟨by have h1 := HMA.out.1; have h2 := HC.out.1; have h3 := HMB.out.1; omega, fun j => by have h1 := HMA.out.2.1 j; have h2 := HC.out.2.1 j; have h3 := HMB.out.2.1 j; omega, by rw [HMB.out.2.2, HMA.out.2.2]; exact HC.out.2.2.2⟩
              have HSC : Hid ((Rg.rS S o).ss.length ≤ k + 1) := by
                have h2 := HC.out.2.2.1
                show _ ≤ _
                unfold Rg.rS
                split
                · exact Nat.le_trans (Rg.vS_le S o.r o.n) (by omega)
                · omega
              obtain ⟨d0, d1, d2, rB, d4, d5⟩ := HAK.out.at_ _ _ _ GB.out
              have HRB := Lib.hid rB
              clear VA GA OA IA HMA HMB HKC HRUN HCW rB d1 d2 d4 d5 c0 c1 c2' c4 c5 HC
              have HTN : Hid (Rg.Told (T ++ [o.r]) (Rg.rS S o)) := by
                show Rg.Told _ _
                unfold Rg.rS
                rw [if_pos (by simpa using f0)]
                exact Rg.told_vS HT.out.1 o.r o.n
              have hTL : T.length ≤ 100000 := by have h1 := HT.out.2.2.1; omega
              have HKS := Lib.hid VB.out.size
              obtain ⟨NT, hNT⟩ : ∃ NT, T.length = NT := ⟨_, rfl⟩
              have HNT := Lib.hid hNT
              rw [hNT] at hTL
              have HTok := Lib.hid HT.out.2.1
              have HOW : Hid (∀ q, u7.ownBlock = some q → K ≤ q ∧ ∃ cur, wB.heap[q]? = some (.cells cur 40 (0, 0))) := own_type OB.out
              clear hNT
              go_upto_region 19 with (first
                | ((with_reducible refine rng_load_g _ _ bx 3 (RAr o.r) _ ?_ ?_ HRB.out Try.underlying40 ?_ hsr ?_); (exact rfl); (exact rfl); (exact rfl))
                | ((with_reducible refine bs_one _ o.r HRO.out ?_ ?_); (exact rfl))
                | ((with_reducible refine app_rc _ _ K _ T o.r ?_ ?_ OB.out HTok.out HRO.out NT HNT.out hTL HKS.out ?_); (exact rfl); (exact rfl); intro q9 d9 wC OC K9 GR9))
              have VC := Lib.hid (vt_far VB.out HOW.out (by decide) (by decide) GR9.out).1
              have GC : Hid (wC.heap[bx]? = some (.cells A 44 (0, 0))) := blk_other GB.out (fun q h => (HOW.out q h).2) (by decide) GR9.out
              have IC : Hid (Im K wC (.slice p8 NI c8) NI) := IB.out.grown (fun q h => (HOW.out q h).2) (by decide) (by decide) GR9.out
              have HTC : Hid (Rg.Told (T ++ [o.r]) (Rg.rS S o) ∧ (∀ r ∈ T ++ [o.r], Rg.Ok r) ∧ (T ++ [o.r]).length ≤ k + 1 ∧ NI ≤ 2 * k) := ⟨HTN.out, Rg.ok_app HTok.out (fun r hr => by rw [List.mem_singleton] at hr; rw [hr]; exact HRO.out), by rw [List.length_append]; have h1 := HT.out.2.2.1; show _ + 1 ≤ _; omega, HT.out.2.2.2⟩
              generalize Value.slice q9 (NT + 1) d9 = v7C at *
              generalize T ++ [o.r] = TC at *
              clear HTN HKS HNT HOW K9 GR9 VB GB OB IB HRB
              have HBY : Hid (∀ i, i < mB.n → Sha.Byt (Dk.peek mB i)) := VC.out.vs.byt
              have HIN : Hid (∀ x ∈ Rg.vA mB (Rg.rS S o), x ∈ TC) := Rg.vA_told HBY.out HTC.out.1 HTC.out.2.1
              have HPA := Lib.hid (Rg.vA_par HBY.out (Rg.rS S o))
              have HRDC : Hid (∀ j, mB.rd j ≤ 999999990) := fun j => by have h1 := HMC.out.2.1 j; omega
              have HALL := Lib.hid (vt_all VC.out HRDC.out)
              obtain ⟨mD, hmD⟩ : ∃ mD, Hid (Rg.alM mB 2 = mD) := ⟨_, rfl⟩
              have HMD : Hid (mD.wr ≤ 10 * k + 3 ∧ (∀ j, mD.rd j ≤ 10 * k + 5) ∧ mD.n = 4) := by
                rw [← hmD.out]
                obtain ⟨h1, h2, h3⟩ := HMC.out
                have e1 := Rg.rdM_le mB 1
                have e2 := Rg.rdM_le (Dk.rdM mB 1) 2
                have e : Rg.alM mB 2 = Dk.rdM (Dk.rdM mB 1) 2 := rfl
                have w1 := (Rg.rdM_same mB 1).2.2.2.1
                have w2 := (Rg.rdM_same (Dk.rdM mB 1) 2).2.2.2.1
                rw [e]
                refine ⟨by omega, fun j => ?_, by rw [e2.2.2, e1.2.2]; exact h3⟩
                have a1 := e1.2.1 j
                have a2 := e2.2.1 j
                have a3 := h2 j
                omega
              unfold VtAll at HALL
              rw [hmD.out] at HALL
              obtain ⟨LA, hLA⟩ : ∃ LA, Rg.vA mB (Rg.rS S o) = LA := ⟨_, rfl⟩
              rw [hLA] at HALL HPA HIN
              obtain ⟨S3, hS3⟩ : ∃ S3, Rg.rS S o = S3 := ⟨_, rfl⟩
              rw [hS3] at HALL HTC HSC
              clear hLA hS3 VC HBY HRDC HMC hmD HT
              go_upto_region 20 with (go_at_call 15; refine HALL.out.mono ?_; rintro e7 wD ⟨v7D, rfl, HOD, HOKD, VD, HKD⟩)
              have GD : Hid (wD.heap[bx]? = some (.cells A 44 (0, 0))) := (HKD.out.block bx HKB.out (lt_of_block GC.out)).trans GC.out
              have OD : Hid (RsO K wD v7C TC) := own_kp OC.out HKD.out (Nat.le_refl _)
              have ID : Hid (Im K wD (.slice p8 NI c8) NI) := IC.out.kp HKD.out
              obtain ⟨pD, cD, hvD, hrD⟩ := HOD.out.es HOKD.out
              subst hvD
              have HRD := Lib.hid hrD
              have HQ0 : Hid (0 < LA.length → ∃ q, pD = some ⟨q, 0, none⟩) := fun h0 => own_zero2 h0 HOD.out hrD
              obtain ⟨pT, cT, hvT, hrT⟩ := OD.out.es HTC.out.2.1
              subst hvT
              have HRT := Lib.hid hrT
              obtain ⟨NT2, hNT2⟩ : ∃ NT2, TC.length = NT2 := ⟨_, rfl⟩
              rw [hNT2] at OD ⊢
              have HNT2 := Lib.hid hNT2
              obtain ⟨NL, hNL⟩ : ∃ NL, LA.length = NL := ⟨_, rfl⟩
              rw [hNL] at HPA HQ0 ⊢
              have HNL := Lib.hid hNL
              have HHAS : Hid (∀ y j, Below wD.heap.size wD y → j < NL → Calls Try.prog 16 #[.slice pT NT2 cT, .agg (RAr (LA.getD j Rg.zero))] y (BlSay true y)) := fun y j hy hj => by
                have hm : LA.getD j Rg.zero ∈ LA := by rw [List.getD_eq_getElem?_getD, List.getElem?_eq_getElem (by rw [HNL.out]; exact hj)]; exact List.getElem_mem _
                have h := rhas_any TC (LA.getD j Rg.zero) (HOKD.out _ hm) pT NT2 cT HNT2.out (by have h1 := HTC.out.2.2.1; rw [HNT2.out] at h1; omega) y (HRT.out.old hy)
                rw [decide_eq_true (HIN.out _ hm)] at h
                exact h
              clear hrD hrT hNT2 hNL HOD HKD HALL GC OC IC
              go_wp2
              go_loopw [12] (fun v12 wr2 => ∃ j : Nat, j ≤ NL ∧ v12 = .int .i64 (j : Int) ∧ Hid (Below wD.heap.size wD wr2)) (fun v12 _ => NL - (intOf v12).toNat)
              case atStart => exact ⟨0, by omega, rfl, Below.refl _ _⟩
              case round =>
                obtain ⟨j, hj, rfl, HBJ⟩ := hrel
                by_cases hjl : j < NL
                · obtain ⟨q, hq⟩ := HQ0.out (by omega)
                  subst hq
                  have hji : (j : Int) < (NL : Int) := by omega
                  have hjn : 0 ≤ (j : Int) := by omega
                  have hj00 : (0 : Int) < (NL : Int) := by omega
                  have HKY : Hid (∀ y, Below wD.heap.size wD y → y.rangeAt q (j * 136) (RAr (LA.getD j Rg.zero)).toList ∧ y.cell? ⟨q, j * 136, none⟩ = some (.int .i64 (LA.getD j Rg.zero).gen) ∧ y.cell? ⟨q, 0, none⟩ = some (.int .i64 (LA.getD 0 Rg.zero).gen) ∧ y.cell? ⟨bx, 0, none⟩ = some (.int .i64 o.k)) := fun y hy => by
                    have a1 := (HRD.out.old hy).rng (i := j) (by rw [HNL.out]; exact hjl)
                    have a2 := (HRD.out.old hy).rng (i := 0) (by rw [HNL.out]; omega)
                    rw [Nat.zero_add] at a1
                    rw [Nat.zero_add, Nat.zero_mul] at a2
                    exact ⟨a1, rec_cells a1, rec_cells a2, (HAK.out.at_ _ _ _ ((hy.block _ (lt_of_block GD.out)).trans GD.out)).1⟩
                  have HPJ : Hid (0 < j → (LA.getD j Rg.zero).gen.tmod 2 ≠ (LA.getD 0 Rg.zero).gen.tmod 2) := fun h0 => HPA.out.2 j h0 hjl
                  have HHJ : Hid (∀ y, Below wD.heap.size wD y → Calls Try.prog 16 #[.slice pT NT2 cT, .agg (RAr (LA.getD j Rg.zero))] y (BlSay true y)) := fun y hy => HHAS.out y j hy hjl
                  have hXS : (RAr (LA.getD j Rg.zero)).size = 136 := rar_size (HRD.out.getD j)
                  have hsx := row_size Try.sizeRec (Lib.hid hXS)
                  generalize RAr (LA.getD j Rg.zero) = XX at *
                  generalize (LA.getD j Rg.zero).gen = gj at *
                  generalize (LA.getD 0 Rg.zero).gen = gz at *
                  generalize o.k = kk at *
                  clear hXS hj
                  have hNL2 : NL ≤ 2 := HPA.out.1
                  go_upto_region 23 with (fail)
                  have BZ := Lib.hid HBJ.out.drew
                  refine wp_region_any (by kernel_rfl) ?_
                  change wpAny _ _ _ _ _ _ _ (World.drew _)
                  obtain ⟨z, hz'⟩ : ∃ x, x = wr.drew := ⟨_, rfl⟩
                  rw [← hz'] at BZ ⊢
                  clear hz'
                  have KZ : Hid (∀ y, Below z.heap.size z y → y.rangeAt q (j * 136) XX.toList ∧ y.cell? ⟨q, j * 136, none⟩ = some (.int .i64 gj) ∧ y.cell? ⟨q, 0, none⟩ = some (.int .i64 gz) ∧ y.cell? ⟨bx, 0, none⟩ = some (.int .i64 kk)) := fun y hy => HKY.out y (BZ.out.trans (hy.mono BZ.out.size))
                  have D0 : Hid (Below z.heap.size z z) := Below.refl _ _
                  by_cases hjz : j = 0
                  · have hjp : ¬ (j : Int) > 0 := by omega
                    refine wpAny_of_held (S := fun y => y.rangeAt q (j * 136) XX.toList ∧ y.cell? ⟨q, j * 136, none⟩ = some (.int .i64 gj) ∧ y.cell? ⟨q, 0, none⟩ = some (.int .i64 gz) ∧ y.cell? ⟨bx, 0, none⟩ = some (.int .i64 kk)) _ _ _ _ ?_
                    have SD := KZ.out _ D0.out
                    refine anyH_take 0 89 (.slice pT NT2 cT) SD rfl (by kernel_rfl) (by kernel_rfl) (by kernel_rfl) (fun _ _ _ h => h) (by rfl) (by intro x hx; have y0 := hx; (first | exact exec_arr 40 (.tmp 92) q (j * 136) XX _ rfl hx.1 Try.underlying40 rfl hsx | go_simp); try (intro h; omega)) ?_
                    try simp only [Act.put, List.setIfInBounds_toArray, List.set_cons_zero, List.set_cons_succ]
                    refine anyH_take 1 90 (.slice (some ⟨q, 0, none⟩) NL cD) SD rfl (by kernel_rfl) (by kernel_rfl) (by kernel_rfl) (fun _ _ _ h => h) (by rfl) (by intro x hx; have y0 := hx; (first | exact exec_arr 40 (.tmp 92) q (j * 136) XX _ rfl hx.1 Try.underlying40 rfl hsx | go_simp); try (intro h; omega)) ?_
                    try simp only [Act.put, List.setIfInBounds_toArray, List.set_cons_zero, List.set_cons_succ]
                    refine anyH_take 2 91 (.int .i64 (j : Int)) SD rfl (by kernel_rfl) (by kernel_rfl) (by kernel_rfl) (fun _ _ _ h => h) (by rfl) (by intro x hx; have y0 := hx; (first | exact exec_arr 40 (.tmp 92) q (j * 136) XX _ rfl hx.1 Try.underlying40 rfl hsx | go_simp); try (intro h; omega)) ?_
                    try simp only [Act.put, List.setIfInBounds_toArray, List.set_cons_zero, List.set_cons_succ]
                    refine anyH_take 3 92 (.pointer (some ⟨q, (j * 136), none⟩)) SD rfl (by kernel_rfl) (by kernel_rfl) (by kernel_rfl) (fun _ _ _ h => h) (by rfl) (by intro x hx; have y0 := hx; (first | exact exec_arr 40 (.tmp 92) q (j * 136) XX _ rfl hx.1 Try.underlying40 rfl hsx | go_simp); try (intro h; omega)) ?_
                    try simp only [Act.put, List.setIfInBounds_toArray, List.set_cons_zero, List.set_cons_succ]
                    refine anyH_take 4 93 (.agg XX) SD rfl (by kernel_rfl) (by kernel_rfl) (by kernel_rfl) (fun _ _ _ h => h) (by rfl) (by intro x hx; have y0 := hx; (first | exact exec_arr 40 (.tmp 92) q (j * 136) XX _ rfl hx.1 Try.underlying40 rfl hsx | go_simp); try (intro h; omega)) ?_
                    try simp only [Act.put, List.setIfInBounds_toArray, List.set_cons_zero, List.set_cons_succ]
                    refine anyH_one 5 (by kernel_rfl) ?_
                    refine wpOp_step rfl (fun Kc hKc => ?_)
                    go_simp
                    refine (HHJ.out _ (BZ.out.trans (D0.out.mono BZ.out.size))).mono ?_
                    rintro e21 z1 ⟨rfl, hbz1⟩
                    have D1 := Lib.hid (D0.out.trans (hbz1.mono D0.out.size))
                    clear hbz1
                    dsimp only
                    refine hKc _ _ ⟨KZ.out _ D1.out, ?_⟩
                    clear hKc Kc
                    try simp only [Act.put, List.setIfInBounds_toArray, List.set_cons_zero, List.set_cons_succ]
                    clear SD
                    have SD := KZ.out _ D1.out
                    refine anyH_take 6 95 (.bool false) SD rfl (by kernel_rfl) (by kernel_rfl) (by kernel_rfl) (fun _ _ _ h => h) (by rfl) (by intro x hx; have y0 := hx; (first | exact exec_arr 40 (.tmp 92) q (j * 136) XX _ rfl hx.1 Try.underlying40 rfl hsx | go_simp); try (intro h; omega)) ?_
                    try simp only [Act.put, List.setIfInBounds_toArray, List.set_cons_zero, List.set_cons_succ]
                    refine anyH_take 7 96 (.bool false) SD rfl (by kernel_rfl) (by kernel_rfl) (by kernel_rfl) (fun _ _ _ h => h) (by rfl) (by intro x hx; have y0 := hx; (first | exact exec_arr 40 (.tmp 92) q (j * 136) XX _ rfl hx.1 Try.underlying40 rfl hsx | go_simp); try (intro h; omega)) ?_
                    try simp only [Act.put, List.setIfInBounds_toArray, List.set_cons_zero, List.set_cons_succ]
                    refine anyH_skip 8 97 SD rfl (by kernel_rfl) (by kernel_rfl) (by kernel_rfl) (fun _ _ _ h => h) (by rfl) ?_
                    try simp only [Act.put, List.setIfInBounds_toArray, List.set_cons_zero, List.set_cons_succ]
                    refine anyH_skip 9 98 SD rfl (by kernel_rfl) (by kernel_rfl) (by kernel_rfl) (fun _ _ _ h => h) (by rfl) ?_
                    try simp only [Act.put, List.setIfInBounds_toArray, List.set_cons_zero, List.set_cons_succ]
                    refine anyH_skip 10 99 SD rfl (by kernel_rfl) (by kernel_rfl) (by kernel_rfl) (fun _ _ _ h => h) (by rfl) ?_
                    try simp only [Act.put, List.setIfInBounds_toArray, List.set_cons_zero, List.set_cons_succ]
                    refine anyH_take 11 100 (.bool false) SD rfl (by kernel_rfl) (by kernel_rfl) (by kernel_rfl) (fun _ _ _ h => h) (by rfl) (by intro x hx; have y0 := hx; (first | exact exec_arr 40 (.tmp 92) q (j * 136) XX _ rfl hx.1 Try.underlying40 rfl hsx | go_simp); try (intro h; omega)) ?_
                    try simp only [Act.put, List.setIfInBounds_toArray, List.set_cons_zero, List.set_cons_succ]
                    refine anyH_take 12 101 (.bool false) SD rfl (by kernel_rfl) (by kernel_rfl) (by kernel_rfl) (fun _ _ _ h => h) (by rfl) (by intro x hx; have y0 := hx; (first | exact exec_arr 40 (.tmp 92) q (j * 136) XX _ rfl hx.1 Try.underlying40 rfl hsx | go_simp); try (intro h; omega)) ?_
                    try simp only [Act.put, List.setIfInBounds_toArray, List.set_cons_zero, List.set_cons_succ]
                    refine anyH_take 13 102 (.int .i64 (j : Int)) SD rfl (by kernel_rfl) (by kernel_rfl) (by kernel_rfl) (fun _ _ _ h => h) (by rfl) (by intro x hx; have y0 := hx; (first | exact exec_arr 40 (.tmp 92) q (j * 136) XX _ rfl hx.1 Try.underlying40 rfl hsx | go_simp); try (intro h; omega)) ?_
                    try simp only [Act.put, List.setIfInBounds_toArray, List.set_cons_zero, List.set_cons_succ]
                    refine anyH_take 14 103 (.bool false) SD rfl (by kernel_rfl) (by kernel_rfl) (by kernel_rfl) (fun _ _ _ h => h) (by rfl) (by intro x hx; have y0 := hx; (first | exact exec_arr 40 (.tmp 92) q (j * 136) XX _ rfl hx.1 Try.underlying40 rfl hsx | go_simp); try (intro h; omega)) ?_
                    try simp only [Act.put, List.setIfInBounds_toArray, List.set_cons_zero, List.set_cons_succ]
                    refine anyH_take 15 104 (.bool false) SD rfl (by kernel_rfl) (by kernel_rfl) (by kernel_rfl) (fun _ _ _ h => h) (by rfl) (by intro x hx; have y0 := hx; (first | exact exec_arr 40 (.tmp 92) q (j * 136) XX _ rfl hx.1 Try.underlying40 rfl hsx | go_simp); try (intro h; omega)) ?_
                    try simp only [Act.put, List.setIfInBounds_toArray, List.set_cons_zero, List.set_cons_succ]
                    refine anyH_skip 16 105 SD rfl (by kernel_rfl) (by kernel_rfl) (by kernel_rfl) (fun _ _ _ h => h) (by rfl) ?_
                    try simp only [Act.put, List.setIfInBounds_toArray, List.set_cons_zero, List.set_cons_succ]
                    refine anyH_skip 17 106 SD rfl (by kernel_rfl) (by kernel_rfl) (by kernel_rfl) (fun _ _ _ h => h) (by rfl) ?_
                    try simp only [Act.put, List.setIfInBounds_toArray, List.set_cons_zero, List.set_cons_succ]
                    refine anyH_skip 18 107 SD rfl (by kernel_rfl) (by kernel_rfl) (by kernel_rfl) (fun _ _ _ h => h) (by rfl) ?_
                    try simp only [Act.put, List.setIfInBounds_toArray, List.set_cons_zero, List.set_cons_succ]
                    refine anyH_skip 19 108 SD rfl (by kernel_rfl) (by kernel_rfl) (by kernel_rfl) (fun _ _ _ h => h) (by rfl) ?_
                    try simp only [Act.put, List.setIfInBounds_toArray, List.set_cons_zero, List.set_cons_succ]
                    refine anyH_skip 20 109 SD rfl (by kernel_rfl) (by kernel_rfl) (by kernel_rfl) (fun _ _ _ h => h) (by rfl) ?_
                    try simp only [Act.put, List.setIfInBounds_toArray, List.set_cons_zero, List.set_cons_succ]
                    refine anyH_skip 21 110 SD rfl (by kernel_rfl) (by kernel_rfl) (by kernel_rfl) (fun _ _ _ h => h) (by rfl) ?_
                    try simp only [Act.put, List.setIfInBounds_toArray, List.set_cons_zero, List.set_cons_succ]
                    refine anyH_skip 22 111 SD rfl (by kernel_rfl) (by kernel_rfl) (by kernel_rfl) (fun _ _ _ h => h) (by rfl) ?_
                    try simp only [Act.put, List.setIfInBounds_toArray, List.set_cons_zero, List.set_cons_succ]
                    refine anyH_skip 23 112 SD rfl (by kernel_rfl) (by kernel_rfl) (by kernel_rfl) (fun _ _ _ h => h) (by rfl) ?_
                    try simp only [Act.put, List.setIfInBounds_toArray, List.set_cons_zero, List.set_cons_succ]
                    refine anyH_skip 24 113 SD rfl (by kernel_rfl) (by kernel_rfl) (by kernel_rfl) (fun _ _ _ h => h) (by rfl) ?_
                    try simp only [Act.put, List.setIfInBounds_toArray, List.set_cons_zero, List.set_cons_succ]
                    refine anyH_skip 25 114 SD rfl (by kernel_rfl) (by kernel_rfl) (by kernel_rfl) (fun _ _ _ h => h) (by rfl) ?_
                    try simp only [Act.put, List.setIfInBounds_toArray, List.set_cons_zero, List.set_cons_succ]
                    refine anyH_skip 26 115 SD rfl (by kernel_rfl) (by kernel_rfl) (by kernel_rfl) (fun _ _ _ h => h) (by rfl) ?_
                    try simp only [Act.put, List.setIfInBounds_toArray, List.set_cons_zero, List.set_cons_succ]
                    refine anyH_skip 27 116 SD rfl (by kernel_rfl) (by kernel_rfl) (by kernel_rfl) (fun _ _ _ h => h) (by rfl) ?_
                    try simp only [Act.put, List.setIfInBounds_toArray, List.set_cons_zero, List.set_cons_succ]
                    refine anyH_take 28 117 (.bool false) SD rfl (by kernel_rfl) (by kernel_rfl) (by kernel_rfl) (fun _ _ _ h => h) (by rfl) (by intro x hx; have y0 := hx; (first | exact exec_arr 40 (.tmp 92) q (j * 136) XX _ rfl hx.1 Try.underlying40 rfl hsx | go_simp); try (intro h; omega)) ?_
                    try simp only [Act.put, List.setIfInBounds_toArray, List.set_cons_zero, List.set_cons_succ]
                    refine anyH_take 29 118 (.bool false) SD rfl (by kernel_rfl) (by kernel_rfl) (by kernel_rfl) (fun _ _ _ h => h) (by rfl) (by intro x hx; have y0 := hx; (first | exact exec_arr 40 (.tmp 92) q (j * 136) XX _ rfl hx.1 Try.underlying40 rfl hsx | go_simp); try (intro h; omega)) ?_
                    try simp only [Act.put, List.setIfInBounds_toArray, List.set_cons_zero, List.set_cons_succ]
                    refine wpAnyH_done (by kernel_rfl) ?_ _
                    go_wp2
                    exact ⟨⟨j + 1, by omega, by go_num, BZ.out.trans (D1.out.mono BZ.out.size)⟩, by simp [intOf]; omega⟩
                  · have hjp : (j : Int) > 0 := by omega
                    have hjpn : 0 < j := by omega
                    have hpar : ¬ gj.tmod 2 = gz.tmod 2 := HPJ.out (by omega)
                    refine wpAny_of_held (S := fun y => y.rangeAt q (j * 136) XX.toList ∧ y.cell? ⟨q, j * 136, none⟩ = some (.int .i64 gj) ∧ y.cell? ⟨q, 0, none⟩ = some (.int .i64 gz) ∧ y.cell? ⟨bx, 0, none⟩ = some (.int .i64 kk)) _ _ _ _ ?_
                    have SD := KZ.out _ D0.out
                    refine anyH_take 0 89 (.slice pT NT2 cT) SD rfl (by kernel_rfl) (by kernel_rfl) (by kernel_rfl) (fun _ _ _ h => h) (by rfl) (by intro x hx; have y0 := hx; (first | exact exec_arr 40 (.tmp 92) q (j * 136) XX _ rfl hx.1 Try.underlying40 rfl hsx | go_simp); try (intro h; omega)) ?_
                    try simp only [Act.put, List.setIfInBounds_toArray, List.set_cons_zero, List.set_cons_succ]
                    refine anyH_take 1 90 (.slice (some ⟨q, 0, none⟩) NL cD) SD rfl (by kernel_rfl) (by kernel_rfl) (by kernel_rfl) (fun _ _ _ h => h) (by rfl) (by intro x hx; have y0 := hx; (first | exact exec_arr 40 (.tmp 92) q (j * 136) XX _ rfl hx.1 Try.underlying40 rfl hsx | go_simp); try (intro h; omega)) ?_
                    try simp only [Act.put, List.setIfInBounds_toArray, List.set_cons_zero, List.set_cons_succ]
                    refine anyH_take 2 91 (.int .i64 (j : Int)) SD rfl (by kernel_rfl) (by kernel_rfl) (by kernel_rfl) (fun _ _ _ h => h) (by rfl) (by intro x hx; have y0 := hx; (first | exact exec_arr 40 (.tmp 92) q (j * 136) XX _ rfl hx.1 Try.underlying40 rfl hsx | go_simp); try (intro h; omega)) ?_
                    try simp only [Act.put, List.setIfInBounds_toArray, List.set_cons_zero, List.set_cons_succ]
                    refine anyH_take 3 92 (.pointer (some ⟨q, (j * 136), none⟩)) SD rfl (by kernel_rfl) (by kernel_rfl) (by kernel_rfl) (fun _ _ _ h => h) (by rfl) (by intro x hx; have y0 := hx; (first | exact exec_arr 40 (.tmp 92) q (j * 136) XX _ rfl hx.1 Try.underlying40 rfl hsx | go_simp); try (intro h; omega)) ?_
                    try simp only [Act.put, List.setIfInBounds_toArray, List.set_cons_zero, List.set_cons_succ]
                    refine anyH_take 4 93 (.agg XX) SD rfl (by kernel_rfl) (by kernel_rfl) (by kernel_rfl) (fun _ _ _ h => h) (by rfl) (by intro x hx; have y0 := hx; (first | exact exec_arr 40 (.tmp 92) q (j * 136) XX _ rfl hx.1 Try.underlying40 rfl hsx | go_simp); try (intro h; omega)) ?_
                    try simp only [Act.put, List.setIfInBounds_toArray, List.set_cons_zero, List.set_cons_succ]
                    refine anyH_one 5 (by kernel_rfl) ?_
                    refine wpOp_step rfl (fun Kc hKc => ?_)
                    go_simp
                    refine (HHJ.out _ (BZ.out.trans (D0.out.mono BZ.out.size))).mono ?_
                    rintro e21 z1 ⟨rfl, hbz1⟩
                    have D1 := Lib.hid (D0.out.trans (hbz1.mono D0.out.size))
                    clear hbz1
                    dsimp only
                    refine hKc _ _ ⟨KZ.out _ D1.out, ?_⟩
                    clear hKc Kc
                    try simp only [Act.put, List.setIfInBounds_toArray, List.set_cons_zero, List.set_cons_succ]
                    clear SD
                    have SD := KZ.out _ D1.out
                    refine anyH_take 6 95 (.bool false) SD rfl (by kernel_rfl) (by kernel_rfl) (by kernel_rfl) (fun _ _ _ h => h) (by rfl) (by intro x hx; have y0 := hx; (first | exact exec_arr 40 (.tmp 92) q (j * 136) XX _ rfl hx.1 Try.underlying40 rfl hsx | go_simp); try (intro h; omega)) ?_
                    try simp only [Act.put, List.setIfInBounds_toArray, List.set_cons_zero, List.set_cons_succ]
                    refine anyH_take 7 96 (.bool false) SD rfl (by kernel_rfl) (by kernel_rfl) (by kernel_rfl) (fun _ _ _ h => h) (by rfl) (by intro x hx; have y0 := hx; (first | exact exec_arr 40 (.tmp 92) q (j * 136) XX _ rfl hx.1 Try.underlying40 rfl hsx | go_simp); try (intro h; omega)) ?_
                    try simp only [Act.put, List.setIfInBounds_toArray, List.set_cons_zero, List.set_cons_succ]
                    refine anyH_skip 8 97 SD rfl (by kernel_rfl) (by kernel_rfl) (by kernel_rfl) (fun _ _ _ h => h) (by rfl) ?_
                    try simp only [Act.put, List.setIfInBounds_toArray, List.set_cons_zero, List.set_cons_succ]
                    refine anyH_skip 9 98 SD rfl (by kernel_rfl) (by kernel_rfl) (by kernel_rfl) (fun _ _ _ h => h) (by rfl) ?_
                    try simp only [Act.put, List.setIfInBounds_toArray, List.set_cons_zero, List.set_cons_succ]
                    refine anyH_skip 10 99 SD rfl (by kernel_rfl) (by kernel_rfl) (by kernel_rfl) (fun _ _ _ h => h) (by rfl) ?_
                    try simp only [Act.put, List.setIfInBounds_toArray, List.set_cons_zero, List.set_cons_succ]
                    refine anyH_take 11 100 (.bool false) SD rfl (by kernel_rfl) (by kernel_rfl) (by kernel_rfl) (fun _ _ _ h => h) (by rfl) (by intro x hx; have y0 := hx; (first | exact exec_arr 40 (.tmp 92) q (j * 136) XX _ rfl hx.1 Try.underlying40 rfl hsx | go_simp); try (intro h; omega)) ?_
                    try simp only [Act.put, List.setIfInBounds_toArray, List.set_cons_zero, List.set_cons_succ]
                    refine anyH_take 12 101 (.bool false) SD rfl (by kernel_rfl) (by kernel_rfl) (by kernel_rfl) (fun _ _ _ h => h) (by rfl) (by intro x hx; have y0 := hx; (first | exact exec_arr 40 (.tmp 92) q (j * 136) XX _ rfl hx.1 Try.underlying40 rfl hsx | go_simp); try (intro h; omega)) ?_
                    try simp only [Act.put, List.setIfInBounds_toArray, List.set_cons_zero, List.set_cons_succ]
                    refine anyH_take 13 102 (.int .i64 (j : Int)) SD rfl (by kernel_rfl) (by kernel_rfl) (by kernel_rfl) (fun _ _ _ h => h) (by rfl) (by intro x hx; have y0 := hx; (first | exact exec_arr 40 (.tmp 92) q (j * 136) XX _ rfl hx.1 Try.underlying40 rfl hsx | go_simp); try (intro h; omega)) ?_
                    try simp only [Act.put, List.setIfInBounds_toArray, List.set_cons_zero, List.set_cons_succ]
                    refine anyH_take 14 103 (.bool true) SD rfl (by kernel_rfl) (by kernel_rfl) (by kernel_rfl) (fun _ _ _ h => h) (by rfl) (by intro x hx; have y0 := hx; (first | exact exec_arr 40 (.tmp 92) q (j * 136) XX _ rfl hx.1 Try.underlying40 rfl hsx | go_simp); try (intro h; omega)) ?_
                    try simp only [Act.put, List.setIfInBounds_toArray, List.set_cons_zero, List.set_cons_succ]
                    refine anyH_take 15 104 (.bool true) SD rfl (by kernel_rfl) (by kernel_rfl) (by kernel_rfl) (fun _ _ _ h => h) (by rfl) (by intro x hx; have y0 := hx; (first | exact exec_arr 40 (.tmp 92) q (j * 136) XX _ rfl hx.1 Try.underlying40 rfl hsx | go_simp); try (intro h; omega)) ?_
                    try simp only [Act.put, List.setIfInBounds_toArray, List.set_cons_zero, List.set_cons_succ]
                    refine anyH_take 16 105 (.slice (some ⟨q, 0, none⟩) NL cD) SD rfl (by kernel_rfl) (by kernel_rfl) (by kernel_rfl) (fun _ _ _ h => h) (by rfl) (by intro x hx; have y0 := hx; (first | exact exec_arr 40 (.tmp 92) q (j * 136) XX _ rfl hx.1 Try.underlying40 rfl hsx | go_simp); try (intro h; omega)) ?_
                    try simp only [Act.put, List.setIfInBounds_toArray, List.set_cons_zero, List.set_cons_succ]
                    refine anyH_take 17 106 (.int .i64 (j : Int)) SD rfl (by kernel_rfl) (by kernel_rfl) (by kernel_rfl) (fun _ _ _ h => h) (by rfl) (by intro x hx; have y0 := hx; (first | exact exec_arr 40 (.tmp 92) q (j * 136) XX _ rfl hx.1 Try.underlying40 rfl hsx | go_simp); try (intro h; omega)) ?_
                    try simp only [Act.put, List.setIfInBounds_toArray, List.set_cons_zero, List.set_cons_succ]
                    refine anyH_take 18 107 (.pointer (some ⟨q, (j * 136), none⟩)) SD rfl (by kernel_rfl) (by kernel_rfl) (by kernel_rfl) (fun _ _ _ h => h) (by rfl) (by intro x hx; have y0 := hx; (first | exact exec_arr 40 (.tmp 92) q (j * 136) XX _ rfl hx.1 Try.underlying40 rfl hsx | go_simp); try (intro h; omega)) ?_
                    try simp only [Act.put, List.setIfInBounds_toArray, List.set_cons_zero, List.set_cons_succ]
                    refine anyH_take 19 108 (.pointer (some ⟨q, (j * 136), none⟩)) SD rfl (by kernel_rfl) (by kernel_rfl) (by kernel_rfl) (fun _ _ _ h => h) (by rfl) (by intro x hx; have y0 := hx; (first | exact exec_arr 40 (.tmp 92) q (j * 136) XX _ rfl hx.1 Try.underlying40 rfl hsx | go_simp); try (intro h; omega)) ?_
                    try simp only [Act.put, List.setIfInBounds_toArray, List.set_cons_zero, List.set_cons_succ]
                    refine anyH_take 20 109 (.int .i64 gj) SD rfl (by kernel_rfl) (by kernel_rfl) (by kernel_rfl) (fun _ _ _ h => h) (by rfl) (by intro x hx; have y0 := hx; (first | exact exec_arr 40 (.tmp 92) q (j * 136) XX _ rfl hx.1 Try.underlying40 rfl hsx | go_simp); try (intro h; omega)) ?_
                    try simp only [Act.put, List.setIfInBounds_toArray, List.set_cons_zero, List.set_cons_succ]
                    refine anyH_take 21 110 (.int .i64 (gj.tmod 2)) SD rfl (by kernel_rfl) (by kernel_rfl) (by kernel_rfl) (fun _ _ _ h => h) (by rfl) (by intro x hx; have y0 := hx; (first | exact exec_arr 40 (.tmp 92) q (j * 136) XX _ rfl hx.1 Try.underlying40 rfl hsx | go_simp); try (intro h; omega)) ?_
                    try simp only [Act.put, List.setIfInBounds_toArray, List.set_cons_zero, List.set_cons_succ]
                    refine anyH_take 22 111 (.slice (some ⟨q, 0, none⟩) NL cD) SD rfl (by kernel_rfl) (by kernel_rfl) (by kernel_rfl) (fun _ _ _ h => h) (by rfl) (by intro x hx; have y0 := hx; (first | exact exec_arr 40 (.tmp 92) q (j * 136) XX _ rfl hx.1 Try.underlying40 rfl hsx | go_simp); try (intro h; omega)) ?_
                    try simp only [Act.put, List.setIfInBounds_toArray, List.set_cons_zero, List.set_cons_succ]
                    refine anyH_take 23 112 (.pointer (some ⟨q, 0, none⟩)) SD rfl (by kernel_rfl) (by kernel_rfl) (by kernel_rfl) (fun _ _ _ h => h) (by rfl) (by intro x hx; have y0 := hx; (first | exact exec_arr 40 (.tmp 92) q (j * 136) XX _ rfl hx.1 Try.underlying40 rfl hsx | go_simp); try (intro h; omega)) ?_
                    try simp only [Act.put, List.setIfInBounds_toArray, List.set_cons_zero, List.set_cons_succ]
                    refine anyH_take 24 113 (.pointer (some ⟨q, 0, none⟩)) SD rfl (by kernel_rfl) (by kernel_rfl) (by kernel_rfl) (fun _ _ _ h => h) (by rfl) (by intro x hx; have y0 := hx; (first | exact exec_arr 40 (.tmp 92) q (j * 136) XX _ rfl hx.1 Try.underlying40 rfl hsx | go_simp); try (intro h; omega)) ?_
                    try simp only [Act.put, List.setIfInBounds_toArray, List.set_cons_zero, List.set_cons_succ]
                    refine anyH_take 25 114 (.int .i64 gz) SD rfl (by kernel_rfl) (by kernel_rfl) (by kernel_rfl) (fun _ _ _ h => h) (by rfl) (by intro x hx; have y0 := hx; (first | exact exec_arr 40 (.tmp 92) q (j * 136) XX _ rfl hx.1 Try.underlying40 rfl hsx | go_simp); try (intro h; omega)) ?_
                    try simp only [Act.put, List.setIfInBounds_toArray, List.set_cons_zero, List.set_cons_succ]
                    refine anyH_take 26 115 (.int .i64 (gz.tmod 2)) SD rfl (by kernel_rfl) (by kernel_rfl) (by kernel_rfl) (fun _ _ _ h => h) (by rfl) (by intro x hx; have y0 := hx; (first | exact exec_arr 40 (.tmp 92) q (j * 136) XX _ rfl hx.1 Try.underlying40 rfl hsx | go_simp); try (intro h; omega)) ?_
                    try simp only [Act.put, List.setIfInBounds_toArray, List.set_cons_zero, List.set_cons_succ]
                    refine anyH_take 27 116 (.bool false) SD rfl (by kernel_rfl) (by kernel_rfl) (by kernel_rfl) (fun _ _ _ h => h) (by rfl) (by intro x hx; have y0 := hx; (first | exact exec_arr 40 (.tmp 92) q (j * 136) XX _ rfl hx.1 Try.underlying40 rfl hsx | go_simp); try (intro h; omega)) ?_
                    try simp only [Act.put, List.setIfInBounds_toArray, List.set_cons_zero, List.set_cons_succ]
                    refine anyH_take 28 117 (.bool false) SD rfl (by kernel_rfl) (by kernel_rfl) (by kernel_rfl) (fun _ _ _ h => h) (by rfl) (by intro x hx; have y0 := hx; (first | exact exec_arr 40 (.tmp 92) q (j * 136) XX _ rfl hx.1 Try.underlying40 rfl hsx | go_simp); try (intro h; omega)) ?_
                    try simp only [Act.put, List.setIfInBounds_toArray, List.set_cons_zero, List.set_cons_succ]
                    refine anyH_take 29 118 (.bool false) SD rfl (by kernel_rfl) (by kernel_rfl) (by kernel_rfl) (fun _ _ _ h => h) (by rfl) (by intro x hx; have y0 := hx; (first | exact exec_arr 40 (.tmp 92) q (j * 136) XX _ rfl hx.1 Try.underlying40 rfl hsx | go_simp); try (intro h; omega)) ?_
                    try simp only [Act.put, List.setIfInBounds_toArray, List.set_cons_zero, List.set_cons_succ]
                    refine wpAnyH_done (by kernel_rfl) ?_ _
                    go_wp2
                    exact ⟨⟨j + 1, by omega, by go_num, BZ.out.trans (D1.out.mono BZ.out.size)⟩, by simp [intOf]; omega⟩
                · have hjg : NL ≤ j := by omega
                  have hjgi : ¬ (j : Int) < (NL : Int) := by omega
                  clear hjl
                  have GE : Hid (wr.heap[bx]? = some (.cells A 44 (0, 0))) := (HBJ.out.block _ (lt_of_block GD.out)).trans GD.out
                  have c0E := (HAK.out.at_ _ _ _ GE.out).1
                  have VE : Hid (Vt w0 K wr d g g2 mD S3 Nm.St.none) := by
                    have h := VD.out.old HBJ.out
                    rw [HSA.out f7] at h
                    exact h
                  have OE : Hid (RsO K wr (.slice pT NT2 cT) TC) := own_kp OD.out (Kp.of_below HBJ.out) (Nat.le_refl _)
                  have IE : Hid (Im K wr (.slice p8 NI c8) NI) := ID.out.kp (Kp.of_below HBJ.out)
                  have hq7 : o.k ≠ 7 := by simpa using f7
                  clear HHAS HIN HPA HRD HRT HQ0 HBJ GD OD ID VD HSA GE hjg
                  go_wp2
                  go_loopw [8, 13] (fun v8 v13 wr3 => ∃ (i N2 : Nat) (m2 : Dk.M), 1 ≤ i ∧ i ≤ 3 ∧ v13 = .int .i64 (i : Int) ∧ Hid (N2 + 1 = NI + i) ∧ Hid (Im K wr3 v8 N2) ∧ Hid (RsO K wr3 (.slice pT NT2 cT) TC) ∧ Hid (Vt w0 K wr3 d g g2 m2 S3 Nm.St.none) ∧ Hid (m2.wr ≤ 10 * k + 3 ∧ (∀ j, m2.rd j ≤ 10 * k + 4 + i) ∧ m2.n = 4)) (fun _ v13 _ => 3 - (intOf v13).toNat)
                  case atStart => exact ⟨1, NI, mD, by omega, by omega, rfl, rfl, IE.out, OE.out, VE.out, HMD.out⟩
                  case round =>
                    obtain ⟨i, N2, m2, hi1, hi3, rfl, HN2, IF, OF, VF, HMF⟩ := hrel
                    clear VE OE IE
                    by_cases hi2 : i < 3
                    · have hle : (i : Int) ≤ 2 := by omega
                      obtain ⟨pF, cF, hvF⟩ := IF.out.len
                      subst hvF
                      have HRF := Lib.hid (vt_read (i : Int) (fun j => by have := HMF.out.2.1 j; omega) VF.out)
                      have HXL := Lib.hid (Rg.rdX_le VF.out.vs.ok (i : Int))
                      have HMG : Hid ((Dk.rdM m2 (i : Int)).wr ≤ 10 * k + 3 ∧ (∀ j, (Dk.rdM m2 (i : Int)).rd j ≤ 10 * k + 4 + (i + 1)) ∧ (Dk.rdM m2 (i : Int)).n = 4) := by
                        have e1 := Rg.rdM_le m2 (i : Int)
                        have e2 := (Rg.rdM_same m2 (i : Int)).2.2.2.1
                        refine ⟨by rw [e2]; exact HMF.out.1, fun j => ?_, by rw [e1.2.2]; exact HMF.out.2.2⟩
                        have a1 := e1.2.1 j
                        have a2 := HMF.out.2.1 j
                        omega
                      unfold VtRd at HRF
                      generalize Dk.rdM m2 (i : Int) = m3 at *
                      generalize Dk.rdX m2 (i : Int) = LX at *
                      obtain ⟨nl, hnl⟩ : ∃ nl, LX.length = nl := ⟨_, rfl⟩
                      rw [hnl] at HRF HXL
                      go_upto_region 31 with (go_at_call 17; refine HRF.out.mono ?_; rintro e9 w9 ⟨p9, c9, rfl, HO9, HB9, HV9, HK9⟩)
                      have HU : Hid (Im1 K w9 (.slice p9 nl c9)) := by
                        refine ⟨p9, c9, LX, by rw [hnl], by rw [hnl]; exact HXL.out, HB9.out.bat.1, ?_⟩
                        rw [hnl]
                        exact own_weak HO9.out VF.out.size
                      have IF9 := Lib.hid (IF.out.kp HK9.out)
                      have OF9 : Hid (RsO K w9 (.slice pT NT2 cT) TC) := own_kp OF.out HK9.out (Nat.le_refl _)
                      have S9 : Hid (K ≤ w9.heap.size) := HV9.out.size
                      go_upto_region 29 with (at_builtin; (with_reducible refine app_im _ _ K _ _ N2 ?_ ?_ IF9.out HU.out ?_ S9.out ?_); (exact rfl); (exact rfl); (have := HN2.out; have := HTC.out.2.2.2; omega); intro q10 d10 w10 HI10 HS10 HT10 HG10)
                      have VF10 := Lib.hid (vt_far HV9.out HT10.out (by decide) (by decide) HG10.out).1
                      have OF10 : Hid (RsO K w10 (.slice pT NT2 cT) TC) := own_other OF9.out (fun q h => (HT10.out q h).2) (by decide) HG10.out
                      go_wp2
                      exact ⟨⟨i + 1, N2 + 1, m3, by omega, by omega, by go_num, by show N2 + 1 + 1 = NI + (i + 1); have := HN2.out; omega, HI10.out, OF10.out, VF10.out, HMG.out⟩, by simp [intOf]; omega⟩
                    · have hi33 : i = 3 := by omega
                      subst hi33
                      have hN3 : N2 = NI + 2 := by have := HN2.out; omega
                      subst hN3
                      go_wp2
                      exact ⟨⟨k + 1, NI + 2, TC, m2, S3, by omega, by go_num, OF.out, IF.out, ⟨HTC.out.1, HTC.out.2.1, HTC.out.2.2.1, by have := HTC.out.2.2.2; omega⟩, VF.out, ⟨by have := HMF.out.1; omega, fun j => by have := HMF.out.2.1 j; omega, HSC.out, HMF.out.2.2⟩⟩, by simp [intOf]; omega⟩
          · have f0 : (o.k == 0) = false := by simpa using k0
            as_aux_lemma =>
              go_upto_region 16 with (fail)
              obtain ⟨wA, mA, S2A, VA, GA, OA, IA, HMA, HSA⟩ : ∃ (wA : World) (mA : Dk.M) (S2A : Nm.St), Hid (Vt w0 K wA d g g2 mA S S2A) ∧ Hid (wA.heap[bx]? = some (.cells A 44 (0, 0))) ∧ Hid (RsO K wA u7 T) ∧ Hid (Im K wA (.slice p8 NI c8) NI) ∧ Hid (mA.wr ≤ m.wr + 1 ∧ (∀ j, mA.rd j ≤ m.rd j + 1) ∧ mA.n = m.n) ∧ Hid ((o.k == 7) = false → S2A = Nm.St.none) ∧ wA = w4 := ⟨w4, m, _, V4, G4, O4, I4, ⟨Nat.le_succ _, fun j => Nat.le_succ _, rfl⟩, fun _ => rfl, rfl⟩
              obtain ⟨HSA, hwA⟩ := HSA
              rw [← hwA]
              clear hwA V4 G4 O4 I4
              have HRUN : Hid (∀ y, Vt w0 K y d g g2 mA S S2A → Calls Try.prog 14 #[.pointer (some ⟨d, 0, none⟩), .iface 29 (.pointer (some ⟨g, 0, none⟩)), .agg A] y (RunSay w0 K d g g2 o mA S S2A y)) := fun y hy => run_any o A pd cd pf cf HAK.out HOP.out y hy ⟨HDL.out, by have h1 := HMA.out.1; have h2 := HC.out.1; omega, by have h2 := HC.out.2.2.1; omega, fun j => by have h1 := HMA.out.2.1 j; have h2 := HC.out.2.1 j; omega⟩
              go_upto_region 17 with (first
                | ((with_reducible refine row_load _ _ _ _ _ _ _ ?_ GA.out Try.underlying44 ?_ hsa ?_); (exact rfl); (exact rfl))
                | (go_at_call 14; refine (HRUN.out _ VA.out).mono ?_; rintro e6 wB ⟨er6, mB, rfl, VB, HMB, HKC⟩))
              have GB : Hid (wB.heap[bx]? = some (.cells A 44 (0, 0))) := (HKC.out.block bx HKB.out (lt_of_block GA.out)).trans GA.out
              have OB : Hid (RsO K wB u7 T) := own_kp OA.out HKC.out (Nat.le_refl _)
              have IB : Hid (Im K wB (.slice p8 NI c8) NI) := IA.out.kp HKC.out
              have HMC : Hid (mB.wr ≤ 10 * k + 2 ∧ (∀ j, mB.rd j ≤ 10 * k + 2) ∧ mB.n = 4) := ⟨by have h1 := HMA.out.1; have h2 := HC.out.1; have h3 := HMB.out.1; omega, fun j => by have h1 := HMA.out.2.1 j; have h2 := HC.out.2.1 j; have h3 := HMB.out.2.1 j; omega, by rw [HMB.out.2.2, HMA.out.2.2]; exact HC.out.2.2.2⟩
              have HSC : Hid ((Rg.rS S o).ss.length ≤ k + 1) := by
                have h2 := HC.out.2.2.1
                show _ ≤ _
                unfold Rg.rS
                split
                · exact Nat.le_trans (Rg.vS_le S o.r o.n) (by omega)
                · omega
              obtain ⟨d0, d1, d2, rB, d4, d5⟩ := HAK.out.at_ _ _ _ GB.out
              have HRB := Lib.hid rB
              clear VA GA OA IA HMA HMB HKC HRUN HCW rB d1 d2 d4 d5 c0 c1 c2' c4 c5 HC
              have HTC : Hid (Rg.Told T (Rg.rS S o) ∧ (∀ r ∈ T, Rg.Ok r) ∧ T.length ≤ k + 1 ∧ NI ≤ 2 * k) := by
                refine ⟨?_, HT.out.2.1, by have h1 := HT.out.2.2.1; omega, HT.out.2.2.2⟩
                unfold Rg.rS
                rw [if_neg (by simpa using f0)]
                exact HT.out.1
              go_upto_region 19 with (fail)
              obtain ⟨wC, TC, v7C, hwC, hTC, hv7⟩ : ∃ wC TC v7C, wC = wB ∧ TC = T ∧ v7C = u7 := ⟨_, _, _, rfl, rfl, rfl⟩
              rw [← hwC, ← hv7]
              rw [← hwC] at VB GB OB IB
              rw [← hTC] at OB HTC
              rw [← hv7] at OB
              have VC := VB
              have GC := GB
              have OC := OB
              have IC := IB
              clear hwC hTC hv7 VB GB OB IB HRB
              have HBY : Hid (∀ i, i < mB.n → Sha.Byt (Dk.peek mB i)) := VC.out.vs.byt
              have HIN : Hid (∀ x ∈ Rg.vA mB (Rg.rS S o), x ∈ TC) := Rg.vA_told HBY.out HTC.out.1 HTC.out.2.1
              have HPA := Lib.hid (Rg.vA_par HBY.out (Rg.rS S o))
              have HRDC : Hid (∀ j, mB.rd j ≤ 999999990) := fun j => by have h1 := HMC.out.2.1 j; omega
              have HALL := Lib.hid (vt_all VC.out HRDC.out)
              obtain ⟨mD, hmD⟩ : ∃ mD, Hid (Rg.alM mB 2 = mD) := ⟨_, rfl⟩
              have HMD : Hid (mD.wr ≤ 10 * k + 3 ∧ (∀ j, mD.rd j ≤ 10 * k + 5) ∧ mD.n = 4) := by
                rw [← hmD.out]
                obtain ⟨h1, h2, h3⟩ := HMC.out
                have e1 := Rg.rdM_le mB 1
                have e2 := Rg.rdM_le (Dk.rdM mB 1) 2
                have e : Rg.alM mB 2 = Dk.rdM (Dk.rdM mB 1) 2 := rfl
                have w1 := (Rg.rdM_same mB 1).2.2.2.1
                have w2 := (Rg.rdM_same (Dk.rdM mB 1) 2).2.2.2.1
                rw [e]
                refine ⟨by omega, fun j => ?_, by rw [e2.2.2, e1.2.2]; exact h3⟩
                have a1 := e1.2.1 j
                have a2 := e2.2.1 j
                have a3 := h2 j
                omega
              unfold VtAll at HALL
              rw [hmD.out] at HALL
              obtain ⟨LA, hLA⟩ : ∃ LA, Rg.vA mB (Rg.rS S o) = LA := ⟨_, rfl⟩
              rw [hLA] at HALL HPA HIN
              obtain ⟨S3, hS3⟩ : ∃ S3, Rg.rS S o = S3 := ⟨_, rfl⟩
              rw [hS3] at HALL HTC HSC
              clear hLA hS3 VC HBY HRDC HMC hmD HT
              go_upto_region 20 with (go_at_call 15; refine HALL.out.mono ?_; rintro e7 wD ⟨v7D, rfl, HOD, HOKD, VD, HKD⟩)
              have GD : Hid (wD.heap[bx]? = some (.cells A 44 (0, 0))) := (HKD.out.block bx HKB.out (lt_of_block GC.out)).trans GC.out
              have OD : Hid (RsO K wD v7C TC) := own_kp OC.out HKD.out (Nat.le_refl _)
              have ID : Hid (Im K wD (.slice p8 NI c8) NI) := IC.out.kp HKD.out
              obtain ⟨pD, cD, hvD, hrD⟩ := HOD.out.es HOKD.out
              subst hvD
              have HRD := Lib.hid hrD
              have HQ0 : Hid (0 < LA.length → ∃ q, pD = some ⟨q, 0, none⟩) := fun h0 => own_zero2 h0 HOD.out hrD
              obtain ⟨pT, cT, hvT, hrT⟩ := OD.out.es HTC.out.2.1
              subst hvT
              have HRT := Lib.hid hrT
              obtain ⟨NT2, hNT2⟩ : ∃ NT2, TC.length = NT2 := ⟨_, rfl⟩
              rw [hNT2] at OD ⊢
              have HNT2 := Lib.hid hNT2
              obtain ⟨NL, hNL⟩ : ∃ NL, LA.length = NL := ⟨_, rfl⟩
              rw [hNL] at HPA HQ0 ⊢
              have HNL := Lib.hid hNL
              have HHAS : Hid (∀ y j, Below wD.heap.size wD y → j < NL → Calls Try.prog 16 #[.slice pT NT2 cT, .agg (RAr (LA.getD j Rg.zero))] y (BlSay true y)) := fun y j hy hj => by
                have hm : LA.getD j Rg.zero ∈ LA := by rw [List.getD_eq_getElem?_getD, List.getElem?_eq_getElem (by rw [HNL.out]; exact hj)]; exact List.getElem_mem _
                have h := rhas_any TC (LA.getD j Rg.zero) (HOKD.out _ hm) pT NT2 cT HNT2.out (by have h1 := HTC.out.2.2.1; rw [HNT2.out] at h1; omega) y (HRT.out.old hy)
                rw [decide_eq_true (HIN.out _ hm)] at h
                exact h
              clear hrD hrT hNT2 hNL HOD HKD HALL GC OC IC
              go_wp2
              go_loopw [12] (fun v12 wr2 => ∃ j : Nat, j ≤ NL ∧ v12 = .int .i64 (j : Int) ∧ Hid (Below wD.heap.size wD wr2)) (fun v12 _ => NL - (intOf v12).toNat)
              case atStart => exact ⟨0, by omega, rfl, Below.refl _ _⟩
              case round =>
                obtain ⟨j, hj, rfl, HBJ⟩ := hrel
                by_cases hjl : j < NL
                · obtain ⟨q, hq⟩ := HQ0.out (by omega)
                  subst hq
                  have hji : (j : Int) < (NL : Int) := by omega
                  have hjn : 0 ≤ (j : Int) := by omega
                  have hj00 : (0 : Int) < (NL : Int) := by omega
                  have HKY : Hid (∀ y, Below wD.heap.size wD y → y.rangeAt q (j * 136) (RAr (LA.getD j Rg.zero)).toList ∧ y.cell? ⟨q, j * 136, none⟩ = some (.int .i64 (LA.getD j Rg.zero).gen) ∧ y.cell? ⟨q, 0, none⟩ = some (.int .i64 (LA.getD 0 Rg.zero).gen) ∧ y.cell? ⟨bx, 0, none⟩ = some (.int .i64 o.k)) := fun y hy => by
                    have a1 := (HRD.out.old hy).rng (i := j) (by rw [HNL.out]; exact hjl)
                    have a2 := (HRD.out.old hy).rng (i := 0) (by rw [HNL.out]; omega)
                    rw [Nat.zero_add] at a1
                    rw [Nat.zero_add, Nat.zero_mul] at a2
                    exact ⟨a1, rec_cells a1, rec_cells a2, (HAK.out.at_ _ _ _ ((hy.block _ (lt_of_block GD.out)).trans GD.out)).1⟩
                  have HPJ : Hid (0 < j → (LA.getD j Rg.zero).gen.tmod 2 ≠ (LA.getD 0 Rg.zero).gen.tmod 2) := fun h0 => HPA.out.2 j h0 hjl
                  have HHJ : Hid (∀ y, Below wD.heap.size wD y → Calls Try.prog 16 #[.slice pT NT2 cT, .agg (RAr (LA.getD j Rg.zero))] y (BlSay true y)) := fun y hy => HHAS.out y j hy hjl
                  have hXS : (RAr (LA.getD j Rg.zero)).size = 136 := rar_size (HRD.out.getD j)
                  have hsx := row_size Try.sizeRec (Lib.hid hXS)
                  generalize RAr (LA.getD j Rg.zero) = XX at *
                  generalize (LA.getD j Rg.zero).gen = gj at *
                  generalize (LA.getD 0 Rg.zero).gen = gz at *
                  generalize o.k = kk at *
                  clear hXS hj
                  have hNL2 : NL ≤ 2 := HPA.out.1
                  go_upto_region 23 with (fail)
                  have BZ := Lib.hid HBJ.out.drew
                  refine wp_region_any (by kernel_rfl) ?_
                  change wpAny _ _ _ _ _ _ _ (World.drew _)
                  obtain ⟨z, hz'⟩ : ∃ x, x = wr.drew := ⟨_, rfl⟩
                  rw [← hz'] at BZ ⊢
                  clear hz'
                  have KZ : Hid (∀ y, Below z.heap.size z y → y.rangeAt q (j * 136) XX.toList ∧ y.cell? ⟨q, j * 136, none⟩ = some (.int .i64 gj) ∧ y.cell? ⟨q, 0, none⟩ = some (.int .i64 gz) ∧ y.cell? ⟨bx, 0, none⟩ = some (.int .i64 kk)) := fun y hy => HKY.out y (BZ.out.trans (hy.mono BZ.out.size))
                  have D0 : Hid (Below z.heap.size z z) := Below.refl _ _
                  by_cases hjz : j = 0
                  · have hjp : ¬ (j : Int) > 0 := by omega
                    refine wpAny_of_held (S := fun y => y.rangeAt q (j * 136) XX.toList ∧ y.cell? ⟨q, j * 136, none⟩ = some (.int .i64 gj) ∧ y.cell? ⟨q, 0, none⟩ = some (.int .i64 gz) ∧ y.cell? ⟨bx, 0, none⟩ = some (.int .i64 kk)) _ _ _ _ ?_
                    have SD := KZ.out _ D0.out
                    refine anyH_take 0 89 (.slice pT NT2 cT) SD rfl (by kernel_rfl) (by kernel_rfl) (by kernel_rfl) (fun _ _ _ h => h) (by rfl) (by intro x hx; have y0 := hx; (first | exact exec_arr 40 (.tmp 92) q (j * 136) XX _ rfl hx.1 Try.underlying40 rfl hsx | go_simp); try (intro h; omega)) ?_
                    try simp only [Act.put, List.setIfInBounds_toArray, List.set_cons_zero, List.set_cons_succ]
                    refine anyH_take 1 90 (.slice (some ⟨q, 0, none⟩) NL cD) SD rfl (by kernel_rfl) (by kernel_rfl) (by kernel_rfl) (fun _ _ _ h => h) (by rfl) (by intro x hx; have y0 := hx; (first | exact exec_arr 40 (.tmp 92) q (j * 136) XX _ rfl hx.1 Try.underlying40 rfl hsx | go_simp); try (intro h; omega)) ?_
                    try simp only [Act.put, List.setIfInBounds_toArray, List.set_cons_zero, List.set_cons_succ]
                    refine anyH_take 2 91 (.int .i64 (j : Int)) SD rfl (by kernel_rfl) (by kernel_rfl) (by kernel_rfl) (fun _ _ _ h => h) (by rfl) (by intro x hx; have y0 := hx; (first | exact exec_arr 40 (.tmp 92) q (j * 136) XX _ rfl hx.1 Try.underlying40 rfl hsx | go_simp); try (intro h; omega)) ?_
                    try simp only [Act.put, List.setIfInBounds_toArray, List.set_cons_zero, List.set_cons_succ]
                    refine anyH_take 3 92 (.pointer (some ⟨q, (j * 136), none⟩)) SD rfl (by kernel_rfl) (by kernel_rfl) (by kernel_rfl) (fun _ _ _ h => h) (by rfl) (by intro x hx; have y0 := hx; (first | exact exec_arr 40 (.tmp 92) q (j * 136) XX _ rfl hx.1 Try.underlying40 rfl hsx | go_simp); try (intro h; omega)) ?_
                    try simp only [Act.put, List.setIfInBounds_toArray, List.set_cons_zero, List.set_cons_succ]
                    refine anyH_take 4 93 (.agg XX) SD rfl (by kernel_rfl) (by kernel_rfl) (by kernel_rfl) (fun _ _ _ h => h) (by rfl) (by intro x hx; have y0 := hx; (first | exact exec_arr 40 (.tmp 92) q (j * 136) XX _ rfl hx.1 Try.underlying40 rfl hsx | go_simp); try (intro h; omega)) ?_
                    try simp only [Act.put, List.setIfInBounds_toArray, List.set_cons_zero, List.set_cons_succ]
                    refine anyH_one 5 (by kernel_rfl) ?_
                    refine wpOp_step rfl (fun Kc hKc => ?_)
                    go_simp
                    refine (HHJ.out _ (BZ.out.trans (D0.out.mono BZ.out.size))).mono ?_
                    rintro e21 z1 ⟨rfl, hbz1⟩
                    have D1 := Lib.hid (D0.out.trans (hbz1.mono D0.out.size))
                    clear hbz1
                    dsimp only
                    refine hKc _ _ ⟨KZ.out _ D1.out, ?_⟩
                    clear hKc Kc
                    try simp only [Act.put, List.setIfInBounds_toArray, List.set_cons_zero, List.set_cons_succ]
                    clear SD
                    have SD := KZ.out _ D1.out
                    refine anyH_take 6 95 (.bool false) SD rfl (by kernel_rfl) (by kernel_rfl) (by kernel_rfl) (fun _ _ _ h => h) (by rfl) (by intro x hx; have y0 := hx; (first | exact exec_arr 40 (.tmp 92) q (j * 136) XX _ rfl hx.1 Try.underlying40 rfl hsx | go_simp); try (intro h; omega)) ?_
                    try simp only [Act.put, List.setIfInBounds_toArray, List.set_cons_zero, List.set_cons_succ]
                    refine anyH_take 7 96 (.bool false) SD rfl (by kernel_rfl) (by kernel_rfl) (by kernel_rfl) (fun _ _ _ h => h) (by rfl) (by intro x hx; have y0 := hx; (first | exact exec_arr 40 (.tmp 92) q (j * 136) XX _ rfl hx.1 Try.underlying40 rfl hsx | go_simp); try (intro h; omega)) ?_
                    try simp only [Act.put, List.setIfInBounds_toArray, List.set_cons_zero, List.set_cons_succ]
                    refine anyH_skip 8 97 SD rfl (by kernel_rfl) (by kernel_rfl) (by kernel_rfl) (fun _ _ _ h => h) (by rfl) ?_
                    try simp only [Act.put, List.setIfInBounds_toArray, List.set_cons_zero, List.set_cons_succ]
                    refine anyH_skip 9 98 SD rfl (by kernel_rfl) (by kernel_rfl) (by kernel_rfl) (fun _ _ _ h => h) (by rfl) ?_
                    try simp only [Act.put, List.setIfInBounds_toArray, List.set_cons_zero, List.set_cons_succ]
                    refine anyH_skip 10 99 SD rfl (by kernel_rfl) (by kernel_rfl) (by kernel_rfl) (fun _ _ _ h => h) (by rfl) ?_
                    try simp only [Act.put, List.setIfInBounds_toArray, List.set_cons_zero, List.set_cons_succ]
                    refine anyH_take 11 100 (.bool false) SD rfl (by kernel_rfl) (by kernel_rfl) (by kernel_rfl) (fun _ _ _ h => h) (by rfl) (by intro x hx; have y0 := hx; (first | exact exec_arr 40 (.tmp 92) q (j * 136) XX _ rfl hx.1 Try.underlying40 rfl hsx | go_simp); try (intro h; omega)) ?_
                    try simp only [Act.put, List.setIfInBounds_toArray, List.set_cons_zero, List.set_cons_succ]
                    refine anyH_take 12 101 (.bool false) SD rfl (by kernel_rfl) (by kernel_rfl) (by kernel_rfl) (fun _ _ _ h => h) (by rfl) (by intro x hx; have y0 := hx; (first | exact exec_arr 40 (.tmp 92) q (j * 136) XX _ rfl hx.1 Try.underlying40 rfl hsx | go_simp); try (intro h; omega)) ?_
                    try simp only [Act.put, List.setIfInBounds_toArray, List.set_cons_zero, List.set_cons_succ]
                    refine anyH_take 13 102 (.int .i64 (j : Int)) SD rfl (by kernel_rfl) (by kernel_rfl) (by kernel_rfl) (fun _ _ _ h => h) (by rfl) (by intro x hx; have y0 := hx; (first | exact exec_arr 40 (.tmp 92) q (j * 136) XX _ rfl hx.1 Try.underlying40 rfl hsx | go_simp); try (intro h; omega)) ?_
                    try simp only [Act.put, List.setIfInBounds_toArray, List.set_cons_zero, List.set_cons_succ]
                    refine anyH_take 14 103 (.bool false) SD rfl (by kernel_rfl) (by kernel_rfl) (by kernel_rfl) (fun _ _ _ h => h) (by rfl) (by intro x hx; have y0 := hx; (first | exact exec_arr 40 (.tmp 92) q (j * 136) XX _ rfl hx.1 Try.underlying40 rfl hsx | go_simp); try (intro h; omega)) ?_
                    try simp only [Act.put, List.setIfInBounds_toArray, List.set_cons_zero, List.set_cons_succ]
                    refine anyH_take 15 104 (.bool false) SD rfl (by kernel_rfl) (by kernel_rfl) (by kernel_rfl) (fun _ _ _ h => h) (by rfl) (by intro x hx; have y0 := hx; (first | exact exec_arr 40 (.tmp 92) q (j * 136) XX _ rfl hx.1 Try.underlying40 rfl hsx | go_simp); try (intro h; omega)) ?_
                    try simp only [Act.put, List.setIfInBounds_toArray, List.set_cons_zero, List.set_cons_succ]
                    refine anyH_skip 16 105 SD rfl (by kernel_rfl) (by kernel_rfl) (by kernel_rfl) (fun _ _ _ h => h) (by rfl) ?_
                    try simp only [Act.put, List.setIfInBounds_toArray, List.set_cons_zero, List.set_cons_succ]
                    refine anyH_skip 17 106 SD rfl (by kernel_rfl) (by kernel_rfl) (by kernel_rfl) (fun _ _ _ h => h) (by rfl) ?_
                    try simp only [Act.put, List.setIfInBounds_toArray, List.set_cons_zero, List.set_cons_succ]
                    refine anyH_skip 18 107 SD rfl (by kernel_rfl) (by kernel_rfl) (by kernel_rfl) (fun _ _ _ h => h) (by rfl) ?_
                    try simp only [Act.put, List.setIfInBounds_toArray, List.set_cons_zero, List.set_cons_succ]
                    refine anyH_skip 19 108 SD rfl (by kernel_rfl) (by kernel_rfl) (by kernel_rfl) (fun _ _ _ h => h) (by rfl) ?_
                    try simp only [Act.put, List.setIfInBounds_toArray, List.set_cons_zero, List.set_cons_succ]
                    refine anyH_skip 20 109 SD rfl (by kernel_rfl) (by kernel_rfl) (by kernel_rfl) (fun _ _ _ h => h) (by rfl) ?_
                    try simp only [Act.put, List.setIfInBounds_toArray, List.set_cons_zero, List.set_cons_succ]
                    refine anyH_skip 21 110 SD rfl (by kernel_rfl) (by kernel_rfl) (by kernel_rfl) (fun _ _ _ h => h) (by rfl) ?_
                    try simp only [Act.put, List.setIfInBounds_toArray, List.set_cons_zero, List.set_cons_succ]
                    refine anyH_skip 22 111 SD rfl (by kernel_rfl) (by kernel_rfl) (by kernel_rfl) (fun _ _ _ h => h) (by rfl) ?_
                    try simp only [Act.put, List.setIfInBounds_toArray, List.set_cons_zero, List.set_cons_succ]
                    refine anyH_skip 23 112 SD rfl (by kernel_rfl) (by kernel_rfl) (by kernel_rfl) (fun _ _ _ h => h) (by rfl) ?_
                    try simp only [Act.put, List.setIfInBounds_toArray, List.set_cons_zero, List.set_cons_succ]
                    refine anyH_skip 24 113 SD rfl (by kernel_rfl) (by kernel_rfl) (by kernel_rfl) (fun _ _ _ h => h) (by rfl) ?_
                    try simp only [Act.put, List.setIfInBounds_toArray, List.set_cons_zero, List.set_cons_succ]
                    refine anyH_skip 25 114 SD rfl (by kernel_rfl) (by kernel_rfl) (by kernel_rfl) (fun _ _ _ h => h) (by rfl) ?_
                    try simp only [Act.put, List.setIfInBounds_toArray, List.set_cons_zero, List.set_cons_succ]
                    refine anyH_skip 26 115 SD rfl (by kernel_rfl) (by kernel_rfl) (by kernel_rfl) (fun _ _ _ h => h) (by rfl) ?_
                    try simp only [Act.put, List.setIfInBounds_toArray, List.set_cons_zero, List.set_cons_succ]
                    refine anyH_skip 27 116 SD rfl (by kernel_rfl) (by kernel_rfl) (by kernel_rfl) (fun _ _ _ h => h) (by rfl) ?_
                    try simp only [Act.put, List.setIfInBounds_toArray, List.set_cons_zero, List.set_cons_succ]
                    refine anyH_take 28 117 (.bool false) SD rfl (by kernel_rfl) (by kernel_rfl) (by kernel_rfl) (fun _ _ _ h => h) (by rfl) (by intro x hx; have y0 := hx; (first | exact exec_arr 40 (.tmp 92) q (j * 136) XX _ rfl hx.1 Try.underlying40 rfl hsx | go_simp); try (intro h; omega)) ?_
                    try simp only [Act.put, List.setIfInBounds_toArray, List.set_cons_zero, List.set_cons_succ]
                    refine anyH_take 29 118 (.bool false) SD rfl (by kernel_rfl) (by kernel_rfl) (by kernel_rfl) (fun _ _ _ h => h) (by rfl) (by intro x hx; have y0 := hx; (first | exact exec_arr 40 (.tmp 92) q (j * 136) XX _ rfl hx.1 Try.underlying40 rfl hsx | go_simp); try (intro h; omega)) ?_
                    try simp only [Act.put, List.setIfInBounds_toArray, List.set_cons_zero, List.set_cons_succ]
                    refine wpAnyH_done (by kernel_rfl) ?_ _
                    go_wp2
                    exact ⟨⟨j + 1, by omega, by go_num, BZ.out.trans (D1.out.mono BZ.out.size)⟩, by simp [intOf]; omega⟩
                  · have hjp : (j : Int) > 0 := by omega
                    have hjpn : 0 < j := by omega
                    have hpar : ¬ gj.tmod 2 = gz.tmod 2 := HPJ.out (by omega)
                    refine wpAny_of_held (S := fun y => y.rangeAt q (j * 136) XX.toList ∧ y.cell? ⟨q, j * 136, none⟩ = some (.int .i64 gj) ∧ y.cell? ⟨q, 0, none⟩ = some (.int .i64 gz) ∧ y.cell? ⟨bx, 0, none⟩ = some (.int .i64 kk)) _ _ _ _ ?_
                    have SD := KZ.out _ D0.out
                    refine anyH_take 0 89 (.slice pT NT2 cT) SD rfl (by kernel_rfl) (by kernel_rfl) (by kernel_rfl) (fun _ _ _ h => h) (by rfl) (by intro x hx; have y0 := hx; (first | exact exec_arr 40 (.tmp 92) q (j * 136) XX _ rfl hx.1 Try.underlying40 rfl hsx | go_simp); try (intro h; omega)) ?_
                    try simp only [Act.put, List.setIfInBounds_toArray, List.set_cons_zero, List.set_cons_succ]
                    refine anyH_take 1 90 (.slice (some ⟨q, 0, none⟩) NL cD) SD rfl (by kernel_rfl) (by kernel_rfl) (by kernel_rfl) (fun _ _ _ h => h) (by rfl) (by intro x hx; have y0 := hx; (first | exact exec_arr 40 (.tmp 92) q (j * 136) XX _ rfl hx.1 Try.underlying40 rfl hsx | go_simp); try (intro h; omega)) ?_
                    try simp only [Act.put, List.setIfInBounds_toArray, List.set_cons_zero, List.set_cons_succ]
                    refine anyH_take 2 91 (.int .i64 (j : Int)) SD rfl (by kernel_rfl) (by kernel_rfl) (by kernel_rfl) (fun _ _ _ h => h) (by rfl) (by intro x hx; have y0 := hx; (first | exact exec_arr 40 (.tmp 92) q (j * 136) XX _ rfl hx.1 Try.underlying40 rfl hsx | go_simp); try (intro h; omega)) ?_
                    try simp only [Act.put, List.setIfInBounds_toArray, List.set_cons_zero, List.set_cons_succ]
                    refine anyH_take 3 92 (.pointer (some ⟨q, (j * 136), none⟩)) SD rfl (by kernel_rfl) (by kernel_rfl) (by kernel_rfl) (fun _ _ _ h => h) (by rfl) (by intro x hx; have y0 := hx; (first | exact exec_arr 40 (.tmp 92) q (j * 136) XX _ rfl hx.1 Try.underlying40 rfl hsx | go_simp); try (intro h; omega)) ?_
                    try simp only [Act.put, List.setIfInBounds_toArray, List.set_cons_zero, List.set_cons_succ]
                    refine anyH_take 4 93 (.agg XX) SD rfl (by kernel_rfl) (by kernel_rfl) (by kernel_rfl) (fun _ _ _ h => h) (by rfl) (by intro x hx; have y0 := hx; (first | exact exec_arr 40 (.tmp 92) q (j * 136) XX _ rfl hx.1 Try.underlying40 rfl hsx | go_simp); try (intro h; omega)) ?_
                    try simp only [Act.put, List.setIfInBounds_toArray, List.set_cons_zero, List.set_cons_succ]
                    refine anyH_one 5 (by kernel_rfl) ?_
                    refine wpOp_step rfl (fun Kc hKc => ?_)
                    go_simp
                    refine (HHJ.out _ (BZ.out.trans (D0.out.mono BZ.out.size))).mono ?_
                    rintro e21 z1 ⟨rfl, hbz1⟩
                    have D1 := Lib.hid (D0.out.trans (hbz1.mono D0.out.size))
                    clear hbz1
                    dsimp only
                    refine hKc _ _ ⟨KZ.out _ D1.out, ?_⟩
                    clear hKc Kc
                    try simp only [Act.put, List.setIfInBounds_toArray, List.set_cons_zero, List.set_cons_succ]
                    clear SD
                    have SD := KZ.out _ D1.out
                    refine anyH_take 6 95 (.bool false) SD rfl (by kernel_rfl) (by kernel_rfl) (by kernel_rfl) (fun _ _ _ h => h) (by rfl) (by intro x hx; have y0 := hx; (first | exact exec_arr 40 (.tmp 92) q (j * 136) XX _ rfl hx.1 Try.underlying40 rfl hsx | go_simp); try (intro h; omega)) ?_
                    try simp only [Act.put, List.setIfInBounds_toArray, List.set_cons_zero, List.set_cons_succ]
                    refine anyH_take 7 96 (.bool false) SD rfl (by kernel_rfl) (by kernel_rfl) (by kernel_rfl) (fun _ _ _ h => h) (by rfl) (by intro x hx; have y0 := hx; (first | exact exec_arr 40 (.tmp 92) q (j * 136) XX _ rfl hx.1 Try.underlying40 rfl hsx | go_simp); try (intro h; omega)) ?_
                    try simp only [Act.put, List.setIfInBounds_toArray, List.set_cons_zero, List.set_cons_succ]
                    refine anyH_skip 8 97 SD rfl (by kernel_rfl) (by kernel_rfl) (by kernel_rfl) (fun _ _ _ h => h) (by rfl) ?_
                    try simp only [Act.put, List.setIfInBounds_toArray, List.set_cons_zero, List.set_cons_succ]
                    refine anyH_skip 9 98 SD rfl (by kernel_rfl) (by kernel_rfl) (by kernel_rfl) (fun _ _ _ h => h) (by rfl) ?_
                    try simp only [Act.put, List.setIfInBounds_toArray, List.set_cons_zero, List.set_cons_succ]
                    refine anyH_skip 10 99 SD rfl (by kernel_rfl) (by kernel_rfl) (by kernel_rfl) (fun _ _ _ h => h) (by rfl) ?_
                    try simp only [Act.put, List.setIfInBounds_toArray, List.set_cons_zero, List.set_cons_succ]
                    refine anyH_take 11 100 (.bool false) SD rfl (by kernel_rfl) (by kernel_rfl) (by kernel_rfl) (fun _ _ _ h => h) (by rfl) (by intro x hx; have y0 := hx; (first | exact exec_arr 40 (.tmp 92) q (j * 136) XX _ rfl hx.1 Try.underlying40 rfl hsx | go_simp); try (intro h; omega)) ?_
                    try simp only [Act.put, List.setIfInBounds_toArray, List.set_cons_zero, List.set_cons_succ]
                    refine anyH_take 12 101 (.bool false) SD rfl (by kernel_rfl) (by kernel_rfl) (by kernel_rfl) (fun _ _ _ h => h) (by rfl) (by intro x hx; have y0 := hx; (first | exact exec_arr 40 (.tmp 92) q (j * 136) XX _ rfl hx.1 Try.underlying40 rfl hsx | go_simp); try (intro h; omega)) ?_
                    try simp only [Act.put, List.setIfInBounds_toArray, List.set_cons_zero, List.set_cons_succ]
                    refine anyH_take 13 102 (.int .i64 (j : Int)) SD rfl (by kernel_rfl) (by kernel_rfl) (by kernel_rfl) (fun _ _ _ h => h) (by rfl) (by intro x hx; have y0 := hx; (first | exact exec_arr 40 (.tmp 92) q (j * 136) XX _ rfl hx.1 Try.underlying40 rfl hsx | go_simp); try (intro h; omega)) ?_
                    try simp only [Act.put, List.setIfInBounds_toArray, List.set_cons_zero, List.set_cons_succ]
                    refine anyH_take 14 103 (.bool true) SD rfl (by kernel_rfl) (by kernel_rfl) (by kernel_rfl) (fun _ _ _ h => h) (by rfl) (by intro x hx; have y0 := hx; (first | exact exec_arr 40 (.tmp 92) q (j * 136) XX _ rfl hx.1 Try.underlying40 rfl hsx | go_simp); try (intro h; omega)) ?_
                    try simp only [Act.put, List.setIfInBounds_toArray, List.set_cons_zero, List.set_cons_succ]
                    refine anyH_take 15 104 (.bool true) SD rfl (by kernel_rfl) (by kernel_rfl) (by kernel_rfl) (fun _ _ _ h => h) (by rfl) (by intro x hx; have y0 := hx; (first | exact exec_arr 40 (.tmp 92) q (j * 136) XX _ rfl hx.1 Try.underlying40 rfl hsx | go_simp); try (intro h; omega)) ?_
                    try simp only [Act.put, List.setIfInBounds_toArray, List.set_cons_zero, List.set_cons_succ]
                    refine anyH_take 16 105 (.slice (some ⟨q, 0, none⟩) NL cD) SD rfl (by kernel_rfl) (by kernel_rfl) (by kernel_rfl) (fun _ _ _ h => h) (by rfl) (by intro x hx; have y0 := hx; (first | exact exec_arr 40 (.tmp 92) q (j * 136) XX _ rfl hx.1 Try.underlying40 rfl hsx | go_simp); try (intro h; omega)) ?_
                    try simp only [Act.put, List.setIfInBounds_toArray, List.set_cons_zero, List.set_cons_succ]
                    refine anyH_take 17 106 (.int .i64 (j : Int)) SD rfl (by kernel_rfl) (by kernel_rfl) (by kernel_rfl) (fun _ _ _ h => h) (by rfl) (by intro x hx; have y0 := hx; (first | exact exec_arr 40 (.tmp 92) q (j * 136) XX _ rfl hx.1 Try.underlying40 rfl hsx | go_simp); try (intro h; omega)) ?_
                    try simp only [Act.put, List.setIfInBounds_toArray, List.set_cons_zero, List.set_cons_succ]
                    refine anyH_take 18 107 (.pointer (some ⟨q, (j * 136), none⟩)) SD rfl (by kernel_rfl) (by kernel_rfl) (by kernel_rfl) (fun _ _ _ h => h) (by rfl) (by intro x hx; have y0 := hx; (first | exact exec_arr 40 (.tmp 92) q (j * 136) XX _ rfl hx.1 Try.underlying40 rfl hsx | go_simp); try (intro h; omega)) ?_
                    try simp only [Act.put, List.setIfInBounds_toArray, List.set_cons_zero, List.set_cons_succ]
                    refine anyH_take 19 108 (.pointer (some ⟨q, (j * 136), none⟩)) SD rfl (by kernel_rfl) (by kernel_rfl) (by kernel_rfl) (fun _ _ _ h => h) (by rfl) (by intro x hx; have y0 := hx; (first | exact exec_arr 40 (.tmp 92) q (j * 136) XX _ rfl hx.1 Try.underlying40 rfl hsx | go_simp); try (intro h; omega)) ?_
                    try simp only [Act.put, List.setIfInBounds_toArray, List.set_cons_zero, List.set_cons_succ]
                    refine anyH_take 20 109 (.int .i64 gj) SD rfl (by kernel_rfl) (by kernel_rfl) (by kernel_rfl) (fun _ _ _ h => h) (by rfl) (by intro x hx; have y0 := hx; (first | exact exec_arr 40 (.tmp 92) q (j * 136) XX _ rfl hx.1 Try.underlying40 rfl hsx | go_simp); try (intro h; omega)) ?_
                    try simp only [Act.put, List.setIfInBounds_toArray, List.set_cons_zero, List.set_cons_succ]
                    refine anyH_take 21 110 (.int .i64 (gj.tmod 2)) SD rfl (by kernel_rfl) (by kernel_rfl) (by kernel_rfl) (fun _ _ _ h => h) (by rfl) (by intro x hx; have y0 := hx; (first | exact exec_arr 40 (.tmp 92) q (j * 136) XX _ rfl hx.1 Try.underlying40 rfl hsx | go_simp); try (intro h; omega)) ?_
                    try simp only [Act.put, List.setIfInBounds_toArray, List.set_cons_zero, List.set_cons_succ]
                    refine anyH_take 22 111 (.slice (some ⟨q, 0, none⟩) NL cD) SD rfl (by kernel_rfl) (by kernel_rfl) (by kernel_rfl) (fun _ _ _ h => h) (by rfl) (by intro x hx; have y0 := hx; (first | exact exec_arr 40 (.tmp 92) q (j * 136) XX _ rfl hx.1 Try.underlying40 rfl hsx | go_simp); try (intro h; omega)) ?_
                    try simp only [Act.put, List.setIfInBounds_toArray, List.set_cons_zero, List.set_cons_succ]
                    refine anyH_take 23 112 (.pointer (some ⟨q, 0, none⟩)) SD rfl (by kernel_rfl) (by kernel_rfl) (by kernel_rfl) (fun _ _ _ h => h) (by rfl) (by intro x hx; have y0 := hx; (first | exact exec_arr 40 (.tmp 92) q (j * 136) XX _ rfl hx.1 Try.underlying40 rfl hsx | go_simp); try (intro h; omega)) ?_
                    try simp only [Act.put, List.setIfInBounds_toArray, List.set_cons_zero, List.set_cons_succ]
                    refine anyH_take 24 113 (.pointer (some ⟨q, 0, none⟩)) SD rfl (by kernel_rfl) (by kernel_rfl) (by kernel_rfl) (fun _ _ _ h => h) (by rfl) (by intro x hx; have y0 := hx; (first | exact exec_arr 40 (.tmp 92) q (j * 136) XX _ rfl hx.1 Try.underlying40 rfl hsx | go_simp); try (intro h; omega)) ?_
                    try simp only [Act.put, List.setIfInBounds_toArray, List.set_cons_zero, List.set_cons_succ]
                    refine anyH_take 25 114 (.int .i64 gz) SD rfl (by kernel_rfl) (by kernel_rfl) (by kernel_rfl) (fun _ _ _ h => h) (by rfl) (by intro x hx; have y0 := hx; (first | exact exec_arr 40 (.tmp 92) q (j * 136) XX _ rfl hx.1 Try.underlying40 rfl hsx | go_simp); try (intro h; omega)) ?_
                    try simp only [Act.put, List.setIfInBounds_toArray, List.set_cons_zero, List.set_cons_succ]
                    refine anyH_take 26 115 (.int .i64 (gz.tmod 2)) SD rfl (by kernel_rfl) (by kernel_rfl) (by kernel_rfl) (fun _ _ _ h => h) (by rfl) (by intro x hx; have y0 := hx; (first | exact exec_arr 40 (.tmp 92) q (j * 136) XX _ rfl hx.1 Try.underlying40 rfl hsx | go_simp); try (intro h; omega)) ?_
                    try simp only [Act.put, List.setIfInBounds_toArray, List.set_cons_zero, List.set_cons_succ]
                    refine anyH_take 27 116 (.bool false) SD rfl (by kernel_rfl) (by kernel_rfl) (by kernel_rfl) (fun _ _ _ h => h) (by rfl) (by intro x hx; have y0 := hx; (first | exact exec_arr 40 (.tmp 92) q (j * 136) XX _ rfl hx.1 Try.underlying40 rfl hsx | go_simp); try (intro h; omega)) ?_
                    try simp only [Act.put, List.setIfInBounds_toArray, List.set_cons_zero, List.set_cons_succ]
                    refine anyH_take 28 117 (.bool false) SD rfl (by kernel_rfl) (by kernel_rfl) (by kernel_rfl) (fun _ _ _ h => h) (by rfl) (by intro x hx; have y0 := hx; (first | exact exec_arr 40 (.tmp 92) q (j * 136) XX _ rfl hx.1 Try.underlying40 rfl hsx | go_simp); try (intro h; omega)) ?_
                    try simp only [Act.put, List.setIfInBounds_toArray, List.set_cons_zero, List.set_cons_succ]
                    refine anyH_take 29 118 (.bool false) SD rfl (by kernel_rfl) (by kernel_rfl) (by kernel_rfl) (fun _ _ _ h => h) (by rfl) (by intro x hx; have y0 := hx; (first | exact exec_arr 40 (.tmp 92) q (j * 136) XX _ rfl hx.1 Try.underlying40 rfl hsx | go_simp); try (intro h; omega)) ?_
                    try simp only [Act.put, List.setIfInBounds_toArray, List.set_cons_zero, List.set_cons_succ]
                    refine wpAnyH_done (by kernel_rfl) ?_ _
                    go_wp2
                    exact ⟨⟨j + 1, by omega, by go_num, BZ.out.trans (D1.out.mono BZ.out.size)⟩, by simp [intOf]; omega⟩
                · have hjg : NL ≤ j := by omega
                  have hjgi : ¬ (j : Int) < (NL : Int) := by omega
                  clear hjl
                  have GE : Hid (wr.heap[bx]? = some (.cells A 44 (0, 0))) := (HBJ.out.block _ (lt_of_block GD.out)).trans GD.out
                  have c0E := (HAK.out.at_ _ _ _ GE.out).1
                  have VE : Hid (Vt w0 K wr d g g2 mD S3 Nm.St.none) := by
                    have h := VD.out.old HBJ.out
                    rw [HSA.out f7] at h
                    exact h
                  have OE : Hid (RsO K wr (.slice pT NT2 cT) TC) := own_kp OD.out (Kp.of_below HBJ.out) (Nat.le_refl _)
                  have IE : Hid (Im K wr (.slice p8 NI c8) NI) := ID.out.kp (Kp.of_below HBJ.out)
                  have hq7 : o.k ≠ 7 := by simpa using f7
                  clear HHAS HIN HPA HRD HRT HQ0 HBJ GD OD ID VD HSA GE hjg
                  go_wp2
                  go_loopw [8, 13] (fun v8 v13 wr3 => ∃ (i N2 : Nat) (m2 : Dk.M), 1 ≤ i ∧ i ≤ 3 ∧ v13 = .int .i64 (i : Int) ∧ Hid (N2 + 1 = NI + i) ∧ Hid (Im K wr3 v8 N2) ∧ Hid (RsO K wr3 (.slice pT NT2 cT) TC) ∧ Hid (Vt w0 K wr3 d g g2 m2 S3 Nm.St.none) ∧ Hid (m2.wr ≤ 10 * k + 3 ∧ (∀ j, m2.rd j ≤ 10 * k + 4 + i) ∧ m2.n = 4)) (fun _ v13 _ => 3 - (intOf v13).toNat)
                  case atStart => exact ⟨1, NI, mD, by omega, by omega, rfl, rfl, IE.out, OE.out, VE.out, HMD.out⟩
                  case round =>
                    obtain ⟨i, N2, m2, hi1, hi3, rfl, HN2, IF, OF, VF, HMF⟩ := hrel
                    clear VE OE IE
                    by_cases hi2 : i < 3
                    · have hle : (i : Int) ≤ 2 := by omega
                      obtain ⟨pF, cF, hvF⟩ := IF.out.len
                      subst hvF
                      have HRF := Lib.hid (vt_read (i : Int) (fun j => by have := HMF.out.2.1 j; omega) VF.out)
                      have HXL := Lib.hid (Rg.rdX_le VF.out.vs.ok (i : Int))
                      have HMG : Hid ((Dk.rdM m2 (i : Int)).wr ≤ 10 * k + 3 ∧ (∀ j, (Dk.rdM m2 (i : Int)).rd j ≤ 10 * k + 4 + (i + 1)) ∧ (Dk.rdM m2 (i : Int)).n = 4) := by
                        have e1 := Rg.rdM_le m2 (i : Int)
                        have e2 := (Rg.rdM_same m2 (i : Int)).2.2.2.1
                        refine ⟨by rw [e2]; exact HMF.out.1, fun j => ?_, by rw [e1.2.2]; exact HMF.out.2.2⟩
                        have a1 := e1.2.1 j
                        have a2 := HMF.out.2.1 j
                        omega
                      unfold VtRd at HRF
                      generalize Dk.rdM m2 (i : Int) = m3 at *
                      generalize Dk.rdX m2 (i : Int) = LX at *
                      obtain ⟨nl, hnl⟩ : ∃ nl, LX.length = nl := ⟨_, rfl⟩
                      rw [hnl] at HRF HXL
                      go_upto_region 31 with (go_at_call 17; refine HRF.out.mono ?_; rintro e9 w9 ⟨p9, c9, rfl, HO9, HB9, HV9, HK9⟩)
                      have HU : Hid (Im1 K w9 (.slice p9 nl c9)) := by
                        refine ⟨p9, c9, LX, by rw [hnl], by rw [hnl]; exact HXL.out, HB9.out.bat.1, ?_⟩
                        rw [hnl]
                        exact own_weak HO9.out VF.out.size
                      have IF9 := Lib.hid (IF.out.kp HK9.out)
                      have OF9 : Hid (RsO K w9 (.slice pT NT2 cT) TC) := own_kp OF.out HK9.out (Nat.le_refl _)
                      have S9 : Hid (K ≤ w9.heap.size) := HV9.out.size
                      go_upto_region 29 with (at_builtin; (with_reducible refine app_im _ _ K _ _ N2 ?_ ?_ IF9.out HU.out ?_ S9.out ?_); (exact rfl); (exact rfl); (have := HN2.out; have := HTC.out.2.2.2; omega); intro q10 d10 w10 HI10 HS10 HT10 HG10)
                      have VF10 := Lib.hid (vt_far HV9.out HT10.out (by decide) (by decide) HG10.out).1
                      have OF10 : Hid (RsO K w10 (.slice pT NT2 cT) TC) := own_other OF9.out (fun q h => (HT10.out q h).2) (by decide) HG10.out
                      go_wp2
                      exact ⟨⟨i + 1, N2 + 1, m3, by omega, by omega, by go_num, by show N2 + 1 + 1 = NI + (i + 1); have := HN2.out; omega, HI10.out, OF10.out, VF10.out, HMG.out⟩, by simp [intOf]; omega⟩
                    · have hi33 : i = 3 := by omega
                      subst hi33
                      have hN3 : N2 = NI + 2 := by have := HN2.out; omega
                      subst hN3
                      go_wp2
                      exact ⟨⟨k + 1, NI + 2, TC, m2, S3, by omega, by go_num, OF.out, IF.out, ⟨HTC.out.1, HTC.out.2.1, HTC.out.2.2.1, by have := HTC.out.2.2.2; omega⟩, VF.out, ⟨by have := HMF.out.1; omega, fun j => by have := HMF.out.2.1 j; omega, HSC.out, HMF.out.2.2⟩⟩, by simp [intOf]; omega⟩
    · have hge : n ≤ k := by omega
      clear hlt
      go_wp2_with (go_at_call 8; refine (HWK.out _).mono ?_; rintro e7 w7 ⟨rfl, hb7⟩; have B7 := Lib.hid ((HB0.out.trans (HV.out.low.mono HB0.out.size)).trans (hb7.mono (HB0.out.trans (HV.out.low.mono HB0.out.size)).size)); clear hb7)
      go_ret
      exact ⟨rfl, B7.out⟩
theorem only_any (X : List Rg.O) (p : Option Addr) (n c : Nat) (hn : X.length = n) (w : World) (hp : Os w p X) : Calls Try.prog 3 #[.slice p n c] w (YesSay w) := by
  by_cases h : Short X n
  · exact only_near X p n c hn w hp h
  · exact only_far X p n c hn w hp h
end Go.Proofs.Ytpfghjnhoafcmaa

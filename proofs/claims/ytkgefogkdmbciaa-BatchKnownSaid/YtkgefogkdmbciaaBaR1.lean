/-
  Contract: rillref12.Get.
-/
import Derived.Test.YtkgefogkdmbciaaBaR0
namespace Go.Proofs.Ytkgefogkdmbciaa
open Go.RowKit

def RfOk (t : Int) (P : List Int) (n : Int) (m : Nat) (L : List Bt.En) (w : World) (e : Ending) (w' : World) : Prop :=
  ∃ q d B, e = .returned (.tuple #[.agg (SmA t P n (.slice q m d)), .int .i64 0]) ∧ Hid (EsO B w' (.slice q m d) L) ∧ Hid (w.heap.size ≤ B) ∧ Hid (Below w.heap.size w w')
set_option maxHeartbeats 4000000 in
set_option maxRecDepth 100000 in
theorem refget_any (B : List Int) (p : Option Addr) (n c : Nat) (hn : B.length = n) (hL : n ≤ 100000) (w : World) (hp : Bs w p c B) :
    Calls Try.prog 21 #[.slice p n c] w (fun e w' => (Bt.gc B = 0 ∧ RfOk (Bt.vt B) (Bt.vp B) (Bt.vn B) (Bt.vm B).toNat (Bt.re (Bt.g4 B) (Bt.vm B).toNat) w e w') ∨ (Bt.gc B ≠ 0 ∧ GetNo (Bt.gc B) w e w')) := by
  obtain ⟨R, hR⟩ : ∃ R : Ending → World → Prop, (fun e w' => (Bt.gc B = 0 ∧ RfOk (Bt.vt B) (Bt.vp B) (Bt.vn B) (Bt.vm B).toNat (Bt.re (Bt.g4 B) (Bt.vm B).toNat) w e w') ∨ (Bt.gc B ≠ 0 ∧ GetNo (Bt.gc B) w e w')) = R := ⟨_, rfl⟩
  have HNO : Hid (∀ r e w', Bt.gc B = r → r ≠ 0 → GetNo r w e w' → R e w') := fun r e w' h1 h2 h3 => by rw [← hR]; exact .inr ⟨by rw [h1]; exact h2, by rw [h1]; exact h3⟩
  have HYES : Hid (∀ e w', Bt.gc B = 0 → RfOk (Bt.vt B) (Bt.vp B) (Bt.vn B) (Bt.vm B).toNat (Bt.re (Bt.g4 B) (Bt.vm B).toNat) w e w' → R e w') := fun e w' h1 h3 => by rw [← hR]; exact .inl ⟨h1, h3⟩
  rw [hR]
  clear hR
  have HPB := Lib.hid hp.bat.1
  have HRD : Hid (∀ y, Below w.heap.size w y → Calls Try.prog 45 #[.slice p n c] y (RfNew B y)) := fun y hy => refread_any B p n c hn (by omega) y (hp.old hy)
  have HI1 : Hid (∀ y g D, RfRd y g D B false → Calls Try.prog 46 #[.pointer (some ⟨g, 0, none⟩)] y (RfSay (.int .i64 (Bt.vt B)) (Bt.g1 B) (Pk.nb 8 B false) g D y)) := fun y g D hy => by
    have h := fint_any B false g D n hn y hy
    rw [← Bt.vt_def, ← Bt.g1_def] at h
    exact h
  have hl1 : (Bt.g1 B).length ≤ n := by rw [Bt.g1_def, ← hn]; exact Pk.nx_le _ _
  have hl2 : (Bt.g2 B).length ≤ n := by rw [Bt.g2_def]; exact Nat.le_trans (Pk.nx_le _ _) hl1
  have hl3 : (Bt.g3 B).length ≤ n := by rw [Bt.g3_def]; exact Nat.le_trans (Pk.nx_le _ _) hl2
  have hl4 : (Bt.g4 B).length ≤ n := by rw [Bt.g4_def]; exact Nat.le_trans (Pk.nx_le _ _) hl3
  have HVP : Hid ((Bt.vp B).length = 32) := by show _ = _; rw [Bt.vp_def]; exact Pk.vs_len _
  have HVB : Hid (Sha.Byt (Bt.vp B)) := by rw [Bt.vp_def, Bt.g1_def]; exact Bt.vs_byt (Pk.nx_byt hp.bat.1)
  obtain ⟨A, hA, hA2, hA3⟩ := a32_agg (Bt.vp B) HVP.out
  have HI2 : Hid (∀ y g D b, RfRd y g D (Bt.g1 B) b → Calls Try.prog 47 #[.pointer (some ⟨g, 0, none⟩)] y (RfSay (.agg A) (Bt.g2 B) (Pk.nb 32 (Bt.g1 B) b) g D y)) := fun y g D b hy => by
    have h := fsum_any (Bt.g1 B) b g D _ rfl y hy
    rw [← Bt.vp_def, ← Bt.g2_def, hA] at h
    exact h
  have HI3 : Hid (∀ y g D b, RfRd y g D (Bt.g2 B) b → Calls Try.prog 46 #[.pointer (some ⟨g, 0, none⟩)] y (RfSay (.int .i64 (Bt.vn B)) (Bt.g3 B) (Pk.nb 8 (Bt.g2 B) b) g D y)) := fun y g D b hy => by
    have h := fint_any (Bt.g2 B) b g D _ rfl y hy
    rw [← Bt.vn_def, ← Bt.g3_def] at h
    exact h
  have HI4 : Hid (∀ y g D b, RfRd y g D (Bt.g3 B) b → Calls Try.prog 46 #[.pointer (some ⟨g, 0, none⟩)] y (RfSay (.int .i64 (Bt.vm B)) (Bt.g4 B) (Pk.nb 8 (Bt.g3 B) b) g D y)) := fun y g D b hy => by
    have h := fint_any (Bt.g3 B) b g D _ rfl y hy
    rw [← Bt.vm_def, ← Bt.g4_def] at h
    exact h
  obtain ⟨l4, hl4e⟩ : ∃ l4, (Bt.g4 B).length = l4 := ⟨_, rfl⟩
  have HLF : Hid (∀ y g D b, RfRd y g D (Bt.g4 B) b → Calls Try.prog 48 #[.pointer (some ⟨g, 0, none⟩)] y (InSay (l4 : Nat) y)) := fun y g D b hy => by rw [← hl4e]; exact refleft_any _ b g D y hy
  rw [hl4e] at hl4
  have HA := Lib.hid hA
  have HA2 := Lib.hid hA2
  have HA3 := Lib.hid hA3
  have HB4 : Hid (Pk.nb 8 (Bt.g3 B) (Pk.nb 8 (Bt.g2 B) (Pk.nb 32 (Bt.g1 B) (Pk.nb 8 B false))) = Bt.h4 B) := by show _ = _; rw [Bt.h4_def]
  obtain ⟨G4, hG4⟩ : ∃ x, Bt.g4 B = x := ⟨_, rfl⟩
  have HG4 := Lib.hid hG4
  rw [hG4] at HI4 HLF hl4e
  have HL4 := Lib.hid hl4e
  obtain ⟨M, hM⟩ : ∃ x, Bt.vm B = x := ⟨_, rfl⟩
  have HM := Lib.hid hM
  rw [hM] at HI4
  clear hn hp hl1 hl2 hl3 hA hA2 hA3 hG4 hM hl4e
  have hZS := sm_info (A := ZSm.toArray) rfl
  have HSZ : Hid (∀ t P n v, P.length = 32 → (SmA t P n v).size = 35) := fun t P n v h => smA_size t n v h
  have B0 : Hid (Below w.heap.size w (w.alloc (.cells ZSm.toArray 26))) := (Below.refl _ w).alloc (Nat.le_refl _) _
  have G20 : Hid ((w.alloc (.cells ZSm.toArray 26)).heap[w.heap.size]? = some (.cells ZSm.toArray 26 (0, 0))) := heap_alloc_new w _
  go_enter Try.func21, Try.ntmps21
  go_upto_region 1 with (fail)
  change Code.wp _ _ _ _ (w.alloc (.cells ZSm.toArray 26))
  obtain ⟨w0, hw0⟩ : ∃ y, y = w.alloc (.cells ZSm.toArray 26) := ⟨_, rfl⟩
  rw [← hw0] at B0 G20 ⊢
  clear hw0
  go_upto_region 2 with (go_at_call 45; refine (HRD.out _ B0.out).mono ?_; rintro e1 w1 ⟨g, D, rfl, HR1, HG1, HL1⟩)
  have G21 : Hid (w1.heap[w.heap.size]? = some (.cells ZSm.toArray 26 (0, 0))) := (HL1.out.block _ (lt_of_block G20.out)).trans G20.out
  have HGD : Hid (w.heap.size < g ∧ ∀ d, D = some d → w.heap.size < d) := ⟨Nat.lt_of_lt_of_le (lt_of_block G20.out) HG1.out.1, fun d hd => Nat.lt_of_lt_of_le (lt_of_block G20.out) (HG1.out.2 d hd)⟩
  have B1 : Hid (Below w.heap.size w w1) := B0.out.trans (HL1.out.mono B0.out.size)
  clear HRD B0 G20 HL1 HG1
  go_upto_region 3 with (first
    | ((with_reducible refine build0_g _ _ ?_ build_sm0 ?_); (exact rfl))
    | ((with_reducible refine row_store _ _ _ _ _ _ _ ?_ ?_ (heap_alloc_new _ _) (sm_info (A := ZSm.toArray) rfl) ?_ zsm_one ?_); (exact rfl); (exact rfl); (exact rfl); intro w2 G2 ch2))
  have K2 : Hid (Below w1.heap.size w1 w2) := ch2.below ((Below.refl _ w1).alloc (Nat.le_refl _) _) (Nat.le_refl _)
  have HR2 := Lib.hid (HR1.out.old K2.out)
  have HG5 : Hid (w.heap.size < w1.heap.size ∧ g < w1.heap.size ∧ ∀ d, D = some d → d < w1.heap.size) := ⟨lt_of_block G21.out, HR1.out.glt, HR1.out.lt⟩
  have KP2 : Hid (Kp w w2 w1.heap.size 0 Bt.Z 0 (.slice none 0 0) []) := ⟨by show _ = _; rw [← zsm_eq]; exact G2.out, (K2.out.block _ (lt_of_block G21.out)).trans G21.out, eso_nil _ _, B1.out.trans (K2.out.mono B1.out.size), HG5.out.1⟩
  obtain ⟨g5, hg5⟩ : ∃ b, w1.heap.size = b := ⟨_, rfl⟩
  rw [hg5] at KP2 HG5 ⊢
  clear hg5 ch2 G2 K2 HR1 G21 B1
  have HDN : Hid (D ≠ some g5) := fun h => Nat.lt_irrefl _ (HG5.out.2.2 _ h)
  go_upto_region 4 with (go_at_call 46; refine (HI1.out _ _ _ HR2.out).mono ?_; rintro e3 w3 ⟨rfl, HR3, HO3⟩; have KP3 : Hid (Kp w w3 g5 0 Bt.Z 0 (.slice none 0 0) []) := KP2.out.low HO3.out HG5.out.2.1 HGD.out.1; have c0 := KP3.out.s.c0; have f0 := KP3.out.s.fr 0)
  change Code.wp _ _ _ _ (w3.setCell ⟨g5, 0, none⟩ (.int .i64 (Bt.vt B)))
  have O4 : Hid (Only g5 w3 (w3.setCell ⟨g5, 0, none⟩ (.int .i64 (Bt.vt B)))) := (Chg.setCell w3 ⟨g5, 0, none⟩ _).only
  have KP4 := Lib.hid (KP3.out.at5 O4.out (KP3.out.s.setT (Bt.vt B)))
  obtain ⟨w4, hw4⟩ : ∃ y, y = w3.setCell ⟨g5, 0, none⟩ (.int .i64 (Bt.vt B)) := ⟨_, rfl⟩
  rw [← hw4] at O4 KP4 ⊢
  have HR4 := Lib.hid (HR3.out.only O4.out (Nat.ne_of_gt HG5.out.2.1) HDN.out)
  clear hw4 O4 KP3 c0 f0 HR3 HO3 KP2 HR2
  go_upto_region 5 with (first
    | (go_at_call 47; refine (HI2.out _ _ _ _ HR4.out).mono ?_; rintro e5 w5 ⟨rfl, HR5, HO5⟩; have KP5 : Hid (Kp w w5 g5 (Bt.vt B) Bt.Z 0 (.slice none 0 0) []) := KP4.out.low HO5.out HG5.out.2.1 HGD.out.1; have S5 : Hid (w5.heap[g5]? = some (.cells (SmA (Bt.vt B) Bt.Z 0 (.slice none 0 0)) 26 (0, 0))) := KP5.out.s)
    | ((with_reducible refine mid_store _ _ _ g5 1 _ (SmA (Bt.vt B) Bt.Z 0 (.slice none 0 0)) A ?_ ?_ S5.out (row_size Try.sizeSum HA2) ?_ HA3.out ?_); (exact rfl); (exact rfl); (rw [HSZ.out _ _ _ _ Bt.z_len, HA2.out]; omega); intro w6 G6 ch6))
  have KP6 : Hid (Kp w w6 g5 (Bt.vt B) (Bt.vp B) 0 (.slice none 0 0) []) := KP5.out.at5 ch6.only (SmAt.setP Bt.z_len HA.out HA2.out G6.out)
  have HR6 := Lib.hid (HR5.out.only ch6.only (Nat.ne_of_gt HG5.out.2.1) HDN.out)
  clear ch6 G6 S5 KP5 HR5 HO5 KP4 HR4
  go_upto_region 6 with (go_at_call 46; refine (HI3.out _ _ _ _ HR6.out).mono ?_; rintro e7 w7 ⟨rfl, HR7, HO7⟩; have KP7 : Hid (Kp w w7 g5 (Bt.vt B) (Bt.vp B) 0 (.slice none 0 0) []) := KP6.out.low HO7.out HG5.out.2.1 HGD.out.1; have c33 := KP7.out.s.c33 HVP.out; have f33 := KP7.out.s.fr 33)
  change Code.wp _ _ _ _ (w7.setCell ⟨g5, 33, none⟩ (.int .i64 (Bt.vn B)))
  have O8 : Hid (Only g5 w7 (w7.setCell ⟨g5, 33, none⟩ (.int .i64 (Bt.vn B)))) := (Chg.setCell w7 ⟨g5, 33, none⟩ _).only
  have KP8 := Lib.hid (KP7.out.at5 O8.out (KP7.out.s.setN HVP.out (Bt.vn B)))
  obtain ⟨w8, hw8⟩ : ∃ y, y = w7.setCell ⟨g5, 33, none⟩ (.int .i64 (Bt.vn B)) := ⟨_, rfl⟩
  rw [← hw8] at O8 KP8 ⊢
  have HR8 := Lib.hid (HR7.out.only O8.out (Nat.ne_of_gt HG5.out.2.1) HDN.out)
  clear hw8 O8 KP7 c33 f33 HR7 HO7 KP6 HR6 HI1 HI2 HI3
  go_upto_region 7 with (go_at_call 46; refine (HI4.out _ _ _ _ HR8.out).mono ?_; rintro e9 w9 ⟨rfl, HR9, HO9⟩)
  have KP9 : Hid (Kp w w9 g5 (Bt.vt B) (Bt.vp B) (Bt.vn B) (.slice none 0 0) []) := KP8.out.low HO9.out HG5.out.2.1 HGD.out.1
  rw [HB4.out] at HR9
  clear HR8 HO9 KP8 HI4 HB4
  obtain ⟨hb4, hhb⟩ : ∃ b, Bt.h4 B = b := ⟨_, rfl⟩
  have HH4 := Lib.hid hhb
  rw [hhb] at HR9
  clear hhb
  have c2 := HR9.out.c2
  have hq1 : ((l4 : Nat) : Int).tdiv 8 = ((l4 / 8 : Nat) : Int) := by rw [Int.tdiv_eq_ediv_of_nonneg (by omega)]; rfl
  have h56 : l4 / 8 ≤ 100000 := by omega
  obtain ⟨l8, hl8⟩ : ∃ l8, l4 / 8 = l8 := ⟨_, rfl⟩
  rw [hl8] at hq1 h56
  have H8 := Lib.hid hl8
  have hw8 : wrap64 (l8 : Int) = l8 := by unfold wrap64; omega
  clear hl8
  cases hb4 with
  | true =>
    have HGC : Hid (Bt.gc B = 4) := Bt.gc_bad (.inl HH4.out)
    have KF := Lib.hid KP9.out
    have Zf := Lib.hid KF.out.z
    go_wp2_with (first
      | ((with_reducible refine build0_g _ _ ?_ build_sm0 ?_); (exact rfl))
      | ((with_reducible refine row_store _ _ _ _ _ _ _ ?_ ?_ Zf.out (sm_info (A := ZSm.toArray) rfl) ?_ zsm_one ?_); (exact rfl); (exact rfl); (exact rfl); intro w11 G11 ch11))
    refine bodyPost_ret (get_ret rfl _ _ w.heap.size ZSm.toArray _ _ rfl G11.out rfl rfl) rfl (HNO.out 4 _ _ HGC.out (by omega) ⟨by rw [zsm_eq]; rfl, ch11.below KF.out.b (Nat.le_refl _)⟩)
  | false =>
    by_cases hM0 : M < 0
    · have HGC : Hid (Bt.gc B = 4) := Bt.gc_bad (.inr (.inl (by rw [HM.out]; exact hM0)))
      have KF := Lib.hid KP9.out
      have Zf := Lib.hid KF.out.z
      go_wp2_with (first
        | ((with_reducible refine build0_g _ _ ?_ build_sm0 ?_); (exact rfl))
        | ((with_reducible refine row_store _ _ _ _ _ _ _ ?_ ?_ Zf.out (sm_info (A := ZSm.toArray) rfl) ?_ zsm_one ?_); (exact rfl); (exact rfl); (exact rfl); intro w11 G11 ch11))
      refine bodyPost_ret (get_ret rfl _ _ w.heap.size ZSm.toArray _ _ rfl G11.out rfl rfl) rfl (HNO.out 4 _ _ HGC.out (by omega) ⟨by rw [zsm_eq]; rfl, ch11.below KF.out.b (Nat.le_refl _)⟩)
    by_cases hM8 : (l8 : Int) < M
    · have HGC : Hid (Bt.gc B = 4) := Bt.gc_bad (.inr (.inr (by rw [HM.out, HG4.out, HL4.out, H8.out]; exact hM8)))
      have hgt : M > (l8 : Int) := hM8
      clear hM8
      go_wp2_with (first
        | (go_at_call 48; refine (HLF.out _ _ _ _ HR9.out).mono ?_; rintro e10 w10 ⟨rfl, hb10⟩; have KF := Lib.hid (KP9.out.old hb10); have Zf := Lib.hid KF.out.z)
        | ((with_reducible refine build0_g _ _ ?_ build_sm0 ?_); (exact rfl))
        | ((with_reducible refine row_store _ _ _ _ _ _ _ ?_ ?_ Zf.out (sm_info (A := ZSm.toArray) rfl) ?_ zsm_one ?_); (exact rfl); (exact rfl); (exact rfl); intro w11 G11 ch11))
      refine bodyPost_ret (get_ret rfl _ _ w.heap.size ZSm.toArray _ _ rfl G11.out rfl rfl) rfl (HNO.out 4 _ _ HGC.out (by omega) ⟨by rw [zsm_eq]; rfl, ch11.below KF.out.b (Nat.le_refl _)⟩)
    obtain ⟨m, rfl⟩ : ∃ m : Nat, M = (m : Nat) := ⟨M.toNat, by omega⟩
    have hng : ¬ (m : Int) > (l8 : Int) := hM8
    have hngn : decide (l8 < m) = false := decide_eq_false (by omega)
    have hm5 : m ≤ 100000 := by omega
    clear hM8
    go_upto_region 9 with (go_at_call 48; refine (HLF.out _ _ _ _ HR9.out).mono ?_; rintro e10 w10 ⟨rfl, hb10⟩)
    have KP10 : Hid (Kp w w10 g5 (Bt.vt B) (Bt.vp B) (Bt.vn B) (.slice none 0 0) (Bt.re G4 0)) := by rw [Bt.re_zero]; exact Lib.hid (KP9.out.old hb10)
    have HR10 : Hid (RfRd w10 g D (Bt.rk G4 0) (Bt.rc G4 false 0)) := by rw [Bt.rk_zero, Bt.rc_zero]; exact Lib.hid (HR9.out.old hb10)
    clear KP9 HR9 c2 hb10 hng hngn hq1 h56 hw8 H8 HLF hM0
    have HBY : Hid (Sha.Byt G4) := by rw [← HG4.out, Bt.g4_def, Bt.g3_def, Bt.g2_def, Bt.g1_def]; exact Pk.nx_byt (Pk.nx_byt (Pk.nx_byt (Pk.nx_byt HPB.out)))
    go_wp2
    go_loopw [7] (fun v7 wr => ∃ (k : Nat) (qv : Option Addr) (dv : Nat), k ≤ m ∧ v7 = .int .i64 k ∧ Hid (Kp w wr g5 (Bt.vt B) (Bt.vp B) (Bt.vn B) (.slice qv k dv) (Bt.re G4 k)) ∧ Hid (RfRd wr g D (Bt.rk G4 k) (Bt.rc G4 false k))) (fun v7 _ => m - (intOf v7).toNat)
    case atStart => exact ⟨0, none, 0, by omega, rfl, KP10.out, HR10.out⟩
    case round =>
      clear KP10 HR10
      obtain ⟨k, qv, dv, hk, rfl, HK, HR⟩ := hrel
      by_cases hlt : k < m
      · have HXO : Hid ((Bt.rx (Bt.rk G4 k)).ok) := Bt.rx_ok (Bt.rk_byt HBY.out k)
        have HRE : Hid (Bt.re G4 k ++ [Bt.rx (Bt.rk G4 k)] = Bt.re G4 (k + 1)) := (Bt.re_succ G4 k).symm
        have HLE : Hid ((Bt.re G4 k).length = k) := Bt.re_len G4 k
        have HEO : Hid (∀ x ∈ Bt.re G4 k, x.ok) := Bt.re_ok HBY.out k
        have HRK : Hid (Bt.rr (Bt.rk G4 k) = Bt.rk G4 (k + 1)) := (Bt.rk_succ G4 k).symm
        have HRC : Hid (Bt.rb (Bt.rk G4 k) (Bt.rc G4 false k) = Bt.rc G4 false (k + 1)) := (Bt.rc_succ G4 _ k).symm
        rw [Bt.rr_def] at HRK
        rw [Bt.rb_def] at HRC
        generalize Bt.rc G4 false k = b0 at *
        generalize Bt.rk G4 k = Q at *
        generalize Bt.re G4 k = F at *
        have HJ1 : Hid (∀ y, RfRd y g D Q b0 → Calls Try.prog 46 #[.pointer (some ⟨g, 0, none⟩)] y (RfSay (.int .i64 (Bt.rx Q).k) (Pk.nx 8 Q) (Pk.nb 8 Q b0) g D y)) := fun y hy => by rw [Bt.rx_def]; exact fint_any Q b0 g D _ rfl y hy
        have HJ2 : Hid (∀ y b, RfRd y g D (Pk.nx 8 Q) b → Calls Try.prog 46 #[.pointer (some ⟨g, 0, none⟩)] y (RfSay (.int .i64 (Bt.rx Q).b) (Pk.nx 8 (Pk.nx 8 Q)) (Pk.nb 8 (Pk.nx 8 Q) b) g D y)) := fun y b hy => by rw [Bt.rx_def]; exact fint_any _ b g D _ rfl y hy
        have HJ3 : Hid (∀ y b, RfRd y g D (Pk.nx 8 (Pk.nx 8 Q)) b → Calls Try.prog 46 #[.pointer (some ⟨g, 0, none⟩)] y (RfSay (.int .i64 (Bt.rx Q).s) (Pk.nx 8 (Pk.nx 8 (Pk.nx 8 Q))) (Pk.nb 8 (Pk.nx 8 (Pk.nx 8 Q)) b) g D y)) := fun y b hy => by rw [Bt.rx_def]; exact fint_any _ b g D _ rfl y hy
        obtain ⟨U, hU, hU2, hU3⟩ := a32_agg (Bt.rx Q).u HXO.out.2.2.2.1
        have HJ4 : Hid (∀ y b, RfRd y g D (Pk.nx 8 (Pk.nx 8 (Pk.nx 8 Q))) b → Calls Try.prog 47 #[.pointer (some ⟨g, 0, none⟩)] y (RfSay (.agg U) (Pk.nx 32 (Pk.nx 8 (Pk.nx 8 (Pk.nx 8 Q)))) (Pk.nb 32 (Pk.nx 8 (Pk.nx 8 (Pk.nx 8 Q))) b) g D y)) := fun y b hy => by rw [← hU, Bt.rx_def]; exact fsum_any _ b g D _ rfl y hy
        have HU := Lib.hid hU
        have HU2 := Lib.hid hU2
        have HU3 := Lib.hid hU3
        rw [HRK.out] at HJ4
        clear hU hU2 hU3 HRK
        generalize Bt.rx Q = x at *
        have hi0 : 0 ≤ (k : Int) := by omega
        have hi1 : (k : Int) < (m : Int) := by omega
        have hk1 : k ≤ 100000 := by omega
        have HES : Hid ((EnA Bt.en0).size = 35) := enA_size Bt.en0_ok
        go_upto_region 13 with (first
          | ((with_reducible refine build0_g _ _ ?_ built_e0 ?_); (exact rfl))
          | ((with_reducible refine row_store _ _ _ _ _ _ _ ?_ ?_ (heap_alloc_new _ _) (en_info Bt.en0_ok) ?_ (enA_one Bt.en0) ?_); (exact rfl); (exact rfl); (rw [HES.out]; rfl); intro x1 G1 ch1))
        have L1 : Hid (Below wr.heap.size wr x1) := ch1.below ((Below.refl _ wr).alloc (Nat.le_refl _) _) (Nat.le_refl _)
        have KQ1 := Lib.hid (HK.out.old L1.out)
        have D1 := Lib.hid (HR.out.old L1.out)
        have E1 : Hid (EnRow x1 wr.heap.size Bt.en0) := G1.out
        have HGX : Hid (w.heap.size < wr.heap.size ∧ g < wr.heap.size ∧ g5 < wr.heap.size ∧ D ≠ some wr.heap.size ∧ ∀ b, (Value.slice qv k dv).ownBlock = some b → b ≠ wr.heap.size) := ⟨lt_of_block HK.out.z, HR.out.glt, lt_of_block HK.out.s, fun h => Nat.lt_irrefl _ (HR.out.lt _ h), fun b hb => Nat.ne_of_lt (World.ownsRow.lt HK.out.o b hb).2⟩
        obtain ⟨gx, hgx⟩ : ∃ b, wr.heap.size = b := ⟨_, rfl⟩
        rw [hgx] at E1 HGX ⊢
        clear hgx ch1 G1 L1 HK HR
        go_upto_region 14 with (go_at_call 46; refine (HJ1.out _ D1.out).mono ?_; rintro f2 x2 ⟨rfl, D2, HO2⟩; have E2 := Lib.hid (E1.out.only HO2.out (Nat.ne_of_gt HGX.out.2.1)); have c0 := E2.out.c0; have f0 := E2.out.fr 0)
        have KQ2 := Lib.hid (KQ1.out.low HO2.out HG5.out.2.1 HGD.out.1)
        change Code.wp _ _ _ _ (x2.setCell ⟨gx, 0, none⟩ (.int .i64 x.k))
        have O3 : Hid (Only gx x2 (x2.setCell ⟨gx, 0, none⟩ (.int .i64 x.k))) := (Chg.setCell x2 ⟨gx, 0, none⟩ _).only
        have E3 := Lib.hid (E2.out.setK x.k)
        obtain ⟨x3, hx3⟩ : ∃ y, y = x2.setCell ⟨gx, 0, none⟩ (.int .i64 x.k) := ⟨_, rfl⟩
        rw [← hx3] at O3 E3 ⊢
        have KQ3 := Lib.hid (KQ2.out.only O3.out (Nat.ne_of_gt HGX.out.2.2.1) HGX.out.1 HGX.out.2.2.2.2)
        have D3 := Lib.hid (D2.out.only O3.out (Nat.ne_of_gt HGX.out.2.1) HGX.out.2.2.2.1)
        clear hx3 O3 KQ2 D2 E2 HO2 KQ1 D1 E1 c0 f0
        go_upto_region 15 with (go_at_call 46; refine (HJ2.out _ _ D3.out).mono ?_; rintro f4 x4 ⟨rfl, D4, HO4⟩; have E4 := Lib.hid (E3.out.only HO4.out (Nat.ne_of_gt HGX.out.2.1)); have c0 := E4.out.c1; have f0 := E4.out.fr 1)
        have KQ4 := Lib.hid (KQ3.out.low HO4.out HG5.out.2.1 HGD.out.1)
        change Code.wp _ _ _ _ (x4.setCell ⟨gx, 1, none⟩ (.int .i64 x.b))
        have O5 : Hid (Only gx x4 (x4.setCell ⟨gx, 1, none⟩ (.int .i64 x.b))) := (Chg.setCell x4 ⟨gx, 1, none⟩ _).only
        have E5 := Lib.hid (E4.out.setB x.b)
        obtain ⟨x5, hx5⟩ : ∃ y, y = x4.setCell ⟨gx, 1, none⟩ (.int .i64 x.b) := ⟨_, rfl⟩
        rw [← hx5] at O5 E5 ⊢
        have KQ5 := Lib.hid (KQ4.out.only O5.out (Nat.ne_of_gt HGX.out.2.2.1) HGX.out.1 HGX.out.2.2.2.2)
        have D5 := Lib.hid (D4.out.only O5.out (Nat.ne_of_gt HGX.out.2.1) HGX.out.2.2.2.1)
        clear hx5 O5 KQ4 D4 E4 HO4 KQ3 D3 E3 c0 f0
        go_upto_region 16 with (go_at_call 46; refine (HJ3.out _ _ D5.out).mono ?_; rintro f6 x6 ⟨rfl, D6, HO6⟩; have E6 := Lib.hid (E5.out.only HO6.out (Nat.ne_of_gt HGX.out.2.1)); have c0 := E6.out.c2; have f0 := E6.out.fr 2)
        have KQ6 := Lib.hid (KQ5.out.low HO6.out HG5.out.2.1 HGD.out.1)
        change Code.wp _ _ _ _ (x6.setCell ⟨gx, 2, none⟩ (.int .i64 x.s))
        have O7 : Hid (Only gx x6 (x6.setCell ⟨gx, 2, none⟩ (.int .i64 x.s))) := (Chg.setCell x6 ⟨gx, 2, none⟩ _).only
        have E7 := Lib.hid (E6.out.setS x.s)
        obtain ⟨x7, hx7⟩ : ∃ y, y = x6.setCell ⟨gx, 2, none⟩ (.int .i64 x.s) := ⟨_, rfl⟩
        rw [← hx7] at O7 E7 ⊢
        have KQ7 := Lib.hid (KQ6.out.only O7.out (Nat.ne_of_gt HGX.out.2.2.1) HGX.out.1 HGX.out.2.2.2.2)
        have D7 := Lib.hid (D6.out.only O7.out (Nat.ne_of_gt HGX.out.2.1) HGX.out.2.2.2.1)
        clear hx7 O7 KQ6 D6 E6 HO6 KQ5 D5 E5 c0 f0
        have HX7 : Hid ((⟨x.k, x.b, x.s, Bt.en0.u⟩ : Bt.En).ok) := ⟨HXO.out.1, HXO.out.2.1, HXO.out.2.2.1, Bt.en0_ok.2.2.2.1, Bt.en0_ok.2.2.2.2⟩
        go_upto_region 17 with (first
          | (go_at_call 47; refine (HJ4.out _ _ D7.out).mono ?_; rintro f8 x8 ⟨rfl, D8, HO8⟩; have E8 : Hid (EnRow x8 gx ⟨x.k, x.b, x.s, Bt.en0.u⟩) := E7.out.only HO8.out (Nat.ne_of_gt HGX.out.2.1); have F8 : Hid (x8.heap[gx]? = some (.cells (EnA ⟨x.k, x.b, x.s, Bt.en0.u⟩) 50 (0, 0))) := E8.out)
          | ((with_reducible refine mid_store _ _ _ gx 3 _ (EnA ⟨x.k, x.b, x.s, Bt.en0.u⟩) U ?_ ?_ F8.out (row_size Try.sizeSum HU2) ?_ HU3.out ?_); (exact rfl); (exact rfl); (rw [enA_size HX7.out, HU2.out]; omega); intro x9 G9 ch9))
        have KQ8 := Lib.hid (KQ7.out.low HO8.out HG5.out.2.1 HGD.out.1)
        have E9 : Hid (x9.heap[gx]? = some (.cells (EnA x) 50 (0, 0))) := EnRow.setU (x := ⟨x.k, x.b, x.s, Bt.en0.u⟩) Bt.en0_ok.2.2.2.1 HU.out HU2.out G9.out
        have KQ9 := Lib.hid (KQ8.out.only ch9.only (Nat.ne_of_gt HGX.out.2.2.1) HGX.out.1 HGX.out.2.2.2.2)
        have D9 := Lib.hid (D8.out.only ch9.only (Nat.ne_of_gt HGX.out.2.1) HGX.out.2.2.2.1)
        rw [HRC.out] at D9
        clear ch9 G9 F8 E8 KQ8 D8 HO8 KQ7 D7 E7 HX7 HJ1 HJ2 HJ3 HJ4
        have c34 := KQ9.out.s.c34 HVP.out
        have f34 := KQ9.out.s.fr 34
        have HSZ9 := Lib.hid KQ9.out.sz
        go_upto_region 11 with (first
          | ((with_reducible refine row_load _ _ _ _ _ _ _ ?_ E9.out Try.underlying50 ?_ (en_info HXO.out) ?_); (exact rfl); (exact rfl))
          | ((with_reducible refine bs_one _ x HXO.out ?_ ?_); (exact rfl))
          | ((with_reducible refine app_en _ _ (g5 + 1) _ F x ?_ ?_ KQ9.out.o HEO.out HXO.out k HLE.out hk1 HSZ9.out ?_); (exact rfl); (exact rfl); intro q1 d1 y1 O1 K1 gr1; have S1 : Hid (SmAt y1 g5 (Bt.vt B) (Bt.vp B) (Bt.vn B) (.slice qv k dv)) := (K1.out.block g5 (Nat.lt_succ_self _)).trans KQ9.out.s; have d34 := S1.out.c34 HVP.out; have e34 := S1.out.fr 34))
        change Code.wp _ _ _ _ (y1.setCell ⟨g5, 34, none⟩ (.slice q1 (k + 1) d1))
        have KQ11 : Hid (Kp w (y1.setCell ⟨g5, 34, none⟩ (.slice q1 (k + 1) d1)) g5 (Bt.vt B) (Bt.vp B) (Bt.vn B) (.slice q1 (k + 1) d1) (Bt.re G4 (k + 1))) := by
          show Kp _ _ _ _ _ _ _ _
          rw [← HRE.out]
          exact KQ9.out.app HVP.out K1.out O1.out
        have D11 : Hid (RfRd (y1.setCell ⟨g5, 34, none⟩ (.slice q1 (k + 1) d1)) g D (Bt.rk G4 (k + 1)) (Bt.rc G4 false (k + 1))) :=
          (D9.out.low K1.out (Nat.lt_succ_of_lt HG5.out.2.1) (fun d hd => Nat.lt_succ_of_lt (HG5.out.2.2 d hd))).only (Chg.setCell y1 ⟨g5, 34, none⟩ _).only (Nat.ne_of_gt HG5.out.2.1) HDN.out
        obtain ⟨y2, hy2⟩ : ∃ y, y = y1.setCell ⟨g5, 34, none⟩ (.slice q1 (k + 1) d1) := ⟨_, rfl⟩
        rw [← hy2] at KQ11 D11 ⊢
        clear hy2 c34 f34 d34 e34 S1 K1 O1 gr1 KQ9 D9 E9
        go_wp2
        exact ⟨⟨k + 1, q1, d1, by omega, by go_num, KQ11.out, D11.out⟩, by simp [intOf]; omega⟩
      · obtain rfl : k = m := by omega
        have HEO : Hid (∀ x ∈ Bt.re G4 k, x.ok) := Bt.re_ok HBY.out k
        have HGC : Hid (Bt.gc B = if Pk.en (Bt.rk G4 k) (Bt.rc G4 false k) = 0 then Bt.ck (Bt.vt B) (Bt.vn B) (Bt.re G4 k) else Pk.en (Bt.rk G4 k) (Bt.rc G4 false k)) := by
          have h := Bt.gc_ref (B := B) (m := k) HH4.out HM.out
          rw [HG4.out, HH4.out] at h
          exact h
        have HED : Hid (∀ y, RfRd y g D (Bt.rk G4 k) (Bt.rc G4 false k) → Calls Try.prog 49 #[.pointer (some ⟨g, 0, none⟩)] y (EndSay (Pk.en (Bt.rk G4 k) (Bt.rc G4 false k)) y)) := fun y hy => refend_any _ _ g D y hy
        have HCK : Hid (∀ y, EsO (g5 + 1) y (.slice qv k dv) (Bt.re G4 k) → Calls Try.prog 15 #[.agg (SmA (Bt.vt B) (Bt.vp B) (Bt.vn B) (.slice qv k dv))] y (InSay (Bt.ck (Bt.vt B) (Bt.vn B) (Bt.re G4 k)) y)) := fun y hy => by
          obtain ⟨p', c', e, hes⟩ := hy.es HEO.out
          rw [Bt.re_len] at e
          cases e
          exact refcheck_any _ _ _ _ k _ _ (Bt.re_len _ _) y ⟨HVP.out, HVB.out, hes⟩
        have HYES2 : Hid (∀ e w', Bt.gc B = 0 → RfOk (Bt.vt B) (Bt.vp B) (Bt.vn B) k (Bt.re G4 k) w e w' → R e w') := fun e w' h1 h2 => HYES.out e w' h1 (by rw [HM.out, Int.toNat_natCast, HG4.out]; exact h2)
        have HX2 : Hid ((SmA (Bt.vt B) (Bt.vp B) (Bt.vn B) (.slice qv k dv)).size = 35) := smA_size _ _ _ HVP.out
        have HX3 : Hid ((SmA (Bt.vt B) (Bt.vp B) (Bt.vn B) (.slice qv k dv)).all (·.oneCell') = true) := smA_one _ _ _ _ _ _
        obtain ⟨cc, hcc⟩ : ∃ cc, Bt.ck (Bt.vt B) (Bt.vn B) (Bt.re G4 k) = cc := ⟨_, rfl⟩
        rw [hcc] at HGC HCK
        obtain ⟨ee, hee⟩ : ∃ ee, Pk.en (Bt.rk G4 k) (Bt.rc G4 false k) = ee := ⟨_, rfl⟩
        rw [hee] at HGC HED
        clear hcc hee hlt HYES HEO HBY
        by_cases h0 : ee = 0
        · have HGC2 : Hid (Bt.gc B = cc) := by have h := HGC.out; rw [if_pos h0] at h; exact h
          subst h0
          clear HGC
          go_upto_region 22 with (first
            | (go_at_call 49; refine (HED.out _ HR.out).mono ?_; rintro e11 x1 ⟨rfl, hb11⟩; have KQ1 := Lib.hid (HK.out.old hb11); have S1 : Hid (x1.heap[g5]? = some (.cells (SmA (Bt.vt B) (Bt.vp B) (Bt.vn B) (.slice qv k dv)) 26 (0, 0))) := KQ1.out.s)
            | ((with_reducible refine row_load _ _ _ _ _ _ _ ?_ S1.out Try.underlying26 ?_ (sm_info HX2.out) ?_); (exact rfl); (exact rfl))
            | (go_at_call 15; refine (HCK.out _ KQ1.out.o).mono ?_; rintro e12 x2 ⟨rfl, hb12⟩))
          have KQ2 := Lib.hid (KQ1.out.old hb12)
          have S2 : Hid (x2.heap[g5]? = some (.cells (SmA (Bt.vt B) (Bt.vp B) (Bt.vn B) (.slice qv k dv)) 26 (0, 0))) := KQ2.out.s
          have Z2 := Lib.hid KQ2.out.z
          clear S1 KQ1 hb11 hb12 HCK HED HK HR
          by_cases hc : cc = 0
          · subst hc
            go_wp2_with (first
              | ((with_reducible refine row_load _ _ _ _ _ _ _ ?_ S2.out Try.underlying26 ?_ (sm_info HX2.out) ?_); (exact rfl); (exact rfl))
              | ((with_reducible refine row_store _ _ _ _ _ _ _ ?_ ?_ Z2.out (sm_info HX2.out) ?_ HX3.out ?_); (exact rfl); (exact rfl); (rw [HX2.out]; rfl); intro w14 G14 ch14))
            refine bodyPost_ret (get_ret rfl _ _ w.heap.size _ _ _ rfl G14.out HX2.out rfl) rfl (HYES2.out _ _ HGC2.out ⟨qv, dv, g5 + 1, rfl, ?_, Nat.le_succ_of_le (Nat.le_of_lt HG5.out.1), ch14.below KQ2.out.b (Nat.le_refl _)⟩)
            exact KQ2.out.o.only ch14.only (Nat.lt_succ_of_lt HG5.out.1)
          · have hb0 : (cc == 0) = false := by simp [hc]
            have HC := Lib.hid hc
            clear hc
            go_wp2_with (first
              | ((with_reducible refine build0_g _ _ ?_ build_sm0 ?_); (exact rfl))
              | ((with_reducible refine row_store _ _ _ _ _ _ _ ?_ ?_ Z2.out (sm_info (A := ZSm.toArray) rfl) ?_ zsm_one ?_); (exact rfl); (exact rfl); (exact rfl); intro w14 G14 ch14))
            refine bodyPost_ret (get_ret rfl _ _ w.heap.size ZSm.toArray _ _ rfl G14.out rfl rfl) rfl (HNO.out cc _ _ HGC2.out HC.out ⟨by rw [zsm_eq]; rfl, ch14.below KQ2.out.b (Nat.le_refl _)⟩)
        · have HGC2 : Hid (Bt.gc B = ee) := by have h := HGC.out; rw [if_neg h0] at h; exact h
          have hb0 : (ee == 0) = false := by simp [h0]
          have HE := Lib.hid h0
          clear h0 HGC
          go_wp2_with (first
            | (go_at_call 49; refine (HED.out _ HR.out).mono ?_; rintro e11 x1 ⟨rfl, hb11⟩; have KQ1 := Lib.hid (HK.out.old hb11); have Z1 := Lib.hid KQ1.out.z)
            | ((with_reducible refine build0_g _ _ ?_ build_sm0 ?_); (exact rfl))
            | ((with_reducible refine row_store _ _ _ _ _ _ _ ?_ ?_ Z1.out (sm_info (A := ZSm.toArray) rfl) ?_ zsm_one ?_); (exact rfl); (exact rfl); (exact rfl); intro w14 G14 ch14))
          refine bodyPost_ret (get_ret rfl _ _ w.heap.size ZSm.toArray _ _ rfl G14.out rfl rfl) rfl (HNO.out ee _ _ HGC2.out HE.out ⟨by rw [zsm_eq]; rfl, ch14.below KQ1.out.b (Nat.le_refl _)⟩)
end Go.Proofs.Ytkgefogkdmbciaa

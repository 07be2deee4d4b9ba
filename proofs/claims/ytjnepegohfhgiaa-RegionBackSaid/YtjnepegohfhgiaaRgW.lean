/-
  The law RegionBack walked.
-/
import Derived.Test.YtjnepegohfhgiaaRgQ
namespace Go.Proofs.Ytjnepegohfhgiaa
open Go.RowKit

theorem byte_wf {x : Int} (h : (Lit.int .u8 x).wf = true) : 0 ≤ x ∧ x ≤ 255 := by
  simp [Lit.wf, IntKind.min, IntKind.max, IntKind.signed, IntKind.bits] at h
  omega
namespace Rg
theorem m0_peek (j : Nat) : Dk.peek m0 j = [] := by unfold m0; exact fresh_peek 4 j
theorem m0_rd (j : Nat) : m0.rd j ≤ 999999990 := by unfold m0; exact Nat.zero_le _
theorem vA_none : vA m0 Nm.St.none = [] := by
  rw [vA_up (by rw [u0.n]; omega)]
  have h1 : hb 1 (vG Nm.St.none 1 (Dk.peek m0 1)) = none := by rw [m0_peek]; exact hb_nil 1
  have h2 : hb 2 (vG Nm.St.none 2 (Dk.peek m0 2)) = none := by rw [m0_peek]; exact hb_nil 2
  rw [h1, h2]
  rfl
theorem vA_one {r : R} {n : Int} (h : Ok r) (hm : may r = true) (hi : inN n) : vA (vM m0 Nm.St.none r n) (vS Nm.St.none r n) = [r] := by
  have hu := up_new (S := Nm.St.none) u0 (by omega) h hm hi
  have ho := hold_hb (hold_new (S := Nm.St.none) u0 (by omega) h hm hi)
  rw [vA_up (by rw [hu.n]; omega)]
  rcases hn_or r with e | e
  · have he : Dk.peek (vM m0 Nm.St.none r n) 2 = [] := empty_keep (j := 2) (m0_peek 2) u0 (by omega) h hm hi (by rw [e]; omega)
    rw [e] at ho
    have ho' : hb 1 (vG (vS Nm.St.none r n) 1 (Dk.peek (vM m0 Nm.St.none r n) 1)) = some r := ho
    rw [ho', he, hb_nil 2]
    rfl
  · have he : Dk.peek (vM m0 Nm.St.none r n) 1 = [] := empty_keep (j := 1) (m0_peek 1) u0 (by omega) h hm hi (by rw [e]; omega)
    rw [e] at ho
    have ho' : hb 2 (vG (vS Nm.St.none r n) 2 (Dk.peek (vM m0 Nm.St.none r n) 2)) = some r := ho
    rw [ho', he, hb_nil 1]
    rfl
end Rg
theorem own_zero {B : Nat} {y : World} {p : Option Addr} {c : Nat} {L : List Rg.R} {x : Rg.R} (ho : RsO B y (.slice p (x :: L).length c) (x :: L)) (hs : Rs y p c (x :: L)) : ∃ q, p = some ⟨q, 0, none⟩ := by
  obtain ⟨ab, ao, rfl, _⟩ := hs.at_ (by simp)
  have ha : ao = 0 := by
    rcases ho.2 with ⟨h1, _⟩ | ⟨g', cap, cur, h1, _⟩
    · cases h1
    · injection h1 with h1 _ _; injection h1 with h1; injection h1 with _ h1 _
  subst ha
  exact ⟨ab, rfl⟩
set_option maxHeartbeats 2000000 in
set_option maxRecDepth 100000 in
theorem back_no (r : Rg.R) (h : Rg.Ok r) (hm : Rg.may r = false) (cut n x : Int) (w : World) : Calls Try.prog 6 #[RV r, .int .i64 cut, .int .i64 n, .int .u8 x] w (YesSay w) := by
  have HWK : Hid (∀ y, Calls Try.prog 15 #[] y (YesSay y)) := fun y => works_any y
  have HP : Hid (∀ y, Calls Try.prog 11 #[.agg (RAr r)] y (GPutNo y)) := fun y => by rw [← rv_eq]; exact gput_no r h hm y
  have HW : Hid (∀ z K y d g, Vs z K y d g Rg.m0 Nm.St.none → Calls Try.prog 26 #[.pointer (some ⟨d, 0, none⟩), .iface 51 (.pointer (some ⟨g, 0, none⟩)), .agg (RAr r), .int .i64 n] y (VSay z K d g (.int .i64 7) Rg.m0 Nm.St.none y)) := fun z K y d g hv => by
    have h2 := vs_write r h n hv Rg.m0_wr (Nat.zero_le _)
    obtain ⟨q1, q2, q3⟩ := Rg.write_no (m := Rg.m0) (S := Nm.St.none) (n := n) hm
    rw [q1, q2, q3, rv_eq] at h2
    exact h2
  have HA : Hid (∀ z K y d g, Vs z K y d g Rg.m0 Nm.St.none → Calls Try.prog 27 #[.pointer (some ⟨d, 0, none⟩), .iface 51 (.pointer (some ⟨g, 0, none⟩))] y (fun e z' => ∃ p c, e = .returned (.slice p 0 c) ∧ Hid (Below z.heap.size z z'))) := fun z K y d g hv => by
    refine (vs_all hv Rg.m0_rd).mono ?_
    rintro e z' ⟨v, rfl, ho, hok, hv, hk⟩
    rw [Rg.vA_none] at ho hok
    obtain ⟨p, c, rfl, hs⟩ := ho.out.es hok.out
    exact ⟨p, c, rfl, hv.out.low⟩
  have HM : Hid (Dk.fresh 4 = Rg.m0) := by show _ = _; unfold Rg.m0; rfl
  have HAS : Hid ((RAr r).size = 136) := rar_size h
  have hsz := row_size Try.sizeRec HAS
  rw [rv_eq]
  clear h hm
  generalize RAr r = A at *
  have R0 : Hid ((w.alloc (.cells A 29)).heap[w.heap.size]? = some (.cells A 29 (0, 0))) := heap_alloc_new w _
  have B0 : Hid (Below w.heap.size w (w.alloc (.cells A 29))) := (Below.refl _ w).alloc (Nat.le_refl _) _
  go_enter Try.func6, Try.ntmps6
  go_upto_region 2 with (first
    | ((with_reducible refine row_load _ _ _ _ _ _ _ ?_ R0.out Try.underlying29 ?_ hsz ?_); (exact rfl); (exact rfl))
    | (go_at_call 11; refine (HP.out _).mono ?_; rintro e0 w0 ⟨rfl, HB0⟩))
  have B1 : Hid (Below w.heap.size w w0) := B0.out.trans (HB0.out.mono B0.out.size)
  have R1 : Hid (w0.heap[w.heap.size]? = some (.cells A 29 (0, 0))) := (HB0.out.block _ (lt_of_block R0.out)).trans R0.out
  clear B0 R0 HB0 HP
  go_upto_region 4 with (first
    | (go_at_call 24; refine (new4 4 (by omega) (by omega) _).mono ?_; rintro e1 w1 ⟨d, lb, rb, cb, rfl, hd1, hb1⟩; have HB1 := Lib.hid hb1)
    | (go_at_call 25; refine (new_any _).mono ?_; rintro e2 w2 ⟨g, b, c, rfl, hg2, hs2, hb2⟩; have HV2 : Hid (Vs w0 w2.heap.size w2 d g Rg.m0 Nm.St.none) := by rw [← HM.out]; exact vs_make hd1.out HB1.out hs2.out hg2.out hb2))
  clear hd1 hs2 hg2 hb2 hb1 HM HB1
  have R2 : Hid (w2.heap[w.heap.size]? = some (.cells A 29 (0, 0))) := (HV2.out.low.block _ (lt_of_block R1.out)).trans R1.out
  generalize w2.heap.size = K at *
  go_upto_region 5 with (first
    | ((with_reducible refine row_load _ _ _ _ _ _ _ ?_ R2.out Try.underlying29 ?_ hsz ?_); (exact rfl); (exact rfl))
    | (go_at_call 26; refine (HW.out _ _ _ _ _ HV2.out).mono ?_; rintro e3 w3 ⟨rfl, HV3, HK3⟩))
  clear R2 R1 HV2 HK3 HW
  go_wp2_with (first
    | (go_at_call 27; refine (HA.out _ _ _ _ _ HV3.out).mono ?_; rintro e4 w4 ⟨p4, c4, rfl, HB4⟩; have B4 := Lib.hid (B1.out.trans (HB4.out.mono B1.out.size)))
    | (go_at_call 15; refine (HWK.out _).mono ?_; rintro e5 w5 ⟨rfl, hb5⟩; have B5 := Lib.hid (B4.out.trans (hb5.mono B4.out.size)); clear hb5))
  go_ret
  exact ⟨rfl, B5.out⟩
set_option maxHeartbeats 4000000 in
set_option maxRecDepth 100000 in
theorem back_yes (r : Rg.R) (h : Rg.Ok r) (hm : Rg.may r = true) (cut n x : Int) (hx : 0 ≤ x ∧ x ≤ 255) (w : World) : Calls Try.prog 6 #[RV r, .int .i64 cut, .int .i64 n, .int .u8 x] w (YesSay w) := by
  have HWK : Hid (∀ y, Calls Try.prog 15 #[] y (YesSay y)) := fun y => works_any y
  have HP : Hid (∀ y, Calls Try.prog 11 #[.agg (RAr r)] y (GPutYes (Rg.pt r) y)) := fun y => by rw [← rv_eq]; exact gput_yes r h hm y
  obtain ⟨ve, M, mm, m1, S1, hin, hout, hMm, hMok, HW, HA⟩ : ∃ (ve : Int) (M : List Rg.R) (mm : Nat) (m1 : Dk.M) (S1 : Nm.St), Hid (Rg.inN n → ve = 0 ∧ M = [r] ∧ mm = 1) ∧ Hid (¬ Rg.inN n → ve = 7 ∧ mm = 0) ∧ Hid (M.length = mm) ∧ Hid (∀ y ∈ M, Rg.Ok y) ∧
      Hid (∀ z K y d g, Vs z K y d g Rg.m0 Nm.St.none → Calls Try.prog 26 #[.pointer (some ⟨d, 0, none⟩), .iface 51 (.pointer (some ⟨g, 0, none⟩)), .agg (RAr r), .int .i64 n] y (VSay z K d g (.int .i64 ve) m1 S1 y)) ∧
      Hid (∀ z K y d g, Vs z K y d g m1 S1 → Calls Try.prog 27 #[.pointer (some ⟨d, 0, none⟩), .iface 51 (.pointer (some ⟨g, 0, none⟩))] y (fun e z' => ∃ p c, e = .returned (.slice p mm c) ∧ Hid (Rs z' p c M) ∧ Hid (mm = 1 → ∃ q, p = some ⟨q, 0, none⟩) ∧ Hid (Below z.heap.size z z'))) := by
    by_cases hi : Rg.inN n
    · refine ⟨0, [r], 1, Rg.vM Rg.m0 Nm.St.none r n, Rg.vS Nm.St.none r n, fun _ => ⟨rfl, rfl, rfl⟩, fun q => absurd hi q, rfl, fun y hy => by rw [List.mem_singleton] at hy; rw [hy]; exact h, fun z K y d g hv => ?_, fun z K y d g hv => ?_⟩
      · have h2 := vs_write r h n hv Rg.m0_wr (Nat.zero_le _)
        rw [(Rg.write_in Rg.u0 (by omega) h hm hi).1, rv_eq] at h2
        exact h2
      · refine (vs_all hv (fun j => by rw [(Rg.wr_le _ _ _ _).2]; exact Rg.m0_rd j)).mono ?_
        rintro e z' ⟨v, rfl, ho, hok, hv, hk⟩
        rw [Rg.vA_one h hm hi] at ho hok
        obtain ⟨p, c, rfl, hs⟩ := ho.out.es hok.out
        exact ⟨p, c, rfl, hs, fun _ => own_zero ho.out hs, hv.out.low⟩
    · obtain ⟨q1, q2, q3⟩ := Rg.write_out (m := Rg.m0) (S := Nm.St.none) hm hi
      refine ⟨7, [], 0, Rg.m0, Nm.St.none, fun q => absurd q hi, fun _ => ⟨rfl, rfl⟩, rfl, (fun y hy => by cases hy), fun z K y d g hv => ?_, fun z K y d g hv => ?_⟩
      · have h2 := vs_write r h n hv Rg.m0_wr (Nat.zero_le _)
        rw [q1, q2, q3, rv_eq] at h2
        exact h2
      · refine (vs_all hv Rg.m0_rd).mono ?_
        rintro e z' ⟨v, rfl, ho, hok, hv, hk⟩
        rw [Rg.vA_none] at ho hok
        obtain ⟨p, c, rfl, hs⟩ := ho.out.es hok.out
        exact ⟨p, c, rfl, hs, (fun q => by cases q), hv.out.low⟩
  have HBL : Hid ((Rg.pt r).length = 192) := Rg.pt_len h
  have HBB : Hid (Sha.Byt (Rg.pt r ++ [x])) := Sha.byt_append (Rg.pt_byt h) (fun z hz => by rw [List.mem_singleton] at hz; omega)
  have HG0 : Hid (∀ y p c, Bs y p c (Rg.pt r) → Calls Try.prog 17 #[.slice p 192 c] y (fun e w' => e = .returned (.tuple #[.agg (RAr r), .int .i64 0]) ∧ Hid (Below y.heap.size y w'))) := fun y p c hy => by
    have h1 := gget_any (Rg.pt r) p 192 c (Rg.pt_len h) (by omega) y hy
    unfold GotSay at h1
    rw [(Rg.back h hm).1, (Rg.back h hm).2, rv_eq] at h1
    exact h1
  obtain ⟨Z, hZ⟩ : ∃ Z, Hid (RAr Rg.zero = Z) := ⟨_, rfl⟩
  have HGE : Hid (∀ (L : List Int) (er : Int) (k : Nat), L.length = k → k ≤ 1000 → Rg.er L = er → er ≠ 0 → ∀ y p c, Bs y p c L → Calls Try.prog 17 #[.slice p k c] y (fun e w' => e = .returned (.tuple #[.agg Z, .int .i64 er]) ∧ Hid (Below y.heap.size y w'))) := fun L er k hk hk2 he h0 y p c hy => by
    have h1 := gget_any L p k c hk (by omega) y hy
    unfold GotSay at h1
    rw [Rg.gt_none (by rw [he]; exact h0), he, rv_eq, hZ.out] at h1
    exact h1
  have HG4 : Hid (∀ y p c (j : Nat), j < 192 → Bs y p c (Rg.pt r) → Calls Try.prog 17 #[.slice p j c] y (fun e w' => e = .returned (.tuple #[.agg Z, .int .i64 4]) ∧ Hid (Below y.heap.size y w'))) := fun y p c j hj hy => by
    have hl : ((Rg.pt r).take j).length = j := by rw [List.length_take, HBL.out]; omega
    exact HGE.out _ 4 j hl (by omega) (Rg.er_short (by rw [hl]; omega)) (by omega) y p c (hy.take j)
  have HG3 : Hid (∀ y p c, Bs y p c (Rg.pt r ++ [x]) → Calls Try.prog 17 #[.slice p 193 c] y (fun e w' => e = .returned (.tuple #[.agg Z, .int .i64 3]) ∧ Hid (Below y.heap.size y w'))) := fun y p c hy => by
    have hl : (Rg.pt r ++ [x]).length = 193 := by rw [List.length_append, HBL.out]; rfl
    exact HGE.out _ 3 193 hl (by omega) (Rg.er_long (by rw [hl]; omega)) (by omega) y p c hy
  have HCP : Hid (∀ y q d, Bs y q d (Rg.pt r) → Calls Try.prog 29 #[.slice q 192 d] y fun e w' => ∃ v, e = .returned v ∧ w'.ownsRow y.heap.size 5 1 v 192 (U8s (Rg.pt r)) ∧ Below y.heap.size y w') := fun y q d hy => copybytes_any (Rg.pt r) q 192 d HBL.out (by rw [HBL.out]; omega) y hy.bat
  have HM : Hid (Dk.fresh 4 = Rg.m0) := by show _ = _; unfold Rg.m0; rfl
  have HAS : Hid ((RAr r).size = 136) := rar_size h
  have HA1 : Hid ((RAr r).all (·.oneCell') = true) := rar_one _
  have HZS : Hid (Z.size = 136) := by show _ = _; rw [← hZ.out]; exact rar_size Rg.ok_zero
  have HZ1 : Hid (Z.all (·.oneCell') = true) := by show _ = _; rw [← hZ.out]; exact rar_one _
  have hz := (zero_of_info Try.zeroRec).1
  rw [show (cv Rg.zero).toArray = Z from hZ.out] at hz
  have hzn : ¬ Z = #[] := fun h => by have := HZS.out; rw [h] at this; simp at this
  have hszz := row_size Try.sizeRec HZS
  have hsz := row_size Try.sizeRec HAS
  have HEQ : Hid (∀ y, (Op.equalIn 10000 29 (.agg (RAr r)) (.agg (RAr r))).run Try.prog y = .ok true y) := fun y => by have h := rec_eqs r r h h y; rw [decide_eq_true rfl] at h; exact h
  have heq := HEQ.out
  have HRL : Hid (∀ y q c, Rs y (some ⟨q, 0, none⟩) c [r] → y.rangeAt q 0 (RAr r).toList) := fun y q c h => by
    have h2 := h.rng (i := 0) (by simp)
    rw [Nat.zero_mul, Nat.add_zero] at h2
    exact h2
  obtain ⟨i0, hii, hz0, hz1, hz2⟩ := info_parts Try.info_u8
  rw [rv_eq]
  clear h hm hx HGE
  generalize Rg.pt r = B at *
  generalize RAr r = A at *
  have R0 : Hid ((w.alloc (.cells A 29)).heap[w.heap.size]? = some (.cells A 29 (0, 0))) := heap_alloc_new w _
  have B0 : Hid (Below w.heap.size w (w.alloc (.cells A 29))) := (Below.refl _ w).alloc (Nat.le_refl _) _
  go_enter Try.func6, Try.ntmps6
  go_upto_region 2 with (first
    | ((with_reducible refine row_load _ _ _ _ _ _ _ ?_ R0.out Try.underlying29 ?_ hsz ?_); (exact rfl); (exact rfl))
    | (go_at_call 11; refine (HP.out _).mono ?_; rintro e0 w0 ⟨p0, c0, rfl, HO0, HS0, HB0⟩))
  have B1 : Hid (Below w.heap.size w w0) := B0.out.trans (HB0.out.mono B0.out.size)
  have R1 : Hid (w0.heap[w.heap.size]? = some (.cells A 29 (0, 0))) := (HB0.out.block _ (lt_of_block R0.out)).trans R0.out
  clear B0 R0 HB0 HP HO0
  go_upto_region 4 with (first
    | (go_at_call 24; refine (new4 4 (by omega) (by omega) _).mono ?_; rintro e1 w1 ⟨d, lb, rb, cb, rfl, hd1, hb1⟩; have HB1 := Lib.hid hb1)
    | (go_at_call 25; refine (new_any _).mono ?_; rintro e2 w2 ⟨g, b, c, rfl, hg2, hs2, hb2⟩; have HV2 : Hid (Vs w0 w2.heap.size w2 d g Rg.m0 Nm.St.none) := by rw [← HM.out]; exact vs_make hd1.out HB1.out hs2.out hg2.out hb2))
  clear hd1 hs2 hg2 hb2 hb1 HM HB1
  have R2 : Hid (w2.heap[w.heap.size]? = some (.cells A 29 (0, 0))) := (HV2.out.low.block _ (lt_of_block R1.out)).trans R1.out
  generalize w2.heap.size = K at *
  go_upto_region 7 with (first
    | ((with_reducible refine row_load _ _ _ _ _ _ _ ?_ R2.out Try.underlying29 ?_ hsz ?_); (exact rfl); (exact rfl))
    | (go_at_call 26; refine (HW.out _ _ _ _ _ HV2.out).mono ?_; rintro e3 w3 ⟨rfl, HV3, HK3⟩))
  have S3 := Lib.hid (HS0.out.old HV3.out.low)
  clear R2 HV2 HK3 HW
  go_upto_region 8 with (first
    | (go_at_call 17; refine (HG0.out _ _ _ S3.out).mono ?_; rintro e4 w4 ⟨rfl, HB4⟩)
    | ((with_reducible refine row_store _ _ _ _ _ _ _ ?_ ?_ (heap_alloc_new _ _) hsz ?_ HA1.out ?_); (exact rfl); (exact rfl); (rw [HAS.out, HZS.out]); intro w5 G5 ch5))
  have K45 : Hid (Below w4.heap.size w4 w5) := ch5.below ((Below.refl _ w4).alloc (Nat.le_refl _) _) (Nat.le_refl _)
  have V5 := Lib.hid ((HV3.out.old HB4.out).old K45.out)
  have S5 := Lib.hid (HS0.out.old V5.out.low)
  generalize w4.heap.size = g15 at *
  clear K45 ch5 HB4 HV3 S3 HG0
  go_upto_region 9 with (first
    | (go_at_call 28; refine (pick_any _ 192 (by omega) (by omega) _).mono ?_; rintro e6 w6 ⟨rfl, j, hj, rfl⟩; have hjl : j < 192 := by omega
       have hjc : (j : Int) ≤ (c0 : Int) := by have h1 := HS0.out.cap; rw [HBL.out] at h1; omega)
    | (go_at_call 17; refine (HG4.out _ _ _ _ hjl S5.out).mono ?_; rintro e7 w7 ⟨rfl, HB7⟩)
    | ((with_reducible refine row_store _ _ _ _ _ _ _ ?_ ?_ (heap_alloc_new _ _) hszz ?_ HZ1.out ?_); (exact rfl); (exact rfl); (exact rfl); intro w8 G8 ch8))
  have K58 : Hid (Below w6.heap.size w6 w8) := ch8.below (HB7.out.alloc HB7.out.size _) HB7.out.size
  have V8 := Lib.hid (V5.out.old K58.out)
  have G58 := Lib.hid ((K58.out.block _ (lt_of_block G5.out)).trans G5.out)
  have S8 := Lib.hid (HS0.out.old V8.out.low)
  generalize w7.heap.size = g17 at *
  clear K58 ch8 HB7 V5 S5 HG4 G8 hj hjl hjc G5
  go_upto_region 10 with (first
    | (go_at_call 29; refine (HCP.out _ _ _ S8.out).mono ?_; rintro e9 w9 ⟨v9, rfl, ho9, hb9⟩; have HO9 := Lib.hid ho9; have HL9 := Lib.hid hb9; clear ho9 hb9)
    | (at_builtin; refine wpList_append_own _ rfl _ _ 30 rfl w8.heap.size 5 i0 (.int .u8 0) 1 1 Try.underlying30 hii hz0 hz1 hz2 rfl (by decide) _ _ _ rfl (HO9.out.alloc _) ⟨w9.heap.size, 0, none⟩ 1 1 [.int .u8 x] rfl rfl (u8_cell _ _ _) (u8_one _) (by unfold maxLen; omega) (by omega) (by have := HL9.out.size; simp; omega) ?_; intro v10 w10 hown10 hgrow10 _; have HB10 : Hid (Below w8.heap.size w8 w10) := below_own HL9.out HL9.out.size HO9.out hgrow10; have HBS10 := own_bs (by rw [U8s_snoc] at hown10; exact hown10) HBB.out; obtain ⟨p10, c10, hv10, hbs10, hl10⟩ := HBS10; rw [hl10] at hv10; subst hv10; have HBS10 := Lib.hid hbs10; clear hown10 hgrow10 hbs10 hl10)
    | (go_at_call 17; refine (HG3.out _ _ _ HBS10.out).mono ?_; rintro e11 w11 ⟨rfl, HB11⟩)
    | ((with_reducible refine row_store _ _ _ _ _ _ _ ?_ ?_ (heap_alloc_new _ _) hszz ?_ HZ1.out ?_); (exact rfl); (exact rfl); (exact rfl); intro w12 G12 ch12))
  have K11 := Lib.hid (HB10.out.trans (HB11.out.mono HB10.out.size))
  have K12 : Hid (Below w8.heap.size w8 w12) := ch12.below (K11.out.alloc K11.out.size _) K11.out.size
  have V12 := Lib.hid (V8.out.old K12.out)
  have G512 := Lib.hid ((K12.out.block _ (lt_of_block G58.out)).trans G58.out)
  have R12 : Hid (w12.heap[w.heap.size]? = some (.cells A 29 (0, 0))) := (V12.out.low.block _ (lt_of_block R1.out)).trans R1.out
  generalize w11.heap.size = g19 at *
  clear K12 K11 ch12 HB11 HB10 V8 S8 HG3 HCP HO9 HL9 HBS10 G12 G58 hz hzn
  go_upto_region 12 with (first
    | ((with_reducible refine row_load_g _ _ w.heap.size _ _ _ _ ?_ ?_ R12.out Try.underlying29 ?_ hsz ?_); (exact rfl); (exact rfl); (exact rfl))
    | ((with_reducible refine row_load_g _ _ g15 _ _ _ _ ?_ ?_ G512.out Try.underlying29 ?_ hsz ?_); (exact rfl); (exact rfl); (exact rfl)))
  clear G512 R12
  go_upto_region 13 with (go_at_call 27; refine (HA.out _ _ _ _ _ V12.out).mono ?_; rintro e13 w13 ⟨p13, c13, rfl, HL13, HQ13, HB13⟩)
  have R13 : Hid (w13.heap[w.heap.size]? = some (.cells A 29 (0, 0))) := (HB13.out.block _ (lt_of_block R1.out)).trans R1.out
  have B13 := Lib.hid (B1.out.trans (HB13.out.mono B1.out.size))
  clear HA V12 HB13 R1 B1 HS0
  by_cases hi : Rg.inN n
  · obtain ⟨rfl, rfl, rfl⟩ := hin.out hi
    obtain ⟨q, rfl⟩ := HQ13.out rfl
    unfold Rg.inN at hi
    have hn1 : ¬ n < 0 := by omega
    have hn2 : ¬ n > 1099511627776 := by omega
    clear hin hout hi HQ13
    go_upto_region 15 with (fail)
    have BZ := Lib.hid B13.out.drew
    have LZ : Hid (Rs w13.drew (some ⟨q, 0, none⟩) c13 [r]) := HL13.out.drew
    have GZ : Hid (w13.drew.heap[w.heap.size]? = some (.cells A 29 (0, 0))) := R13.out
    clear HL13 R13 B13
    refine wp_region_any (by kernel_rfl) ?_
    change wpAny _ _ _ _ _ _ _ (World.drew _)
    obtain ⟨z, hz'⟩ : ∃ x, x = w13.drew := ⟨_, rfl⟩
    rw [← hz'] at BZ LZ GZ ⊢
    clear hz'
    generalize hg4 : w.heap.size = g4 at GZ ⊢
    have KZ : Hid (∀ y, Below z.heap.size z y → y.rangeAt q 0 A.toList ∧ y.heap[g4]? = some (.cells A 29 (0, 0))) := fun y hy => ⟨HRL.out y q c13 (LZ.out.old hy), (hy.block _ (lt_of_block GZ.out)).trans GZ.out⟩
    have D0 : Hid (Below z.heap.size z z) := Below.refl _ _
    refine wpAny_of_held (S := fun y => y.rangeAt q 0 A.toList ∧ y.heap[g4]? = some (.cells A 29 (0, 0))) _ _ _ _ ?_
    have SD := KZ.out _ D0.out
    refine anyH_take 0 123 (.int .i64 0) SD rfl (by kernel_rfl) (by kernel_rfl) (by kernel_rfl) (fun _ _ _ h => h) (by rfl) (by intro x hx; have y0 := hx; (first | exact exec_arr 29 (.tmp 132) q 0 A _ rfl hx.1 Try.underlying29 rfl hsz | exact exec_arr 29 (.tmp 4) g4 0 A _ rfl (fun j v hv => by rw [cell_of_row x g4 (0 + j) _ _ _ hx.2, Nat.zero_add]; simpa using hv) Try.underlying29 rfl hsz | go_simp); try (intro h; omega)) ?_
    try simp only [Act.put, List.setIfInBounds_toArray, List.set_cons_zero, List.set_cons_succ]
    refine anyH_take 1 124 (.bool true) SD rfl (by kernel_rfl) (by kernel_rfl) (by kernel_rfl) (fun _ _ _ h => h) (by rfl) (by intro x hx; have y0 := hx; (first | exact exec_arr 29 (.tmp 132) q 0 A _ rfl hx.1 Try.underlying29 rfl hsz | exact exec_arr 29 (.tmp 4) g4 0 A _ rfl (fun j v hv => by rw [cell_of_row x g4 (0 + j) _ _ _ hx.2, Nat.zero_add]; simpa using hv) Try.underlying29 rfl hsz | go_simp); try (intro h; omega)) ?_
    try simp only [Act.put, List.setIfInBounds_toArray, List.set_cons_zero, List.set_cons_succ]
    refine anyH_take 2 125 (.bool true) SD rfl (by kernel_rfl) (by kernel_rfl) (by kernel_rfl) (fun _ _ _ h => h) (by rfl) (by intro x hx; have y0 := hx; (first | exact exec_arr 29 (.tmp 132) q 0 A _ rfl hx.1 Try.underlying29 rfl hsz | exact exec_arr 29 (.tmp 4) g4 0 A _ rfl (fun j v hv => by rw [cell_of_row x g4 (0 + j) _ _ _ hx.2, Nat.zero_add]; simpa using hv) Try.underlying29 rfl hsz | go_simp); try (intro h; omega)) ?_
    try simp only [Act.put, List.setIfInBounds_toArray, List.set_cons_zero, List.set_cons_succ]
    refine anyH_take 3 126 (.slice (some ⟨q, 0, none⟩) 1 c13) SD rfl (by kernel_rfl) (by kernel_rfl) (by kernel_rfl) (fun _ _ _ h => h) (by rfl) (by intro x hx; have y0 := hx; (first | exact exec_arr 29 (.tmp 132) q 0 A _ rfl hx.1 Try.underlying29 rfl hsz | exact exec_arr 29 (.tmp 4) g4 0 A _ rfl (fun j v hv => by rw [cell_of_row x g4 (0 + j) _ _ _ hx.2, Nat.zero_add]; simpa using hv) Try.underlying29 rfl hsz | go_simp); try (intro h; omega)) ?_
    try simp only [Act.put, List.setIfInBounds_toArray, List.set_cons_zero, List.set_cons_succ]
    refine anyH_take 4 127 (.int .i64 1) SD rfl (by kernel_rfl) (by kernel_rfl) (by kernel_rfl) (fun _ _ _ h => h) (by rfl) (by intro x hx; have y0 := hx; (first | exact exec_arr 29 (.tmp 132) q 0 A _ rfl hx.1 Try.underlying29 rfl hsz | exact exec_arr 29 (.tmp 4) g4 0 A _ rfl (fun j v hv => by rw [cell_of_row x g4 (0 + j) _ _ _ hx.2, Nat.zero_add]; simpa using hv) Try.underlying29 rfl hsz | go_simp); try (intro h; omega)) ?_
    try simp only [Act.put, List.setIfInBounds_toArray, List.set_cons_zero, List.set_cons_succ]
    refine anyH_take 5 128 (.bool true) SD rfl (by kernel_rfl) (by kernel_rfl) (by kernel_rfl) (fun _ _ _ h => h) (by rfl) (by intro x hx; have y0 := hx; (first | exact exec_arr 29 (.tmp 132) q 0 A _ rfl hx.1 Try.underlying29 rfl hsz | exact exec_arr 29 (.tmp 4) g4 0 A _ rfl (fun j v hv => by rw [cell_of_row x g4 (0 + j) _ _ _ hx.2, Nat.zero_add]; simpa using hv) Try.underlying29 rfl hsz | go_simp); try (intro h; omega)) ?_
    try simp only [Act.put, List.setIfInBounds_toArray, List.set_cons_zero, List.set_cons_succ]
    refine anyH_take 6 129 (.bool true) SD rfl (by kernel_rfl) (by kernel_rfl) (by kernel_rfl) (fun _ _ _ h => h) (by rfl) (by intro x hx; have y0 := hx; (first | exact exec_arr 29 (.tmp 132) q 0 A _ rfl hx.1 Try.underlying29 rfl hsz | exact exec_arr 29 (.tmp 4) g4 0 A _ rfl (fun j v hv => by rw [cell_of_row x g4 (0 + j) _ _ _ hx.2, Nat.zero_add]; simpa using hv) Try.underlying29 rfl hsz | go_simp); try (intro h; omega)) ?_
    try simp only [Act.put, List.setIfInBounds_toArray, List.set_cons_zero, List.set_cons_succ]
    refine anyH_take 7 130 (.bool true) SD rfl (by kernel_rfl) (by kernel_rfl) (by kernel_rfl) (fun _ _ _ h => h) (by rfl) (by intro x hx; have y0 := hx; (first | exact exec_arr 29 (.tmp 132) q 0 A _ rfl hx.1 Try.underlying29 rfl hsz | exact exec_arr 29 (.tmp 4) g4 0 A _ rfl (fun j v hv => by rw [cell_of_row x g4 (0 + j) _ _ _ hx.2, Nat.zero_add]; simpa using hv) Try.underlying29 rfl hsz | go_simp); try (intro h; omega)) ?_
    try simp only [Act.put, List.setIfInBounds_toArray, List.set_cons_zero, List.set_cons_succ]
    refine anyH_take 8 131 (.slice (some ⟨q, 0, none⟩) 1 c13) SD rfl (by kernel_rfl) (by kernel_rfl) (by kernel_rfl) (fun _ _ _ h => h) (by rfl) (by intro x hx; have y0 := hx; (first | exact exec_arr 29 (.tmp 132) q 0 A _ rfl hx.1 Try.underlying29 rfl hsz | exact exec_arr 29 (.tmp 4) g4 0 A _ rfl (fun j v hv => by rw [cell_of_row x g4 (0 + j) _ _ _ hx.2, Nat.zero_add]; simpa using hv) Try.underlying29 rfl hsz | go_simp); try (intro h; omega)) ?_
    try simp only [Act.put, List.setIfInBounds_toArray, List.set_cons_zero, List.set_cons_succ]
    refine anyH_take 9 132 (.pointer (some ⟨q, 0, none⟩)) SD rfl (by kernel_rfl) (by kernel_rfl) (by kernel_rfl) (fun _ _ _ h => h) (by rfl) (by intro x hx; have y0 := hx; (first | exact exec_arr 29 (.tmp 132) q 0 A _ rfl hx.1 Try.underlying29 rfl hsz | exact exec_arr 29 (.tmp 4) g4 0 A _ rfl (fun j v hv => by rw [cell_of_row x g4 (0 + j) _ _ _ hx.2, Nat.zero_add]; simpa using hv) Try.underlying29 rfl hsz | go_simp); try (intro h; omega)) ?_
    try simp only [Act.put, List.setIfInBounds_toArray, List.set_cons_zero, List.set_cons_succ]
    refine anyH_take 10 133 (.agg A) SD rfl (by kernel_rfl) (by kernel_rfl) (by kernel_rfl) (fun _ _ _ h => h) (by rfl) (by intro x hx; have y0 := hx; (first | exact exec_arr 29 (.tmp 132) q 0 A _ rfl hx.1 Try.underlying29 rfl hsz | exact exec_arr 29 (.tmp 4) g4 0 A _ rfl (fun j v hv => by rw [cell_of_row x g4 (0 + j) _ _ _ hx.2, Nat.zero_add]; simpa using hv) Try.underlying29 rfl hsz | go_simp); try (intro h; omega)) ?_
    try simp only [Act.put, List.setIfInBounds_toArray, List.set_cons_zero, List.set_cons_succ]
    refine anyH_take 11 134 (.agg A) SD rfl (by kernel_rfl) (by kernel_rfl) (by kernel_rfl) (fun _ _ _ h => h) (by rfl) (by intro x hx; have y0 := hx; (first | exact exec_arr 29 (.tmp 132) q 0 A _ rfl hx.1 Try.underlying29 rfl hsz | exact exec_arr 29 (.tmp 4) g4 0 A _ rfl (fun j v hv => by rw [cell_of_row x g4 (0 + j) _ _ _ hx.2, Nat.zero_add]; simpa using hv) Try.underlying29 rfl hsz | go_simp); try (intro h; omega)) ?_
    try simp only [Act.put, List.setIfInBounds_toArray, List.set_cons_zero, List.set_cons_succ]
    refine anyH_take 12 135 (.bool true) SD rfl (by kernel_rfl) (by kernel_rfl) (by kernel_rfl) (fun _ _ _ h => h) (by rfl) (by intro x hx; have y0 := hx; (first | exact exec_arr 29 (.tmp 132) q 0 A _ rfl hx.1 Try.underlying29 rfl hsz | exact exec_arr 29 (.tmp 4) g4 0 A _ rfl (fun j v hv => by rw [cell_of_row x g4 (0 + j) _ _ _ hx.2, Nat.zero_add]; simpa using hv) Try.underlying29 rfl hsz | go_simp); try (intro h; omega)) ?_
    try simp only [Act.put, List.setIfInBounds_toArray, List.set_cons_zero, List.set_cons_succ]
    refine anyH_take 13 136 (.bool true) SD rfl (by kernel_rfl) (by kernel_rfl) (by kernel_rfl) (fun _ _ _ h => h) (by rfl) (by intro x hx; have y0 := hx; (first | exact exec_arr 29 (.tmp 132) q 0 A _ rfl hx.1 Try.underlying29 rfl hsz | exact exec_arr 29 (.tmp 4) g4 0 A _ rfl (fun j v hv => by rw [cell_of_row x g4 (0 + j) _ _ _ hx.2, Nat.zero_add]; simpa using hv) Try.underlying29 rfl hsz | go_simp); try (intro h; omega)) ?_
    try simp only [Act.put, List.setIfInBounds_toArray, List.set_cons_zero, List.set_cons_succ]
    refine anyH_take 14 137 (.bool true) SD rfl (by kernel_rfl) (by kernel_rfl) (by kernel_rfl) (fun _ _ _ h => h) (by rfl) (by intro x hx; have y0 := hx; (first | exact exec_arr 29 (.tmp 132) q 0 A _ rfl hx.1 Try.underlying29 rfl hsz | exact exec_arr 29 (.tmp 4) g4 0 A _ rfl (fun j v hv => by rw [cell_of_row x g4 (0 + j) _ _ _ hx.2, Nat.zero_add]; simpa using hv) Try.underlying29 rfl hsz | go_simp); try (intro h; omega)) ?_
    try simp only [Act.put, List.setIfInBounds_toArray, List.set_cons_zero, List.set_cons_succ]
    refine anyH_one 15 (by kernel_rfl) ?_
    refine wpOp_step rfl (fun Kc hKc => ?_)
    go_simp
    refine (HWK.out _).mono ?_
    rintro e21 z1 ⟨rfl, hbz1⟩
    have D1 := Lib.hid (D0.out.trans (hbz1.mono D0.out.size))
    clear hbz1
    dsimp only
    refine hKc _ _ ⟨KZ.out _ D1.out, ?_⟩
    clear hKc Kc
    try simp only [Act.put, List.setIfInBounds_toArray, List.set_cons_zero, List.set_cons_succ]
    clear SD
    have SD := KZ.out _ D1.out
    refine anyH_take 16 139 (.bool true) SD rfl (by kernel_rfl) (by kernel_rfl) (by kernel_rfl) (fun _ _ _ h => h) (by rfl) (by intro x hx; have y0 := hx; (first | exact exec_arr 29 (.tmp 132) q 0 A _ rfl hx.1 Try.underlying29 rfl hsz | exact exec_arr 29 (.tmp 4) g4 0 A _ rfl (fun j v hv => by rw [cell_of_row x g4 (0 + j) _ _ _ hx.2, Nat.zero_add]; simpa using hv) Try.underlying29 rfl hsz | go_simp); try (intro h; omega)) ?_
    try simp only [Act.put, List.setIfInBounds_toArray, List.set_cons_zero, List.set_cons_succ]
    refine anyH_take 17 8 (.bool true) SD rfl (by kernel_rfl) (by kernel_rfl) (by kernel_rfl) (fun _ _ _ h => h) (by rfl) (by intro x hx; have y0 := hx; (first | exact exec_arr 29 (.tmp 132) q 0 A _ rfl hx.1 Try.underlying29 rfl hsz | exact exec_arr 29 (.tmp 4) g4 0 A _ rfl (fun j v hv => by rw [cell_of_row x g4 (0 + j) _ _ _ hx.2, Nat.zero_add]; simpa using hv) Try.underlying29 rfl hsz | go_simp); try (intro h; omega)) ?_
    try simp only [Act.put, List.setIfInBounds_toArray, List.set_cons_zero, List.set_cons_succ]
    refine wpAnyH_done (by kernel_rfl) ?_ _
    go_wp2
    go_ret
    exact ⟨rfl, BZ.out.trans (D1.out.mono BZ.out.size)⟩
  · obtain ⟨rfl, rfl⟩ := hout.out hi
    unfold Rg.inN at hi
    clear hin hout HQ13 HL13
    by_cases hn1 : n < 0
    · clear hi
      go_wp2_with (go_at_call 15; refine (HWK.out _).mono ?_; rintro e14 w14 ⟨rfl, hb14⟩; have B14 := Lib.hid (B13.out.trans (hb14.mono B13.out.size)); clear hb14)
      go_ret
      exact ⟨rfl, B14.out⟩
    · have hn2 : n > 1099511627776 := by omega
      clear hi
      go_wp2_with (go_at_call 15; refine (HWK.out _).mono ?_; rintro e14 w14 ⟨rfl, hb14⟩; have B14 := Lib.hid (B13.out.trans (hb14.mono B13.out.size)); clear hb14)
      go_ret
      exact ⟨rfl, B14.out⟩
theorem back_any (r : Rg.R) (h : Rg.Ok r) (cut n x : Int) (hx : 0 ≤ x ∧ x ≤ 255) (w : World) : Calls Try.prog 6 #[RV r, .int .i64 cut, .int .i64 n, .int .u8 x] w (YesSay w) := by
  by_cases hm : Rg.may r = true
  · exact back_yes r h hm cut n x hx w
  · exact back_no r h (by simpa using hm) cut n x w
end Go.Proofs.Ytjnepegohfhgiaa

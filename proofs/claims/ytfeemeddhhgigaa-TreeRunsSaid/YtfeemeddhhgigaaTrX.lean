/-
  The reference's tree: contract: Del.
-/
import Derived.Test.YtfeemeddhhgigaaTrW
namespace Go.Proofs.Ytfeemeddhhgigaa
open Go.RowKit

theorem fl_single (w : World) (e : TypeId) (s : Nat) (A : Array Value) (hA : A.size = s) : Fl w.heap.size e s (w.alloc (.cells A e)) (.slice (some ⟨w.heap.size, 0, none⟩) 1 1) [A] := by
  refine ⟨⟨by rw [fl_one, Array.length_toList]; simp [hA], Or.inr ⟨w.heap.size, 1, A, rfl, Nat.le_refl _, heap_alloc_new w _, Nat.le_refl _, by decide, by omega, ?_⟩⟩, fun B hB => by rw [List.mem_singleton] at hB; rw [hB]; exact hA⟩
  rw [fl_one]
  exact List.take_of_length_le (by rw [Array.length_toList]; show _ ≤ 1 * s; omega)
set_option maxHeartbeats 4000000 in
set_option maxRecDepth 100000 in
theorem rdel_any {K b : Nat} {t : Tr.T} (N : Int) (w : World) (h : RS K w b t) (h9 : ∀ i, 9 ≤ i → t.n i = none) :
    Calls Try.prog 40 #[.pointer (some ⟨b, 0, none⟩), .int .i64 N] w (DdSay K b (Tr.delI t N) (Tr.delD t N) w) := by
  obtain ⟨vb, vn, L, hT, hL⟩ := h
  have hLl := hL.len
  have HG : Hid (∀ y, RT K y b vb vn L t → Calls Try.prog 37 #[.pointer (some ⟨b, 0, none⟩), .int .i64 N] y (RbSay (Tr.getR t N) (Tr.getB t N) y)) := fun y hy => get_any N y hy
  have hro : Pg.Ok (Tr.getR t N) := by
    unfold Tr.getR; split
    · exact hT.ok.1 _
    · exact pg_zr
  obtain ⟨OA, Z', eO, hOA⟩ := rfk hro
  have HOS := Lib.hid hOA.size
  have HO1 := Lib.hid hOA.one
  have HOR : Hid (rfA (Tr.getR t N) = OA) := by
    have e6 : R33 (Tr.getR t N) = .agg (rfA (Tr.getR t N)) := rfl
    rw [e6] at eO
    injection eO
  have hsO := row_size Try.sizeRef33 HOS
  unfold RbSay at HG
  rw [eO] at HG
  obtain ⟨Z, hz0⟩ := zfk
  have HZS := Lib.hid hz0.size
  have HBL := Lib.hid hz0.built
  have hz := (zero_of_info hz0.zero).1
  have hzn : ¬ Z = #[] := fun h => by have := HZS.out; rw [h] at this; simp at this
  have hcz : (cl Pg.zr).toArray = Z := by
    have e6 : R33 Pg.zr = .agg (cl Pg.zr).toArray := rfl
    have e7 := hz0.val
    rw [e6] at e7
    injection e7
  have HT0 : Hid (∀ y, Below w.heap.size w y → RT K y b vb vn L t) := fun y hy => hT.old hy
  have HLG := Lib.hid hL
  have T0 := Lib.hid hT
  by_cases hgb : Tr.getB t N = true
  · obtain ⟨hK, hp⟩ := (Tr.getB_iff t N).1 hgb
    obtain ⟨k, hkN⟩ : ∃ k : Nat, N = (k : Int) := ⟨N.toNat, by unfold Tr.inK at hK; omega⟩
    subst hkN
    have hk64 : k < 64 := by unfold Tr.inK at hK; omega
    have hlf := Tr.lf_in hk64
    have hlp := Tr.lf_pos k
    rw [Int.toNat_natCast] at hp
    obtain ⟨t1, ht1⟩ : ∃ t1 : Tr.T, t1 = ⟨Tr.up t.b k Pg.zr, t.n⟩ := ⟨_, rfl⟩
    obtain ⟨L1, hL1⟩ : ∃ L1, L1 = Tr.wo L (Tr.lf k) ++ [(⟨Tr.lf k, true, Pg.zr⟩ : Tr.Nn)] := ⟨_, rfl⟩
    obtain ⟨t2, ht2⟩ : ∃ t2 : Tr.T, t2 = ⟨t1.b, Tr.up t1.n (Tr.lf k) (some none)⟩ := ⟨_, rfl⟩
    obtain ⟨t3, ht3⟩ : ∃ t3 : Tr.T, t3 = Tr.put t k Pg.zr := ⟨_, rfl⟩
    obtain ⟨L2, hL2⟩ : ∃ L2, L2 = Tr.wo L1 0 ++ [(⟨0, true, Pg.zr⟩ : Tr.Nn)] := ⟨_, rfl⟩
    have gL1 : LG L1 := by rw [hL1]; exact hL.is ⟨Tr.lf k, true, Pg.zr⟩ pg_zr hlf.2
    have gL2 : LG L2 := by rw [hL2]; exact gL1.is ⟨0, true, Pg.zr⟩ pg_zr (by show 0 < 9; omega)
    have n1 : t1.n = t.n := by rw [ht1]
    have n2 : t2.n 0 = t.n 0 := by rw [ht2, n1]; exact Tr.up_other t.n (Tr.lf k) 0 (some none) (by omega)
    have n9 : ∀ i, 9 ≤ i → t2.n i = none := fun i hi => by rw [ht2, n1]; exact (Tr.up_other t.n (Tr.lf k) i (some none) (by omega)).trans (h9 i hi)
    have e3 : (⟨t2.b, Tr.up t2.n 0 (some none)⟩ : Tr.T) = t3 := by rw [ht3, ht2, ht1]; rfl
    have eT : Tr.delI t (k : Int) = if Tr.has t3 (Tr.lf k) then t3 else ⟨t3.b, Tr.up t3.n (Tr.lf k) none⟩ := by unfold Tr.delI; rw [if_pos hgb, Int.toNat_natCast, ht3]; rfl
    have eD : Tr.delD t (k : Int) = [t.b k] ++ Tr.alv (Tr.nr (t.n (Tr.lf k))) ++ Tr.alv (Tr.nr (t.n 0)) := by unfold Tr.delD; rw [if_pos hgb, Int.toNat_natCast, ← Tr.alv_yes hp]; rfl
    have hpz : Tr.pR Pg.zr = Pg.zr := by unfold Tr.pR; split <;> rfl
    have hgr : Tr.getR t (k : Int) = t.b k := by unfold Tr.getR; rw [hgb, Int.toNat_natCast]; rfl
    rw [hgr] at HOR
    have ED : Hid (([t.b k] : List Pg.Rf).map rfA = [OA]) := by show _ = _; rw [← HOR.out]; rfl
    have HP : Hid (∀ y, RT K y b vb vn L t → Calls Try.prog 58 #[.pointer (some ⟨b, 0, none⟩), .int .i64 (k : Int), .agg Z] y (PuSay K b vn L t1 y)) := fun y hy => by
      have q := rput_any k Pg.zr hk64 pg_zr y hy
      rw [hpz, hcz, ← ht1] at q
      exact q
    have HLF : Hid (∀ y, Calls Try.prog 60 #[.int .i64 (k : Int)] y fun e w' => e = .returned (.int .i64 ((Tr.lf k : Nat) : Int)) ∧ Hid (Below y.heap.size y w')) := fun y => leaf_any k (by omega) y
    have HS1 : Hid (∀ B y vb' vn' vd D, RT K y b vb' vn' L t1 → Fl B 33 33 y vd (D.map rfA) → D.length ≤ 1000 → B ≤ y.heap.size → Calls Try.prog 59 #[.pointer (some ⟨b, 0, none⟩), vd, .int .i64 ((Tr.lf k : Nat) : Int)] y (SlSay K b B vb' L1 t2 (D ++ Tr.alv (Tr.nr (t.n (Tr.lf k)))) y)) := fun B y vb' vn' vd D hy hd hl hb => by
      have q := spoil_any (B := B) (D := D) (Tr.lf k) y hy (by omega) hL.ok (by rw [n1]; exact h9) hlf.2 hd hl hb
      rw [← hL1, ← ht2, n1] at q
      exact q
    have HS2 : Hid (∀ B y vb' vn' vd D, RT K y b vb' vn' L1 t2 → Fl B 33 33 y vd (D.map rfA) → D.length ≤ 1000 → B ≤ y.heap.size → Calls Try.prog 59 #[.pointer (some ⟨b, 0, none⟩), vd, .int .i64 0] y (SlSay K b B vb' L2 t3 (D ++ Tr.alv (Tr.nr (t.n 0))) y)) := fun B y vb' vn' vd D hy hd hl hb => by
      have q := spoil_any (B := B) (D := D) 0 y hy (by have := gL1.len; omega) gL1.ok n9 (by omega) hd hl hb
      rw [n2, e3, ← hL2] at q
      exact q
    have HTH : Hid (∀ y vb' vn', RT K y b vb' vn' L2 t3 → Calls Try.prog 61 #[.pointer (some ⟨b, 0, none⟩), .int .i64 ((Tr.lf k : Nat) : Int)] y fun e w' => e = .returned (.bool (Tr.has t3 (Tr.lf k))) ∧ Hid (Below y.heap.size y w')) := fun y vb' vn' hy => there_any (Tr.lf k) y hy hlp (by omega)
    have HW : Hid (∀ y vb' vn', RT K y b vb' vn' L2 t3 → Calls Try.prog 62 #[.pointer (some ⟨b, 0, none⟩), .int .i64 ((Tr.lf k : Nat) : Int)] y (WoSay (Tr.wo L2 (Tr.lf k)) y)) := fun y vb' vn' hy => without_any (Tr.lf k) y hy (by have := gL2.len; omega) gL2.ok (by omega)
    have HA1 : Hid ((Tr.alv (Tr.nr (t.n (Tr.lf k)))).length ≤ 1) := by show _ ≤ _; unfold Tr.alv; split <;> simp
    have HGL := Lib.hid gL2
    have HGW := Lib.hid (gL2.wo (Tr.lf k))
    have hkk0 : 0 ≤ (k : Int) := by omega
    have HKW : Hid (K ≤ w.heap.size) := Nat.le_trans hT.lo (Nat.le_of_lt (lt_of_block hT.box))
    obtain ⟨t4, ht4⟩ : ∃ t4 : Tr.T, t4 = ⟨t3.b, Tr.up t3.n (Tr.lf k) none⟩ := ⟨_, rfl⟩
    have HGN : Hid (∀ y vb' vn' z v', RT K y b vb' vn' L2 t3 → Fl K 70 35 y v' ((Tr.wo L2 (Tr.lf k)).map Tr.nnA) → z.heap[b]? = some (.cells #[vb', v'] 74 (0, 0)) → Only b y z → RT K z b vb' v' (Tr.wo L2 (Tr.lf k)) t4) := fun y vb' vn' z v' hy hf hz2 ho => by
      refine hy.setn hf hz2 ho (by rw [ht4]) (by rw [ht4]; exact hy.rep.gone (Tr.lf k) t3.b) ?_
      rw [ht4]
      refine ⟨hy.ok.1, fun i r hr => ?_⟩
      have hr' : Tr.up t3.n (Tr.lf k) none i = some (some r) := hr
      by_cases e : i = Tr.lf k
      · rw [e, Tr.up_same] at hr'; cases hr'
      · rw [Tr.up_other _ _ _ _ e] at hr'; exact hy.ok.2 i r hr'
    rw [hgb] at HG
    rw [eT, eD, ← ht4]
    generalize Tr.alv (Tr.nr (t.n (Tr.lf k))) = V1 at *
    generalize Tr.alv (Tr.nr (t.n 0)) = V2 at *
    generalize Tr.has t3 (Tr.lf k) = hh at *
    generalize Tr.wo L2 (Tr.lf k) = L3 at *
    generalize ((Tr.lf k : Nat) : Int) = lfk at *
    unfold PuSay at HP
    unfold SlSay at HS1 HS2
    unfold WoSay at HW
    clear eT eD hgb hK hp hpz hgr ht1 hL1 ht2 ht3 hL2 ht4 gL1 gL2 n1 n2 n9 e3 hT hL hro eO hOA hz0 hcz h9 hLl HOR T0 hlf hlp
    obtain ⟨DD, hDD⟩ : ∃ DD, [t.b k] ++ V1 ++ V2 = DD := ⟨_, rfl⟩
    have HDD := Lib.hid hDD
    rw [hDD]
    clear hDD
    cases hh with
    | true =>
      rw [if_pos rfl]
      go_enter Try.func40, Try.ntmps40
      go_wp2_with (first
        | (go_at_call 37; refine (HG.out _ (HT0.out _ (Below.refl _ _))).mono ?_; rintro e1 w1 ⟨rfl, B1⟩)
        | ((with_reducible refine row_store _ _ _ _ _ _ _ ?_ ?_ (heap_alloc_new _ _) hsO ?_ HO1.out ?_); (exact rfl); (exact rfl); (rw [HOS.out, HZS.out]); intro w2 G2 ch2; have B2 := Lib.hid (ch2.below (B1.out.alloc B1.out.size _) B1.out.size); have BA := Lib.hid (B2.out.alloc B2.out.size (.cells OA 33)); have TA := Lib.hid (HT0.out _ BA.out); have FA : Hid (Fl w.heap.size 33 33 (w2.alloc (.cells OA 33)) (.slice (some ⟨w2.heap.size, 0, none⟩) 1 1) (([t.b k] : List Pg.Rf).map rfA)) := (by rw [ED.out]; exact (fl_single w2 _ _ OA HOS.out).mono B2.out.size); have PA := Lib.hid (OB.of_below (b := b) BA.out (Nat.le_refl _)))
        | ((with_reducible refine row_load _ _ _ _ _ _ _ ?_ G2.out Try.underlying33 ?_ hsO ?_); (exact rfl); (exact rfl))
        | ((with_reducible refine bs1_g _ _ _ OA 33 40 Try.underlying40 Try.infoRf (rfa_size pg_zr) HOS.out ?_ ?_ _ ?_ ?_); (decide); (decide); (exact rfl))
        | ((with_reducible refine row_build0 _ _ HBL.out ?_))
        | (go_at_call 58; refine (HP.out _ TA.out).mono ?_; rintro e3 w3 ⟨vb3, rfl, T3, O3⟩; have P3 := Lib.hid (PA.out.trans (OB.of_only O3.out PA.out.size)); have F3 := Lib.hid (FA.out.only O3.out (FA.out.off_box TA.out.box (by decide))))
        | (go_at_call 60; refine (HLF.out _).mono ?_; rintro e4 w4 ⟨rfl, B4⟩; have P4 := Lib.hid (P3.out.trans (OB.of_below (b := b) B4.out P3.out.size)); have F4 := Lib.hid (F3.out.old B4.out); have T4 := Lib.hid (T3.out.old B4.out))
        | (go_at_call 59; with_reducible refine (HS1.out _ _ _ _ _ _ T4.out F4.out (by simp) P4.out.size).mono ?_; rintro e5 w5 ⟨vd5, vn5, rfl, F5, T5, O5⟩; have P5 := Lib.hid (P4.out.trans O5.out))
        | (go_at_call 59; with_reducible refine (HS2.out _ _ _ _ _ _ T5.out F5.out (by have := HA1.out; simp; omega) P5.out.size).mono ?_; rintro e6 w6 ⟨vd6, vn6, rfl, F6, T6, O6⟩; have P6 := Lib.hid (P5.out.trans O6.out))
        | (go_at_call 60; refine (HLF.out _).mono ?_; rintro e7 w7 ⟨rfl, B7⟩; have P7 := Lib.hid (P6.out.trans (OB.of_below (b := b) B7.out P6.out.size)); have F7 := Lib.hid (F6.out.old B7.out); have T7 := Lib.hid (T6.out.old B7.out))
        | (go_at_call 61; refine (HTH.out _ _ _ T7.out).mono ?_; rintro e8 w8 ⟨rfl, B8⟩; have P8 := Lib.hid (P7.out.trans (OB.of_below (b := b) B8.out P7.out.size)); have F8 := Lib.hid (F7.out.old B8.out); have T8 := Lib.hid (T7.out.old B8.out)))
      go_ret
      exact ⟨_, rfl, Lib.hid (HDD.out ▸ F8.out), Lib.hid (T8.out.rs HGL.out), Lib.hid (P8.out.only (Nat.le_refl _))⟩
    | false =>
      rw [if_neg Bool.false_ne_true]
      go_enter Try.func40, Try.ntmps40
      go_wp2_with (first
        | (go_at_call 37; refine (HG.out _ (HT0.out _ (Below.refl _ _))).mono ?_; rintro e1 w1 ⟨rfl, B1⟩)
        | ((with_reducible refine row_store _ _ _ _ _ _ _ ?_ ?_ (heap_alloc_new _ _) hsO ?_ HO1.out ?_); (exact rfl); (exact rfl); (rw [HOS.out, HZS.out]); intro w2 G2 ch2; have B2 := Lib.hid (ch2.below (B1.out.alloc B1.out.size _) B1.out.size); have BA := Lib.hid (B2.out.alloc B2.out.size (.cells OA 33)); have TA := Lib.hid (HT0.out _ BA.out); have FA : Hid (Fl w.heap.size 33 33 (w2.alloc (.cells OA 33)) (.slice (some ⟨w2.heap.size, 0, none⟩) 1 1) (([t.b k] : List Pg.Rf).map rfA)) := (by rw [ED.out]; exact (fl_single w2 _ _ OA HOS.out).mono B2.out.size); have PA := Lib.hid (OB.of_below (b := b) BA.out (Nat.le_refl _)))
        | ((with_reducible refine row_load _ _ _ _ _ _ _ ?_ G2.out Try.underlying33 ?_ hsO ?_); (exact rfl); (exact rfl))
        | ((with_reducible refine bs1_g _ _ _ OA 33 40 Try.underlying40 Try.infoRf (rfa_size pg_zr) HOS.out ?_ ?_ _ ?_ ?_); (decide); (decide); (exact rfl))
        | ((with_reducible refine row_build0 _ _ HBL.out ?_))
        | (go_at_call 58; refine (HP.out _ TA.out).mono ?_; rintro e3 w3 ⟨vb3, rfl, T3, O3⟩; have P3 := Lib.hid (PA.out.trans (OB.of_only O3.out PA.out.size)); have F3 := Lib.hid (FA.out.only O3.out (FA.out.off_box TA.out.box (by decide))))
        | (go_at_call 60; refine (HLF.out _).mono ?_; rintro e4 w4 ⟨rfl, B4⟩; have P4 := Lib.hid (P3.out.trans (OB.of_below (b := b) B4.out P3.out.size)); have F4 := Lib.hid (F3.out.old B4.out); have T4 := Lib.hid (T3.out.old B4.out))
        | (go_at_call 59; with_reducible refine (HS1.out _ _ _ _ _ _ T4.out F4.out (by simp) P4.out.size).mono ?_; rintro e5 w5 ⟨vd5, vn5, rfl, F5, T5, O5⟩; have P5 := Lib.hid (P4.out.trans O5.out))
        | (go_at_call 59; with_reducible refine (HS2.out _ _ _ _ _ _ T5.out F5.out (by have := HA1.out; simp; omega) P5.out.size).mono ?_; rintro e6 w6 ⟨vd6, vn6, rfl, F6, T6, O6⟩; have P6 := Lib.hid (P5.out.trans O6.out))
        | (go_at_call 60; refine (HLF.out _).mono ?_; rintro e7 w7 ⟨rfl, B7⟩; have P7 := Lib.hid (P6.out.trans (OB.of_below (b := b) B7.out P6.out.size)); have F7 := Lib.hid (F6.out.old B7.out); have T7 := Lib.hid (T6.out.old B7.out))
        | (go_at_call 61; refine (HTH.out _ _ _ T7.out).mono ?_; rintro e8 w8 ⟨rfl, B8⟩; have P8 := Lib.hid (P7.out.trans (OB.of_below (b := b) B8.out P7.out.size)); have F8 := Lib.hid (F7.out.old B8.out); have T8 := Lib.hid (T7.out.old B8.out))
        | (go_at_call 60; refine (HLF.out _).mono ?_; rintro e9 w9 ⟨rfl, B9⟩; have P9 := Lib.hid (P8.out.trans (OB.of_below (b := b) B9.out P8.out.size)); have F9 := Lib.hid (F8.out.old B9.out); have T9 := Lib.hid (T8.out.old B9.out))
        | (go_at_call 62; refine (HW.out _ _ _ T9.out).mono ?_; rintro e10 w10 ⟨v, rfl, FW, B10⟩; obtain ⟨pv, cv, hv⟩ := FW.out.len; obtain ⟨nv, hnv⟩ : ∃ nv, (L3.map Tr.nnA).length = nv := ⟨_, rfl⟩; rw [hnv] at hv; subst hv; clear hnv; have P10 := Lib.hid (P9.out.trans (OB.of_below (b := b) B10.out P9.out.size)); have F10 := Lib.hid (F9.out.old B10.out); have T10 := Lib.hid (T9.out.old B10.out); have c10 := T10.out.c1; have f10 : w10.frozen? ⟨b, 1, none⟩ = false := frozen_of_row w10 b 1 _ _ T10.out.box))
      go_ret
      have hs : (w10.setCell ⟨b, 1, none⟩ (.slice pv nv cv)).heap[b]? = _ := heap_setCell_same w10 b 1 _ _ (.slice pv nv cv) T10.out.box
      have hO : Only b w10 (w10.setCell ⟨b, 1, none⟩ (.slice pv nv cv)) := (Chg.setCell w10 ⟨b, 1, none⟩ _).only
      exact ⟨_, rfl, Lib.hid (HDD.out ▸ F10.out.only hO (F10.out.off_box T10.out.box (by decide))), Lib.hid ((HGN.out _ _ _ _ _ T10.out (FW.out.mono (Nat.le_trans HKW.out P9.out.size)) hs hO).rs HGW.out), Lib.hid ((P10.out.trans (OB.of_only hO P10.out.size)).only (Nat.le_refl _))⟩
  · have hgf : Tr.getB t N = false := by rw [Bool.not_eq_true] at hgb; exact hgb
    have e1 : Tr.delI t N = t := by unfold Tr.delI; rw [if_neg hgb]
    have e2 : Tr.delD t N = [] := by unfold Tr.delD; rw [if_neg hgb]
    rw [e1, e2]
    rw [hgf] at HG
    clear e1 e2 hgb hgf hT hL hro eO hOA hz0 hcz h9 hLl HOR
    go_enter Try.func40, Try.ntmps40
    go_wp2_with (first
      | (go_at_call 37; refine (HG.out _ T0.out).mono ?_; rintro e1 w1 ⟨rfl, B1⟩)
      | ((with_reducible refine row_store _ _ _ _ _ _ _ ?_ ?_ (heap_alloc_new _ _) hsO ?_ HO1.out ?_); (exact rfl); (exact rfl); (rw [HOS.out, HZS.out]); intro w2 G2 ch2; have B2 := Lib.hid (ch2.below (B1.out.alloc B1.out.size _) B1.out.size)))
    go_ret
    exact ⟨_, rfl, Lib.hid (fl_nil _ _ _ _), Lib.hid ((HT0.out _ B2.out).rs HLG.out), Lib.hid (only_of_below B2.out)⟩
end Go.Proofs.Ytfeemeddhhgigaa

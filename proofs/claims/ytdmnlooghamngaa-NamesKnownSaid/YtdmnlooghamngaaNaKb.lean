/-
  The law NamesKnown walked.
-/
import Derived.Test.YtdmnlooghamngaaNaKa
import Derived.Test.YtdmnlooghamngaaNaRu
import Derived.Test.YtdmnlooghamngaaNaY
import Derived.Test.YtdmnlooghamngaaNaBk
import Derived.Test.YtdmnlooghamngaaNaAp
namespace Go.Proofs.Ytdmnlooghamngaa
open Go.RowKit

def N8 : List Int := [-9223372036854775808, -1, 0, 1, 2, 1099511627776, 1099511627777, 9223372036854775807]
theorem n8_in (i : Nat) (h : i < 8) : Nm.In64 (N8.getD i 0) := by
  have h1 : i = 0 ∨ i = 1 ∨ i = 2 ∨ i = 3 ∨ i = 4 ∨ i = 5 ∨ i = 6 ∨ i = 7 := by omega
  unfold Nm.In64 N8
  rcases h1 with rfl | rfl | rfl | rfl | rfl | rfl | rfl | rfl <;> decide
theorem forged_at (L : List Nm.Four) (m : Nat) (hm : L.length = m) (e n : Int) (h : List Int) (nh : Nat) (hnh : h.length = nh) (b : List Int) (nb : Nat) (hnb : b.length = nb) (tp ph pb : Option Addr) (cap ch cb : Nat) (he : Nm.In64 e) (hn : Nm.In64 n)
    (w : World) (hr : FRows w tp L) (hbh : Bs w ph ch h) (hbb : Bs w pb cb b) :
    Calls Try.prog 5 #[.slice tp m cap, .int .i64 e, .int .i64 n, .slice ph nh ch, .slice pb nb cb] w (YesSay w) := by
  subst hm
  subst hnh
  subst hnb
  exact forged_any L e n h b tp ph pb cap ch cb he hn w hr hbh hbb
set_option maxHeartbeats 4000000 in
set_option maxRecDepth 100000 in
theorem known_any (w : World) : Calls Try.prog 7 #[] w (YesSay w) := by
  go_enter Try.func7, Try.ntmps7
  go_upto_region 4 with (fail)
  obtain ⟨w1, HW1⟩ : ∃ y : World, Hid (y = w.alloc (.cells (N8.map (Value.int .i64)).toArray 3)) := ⟨_, rfl⟩
  have HN1 : Hid (w1.heap[w.heap.size]? = some (.cells (N8.map (Value.int .i64)).toArray 3 (0, 0))) := by
    show _ = _
    rw [HW1.out]
    exact heap_alloc_new w _
  have BW : Hid (Below w.heap.size w w1) := by
    show Below _ _ _
    rw [HW1.out]
    exact (Below.refl _ w).alloc (Nat.le_refl _) _
  rw [show w.alloc (.cells #[.int .i64 (-9223372036854775808), .int .i64 (-1), .int .i64 0, .int .i64 1, .int .i64 2, .int .i64 1099511627776, .int .i64 1099511627777, .int .i64 9223372036854775807] 3) = w1 from HW1.out.symm]
  have HN : Hid (∀ y, Below w1.heap.size w1 y → ∀ j : Nat, j < 8 → y.cell? ⟨w.heap.size, j, none⟩ = some (.int .i64 (N8.getD j 0))) := fun y hy j hj => by
    rw [cell_of_row y _ j _ _ _ ((hy.block _ (lt_of_block HN1.out)).trans HN1.out)]
    have h8 : N8.length = 8 := rfl
    simp [List.getD_eq_getElem?_getD, h8, hj]
  clear HW1 HN1
  go_loopw [2, 3] (fun v2 v3 wr => ∃ (i n : Nat), i ≤ 8 ∧ v3 = .int .i64 i ∧ n ≤ 16 * i ∧ Hid (OpsAt w1.heap.size wr v2 n) ∧ Hid (Below w1.heap.size w1 wr)) (fun _ v3 _ => 8 - (intOf v3).toNat)
  case atStart => exact ⟨0, 0, by omega, rfl, by omega, ops_nil _ _, Below.refl _ _⟩
  case round =>
    obtain ⟨i, n, hi, rfl, hn, HO, HB⟩ := hrel
    by_cases hlt : i < 8
    · have hi0 : (0 : Int) ≤ (i : Int) := by omega
      have hi8 : (i : Int) < 8 := by omega
      go_upto_region 7 with (fail)
      go_loopw [2, 4] (fun v2 v4 wr => ∃ (k n : Nat), k ≤ 8 ∧ v4 = .int .i64 k ∧ n ≤ 16 * i + 2 * k ∧ Hid (OpsAt w1.heap.size wr v2 n) ∧ Hid (Below w1.heap.size w1 wr)) (fun _ v4 _ => 8 - (intOf v4).toNat)
      case atStart => exact ⟨0, n, by omega, rfl, by omega, HO.out, HB.out⟩
      case round =>
        clear HO HB
        obtain ⟨k, n, hk, rfl, hn, HO, HB⟩ := hrel
        by_cases hltk : k < 8
        · have hk0 : (0 : Int) ≤ (k : Int) := by omega
          have hk8 : (k : Int) < 8 := by omega
          obtain ⟨ni, hni⟩ : ∃ x, Hid (N8.getD i 0 = x) := ⟨_, rfl⟩
          obtain ⟨nk, hnk⟩ : ∃ x, Hid (N8.getD k 0 = x) := ⟨_, rfl⟩
          have HI : Hid (Nm.In64 ni) := by rw [← hni.out]; exact n8_in i hlt
          have HK : Hid (Nm.In64 nk) := by rw [← hnk.out]; exact n8_in k hltk
          have HNI : Hid (∀ y, Below w1.heap.size w1 y → y.cell? ⟨w.heap.size, i, none⟩ = some (.int .i64 ni)) := by rw [← hni.out]; exact fun y hy => HN.out y hy i hlt
          have HNK : Hid (∀ y, Below w1.heap.size w1 y → y.cell? ⟨w.heap.size, k, none⟩ = some (.int .i64 nk)) := by rw [← hnk.out]; exact fun y hy => HN.out y hy k hltk
          clear hni hnk
          have HSZ : Hid (w1.heap.size ≤ wr.heap.size) := HB.out.size
          go_upto_region 9 with (fail)
          go_region_held3 (fun y => y.cell? ⟨w.heap.size, i, none⟩ = some (.int .i64 ni) ∧ y.cell? ⟨w.heap.size, k, none⟩ = some (.int .i64 nk))
            (exact (fun hb => ⟨HNI.out _ hb, HNK.out _ hb⟩) (by first | exact (Hid.out (by assumption)) | exact HB.out.drew | exact HB.out.drew.alloc HSZ.out _ | exact (HB.out.drew.alloc HSZ.out _).alloc (by have := HSZ.out; simp; omega) _ | exact ((HB.out.drew.alloc HSZ.out _).alloc (by have := HSZ.out; simp; omega) _).alloc (by have := HSZ.out; simp; omega) _ | exact (((HB.out.drew.alloc HSZ.out _).alloc (by have := HSZ.out; simp; omega) _).alloc (by have := HSZ.out; simp; omega) _).alloc (by have := HSZ.out; simp; omega) _))
            ((refine step_append_ops rfl (.tmp 22) (.tmp 45) rfl w1.heap.size _ n ⟨0, ni, nk, 0, [7], [8, 9], 0⟩ ⟨3, nk, ni, k, [7], [], 0⟩ _ _ _ _ none _ _ _ 0 (by simp [Act.eval]) (by simp [Act.eval]) (HO.out.old (((((Below.refl _ wr).drew.alloc (Nat.le_refl _) _).alloc (by simp) _).alloc (by simp; omega) _).alloc (by simp; omega) _)) (heap_alloc_new _ _) (by exact Or.inr ⟨_, rfl, by simp, by omega, byt7, by first | exact (al4 wr.drew _ _ _ _).1 | exact (al4 wr.drew _ _ _ _).2.1 | exact (al4 wr.drew _ _ _ _).2.2.1⟩) (by exact Or.inr ⟨_, rfl, by simp, by omega, byt89, by first | exact (al4 wr.drew _ _ _ _).1 | exact (al4 wr.drew _ _ _ _).2.1 | exact (al4 wr.drew _ _ _ _).2.2.1⟩) (by exact Or.inr ⟨_, rfl, by simp, by omega, byt7, by first | exact (al4 wr.drew _ _ _ _).1 | exact (al4 wr.drew _ _ _ _).2.1 | exact (al4 wr.drew _ _ _ _).2.2.1⟩) (Or.inl ⟨rfl, rfl, rfl⟩) ⟨HI.out, HK.out⟩ ⟨HK.out, HI.out⟩ ⟨by simp, by simp⟩ ⟨by simp, by simp⟩ (by omega) (by have := HSZ.out; simp; omega) ?_; intro v5 w5 ho5 hg5 ht5; have HO5 := Lib.hid ho5; have HB5 : Hid (Below w1.heap.size w1 w5) := Lib.hid (((((HB.out.drew.alloc HSZ.out _).alloc (by have := HSZ.out; simp; omega) _).alloc (by have := HSZ.out; simp; omega) _).alloc (by have := HSZ.out; simp; omega) _).grown hg5 (by have := HSZ.out; simp; omega) (fun q hq => (ht5 q hq).1)); clear ho5 hg5 ht5))
          all_goals (go_wp2; exact ⟨⟨k + 1, n + 2, by omega, by go_num, by omega, HO5.out, HB5.out⟩, by simp [intOf]; omega⟩)
        · obtain rfl : k = 8 := by omega
          clear hltk
          go_wp2
          exact ⟨⟨i + 1, n, by omega, by go_num, by omega, HO.out, HB.out⟩, by simp [intOf]; omega⟩
    · obtain rfl : i = 8 := by omega
      clear hlt
      obtain ⟨a, cap, rfl⟩ := ops_len HO.out
      obtain ⟨L, hL, hC⟩ := HO.out.rows
      subst hL
      have HC := Lib.hid hC
      clear hC HN
      have ms := meth_seal
      have hng := Try.noGuard
      go_upto_region 13 with (first
        | (go_at_call 3; refine (runs_any L a cap _ HC.out).mono ?_; rintro e2 w2 ⟨rfl, hb2⟩; have B2 : Hid (Below w.heap.size w w2) := BW.out.trans ((HB.out.trans (hb2.mono HB.out.size)).mono BW.out.size); clear hb2)
        | (go_at_call 29; refine (crypt_any _).mono ?_; rintro e3 w3 ⟨g, b, c, rfl, L3, S3, hb3⟩; have B3 : Hid (Below w.heap.size w w3) := B2.out.trans (hb3.mono B2.out.size); have L3' : Hid (w.heap.size ≤ b) := Nat.le_trans B2.out.size L3.out.2.1; clear hb3)
        | (go_at_call 16; refine (seal_x1 w3 g b c S3.out).mono ?_; rintro e4 w4 ⟨p, k, rfl, P4, S4, o4⟩; have B4 : Hid (Below w.heap.size w w4) := o4.below B3.out L3'.out B3.out.size; clear o4 S3 S4))
      go_upto_region 15 with (fail)
      obtain ⟨w5, HW5⟩ : ∃ y : World, Hid ((((((w4.alloc lit7).alloc lit89).alloc lit7).alloc lit89).alloc (fours w4.heap.size p k)) = y) := ⟨_, rfl⟩
      have HF := Lib.hid (l4_rows w4 p k (by unfold S34; exact P4.out) w5 HW5.out)
      have HW5' := HW5.out
      unfold lit7 lit89 fours at HW5'
      rw [HW5']
      clear HW5' HW5
      have B5 : Hid (Below w.heap.size w w5) := B4.out.trans (HF.out.2.mono B4.out.size)
      have HFR : Hid (∀ y, Below w5.heap.size w5 y → FRows y (some ⟨w4.heap.size + 1 + 1 + 1 + 1, 0, none⟩) L4) := fun y hy => HF.out.1.old hy
      have HS : Hid (∀ y, Below w5.heap.size w5 y → Bs y p k S34) := fun y hy => (Bs.old (by unfold S34; exact P4.out) HF.out.2).old hy
      have HSB := Lib.hid (HS.out _ (Below.refl _ _)).bat.1
      obtain ⟨ab, ao, rfl, _⟩ := (HS.out _ (Below.refl _ _)).bat.2 (by rw [s34_len]; omega)
      have HKC : (34 : Int) ≤ (k : Int) := by have h := (HS.out _ (Below.refl _ _)).cap.1; rw [s34_len] at h; omega
      clear HF P4 B2 B3 B4 L3 L3' HC HB HO
      generalize w4.heap.size + 1 + 1 + 1 + 1 = q4 at *
      go_loopw [7, 8] (fun v7 _ wr => ∃ i : Nat, i ≤ 34 ∧ v7 = .int .i64 i ∧ Hid (Below w5.heap.size w5 wr)) (fun v7 _ _ => 34 - (intOf v7).toNat)
      case atStart => exact ⟨0, by omega, rfl, Below.refl _ _⟩
      case round =>
        obtain ⟨i, hi, rfl, HB⟩ := hrel
        by_cases hlt : i < 34
        · have hi0 : (0 : Int) ≤ (i : Int) := by omega
          have hi34 : (i : Int) < 34 := by omega
          have hik : (i : Int) ≤ (k : Int) := by omega
          have hi34b : (i : Int) ≤ 34 := by omega
          go_upto_region 18 with (go_at_call 30; refine (copybytes_any S34 _ 34 k s34_len (by rw [s34_len]; omega) _ (HS.out _ HB.out).bat).mono ?_; rintro e6 w6 ⟨a6, rfl, ho6, hb6⟩; obtain ⟨p6, c6, rfl, _, _⟩ := own_bs ho6 HSB.out; rw [s34_len] at ho6 ⊢; have HO6 := Lib.hid ho6; have B6 : Hid (Below w5.heap.size w5 w6) := HB.out.trans (hb6.mono HB.out.size); have L6 : Hid (w5.heap.size ≤ wr.heap.size) := HB.out.size; clear ho6 hb6)
          rcases HO6.out.2 with ⟨h2, _⟩ | ⟨g6, cap', cur, h2, hgb, h3, h4, h5, h6, h7⟩
          · cases h2
          · cases h2
            have HGB : Hid (w5.heap.size ≤ g6) := Nat.le_trans L6.out hgb
            have HH3 := Lib.hid h3
            have HSZ := Lib.hid (show 34 ≤ c6 ∧ cur.size = c6 * 1 from ⟨h4, h6⟩)
            have HMX := Lib.hid (h5)
            have HTK := Lib.hid h7
            have HGW := Lib.hid hgb
            have c0 := u8_at HO6.out i hlt
            have f0 := frozen_of_row w6 g6 i _ _ h3
            clear h3 h4 h5 h6 h7 hgb
            generalize hy : S34.getD i 0 = y at *
            go_upto_region 19 with (fail)
            obtain ⟨w7, HW7⟩ : ∃ z : World, Hid (w6.setCell ⟨g6, i, none⟩ (.int .u8 (bits .xor .u8 y 2)) = z) := ⟨_, rfl⟩
            obtain ⟨M, HM⟩ : ∃ M, Hid (S34.set i (bits .xor .u8 y 2) = M) := ⟨_, rfl⟩
            have HML : Hid (M.length = 34) := by show _ = _; rw [← HM.out, List.length_set]; exact s34_len
            have HMB : Hid (Sha.Byt M) := by
              intro u hu
              rw [← HM.out] at hu
              rcases List.mem_or_eq_of_mem_set hu with h | h
              · exact HSB.out u h
              · rw [h]; exact bits_byt _ _
            have B7 : Hid (Below w5.heap.size w5 w7) := by show Below _ _ _; rw [← HW7.out]; exact B6.out.setCell HGB.out _
            have HC7 : Hid (Bs w7 (some ⟨g6, 0, none⟩) c6 M) := by
              have hrow : w7.ownsRow wr.heap.size 5 1 (.slice (some ⟨g6, 0, none⟩) 34 c6) 34 (U8s M) := by
                refine ⟨by simp [U8s, HML.out], Or.inr ⟨g6, c6, cur.setIfInBounds i (.int .u8 (bits .xor .u8 y 2)), rfl, HGW.out, ?_, HSZ.out.1, HMX.out, by simpa using HSZ.out.2, ?_⟩⟩
                · rw [← HW7.out, heap_setCell_same w6 g6 i _ _ _ HH3.out]
                · have h := HTK.out
                  rw [← HM.out]
                  simp only [Array.toList_setIfInBounds, List.take_set]
                  rw [h]
                  simp [U8s, List.map_set]
              exact bs_own hrow HMB.out
            rw [HW7.out]
            clear HW7 HM HO6 HH3 HSZ HMX HTK HGW B6 L6 c0 f0 hy
            have hl1 : (S34.take i).length = i := by rw [List.length_take, s34_len]; omega
            have hl2 : (S34.drop i).length = 34 - i := by rw [List.length_drop, s34_len]
            have DA : ∀ z, Below w5.heap.size w5 z → Below w5.heap.size w5 (z.alloc lit7) := fun z hz => hz.alloc hz.size _
            go_wp2_with (first
              | (go_at_call 5; refine (forged_at L4 4 rfl 1 2 [7] 1 rfl (S34.drop i) _ hl2 _ _ _ 4 1 _ (by unfold Nm.In64; decide) (by unfold Nm.In64; decide) _ (HFR.out _ (DA _ B9.out)) (bs7 w9) ((HS.out _ (DA _ B9.out)).dropk (by rw [s34_len]; exact hlt))).mono ?_; rintro e10 w10 ⟨rfl, hb10⟩; have B10 : Hid (Below w5.heap.size w5 w10) := (DA _ B9.out).trans (hb10.mono (DA _ B9.out).size); clear hb10)
              | (go_at_call 5; refine (forged_at L4 4 rfl 1 2 [7] 1 rfl (S34.take i) _ hl1 _ _ _ 4 1 _ (by unfold Nm.In64; decide) (by unfold Nm.In64; decide) _ (HFR.out _ (DA _ B8.out)) (bs7 w8) ((HS.out _ (DA _ B8.out)).take i)).mono ?_; rintro e9 w9 ⟨rfl, hb9⟩; have B9 : Hid (Below w5.heap.size w5 w9) := (DA _ B8.out).trans (hb9.mono (DA _ B8.out).size); clear hb9)
              | (go_at_call 5; refine (forged_at L4 4 rfl 1 2 [7] 1 rfl M _ HML.out _ _ _ 4 1 _ (by unfold Nm.In64; decide) (by unfold Nm.In64; decide) _ (HFR.out _ (DA _ B7.out)) (bs7 w7) (HC7.out.old ((Below.refl _ _).alloc (Nat.le_refl _) _))).mono ?_; rintro e8 w8 ⟨rfl, hb8⟩; have B8 : Hid (Below w5.heap.size w5 w8) := (DA _ B7.out).trans (hb8.mono (DA _ B7.out).size); clear hb8))
            exact ⟨⟨i + 1, by omega, by go_num, B10.out⟩, by simp [intOf]; omega⟩
        · obtain rfl : i = 34 := by omega
          clear hlt
          have DA : ∀ z, Below w5.heap.size w5 z → Below w5.heap.size w5 (z.alloc lit7) := fun z hz => hz.alloc hz.size _
          go_wp2_with (first
            | (go_at_call 5; refine (forged_at L4 4 rfl 1 3 [7] 1 rfl S34 _ s34_len _ _ _ 4 1 _ (by unfold Nm.In64; decide) (by unfold Nm.In64; decide) _ (HFR.out _ (DA _ B9.out)) (bs7 w9) (HS.out _ (DA _ B9.out))).mono ?_; rintro e10 w10 ⟨rfl, hb10⟩; have B10 : Hid (Below w5.heap.size w5 w10) := (DA _ B9.out).trans (hb10.mono (DA _ B9.out).size); clear hb10)
            | (go_at_call 5; refine (forged_at L4 4 rfl 1 2 [7] 1 rfl S34 _ s34_len _ _ _ 4 1 _ (by unfold Nm.In64; decide) (by unfold Nm.In64; decide) _ (HFR.out _ (DA _ B8.out)) (bs7 w8) (HS.out _ (DA _ B8.out))).mono ?_; rintro e9 w9 ⟨rfl, hb9⟩; have B9 : Hid (Below w5.heap.size w5 w9) := (DA _ B8.out).trans (hb9.mono (DA _ B8.out).size); clear hb9)
            | (go_at_call 4; refine (back_any L4 _ 4 _ (HFR.out _ HB.out)).mono ?_; rintro e8 w8 ⟨rfl, hb8⟩; have B8 : Hid (Below w5.heap.size w5 w8) := HB.out.trans (hb8.mono HB.out.size); clear hb8)
            | (go_at_call 6; have hr7 := r7_rows w10 _ rfl; refine (apart_any R7 _ 7 _ hr7.1).mono ?_; rintro e11 w11 ⟨rfl, hb11⟩; have B11 : Hid (Below w5.heap.size w5 w11) := B10.out.trans ((hr7.2.trans (hb11.mono hr7.2.size)).mono B10.out.size); clear hr7 hb11)
            | (go_at_call 10; refine (works_any _).mono ?_; rintro e12 w12 ⟨rfl, hb12⟩; have B12 : Hid (Below w5.heap.size w5 w12) := B11.out.trans (hb12.mono B11.out.size); clear hb12))
          go_ret
          exact ⟨rfl, B5.out.trans (B12.out.mono B5.out.size)⟩
end Go.Proofs.Ytdmnlooghamngaa

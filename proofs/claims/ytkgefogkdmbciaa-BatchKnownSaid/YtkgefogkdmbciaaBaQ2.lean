/-
  Contract: rillref12.Put.
-/
import Derived.Test.YtkgefogkdmbciaaBaQ1
namespace Go.Proofs.Ytkgefogkdmbciaa
open Go.RowKit

set_option maxHeartbeats 1000000 in
set_option maxRecDepth 100000 in
theorem refput_no (t n : Int) (P : List Int) (p : Option Addr) (m c : Nat) (L : List Bt.En) (hm : L.length = m) (w : World) (h : Sv w P p c L) (r : Int) (hr : Bt.ck t n L = r) (h0 : r ≠ 0) :
    Calls Try.prog 13 #[.agg (SmA t P n (.slice p m c))] w (PutNo r w) := by
  have HCK : Hid (∀ z, Below w.heap.size w z → Calls Try.prog 15 #[.agg (SmA t P n (.slice p m c))] z (InSay r z)) := fun z hz => by rw [← hr]; exact refcheck_any t n P p m c L hm z (h.old hz)
  have HXS : Hid ((SmA t P n (.slice p m c)).size = 35) := smA_size t n _ h.len
  have hsx := sm_info HXS.out
  have hb0 : (r == 0) = false := by simp [h0]
  clear h hr h0
  generalize SmA t P n (.slice p m c) = X at *
  have B0 : Hid (Below w.heap.size w (w.alloc (.cells X 26))) := (Below.refl _ w).alloc (Nat.le_refl _) _
  have G0 : Hid ((w.alloc (.cells X 26)).heap[w.heap.size]? = some (.cells X 26 (0, 0))) := heap_alloc_new w _
  go_enter Try.func13, Try.ntmps13
  go_upto_region 1 with (fail)
  change Code.wp _ _ _ _ (w.alloc (.cells X 26))
  obtain ⟨w0, hw0⟩ : ∃ y, y = w.alloc (.cells X 26) := ⟨_, rfl⟩
  rw [← hw0] at B0 G0 ⊢
  clear hw0
  go_wp2_with (first
    | ((with_reducible refine row_load _ _ _ _ _ _ _ ?_ G0.out Try.underlying26 ?_ (sm_info HXS.out) ?_); (exact rfl); (exact rfl))
    | (go_at_call 15; refine (HCK.out _ B0.out).mono ?_; rintro e1 w1 ⟨rfl, hb1⟩))
  refine bodyPost_ret (results_tmp2 rfl _ _ _) rfl ⟨rfl, B0.out.trans (hb1.mono B0.out.size)⟩
set_option maxHeartbeats 4000000 in
set_option maxRecDepth 100000 in
theorem refput_ok (t n : Int) (P : List Int) (p : Option Addr) (m c : Nat) (L : List Bt.En) (hm : L.length = m) (w : World) (h : Sv w P p c L) (hr : Bt.ck t n L = 0) :
    Calls Try.prog 13 #[.agg (SmA t P n (.slice p m c))] w (PutOk (Bt.ofS t P n L) (56 + 56 * m) w) := by
  have HCK : Hid (∀ z, Below w.heap.size w z → Calls Try.prog 15 #[.agg (SmA t P n (.slice p m c))] z (InSay 0 z)) := fun z hz => by rw [← hr]; exact refcheck_any t n P p m c L hm z (h.old hz)
  have hl16 : m ≤ 16 := by rw [← hm]; exact (Bt.ck_ok hr).1
  obtain ⟨A, hA, hA2, _⟩ := a32_agg P h.len
  have HX := Lib.hid (smx_of w.heap.size t n (.slice p m c) h.len hA)
  have HA2 := Lib.hid hA2
  have HXS : Hid ((SmA t P n (.slice p m c)).size = 35) := HX.out.size
  have hsx := sm_info HXS.out
  have HM := Lib.hid hm
  have HE : Hid (Es w p c L) := h.es
  have HI1 : Hid (∀ y, Calls Try.prog 32 #[.slice none 0 0, .int .i64 t] y (RowOf (Pk.e8 t 8) 8 y)) := fun y => by
    have h := refint_any [] t none 0 0 8 rfl rfl (by omega) y (bs_none y)
    rw [List.nil_append] at h
    exact h
  have HS1 : Hid (∀ y q d, Bs y q d (Pk.e8 t 8) → Calls Try.prog 33 #[.slice q 8 d, .agg A] y (RowOf (Pk.e8 t 8 ++ P) 40 y)) := fun y q d hy => by rw [← hA]; exact refsum_any _ P h.len h.byt q 8 d 40 (Pk.e8_len _ _) rfl (by omega) y hy
  have HI2 : Hid (∀ y q d, Bs y q d (Pk.e8 t 8 ++ P) → Calls Try.prog 32 #[.slice q 40 d, .int .i64 n] y (RowOf (Pk.e8 t 8 ++ P ++ Pk.e8 n 8) 48 y)) := fun y q d hy => refint_any _ n q 40 d 48 (by rw [List.length_append, Pk.e8_len, h.len]) rfl (by omega) y hy
  have HI3 : Hid (∀ y q d, Bs y q d (Pk.e8 t 8 ++ P ++ Pk.e8 n 8) → Calls Try.prog 32 #[.slice q 48 d, .int .i64 (m : Nat)] y (RowOf (Bt.hd t P n (L.length : Nat) ++ Bt.bo (L.take 0)) 56 y)) := fun y q d hy => by
    have h := refint_any _ (m : Nat) q 48 d 56 (by rw [List.length_append, List.length_append, Pk.e8_len, Pk.e8_len, h.len]) rfl (by omega) y hy
    have e : Pk.e8 t 8 ++ P ++ Pk.e8 n 8 ++ Pk.e8 (m : Nat) 8 = Bt.hd t P n (L.length : Nat) ++ Bt.bo (L.take 0) := by
      rw [hm, List.take_zero]
      unfold Bt.hd Bt.bo
      rw [List.append_nil]
    rw [e] at h
    exact h
  have HLP : Hid (∀ k, k ≤ m → (Bt.hd t P n (L.length : Nat) ++ Bt.bo (L.take k)).length = 56 + 56 * k) := fun k hk => by
    rw [List.length_append, Bt.hd_len t n _ h.len, Bt.bo_len (fun x hx => h.es.ok x (List.mem_of_mem_take hx)), List.length_take]
    omega
  have HEND : Hid (Bt.hd t P n (L.length : Nat) ++ Bt.bo (L.take m) = Bt.ofS t P n L) := by
    show _ = _
    unfold Bt.ofS
    rw [← hm, List.take_length]
  have HSN : Hid (∀ k, k < m → Bt.hd t P n (L.length : Nat) ++ Bt.bo (L.take k) ++ Pk.e8 (L.getD k Bt.en0).k 8 ++ Pk.e8 (L.getD k Bt.en0).b 8 ++ Pk.e8 (L.getD k Bt.en0).s 8 ++ (L.getD k Bt.en0).u = Bt.hd t P n (L.length : Nat) ++ Bt.bo (L.take (k + 1))) := fun k hk => by
    rw [Bt.bo_snoc L k (by omega)]
    unfold Bt.eb
    simp only [List.append_assoc]
  have HRES : Hid (∀ e w', PutOk (Bt.hd t P n (L.length : Nat) ++ Bt.bo (L.take m)) (56 + 56 * m) w e w' → PutOk (Bt.ofS t P n L) (56 + 56 * m) w e w') := fun e w' h => by rw [HEND.out] at h; exact h
  generalize Bt.hd t P n (L.length : Nat) = H0 at *
  generalize SmA t P n (.slice p m c) = X at *
  clear h hr hA hA2 hm HEND
  have B0 : Hid (Below w.heap.size w (w.alloc (.cells X 26))) := (Below.refl _ w).alloc (Nat.le_refl _) _
  have G0 : Hid ((w.alloc (.cells X 26)).heap[w.heap.size]? = some (.cells X 26 (0, 0))) := heap_alloc_new w _
  refine Calls.mono ?_ (fun e w' h => HRES.out e w' h)
  go_enter Try.func13, Try.ntmps13
  go_upto_region 1 with (fail)
  change Code.wp _ _ _ _ (w.alloc (.cells X 26))
  obtain ⟨w0, hw0⟩ : ∃ y, y = w.alloc (.cells X 26) := ⟨_, rfl⟩
  rw [← hw0] at B0 G0 ⊢
  clear hw0
  go_upto_region 4 with (first
    | ((with_reducible refine row_load _ _ _ _ _ _ _ ?_ G0.out Try.underlying26 ?_ (sm_info HXS.out) ?_); (exact rfl); (exact rfl))
    | (go_at_call 15; refine (HCK.out _ B0.out).mono ?_; rintro e1 w1 ⟨rfl, hb1⟩))
  have B1 : Hid (Below w.heap.size w w1) := B0.out.trans (hb1.mono B0.out.size)
  have G1 : Hid (w1.heap[w.heap.size]? = some (.cells X 26 (0, 0))) := (hb1.block _ (lt_of_block G0.out)).trans G0.out
  clear hb1 G0 B0 HCK
  obtain ⟨c0, c33, c34, r1⟩ := HX.out.at_ _ G1.out
  have T1 := Lib.hid True.intro
  clear c0 c33 c34 r1
  have HAT := Lib.hid HX.out.at_
  have c0 := (HAT.out _ G1.out).1
  go_upto_region 5 with (go_at_call 32; refine (HI1.out _).mono ?_; rintro e2 w2 ⟨p2, c2, rfl, HO2, HB2, HL2⟩; have B2 : Hid (Below w.heap.size w w2) := B1.out.trans (HL2.out.mono B1.out.size); have G2 : Hid (w2.heap[w.heap.size]? = some (.cells X 26 (0, 0))) := (HL2.out.block _ (lt_of_block G1.out)).trans G1.out)
  have r1 := Lib.hid (HAT.out _ G2.out).2.2.2
  clear c0 G1 B1 HL2 HO2
  go_upto_region 6 with (first
    | ((with_reducible refine rng_load _ _ _ _ _ _ ?_ r1.out Try.underlying23 ?_ (row_size Try.sizeSum HA2) ?_); (exact rfl); (exact rfl))
    | (go_at_call 33; refine (HS1.out _ _ _ HB2.out).mono ?_; rintro e3 w3 ⟨p3, c3, rfl, HO3, HB3, HL3⟩; have B3 : Hid (Below w.heap.size w w3) := B2.out.trans (HL3.out.mono B2.out.size); have G3 : Hid (w3.heap[w.heap.size]? = some (.cells X 26 (0, 0))) := (HL3.out.block _ (lt_of_block G2.out)).trans G2.out))
  have c33 := (HAT.out _ G3.out).2.1
  clear r1 G2 B2 HL3 HO3 HB2
  go_upto_region 7 with (go_at_call 32; refine (HI2.out _ _ _ HB3.out).mono ?_; rintro e4 w4 ⟨p4, c4, rfl, HO4, HB4, HL4⟩; have B4 : Hid (Below w.heap.size w w4) := B3.out.trans (HL4.out.mono B3.out.size); have G4 : Hid (w4.heap[w.heap.size]? = some (.cells X 26 (0, 0))) := (HL4.out.block _ (lt_of_block G3.out)).trans G3.out)
  have c34 := (HAT.out _ G4.out).2.2.1
  clear c33 G3 B3 HL4 HO4 HB3
  go_upto_region 8 with (go_at_call 32; refine (HI3.out _ _ _ HB4.out).mono ?_; rintro e5 w5 ⟨p5, c5, rfl, HO5, HB5, HL5⟩; have B5 : Hid (Below w.heap.size w w5) := B4.out.trans (HL5.out.mono B4.out.size); have G5 : Hid (w5.heap[w.heap.size]? = some (.cells X 26 (0, 0))) := (HL5.out.block _ (lt_of_block G4.out)).trans G4.out)
  have HOX : Hid (w5.ownsRow w.heap.size 5 1 (.slice p5 56 c5) 56 (U8s (H0 ++ Bt.bo (L.take 0)))) := own_base HO5.out B4.out.size
  have HE5 : Hid (Es w5 p c L) := HE.out.old B5.out
  clear G4 B4 HL5 HO5 HB4 HI1 HS1 HI2 HI3 HE c34 T1
  go_wp2
  go_loopw [5, 6] (fun v5 v6 wr => ∃ (k : Nat) (q : Option Addr) (d N : Nat), k ≤ m ∧ v6 = .int .i64 k ∧ N = 56 + 56 * k ∧ v5 = .slice q N d ∧ Hid (wr.ownsRow w.heap.size 5 1 (.slice q N d) N (U8s (H0 ++ Bt.bo (L.take k)))) ∧ Hid (Bs wr q d (H0 ++ Bt.bo (L.take k))) ∧ Hid (Below w.heap.size w wr) ∧ Hid (Below w5.heap.size w5 wr)) (fun _ v6 _ => m - (intOf v6).toNat)
  case atStart => exact ⟨0, p5, c5, 56, by omega, rfl, rfl, rfl, HOX.out, HB5.out, B5.out, Below.refl _ _⟩
  case round =>
    clear HOX HB5 B5
    obtain ⟨k, q, d, N, hk, rfl, hN, rfl, HO, HB, HL, HK⟩ := hrel
    have c34 := (HAT.out _ ((HK.out.block _ (lt_of_block G5.out)).trans G5.out)).2.2.1
    by_cases hlt : k < m
    · obtain ⟨ab, ao, hpp, _⟩ := HE5.out.at_ (by rw [HM.out]; omega)
      subst hpp
      have HEr : Hid (Es wr (some ⟨ab, ao, none⟩) c L) := HE5.out.old HK.out
      have HRG : Hid (wr.rangeAt ab (ao + k * 35) (EnA (L.getD k Bt.en0)).toList) := HEr.out.rng (by rw [HM.out]; exact hlt)
      have HOK : Hid ((L.getD k Bt.en0).ok) := HE5.out.getD k
      have HLN := Lib.hid (HLP.out k hk)
      have HSK := Lib.hid (HSN.out k hlt)
      generalize L.getD k Bt.en0 = x at *
      have HXI : Hid ((Try.prog.info? 50).map (·.size) = some (EnA x).size) := en_info HOK.out
      have HXS2 : Hid ((EnA x).size = 35) := enA_size HOK.out
      have HX1 : Hid ((EnA x).all (·.oneCell') = true) := enA_one x
      obtain ⟨U, hU, hU2, _⟩ := a32_agg x.u HOK.out.2.2.2.1
      have HU := Lib.hid hU
      have HU2 := Lib.hid hU2
      have hi0 : 0 ≤ (k : Int) := by omega
      have hi1 : (k : Int) < (m : Int) := by omega
      have HNL : Hid (N ≤ 1000) := by show _ ≤ _; omega
      rw [← hN] at HLN
      have HNN := Lib.hid hN
      clear hU hU2 HEr hN
      obtain ⟨N1, hN1⟩ : ∃ N1, N + 8 = N1 := ⟨_, rfl⟩
      obtain ⟨N2, hN2⟩ : ∃ N2, N1 + 8 = N2 := ⟨_, rfl⟩
      obtain ⟨N3, hN3⟩ : ∃ N3, N2 + 8 = N3 := ⟨_, rfl⟩
      obtain ⟨N4, hN4⟩ : ∃ N4, N3 + 32 = N4 := ⟨_, rfl⟩
      generalize H0 ++ Bt.bo (L.take k) = Q0 at *
      have HJ1 : Hid (∀ y q d, Bs y q d Q0 → Calls Try.prog 32 #[.slice q N d, .int .i64 x.k] y (RowOf (Q0 ++ Pk.e8 x.k 8) N1 y)) := fun y q d hy => refint_any Q0 x.k q N d N1 HLN.out hN1 (by have := HNL.out; omega) y hy
      have HJ2 : Hid (∀ y q d, Bs y q d (Q0 ++ Pk.e8 x.k 8) → Calls Try.prog 32 #[.slice q N1 d, .int .i64 x.b] y (RowOf (Q0 ++ Pk.e8 x.k 8 ++ Pk.e8 x.b 8) N2 y)) := fun y q d hy => refint_any _ x.b q N1 d N2 (by rw [List.length_append, Pk.e8_len, HLN.out, hN1]) hN2 (by have := HNL.out; omega) y hy
      have HJ3 : Hid (∀ y q d, Bs y q d (Q0 ++ Pk.e8 x.k 8 ++ Pk.e8 x.b 8) → Calls Try.prog 32 #[.slice q N2 d, .int .i64 x.s] y (RowOf (Q0 ++ Pk.e8 x.k 8 ++ Pk.e8 x.b 8 ++ Pk.e8 x.s 8) N3 y)) := fun y q d hy => refint_any _ x.s q N2 d N3 (by rw [List.length_append, List.length_append, Pk.e8_len, Pk.e8_len, HLN.out]; omega) hN3 (by have := HNL.out; omega) y hy
      have HJ4 : Hid (∀ y q d, Bs y q d (Q0 ++ Pk.e8 x.k 8 ++ Pk.e8 x.b 8 ++ Pk.e8 x.s 8) → Calls Try.prog 33 #[.slice q N3 d, .agg U] y (RowOf (H0 ++ Bt.bo (L.take (k + 1))) N4 y)) := fun y q d hy => by
        have h := refsum_any _ x.u HOK.out.2.2.2.1 HOK.out.2.2.2.2 q N3 d N4 (by rw [List.length_append, List.length_append, List.length_append, Pk.e8_len, Pk.e8_len, Pk.e8_len, HLN.out]; omega) hN4 (by have := HNL.out; omega) y hy
        rw [HSK.out, HU.out] at h
        exact h
      have HNE : Hid (N4 = 56 + 56 * (k + 1)) := by have := HNN.out; show _ = _; omega
      clear hN1 hN2 hN3 hN4 HSK HLN HNL HNN HSN HLP
      go_upto_region 12 with (first
        | ((with_reducible refine rng_load _ _ _ _ _ _ ?_ HRG.out Try.underlying50 ?_ HXI.out ?_); (exact rfl); (exact rfl))
        | ((with_reducible refine row_store _ _ _ _ _ _ _ ?_ ?_ (heap_alloc_new _ _) HXI.out ?_ HX1.out ?_); (exact rfl); (exact rfl); (rw [HXS2.out]; rfl); intro w6 G6 ch6))
      have K6 : Hid (Below wr.heap.size wr w6) := ch6.below ((Below.refl _ wr).alloc (Nat.le_refl _) _) (Nat.le_refl _)
      have Q6 : Hid (Bs w6 q d Q0) := HB.out.old K6.out
      have d0 := (en_at (box_rng G6.out)).ck
      clear ch6
      go_upto_region 13 with (go_at_call 32; refine (HJ1.out _ _ _ Q6.out).mono ?_; rintro e7 w7 ⟨p7, c7, rfl, HO7, HB7, HL7⟩; have K7 : Hid (Below wr.heap.size wr w7) := K6.out.trans (HL7.out.mono K6.out.size); have E7 : Hid (w7.heap[wr.heap.size]? = some (.cells (EnA x) 50 (0, 0))) := (HL7.out.block _ (lt_of_block G6.out)).trans G6.out)
      have d1 := (en_at (box_rng E7.out)).cb
      rw [Nat.zero_add] at d1
      clear d0 HO7
      go_upto_region 14 with (go_at_call 32; refine (HJ2.out _ _ _ HB7.out).mono ?_; rintro e8 w8 ⟨p8, c8, rfl, HO8, HB8, HL8⟩; have K8 : Hid (Below wr.heap.size wr w8) := K7.out.trans (HL8.out.mono K7.out.size); have E8 : Hid (w8.heap[wr.heap.size]? = some (.cells (EnA x) 50 (0, 0))) := (HL8.out.block _ (lt_of_block E7.out)).trans E7.out)
      have d2 := (en_at (box_rng E8.out)).cs
      rw [Nat.zero_add] at d2
      clear d1 HO8
      go_upto_region 15 with (go_at_call 32; refine (HJ3.out _ _ _ HB8.out).mono ?_; rintro e9 w9 ⟨p9, c9, rfl, HO9, HB9, HL9⟩; have K9 : Hid (Below wr.heap.size wr w9) := K8.out.trans (HL9.out.mono K8.out.size); have E9 : Hid (w9.heap[wr.heap.size]? = some (.cells (EnA x) 50 (0, 0))) := (HL9.out.block _ (lt_of_block E8.out)).trans E8.out)
      have RU : Hid (w9.rangeAt wr.heap.size 3 U.toList) := by have h := (en_at (box_rng E9.out)).cu U HU.out; rw [Nat.zero_add] at h; exact h
      clear d2 HO9
      go_wp2_with (first
        | ((with_reducible refine rng_load _ _ _ _ _ _ ?_ RU.out Try.underlying23 ?_ (row_size Try.sizeSum HU2) ?_); (exact rfl); (exact rfl))
        | (go_at_call 33; refine (HJ4.out _ _ _ HB9.out).mono ?_; rintro e10 w10 ⟨p10, c10, rfl, HO10, HB10, HL10⟩))
      have K10 : Hid (Below wr.heap.size wr w10) := K9.out.trans (HL10.out.mono K9.out.size)
      exact ⟨⟨k + 1, p10, c10, N4, by omega, by go_num, HNE.out, rfl, own_base HO10.out (HL.out.trans (K9.out.mono HL.out.size)).size, HB10.out, HL.out.trans (K10.out.mono HL.out.size), HK.out.trans (K10.out.mono HK.out.size)⟩, by simp [intOf]; omega⟩
    · obtain rfl : k = m := by omega
      subst hN
      clear hlt HLP HSN
      go_wp2
      refine bodyPost_ret (results_tmp2 rfl _ _ _) rfl ⟨q, d, rfl, HO.out, HB.out, HL.out⟩
end Go.Proofs.Ytkgefogkdmbciaa

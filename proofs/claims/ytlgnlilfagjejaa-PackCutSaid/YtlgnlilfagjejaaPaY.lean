/-
  PackCut: the law walked.
-/
import Derived.Test.YtlgnlilfagjejaaPaY0
import Derived.Lib.MinMax
namespace Go.Proofs.Ytlgnlilfagjejaa
open Go.RowKit

set_option maxHeartbeats 16000000 in
set_option maxRecDepth 100000 in
theorem cut_any (l : Nat → Pk.Th) (tp : Option Addr) (M d : Nat) (cv : Int) (w : World) (ht : TRows w tp M l) (hMd : M ≤ d ∧ d ≤ 9223372036854775807) :
    Calls Try.prog 8 #[.slice tp M d, .int .i64 cv] w (YesSay w) := by
  have HOK := Lib.hid ht.1
  have HTH : Hid (∀ tb tf, tp = some ⟨tb, tf, none⟩ → ∀ k, k < M → ∀ y, Below w.heap.size w y → ThAt y tb (tf + k * 35) (l k)) := fun tb tf e k hk y hy => by
    obtain ⟨tb', tf', e', _, h⟩ := ht.2 (by omega)
    rw [e'] at e
    cases e
    exact th_at (rng_old (h k hk) hy)
  have HTP : Hid (0 < M → ∃ tb tf, tp = some ⟨tb, tf, none⟩) := fun h0 => by
    obtain ⟨tb, tf, e, _⟩ := ht.2 h0
    exact ⟨tb, tf, e⟩
  have HK : Hid (∀ y, Calls Try.prog 9 #[] y (YesSay y)) := fun y => known_any y
  have HPK : Hid (∀ (x : Pk.Th) (y : World), Calls Try.prog 22 #[.int .i64 x.k, .int .i64 3] y fun r w' => w' = y ∧ r = .returned (.int .i64 (Pk.kd x : Nat))) := fun x y => by
    unfold Pk.kd
    exact pick_at x.k 3 (by omega) (by omega) y
  have HLE : Hid (∀ k, k ≤ 40 → (Pk.pt l k).length ≤ 40 * 40) := fun k hk => by
    have h := Pk.pt_le HOK.out k
    omega
  obtain ⟨i0, hi, hz0, hz1, hz2⟩ := info_parts Try.info_i64
  obtain ⟨N, hN⟩ : ∃ N, N = min M 40 := ⟨_, rfl⟩
  have hmin : min (M : Int) 40 = (N : Int) := by omega
  have hNM : N ≤ M := by omega
  have hN6 : N ≤ 40 := by omega
  have hs1 : (N : Int) ≤ (d : Int) := by omega
  have HPC : Hid (∀ (m : Nat) (y : World), m ≤ 100000 → Calls Try.prog 22 #[.int .i64 cv, .int .i64 ((m : Int) + 1)] y fun r w' => w' = y ∧ ∃ j : Nat, j ≤ m ∧ r = .returned (.int .i64 (j : Nat))) := fun m y hm =>
    (pick_at cv ((m : Int) + 1) (by omega) (by omega) y).mono fun _ _ h => ⟨h.1, pk cv ((m : Int) + 1), by have := pk_lt cv ((m : Int) + 1) (by omega); omega, h.2⟩
  clear hN ht
  go_enter Try.func8, Try.ntmps8
  go_wp2
  go_loopw [5, 6, 7] (fun u5 u6 u7 wr => ∃ k p c m, k ≤ N ∧ u7 = .int .i64 (k : Nat) ∧ u5 = .slice p m c ∧ Hid ((Pk.pt l k).length = m) ∧ Hid (wr.ownsRow w.heap.size 5 1 (.slice p m c) m (U8s (Pk.pt l k))) ∧ Hid (wr.ownsRow w.heap.size 3 1 u6 k (Pk.es l k)) ∧ Hid (Below w.heap.size w wr)) (fun _ _ u7 _ => N - (intOf u7).toNat)
  case atStart => exact ⟨0, none, 0, 0, by omega, rfl, rfl, by show _ = _; rw [Pk.pt_zero]; rfl, by show World.ownsRow _ _ _ _ _ _ _; rw [Pk.pt_zero]; unfold U8s; exact World.ownsRow_nil _ _ _ _, by show World.ownsRow _ _ _ _ _ _ _; rw [Pk.es_zero]; exact World.ownsRow_nil _ _ _ _, Below.refl _ _⟩
  case round =>
    obtain ⟨k, p, c, m, hk, rfl, rfl, HM, HOB, HOE, HW⟩ := hrel
    have HB := Lib.hid (bs_of_own HOB.out (Pk.pt_byt HOK.out k))
    have hmm := HLE.out k (by omega)
    rw [HM.out] at hmm
    by_cases hlt : k < N
    · obtain ⟨tb, tf, htp⟩ := HTP.out (by omega)
      subst htp
      have HTA := Lib.hid (HTH.out tb tf rfl k (by omega))
      have HXO := Lib.hid (HOK.out k)
      have HPS := Lib.hid (Pk.pt_succ l k)
      have HPL := Lib.hid (Pk.pt_len HOK.out k)
      have HES := Lib.hid (Pk.es_succ l k)
      have HPB := Lib.hid (Pk.pt_byt HOK.out (k + 1))
      obtain ⟨x, hx⟩ : ∃ x, l k = x := ⟨_, rfl⟩
      rw [hx] at HTA HXO HPS HPL
      obtain ⟨P1, hP1⟩ : ∃ P1, Pk.pt l (k + 1) = P1 := ⟨_, rfl⟩
      rw [hP1] at HPS HPL HES HPB
      have hi0 : (0 : Int) ≤ (k : Int) := by omega
      have hi1 : (k : Int) < (N : Int) := by omega
      have HPX := Lib.hid (HPK.out x)
      have c0 := (HTA.out _ HW.out).ck
      go_upto_region 9 with (go_at_call 22; refine (HPX.out _).mono ?_; rintro e6 w6 ⟨rfl, rfl⟩)
      have hj := Pk.kd_lt x
      obtain hj0 | hj1 | hj2 : Pk.kd x = 0 ∨ Pk.kd x = 1 ∨ Pk.kd x = 2 := by omega
      · obtain ⟨m7, hm7⟩ : ∃ m7, m + 8 = m7 := ⟨_, rfl⟩
        have HZ : Hid (Pk.sz x = 8) := by show _ = _; unfold Pk.sz; rw [if_pos hj0]
        have HBT : Hid (Pk.bts x = Pk.e8 x.n 8) := by show _ = _; unfold Pk.bts; rw [if_pos hj0]
        have c1 := (HTA.out _ HW.out).cn
        have HC : Hid (Calls Try.prog 11 #[.slice p m c, .int .i64 x.n] w6 (RowOf P1 m7 w6)) := by rw [← HPS.out, HBT.out]; exact int_any (Pk.pt l k) x.n p m c m7 HM.out hm7 (by omega) w6 HB.out
        rw [HZ.out, HM.out, hm7] at HPL
        rw [HPL.out] at HES
        have hm8 : m7 ≤ 100000 := by omega
        clear HBT HZ HPS HXO HPX HTA
        rw [hj0]
        go_wp2_with (first
          | (at_builtin; refine wpList_append_own _ rfl _ _ 35 rfl w.heap.size 3 i0 (.int .i64 0) 1 8 Try.underlying35 hi hz0 hz1 hz2 rfl (by decide) _ _ _ rfl (E7.out.alloc _) ⟨w7.heap.size, 0, none⟩ 1 1 [.int .i64 (m7 : Nat)] rfl rfl (int_cell _ _ _) (int_one _) (by unfold maxLen; omega) (by omega) (by have := W7.out.size; simp; omega) ?_)
          | (go_at_call 11; refine HC.out.mono ?_; rintro e7 w7 ⟨p7, c7, rfl, HO7, HB7, HL7⟩; have W7 : Hid (Below w.heap.size w w7) := HW.out.trans (HL7.out.mono HW.out.size); have E7 := Lib.hid (own_keepX HOE.out HL7.out); have O7 := Lib.hid (own_base HO7.out HW.out.size)))
        intro v' w1 hown' hgrow _
        have hb1 := below_own W7.out W7.out.size E7.out hgrow
        have hob := own_u8_grown O7.out E7.out (by decide) hgrow
        rw [HES.out] at hown'
        have HOE' := Lib.hid hown'
        have HOB' := Lib.hid hob
        have HW' := Lib.hid hb1
        clear hgrow hown' hob hb1 O7 E7 W7 HB HOE HOB HO7 HB7 HL7
        go_wp2
        exact ⟨⟨k + 1, p7, c7, m7, by omega, by go_num, rfl, by rw [hP1]; exact HPL.out, by rw [hP1]; exact HOB'.out, HOE'.out, HW'.out⟩, by simp [intOf]; omega⟩
      · obtain ⟨m7, hm7⟩ : ∃ m7, m + 32 = m7 := ⟨_, rfl⟩
        have HZ : Hid (Pk.sz x = 32) := by show _ = _; unfold Pk.sz; rw [if_neg (by omega), if_pos hj1]
        have HBT : Hid (Pk.bts x = x.s) := by show _ = _; unfold Pk.bts; rw [if_neg (by omega), if_pos hj1]
        obtain ⟨A, HA, HA2, _⟩ : ∃ A : Array Value, Hid (A32 x.s = .agg A) ∧ Hid (A.size = 32) ∧ _ := a32_agg x.s HXO.out.2.2.1
        have HAA : Hid (A = (x.s.map (Value.int .u8)).toArray) := by have h := HA.out; unfold A32 at h; cases h; rfl
        have c1 := (HTA.out _ HW.out).cs A HAA.out
        have HC : Hid (Calls Try.prog 12 #[.slice p m c, .agg A] w6 (RowOf P1 m7 w6)) := by rw [← HPS.out, HBT.out, ← HA.out]; exact sum_any (Pk.pt l k) x.s HXO.out.2.2.1 HXO.out.2.2.2 p m c m7 HM.out hm7 (by omega) w6 HB.out
        rw [HZ.out, HM.out, hm7] at HPL
        rw [HPL.out] at HES
        have hm8 : m7 ≤ 100000 := by omega
        clear HBT HZ HPS HXO HPX HTA
        rw [hj1]
        go_wp2_with (first
          | (at_builtin; refine wpList_append_own _ rfl _ _ 35 rfl w.heap.size 3 i0 (.int .i64 0) 1 8 Try.underlying35 hi hz0 hz1 hz2 rfl (by decide) _ _ _ rfl (E7.out.alloc _) ⟨w7.heap.size, 0, none⟩ 1 1 [.int .i64 (m7 : Nat)] rfl rfl (int_cell _ _ _) (int_one _) (by unfold maxLen; omega) (by omega) (by have := W7.out.size; simp; omega) ?_)
          | (go_at_call 12; refine HC.out.mono ?_; rintro e7 w7 ⟨p7, c7, rfl, HO7, HB7, HL7⟩; have W7 : Hid (Below w.heap.size w w7) := HW.out.trans (HL7.out.mono HW.out.size); have E7 := Lib.hid (own_keepX HOE.out HL7.out); have O7 := Lib.hid (own_base HO7.out HW.out.size))
          | ((with_reducible refine rng_load _ _ _ _ _ _ ?_ c1 Try.underlying24 ?_ (row_size Try.sizeSum HA2) ?_); (exact rfl); (exact rfl)))
        intro v' w1 hown' hgrow _
        have hb1 := below_own W7.out W7.out.size E7.out hgrow
        have hob := own_u8_grown O7.out E7.out (by decide) hgrow
        rw [HES.out] at hown'
        have HOE' := Lib.hid hown'
        have HOB' := Lib.hid hob
        have HW' := Lib.hid hb1
        clear hgrow hown' hob hb1 O7 E7 W7 HB HOE HOB HO7 HB7 HL7
        go_wp2
        exact ⟨⟨k + 1, p7, c7, m7, by omega, by go_num, rfl, by rw [hP1]; exact HPL.out, by rw [hP1]; exact HOB'.out, HOE'.out, HW'.out⟩, by simp [intOf]; omega⟩
      · obtain ⟨m7, hm7⟩ : ∃ m7, m + 40 = m7 := ⟨_, rfl⟩
        have HZ : Hid (Pk.sz x = 40) := by show _ = _; unfold Pk.sz; rw [if_neg (by omega), if_neg (by omega)]
        have HBT : Hid (Pk.bts x = Pk.ref (x.a, x.s)) := by show _ = _; unfold Pk.bts; rw [if_neg (by omega), if_neg (by omega)]
        obtain ⟨A, HA, HA2, _⟩ : ∃ A : Array Value, Hid (R33 (x.a, x.s) = .agg A) ∧ Hid (A.size = 33) ∧ _ := r33_agg (x.a, x.s) HXO.out.2.2.1
        have HAA : Hid (A = (Value.int .i64 x.a :: x.s.map (Value.int .u8)).toArray) := by have h := HA.out; unfold R33 at h; cases h; rfl
        have c1 := (HTA.out _ HW.out).cr A HAA.out
        have HC : Hid (Calls Try.prog 13 #[.slice p m c, .agg A] w6 (RowOf P1 m7 w6)) := by rw [← HPS.out, HBT.out, ← HA.out]; exact ref_any (Pk.pt l k) (x.a, x.s) HXO.out.2.2.1 HXO.out.2.2.2 p m c m7 HM.out hm7 (by omega) w6 HB.out
        rw [HZ.out, HM.out, hm7] at HPL
        rw [HPL.out] at HES
        have hm8 : m7 ≤ 100000 := by omega
        clear HBT HZ HPS HXO HPX HTA
        rw [hj2]
        go_wp2_with (first
          | (at_builtin; refine wpList_append_own _ rfl _ _ 35 rfl w.heap.size 3 i0 (.int .i64 0) 1 8 Try.underlying35 hi hz0 hz1 hz2 rfl (by decide) _ _ _ rfl (E7.out.alloc _) ⟨w7.heap.size, 0, none⟩ 1 1 [.int .i64 (m7 : Nat)] rfl rfl (int_cell _ _ _) (int_one _) (by unfold maxLen; omega) (by omega) (by have := W7.out.size; simp; omega) ?_)
          | (go_at_call 13; refine HC.out.mono ?_; rintro e7 w7 ⟨p7, c7, rfl, HO7, HB7, HL7⟩; have W7 : Hid (Below w.heap.size w w7) := HW.out.trans (HL7.out.mono HW.out.size); have E7 := Lib.hid (own_keepX HOE.out HL7.out); have O7 := Lib.hid (own_base HO7.out HW.out.size))
          | ((with_reducible refine rng_load _ _ _ _ _ _ ?_ c1 Try.underlying26 ?_ (row_size Try.sizeRef HA2) ?_); (exact rfl); (exact rfl)))
        intro v' w1 hown' hgrow _
        have hb1 := below_own W7.out W7.out.size E7.out hgrow
        have hob := own_u8_grown O7.out E7.out (by decide) hgrow
        rw [HES.out] at hown'
        have HOE' := Lib.hid hown'
        have HOB' := Lib.hid hob
        have HW' := Lib.hid hb1
        clear hgrow hown' hob hb1 O7 E7 W7 HB HOE HOB HO7 HB7 HL7
        go_wp2
        exact ⟨⟨k + 1, p7, c7, m7, by omega, by go_num, rfl, by rw [hP1]; exact HPL.out, by rw [hP1]; exact HOB'.out, HOE'.out, HW'.out⟩, by simp [intOf]; omega⟩
    · obtain rfl : N = k := by omega
      have hi1 : ¬ (N : Int) < (N : Int) := by omega
      have HLN : Hid ((Pk.pt l N).length = m) := HM.out
      have HPC1 := Lib.hid (HPC.out m)
      have HREAD : Hid (∀ q, q ≤ m → Calls Try.prog 20 #[.slice p q c] wr (NewSay ((Pk.pt l N).take q) wr)) := fun q hq => read_any ((Pk.pt l N).take q) p q c (by rw [List.length_take, HLN.out]; omega) (by omega) wr (HB.out.take q)
      have hcap : m ≤ c ∧ c ≤ 9223372036854775807 := by have h := HB.out.cap; rw [HM.out] at h; exact h
      have hm8 : m ≤ 100000 := by omega
      clear HM hmm HLE
      go_upto_region 15 with (go_at_call 22; refine (HPC1.out _ hm8).mono ?_; rintro e5 w5 ⟨rfl, q, hq, rfl⟩)
      have hqc : (q : Int) ≤ (c : Int) := by omega
      have HRD := Lib.hid (HREAD.out q hq)
      clear HREAD HPC HPC1
      go_upto_region 16 with (go_at_call 20; refine HRD.out.mono ?_; rintro e6 w6 ⟨g, D, rfl, R6, G6, L6⟩)
      have GG : Hid (w5.heap.size ≤ g) := G6.out.1
      have HTE := Lib.hid (fun k => Pk.cut_len l N k q (by rw [HLN.out]; exact hq))
      have HCT := Lib.hid (Pk.cut_step HOK.out N)
      have HMO := Lib.hid (Pk.pt_mono HOK.out)
      have HEA := Lib.hid (Pk.es_at l N)
      have R6' : Hid (RdAt w6 g D (((Pk.pt l N).take q).drop (Pk.pt l 0).length) false) := by
        rw [Pk.pt_zero]
        exact R6.out
      obtain ⟨X, hX⟩ : ∃ X, (Pk.pt l N).take q = X := ⟨_, rfl⟩
      have HCX : Hid (∀ k, k < N → (Pk.pt l (k + 1)).length ≤ q → X.drop (Pk.pt l k).length = Pk.bts (l k) ++ X.drop (Pk.pt l (k + 1)).length) := fun k h1 h2 => by rw [← hX]; exact HCT.out k q h1 h2
      have HLX : Hid (∀ k, (X.drop (Pk.pt l k).length).length = q - (Pk.pt l k).length) := fun k => by rw [← hX]; exact HTE.out k
      rw [hX] at R6'
      clear HTE HCT R6 G6 HRD HB hX hcap hqc
      go_wp2
      go_loopw [9] (fun u9 wr => ∃ k : Nat, k ≤ N ∧ u9 = .int .i64 k ∧ (Pk.pt l k).length ≤ q ∧ Hid (RdAt wr g D (X.drop (Pk.pt l k).length) false) ∧ Hid (Below w5.heap.size w5 wr)) (fun u9 _ => N - (intOf u9).toNat)
      case atStart => exact ⟨0, by omega, rfl, by rw [Pk.pt_zero]; simp, R6'.out, L6.out⟩
      case round =>
        clear R6' L6
        obtain ⟨k, hk, rfl, hkq, HR, HV⟩ := hrel
        by_cases hlt : k < N
        · obtain ⟨tb, tf, htp⟩ := HTP.out (by omega)
          subst htp
          have HTA0 := HTH.out tb tf rfl k (by omega)
          have HTA : Hid (∀ y, Below w5.heap.size w5 y → ThAt y tb (tf + k * 35) (l k)) := fun y hy => HTA0 y (HW.out.trans (hy.mono HW.out.size))
          obtain ⟨eb, ecap, rfl, hebl, hcell⟩ := own_at HOE.out (by omega)
          obtain ⟨Le, hLe⟩ : ∃ Le, (Pk.pt l (k + 1)).length = Le := ⟨_, rfl⟩
          have HEC : Hid (∀ y, Below w5.heap.size w5 y → y.cell? ⟨eb, k, none⟩ = some (.int .i64 (Le : Nat))) := fun y hy => by
            have h := HEA.out k hlt
            rw [hLe] at h
            exact (hy.cell hebl).trans (hcell k _ h)
          have HXO := Lib.hid (HOK.out k)
          have HSZ : Hid (Le = (Pk.pt l k).length + Pk.sz (l k)) := by show _ = _; rw [← hLe]; exact Pk.pt_len HOK.out k
          have HCK : Hid (Le ≤ q → X.drop (Pk.pt l k).length = Pk.bts (l k) ++ X.drop Le) := fun h => by have h2 := HCX.out k hlt (by rw [hLe]; exact h); rw [hLe] at h2; exact h2
          have HLY := Lib.hid (HLX.out k)
          obtain ⟨x, hx⟩ : ∃ x, l k = x := ⟨_, rfl⟩
          rw [hx] at HTA HXO HSZ HCK
          obtain ⟨Y, hY⟩ : ∃ Y, X.drop (Pk.pt l k).length = Y := ⟨_, rfl⟩
          rw [hY] at HR HCK HLY
          clear hcell HTA0 hebl
          have hi0 : (0 : Int) ≤ (k : Int) := by omega
          have hi1 : (k : Int) < (N : Int) := by omega
          have hi2 : (k : Int) < (M : Int) := by omega
          have HPX := Lib.hid (HPK.out x)
          have c0 := (HTA.out _ HV.out).ck
          go_upto_region 22 with (go_at_call 22; refine (HPX.out _).mono ?_; rintro e6 w7 ⟨rfl, rfl⟩)
          have hj := Pk.kd_lt x
          have HV1 : Hid (Below w5.heap.size w5 w7.drew) := HV.out.drew
          have R1 := Lib.hid HR.out.drew
          have hyl : Y.length ≤ 100000 := by have h := HLY.out; omega
          obtain hj0 | hj1 | hj2 : Pk.kd x = 0 ∨ Pk.kd x = 1 ∨ Pk.kd x = 2 := by omega
          · have HZ : Hid (Pk.sz x = 8) := by show _ = _; unfold Pk.sz; rw [if_pos hj0]
            rw [HZ.out] at HSZ
            rw [hj0]
            have HC0 : Hid (∀ y, RdAt y g D Y false → Calls Try.prog 25 #[.pointer (some ⟨g, 0, none⟩)] y (RdSay (.int .i64 (Pk.vi Y)) (Pk.nx 8 Y) (Pk.nb 8 Y false) g D y)) := fun y hy => rint_any Y false g D _ rfl (by omega) y hy
            obtain ⟨v0, hv0⟩ : ∃ v, Pk.vi Y = v := ⟨_, rfl⟩
            rw [hv0] at HC0
            by_cases hq2 : Le ≤ q
            · have hq1 : Le ≤ q := hq2
              have HYE := HCK.out hq1
              obtain ⟨e1, e2, e3⟩ := Pk.rd0 HXO.out hj0 (X.drop Le)
              rw [← HYE] at e1 e2 e3
              rw [e2, e3] at HC0
              rw [hv0] at e1
              subst e1
              have hqi : ¬ ((Le : Int) > (q : Int)) := by omega
              have C1 := Lib.hid (HTA.out _ HV1.out).cn
              clear c0 HPX HCK
              go_upto_region 23 with (fail)
              go_region_held3 (fun y => y.cell? ⟨tb, tf + k * 35 + 1, none⟩ = some (.int .i64 x.n)) (exact (Hid.out (by assumption)))
                ((go_at_call 25; refine (HC0.out _ R1.out).mono ?_; rintro e8 w8 ⟨rfl, R8, O8⟩; have V8 : Hid (Below w5.heap.size w5 w8) := O8.out.below HV1.out GG.out HV1.out.size; have C8 := Lib.hid (HTA.out _ V8.out).cn))
              have HBD : Hid (∀ y, RdAt y g D (X.drop Le) false → Calls Try.prog 33 #[.pointer (some ⟨g, 0, none⟩)] y (BadSay false y)) := fun y hy => bad_any (X.drop Le) false g D y hy
              go_upto_region 26 with (fail)
              refine wp_region_any (by kernel_rfl) ?_
              change wpAny _ _ _ _ _ _ _ (World.drew _)
              have R9 := Lib.hid R8.out.drew
              have V9 : Hid (Below w5.heap.size w5 w8.drew) := V8.out.drew
              clear R8 V8
              generalize w8.drew = z9 at *
              refine wpAny_of_held (S := fun y => y.cell? ⟨eb, k, none⟩ = some (.int .i64 (Le : Nat))) _ _ _ _ ?_
              have SD := Lib.hid (HEC.out _ V9.out)
              refine anyH_take 0 109 (.pointer (some ⟨g, 0, none⟩)) SD.out rfl (by kernel_rfl) (by kernel_rfl) (by kernel_rfl) (fun _ _ _ h => h) (by rfl) (by intro y hy; go_simp) ?_
              try simp only [Act.put, List.setIfInBounds_toArray, List.set_cons_zero, List.set_cons_succ]
              refine anyH_take 2 111 (.slice (some ⟨eb, 0, none⟩) N ecap) SD.out rfl (by kernel_rfl) (by kernel_rfl) (by kernel_rfl) (fun _ _ _ h => h) (by rfl) (by intro y hy; go_simp) ?_
              try simp only [Act.put, List.setIfInBounds_toArray, List.set_cons_zero, List.set_cons_succ]
              refine anyH_take 3 112 (.int .i64 (k : Int)) SD.out rfl (by kernel_rfl) (by kernel_rfl) (by kernel_rfl) (fun _ _ _ h => h) (by rfl) (by intro y hy; go_simp) ?_
              try simp only [Act.put, List.setIfInBounds_toArray, List.set_cons_zero, List.set_cons_succ]
              refine anyH_take 4 113 (.pointer (some ⟨eb, k, none⟩)) SD.out rfl (by kernel_rfl) (by kernel_rfl) (by kernel_rfl) (fun _ _ _ h => h) (by rfl) (by intro y hy; go_simp) ?_
              try simp only [Act.put, List.setIfInBounds_toArray, List.set_cons_zero, List.set_cons_succ]
              refine anyH_take 5 114 (.int .i64 (Le : Nat)) SD.out rfl (by kernel_rfl) (by kernel_rfl) (by kernel_rfl) (fun _ _ _ h => h) (by rfl) (by intro y hy; go_simp) ?_
              try simp only [Act.put, List.setIfInBounds_toArray, List.set_cons_zero, List.set_cons_succ]
              refine anyH_take 6 115 (.int .i64 (q : Nat)) SD.out rfl (by kernel_rfl) (by kernel_rfl) (by kernel_rfl) (fun _ _ _ h => h) (by rfl) (by intro y hy; go_simp) ?_
              try simp only [Act.put, List.setIfInBounds_toArray, List.set_cons_zero, List.set_cons_succ]
              refine anyH_take 7 116 (.bool false) SD.out rfl (by kernel_rfl) (by kernel_rfl) (by kernel_rfl) (fun _ _ _ h => h) (by rfl) (by intro y hy; go_simp) ?_
              try simp only [Act.put, List.setIfInBounds_toArray, List.set_cons_zero, List.set_cons_succ]
              refine anyH_one 1 (by kernel_rfl) ?_
              refine wpOp_step rfl (fun Kc hKc => ?_)
              go_simp
              refine (HBD.out _ R9.out).mono ?_
              rintro e10 z10 ⟨rfl, hb⟩
              have R10 := Lib.hid (R9.out.old hb)
              have V10 : Hid (Below w5.heap.size w5 z10) := V9.out.trans (hb.mono V9.out.size)
              have SD10 := Lib.hid (HEC.out _ V10.out)
              dsimp only
              refine hKc _ _ ⟨SD10.out, ?_⟩
              clear hKc Kc SD hb
              have SD := SD10
              try simp only [Act.put, List.setIfInBounds_toArray, List.set_cons_zero, List.set_cons_succ]
              refine anyH_take 8 117 (.bool false) SD.out rfl (by kernel_rfl) (by kernel_rfl) (by kernel_rfl) (fun _ _ _ h => h) (by rfl) (by intro y hy; go_simp) ?_
              try simp only [Act.put, List.setIfInBounds_toArray, List.set_cons_zero, List.set_cons_succ]
              refine anyH_take 9 118 (.bool false) SD.out rfl (by kernel_rfl) (by kernel_rfl) (by kernel_rfl) (fun _ _ _ h => h) (by rfl) (by intro y hy; go_simp) ?_
              try simp only [Act.put, List.setIfInBounds_toArray, List.set_cons_zero, List.set_cons_succ]
              refine anyH_take 10 119 (.pointer (some ⟨g, 0, none⟩)) SD.out rfl (by kernel_rfl) (by kernel_rfl) (by kernel_rfl) (fun _ _ _ h => h) (by rfl) (by intro y hy; go_simp) ?_
              try simp only [Act.put, List.setIfInBounds_toArray, List.set_cons_zero, List.set_cons_succ]
              refine anyH_one 11 (by kernel_rfl) ?_
              refine wpOp_step rfl (fun Kc hKc => ?_)
              go_simp
              refine (HBD.out _ R10.out).mono ?_
              rintro e11 z11 ⟨rfl, hb⟩
              have R11 := Lib.hid (R10.out.old hb)
              have V11 : Hid (Below w5.heap.size w5 z11) := V10.out.trans (hb.mono V10.out.size)
              have SD11 := Lib.hid (HEC.out _ V11.out)
              dsimp only
              refine hKc _ _ ⟨SD11.out, ?_⟩
              clear hKc Kc SD hb
              have SD := SD11
              try simp only [Act.put, List.setIfInBounds_toArray, List.set_cons_zero, List.set_cons_succ]
              refine anyH_take 12 121 (.bool true) SD.out rfl (by kernel_rfl) (by kernel_rfl) (by kernel_rfl) (fun _ _ _ h => h) (by rfl) (by intro y hy; go_simp) ?_
              try simp only [Act.put, List.setIfInBounds_toArray, List.set_cons_zero, List.set_cons_succ]
              refine anyH_take 13 122 (.bool true) SD.out rfl (by kernel_rfl) (by kernel_rfl) (by kernel_rfl) (fun _ _ _ h => h) (by rfl) (by intro y hy; go_simp) ?_
              try simp only [Act.put, List.setIfInBounds_toArray, List.set_cons_zero, List.set_cons_succ]
              refine anyH_take 14 123 (.bool true) SD.out rfl (by kernel_rfl) (by kernel_rfl) (by kernel_rfl) (fun _ _ _ h => h) (by rfl) (by intro y hy; go_simp) ?_
              try simp only [Act.put, List.setIfInBounds_toArray, List.set_cons_zero, List.set_cons_succ]
              refine anyH_take 15 124 (.bool false) SD.out rfl (by kernel_rfl) (by kernel_rfl) (by kernel_rfl) (fun _ _ _ h => h) (by rfl) (by intro y hy; go_simp) ?_
              try simp only [Act.put, List.setIfInBounds_toArray, List.set_cons_zero, List.set_cons_succ]
              refine anyH_take 16 125 (.bool false) SD.out rfl (by kernel_rfl) (by kernel_rfl) (by kernel_rfl) (fun _ _ _ h => h) (by rfl) (by intro y hy; go_simp) ?_
              try simp only [Act.put, List.setIfInBounds_toArray, List.set_cons_zero, List.set_cons_succ]
              refine anyH_take 17 126 (.bool false) SD.out rfl (by kernel_rfl) (by kernel_rfl) (by kernel_rfl) (fun _ _ _ h => h) (by rfl) (by intro y hy; go_simp) ?_
              try simp only [Act.put, List.setIfInBounds_toArray, List.set_cons_zero, List.set_cons_succ]
              refine wpAnyH_done (by kernel_rfl) ?_ _
              go_wp2_with (go_at_call 33; refine (HBD.out _ R11.out).mono ?_; rintro e12 z12 ⟨rfl, hb12⟩)
              exact ⟨⟨k + 1, by omega, by go_num, by rw [hLe]; exact hq2, by rw [hLe]; exact R11.out.old hb12, V11.out.trans (hb12.mono V11.out.size)⟩, by simp [intOf]; omega⟩
            · obtain ⟨e2, e3⟩ := Pk.nx_short (n := 8) (Y := Y) (by have h := HLY.out; have h2 := HSZ.out; omega)
              rw [e2, e3] at HC0
              have hqi : (Le : Int) > (q : Int) := by omega
              have C1 := Lib.hid (HTA.out _ HV1.out).cn
              clear c0 HPX HCK
              go_upto_region 23 with (fail)
              go_region_held3 (fun y => y.cell? ⟨tb, tf + k * 35 + 1, none⟩ = some (.int .i64 x.n)) (exact (Hid.out (by assumption)))
                ((go_at_call 25; refine (HC0.out _ R1.out).mono ?_; rintro e8 w8 ⟨rfl, R8, O8⟩; have V8 : Hid (Below w5.heap.size w5 w8) := O8.out.below HV1.out GG.out HV1.out.size; have C8 := Lib.hid (HTA.out _ V8.out).cn))
              have HBD : Hid (∀ y, RdAt y g D [] true → Calls Try.prog 33 #[.pointer (some ⟨g, 0, none⟩)] y (BadSay true y)) := fun y hy => bad_any [] true g D y hy
              go_upto_region 26 with (fail)
              refine wp_region_any (by kernel_rfl) ?_
              change wpAny _ _ _ _ _ _ _ (World.drew _)
              have R9 := Lib.hid R8.out.drew
              have V9 : Hid (Below w5.heap.size w5 w8.drew) := V8.out.drew
              clear R8 V8
              generalize w8.drew = z9 at *
              refine wpAny_of_held (S := fun y => y.cell? ⟨eb, k, none⟩ = some (.int .i64 (Le : Nat))) _ _ _ _ ?_
              have SD := Lib.hid (HEC.out _ V9.out)
              refine anyH_take 0 109 (.pointer (some ⟨g, 0, none⟩)) SD.out rfl (by kernel_rfl) (by kernel_rfl) (by kernel_rfl) (fun _ _ _ h => h) (by rfl) (by intro y hy; go_simp) ?_
              try simp only [Act.put, List.setIfInBounds_toArray, List.set_cons_zero, List.set_cons_succ]
              refine anyH_take 2 111 (.slice (some ⟨eb, 0, none⟩) N ecap) SD.out rfl (by kernel_rfl) (by kernel_rfl) (by kernel_rfl) (fun _ _ _ h => h) (by rfl) (by intro y hy; go_simp) ?_
              try simp only [Act.put, List.setIfInBounds_toArray, List.set_cons_zero, List.set_cons_succ]
              refine anyH_take 3 112 (.int .i64 (k : Int)) SD.out rfl (by kernel_rfl) (by kernel_rfl) (by kernel_rfl) (fun _ _ _ h => h) (by rfl) (by intro y hy; go_simp) ?_
              try simp only [Act.put, List.setIfInBounds_toArray, List.set_cons_zero, List.set_cons_succ]
              refine anyH_take 4 113 (.pointer (some ⟨eb, k, none⟩)) SD.out rfl (by kernel_rfl) (by kernel_rfl) (by kernel_rfl) (fun _ _ _ h => h) (by rfl) (by intro y hy; go_simp) ?_
              try simp only [Act.put, List.setIfInBounds_toArray, List.set_cons_zero, List.set_cons_succ]
              refine anyH_take 5 114 (.int .i64 (Le : Nat)) SD.out rfl (by kernel_rfl) (by kernel_rfl) (by kernel_rfl) (fun _ _ _ h => h) (by rfl) (by intro y hy; go_simp) ?_
              try simp only [Act.put, List.setIfInBounds_toArray, List.set_cons_zero, List.set_cons_succ]
              refine anyH_take 6 115 (.int .i64 (q : Nat)) SD.out rfl (by kernel_rfl) (by kernel_rfl) (by kernel_rfl) (fun _ _ _ h => h) (by rfl) (by intro y hy; go_simp) ?_
              try simp only [Act.put, List.setIfInBounds_toArray, List.set_cons_zero, List.set_cons_succ]
              refine anyH_take 7 116 (.bool true) SD.out rfl (by kernel_rfl) (by kernel_rfl) (by kernel_rfl) (fun _ _ _ h => h) (by rfl) (by intro y hy; go_simp) ?_
              try simp only [Act.put, List.setIfInBounds_toArray, List.set_cons_zero, List.set_cons_succ]
              refine anyH_one 1 (by kernel_rfl) ?_
              refine wpOp_step rfl (fun Kc hKc => ?_)
              go_simp
              refine (HBD.out _ R9.out).mono ?_
              rintro e10 z10 ⟨rfl, hb⟩
              have R10 := Lib.hid (R9.out.old hb)
              have V10 : Hid (Below w5.heap.size w5 z10) := V9.out.trans (hb.mono V9.out.size)
              have SD10 := Lib.hid (HEC.out _ V10.out)
              dsimp only
              refine hKc _ _ ⟨SD10.out, ?_⟩
              clear hKc Kc SD hb
              have SD := SD10
              try simp only [Act.put, List.setIfInBounds_toArray, List.set_cons_zero, List.set_cons_succ]
              refine anyH_take 8 117 (.bool false) SD.out rfl (by kernel_rfl) (by kernel_rfl) (by kernel_rfl) (fun _ _ _ h => h) (by rfl) (by intro y hy; go_simp) ?_
              try simp only [Act.put, List.setIfInBounds_toArray, List.set_cons_zero, List.set_cons_succ]
              refine anyH_take 9 118 (.bool false) SD.out rfl (by kernel_rfl) (by kernel_rfl) (by kernel_rfl) (fun _ _ _ h => h) (by rfl) (by intro y hy; go_simp) ?_
              try simp only [Act.put, List.setIfInBounds_toArray, List.set_cons_zero, List.set_cons_succ]
              refine anyH_take 10 119 (.pointer (some ⟨g, 0, none⟩)) SD.out rfl (by kernel_rfl) (by kernel_rfl) (by kernel_rfl) (fun _ _ _ h => h) (by rfl) (by intro y hy; go_simp) ?_
              try simp only [Act.put, List.setIfInBounds_toArray, List.set_cons_zero, List.set_cons_succ]
              refine anyH_one 11 (by kernel_rfl) ?_
              refine wpOp_step rfl (fun Kc hKc => ?_)
              go_simp
              refine (HBD.out _ R10.out).mono ?_
              rintro e11 z11 ⟨rfl, hb⟩
              have R11 := Lib.hid (R10.out.old hb)
              have V11 : Hid (Below w5.heap.size w5 z11) := V10.out.trans (hb.mono V10.out.size)
              have SD11 := Lib.hid (HEC.out _ V11.out)
              dsimp only
              refine hKc _ _ ⟨SD11.out, ?_⟩
              clear hKc Kc SD hb
              have SD := SD11
              try simp only [Act.put, List.setIfInBounds_toArray, List.set_cons_zero, List.set_cons_succ]
              refine anyH_take 12 121 (.bool false) SD.out rfl (by kernel_rfl) (by kernel_rfl) (by kernel_rfl) (fun _ _ _ h => h) (by rfl) (by intro y hy; go_simp) ?_
              try simp only [Act.put, List.setIfInBounds_toArray, List.set_cons_zero, List.set_cons_succ]
              refine anyH_take 13 122 (.bool false) SD.out rfl (by kernel_rfl) (by kernel_rfl) (by kernel_rfl) (fun _ _ _ h => h) (by rfl) (by intro y hy; go_simp) ?_
              try simp only [Act.put, List.setIfInBounds_toArray, List.set_cons_zero, List.set_cons_succ]
              refine anyH_skip 14 123 SD.out rfl (by kernel_rfl) (by kernel_rfl) (by kernel_rfl) (fun _ _ _ h => h) (by rfl) ?_
              try simp only [Act.put, List.setIfInBounds_toArray, List.set_cons_zero, List.set_cons_succ]
              refine anyH_skip 15 124 SD.out rfl (by kernel_rfl) (by kernel_rfl) (by kernel_rfl) (fun _ _ _ h => h) (by rfl) ?_
              try simp only [Act.put, List.setIfInBounds_toArray, List.set_cons_zero, List.set_cons_succ]
              refine anyH_take 16 125 (.bool false) SD.out rfl (by kernel_rfl) (by kernel_rfl) (by kernel_rfl) (fun _ _ _ h => h) (by rfl) (by intro y hy; go_simp) ?_
              try simp only [Act.put, List.setIfInBounds_toArray, List.set_cons_zero, List.set_cons_succ]
              refine anyH_take 17 126 (.bool false) SD.out rfl (by kernel_rfl) (by kernel_rfl) (by kernel_rfl) (fun _ _ _ h => h) (by rfl) (by intro y hy; go_simp) ?_
              try simp only [Act.put, List.setIfInBounds_toArray, List.set_cons_zero, List.set_cons_succ]
              refine wpAnyH_done (by kernel_rfl) ?_ _
              have HCL : Hid (∀ y, RdAt y g D [] true → Calls Try.prog 31 #[.pointer (some ⟨g, 0, none⟩)] y (EndSay 0 y)) := fun y hy => left_any [] true g D y hy
              have HCE : Hid (∀ y, RdAt y g D [] true → Calls Try.prog 34 #[.pointer (some ⟨g, 0, none⟩)] y (EndSay 4 y)) := fun y hy => by
                have h := end_any [] true g D y hy
                rw [show Pk.en [] true = 4 by unfold Pk.en; rfl] at h
                exact h
              have HCI : Hid (∀ y, RdAt y g D [] true → Calls Try.prog 25 #[.pointer (some ⟨g, 0, none⟩)] y (RdSay (.int .i64 0) [] true g D y)) := fun y hy => by
                have h := rint_any [] true g D 0 rfl (by omega) y hy
                rw [Pk.vi_nil.1, Pk.vi_nil.2.1, Pk.vi_nil.2.2] at h
                exact h
              have W11 : Hid (Below w.heap.size w z11) := HW.out.trans (V11.out.mono HW.out.size)
              have GW : Hid (w.heap.size ≤ g) := Nat.le_trans HW.out.size GG.out
              go_wp2_with (first
                | (go_at_call 9; refine (HK.out _).mono ?_; rintro e16 z16 ⟨rfl, hb16⟩)
                | (go_at_call 25; refine (HCI.out _ R14.out).mono ?_; rintro e15 z15 ⟨rfl, R15, O15⟩; have W15 : Hid (Below w.heap.size w z15) := O15.out.below W14.out GW.out W14.out.size)
                | (go_at_call 34; refine (HCE.out _ R13.out).mono ?_; rintro e14 z14 ⟨rfl, hb14⟩; have R14 := Lib.hid (R13.out.old hb14); have W14 : Hid (Below w.heap.size w z14) := W13.out.trans (hb14.mono W13.out.size))
                | (go_at_call 31; refine (HCL.out _ R12.out).mono ?_; rintro e13 z13 ⟨rfl, hb13⟩; have R13 := Lib.hid (R12.out.old hb13); have W13 : Hid (Below w.heap.size w z13) := W12.out.trans (hb13.mono W12.out.size))
                | (go_at_call 33; refine (HBD.out _ R11.out).mono ?_; rintro e12 z12 ⟨rfl, hb12⟩; have R12 := Lib.hid (R11.out.old hb12); have W12 : Hid (Below w.heap.size w z12) := W11.out.trans (hb12.mono W11.out.size)))
              go_ret
              exact ⟨rfl, W15.out.trans (hb16.mono W15.out.size)⟩
          · have HZ : Hid (Pk.sz x = 32) := by show _ = _; unfold Pk.sz; rw [if_neg (by omega), if_pos hj1]
            rw [HZ.out] at HSZ
            rw [hj1]
            have HC0 : Hid (∀ y, RdAt y g D Y false → Calls Try.prog 27 #[.pointer (some ⟨g, 0, none⟩)] y (RdSay (A32 (Pk.vs Y)) (Pk.nx 32 Y) (Pk.nb 32 Y false) g D y)) := fun y hy => rsum_any Y false g D _ rfl (by omega) y hy
            obtain ⟨A, HA, HA2, _⟩ : ∃ A : Array Value, Hid (A32 x.s = .agg A) ∧ Hid (A.size = 32) ∧ _ := a32_agg x.s HXO.out.2.2.1
            have HAA : Hid (A = (x.s.map (Value.int .u8)).toArray) := by have h := HA.out; unfold A32 at h; cases h; rfl
            obtain ⟨V, HV0, HV2, _⟩ : ∃ V : Array Value, Hid (A32 (Pk.vs Y) = .agg V) ∧ Hid (V.size = 32) ∧ _ := a32_agg (Pk.vs Y) (Pk.vs_len Y)
            have HEQ0 : Hid (∀ y, (Op.equalIn 10000 24 (.agg V) (.agg A)).run Try.prog y = .ok (decide (Pk.vs Y = x.s)) y) := fun y => by
              have h := a32_eq (Pk.vs Y) x.s (Pk.vs_len Y) HXO.out.2.2.1 y
              rw [HV0.out, HA.out] at h
              exact h
            obtain ⟨eb1, heb⟩ : ∃ b, decide (Pk.vs Y = x.s) = b := ⟨_, rfl⟩
            have HEQ : ∀ y, (Op.equalIn 10000 24 (.agg V) (.agg A)).run Try.prog y = .ok eb1 y := fun y => by rw [← heb]; exact HEQ0.out y
            rw [HV0.out] at HC0
            by_cases hq2 : Le ≤ q
            · have hq1 : Le ≤ q := hq2
              have HYE := HCK.out hq1
              obtain ⟨e1, e2, e3⟩ := Pk.rd1 HXO.out hj1 (X.drop Le)
              rw [← HYE] at e1 e2 e3
              rw [e2, e3] at HC0
              rw [e1, decide_eq_true rfl] at heb
              subst heb
              have hqi : ¬ ((Le : Int) > (q : Int)) := by omega
              have SD := Lib.hid ((HTA.out _ HV1.out).cs A HAA.out)
              clear c0 HPX HCK
              go_upto_region 25 with (fail)
              refine wp_region_any (by kernel_rfl) ?_
              change wpAny _ _ _ _ _ _ _ (World.drew _)
              obtain ⟨z, hz⟩ : ∃ z, z = w7.drew := ⟨_, rfl⟩
              rw [← hz] at HV1 R1 SD ⊢
              clear hz
              refine wpAny_of_held (S := fun y => y.rangeAt tb (tf + k * 35 + 3) A.toList) _ _ _ _ ?_
              refine anyH_take 0 100 (.pointer (some ⟨g, 0, none⟩)) SD.out rfl (by kernel_rfl) (by kernel_rfl) (by kernel_rfl) (fun _ _ _ h => h) (by rfl) (by intro y hy; go_simp) ?_
              try simp only [Act.put, List.setIfInBounds_toArray, List.set_cons_zero, List.set_cons_succ]
              refine anyH_take 2 102 (.slice (some ⟨tb, tf, none⟩) N d) SD.out rfl (by kernel_rfl) (by kernel_rfl) (by kernel_rfl) (fun _ _ _ h => h) (by rfl) (by intro y hy; go_simp) ?_
              try simp only [Act.put, List.setIfInBounds_toArray, List.set_cons_zero, List.set_cons_succ]
              refine anyH_take 3 103 (.int .i64 (k : Int)) SD.out rfl (by kernel_rfl) (by kernel_rfl) (by kernel_rfl) (fun _ _ _ h => h) (by rfl) (by intro y hy; go_simp) ?_
              try simp only [Act.put, List.setIfInBounds_toArray, List.set_cons_zero, List.set_cons_succ]
              refine anyH_take 4 104 (.pointer (some ⟨tb, tf + k * 35, none⟩)) SD.out rfl (by kernel_rfl) (by kernel_rfl) (by kernel_rfl) (fun _ _ _ h => h) (by rfl) (by intro y hy; go_simp) ?_
              try simp only [Act.put, List.setIfInBounds_toArray, List.set_cons_zero, List.set_cons_succ]
              refine anyH_take 5 105 (.pointer (some ⟨tb, tf + k * 35 + 2, none⟩)) SD.out rfl (by kernel_rfl) (by kernel_rfl) (by kernel_rfl) (fun _ _ _ h => h) (by rfl) (by intro y hy; go_simp) ?_
              try simp only [Act.put, List.setIfInBounds_toArray, List.set_cons_zero, List.set_cons_succ]
              refine anyH_take 6 106 (.pointer (some ⟨tb, tf + k * 35 + 3, none⟩)) SD.out rfl (by kernel_rfl) (by kernel_rfl) (by kernel_rfl) (fun _ _ _ h => h) (by rfl) (by intro y hy; go_simp) ?_
              try simp only [Act.put, List.setIfInBounds_toArray, List.set_cons_zero, List.set_cons_succ]
              refine anyH_take 7 107 (.agg A) SD.out rfl (by kernel_rfl) (by kernel_rfl) (by kernel_rfl) (fun _ _ _ h => h) (by rfl) (fun y hy => exec_arr 24 (.tmp 106) tb (tf + k * 35 + 3) A _ rfl hy Try.underlying24 rfl (row_size Try.sizeSum HA2)) ?_
              try simp only [Act.put, List.setIfInBounds_toArray, List.set_cons_zero, List.set_cons_succ]
              refine anyH_one 1 (by kernel_rfl) ?_
              refine wpOp_step rfl (fun Kc hKc => ?_)
              go_simp
              refine (HC0.out _ R1.out).mono ?_
              rintro e8 w8 ⟨rfl, R8, O8⟩
              have V8 : Hid (Below w5.heap.size w5 w8) := O8.out.below HV1.out GG.out HV1.out.size
              have SD8 := Lib.hid ((HTA.out _ V8.out).cs A HAA.out)
              dsimp only
              refine hKc _ _ ⟨SD8.out, ?_⟩
              clear hKc Kc SD
              have SD := SD8
              try simp only [Act.put, List.setIfInBounds_toArray, List.set_cons_zero, List.set_cons_succ]
              refine anyH_take 8 108 (.bool true) SD.out rfl (by kernel_rfl) (by kernel_rfl) (by kernel_rfl) (fun _ _ _ h => h) (by rfl) (by intro y hy; go_simp) ?_
              try simp only [Act.put, List.setIfInBounds_toArray, List.set_cons_zero, List.set_cons_succ]
              refine anyH_one 9 (by kernel_rfl) ?_
              refine wpOp_step rfl (fun Kc hKc => ?_)
              go_simp
              refine hKc _ _ ⟨SD.out, ?_⟩
              clear hKc Kc
              refine wpAnyH_done (by kernel_rfl) ?_ _
              clear SD SD8
              have HBD : Hid (∀ y, RdAt y g D (X.drop Le) false → Calls Try.prog 33 #[.pointer (some ⟨g, 0, none⟩)] y (BadSay false y)) := fun y hy => bad_any (X.drop Le) false g D y hy
              go_upto_region 26 with (fail)
              refine wp_region_any (by kernel_rfl) ?_
              change wpAny _ _ _ _ _ _ _ (World.drew _)
              have R9 := Lib.hid R8.out.drew
              have V9 : Hid (Below w5.heap.size w5 w8.drew) := V8.out.drew
              clear R8 V8
              generalize w8.drew = z9 at *
              refine wpAny_of_held (S := fun y => y.cell? ⟨eb, k, none⟩ = some (.int .i64 (Le : Nat))) _ _ _ _ ?_
              have SD := Lib.hid (HEC.out _ V9.out)
              refine anyH_take 0 109 (.pointer (some ⟨g, 0, none⟩)) SD.out rfl (by kernel_rfl) (by kernel_rfl) (by kernel_rfl) (fun _ _ _ h => h) (by rfl) (by intro y hy; go_simp) ?_
              try simp only [Act.put, List.setIfInBounds_toArray, List.set_cons_zero, List.set_cons_succ]
              refine anyH_take 2 111 (.slice (some ⟨eb, 0, none⟩) N ecap) SD.out rfl (by kernel_rfl) (by kernel_rfl) (by kernel_rfl) (fun _ _ _ h => h) (by rfl) (by intro y hy; go_simp) ?_
              try simp only [Act.put, List.setIfInBounds_toArray, List.set_cons_zero, List.set_cons_succ]
              refine anyH_take 3 112 (.int .i64 (k : Int)) SD.out rfl (by kernel_rfl) (by kernel_rfl) (by kernel_rfl) (fun _ _ _ h => h) (by rfl) (by intro y hy; go_simp) ?_
              try simp only [Act.put, List.setIfInBounds_toArray, List.set_cons_zero, List.set_cons_succ]
              refine anyH_take 4 113 (.pointer (some ⟨eb, k, none⟩)) SD.out rfl (by kernel_rfl) (by kernel_rfl) (by kernel_rfl) (fun _ _ _ h => h) (by rfl) (by intro y hy; go_simp) ?_
              try simp only [Act.put, List.setIfInBounds_toArray, List.set_cons_zero, List.set_cons_succ]
              refine anyH_take 5 114 (.int .i64 (Le : Nat)) SD.out rfl (by kernel_rfl) (by kernel_rfl) (by kernel_rfl) (fun _ _ _ h => h) (by rfl) (by intro y hy; go_simp) ?_
              try simp only [Act.put, List.setIfInBounds_toArray, List.set_cons_zero, List.set_cons_succ]
              refine anyH_take 6 115 (.int .i64 (q : Nat)) SD.out rfl (by kernel_rfl) (by kernel_rfl) (by kernel_rfl) (fun _ _ _ h => h) (by rfl) (by intro y hy; go_simp) ?_
              try simp only [Act.put, List.setIfInBounds_toArray, List.set_cons_zero, List.set_cons_succ]
              refine anyH_take 7 116 (.bool false) SD.out rfl (by kernel_rfl) (by kernel_rfl) (by kernel_rfl) (fun _ _ _ h => h) (by rfl) (by intro y hy; go_simp) ?_
              try simp only [Act.put, List.setIfInBounds_toArray, List.set_cons_zero, List.set_cons_succ]
              refine anyH_one 1 (by kernel_rfl) ?_
              refine wpOp_step rfl (fun Kc hKc => ?_)
              go_simp
              refine (HBD.out _ R9.out).mono ?_
              rintro e10 z10 ⟨rfl, hb⟩
              have R10 := Lib.hid (R9.out.old hb)
              have V10 : Hid (Below w5.heap.size w5 z10) := V9.out.trans (hb.mono V9.out.size)
              have SD10 := Lib.hid (HEC.out _ V10.out)
              dsimp only
              refine hKc _ _ ⟨SD10.out, ?_⟩
              clear hKc Kc SD hb
              have SD := SD10
              try simp only [Act.put, List.setIfInBounds_toArray, List.set_cons_zero, List.set_cons_succ]
              refine anyH_take 8 117 (.bool false) SD.out rfl (by kernel_rfl) (by kernel_rfl) (by kernel_rfl) (fun _ _ _ h => h) (by rfl) (by intro y hy; go_simp) ?_
              try simp only [Act.put, List.setIfInBounds_toArray, List.set_cons_zero, List.set_cons_succ]
              refine anyH_take 9 118 (.bool false) SD.out rfl (by kernel_rfl) (by kernel_rfl) (by kernel_rfl) (fun _ _ _ h => h) (by rfl) (by intro y hy; go_simp) ?_
              try simp only [Act.put, List.setIfInBounds_toArray, List.set_cons_zero, List.set_cons_succ]
              refine anyH_take 10 119 (.pointer (some ⟨g, 0, none⟩)) SD.out rfl (by kernel_rfl) (by kernel_rfl) (by kernel_rfl) (fun _ _ _ h => h) (by rfl) (by intro y hy; go_simp) ?_
              try simp only [Act.put, List.setIfInBounds_toArray, List.set_cons_zero, List.set_cons_succ]
              refine anyH_one 11 (by kernel_rfl) ?_
              refine wpOp_step rfl (fun Kc hKc => ?_)
              go_simp
              refine (HBD.out _ R10.out).mono ?_
              rintro e11 z11 ⟨rfl, hb⟩
              have R11 := Lib.hid (R10.out.old hb)
              have V11 : Hid (Below w5.heap.size w5 z11) := V10.out.trans (hb.mono V10.out.size)
              have SD11 := Lib.hid (HEC.out _ V11.out)
              dsimp only
              refine hKc _ _ ⟨SD11.out, ?_⟩
              clear hKc Kc SD hb
              have SD := SD11
              try simp only [Act.put, List.setIfInBounds_toArray, List.set_cons_zero, List.set_cons_succ]
              refine anyH_take 12 121 (.bool true) SD.out rfl (by kernel_rfl) (by kernel_rfl) (by kernel_rfl) (fun _ _ _ h => h) (by rfl) (by intro y hy; go_simp) ?_
              try simp only [Act.put, List.setIfInBounds_toArray, List.set_cons_zero, List.set_cons_succ]
              refine anyH_take 13 122 (.bool true) SD.out rfl (by kernel_rfl) (by kernel_rfl) (by kernel_rfl) (fun _ _ _ h => h) (by rfl) (by intro y hy; go_simp) ?_
              try simp only [Act.put, List.setIfInBounds_toArray, List.set_cons_zero, List.set_cons_succ]
              refine anyH_take 14 123 (.bool true) SD.out rfl (by kernel_rfl) (by kernel_rfl) (by kernel_rfl) (fun _ _ _ h => h) (by rfl) (by intro y hy; go_simp) ?_
              try simp only [Act.put, List.setIfInBounds_toArray, List.set_cons_zero, List.set_cons_succ]
              refine anyH_take 15 124 (.bool false) SD.out rfl (by kernel_rfl) (by kernel_rfl) (by kernel_rfl) (fun _ _ _ h => h) (by rfl) (by intro y hy; go_simp) ?_
              try simp only [Act.put, List.setIfInBounds_toArray, List.set_cons_zero, List.set_cons_succ]
              refine anyH_take 16 125 (.bool false) SD.out rfl (by kernel_rfl) (by kernel_rfl) (by kernel_rfl) (fun _ _ _ h => h) (by rfl) (by intro y hy; go_simp) ?_
              try simp only [Act.put, List.setIfInBounds_toArray, List.set_cons_zero, List.set_cons_succ]
              refine anyH_take 17 126 (.bool false) SD.out rfl (by kernel_rfl) (by kernel_rfl) (by kernel_rfl) (fun _ _ _ h => h) (by rfl) (by intro y hy; go_simp) ?_
              try simp only [Act.put, List.setIfInBounds_toArray, List.set_cons_zero, List.set_cons_succ]
              refine wpAnyH_done (by kernel_rfl) ?_ _
              go_wp2_with (go_at_call 33; refine (HBD.out _ R11.out).mono ?_; rintro e12 z12 ⟨rfl, hb12⟩)
              exact ⟨⟨k + 1, by omega, by go_num, by rw [hLe]; exact hq2, by rw [hLe]; exact R11.out.old hb12, V11.out.trans (hb12.mono V11.out.size)⟩, by simp [intOf]; omega⟩
            · obtain ⟨e2, e3⟩ := Pk.nx_short (n := 32) (Y := Y) (by have h := HLY.out; have h2 := HSZ.out; omega)
              rw [e2, e3] at HC0
              have hqi : (Le : Int) > (q : Int) := by omega
              have SD := Lib.hid ((HTA.out _ HV1.out).cs A HAA.out)
              clear c0 HPX HCK
              go_upto_region 25 with (fail)
              refine wp_region_any (by kernel_rfl) ?_
              change wpAny _ _ _ _ _ _ _ (World.drew _)
              obtain ⟨z, hz⟩ : ∃ z, z = w7.drew := ⟨_, rfl⟩
              rw [← hz] at HV1 R1 SD ⊢
              clear hz
              refine wpAny_of_held (S := fun y => y.rangeAt tb (tf + k * 35 + 3) A.toList) _ _ _ _ ?_
              refine anyH_take 0 100 (.pointer (some ⟨g, 0, none⟩)) SD.out rfl (by kernel_rfl) (by kernel_rfl) (by kernel_rfl) (fun _ _ _ h => h) (by rfl) (by intro y hy; go_simp) ?_
              try simp only [Act.put, List.setIfInBounds_toArray, List.set_cons_zero, List.set_cons_succ]
              refine anyH_take 2 102 (.slice (some ⟨tb, tf, none⟩) N d) SD.out rfl (by kernel_rfl) (by kernel_rfl) (by kernel_rfl) (fun _ _ _ h => h) (by rfl) (by intro y hy; go_simp) ?_
              try simp only [Act.put, List.setIfInBounds_toArray, List.set_cons_zero, List.set_cons_succ]
              refine anyH_take 3 103 (.int .i64 (k : Int)) SD.out rfl (by kernel_rfl) (by kernel_rfl) (by kernel_rfl) (fun _ _ _ h => h) (by rfl) (by intro y hy; go_simp) ?_
              try simp only [Act.put, List.setIfInBounds_toArray, List.set_cons_zero, List.set_cons_succ]
              refine anyH_take 4 104 (.pointer (some ⟨tb, tf + k * 35, none⟩)) SD.out rfl (by kernel_rfl) (by kernel_rfl) (by kernel_rfl) (fun _ _ _ h => h) (by rfl) (by intro y hy; go_simp) ?_
              try simp only [Act.put, List.setIfInBounds_toArray, List.set_cons_zero, List.set_cons_succ]
              refine anyH_take 5 105 (.pointer (some ⟨tb, tf + k * 35 + 2, none⟩)) SD.out rfl (by kernel_rfl) (by kernel_rfl) (by kernel_rfl) (fun _ _ _ h => h) (by rfl) (by intro y hy; go_simp) ?_
              try simp only [Act.put, List.setIfInBounds_toArray, List.set_cons_zero, List.set_cons_succ]
              refine anyH_take 6 106 (.pointer (some ⟨tb, tf + k * 35 + 3, none⟩)) SD.out rfl (by kernel_rfl) (by kernel_rfl) (by kernel_rfl) (fun _ _ _ h => h) (by rfl) (by intro y hy; go_simp) ?_
              try simp only [Act.put, List.setIfInBounds_toArray, List.set_cons_zero, List.set_cons_succ]
              refine anyH_take 7 107 (.agg A) SD.out rfl (by kernel_rfl) (by kernel_rfl) (by kernel_rfl) (fun _ _ _ h => h) (by rfl) (fun y hy => exec_arr 24 (.tmp 106) tb (tf + k * 35 + 3) A _ rfl hy Try.underlying24 rfl (row_size Try.sizeSum HA2)) ?_
              try simp only [Act.put, List.setIfInBounds_toArray, List.set_cons_zero, List.set_cons_succ]
              refine anyH_one 1 (by kernel_rfl) ?_
              refine wpOp_step rfl (fun Kc hKc => ?_)
              go_simp
              refine (HC0.out _ R1.out).mono ?_
              rintro e8 w8 ⟨rfl, R8, O8⟩
              have V8 : Hid (Below w5.heap.size w5 w8) := O8.out.below HV1.out GG.out HV1.out.size
              have SD8 := Lib.hid ((HTA.out _ V8.out).cs A HAA.out)
              dsimp only
              refine hKc _ _ ⟨SD8.out, ?_⟩
              clear hKc Kc SD
              have SD := SD8
              try simp only [Act.put, List.setIfInBounds_toArray, List.set_cons_zero, List.set_cons_succ]
              refine anyH_take 8 108 (.bool eb1) SD.out rfl (by kernel_rfl) (by kernel_rfl) (by kernel_rfl) (fun _ _ _ h => h) (by rfl) (by intro y hy; go_simp) ?_
              try simp only [Act.put, List.setIfInBounds_toArray, List.set_cons_zero, List.set_cons_succ]
              refine anyH_one 9 (by kernel_rfl) ?_
              refine wpOp_step rfl (fun Kc hKc => ?_)
              go_simp
              refine hKc _ _ ⟨SD.out, ?_⟩
              clear hKc Kc
              refine wpAnyH_done (by kernel_rfl) ?_ _
              clear SD SD8
              have HBD : Hid (∀ y, RdAt y g D [] true → Calls Try.prog 33 #[.pointer (some ⟨g, 0, none⟩)] y (BadSay true y)) := fun y hy => bad_any [] true g D y hy
              go_upto_region 26 with (fail)
              refine wp_region_any (by kernel_rfl) ?_
              change wpAny _ _ _ _ _ _ _ (World.drew _)
              have R9 := Lib.hid R8.out.drew
              have V9 : Hid (Below w5.heap.size w5 w8.drew) := V8.out.drew
              clear R8 V8
              generalize w8.drew = z9 at *
              refine wpAny_of_held (S := fun y => y.cell? ⟨eb, k, none⟩ = some (.int .i64 (Le : Nat))) _ _ _ _ ?_
              have SD := Lib.hid (HEC.out _ V9.out)
              refine anyH_take 0 109 (.pointer (some ⟨g, 0, none⟩)) SD.out rfl (by kernel_rfl) (by kernel_rfl) (by kernel_rfl) (fun _ _ _ h => h) (by rfl) (by intro y hy; go_simp) ?_
              try simp only [Act.put, List.setIfInBounds_toArray, List.set_cons_zero, List.set_cons_succ]
              refine anyH_take 2 111 (.slice (some ⟨eb, 0, none⟩) N ecap) SD.out rfl (by kernel_rfl) (by kernel_rfl) (by kernel_rfl) (fun _ _ _ h => h) (by rfl) (by intro y hy; go_simp) ?_
              try simp only [Act.put, List.setIfInBounds_toArray, List.set_cons_zero, List.set_cons_succ]
              refine anyH_take 3 112 (.int .i64 (k : Int)) SD.out rfl (by kernel_rfl) (by kernel_rfl) (by kernel_rfl) (fun _ _ _ h => h) (by rfl) (by intro y hy; go_simp) ?_
              try simp only [Act.put, List.setIfInBounds_toArray, List.set_cons_zero, List.set_cons_succ]
              refine anyH_take 4 113 (.pointer (some ⟨eb, k, none⟩)) SD.out rfl (by kernel_rfl) (by kernel_rfl) (by kernel_rfl) (fun _ _ _ h => h) (by rfl) (by intro y hy; go_simp) ?_
              try simp only [Act.put, List.setIfInBounds_toArray, List.set_cons_zero, List.set_cons_succ]
              refine anyH_take 5 114 (.int .i64 (Le : Nat)) SD.out rfl (by kernel_rfl) (by kernel_rfl) (by kernel_rfl) (fun _ _ _ h => h) (by rfl) (by intro y hy; go_simp) ?_
              try simp only [Act.put, List.setIfInBounds_toArray, List.set_cons_zero, List.set_cons_succ]
              refine anyH_take 6 115 (.int .i64 (q : Nat)) SD.out rfl (by kernel_rfl) (by kernel_rfl) (by kernel_rfl) (fun _ _ _ h => h) (by rfl) (by intro y hy; go_simp) ?_
              try simp only [Act.put, List.setIfInBounds_toArray, List.set_cons_zero, List.set_cons_succ]
              refine anyH_take 7 116 (.bool true) SD.out rfl (by kernel_rfl) (by kernel_rfl) (by kernel_rfl) (fun _ _ _ h => h) (by rfl) (by intro y hy; go_simp) ?_
              try simp only [Act.put, List.setIfInBounds_toArray, List.set_cons_zero, List.set_cons_succ]
              refine anyH_one 1 (by kernel_rfl) ?_
              refine wpOp_step rfl (fun Kc hKc => ?_)
              go_simp
              refine (HBD.out _ R9.out).mono ?_
              rintro e10 z10 ⟨rfl, hb⟩
              have R10 := Lib.hid (R9.out.old hb)
              have V10 : Hid (Below w5.heap.size w5 z10) := V9.out.trans (hb.mono V9.out.size)
              have SD10 := Lib.hid (HEC.out _ V10.out)
              dsimp only
              refine hKc _ _ ⟨SD10.out, ?_⟩
              clear hKc Kc SD hb
              have SD := SD10
              try simp only [Act.put, List.setIfInBounds_toArray, List.set_cons_zero, List.set_cons_succ]
              refine anyH_take 8 117 (.bool false) SD.out rfl (by kernel_rfl) (by kernel_rfl) (by kernel_rfl) (fun _ _ _ h => h) (by rfl) (by intro y hy; go_simp) ?_
              try simp only [Act.put, List.setIfInBounds_toArray, List.set_cons_zero, List.set_cons_succ]
              refine anyH_take 9 118 (.bool false) SD.out rfl (by kernel_rfl) (by kernel_rfl) (by kernel_rfl) (fun _ _ _ h => h) (by rfl) (by intro y hy; go_simp) ?_
              try simp only [Act.put, List.setIfInBounds_toArray, List.set_cons_zero, List.set_cons_succ]
              refine anyH_take 10 119 (.pointer (some ⟨g, 0, none⟩)) SD.out rfl (by kernel_rfl) (by kernel_rfl) (by kernel_rfl) (fun _ _ _ h => h) (by rfl) (by intro y hy; go_simp) ?_
              try simp only [Act.put, List.setIfInBounds_toArray, List.set_cons_zero, List.set_cons_succ]
              refine anyH_one 11 (by kernel_rfl) ?_
              refine wpOp_step rfl (fun Kc hKc => ?_)
              go_simp
              refine (HBD.out _ R10.out).mono ?_
              rintro e11 z11 ⟨rfl, hb⟩
              have R11 := Lib.hid (R10.out.old hb)
              have V11 : Hid (Below w5.heap.size w5 z11) := V10.out.trans (hb.mono V10.out.size)
              have SD11 := Lib.hid (HEC.out _ V11.out)
              dsimp only
              refine hKc _ _ ⟨SD11.out, ?_⟩
              clear hKc Kc SD hb
              have SD := SD11
              try simp only [Act.put, List.setIfInBounds_toArray, List.set_cons_zero, List.set_cons_succ]
              refine anyH_take 12 121 (.bool false) SD.out rfl (by kernel_rfl) (by kernel_rfl) (by kernel_rfl) (fun _ _ _ h => h) (by rfl) (by intro y hy; go_simp) ?_
              try simp only [Act.put, List.setIfInBounds_toArray, List.set_cons_zero, List.set_cons_succ]
              refine anyH_take 13 122 (.bool false) SD.out rfl (by kernel_rfl) (by kernel_rfl) (by kernel_rfl) (fun _ _ _ h => h) (by rfl) (by intro y hy; go_simp) ?_
              try simp only [Act.put, List.setIfInBounds_toArray, List.set_cons_zero, List.set_cons_succ]
              refine anyH_skip 14 123 SD.out rfl (by kernel_rfl) (by kernel_rfl) (by kernel_rfl) (fun _ _ _ h => h) (by rfl) ?_
              try simp only [Act.put, List.setIfInBounds_toArray, List.set_cons_zero, List.set_cons_succ]
              refine anyH_skip 15 124 SD.out rfl (by kernel_rfl) (by kernel_rfl) (by kernel_rfl) (fun _ _ _ h => h) (by rfl) ?_
              try simp only [Act.put, List.setIfInBounds_toArray, List.set_cons_zero, List.set_cons_succ]
              refine anyH_take 16 125 (.bool false) SD.out rfl (by kernel_rfl) (by kernel_rfl) (by kernel_rfl) (fun _ _ _ h => h) (by rfl) (by intro y hy; go_simp) ?_
              try simp only [Act.put, List.setIfInBounds_toArray, List.set_cons_zero, List.set_cons_succ]
              refine anyH_take 17 126 (.bool false) SD.out rfl (by kernel_rfl) (by kernel_rfl) (by kernel_rfl) (fun _ _ _ h => h) (by rfl) (by intro y hy; go_simp) ?_
              try simp only [Act.put, List.setIfInBounds_toArray, List.set_cons_zero, List.set_cons_succ]
              refine wpAnyH_done (by kernel_rfl) ?_ _
              have HCL : Hid (∀ y, RdAt y g D [] true → Calls Try.prog 31 #[.pointer (some ⟨g, 0, none⟩)] y (EndSay 0 y)) := fun y hy => left_any [] true g D y hy
              have HCE : Hid (∀ y, RdAt y g D [] true → Calls Try.prog 34 #[.pointer (some ⟨g, 0, none⟩)] y (EndSay 4 y)) := fun y hy => by
                have h := end_any [] true g D y hy
                rw [show Pk.en [] true = 4 by unfold Pk.en; rfl] at h
                exact h
              have HCI : Hid (∀ y, RdAt y g D [] true → Calls Try.prog 25 #[.pointer (some ⟨g, 0, none⟩)] y (RdSay (.int .i64 0) [] true g D y)) := fun y hy => by
                have h := rint_any [] true g D 0 rfl (by omega) y hy
                rw [Pk.vi_nil.1, Pk.vi_nil.2.1, Pk.vi_nil.2.2] at h
                exact h
              have W11 : Hid (Below w.heap.size w z11) := HW.out.trans (V11.out.mono HW.out.size)
              have GW : Hid (w.heap.size ≤ g) := Nat.le_trans HW.out.size GG.out
              go_wp2_with (first
                | (go_at_call 9; refine (HK.out _).mono ?_; rintro e16 z16 ⟨rfl, hb16⟩)
                | (go_at_call 25; refine (HCI.out _ R14.out).mono ?_; rintro e15 z15 ⟨rfl, R15, O15⟩; have W15 : Hid (Below w.heap.size w z15) := O15.out.below W14.out GW.out W14.out.size)
                | (go_at_call 34; refine (HCE.out _ R13.out).mono ?_; rintro e14 z14 ⟨rfl, hb14⟩; have R14 := Lib.hid (R13.out.old hb14); have W14 : Hid (Below w.heap.size w z14) := W13.out.trans (hb14.mono W13.out.size))
                | (go_at_call 31; refine (HCL.out _ R12.out).mono ?_; rintro e13 z13 ⟨rfl, hb13⟩; have R13 := Lib.hid (R12.out.old hb13); have W13 : Hid (Below w.heap.size w z13) := W12.out.trans (hb13.mono W12.out.size))
                | (go_at_call 33; refine (HBD.out _ R11.out).mono ?_; rintro e12 z12 ⟨rfl, hb12⟩; have R12 := Lib.hid (R11.out.old hb12); have W12 : Hid (Below w.heap.size w z12) := W11.out.trans (hb12.mono W11.out.size)))
              go_ret
              exact ⟨rfl, W15.out.trans (hb16.mono W15.out.size)⟩
          · have HZ : Hid (Pk.sz x = 40) := by show _ = _; unfold Pk.sz; rw [if_neg (by omega), if_neg (by omega)]
            rw [HZ.out] at HSZ
            rw [hj2]
            have HC0 : Hid (∀ y, RdAt y g D Y false → Calls Try.prog 29 #[.pointer (some ⟨g, 0, none⟩)] y (RdSay (R33 (Pk.vr Y)) (Pk.nx 40 Y) (Pk.nb 40 Y false) g D y)) := fun y hy => rref_any Y false g D _ rfl (by omega) y hy
            obtain ⟨A, HA, HA2, _⟩ : ∃ A : Array Value, Hid (R33 (x.a, x.s) = .agg A) ∧ Hid (A.size = 33) ∧ _ := r33_agg (x.a, x.s) HXO.out.2.2.1
            have HAA : Hid (A = (Value.int .i64 x.a :: x.s.map (Value.int .u8)).toArray) := by have h := HA.out; unfold R33 at h; cases h; rfl
            obtain ⟨V, HV0, HV2, _⟩ : ∃ V : Array Value, Hid (R33 (Pk.vr Y) = .agg V) ∧ Hid (V.size = 33) ∧ _ := r33_agg (Pk.vr Y) (Pk.vr_len Y)
            have HEQ0 : Hid (∀ y, (Op.equalIn 10000 26 (.agg V) (.agg A)).run Try.prog y = .ok (decide (Pk.vr Y = (x.a, x.s))) y) := fun y => by
              have h := r33_eqs (Pk.vr Y) (x.a, x.s) (Pk.vr_len Y) HXO.out.2.2.1 y
              rw [HV0.out, HA.out] at h
              exact h
            obtain ⟨eb1, heb⟩ : ∃ b, decide (Pk.vr Y = (x.a, x.s)) = b := ⟨_, rfl⟩
            have HEQ : ∀ y, (Op.equalIn 10000 26 (.agg V) (.agg A)).run Try.prog y = .ok eb1 y := fun y => by rw [← heb]; exact HEQ0.out y
            rw [HV0.out] at HC0
            by_cases hq2 : Le ≤ q
            · have hq1 : Le ≤ q := hq2
              have HYE := HCK.out hq1
              obtain ⟨e1, e2, e3⟩ := Pk.rd2 HXO.out hj2 (X.drop Le)
              rw [← HYE] at e1 e2 e3
              rw [e2, e3] at HC0
              rw [e1, decide_eq_true rfl] at heb
              subst heb
              have hqi : ¬ ((Le : Int) > (q : Int)) := by omega
              have SD := Lib.hid ((HTA.out _ HV1.out).cr A HAA.out)
              clear c0 HPX HCK
              go_upto_region 21 with (fail)
              refine wp_region_any (by kernel_rfl) ?_
              change wpAny _ _ _ _ _ _ _ (World.drew _)
              obtain ⟨z, hz⟩ : ∃ z, z = w7.drew := ⟨_, rfl⟩
              rw [← hz] at HV1 R1 SD ⊢
              clear hz
              refine wpAny_of_held (S := fun y => y.rangeAt tb (tf + k * 35 + 2) A.toList) _ _ _ _ ?_
              refine anyH_take 0 80 (.pointer (some ⟨g, 0, none⟩)) SD.out rfl (by kernel_rfl) (by kernel_rfl) (by kernel_rfl) (fun _ _ _ h => h) (by rfl) (by intro y hy; go_simp) ?_
              try simp only [Act.put, List.setIfInBounds_toArray, List.set_cons_zero, List.set_cons_succ]
              refine anyH_take 2 82 (.slice (some ⟨tb, tf, none⟩) N d) SD.out rfl (by kernel_rfl) (by kernel_rfl) (by kernel_rfl) (fun _ _ _ h => h) (by rfl) (by intro y hy; go_simp) ?_
              try simp only [Act.put, List.setIfInBounds_toArray, List.set_cons_zero, List.set_cons_succ]
              refine anyH_take 3 83 (.int .i64 (k : Int)) SD.out rfl (by kernel_rfl) (by kernel_rfl) (by kernel_rfl) (fun _ _ _ h => h) (by rfl) (by intro y hy; go_simp) ?_
              try simp only [Act.put, List.setIfInBounds_toArray, List.set_cons_zero, List.set_cons_succ]
              refine anyH_take 4 84 (.pointer (some ⟨tb, tf + k * 35, none⟩)) SD.out rfl (by kernel_rfl) (by kernel_rfl) (by kernel_rfl) (fun _ _ _ h => h) (by rfl) (by intro y hy; go_simp) ?_
              try simp only [Act.put, List.setIfInBounds_toArray, List.set_cons_zero, List.set_cons_succ]
              refine anyH_take 5 85 (.pointer (some ⟨tb, tf + k * 35 + 2, none⟩)) SD.out rfl (by kernel_rfl) (by kernel_rfl) (by kernel_rfl) (fun _ _ _ h => h) (by rfl) (by intro y hy; go_simp) ?_
              try simp only [Act.put, List.setIfInBounds_toArray, List.set_cons_zero, List.set_cons_succ]
              refine anyH_take 6 86 (.agg A) SD.out rfl (by kernel_rfl) (by kernel_rfl) (by kernel_rfl) (fun _ _ _ h => h) (by rfl) (fun y hy => exec_arr 26 (.tmp 85) tb (tf + k * 35 + 2) A _ rfl hy Try.underlying26 rfl (row_size Try.sizeRef HA2)) ?_
              try simp only [Act.put, List.setIfInBounds_toArray, List.set_cons_zero, List.set_cons_succ]
              refine anyH_one 1 (by kernel_rfl) ?_
              refine wpOp_step rfl (fun Kc hKc => ?_)
              go_simp
              refine (HC0.out _ R1.out).mono ?_
              rintro e8 w8 ⟨rfl, R8, O8⟩
              have V8 : Hid (Below w5.heap.size w5 w8) := O8.out.below HV1.out GG.out HV1.out.size
              have SD8 := Lib.hid ((HTA.out _ V8.out).cr A HAA.out)
              dsimp only
              refine hKc _ _ ⟨SD8.out, ?_⟩
              clear hKc Kc SD
              have SD := SD8
              try simp only [Act.put, List.setIfInBounds_toArray, List.set_cons_zero, List.set_cons_succ]
              refine anyH_take 7 87 (.bool true) SD.out rfl (by kernel_rfl) (by kernel_rfl) (by kernel_rfl) (fun _ _ _ h => h) (by rfl) (by intro y hy; go_simp) ?_
              try simp only [Act.put, List.setIfInBounds_toArray, List.set_cons_zero, List.set_cons_succ]
              refine anyH_one 8 (by kernel_rfl) ?_
              refine wpOp_step rfl (fun Kc hKc => ?_)
              go_simp
              refine hKc _ _ ⟨SD.out, ?_⟩
              clear hKc Kc
              refine wpAnyH_done (by kernel_rfl) ?_ _
              clear SD SD8
              have HBD : Hid (∀ y, RdAt y g D (X.drop Le) false → Calls Try.prog 33 #[.pointer (some ⟨g, 0, none⟩)] y (BadSay false y)) := fun y hy => bad_any (X.drop Le) false g D y hy
              go_upto_region 26 with (fail)
              refine wp_region_any (by kernel_rfl) ?_
              change wpAny _ _ _ _ _ _ _ (World.drew _)
              have R9 := Lib.hid R8.out.drew
              have V9 : Hid (Below w5.heap.size w5 w8.drew) := V8.out.drew
              clear R8 V8
              generalize w8.drew = z9 at *
              refine wpAny_of_held (S := fun y => y.cell? ⟨eb, k, none⟩ = some (.int .i64 (Le : Nat))) _ _ _ _ ?_
              have SD := Lib.hid (HEC.out _ V9.out)
              refine anyH_take 0 109 (.pointer (some ⟨g, 0, none⟩)) SD.out rfl (by kernel_rfl) (by kernel_rfl) (by kernel_rfl) (fun _ _ _ h => h) (by rfl) (by intro y hy; go_simp) ?_
              try simp only [Act.put, List.setIfInBounds_toArray, List.set_cons_zero, List.set_cons_succ]
              refine anyH_take 2 111 (.slice (some ⟨eb, 0, none⟩) N ecap) SD.out rfl (by kernel_rfl) (by kernel_rfl) (by kernel_rfl) (fun _ _ _ h => h) (by rfl) (by intro y hy; go_simp) ?_
              try simp only [Act.put, List.setIfInBounds_toArray, List.set_cons_zero, List.set_cons_succ]
              refine anyH_take 3 112 (.int .i64 (k : Int)) SD.out rfl (by kernel_rfl) (by kernel_rfl) (by kernel_rfl) (fun _ _ _ h => h) (by rfl) (by intro y hy; go_simp) ?_
              try simp only [Act.put, List.setIfInBounds_toArray, List.set_cons_zero, List.set_cons_succ]
              refine anyH_take 4 113 (.pointer (some ⟨eb, k, none⟩)) SD.out rfl (by kernel_rfl) (by kernel_rfl) (by kernel_rfl) (fun _ _ _ h => h) (by rfl) (by intro y hy; go_simp) ?_
              try simp only [Act.put, List.setIfInBounds_toArray, List.set_cons_zero, List.set_cons_succ]
              refine anyH_take 5 114 (.int .i64 (Le : Nat)) SD.out rfl (by kernel_rfl) (by kernel_rfl) (by kernel_rfl) (fun _ _ _ h => h) (by rfl) (by intro y hy; go_simp) ?_
              try simp only [Act.put, List.setIfInBounds_toArray, List.set_cons_zero, List.set_cons_succ]
              refine anyH_take 6 115 (.int .i64 (q : Nat)) SD.out rfl (by kernel_rfl) (by kernel_rfl) (by kernel_rfl) (fun _ _ _ h => h) (by rfl) (by intro y hy; go_simp) ?_
              try simp only [Act.put, List.setIfInBounds_toArray, List.set_cons_zero, List.set_cons_succ]
              refine anyH_take 7 116 (.bool false) SD.out rfl (by kernel_rfl) (by kernel_rfl) (by kernel_rfl) (fun _ _ _ h => h) (by rfl) (by intro y hy; go_simp) ?_
              try simp only [Act.put, List.setIfInBounds_toArray, List.set_cons_zero, List.set_cons_succ]
              refine anyH_one 1 (by kernel_rfl) ?_
              refine wpOp_step rfl (fun Kc hKc => ?_)
              go_simp
              refine (HBD.out _ R9.out).mono ?_
              rintro e10 z10 ⟨rfl, hb⟩
              have R10 := Lib.hid (R9.out.old hb)
              have V10 : Hid (Below w5.heap.size w5 z10) := V9.out.trans (hb.mono V9.out.size)
              have SD10 := Lib.hid (HEC.out _ V10.out)
              dsimp only
              refine hKc _ _ ⟨SD10.out, ?_⟩
              clear hKc Kc SD hb
              have SD := SD10
              try simp only [Act.put, List.setIfInBounds_toArray, List.set_cons_zero, List.set_cons_succ]
              refine anyH_take 8 117 (.bool false) SD.out rfl (by kernel_rfl) (by kernel_rfl) (by kernel_rfl) (fun _ _ _ h => h) (by rfl) (by intro y hy; go_simp) ?_
              try simp only [Act.put, List.setIfInBounds_toArray, List.set_cons_zero, List.set_cons_succ]
              refine anyH_take 9 118 (.bool false) SD.out rfl (by kernel_rfl) (by kernel_rfl) (by kernel_rfl) (fun _ _ _ h => h) (by rfl) (by intro y hy; go_simp) ?_
              try simp only [Act.put, List.setIfInBounds_toArray, List.set_cons_zero, List.set_cons_succ]
              refine anyH_take 10 119 (.pointer (some ⟨g, 0, none⟩)) SD.out rfl (by kernel_rfl) (by kernel_rfl) (by kernel_rfl) (fun _ _ _ h => h) (by rfl) (by intro y hy; go_simp) ?_
              try simp only [Act.put, List.setIfInBounds_toArray, List.set_cons_zero, List.set_cons_succ]
              refine anyH_one 11 (by kernel_rfl) ?_
              refine wpOp_step rfl (fun Kc hKc => ?_)
              go_simp
              refine (HBD.out _ R10.out).mono ?_
              rintro e11 z11 ⟨rfl, hb⟩
              have R11 := Lib.hid (R10.out.old hb)
              have V11 : Hid (Below w5.heap.size w5 z11) := V10.out.trans (hb.mono V10.out.size)
              have SD11 := Lib.hid (HEC.out _ V11.out)
              dsimp only
              refine hKc _ _ ⟨SD11.out, ?_⟩
              clear hKc Kc SD hb
              have SD := SD11
              try simp only [Act.put, List.setIfInBounds_toArray, List.set_cons_zero, List.set_cons_succ]
              refine anyH_take 12 121 (.bool true) SD.out rfl (by kernel_rfl) (by kernel_rfl) (by kernel_rfl) (fun _ _ _ h => h) (by rfl) (by intro y hy; go_simp) ?_
              try simp only [Act.put, List.setIfInBounds_toArray, List.set_cons_zero, List.set_cons_succ]
              refine anyH_take 13 122 (.bool true) SD.out rfl (by kernel_rfl) (by kernel_rfl) (by kernel_rfl) (fun _ _ _ h => h) (by rfl) (by intro y hy; go_simp) ?_
              try simp only [Act.put, List.setIfInBounds_toArray, List.set_cons_zero, List.set_cons_succ]
              refine anyH_take 14 123 (.bool true) SD.out rfl (by kernel_rfl) (by kernel_rfl) (by kernel_rfl) (fun _ _ _ h => h) (by rfl) (by intro y hy; go_simp) ?_
              try simp only [Act.put, List.setIfInBounds_toArray, List.set_cons_zero, List.set_cons_succ]
              refine anyH_take 15 124 (.bool false) SD.out rfl (by kernel_rfl) (by kernel_rfl) (by kernel_rfl) (fun _ _ _ h => h) (by rfl) (by intro y hy; go_simp) ?_
              try simp only [Act.put, List.setIfInBounds_toArray, List.set_cons_zero, List.set_cons_succ]
              refine anyH_take 16 125 (.bool false) SD.out rfl (by kernel_rfl) (by kernel_rfl) (by kernel_rfl) (fun _ _ _ h => h) (by rfl) (by intro y hy; go_simp) ?_
              try simp only [Act.put, List.setIfInBounds_toArray, List.set_cons_zero, List.set_cons_succ]
              refine anyH_take 17 126 (.bool false) SD.out rfl (by kernel_rfl) (by kernel_rfl) (by kernel_rfl) (fun _ _ _ h => h) (by rfl) (by intro y hy; go_simp) ?_
              try simp only [Act.put, List.setIfInBounds_toArray, List.set_cons_zero, List.set_cons_succ]
              refine wpAnyH_done (by kernel_rfl) ?_ _
              go_wp2_with (go_at_call 33; refine (HBD.out _ R11.out).mono ?_; rintro e12 z12 ⟨rfl, hb12⟩)
              exact ⟨⟨k + 1, by omega, by go_num, by rw [hLe]; exact hq2, by rw [hLe]; exact R11.out.old hb12, V11.out.trans (hb12.mono V11.out.size)⟩, by simp [intOf]; omega⟩
            · obtain ⟨e2, e3⟩ := Pk.nx_short (n := 40) (Y := Y) (by have h := HLY.out; have h2 := HSZ.out; omega)
              rw [e2, e3] at HC0
              have hqi : (Le : Int) > (q : Int) := by omega
              have SD := Lib.hid ((HTA.out _ HV1.out).cr A HAA.out)
              clear c0 HPX HCK
              go_upto_region 21 with (fail)
              refine wp_region_any (by kernel_rfl) ?_
              change wpAny _ _ _ _ _ _ _ (World.drew _)
              obtain ⟨z, hz⟩ : ∃ z, z = w7.drew := ⟨_, rfl⟩
              rw [← hz] at HV1 R1 SD ⊢
              clear hz
              refine wpAny_of_held (S := fun y => y.rangeAt tb (tf + k * 35 + 2) A.toList) _ _ _ _ ?_
              refine anyH_take 0 80 (.pointer (some ⟨g, 0, none⟩)) SD.out rfl (by kernel_rfl) (by kernel_rfl) (by kernel_rfl) (fun _ _ _ h => h) (by rfl) (by intro y hy; go_simp) ?_
              try simp only [Act.put, List.setIfInBounds_toArray, List.set_cons_zero, List.set_cons_succ]
              refine anyH_take 2 82 (.slice (some ⟨tb, tf, none⟩) N d) SD.out rfl (by kernel_rfl) (by kernel_rfl) (by kernel_rfl) (fun _ _ _ h => h) (by rfl) (by intro y hy; go_simp) ?_
              try simp only [Act.put, List.setIfInBounds_toArray, List.set_cons_zero, List.set_cons_succ]
              refine anyH_take 3 83 (.int .i64 (k : Int)) SD.out rfl (by kernel_rfl) (by kernel_rfl) (by kernel_rfl) (fun _ _ _ h => h) (by rfl) (by intro y hy; go_simp) ?_
              try simp only [Act.put, List.setIfInBounds_toArray, List.set_cons_zero, List.set_cons_succ]
              refine anyH_take 4 84 (.pointer (some ⟨tb, tf + k * 35, none⟩)) SD.out rfl (by kernel_rfl) (by kernel_rfl) (by kernel_rfl) (fun _ _ _ h => h) (by rfl) (by intro y hy; go_simp) ?_
              try simp only [Act.put, List.setIfInBounds_toArray, List.set_cons_zero, List.set_cons_succ]
              refine anyH_take 5 85 (.pointer (some ⟨tb, tf + k * 35 + 2, none⟩)) SD.out rfl (by kernel_rfl) (by kernel_rfl) (by kernel_rfl) (fun _ _ _ h => h) (by rfl) (by intro y hy; go_simp) ?_
              try simp only [Act.put, List.setIfInBounds_toArray, List.set_cons_zero, List.set_cons_succ]
              refine anyH_take 6 86 (.agg A) SD.out rfl (by kernel_rfl) (by kernel_rfl) (by kernel_rfl) (fun _ _ _ h => h) (by rfl) (fun y hy => exec_arr 26 (.tmp 85) tb (tf + k * 35 + 2) A _ rfl hy Try.underlying26 rfl (row_size Try.sizeRef HA2)) ?_
              try simp only [Act.put, List.setIfInBounds_toArray, List.set_cons_zero, List.set_cons_succ]
              refine anyH_one 1 (by kernel_rfl) ?_
              refine wpOp_step rfl (fun Kc hKc => ?_)
              go_simp
              refine (HC0.out _ R1.out).mono ?_
              rintro e8 w8 ⟨rfl, R8, O8⟩
              have V8 : Hid (Below w5.heap.size w5 w8) := O8.out.below HV1.out GG.out HV1.out.size
              have SD8 := Lib.hid ((HTA.out _ V8.out).cr A HAA.out)
              dsimp only
              refine hKc _ _ ⟨SD8.out, ?_⟩
              clear hKc Kc SD
              have SD := SD8
              try simp only [Act.put, List.setIfInBounds_toArray, List.set_cons_zero, List.set_cons_succ]
              refine anyH_take 7 87 (.bool eb1) SD.out rfl (by kernel_rfl) (by kernel_rfl) (by kernel_rfl) (fun _ _ _ h => h) (by rfl) (by intro y hy; go_simp) ?_
              try simp only [Act.put, List.setIfInBounds_toArray, List.set_cons_zero, List.set_cons_succ]
              refine anyH_one 8 (by kernel_rfl) ?_
              refine wpOp_step rfl (fun Kc hKc => ?_)
              go_simp
              refine hKc _ _ ⟨SD.out, ?_⟩
              clear hKc Kc
              refine wpAnyH_done (by kernel_rfl) ?_ _
              clear SD SD8
              have HBD : Hid (∀ y, RdAt y g D [] true → Calls Try.prog 33 #[.pointer (some ⟨g, 0, none⟩)] y (BadSay true y)) := fun y hy => bad_any [] true g D y hy
              go_upto_region 26 with (fail)
              refine wp_region_any (by kernel_rfl) ?_
              change wpAny _ _ _ _ _ _ _ (World.drew _)
              have R9 := Lib.hid R8.out.drew
              have V9 : Hid (Below w5.heap.size w5 w8.drew) := V8.out.drew
              clear R8 V8
              generalize w8.drew = z9 at *
              refine wpAny_of_held (S := fun y => y.cell? ⟨eb, k, none⟩ = some (.int .i64 (Le : Nat))) _ _ _ _ ?_
              have SD := Lib.hid (HEC.out _ V9.out)
              refine anyH_take 0 109 (.pointer (some ⟨g, 0, none⟩)) SD.out rfl (by kernel_rfl) (by kernel_rfl) (by kernel_rfl) (fun _ _ _ h => h) (by rfl) (by intro y hy; go_simp) ?_
              try simp only [Act.put, List.setIfInBounds_toArray, List.set_cons_zero, List.set_cons_succ]
              refine anyH_take 2 111 (.slice (some ⟨eb, 0, none⟩) N ecap) SD.out rfl (by kernel_rfl) (by kernel_rfl) (by kernel_rfl) (fun _ _ _ h => h) (by rfl) (by intro y hy; go_simp) ?_
              try simp only [Act.put, List.setIfInBounds_toArray, List.set_cons_zero, List.set_cons_succ]
              refine anyH_take 3 112 (.int .i64 (k : Int)) SD.out rfl (by kernel_rfl) (by kernel_rfl) (by kernel_rfl) (fun _ _ _ h => h) (by rfl) (by intro y hy; go_simp) ?_
              try simp only [Act.put, List.setIfInBounds_toArray, List.set_cons_zero, List.set_cons_succ]
              refine anyH_take 4 113 (.pointer (some ⟨eb, k, none⟩)) SD.out rfl (by kernel_rfl) (by kernel_rfl) (by kernel_rfl) (fun _ _ _ h => h) (by rfl) (by intro y hy; go_simp) ?_
              try simp only [Act.put, List.setIfInBounds_toArray, List.set_cons_zero, List.set_cons_succ]
              refine anyH_take 5 114 (.int .i64 (Le : Nat)) SD.out rfl (by kernel_rfl) (by kernel_rfl) (by kernel_rfl) (fun _ _ _ h => h) (by rfl) (by intro y hy; go_simp) ?_
              try simp only [Act.put, List.setIfInBounds_toArray, List.set_cons_zero, List.set_cons_succ]
              refine anyH_take 6 115 (.int .i64 (q : Nat)) SD.out rfl (by kernel_rfl) (by kernel_rfl) (by kernel_rfl) (fun _ _ _ h => h) (by rfl) (by intro y hy; go_simp) ?_
              try simp only [Act.put, List.setIfInBounds_toArray, List.set_cons_zero, List.set_cons_succ]
              refine anyH_take 7 116 (.bool true) SD.out rfl (by kernel_rfl) (by kernel_rfl) (by kernel_rfl) (fun _ _ _ h => h) (by rfl) (by intro y hy; go_simp) ?_
              try simp only [Act.put, List.setIfInBounds_toArray, List.set_cons_zero, List.set_cons_succ]
              refine anyH_one 1 (by kernel_rfl) ?_
              refine wpOp_step rfl (fun Kc hKc => ?_)
              go_simp
              refine (HBD.out _ R9.out).mono ?_
              rintro e10 z10 ⟨rfl, hb⟩
              have R10 := Lib.hid (R9.out.old hb)
              have V10 : Hid (Below w5.heap.size w5 z10) := V9.out.trans (hb.mono V9.out.size)
              have SD10 := Lib.hid (HEC.out _ V10.out)
              dsimp only
              refine hKc _ _ ⟨SD10.out, ?_⟩
              clear hKc Kc SD hb
              have SD := SD10
              try simp only [Act.put, List.setIfInBounds_toArray, List.set_cons_zero, List.set_cons_succ]
              refine anyH_take 8 117 (.bool false) SD.out rfl (by kernel_rfl) (by kernel_rfl) (by kernel_rfl) (fun _ _ _ h => h) (by rfl) (by intro y hy; go_simp) ?_
              try simp only [Act.put, List.setIfInBounds_toArray, List.set_cons_zero, List.set_cons_succ]
              refine anyH_take 9 118 (.bool false) SD.out rfl (by kernel_rfl) (by kernel_rfl) (by kernel_rfl) (fun _ _ _ h => h) (by rfl) (by intro y hy; go_simp) ?_
              try simp only [Act.put, List.setIfInBounds_toArray, List.set_cons_zero, List.set_cons_succ]
              refine anyH_take 10 119 (.pointer (some ⟨g, 0, none⟩)) SD.out rfl (by kernel_rfl) (by kernel_rfl) (by kernel_rfl) (fun _ _ _ h => h) (by rfl) (by intro y hy; go_simp) ?_
              try simp only [Act.put, List.setIfInBounds_toArray, List.set_cons_zero, List.set_cons_succ]
              refine anyH_one 11 (by kernel_rfl) ?_
              refine wpOp_step rfl (fun Kc hKc => ?_)
              go_simp
              refine (HBD.out _ R10.out).mono ?_
              rintro e11 z11 ⟨rfl, hb⟩
              have R11 := Lib.hid (R10.out.old hb)
              have V11 : Hid (Below w5.heap.size w5 z11) := V10.out.trans (hb.mono V10.out.size)
              have SD11 := Lib.hid (HEC.out _ V11.out)
              dsimp only
              refine hKc _ _ ⟨SD11.out, ?_⟩
              clear hKc Kc SD hb
              have SD := SD11
              try simp only [Act.put, List.setIfInBounds_toArray, List.set_cons_zero, List.set_cons_succ]
              refine anyH_take 12 121 (.bool false) SD.out rfl (by kernel_rfl) (by kernel_rfl) (by kernel_rfl) (fun _ _ _ h => h) (by rfl) (by intro y hy; go_simp) ?_
              try simp only [Act.put, List.setIfInBounds_toArray, List.set_cons_zero, List.set_cons_succ]
              refine anyH_take 13 122 (.bool false) SD.out rfl (by kernel_rfl) (by kernel_rfl) (by kernel_rfl) (fun _ _ _ h => h) (by rfl) (by intro y hy; go_simp) ?_
              try simp only [Act.put, List.setIfInBounds_toArray, List.set_cons_zero, List.set_cons_succ]
              refine anyH_skip 14 123 SD.out rfl (by kernel_rfl) (by kernel_rfl) (by kernel_rfl) (fun _ _ _ h => h) (by rfl) ?_
              try simp only [Act.put, List.setIfInBounds_toArray, List.set_cons_zero, List.set_cons_succ]
              refine anyH_skip 15 124 SD.out rfl (by kernel_rfl) (by kernel_rfl) (by kernel_rfl) (fun _ _ _ h => h) (by rfl) ?_
              try simp only [Act.put, List.setIfInBounds_toArray, List.set_cons_zero, List.set_cons_succ]
              refine anyH_take 16 125 (.bool false) SD.out rfl (by kernel_rfl) (by kernel_rfl) (by kernel_rfl) (fun _ _ _ h => h) (by rfl) (by intro y hy; go_simp) ?_
              try simp only [Act.put, List.setIfInBounds_toArray, List.set_cons_zero, List.set_cons_succ]
              refine anyH_take 17 126 (.bool false) SD.out rfl (by kernel_rfl) (by kernel_rfl) (by kernel_rfl) (fun _ _ _ h => h) (by rfl) (by intro y hy; go_simp) ?_
              try simp only [Act.put, List.setIfInBounds_toArray, List.set_cons_zero, List.set_cons_succ]
              refine wpAnyH_done (by kernel_rfl) ?_ _
              have HCL : Hid (∀ y, RdAt y g D [] true → Calls Try.prog 31 #[.pointer (some ⟨g, 0, none⟩)] y (EndSay 0 y)) := fun y hy => left_any [] true g D y hy
              have HCE : Hid (∀ y, RdAt y g D [] true → Calls Try.prog 34 #[.pointer (some ⟨g, 0, none⟩)] y (EndSay 4 y)) := fun y hy => by
                have h := end_any [] true g D y hy
                rw [show Pk.en [] true = 4 by unfold Pk.en; rfl] at h
                exact h
              have HCI : Hid (∀ y, RdAt y g D [] true → Calls Try.prog 25 #[.pointer (some ⟨g, 0, none⟩)] y (RdSay (.int .i64 0) [] true g D y)) := fun y hy => by
                have h := rint_any [] true g D 0 rfl (by omega) y hy
                rw [Pk.vi_nil.1, Pk.vi_nil.2.1, Pk.vi_nil.2.2] at h
                exact h
              have W11 : Hid (Below w.heap.size w z11) := HW.out.trans (V11.out.mono HW.out.size)
              have GW : Hid (w.heap.size ≤ g) := Nat.le_trans HW.out.size GG.out
              go_wp2_with (first
                | (go_at_call 9; refine (HK.out _).mono ?_; rintro e16 z16 ⟨rfl, hb16⟩)
                | (go_at_call 25; refine (HCI.out _ R14.out).mono ?_; rintro e15 z15 ⟨rfl, R15, O15⟩; have W15 : Hid (Below w.heap.size w z15) := O15.out.below W14.out GW.out W14.out.size)
                | (go_at_call 34; refine (HCE.out _ R13.out).mono ?_; rintro e14 z14 ⟨rfl, hb14⟩; have R14 := Lib.hid (R13.out.old hb14); have W14 : Hid (Below w.heap.size w z14) := W13.out.trans (hb14.mono W13.out.size))
                | (go_at_call 31; refine (HCL.out _ R12.out).mono ?_; rintro e13 z13 ⟨rfl, hb13⟩; have R13 := Lib.hid (R12.out.old hb13); have W13 : Hid (Below w.heap.size w z13) := W12.out.trans (hb13.mono W12.out.size))
                | (go_at_call 33; refine (HBD.out _ R11.out).mono ?_; rintro e12 z12 ⟨rfl, hb12⟩; have R12 := Lib.hid (R11.out.old hb12); have W12 : Hid (Below w.heap.size w z12) := W11.out.trans (hb12.mono W11.out.size)))
              go_ret
              exact ⟨rfl, W15.out.trans (hb16.mono W15.out.size)⟩
        · obtain rfl : k = N := by omega
          have hi1 : ¬ (k : Int) < (k : Int) := by omega
          have HRG : Hid (RdAt wr g D [] false) := by
            have h := HR.out
            have e : X.drop (Pk.pt l k).length = [] := List.eq_nil_of_length_eq_zero (by rw [HLX.out k]; have := HLN.out; omega)
            rw [e] at h
            exact h
          have HCE : Hid (∀ y, RdAt y g D [] false → Calls Try.prog 34 #[.pointer (some ⟨g, 0, none⟩)] y (EndSay 0 y)) := fun y hy => by
            have h := end_any [] false g D y hy
            rw [Pk.k9_en] at h
            exact h
          have HW5 : Hid (Below w.heap.size w wr) := HW.out.trans (HV.out.mono HW.out.size)
          clear hlt HR HLX HCX HMO HEA
          go_wp2_with (first
            | (go_at_call 9; refine (HK.out _).mono ?_; rintro e9 w9 ⟨rfl, hb9⟩)
            | (go_at_call 34; refine (HCE.out _ HRG.out).mono ?_; rintro e8 w8 ⟨rfl, hb8⟩; have W8 : Hid (Below w.heap.size w w8) := HW5.out.trans (hb8.mono HW5.out.size)))
          go_ret
          exact ⟨rfl, W8.out.trans (hb9.mono W8.out.size)⟩
end Go.Proofs.Ytlgnlilfagjejaa

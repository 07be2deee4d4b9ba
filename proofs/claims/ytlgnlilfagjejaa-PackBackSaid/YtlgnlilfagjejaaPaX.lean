/-
  PackBack: the law walked.
-/
import Derived.Test.YtlgnlilfagjejaaPaX0
import Derived.Lib.MinMax
namespace Go.Proofs.Ytlgnlilfagjejaa
open Go.RowKit

set_option maxHeartbeats 1000000 in
set_option maxRecDepth 100000 in
theorem back_big (v : Value) (p : Option Addr) (n c : Nat) (hbig : ¬ n ≤ 4096) (w : World) :
    Calls Try.prog 5 #[v, .slice p n c] w (YesSay w) := by
  have hgt : (n : Int) > 4096 := by omega
  have HK : Hid (∀ y, Calls Try.prog 9 #[] y (YesSay y)) := fun y => known_any y
  go_enter Try.func5, Try.ntmps5
  go_wp2_with (go_at_call 9; refine (HK.out _).mono ?_; rintro e1 w1 ⟨rfl, hb1⟩)
  go_ret
  exact ⟨rfl, hb1⟩
set_option maxHeartbeats 8000000 in
set_option maxRecDepth 100000 in
theorem back_true (l : Nat → Pk.Th) (tp : Option Addr) (M d : Nat) (G : List Int) (q : Option Addr) (n2 c2 : Nat) (hG : G.length = n2) (hn2 : n2 ≤ 4096) (hMd : M ≤ d) (hd : d ≤ 9223372036854775807) (w : World) (ht : TRows w tp M l) (hq : Bs w q c2 G) :
    Calls Try.prog 5 #[.slice tp M d, .slice q n2 c2] w (YesSay w) := by
  have HOK := Lib.hid ht.1
  have HTH : Hid (∀ tb tf, tp = some ⟨tb, tf, none⟩ → ∀ k, k < M → ∀ y, Below w.heap.size w y → ThAt y tb (tf + k * 35) (l k)) := fun tb tf e k hk y hy => by
    obtain ⟨tb', tf', e', _, h⟩ := ht.2 (by omega)
    rw [e'] at e
    cases e
    exact th_at (rng_old (h k hk) hy)
  have HTP : Hid (0 < M → ∃ tb tf, tp = some ⟨tb, tf, none⟩) := fun h0 => by
    obtain ⟨tb, tf, e, _⟩ := ht.2 h0
    exact ⟨tb, tf, e⟩
  have HK : Hid (∀ y, Calls Try.prog 9 #[] y (YesSay y)) := fun y => known_any y
  have HPK : Hid (∀ (x : Pk.Th) (y : World), Calls Try.prog 22 #[.int .i64 x.k, .int .i64 3] y fun r w' => w' = y ∧ r = .returned (.int .i64 (Pk.kd x : Nat))) := fun x y => by
    unfold Pk.kd
    exact pick_at x.k 3 (by omega) (by omega) y
  have HLE : Hid (∀ k, k ≤ 60 → (Pk.pt l k).length ≤ 40 * 60) := fun k hk => by
    have h := Pk.pt_le HOK.out k
    omega
  have HQ := Lib.hid hq
  have HGL := Lib.hid hG
  obtain ⟨N, hN⟩ : ∃ N, N = min M 60 := ⟨_, rfl⟩
  have hmin : min (M : Int) 60 = (N : Int) := by omega
  have hNM : N ≤ M := by omega
  have hN6 : N ≤ 60 := by omega
  have hle : ¬ (n2 : Int) > 4096 := by omega
  have hs1 : (N : Int) ≤ (d : Int) := by omega
  clear hN ht hq hG
  go_enter Try.func5, Try.ntmps5
  go_wp2
  go_loopw [5, 6] (fun u5 u6 wr => ∃ k p c m, k ≤ N ∧ u6 = .int .i64 (k : Nat) ∧ u5 = .slice p m c ∧ Hid ((Pk.pt l k).length = m) ∧ Hid (Bs wr p c (Pk.pt l k)) ∧ Hid (Below w.heap.size w wr)) (fun _ u6 _ => N - (intOf u6).toNat)
  case atStart => exact ⟨0, none, 0, 0, by omega, rfl, rfl, by show _ = _; rw [Pk.pt_zero]; rfl, by show Bs _ _ _ _; rw [Pk.pt_zero]; exact bs_none w, Below.refl _ _⟩
  case round =>
    obtain ⟨k, p, c, m, hk, rfl, rfl, HM, HB, HW⟩ := hrel
    have hmm := HLE.out k (by omega)
    rw [HM.out] at hmm
    by_cases hlt : k < N
    · obtain ⟨tb, tf, htp⟩ := HTP.out (by omega)
      subst htp
      have HTA := Lib.hid (HTH.out tb tf rfl k (by omega))
      have HXO := Lib.hid (HOK.out k)
      have HPS := Lib.hid (Pk.pt_succ l k)
      have HPL := Lib.hid (Pk.pt_len HOK.out k)
      obtain ⟨x, hx⟩ : ∃ x, l k = x := ⟨_, rfl⟩
      rw [hx] at HTA HXO HPS HPL
      obtain ⟨P1, hP1⟩ : ∃ P1, Pk.pt l (k + 1) = P1 := ⟨_, rfl⟩
      rw [hP1] at HPS HPL
      have hi0 : (0 : Int) ≤ (k : Int) := by omega
      have hi1 : (k : Int) < (N : Int) := by omega
      have HPX := Lib.hid (HPK.out x)
      have c0 := (HTA.out _ HW.out).ck
      go_upto_region 10 with (go_at_call 22; refine (HPX.out _).mono ?_; rintro e6 w6 ⟨rfl, rfl⟩)
      have hj := Pk.kd_lt x
      obtain hj0 | hj1 | hj2 : Pk.kd x = 0 ∨ Pk.kd x = 1 ∨ Pk.kd x = 2 := by omega
      · have HZ : Hid (Pk.sz x = 8) := by show _ = _; unfold Pk.sz; rw [if_pos hj0]
        have HBT : Hid (Pk.bts x = Pk.e8 x.n 8) := by show _ = _; unfold Pk.bts; rw [if_pos hj0]
        have c1 := (HTA.out _ HW.out).cn
        have HC : Hid (Calls Try.prog 11 #[.slice p m c, .int .i64 x.n] w6 (RowOf P1 (m + 8) w6)) := by rw [← HPS.out, HBT.out]; exact int_any (Pk.pt l k) x.n p m c (m + 8) HM.out rfl (by omega) w6 HB.out
        rw [HZ.out, HM.out] at HPL
        clear HBT HZ HPS HXO HPX HTA
        rw [hj0]
        go_wp2_with (go_at_call 11; refine HC.out.mono ?_; rintro e7 w7 ⟨p7, c7, rfl, HO7, HB7, HL7⟩; have W7 : Hid (Below w.heap.size w w7) := HW.out.trans (HL7.out.mono HW.out.size))
        refine ⟨⟨k + 1, p7, c7, m + 8, by omega, by go_num, rfl, by rw [hP1]; exact HPL.out, by rw [hP1]; exact HB7.out, W7.out⟩, by simp [intOf]; omega⟩
      · have HZ : Hid (Pk.sz x = 32) := by show _ = _; unfold Pk.sz; rw [if_neg (by omega), if_pos hj1]
        have HBT : Hid (Pk.bts x = x.s) := by show _ = _; unfold Pk.bts; rw [if_neg (by omega), if_pos hj1]
        obtain ⟨A, HA, HA2, _⟩ : ∃ A : Array Value, Hid (A32 x.s = .agg A) ∧ Hid (A.size = 32) ∧ _ := a32_agg x.s HXO.out.2.2.1
        have HAA : Hid (A = (x.s.map (Value.int .u8)).toArray) := by have h := HA.out; unfold A32 at h; cases h; rfl
        have c1 := (HTA.out _ HW.out).cs A HAA.out
        have HC : Hid (Calls Try.prog 12 #[.slice p m c, .agg A] w6 (RowOf P1 (m + 32) w6)) := by rw [← HPS.out, HBT.out, ← HA.out]; exact sum_any (Pk.pt l k) x.s HXO.out.2.2.1 HXO.out.2.2.2 p m c (m + 32) HM.out rfl (by omega) w6 HB.out
        rw [HZ.out, HM.out] at HPL
        clear HBT HZ HPS HXO HPX HTA
        rw [hj1]
        go_wp2_with (first
          | (go_at_call 12; refine HC.out.mono ?_; rintro e7 w7 ⟨p7, c7, rfl, HO7, HB7, HL7⟩; have W7 : Hid (Below w.heap.size w w7) := HW.out.trans (HL7.out.mono HW.out.size))
          | ((with_reducible refine rng_load _ _ _ _ _ _ ?_ c1 Try.underlying24 ?_ (row_size Try.sizeSum HA2) ?_); (exact rfl); (exact rfl)))
        refine ⟨⟨k + 1, p7, c7, m + 32, by omega, by go_num, rfl, by rw [hP1]; exact HPL.out, by rw [hP1]; exact HB7.out, W7.out⟩, by simp [intOf]; omega⟩
      · have HZ : Hid (Pk.sz x = 40) := by show _ = _; unfold Pk.sz; rw [if_neg (by omega), if_neg (by omega)]
        have HBT : Hid (Pk.bts x = Pk.ref (x.a, x.s)) := by show _ = _; unfold Pk.bts; rw [if_neg (by omega), if_neg (by omega)]
        obtain ⟨A, HA, HA2, _⟩ : ∃ A : Array Value, Hid (R33 (x.a, x.s) = .agg A) ∧ Hid (A.size = 33) ∧ _ := r33_agg (x.a, x.s) HXO.out.2.2.1
        have HAA : Hid (A = (Value.int .i64 x.a :: x.s.map (Value.int .u8)).toArray) := by have h := HA.out; unfold R33 at h; cases h; rfl
        have c1 := (HTA.out _ HW.out).cr A HAA.out
        have HC : Hid (Calls Try.prog 13 #[.slice p m c, .agg A] w6 (RowOf P1 (m + 40) w6)) := by rw [← HPS.out, HBT.out, ← HA.out]; exact ref_any (Pk.pt l k) (x.a, x.s) HXO.out.2.2.1 HXO.out.2.2.2 p m c (m + 40) HM.out rfl (by omega) w6 HB.out
        rw [HZ.out, HM.out] at HPL
        clear HBT HZ HPS HXO HPX HTA
        rw [hj2]
        go_wp2_with (first
          | (go_at_call 13; refine HC.out.mono ?_; rintro e7 w7 ⟨p7, c7, rfl, HO7, HB7, HL7⟩; have W7 : Hid (Below w.heap.size w w7) := HW.out.trans (HL7.out.mono HW.out.size))
          | ((with_reducible refine rng_load _ _ _ _ _ _ ?_ c1 Try.underlying26 ?_ (row_size Try.sizeRef HA2) ?_); (exact rfl); (exact rfl)))
        refine ⟨⟨k + 1, p7, c7, m + 40, by omega, by go_num, rfl, by rw [hP1]; exact HPL.out, by rw [hP1]; exact HB7.out, W7.out⟩, by simp [intOf]; omega⟩
    · obtain rfl : N = k := by omega
      have hi1 : ¬ (N : Int) < (N : Int) := by omega
      have HLN : Hid ((Pk.pt l N).length ≤ 2400) := HLE.out N (by omega)
      have hk6 := hN6
      have HTZ := Lib.hid (Pk.tl_zero l N)
      have HTE := Lib.hid (Pk.tl_end l N)
      have HTS := Lib.hid (Pk.tl_step l N)
      have HTB := Lib.hid (Pk.tl_byt HOK.out N)
      obtain ⟨B, hBe⟩ : ∃ B, Pk.pt l N = B := ⟨_, rfl⟩
      rw [hBe] at HM HB HTZ
      have HCP : Hid (Calls Try.prog 36 #[.slice p m c] wr fun e w' => ∃ v, e = .returned v ∧ w'.ownsRow wr.heap.size 5 1 v m (U8s B) ∧ Below wr.heap.size wr w') := copybytes_any B p m c HM.out (by rw [HM.out]; omega) wr HB.out.bat
      have HBY : Hid (Sha.Byt (B ++ G)) := Sha.byt_append HB.out.bat.1 HQ.out.bat.1
      obtain ⟨n5, hn5⟩ : ∃ n, m + n2 = n := ⟨_, rfl⟩
      have HBG : Hid ((B ++ G).length = n5) := by show _ = _; rw [List.length_append, HM.out, HGL.out, hn5]
      have HN5 : Hid (n5 ≤ 10000) := by show _ ≤ _; omega
      have HRD : Hid (∀ y p c, Bs y p c (B ++ G) → Calls Try.prog 20 #[.slice p n5 c] y (NewSay (B ++ G) y)) := fun y p c hy => read_any (B ++ G) p n5 c HBG.out (by omega) y hy
      have HQ1 : Hid (∀ y, Below wr.heap.size wr y → Bs y q c2 G) := fun y hy => HQ.out.old (HW.out.trans (hy.mono HW.out.size))
      have hml : m + n2 ≤ 1000000 := by omega
      clear hBe HLE hmm
      go_upto_region 15 with (first
        | (go_at_call 20; refine (HRD.out _ _ _ B5.out).mono ?_; rintro e6 w6 ⟨g, D, rfl, R6, G6, L6⟩)
        | (at_builtin; refine append_bts _ _ G wr.heap.size _ _ _ q _ c2 rfl rfl HGL.out Q1.out O1.out (by omega) H1.out.size ?_; intro v5 w5 ho5 hg5; have H5 : Hid (Below wr.heap.size wr w5) := H1.out.grown hg5 H1.out.size (fun q hq => (O1.out.lt q hq).1); obtain ⟨p5, c5, hv5, hbs5, _⟩ := own_bs ho5 HBY.out; rw [HBG.out] at hv5; subst hv5; have B5 := Lib.hid hbs5; clear hg5 ho5 hbs5)
        | (go_at_call 36; refine HCP.out.mono ?_; rintro e1 w1 ⟨v1, rfl, ho1, hb1⟩; have O1 := Lib.hid ho1; have H1 := Lib.hid hb1; have Q1 := Lib.hid (HQ1.out _ H1.out); clear ho1 hb1)
        | go_in)
      have W6 : Hid (Below w.heap.size w w6) := (HW.out.trans (H5.out.mono HW.out.size)).trans (L6.out.mono (HW.out.trans (H5.out.mono HW.out.size)).size)
      have GG : Hid (w.heap.size ≤ g) := Nat.le_trans (HW.out.trans (H5.out.mono HW.out.size)).size G6.out.1
      have R6' : Hid (RdAt w6 g D (Pk.tl l N 0 ++ G) false) := by rw [HTZ.out]; exact R6.out
      have HXL : Hid (∀ k, (Pk.tl l N k ++ G).length ≤ 10000) := fun k => by
        have h : (Pk.tl l N k).length ≤ (Pk.pt l N).length := by unfold Pk.tl; simp
        have h2 := HLN.out
        rw [List.length_append, HGL.out]
        omega
      clear HTZ HM HB HCP HBY HBG HN5 HRD HQ1 hml B5 H5 O1 H1 Q1 R6 G6 L6 HW HQ
      go_wp2
      go_loopw [8] (fun u8 wr => ∃ k : Nat, k ≤ N ∧ u8 = .int .i64 k ∧ Hid (RdAt wr g D (Pk.tl l N k ++ G) false) ∧ Hid (Below w.heap.size w wr)) (fun u8 _ => N - (intOf u8).toNat)
      case atStart => exact ⟨0, by omega, rfl, R6'.out, W6.out⟩
      case round =>
        clear R6' W6
        obtain ⟨k, hk, rfl, HR, HW⟩ := hrel
        by_cases hlt : k < N
        · obtain ⟨tb, tf, htp⟩ := HTP.out (by omega)
          subst htp
          have HTA := Lib.hid (HTH.out tb tf rfl k (by omega))
          have HXO := Lib.hid (HOK.out k)
          have HX0 := Lib.hid (HTS.out k hlt)
          have HXK := Lib.hid (HXL.out k)
          obtain ⟨x, hx⟩ : ∃ x, l k = x := ⟨_, rfl⟩
          rw [hx] at HTA HXO HX0
          obtain ⟨T, hT⟩ : ∃ T, Pk.tl l N (k + 1) ++ G = T := ⟨_, rfl⟩
          have HX1 : Hid (Pk.tl l N k ++ G = Pk.bts x ++ T) := by show _ = _; rw [HX0.out, List.append_assoc, hT]
          rw [HX1.out] at HR HXK
          clear HX0 HX1
          have hi0 : (0 : Int) ≤ (k : Int) := by omega
          have hi1 : (k : Int) < (N : Int) := by omega
          have hi2 : (k : Int) < (M : Int) := by omega
          have HPX := Lib.hid (HPK.out x)
          have c0 := (HTA.out _ HW.out).ck
          have HBD : Hid (∀ y, RdAt y g D T false → Calls Try.prog 33 #[.pointer (some ⟨g, 0, none⟩)] y (BadSay false y)) := fun y hy => bad_any T false g D y hy
          go_upto_region 21 with (go_at_call 22; refine (HPX.out _).mono ?_; rintro e6 w7 ⟨rfl, rfl⟩)
          have hj := Pk.kd_lt x
          have HW1 : Hid (Below w.heap.size w w7.drew) := HW.out.drew
          have R1 := Lib.hid HR.out.drew
          obtain hj0 | hj1 | hj2 : Pk.kd x = 0 ∨ Pk.kd x = 1 ∨ Pk.kd x = 2 := by omega
          · have HC : Hid (∀ y, RdAt y g D (Pk.bts x ++ T) false → Calls Try.prog 25 #[.pointer (some ⟨g, 0, none⟩)] y (RdSay (.int .i64 x.n) T false g D y)) := fun y hy => by
              have h := rint_any (Pk.bts x ++ T) false g D _ rfl (by have := HXK.out; omega) y hy
              obtain ⟨e1, e2, e3⟩ := Pk.rd0 HXO.out hj0 T
              rw [e1, e2, e3] at h
              exact h
            have C1 := Lib.hid (HTA.out _ HW1.out).cn
            rw [hj0]
            clear c0 HPX
            go_upto_region 22 with (fail)
            go_region_held3 (fun y => y.cell? ⟨tb, tf + k * 35 + 1, none⟩ = some (.int .i64 x.n)) (exact (Hid.out (by assumption)))
              ((go_at_call 25; refine (HC.out _ R1.out).mono ?_; rintro e8 w8 ⟨rfl, R8, O8⟩; have W8 : Hid (Below w.heap.size w w8) := O8.out.below HW1.out GG.out HW1.out.size; have C8 := Lib.hid (HTA.out _ W8.out).cn))
            go_wp2_with (go_at_call 33; refine (HBD.out _ R8.out).mono ?_; rintro e9 w9 ⟨rfl, hb9⟩)
            exact ⟨⟨k + 1, by omega, by go_num, by rw [hT]; exact R8.out.old hb9, W8.out.trans (hb9.mono W8.out.size)⟩, by simp [intOf]; omega⟩
          · have HC0 : Hid (∀ y, RdAt y g D (Pk.bts x ++ T) false → Calls Try.prog 27 #[.pointer (some ⟨g, 0, none⟩)] y (RdSay (A32 x.s) T false g D y)) := fun y hy => by
              have h := rsum_any (Pk.bts x ++ T) false g D _ rfl (by have := HXK.out; omega) y hy
              obtain ⟨e1, e2, e3⟩ := Pk.rd1 HXO.out hj1 T
              rw [e1, e2, e3] at h
              exact h
            obtain ⟨A, HA, HA2, _⟩ : ∃ A : Array Value, Hid (A32 x.s = .agg A) ∧ Hid (A.size = 32) ∧ _ := a32_agg x.s HXO.out.2.2.1
            have HAA : Hid (A = (x.s.map (Value.int .u8)).toArray) := by have h := HA.out; unfold A32 at h; cases h; rfl
            have HEQ : ∀ y, (Op.equalIn 10000 24 (.agg A) (.agg A)).run Try.prog y = .ok true y := fun y => by
              have h := a32_eq x.s x.s HXO.out.2.2.1 HXO.out.2.2.1 y
              rw [decide_eq_true rfl, HA.out] at h
              exact h
            have HC : Hid (∀ y, RdAt y g D (Pk.bts x ++ T) false → Calls Try.prog 27 #[.pointer (some ⟨g, 0, none⟩)] y (RdSay (.agg A) T false g D y)) := fun y hy => by rw [← HA.out]; exact HC0.out y hy
            have SD := Lib.hid ((HTA.out _ HW1.out).cs A HAA.out)
            rw [hj1]
            clear c0 HPX HC0 HA
            go_upto_region 24 with (fail)
            refine wp_region_any (by kernel_rfl) ?_
            change wpAny _ _ _ _ _ _ _ (World.drew _)
            obtain ⟨z, hz⟩ : ∃ z, z = w7.drew := ⟨_, rfl⟩
            rw [← hz] at HW1 R1 SD ⊢
            clear hz
            refine wpAny_of_held (S := fun y => y.rangeAt tb (tf + k * 35 + 3) A.toList) _ _ _ _ ?_
            refine anyH_take 0 94 (.pointer (some ⟨g, 0, none⟩)) SD.out rfl (by kernel_rfl) (by kernel_rfl) (by kernel_rfl) (fun _ _ _ h => h) (by rfl) (by intro y hy; go_simp) ?_
            try simp only [Act.put, List.setIfInBounds_toArray, List.set_cons_zero, List.set_cons_succ]
            refine anyH_take 2 96 (.slice (some ⟨tb, tf, none⟩) N d) SD.out rfl (by kernel_rfl) (by kernel_rfl) (by kernel_rfl) (fun _ _ _ h => h) (by rfl) (by intro y hy; go_simp) ?_
            try simp only [Act.put, List.setIfInBounds_toArray, List.set_cons_zero, List.set_cons_succ]
            refine anyH_take 3 97 (.int .i64 (k : Int)) SD.out rfl (by kernel_rfl) (by kernel_rfl) (by kernel_rfl) (fun _ _ _ h => h) (by rfl) (by intro y hy; go_simp) ?_
            try simp only [Act.put, List.setIfInBounds_toArray, List.set_cons_zero, List.set_cons_succ]
            refine anyH_take 4 98 (.pointer (some ⟨tb, tf + k * 35, none⟩)) SD.out rfl (by kernel_rfl) (by kernel_rfl) (by kernel_rfl) (fun _ _ _ h => h) (by rfl) (by intro y hy; go_simp) ?_
            try simp only [Act.put, List.setIfInBounds_toArray, List.set_cons_zero, List.set_cons_succ]
            refine anyH_take 5 99 (.pointer (some ⟨tb, tf + k * 35 + 2, none⟩)) SD.out rfl (by kernel_rfl) (by kernel_rfl) (by kernel_rfl) (fun _ _ _ h => h) (by rfl) (by intro y hy; go_simp) ?_
            try simp only [Act.put, List.setIfInBounds_toArray, List.set_cons_zero, List.set_cons_succ]
            refine anyH_take 6 100 (.pointer (some ⟨tb, tf + k * 35 + 3, none⟩)) SD.out rfl (by kernel_rfl) (by kernel_rfl) (by kernel_rfl) (fun _ _ _ h => h) (by rfl) (by intro y hy; go_simp) ?_
            try simp only [Act.put, List.setIfInBounds_toArray, List.set_cons_zero, List.set_cons_succ]
            refine anyH_take 7 101 (.agg A) SD.out rfl (by kernel_rfl) (by kernel_rfl) (by kernel_rfl) (fun _ _ _ h => h) (by rfl) (fun y hy => exec_arr 24 (.tmp 100) tb (tf + k * 35 + 3) A _ rfl hy Try.underlying24 rfl (row_size Try.sizeSum HA2)) ?_
            try simp only [Act.put, List.setIfInBounds_toArray, List.set_cons_zero, List.set_cons_succ]
            refine anyH_one 1 (by kernel_rfl) ?_
            refine wpOp_step rfl (fun Kc hKc => ?_)
            go_simp
            refine (HC.out _ R1.out).mono ?_
            rintro e8 w8 ⟨rfl, R8, O8⟩
            have W8 : Hid (Below w.heap.size w w8) := O8.out.below HW1.out GG.out HW1.out.size
            have SD8 := Lib.hid ((HTA.out _ W8.out).cs A HAA.out)
            dsimp only
            refine hKc _ _ ⟨SD8.out, ?_⟩
            clear hKc Kc SD
            have SD := SD8
            try simp only [Act.put, List.setIfInBounds_toArray, List.set_cons_zero, List.set_cons_succ]
            refine anyH_take 8 102 (.bool true) SD.out rfl (by kernel_rfl) (by kernel_rfl) (by kernel_rfl) (fun _ _ _ h => h) (by rfl) (by intro y hy; go_simp) ?_
            try simp only [Act.put, List.setIfInBounds_toArray, List.set_cons_zero, List.set_cons_succ]
            refine anyH_one 9 (by kernel_rfl) ?_
            refine wpOp_step rfl (fun Kc hKc => ?_)
            go_simp
            refine hKc _ _ ⟨SD.out, ?_⟩
            clear hKc Kc
            refine wpAnyH_done (by kernel_rfl) ?_ _
            go_wp2_with (go_at_call 33; refine (HBD.out _ R8.out).mono ?_; rintro e9 w9 ⟨rfl, hb9⟩)
            exact ⟨⟨k + 1, by omega, by go_num, by rw [hT]; exact R8.out.old hb9, W8.out.trans (hb9.mono W8.out.size)⟩, by simp [intOf]; omega⟩
          · have HC0 : Hid (∀ y, RdAt y g D (Pk.bts x ++ T) false → Calls Try.prog 29 #[.pointer (some ⟨g, 0, none⟩)] y (RdSay (R33 (x.a, x.s)) T false g D y)) := fun y hy => by
              have h := rref_any (Pk.bts x ++ T) false g D _ rfl (by have := HXK.out; omega) y hy
              obtain ⟨e1, e2, e3⟩ := Pk.rd2 HXO.out hj2 T
              rw [e1, e2, e3] at h
              exact h
            obtain ⟨A, HA, HA2, _⟩ : ∃ A : Array Value, Hid (R33 (x.a, x.s) = .agg A) ∧ Hid (A.size = 33) ∧ _ := r33_agg (x.a, x.s) HXO.out.2.2.1
            have HAA : Hid (A = (Value.int .i64 x.a :: x.s.map (Value.int .u8)).toArray) := by have h := HA.out; unfold R33 at h; cases h; rfl
            have HEQ : ∀ y, (Op.equalIn 10000 26 (.agg A) (.agg A)).run Try.prog y = .ok true y := fun y => by
              have h := r33_eqs (x.a, x.s) (x.a, x.s) HXO.out.2.2.1 HXO.out.2.2.1 y
              rw [decide_eq_true rfl, HA.out] at h
              exact h
            have HC : Hid (∀ y, RdAt y g D (Pk.bts x ++ T) false → Calls Try.prog 29 #[.pointer (some ⟨g, 0, none⟩)] y (RdSay (.agg A) T false g D y)) := fun y hy => by rw [← HA.out]; exact HC0.out y hy
            have SD := Lib.hid ((HTA.out _ HW1.out).cr A HAA.out)
            rw [hj2]
            clear c0 HPX HC0 HA
            go_upto_region 20 with (fail)
            refine wp_region_any (by kernel_rfl) ?_
            change wpAny _ _ _ _ _ _ _ (World.drew _)
            obtain ⟨z, hz⟩ : ∃ z, z = w7.drew := ⟨_, rfl⟩
            rw [← hz] at HW1 R1 SD ⊢
            clear hz
            refine wpAny_of_held (S := fun y => y.rangeAt tb (tf + k * 35 + 2) A.toList) _ _ _ _ ?_
            refine anyH_take 0 74 (.pointer (some ⟨g, 0, none⟩)) SD.out rfl (by kernel_rfl) (by kernel_rfl) (by kernel_rfl) (fun _ _ _ h => h) (by rfl) (by intro y hy; go_simp) ?_
            try simp only [Act.put, List.setIfInBounds_toArray, List.set_cons_zero, List.set_cons_succ]
            refine anyH_take 2 76 (.slice (some ⟨tb, tf, none⟩) N d) SD.out rfl (by kernel_rfl) (by kernel_rfl) (by kernel_rfl) (fun _ _ _ h => h) (by rfl) (by intro y hy; go_simp) ?_
            try simp only [Act.put, List.setIfInBounds_toArray, List.set_cons_zero, List.set_cons_succ]
            refine anyH_take 3 77 (.int .i64 (k : Int)) SD.out rfl (by kernel_rfl) (by kernel_rfl) (by kernel_rfl) (fun _ _ _ h => h) (by rfl) (by intro y hy; go_simp) ?_
            try simp only [Act.put, List.setIfInBounds_toArray, List.set_cons_zero, List.set_cons_succ]
            refine anyH_take 4 78 (.pointer (some ⟨tb, tf + k * 35, none⟩)) SD.out rfl (by kernel_rfl) (by kernel_rfl) (by kernel_rfl) (fun _ _ _ h => h) (by rfl) (by intro y hy; go_simp) ?_
            try simp only [Act.put, List.setIfInBounds_toArray, List.set_cons_zero, List.set_cons_succ]
            refine anyH_take 5 79 (.pointer (some ⟨tb, tf + k * 35 + 2, none⟩)) SD.out rfl (by kernel_rfl) (by kernel_rfl) (by kernel_rfl) (fun _ _ _ h => h) (by rfl) (by intro y hy; go_simp) ?_
            try simp only [Act.put, List.setIfInBounds_toArray, List.set_cons_zero, List.set_cons_succ]
            refine anyH_take 6 80 (.agg A) SD.out rfl (by kernel_rfl) (by kernel_rfl) (by kernel_rfl) (fun _ _ _ h => h) (by rfl) (fun y hy => exec_arr 26 (.tmp 79) tb (tf + k * 35 + 2) A _ rfl hy Try.underlying26 rfl (row_size Try.sizeRef HA2)) ?_
            try simp only [Act.put, List.setIfInBounds_toArray, List.set_cons_zero, List.set_cons_succ]
            refine anyH_one 1 (by kernel_rfl) ?_
            refine wpOp_step rfl (fun Kc hKc => ?_)
            go_simp
            refine (HC.out _ R1.out).mono ?_
            rintro e8 w8 ⟨rfl, R8, O8⟩
            have W8 : Hid (Below w.heap.size w w8) := O8.out.below HW1.out GG.out HW1.out.size
            have SD8 := Lib.hid ((HTA.out _ W8.out).cr A HAA.out)
            dsimp only
            refine hKc _ _ ⟨SD8.out, ?_⟩
            clear hKc Kc SD
            have SD := SD8
            try simp only [Act.put, List.setIfInBounds_toArray, List.set_cons_zero, List.set_cons_succ]
            refine anyH_take 7 81 (.bool true) SD.out rfl (by kernel_rfl) (by kernel_rfl) (by kernel_rfl) (fun _ _ _ h => h) (by rfl) (by intro y hy; go_simp) ?_
            try simp only [Act.put, List.setIfInBounds_toArray, List.set_cons_zero, List.set_cons_succ]
            refine anyH_one 8 (by kernel_rfl) ?_
            refine wpOp_step rfl (fun Kc hKc => ?_)
            go_simp
            refine hKc _ _ ⟨SD.out, ?_⟩
            clear hKc Kc
            refine wpAnyH_done (by kernel_rfl) ?_ _
            go_wp2_with (go_at_call 33; refine (HBD.out _ R8.out).mono ?_; rintro e9 w9 ⟨rfl, hb9⟩)
            exact ⟨⟨k + 1, by omega, by go_num, by rw [hT]; exact R8.out.old hb9, W8.out.trans (hb9.mono W8.out.size)⟩, by simp [intOf]; omega⟩
        · obtain rfl : k = N := by omega
          have hi1 : ¬ (k : Int) < (k : Int) := by omega
          have HRG : Hid (RdAt wr g D G false) := by have h := HR.out; rw [HTE.out, List.nil_append] at h; exact h
          have HCL : Hid (∀ y, RdAt y g D G false → Calls Try.prog 31 #[.pointer (some ⟨g, 0, none⟩)] y (EndSay (n2 : Nat) y)) := fun y hy => by
            have h := left_any G false g D y hy
            unfold LeftSay at h
            rw [HGL.out] at h
            exact h
          clear hlt HR HTE HTS HTB HXL
          by_cases h0 : n2 = 0
          · have HCE : Hid (∀ y, RdAt y g D G false → Calls Try.prog 34 #[.pointer (some ⟨g, 0, none⟩)] y (EndSay 0 y)) := fun y hy => by
              have h := end_any G false g D y hy
              rw [show Pk.en G false = 0 by unfold Pk.en; rw [HGL.out, h0]; rfl] at h
              exact h
            have h0' : ((n2 : Int) == 0) = true := by rw [beq_iff_eq]; omega
            go_wp2_with (first
              | (go_at_call 9; refine (HK.out _).mono ?_; rintro e9 w9 ⟨rfl, hb9⟩)
              | (go_at_call 34; refine (HCE.out _ (HRG.out.old H7.out)).mono ?_; rintro e8 w8 ⟨rfl, hb8⟩; have W8 : Hid (Below w.heap.size w w8) := W7.out.trans (hb8.mono W7.out.size))
              | (go_at_call 31; refine (HCL.out _ HRG.out).mono ?_; rintro e7 w7 ⟨rfl, hb7⟩; have H7 := Lib.hid hb7; have W7 : Hid (Below w.heap.size w w7) := HW.out.trans (hb7.mono HW.out.size)))
            go_ret
            exact ⟨rfl, W8.out.trans (hb9.mono W8.out.size)⟩
          · have HCE : Hid (∀ y, RdAt y g D G false → Calls Try.prog 34 #[.pointer (some ⟨g, 0, none⟩)] y (EndSay 3 y)) := fun y hy => by
              have h := end_any G false g D y hy
              rw [show Pk.en G false = 3 by unfold Pk.en; rw [HGL.out, if_neg (by decide), if_pos (by omega)]] at h
              exact h
            have h0' : ((n2 : Int) == 0) = false := by rw [beq_eq_false_iff_ne]; omega
            go_wp2_with (first
              | (go_at_call 9; refine (HK.out _).mono ?_; rintro e9 w9 ⟨rfl, hb9⟩)
              | (go_at_call 34; refine (HCE.out _ (HRG.out.old H7.out)).mono ?_; rintro e8 w8 ⟨rfl, hb8⟩; have W8 : Hid (Below w.heap.size w w8) := W7.out.trans (hb8.mono W7.out.size))
              | (go_at_call 31; refine (HCL.out _ HRG.out).mono ?_; rintro e7 w7 ⟨rfl, hb7⟩; have H7 := Lib.hid hb7; have W7 : Hid (Below w.heap.size w w7) := HW.out.trans (hb7.mono HW.out.size)))
            go_ret
            exact ⟨rfl, W8.out.trans (hb9.mono W8.out.size)⟩
theorem back_any (l : Nat → Pk.Th) (tp : Option Addr) (M d : Nat) (G : List Int) (q : Option Addr) (c2 : Nat) (w : World) (ht : TRows w tp M l) (hMd : M ≤ d ∧ d ≤ 9223372036854775807) (hq : Bs w q c2 G) :
    Calls Try.prog 5 #[.slice tp M d, .slice q G.length c2] w (YesSay w) := by
  by_cases h : G.length ≤ 4096
  · exact back_true l tp M d G q G.length c2 rfl h hMd.1 hMd.2 w ht hq
  · exact back_big (.slice tp M d) q G.length c2 h w
end Go.Proofs.Ytlgnlilfagjejaa

/-
  The law TreeAccounts walked.
-/
import Derived.Test.YtfeemeddhhgigaaTrRa
namespace Go.Proofs.Ytfeemeddhhgigaa
open Go.RowKit

theorem alv_mem {x r : Pg.Rf} (h : r ∈ Tr.alv x) : r = x ∧ 0 < x.1 := by
  unfold Tr.alv at h
  split at h
  · rename_i hp; exact ⟨List.mem_singleton.1 h, hp⟩
  · cases h
theorem dead_mem {t : Tr.T} (h : TOk t) (k : Nat) : ∀ r ∈ Tr.dead t k, Pg.Ok r ∧ 0 < r.1 := fun r hr => by
  unfold Tr.dead at hr
  rcases List.mem_append.1 hr with hr | hr
  · rcases List.mem_append.1 hr with hr | hr
    · obtain ⟨rfl, h2⟩ := alv_mem hr; exact ⟨h.1 k, h2⟩
    · obtain ⟨rfl, h2⟩ := alv_mem hr; exact ⟨nr_ok h _, h2⟩
  · obtain ⟨rfl, h2⟩ := alv_mem hr; exact ⟨nr_ok h _, h2⟩
theorem touchD_mem {t : Tr.T} (h : TOk t) (k : Nat) : ∀ r ∈ Tr.touchD t k, Pg.Ok r ∧ 0 < r.1 := fun r hr => by
  unfold Tr.touchD at hr
  split at hr
  · obtain ⟨rfl, h2⟩ := alv_mem hr; exact ⟨nr_ok h _, h2⟩
  · rcases List.mem_append.1 hr with hr | hr
    · obtain ⟨rfl, h2⟩ := alv_mem hr; exact ⟨nr_ok h _, h2⟩
    · obtain ⟨rfl, h2⟩ := alv_mem hr; exact ⟨nr_ok h _, h2⟩
theorem runD_mem {t : Tr.T} (h : TOk t) (o : Tr.O) : ∀ r ∈ Tr.runD t o, Pg.Ok r ∧ 0 < r.1 := fun r hr => by
  unfold Tr.runD Tr.setD Tr.delD Tr.touchE at hr
  split at hr
  · split at hr
    · exact dead_mem h _ r hr
    · cases hr
  · split at hr
    · split at hr
      · exact dead_mem h _ r hr
      · cases hr
    · split at hr
      · split at hr
        · exact touchD_mem h _ r hr
        · cases hr
      · cases hr
theorem runM_mem {t : Tr.T} {o : Tr.O} (h : Pg.Ok o.r) : ∀ r ∈ Tr.runM t o, Pg.Ok r := fun r hr => by
  unfold Tr.runM at hr
  split at hr
  · split at hr
    · rw [List.mem_singleton.1 hr]; exact h
    · cases hr
  · split at hr
    · cases hr
    · split at hr
      · cases hr
      · split at hr
        · split at hr
          · rw [List.mem_singleton.1 hr]; exact h
          · cases hr
        · cases hr
theorem runD_le (t : Tr.T) (o : Tr.O) : (Tr.runD t o).length ≤ 3 := by
  unfold Tr.runD
  split
  · have := Tr.pqD_le t o.n o.r
    unfold Tr.setD
    split
    · have h1 := alv_len (t.b o.n.toNat)
      have h2 := alv_len (Tr.nr (t.n (Tr.lf o.n.toNat)))
      have h3 := alv_len (Tr.nr (t.n 0))
      unfold Tr.dead
      rw [List.length_append, List.length_append]
      omega
    · simp
  · split
    · have := Tr.pqD_le t o.n Pg.zr
      unfold Tr.pqD at this
      rw [if_neg Tr.zr_no] at this
      exact this
    · split
      · unfold Tr.touchE
        split
        · have := Tr.soD_len t o.n.toNat 2
          have h2 : (Tr.touchD t o.n.toNat).length ≤ 2 := this
          omega
        · simp
      · simp
theorem runM_le (t : Tr.T) (o : Tr.O) : (Tr.runM t o).length ≤ 1 := by
  unfold Tr.runM
  split
  · split <;> simp
  · split
    · simp
    · split
      · simp
      · split
        · split <;> simp
        · simp
theorem run_acc {t : Tr.T} (o : Tr.O) (x : Pg.Rf) : (Tr.refs (Tr.runT t o)).count x + (Tr.runD t o).count x = (Tr.refs t).count x + (Tr.runM t o).count x := Tr.acc_run t o x
theorem run_len (t : Tr.T) (o : Tr.O) : (Tr.refs (Tr.runT t o)).length + (Tr.runD t o).length = (Tr.refs t).length + (Tr.runM t o).length := Tr.acc_len (fun x => Tr.acc_run t o x)
set_option maxHeartbeats 16000000 in
set_option maxRecDepth 100000 in
theorem accounts_any (X : List Tr.O) (p : Option Addr) (n c : Nat) (hn : X.length = n) (w : World) (hX : OpS w p X) :
    Calls Try.prog 4 #[.slice p n c] w (YesH w) := by
  have HX : Hid (∀ z i, Below w.heap.size w z → i < n → ∃ ab ao, p = some ⟨ab, ao, none⟩ ∧ z.rangeAt ab (ao + i * 299) (OpA (X.getD i Tr.o0)).toList ∧ OpOk (X.getD i Tr.o0)) := fun z i hz hi => (hX.old hz).at_ i (by omega)
  have HW := Lib.hid works_any
  have HNW : Hid (Calls Try.prog 10 #[] w fun e w' => ∃ b, e = .returned (.pointer (some ⟨b, 0, none⟩)) ∧ Hid (Pp w w' b Tr.new)) := (pp_new w w (Below.refl _ _)).mono fun _ _ ⟨b, h1, h2, _⟩ => ⟨b, h1, h2⟩
  have hcase : (200 < n ∨ n ≤ 200) := by omega
  unfold YesH at HW ⊢
  rcases hcase with hbig | hsm
  · have hb' : (n : Int) > 200 := by omega
    clear HX hbig hX hn HNW
    go_enter Try.func4, Try.ntmps4
    go_wp2_with (first
      | (go_at_call 9; refine (HW.out _).mono ?_; rintro e2 w2 ⟨rfl, B2⟩))
    go_ret
    exact ⟨rfl, B2⟩
  have hs' : ¬ (n : Int) > 200 := by omega
  clear hX hn hsm
  go_enter Try.func4, Try.ntmps4
  go_wp2_with (first
    | (go_at_call 10; refine HNW.out.mono ?_; rintro e1 w1 ⟨b, rfl, P1⟩))
  have P1' : Hid (Pp w w1 b (Tr.rn X 0)) := P1
  clear P1 HNW
  go_loopw [4] (fun v4 wr => ∃ i : Nat, i ≤ n ∧ v4 = .int .i64 i ∧ Hid (Pp w wr b (Tr.rn X i))) (fun v4 _ => n - (intOf v4).toNat)
  case atStart => exact ⟨0, Nat.zero_le _, rfl, P1'⟩
  case round =>
    clear P1'
    obtain ⟨i, hi, rfl, HP⟩ := hrel
    by_cases hlt : i < n
    · obtain ⟨ab, ao, hp, hr, hok⟩ := HX.out wr i HP.out.old hlt
      subst hp
      have HRR : Hid (∀ z, Below w.heap.size w z → z.rangeAt ab (ao + i * 299) (OpA (X.getD i Tr.o0)).toList) := fun z hz => by
        obtain ⟨_, _, e1, h1, _⟩ := HX.out z i hz hlt
        cases e1
        exact h1
      have HOS := Lib.hid (opa_size hok)
      have hsO := row_size Try.sizeOp HOS
      have HRU : Hid (∀ z, Pp w z b (Tr.rn X i) → Calls Try.prog 15 #[.pointer (some ⟨b, 0, none⟩), .agg (OpA (X.getD i Tr.o0))] z (RnSay w b (Tr.rn X i) (X.getD i Tr.o0) z)) := fun z h => run_any _ hok z h
      have HR1 : Hid (∀ z, Pp w z b (Tr.rn X i) → Calls Try.prog 14 #[.pointer (some ⟨b, 0, none⟩)] z (ToSay (Tr.refs (Tr.rn X i)) z)) := fun z h => prefs_any z h.at_
      have HR2 : Hid (∀ z, Pp w z b (Tr.rn X (i + 1)) → Calls Try.prog 14 #[.pointer (some ⟨b, 0, none⟩)] z (ToSay (Tr.refs (Tr.rn X (i + 1))) z)) := fun z h => prefs_any z h.at_
      have hi0 : 0 ≤ (i : Int) := by omega
      have hi1 : (i : Int) < (n : Int) := by omega
      have HTK := HP.out.at_.ok
      have HAC : Hid (∀ x, (Tr.refs (Tr.rn X (i + 1))).count x + (Tr.runD (Tr.rn X i) (X.getD i Tr.o0)).count x = (Tr.refs (Tr.rn X i)).count x + (Tr.runM (Tr.rn X i) (X.getD i Tr.o0)).count x) := fun x => run_acc (X.getD i Tr.o0) x
      have HAL : Hid ((Tr.refs (Tr.rn X (i + 1))).length + (Tr.runD (Tr.rn X i) (X.getD i Tr.o0)).length = (Tr.refs (Tr.rn X i)).length + (Tr.runM (Tr.rn X i) (X.getD i Tr.o0)).length) := run_len _ _
      have HDM := Lib.hid (runD_mem HTK (X.getD i Tr.o0))
      have HMM := Lib.hid (runM_mem (t := Tr.rn X i) hok.r)
      have HWM : Hid (∀ r ∈ Tr.refs (Tr.rn X i), Pg.Ok r) := refs_ok HTK
      have HIP : Hid (∀ r ∈ Tr.refs (Tr.rn X (i + 1)), 0 < r.1) := fun r hr => Tr.refs_pos hr
      have HW73 := Lib.hid (refs_le (Tr.rn X i))
      have HI73 := Lib.hid (refs_le (Tr.rn X (i + 1)))
      have HD3 := Lib.hid (runD_le (Tr.rn X i) (X.getD i Tr.o0))
      have HM3 := Lib.hid (runM_le (Tr.rn X i) (X.getD i Tr.o0))
      unfold RnSay at HRU
      unfold ToSay at HR1 HR2
      have HSU : Hid (Tr.runT (Tr.rn X i) (X.getD i Tr.o0) = Tr.rn X (i + 1)) := rfl
      rw [HSU.out] at HRU
      have HOI : Hid (∀ z, Pp w z b (Tr.rn X (i + 1)) → ∀ r ∈ Tr.refs (Tr.rn X (i + 1)), Pg.Ok r) := fun z h => refs_ok h.at_.ok
      generalize Tr.refs (Tr.rn X i) = LW at *
      generalize Tr.refs (Tr.rn X (i + 1)) = LI at *
      generalize Tr.runD (Tr.rn X i) (X.getD i Tr.o0) = LD at *
      generalize Tr.runM (Tr.rn X i) (X.getD i Tr.o0) = LM at *
      obtain ⟨t', ht'⟩ : ∃ t', Tr.rn X (i + 1) = t' := ⟨_, rfl⟩
      have HT' := Lib.hid ht'
      rw [ht'] at HRU HR2 HOI
      obtain ⟨t, ht⟩ : ∃ t, Tr.rn X i = t := ⟨_, rfl⟩
      rw [ht] at HP HRU HR1
      generalize OpA (X.getD i Tr.o0) = OA at *
      clear hr hok hlt HX HTK ht ht' HSU
      obtain ⟨nW, hnW⟩ : ∃ k, LW.length = k := ⟨_, rfl⟩
      obtain ⟨nI, hnI⟩ : ∃ k, LI.length = k := ⟨_, rfl⟩
      obtain ⟨nD, hnD⟩ : ∃ k, LD.length = k := ⟨_, rfl⟩
      obtain ⟨nM, hnM⟩ : ∃ k, LM.length = k := ⟨_, rfl⟩
      have HNW := Lib.hid hnW; have HNI := Lib.hid hnI; have HND := Lib.hid hnD; have HNM := Lib.hid hnM
      rw [hnW] at HAL HW73; rw [hnI] at HAL HI73; rw [hnD] at HAL HD3; rw [hnM] at HAL HM3
      have e73 := HW73.out; have f73 := HI73.out; have d3 := HD3.out; have m3 := HM3.out; have hall := HAL.out
      have hwr1 : IntKind.i64.wrap ((nI : Int) + (nD : Int)) = ((nI + nD : Nat) : Int) := by rw [IntWalk.i64_in _ ⟨by omega, by omega⟩]; omega
      have hwr2 : IntKind.i64.wrap ((nW : Int) + (nM : Int)) = ((nI + nD : Nat) : Int) := by rw [IntWalk.i64_in _ ⟨by omega, by omega⟩]; omega
      have heq : (nI : Int) + (nD : Int) = (nW : Int) + (nM : Int) := by omega
      have hne : (((nI : Int) + (nD : Int)) != ((nW : Int) + (nM : Int))) = false := by simp [heq]
      clear hnW hnI hnD hnM hall
      go_upto_region 12 with (first
        | (go_at_call 14; with_reducible refine (HR1.out _ HP.out).mono ?_; rintro e2 w2 ⟨v2, rfl, FW2, B2⟩; have P2 := Lib.hid (HP.out.next B2.out); have HR := Lib.hid (HRR.out _ P2.out.old); obtain ⟨pw, cw, ew⟩ := FW2.out.len; rw [List.length_map, HNW.out] at ew; subst ew)
        | ((with_reducible refine rng_load _ _ _ _ _ _ ?_ HR.out Try.underlying38 ?_ hsO ?_); (exact rfl); (exact rfl))
        | (go_at_call 15; refine (HRU.out _ P2.out).mono ?_; rintro e3 w3 ⟨v3, u3, rfl, FD3, FM3, P3, O3⟩; have FW3 := Lib.hid (FW2.out.only O3.out (FW2.out.off_box P2.out.at_.box (by decide))); obtain ⟨pd, cd, ed⟩ := FD3.out.len; rw [List.length_map, HND.out] at ed; subst ed; obtain ⟨pm, cm, em⟩ := FM3.out.len; rw [List.length_map, HNM.out] at em; subst em)
        | (go_at_call 14; with_reducible refine (HR2.out _ P3.out).mono ?_; rintro e4 w4 ⟨v4, rfl, FI4, B4⟩; have P4 := Lib.hid (P3.out.next B4.out); have FW4 := Lib.hid (FW3.out.old B4.out); have FD4 := Lib.hid (FD3.out.old B4.out); have FM4 := Lib.hid (FM3.out.old B4.out); obtain ⟨pi, ci, ei⟩ := FI4.out.len; rw [List.length_map, HNI.out] at ei; subst ei))
      have HIM := Lib.hid (HOI.out _ P4.out)
      have HMI : Hid (∀ y r, Below w4.heap.size w4 y → Pg.Ok r → Calls Try.prog 16 #[.slice pi nI ci, .agg (rfA r)] y fun e w' => e = .returned (.int .i64 ((LI.count r : Nat) : Int)) ∧ Hid (Below y.heap.size y w')) := fun y r hy hr => many_any HIM.out (by rw [HNI.out]; omega) r hr y (FI4.out.old hy)
      have HMD : Hid (∀ y r, Below w4.heap.size w4 y → Pg.Ok r → Calls Try.prog 16 #[.slice pd nD cd, .agg (rfA r)] y fun e w' => e = .returned (.int .i64 ((LD.count r : Nat) : Int)) ∧ Hid (Below y.heap.size y w')) := fun y r hy hr => many_any (fun x hx => (HDM.out x hx).1) (by rw [HND.out]; omega) r hr y (FD4.out.old hy)
      have HMW : Hid (∀ y r, Below w4.heap.size w4 y → Pg.Ok r → Calls Try.prog 16 #[.slice pw nW cw, .agg (rfA r)] y fun e w' => e = .returned (.int .i64 ((LW.count r : Nat) : Int)) ∧ Hid (Below y.heap.size y w')) := fun y r hy hr => many_any HWM.out (by rw [HNW.out]; omega) r hr y (FW4.out.old hy)
      have HMN : Hid (∀ y r, Below w4.heap.size w4 y → Pg.Ok r → Calls Try.prog 16 #[.slice pm nM cm, .agg (rfA r)] y fun e w' => e = .returned (.int .i64 ((LM.count r : Nat) : Int)) ∧ Hid (Below y.heap.size y w')) := fun y r hy hr => many_any HMM.out (by rw [HNM.out]; omega) r hr y (FM4.out.old hy)
      have HCLI : Hid (∀ x, LI.count x ≤ 73) := fun x => Nat.le_trans List.count_le_length (by rw [HNI.out]; omega)
      have HCLD : Hid (∀ x, LD.count x ≤ 73) := fun x => Nat.le_trans List.count_le_length (by rw [HND.out]; omega)
      have HCLW : Hid (∀ x, LW.count x ≤ 73) := fun x => Nat.le_trans List.count_le_length (by rw [HNW.out]; omega)
      have HCLM : Hid (∀ x, LM.count x ≤ 73) := fun x => Nat.le_trans List.count_le_length (by rw [HNM.out]; omega)
      have HGW : Hid (∀ y k, Below w4.heap.size w4 y → k < nW → ∃ g, pw = some ⟨g, 0, none⟩ ∧ y.rangeAt g (k * 33) (rfA (LW.getD k Pg.zr)).toList ∧ Pg.Ok (LW.getD k Pg.zr)) := fun y k hy hk => by
        obtain ⟨q, c', e, _, _, hr⟩ := (FW4.out.old hy).ref k (by rw [HNW.out]; exact hk)
        injection e with e _ _
        exact ⟨q, e, hr, HWM.out _ (getD_mem' LW k Pg.zr (by rw [HNW.out]; exact hk))⟩
      have HGI : Hid (∀ y k, Below w4.heap.size w4 y → k < nI → ∃ g, pi = some ⟨g, 0, none⟩ ∧ y.rangeAt g (k * 33) (rfA (LI.getD k Pg.zr)).toList ∧ Pg.Ok (LI.getD k Pg.zr) ∧ 0 < (LI.getD k Pg.zr).1) := fun y k hy hk => by
        obtain ⟨q, c', e, _, _, hr⟩ := (FI4.out.old hy).ref k (by rw [HNI.out]; exact hk)
        injection e with e _ _
        have hm := getD_mem' LI k Pg.zr (by rw [HNI.out]; exact hk)
        exact ⟨q, e, hr, HIM.out _ hm, HIP.out _ hm⟩
      have HGD : Hid (∀ y k, Below w4.heap.size w4 y → k < nD → ∃ g at_, pd = some ⟨g, 0, none⟩ ∧ y.cell? ⟨g, k * 33, none⟩ = some (.int .i64 at_) ∧ 0 < at_) := fun y k hy hk => by
        obtain ⟨q, c', e, _, _, hr⟩ := (FD4.out.old hy).ref k (by rw [HND.out]; exact hk)
        injection e with e _ _
        have hm := getD_mem' LD k Pg.zr (by rw [HND.out]; exact hk)
        exact ⟨q, _, e, hr 0 _ rfl, (HDM.out _ hm).2⟩
      have HTP : Hid (Pp w w4 b (Tr.rn X (i + 1))) := by rw [HT'.out]; exact P4
      clear FW2 FW3 FD3 FM3 FI4 FW4 FD4 FM4 HR HRU HR1 HR2 HRR P2 P3 B2 O3 B4 HOI HIM HDM HMM HWM HIP HP HT' HOS hsO HNW HNI HND HNM HAL HW73 HI73 HD3 HM3 P4
      go_wp2
      go_loopw [9] (fun v9 wq => ∃ k : Nat, k ≤ nW ∧ v9 = .int .i64 k ∧ Hid (Below w4.heap.size w4 wq)) (fun v9 _ => nW - (intOf v9).toNat)
      case atStart => exact ⟨0, Nat.zero_le _, rfl, Below.refl _ _⟩
      case round =>
        obtain ⟨k, hk, rfl, HB⟩ := hrel
        by_cases hlt : k < nW
        · obtain ⟨gw, hpw, _, hokr⟩ := HGW.out _ k HB.out hlt
          subst hpw
          have hk0 : 0 ≤ (k : Int) := by omega
          have hk1 : (k : Int) < (nW : Int) := by omega
          have HEL : Hid (∀ y, Below w4.heap.size w4 y → y.rangeAt gw (k * 33) (rfA (LW.getD k Pg.zr)).toList) := fun y hy => by
            obtain ⟨_, e1, h1, _⟩ := HGW.out y k hy hlt
            cases e1
            exact h1
          have HXS := Lib.hid (rfa_size hokr)
          have hsR := row_size Try.sizeRef33 HXS
          have HMIR := Lib.hid (fun y hy => HMI.out y _ hy hokr)
          have HMDR := Lib.hid (fun y hy => HMD.out y _ hy hokr)
          have HMWR := Lib.hid (fun y hy => HMW.out y _ hy hokr)
          have HMNR := Lib.hid (fun y hy => HMN.out y _ hy hokr)
          have hac := HAC.out (LW.getD k Pg.zr)
          have l1 := HCLI.out (LW.getD k Pg.zr); have l2 := HCLD.out (LW.getD k Pg.zr); have l3 := HCLW.out (LW.getD k Pg.zr); have l4 := HCLM.out (LW.getD k Pg.zr)
          generalize rfA (LW.getD k Pg.zr) = R at *
          generalize LI.count (LW.getD k Pg.zr) = cI at *
          generalize LD.count (LW.getD k Pg.zr) = cD at *
          generalize LW.count (LW.getD k Pg.zr) = cW at *
          generalize LM.count (LW.getD k Pg.zr) = cM at *
          obtain ⟨sm, hsm⟩ : ∃ sm : Nat, sm = cI + cD := ⟨_, rfl⟩
          have hwa : IntKind.i64.wrap ((cI : Int) + (cD : Int)) = (sm : Int) := by rw [IntWalk.i64_in _ ⟨by omega, by omega⟩]; omega
          have hwb : IntKind.i64.wrap ((cW : Int) + (cM : Int)) = (sm : Int) := by rw [IntWalk.i64_in _ ⟨by omega, by omega⟩]; omega
          have hself : ((sm : Int) != (sm : Int)) = false := by simp
          clear HMI HMD HMW HMN HAC HCLI HCLD HCLW HCLM HGW HGI HGD hlt hokr hac l1 l2 l3 l4 hsm
          go_upto_region 15 with (fail)
          refine wp_region_any (by kernel_rfl) ?_
          change wpAny _ _ _ _ _ _ _ (World.drew _)
          have BZ : Hid (Below w4.heap.size w4 wr.drew) := HB.out.drew
          obtain ⟨z, hz9⟩ : ∃ y, y = wr.drew := ⟨_, rfl⟩
          rw [← hz9] at BZ ⊢
          clear hz9
          refine wpAny_of_held (S := fun y => y.rangeAt gw (k * 33) R.toList) _ _ _ _ ?_
          have SD : (fun y => y.rangeAt gw (k * 33) R.toList) z := HEL.out _ BZ.out
          refine anyH_take 0 53 (.slice pi nI ci) SD rfl (by kernel_rfl) (by kernel_rfl) (by kernel_rfl) (fun _ _ _ h => h) (by rfl) (by intro y hy; go_simp) ?_
          try simp only [Act.put, List.setIfInBounds_toArray, List.set_cons_zero, List.set_cons_succ]
          refine anyH_take 1 54 (.slice (some ⟨gw, 0, none⟩) nW cw) SD rfl (by kernel_rfl) (by kernel_rfl) (by kernel_rfl) (fun _ _ _ h => h) (by rfl) (by intro y hy; go_simp) ?_
          try simp only [Act.put, List.setIfInBounds_toArray, List.set_cons_zero, List.set_cons_succ]
          refine anyH_take 2 55 (.int .i64 (k : Int)) SD rfl (by kernel_rfl) (by kernel_rfl) (by kernel_rfl) (fun _ _ _ h => h) (by rfl) (by intro y hy; go_simp) ?_
          try simp only [Act.put, List.setIfInBounds_toArray, List.set_cons_zero, List.set_cons_succ]
          refine anyH_take 3 56 (.pointer (some ⟨gw, k * 33, none⟩)) SD rfl (by kernel_rfl) (by kernel_rfl) (by kernel_rfl) (fun _ _ _ h => h) (by rfl) (by intro y hy; go_simp) ?_
          try simp only [Act.put, List.setIfInBounds_toArray, List.set_cons_zero, List.set_cons_succ]
          refine anyH_take 4 57 (.agg R) SD rfl (by kernel_rfl) (by kernel_rfl) (by kernel_rfl) (fun _ _ _ h => h) (by rfl) (fun y hy => exec_arr _ _ gw (k * 33) _ _ rfl hy Try.underlying33 rfl hsR) ?_
          try simp only [Act.put, List.setIfInBounds_toArray, List.set_cons_zero, List.set_cons_succ]
          refine anyH_take 6 59 (.slice pd nD cd) SD rfl (by kernel_rfl) (by kernel_rfl) (by kernel_rfl) (fun _ _ _ h => h) (by rfl) (by intro y hy; go_simp) ?_
          try simp only [Act.put, List.setIfInBounds_toArray, List.set_cons_zero, List.set_cons_succ]
          refine anyH_take 7 60 (.slice (some ⟨gw, 0, none⟩) nW cw) SD rfl (by kernel_rfl) (by kernel_rfl) (by kernel_rfl) (fun _ _ _ h => h) (by rfl) (by intro y hy; go_simp) ?_
          try simp only [Act.put, List.setIfInBounds_toArray, List.set_cons_zero, List.set_cons_succ]
          refine anyH_take 8 61 (.int .i64 (k : Int)) SD rfl (by kernel_rfl) (by kernel_rfl) (by kernel_rfl) (fun _ _ _ h => h) (by rfl) (by intro y hy; go_simp) ?_
          try simp only [Act.put, List.setIfInBounds_toArray, List.set_cons_zero, List.set_cons_succ]
          refine anyH_take 9 62 (.pointer (some ⟨gw, k * 33, none⟩)) SD rfl (by kernel_rfl) (by kernel_rfl) (by kernel_rfl) (fun _ _ _ h => h) (by rfl) (by intro y hy; go_simp) ?_
          try simp only [Act.put, List.setIfInBounds_toArray, List.set_cons_zero, List.set_cons_succ]
          refine anyH_take 10 63 (.agg R) SD rfl (by kernel_rfl) (by kernel_rfl) (by kernel_rfl) (fun _ _ _ h => h) (by rfl) (fun y hy => exec_arr _ _ gw (k * 33) _ _ rfl hy Try.underlying33 rfl hsR) ?_
          try simp only [Act.put, List.setIfInBounds_toArray, List.set_cons_zero, List.set_cons_succ]
          refine anyH_take 13 66 (.slice (some ⟨gw, 0, none⟩) nW cw) SD rfl (by kernel_rfl) (by kernel_rfl) (by kernel_rfl) (fun _ _ _ h => h) (by rfl) (by intro y hy; go_simp) ?_
          try simp only [Act.put, List.setIfInBounds_toArray, List.set_cons_zero, List.set_cons_succ]
          refine anyH_take 14 67 (.slice (some ⟨gw, 0, none⟩) nW cw) SD rfl (by kernel_rfl) (by kernel_rfl) (by kernel_rfl) (fun _ _ _ h => h) (by rfl) (by intro y hy; go_simp) ?_
          try simp only [Act.put, List.setIfInBounds_toArray, List.set_cons_zero, List.set_cons_succ]
          refine anyH_take 15 68 (.int .i64 (k : Int)) SD rfl (by kernel_rfl) (by kernel_rfl) (by kernel_rfl) (fun _ _ _ h => h) (by rfl) (by intro y hy; go_simp) ?_
          try simp only [Act.put, List.setIfInBounds_toArray, List.set_cons_zero, List.set_cons_succ]
          refine anyH_take 16 69 (.pointer (some ⟨gw, k * 33, none⟩)) SD rfl (by kernel_rfl) (by kernel_rfl) (by kernel_rfl) (fun _ _ _ h => h) (by rfl) (by intro y hy; go_simp) ?_
          try simp only [Act.put, List.setIfInBounds_toArray, List.set_cons_zero, List.set_cons_succ]
          refine anyH_take 17 70 (.agg R) SD rfl (by kernel_rfl) (by kernel_rfl) (by kernel_rfl) (fun _ _ _ h => h) (by rfl) (fun y hy => exec_arr _ _ gw (k * 33) _ _ rfl hy Try.underlying33 rfl hsR) ?_
          try simp only [Act.put, List.setIfInBounds_toArray, List.set_cons_zero, List.set_cons_succ]
          refine anyH_take 19 72 (.slice pm nM cm) SD rfl (by kernel_rfl) (by kernel_rfl) (by kernel_rfl) (fun _ _ _ h => h) (by rfl) (by intro y hy; go_simp) ?_
          try simp only [Act.put, List.setIfInBounds_toArray, List.set_cons_zero, List.set_cons_succ]
          refine anyH_take 20 73 (.slice (some ⟨gw, 0, none⟩) nW cw) SD rfl (by kernel_rfl) (by kernel_rfl) (by kernel_rfl) (fun _ _ _ h => h) (by rfl) (by intro y hy; go_simp) ?_
          try simp only [Act.put, List.setIfInBounds_toArray, List.set_cons_zero, List.set_cons_succ]
          refine anyH_take 21 74 (.int .i64 (k : Int)) SD rfl (by kernel_rfl) (by kernel_rfl) (by kernel_rfl) (fun _ _ _ h => h) (by rfl) (by intro y hy; go_simp) ?_
          try simp only [Act.put, List.setIfInBounds_toArray, List.set_cons_zero, List.set_cons_succ]
          refine anyH_take 22 75 (.pointer (some ⟨gw, k * 33, none⟩)) SD rfl (by kernel_rfl) (by kernel_rfl) (by kernel_rfl) (fun _ _ _ h => h) (by rfl) (by intro y hy; go_simp) ?_
          try simp only [Act.put, List.setIfInBounds_toArray, List.set_cons_zero, List.set_cons_succ]
          refine anyH_take 23 76 (.agg R) SD rfl (by kernel_rfl) (by kernel_rfl) (by kernel_rfl) (fun _ _ _ h => h) (by rfl) (fun y hy => exec_arr _ _ gw (k * 33) _ _ rfl hy Try.underlying33 rfl hsR) ?_
          try simp only [Act.put, List.setIfInBounds_toArray, List.set_cons_zero, List.set_cons_succ]
          refine anyH_one 5 (by kernel_rfl) ?_
          refine wpOp_step rfl (fun Kc hKc => ?_)
          go_simp
          refine (HMIR.out _ BZ.out).mono ?_
          rintro e20 w20 ⟨rfl, B20⟩
          have C20 := Lib.hid (BZ.out.trans (B20.out.mono BZ.out.size))
          have SD20 := HEL.out _ C20.out
          dsimp only
          refine hKc _ _ ⟨SD20, ?_⟩
          clear hKc Kc SD
          have SD := SD20
          try simp only [Act.put, List.setIfInBounds_toArray, List.set_cons_zero, List.set_cons_succ]
          refine anyH_one 11 (by kernel_rfl) ?_
          refine wpOp_step rfl (fun Kc hKc => ?_)
          go_simp
          refine (HMDR.out _ C20.out).mono ?_
          rintro e21 w21 ⟨rfl, B21⟩
          have C21 := Lib.hid (C20.out.trans (B21.out.mono C20.out.size))
          have SD21 := HEL.out _ C21.out
          dsimp only
          refine hKc _ _ ⟨SD21, ?_⟩
          clear hKc Kc SD
          have SD := SD21
          try simp only [Act.put, List.setIfInBounds_toArray, List.set_cons_zero, List.set_cons_succ]
          refine anyH_take 12 65 (.int .i64 (sm : Int)) SD rfl (by kernel_rfl) (by kernel_rfl) (by kernel_rfl) (fun _ _ _ h => h) (by rfl) (by intro y hy; go_simp) ?_
          try simp only [Act.put, List.setIfInBounds_toArray, List.set_cons_zero, List.set_cons_succ]
          refine anyH_one 18 (by kernel_rfl) ?_
          refine wpOp_step rfl (fun Kc hKc => ?_)
          go_simp
          refine (HMWR.out _ C21.out).mono ?_
          rintro e22 w22 ⟨rfl, B22⟩
          have C22 := Lib.hid (C21.out.trans (B22.out.mono C21.out.size))
          have SD22 := HEL.out _ C22.out
          dsimp only
          refine hKc _ _ ⟨SD22, ?_⟩
          clear hKc Kc SD
          have SD := SD22
          try simp only [Act.put, List.setIfInBounds_toArray, List.set_cons_zero, List.set_cons_succ]
          refine anyH_one 24 (by kernel_rfl) ?_
          refine wpOp_step rfl (fun Kc hKc => ?_)
          go_simp
          refine (HMNR.out _ C22.out).mono ?_
          rintro e23 w23 ⟨rfl, B23⟩
          have C23 := Lib.hid (C22.out.trans (B23.out.mono C22.out.size))
          have SD23 := HEL.out _ C23.out
          dsimp only
          refine hKc _ _ ⟨SD23, ?_⟩
          clear hKc Kc SD
          have SD := SD23
          try simp only [Act.put, List.setIfInBounds_toArray, List.set_cons_zero, List.set_cons_succ]
          refine anyH_take 25 78 (.int .i64 (sm : Int)) SD rfl (by kernel_rfl) (by kernel_rfl) (by kernel_rfl) (fun _ _ _ h => h) (by rfl) (by intro y hy; go_simp) ?_
          try simp only [Act.put, List.setIfInBounds_toArray, List.set_cons_zero, List.set_cons_succ]
          refine anyH_take 26 79 (.bool false) SD rfl (by kernel_rfl) (by kernel_rfl) (by kernel_rfl) (fun _ _ _ h => h) (by rfl) (by intro y hy; go_simp) ?_
          try simp only [Act.put, List.setIfInBounds_toArray, List.set_cons_zero, List.set_cons_succ]
          refine wpAnyH_done (by kernel_rfl) ?_ _
          go_wp2
          exact ⟨⟨k + 1, by omega, by go_num, C23⟩, by simp [intOf]; omega⟩
        · have E : nW = k := by omega
          subst E
          clear hlt
          go_wp2
          go_loopw [10] (fun v10 wq => ∃ j : Nat, j ≤ nI ∧ v10 = .int .i64 j ∧ Hid (Below w4.heap.size w4 wq)) (fun v10 _ => nI - (intOf v10).toNat)
          case atStart => exact ⟨0, Nat.zero_le _, rfl, HB⟩
          case round =>
            clear HB
            obtain ⟨k, hk2, rfl, HB⟩ := hrel
            by_cases hlt : k < nI
            · obtain ⟨gi, hpi, _, hokr, hpos⟩ := HGI.out _ k HB.out hlt
              subst hpi
              have hk0 : 0 ≤ (k : Int) := by omega
              have hk1 : (k : Int) < (nI : Int) := by omega
              obtain ⟨at_, hat⟩ : ∃ a, (LI.getD k Pg.zr).1 = a := ⟨_, rfl⟩
              rw [hat] at hpos
              have hnl : ¬ at_ < 1 := by omega
              have HEL : Hid (∀ y, Below w4.heap.size w4 y → y.rangeAt gi (k * 33) (rfA (LI.getD k Pg.zr)).toList ∧ y.cell? ⟨gi, k * 33, none⟩ = some (.int .i64 at_)) := fun y hy => by
                obtain ⟨_, e1, h1, _⟩ := HGI.out y k hy hlt
                cases e1
                rw [← hat]
                exact ⟨h1, h1 0 _ rfl⟩
              have HXS := Lib.hid (rfa_size hokr)
              have hsR := row_size Try.sizeRef33 HXS
              have HMIR := Lib.hid (fun y hy => HMI.out y _ hy hokr)
              have HMDR := Lib.hid (fun y hy => HMD.out y _ hy hokr)
              have HMWR := Lib.hid (fun y hy => HMW.out y _ hy hokr)
              have HMNR := Lib.hid (fun y hy => HMN.out y _ hy hokr)
              have hac := HAC.out (LI.getD k Pg.zr)
              have l1 := HCLI.out (LI.getD k Pg.zr); have l2 := HCLD.out (LI.getD k Pg.zr); have l3 := HCLW.out (LI.getD k Pg.zr); have l4 := HCLM.out (LI.getD k Pg.zr)
              generalize rfA (LI.getD k Pg.zr) = R at *
              generalize LI.count (LI.getD k Pg.zr) = cI at *
              generalize LD.count (LI.getD k Pg.zr) = cD at *
              generalize LW.count (LI.getD k Pg.zr) = cW at *
              generalize LM.count (LI.getD k Pg.zr) = cM at *
              obtain ⟨sm, hsm⟩ : ∃ sm : Nat, sm = cI + cD := ⟨_, rfl⟩
              have hwa : IntKind.i64.wrap ((cI : Int) + (cD : Int)) = (sm : Int) := by rw [IntWalk.i64_in _ ⟨by omega, by omega⟩]; omega
              have hwb : IntKind.i64.wrap ((cW : Int) + (cM : Int)) = (sm : Int) := by rw [IntWalk.i64_in _ ⟨by omega, by omega⟩]; omega
              have hself : ((sm : Int) != (sm : Int)) = false := by simp
              clear HMI HMD HMW HMN HAC HCLI HCLD HCLW HCLM HGW HGI HGD hlt hokr hac l1 l2 l3 l4 hsm hpos hat
              go_upto_region 20 with (fail)
              refine wp_region_any (by kernel_rfl) ?_
              change wpAny _ _ _ _ _ _ _ (World.drew _)
              have BZ : Hid (Below w4.heap.size w4 wr.drew) := HB.out.drew
              obtain ⟨z, hz9⟩ : ∃ y, y = wr.drew := ⟨_, rfl⟩
              rw [← hz9] at BZ ⊢
              clear hz9
              refine wpAny_of_held (S := fun y => y.rangeAt gi (k * 33) R.toList ∧ y.cell? ⟨gi, k * 33, none⟩ = some (.int .i64 at_)) _ _ _ _ ?_
              have SD : (fun y => y.rangeAt gi (k * 33) R.toList ∧ y.cell? ⟨gi, k * 33, none⟩ = some (.int .i64 at_)) z := HEL.out _ BZ.out
              refine anyH_take 0 86 (.slice (some ⟨gi, 0, none⟩) nI ci) SD rfl (by kernel_rfl) (by kernel_rfl) (by kernel_rfl) (fun _ _ _ h => h) (by rfl) (by intro y hy; obtain ⟨y0, y1⟩ := hy; go_simp) ?_
              try simp only [Act.put, List.setIfInBounds_toArray, List.set_cons_zero, List.set_cons_succ]
              refine anyH_take 1 87 (.int .i64 (k : Int)) SD rfl (by kernel_rfl) (by kernel_rfl) (by kernel_rfl) (fun _ _ _ h => h) (by rfl) (by intro y hy; obtain ⟨y0, y1⟩ := hy; go_simp) ?_
              try simp only [Act.put, List.setIfInBounds_toArray, List.set_cons_zero, List.set_cons_succ]
              refine anyH_take 2 88 (.pointer (some ⟨gi, k * 33, none⟩)) SD rfl (by kernel_rfl) (by kernel_rfl) (by kernel_rfl) (fun _ _ _ h => h) (by rfl) (by intro y hy; obtain ⟨y0, y1⟩ := hy; go_simp) ?_
              try simp only [Act.put, List.setIfInBounds_toArray, List.set_cons_zero, List.set_cons_succ]
              refine anyH_take 3 89 (.pointer (some ⟨gi, k * 33, none⟩)) SD rfl (by kernel_rfl) (by kernel_rfl) (by kernel_rfl) (fun _ _ _ h => h) (by rfl) (by intro y hy; obtain ⟨y0, y1⟩ := hy; go_simp) ?_
              try simp only [Act.put, List.setIfInBounds_toArray, List.set_cons_zero, List.set_cons_succ]
              refine anyH_take 4 90 (.int .i64 at_) SD rfl (by kernel_rfl) (by kernel_rfl) (by kernel_rfl) (fun _ _ _ h => h) (by rfl) (by intro y hy; obtain ⟨y0, y1⟩ := hy; go_simp) ?_
              try simp only [Act.put, List.setIfInBounds_toArray, List.set_cons_zero, List.set_cons_succ]
              refine anyH_take 5 91 (.bool false) SD rfl (by kernel_rfl) (by kernel_rfl) (by kernel_rfl) (fun _ _ _ h => h) (by rfl) (by intro y hy; obtain ⟨y0, y1⟩ := hy; go_simp) ?_
              try simp only [Act.put, List.setIfInBounds_toArray, List.set_cons_zero, List.set_cons_succ]
              refine anyH_take 6 92 (.bool false) SD rfl (by kernel_rfl) (by kernel_rfl) (by kernel_rfl) (fun _ _ _ h => h) (by rfl) (by intro y hy; obtain ⟨y0, y1⟩ := hy; go_simp) ?_
              try simp only [Act.put, List.setIfInBounds_toArray, List.set_cons_zero, List.set_cons_succ]
              refine anyH_take 7 93 (.slice (some ⟨gi, 0, none⟩) nI ci) SD rfl (by kernel_rfl) (by kernel_rfl) (by kernel_rfl) (fun _ _ _ h => h) (by rfl) (by intro y hy; obtain ⟨y0, y1⟩ := hy; go_simp) ?_
              try simp only [Act.put, List.setIfInBounds_toArray, List.set_cons_zero, List.set_cons_succ]
              refine anyH_take 8 94 (.slice (some ⟨gi, 0, none⟩) nI ci) SD rfl (by kernel_rfl) (by kernel_rfl) (by kernel_rfl) (fun _ _ _ h => h) (by rfl) (by intro y hy; obtain ⟨y0, y1⟩ := hy; go_simp) ?_
              try simp only [Act.put, List.setIfInBounds_toArray, List.set_cons_zero, List.set_cons_succ]
              refine anyH_take 9 95 (.int .i64 (k : Int)) SD rfl (by kernel_rfl) (by kernel_rfl) (by kernel_rfl) (fun _ _ _ h => h) (by rfl) (by intro y hy; obtain ⟨y0, y1⟩ := hy; go_simp) ?_
              try simp only [Act.put, List.setIfInBounds_toArray, List.set_cons_zero, List.set_cons_succ]
              refine anyH_take 10 96 (.pointer (some ⟨gi, k * 33, none⟩)) SD rfl (by kernel_rfl) (by kernel_rfl) (by kernel_rfl) (fun _ _ _ h => h) (by rfl) (by intro y hy; obtain ⟨y0, y1⟩ := hy; go_simp) ?_
              try simp only [Act.put, List.setIfInBounds_toArray, List.set_cons_zero, List.set_cons_succ]
              refine anyH_take 11 97 (.agg R) SD rfl (by kernel_rfl) (by kernel_rfl) (by kernel_rfl) (fun _ _ _ h => h) (by rfl) (fun y hy => exec_arr _ _ gi (k * 33) _ _ rfl hy.1 Try.underlying33 rfl hsR) ?_
              try simp only [Act.put, List.setIfInBounds_toArray, List.set_cons_zero, List.set_cons_succ]
              refine anyH_take 13 99 (.slice pd nD cd) SD rfl (by kernel_rfl) (by kernel_rfl) (by kernel_rfl) (fun _ _ _ h => h) (by rfl) (by intro y hy; obtain ⟨y0, y1⟩ := hy; go_simp) ?_
              try simp only [Act.put, List.setIfInBounds_toArray, List.set_cons_zero, List.set_cons_succ]
              refine anyH_take 14 100 (.slice (some ⟨gi, 0, none⟩) nI ci) SD rfl (by kernel_rfl) (by kernel_rfl) (by kernel_rfl) (fun _ _ _ h => h) (by rfl) (by intro y hy; obtain ⟨y0, y1⟩ := hy; go_simp) ?_
              try simp only [Act.put, List.setIfInBounds_toArray, List.set_cons_zero, List.set_cons_succ]
              refine anyH_take 15 101 (.int .i64 (k : Int)) SD rfl (by kernel_rfl) (by kernel_rfl) (by kernel_rfl) (fun _ _ _ h => h) (by rfl) (by intro y hy; obtain ⟨y0, y1⟩ := hy; go_simp) ?_
              try simp only [Act.put, List.setIfInBounds_toArray, List.set_cons_zero, List.set_cons_succ]
              refine anyH_take 16 102 (.pointer (some ⟨gi, k * 33, none⟩)) SD rfl (by kernel_rfl) (by kernel_rfl) (by kernel_rfl) (fun _ _ _ h => h) (by rfl) (by intro y hy; obtain ⟨y0, y1⟩ := hy; go_simp) ?_
              try simp only [Act.put, List.setIfInBounds_toArray, List.set_cons_zero, List.set_cons_succ]
              refine anyH_take 17 103 (.agg R) SD rfl (by kernel_rfl) (by kernel_rfl) (by kernel_rfl) (fun _ _ _ h => h) (by rfl) (fun y hy => exec_arr _ _ gi (k * 33) _ _ rfl hy.1 Try.underlying33 rfl hsR) ?_
              try simp only [Act.put, List.setIfInBounds_toArray, List.set_cons_zero, List.set_cons_succ]
              refine anyH_take 20 106 (.slice pw nW cw) SD rfl (by kernel_rfl) (by kernel_rfl) (by kernel_rfl) (fun _ _ _ h => h) (by rfl) (by intro y hy; obtain ⟨y0, y1⟩ := hy; go_simp) ?_
              try simp only [Act.put, List.setIfInBounds_toArray, List.set_cons_zero, List.set_cons_succ]
              refine anyH_take 21 107 (.slice (some ⟨gi, 0, none⟩) nI ci) SD rfl (by kernel_rfl) (by kernel_rfl) (by kernel_rfl) (fun _ _ _ h => h) (by rfl) (by intro y hy; obtain ⟨y0, y1⟩ := hy; go_simp) ?_
              try simp only [Act.put, List.setIfInBounds_toArray, List.set_cons_zero, List.set_cons_succ]
              refine anyH_take 22 108 (.int .i64 (k : Int)) SD rfl (by kernel_rfl) (by kernel_rfl) (by kernel_rfl) (fun _ _ _ h => h) (by rfl) (by intro y hy; obtain ⟨y0, y1⟩ := hy; go_simp) ?_
              try simp only [Act.put, List.setIfInBounds_toArray, List.set_cons_zero, List.set_cons_succ]
              refine anyH_take 23 109 (.pointer (some ⟨gi, k * 33, none⟩)) SD rfl (by kernel_rfl) (by kernel_rfl) (by kernel_rfl) (fun _ _ _ h => h) (by rfl) (by intro y hy; obtain ⟨y0, y1⟩ := hy; go_simp) ?_
              try simp only [Act.put, List.setIfInBounds_toArray, List.set_cons_zero, List.set_cons_succ]
              refine anyH_take 24 110 (.agg R) SD rfl (by kernel_rfl) (by kernel_rfl) (by kernel_rfl) (fun _ _ _ h => h) (by rfl) (fun y hy => exec_arr _ _ gi (k * 33) _ _ rfl hy.1 Try.underlying33 rfl hsR) ?_
              try simp only [Act.put, List.setIfInBounds_toArray, List.set_cons_zero, List.set_cons_succ]
              refine anyH_take 26 112 (.slice pm nM cm) SD rfl (by kernel_rfl) (by kernel_rfl) (by kernel_rfl) (fun _ _ _ h => h) (by rfl) (by intro y hy; obtain ⟨y0, y1⟩ := hy; go_simp) ?_
              try simp only [Act.put, List.setIfInBounds_toArray, List.set_cons_zero, List.set_cons_succ]
              refine anyH_take 27 113 (.slice (some ⟨gi, 0, none⟩) nI ci) SD rfl (by kernel_rfl) (by kernel_rfl) (by kernel_rfl) (fun _ _ _ h => h) (by rfl) (by intro y hy; obtain ⟨y0, y1⟩ := hy; go_simp) ?_
              try simp only [Act.put, List.setIfInBounds_toArray, List.set_cons_zero, List.set_cons_succ]
              refine anyH_take 28 114 (.int .i64 (k : Int)) SD rfl (by kernel_rfl) (by kernel_rfl) (by kernel_rfl) (fun _ _ _ h => h) (by rfl) (by intro y hy; obtain ⟨y0, y1⟩ := hy; go_simp) ?_
              try simp only [Act.put, List.setIfInBounds_toArray, List.set_cons_zero, List.set_cons_succ]
              refine anyH_take 29 115 (.pointer (some ⟨gi, k * 33, none⟩)) SD rfl (by kernel_rfl) (by kernel_rfl) (by kernel_rfl) (fun _ _ _ h => h) (by rfl) (by intro y hy; obtain ⟨y0, y1⟩ := hy; go_simp) ?_
              try simp only [Act.put, List.setIfInBounds_toArray, List.set_cons_zero, List.set_cons_succ]
              refine anyH_take 30 116 (.agg R) SD rfl (by kernel_rfl) (by kernel_rfl) (by kernel_rfl) (fun _ _ _ h => h) (by rfl) (fun y hy => exec_arr _ _ gi (k * 33) _ _ rfl hy.1 Try.underlying33 rfl hsR) ?_
              try simp only [Act.put, List.setIfInBounds_toArray, List.set_cons_zero, List.set_cons_succ]
              refine anyH_one 12 (by kernel_rfl) ?_
              refine wpOp_step rfl (fun Kc hKc => ?_)
              go_simp
              refine (HMIR.out _ BZ.out).mono ?_
              rintro e20 w20 ⟨rfl, B20⟩
              have C20 := Lib.hid (BZ.out.trans (B20.out.mono BZ.out.size))
              have SD20 := HEL.out _ C20.out
              dsimp only
              refine hKc _ _ ⟨SD20, ?_⟩
              clear hKc Kc SD
              have SD := SD20
              try simp only [Act.put, List.setIfInBounds_toArray, List.set_cons_zero, List.set_cons_succ]
              refine anyH_one 18 (by kernel_rfl) ?_
              refine wpOp_step rfl (fun Kc hKc => ?_)
              go_simp
              refine (HMDR.out _ C20.out).mono ?_
              rintro e21 w21 ⟨rfl, B21⟩
              have C21 := Lib.hid (C20.out.trans (B21.out.mono C20.out.size))
              have SD21 := HEL.out _ C21.out
              dsimp only
              refine hKc _ _ ⟨SD21, ?_⟩
              clear hKc Kc SD
              have SD := SD21
              try simp only [Act.put, List.setIfInBounds_toArray, List.set_cons_zero, List.set_cons_succ]
              refine anyH_take 19 105 (.int .i64 (sm : Int)) SD rfl (by kernel_rfl) (by kernel_rfl) (by kernel_rfl) (fun _ _ _ h => h) (by rfl) (by intro y hy; obtain ⟨y0, y1⟩ := hy; go_simp) ?_
              try simp only [Act.put, List.setIfInBounds_toArray, List.set_cons_zero, List.set_cons_succ]
              refine anyH_one 25 (by kernel_rfl) ?_
              refine wpOp_step rfl (fun Kc hKc => ?_)
              go_simp
              refine (HMWR.out _ C21.out).mono ?_
              rintro e22 w22 ⟨rfl, B22⟩
              have C22 := Lib.hid (C21.out.trans (B22.out.mono C21.out.size))
              have SD22 := HEL.out _ C22.out
              dsimp only
              refine hKc _ _ ⟨SD22, ?_⟩
              clear hKc Kc SD
              have SD := SD22
              try simp only [Act.put, List.setIfInBounds_toArray, List.set_cons_zero, List.set_cons_succ]
              refine anyH_one 31 (by kernel_rfl) ?_
              refine wpOp_step rfl (fun Kc hKc => ?_)
              go_simp
              refine (HMNR.out _ C22.out).mono ?_
              rintro e23 w23 ⟨rfl, B23⟩
              have C23 := Lib.hid (C22.out.trans (B23.out.mono C22.out.size))
              have SD23 := HEL.out _ C23.out
              dsimp only
              refine hKc _ _ ⟨SD23, ?_⟩
              clear hKc Kc SD
              have SD := SD23
              try simp only [Act.put, List.setIfInBounds_toArray, List.set_cons_zero, List.set_cons_succ]
              refine anyH_take 32 118 (.int .i64 (sm : Int)) SD rfl (by kernel_rfl) (by kernel_rfl) (by kernel_rfl) (fun _ _ _ h => h) (by rfl) (by intro y hy; obtain ⟨y0, y1⟩ := hy; go_simp) ?_
              try simp only [Act.put, List.setIfInBounds_toArray, List.set_cons_zero, List.set_cons_succ]
              refine anyH_take 33 119 (.bool false) SD rfl (by kernel_rfl) (by kernel_rfl) (by kernel_rfl) (fun _ _ _ h => h) (by rfl) (by intro y hy; obtain ⟨y0, y1⟩ := hy; go_simp) ?_
              try simp only [Act.put, List.setIfInBounds_toArray, List.set_cons_zero, List.set_cons_succ]
              refine anyH_take 34 120 (.bool false) SD rfl (by kernel_rfl) (by kernel_rfl) (by kernel_rfl) (fun _ _ _ h => h) (by rfl) (by intro y hy; obtain ⟨y0, y1⟩ := hy; go_simp) ?_
              try simp only [Act.put, List.setIfInBounds_toArray, List.set_cons_zero, List.set_cons_succ]
              refine wpAnyH_done (by kernel_rfl) ?_ _
              go_wp2
              exact ⟨⟨k + 1, by omega, by go_num, C23⟩, by simp [intOf]; omega⟩
            · have E : nI = k := by omega
              subst E
              clear hlt
              go_wp2
              go_loopw [11] (fun v11 wq => ∃ j : Nat, j ≤ nD ∧ v11 = .int .i64 j ∧ Hid (Below w4.heap.size w4 wq)) (fun v11 _ => nD - (intOf v11).toNat)
              case atStart => exact ⟨0, Nat.zero_le _, rfl, HB⟩
              case round =>
                clear HB
                obtain ⟨j, hj2, rfl, HB⟩ := hrel
                by_cases hlt : j < nD
                · obtain ⟨gd, at_, hpd, d1, hpos⟩ := HGD.out _ j HB.out hlt
                  subst hpd
                  have hk0 : 0 ≤ (j : Int) := by omega
                  have hk1 : (j : Int) < (nD : Int) := by omega
                  have hnl : ¬ at_ < 1 := by omega
                  clear HGD hlt hpos
                  go_wp2
                  exact ⟨⟨j + 1, by omega, by go_num, HB⟩, by simp [intOf]; omega⟩
                · have E : nD = j := by omega
                  subst E
                  clear hlt
                  go_wp2
                  exact ⟨⟨i + 1, by omega, by go_num, Lib.hid (HTP.out.next HB.out)⟩, by simp [intOf]; omega⟩
    · have E : i = n := by omega
      subst E
      clear hlt HX
      go_wp2_with (first
        | (go_at_call 9; refine (HW.out _).mono ?_; rintro e9 w9 ⟨rfl, B9⟩))
      go_ret
      exact ⟨rfl, Lib.hid (HP.out.old.trans (B9.out.mono HP.out.old.size))⟩
end Go.Proofs.Ytfeemeddhhgigaa

/-
  rilllaw03.AesTurns walked.
-/
import Derived.Test.YtkajigfdfbgphaaTurL
namespace Go.Proofs.Ytkajigfdfbgphaa
open Go.RowKit

set_option maxHeartbeats 1000000 in
set_option maxRecDepth 100000 in
theorem turns_long (p : Option Addr) (n cap : Nat) (tp : Option Addr) (len tcap : Nat) (hn : 1024 < n) (w : World) :
    Calls Try.prog 3 #[.slice p n cap, .slice tp len tcap] w (YesSay w) := by
  have h1 : (1024 : Int) < (n : Int) := by omega
  go_enter Try.func3, Try.ntmps3
  go_wp2_with (go_at_call 9; refine (known_any _).mono ?_; rintro e w3 ⟨rfl, hb⟩)
  go_ret
  exact ⟨rfl, hb⟩

set_option maxHeartbeats 2000000 in
set_option maxRecDepth 100000 in
theorem turns_bad (L : List Int) (p : Option Addr) (cap : Nat) (_hc : L.length ≤ cap) (tp : Option Addr) (len tcap : Nat) (h16 : L.length ≠ 16) (h24 : L.length ≠ 24) (h32 : L.length ≠ 32) (hn : L.length ≤ 1024) (w : World) (hp : BAt w p L) :
    Calls Try.prog 3 #[.slice p L.length cap, .slice tp len tcap] w (YesSay w) := by
  have Hp := Lib.hid hp; clear hp
  have NK : Hid (∀ p c w, Calls Try.prog 11 #[.slice p L.length c] w fun e w' => e = .returned (.tuple #[.pointer none, .int .i64 1]) ∧ w' = w) := fun p c w => new_bad p L.length c h16 h24 h32 w
  have NR : Hid (∀ p c w, Calls Try.prog 12 #[.slice p L.length c] w fun e w' => e = .returned (.tuple #[.pointer none, .int .i64 1]) ∧ w' = w) := fun p c w => refnew_bad p L.length c h16 h24 h32 w
  clear h16 h24 h32
  have h1 : (L.length : Int) ≤ 1024 := by omega
  go_enter Try.func3, Try.ntmps3
  go_upto_region 4 with (go_at_call 10; refine (lent_any L p cap _ Hp.out (by omega)).mono ?_; rintro e w1 ⟨g, rfl, hg, hheap, hb1⟩)
  have HH1 := Lib.hid hheap
  have HB1 := Lib.hid hb1
  have HM1 : Hid (BAt w1 (some ⟨g, 0, none⟩) (mk5 L)) := bat_row hheap (mk5_byt Hp.out.1)
  clear hheap hb1
  go_wp2_with (first
    | (go_at_call 11; refine (NK.out _ _ _).mono ?_; rintro e w2 ⟨rfl, rfl⟩)
    | (go_at_call 12; refine (NR.out _ _ _).mono ?_; rintro e w2 ⟨rfl, rfl⟩)
    | (go_at_call 13; refine (kept_any L g _ _ _ _ HM1.out (Hp.out.old HB1.out) (by omega) (by omega)).mono ?_; rintro e w4 ⟨rfl, hb4⟩; have HB4 : Hid (Below w.heap.size w w4) := HB1.out.trans (hb4.mono HB1.out.size); have HH4 : Hid (w4.heap[g]? = some (.cells ((mk5 L).map (Value.int .u8)).toArray 5 (0, 0))) := (hb4.block _ (lt_of_block HH1.out)).trans HH1.out; clear hb4)
    | (go_at_call 14; refine (spoil_any (mk5 L) g _ _ (mk5_len L) (by omega) _ HH4.out).mono ?_; rintro e w5 ⟨rfl, ho5⟩; have HB5 : Hid (Below w.heap.size w w5) := ho5.below HB4.out hg HB4.out.size; clear ho5)
    | (go_at_call 9; refine (known_any _).mono ?_; rintro e w6 ⟨rfl, hb6⟩; have HB6 : Hid (Below w.heap.size w w6) := HB5.out.trans (hb6.mono HB5.out.size); clear hb6))
  go_loopw [10] (fun v10 wr => v10 = .int .i64 0 ∧ Hid (Below w.heap.size w wr)) (fun _ _ => 0)
  case atStart => exact ⟨rfl, HB5.out⟩
  case round =>
    clear HB5
    obtain ⟨rfl, HB5⟩ := hrel
    go_wp2_with (go_at_call 9; refine (known_any _).mono ?_; rintro e w6 ⟨rfl, hb6⟩; have HB6 : Hid (Below w.heap.size w w6) := HB5.out.trans (hb6.mono HB5.out.size); clear hb6)
    go_ret
    exact ⟨rfl, HB6.out⟩

set_option maxHeartbeats 4000000 in
set_option maxRecDepth 100000 in
theorem turns_core (L : List Int) (p : Option Addr) (cap : Nat) (hc : L.length ≤ cap) (_hcm : cap ≤ 9223372036854775807) (hn : L.length ≤ 1024) (tp : Option Addr) (len tcap N : Nat) (hN : N = min len 20) (hlen : len ≤ 9223372036854775807) (Af Xf : Nat → Array Value) (AS : Hid (∀ i, i < N → (Af i).size = 16)) (XS : Hid (∀ i, i < N → (Xf i).size = 16)) (KC : World → Nat → Prop) (KD : Nat → World → Nat → Prop) (w : World) (hp : BAt w p L)
    (HM : Hid (0 < N → ∃ ab ao, tp = some ⟨ab, ao, none⟩ ∧ ab < w.heap.size ∧ ∀ i, i < N → w.rangeAt ab (ao + i * 16) (Af i).toList))
    (HNW : Hid (∀ x g, BAt x (some ⟨g, 0, none⟩) L → Calls Try.prog 11 #[.slice (some ⟨g, 0, none⟩) L.length (L.length + 5)] x fun e x' => ∃ c, e = .returned (.tuple #[.pointer (some ⟨c, 0, none⟩), .int .i64 0]) ∧ Hid (KC x' c) ∧ Hid (Below x.heap.size x x')))
    (HNR : Hid (∀ x, BAt x p L → Calls Try.prog 12 #[.slice p L.length cap] x fun e x' => ∃ c, e = .returned (.tuple #[.pointer (some ⟨c, 0, none⟩), .int .i64 0]) ∧ Hid (KD x.heap.size x' c) ∧ Hid (Below x.heap.size x x')))
    (HKP : Hid (∀ x x' c, KC x c → Below x.heap.size x x' → KC x' c))
    (HKD : Hid (∀ B x x' c, KD B x c → Below x.heap.size x x' → KD B x' c))
    (HKPo : Hid (∀ x x' c g (A : Array Value), KC x c → x.heap[g]? = some (.cells A 5 (0, 0)) → Only g x x' → KC x' c))
    (HKDo : Hid (∀ B x x' c g, KD B x c → g < B → Only g x x' → KD B x' c))
    (HBL : Hid (∀ i c x, i < N → KC x c → Calls Try.prog 15 #[.pointer (some ⟨c, 0, none⟩), .agg (Af i)] x fun e x' => e = .returned (.agg (Xf i)) ∧ Below x.heap.size x x'))
    (HBR : Hid (∀ i c B x, i < N → KD B x c → Calls Try.prog 16 #[.pointer (some ⟨c, 0, none⟩), .agg (Af i)] x fun e x' => e = .returned (.agg (Xf i)) ∧ Below x.heap.size x x'))
    (HXX : Hid (∀ i x, i < N → (Op.equalIn 10000 35 (.agg (Xf i)) (.agg (Xf i))).run Try.prog x = .ok true x)) :
    Calls Try.prog 3 #[.slice p L.length cap, .slice tp len tcap] w (YesSay w) := by
  have hng := Try.noGuard
  have Hp := Lib.hid hp; clear hp
  have h1 : (L.length : Int) ≤ 1024 := by omega
  have hcz : (L.length : Int) ≤ (cap : Int) := by omega
  go_enter Try.func3, Try.ntmps3
  go_upto_region 4 with (go_at_call 10; refine (lent_any L p cap _ Hp.out (by omega)).mono ?_; rintro e w1 ⟨g, rfl, hg, hheap, hb1⟩)
  have HH1 := Lib.hid hheap
  have HB1 := Lib.hid hb1
  have HM1 : Hid (BAt w1 (some ⟨g, 0, none⟩) (mk5 L)) := bat_row hheap (mk5_byt Hp.out.1)
  have HL1 : Hid (BAt w1 (some ⟨g, 0, none⟩) L) := by
    have h := HM1.out
    unfold mk5 at h
    exact h.pre
  have HG1 : Hid (g < w1.heap.size) := lt_of_block hheap
  clear hheap hb1
  go_upto_region 9 with (first
    | (go_at_call 11; refine (HNW.out _ _ HL1.out).mono ?_; rintro e w2 ⟨c, rfl, HC2, HQ⟩; have HB2 : Hid (Below w.heap.size w w2) := HB1.out.trans (HQ.out.mono HB1.out.size); have HM2 : Hid (BAt w2 (some ⟨g, 0, none⟩) (mk5 L)) := HM1.out.old HQ.out; have HG2 : Hid (g < w2.heap.size) := Nat.lt_of_lt_of_le HG1.out HQ.out.size; have HH2 : Hid (w2.heap[g]? = some (.cells ((mk5 L).map (Value.int .u8)).toArray 5 (0, 0))) := (HQ.out.block _ HG1.out).trans HH1.out; clear HQ)
    | (go_at_call 12; refine (HNR.out _ (Hp.out.old HB2.out)).mono ?_; rintro e w3 ⟨d, rfl, HD3, HQ⟩; have HB3 : Hid (Below w.heap.size w w3) := HB2.out.trans (HQ.out.mono HB2.out.size); have HM3 : Hid (BAt w3 (some ⟨g, 0, none⟩) (mk5 L)) := HM2.out.old HQ.out; have HC3 : Hid (KC w3 c) := HKP.out _ _ _ HC2.out HQ.out; have HH3 : Hid (w3.heap[g]? = some (.cells ((mk5 L).map (Value.int .u8)).toArray 5 (0, 0))) := (HQ.out.block _ HG2.out).trans HH2.out; clear HQ)
    | (go_at_call 13; refine (kept_any L g _ _ _ _ HM3.out (Hp.out.old HB3.out) (by omega) (by omega)).mono ?_; rintro e w4 ⟨rfl, hb4⟩; have HB4 : Hid (Below w.heap.size w w4) := HB3.out.trans (hb4.mono HB3.out.size); have HC4 : Hid (KC w4 c) := HKP.out _ _ _ HC3.out hb4; have HD4 := Lib.hid (HKD.out _ _ _ _ HD3.out hb4); have HH4 : Hid (w4.heap[g]? = some (.cells ((mk5 L).map (Value.int .u8)).toArray 5 (0, 0))) := (hb4.block _ (lt_of_block HH3.out)).trans HH3.out; clear hb4)
    | (go_at_call 14; refine (spoil_any (mk5 L) g _ _ (mk5_len L) (by omega) _ HH4.out).mono ?_; rintro e w5 ⟨rfl, ho5⟩; have HB5 : Hid (Below w.heap.size w w5) := ho5.below HB4.out hg HB4.out.size; have HC5 : Hid (KC w5 c) := HKPo.out _ _ _ _ _ HC4.out HH4.out ho5; have HD5 := Lib.hid (HKDo.out _ _ _ _ _ HD4.out HG2.out ho5); clear ho5))
  have hN20 : N ≤ 20 := by omega
  have hNl : N ≤ len := by omega
  have HMR : Hid (∀ ab ao, tp = some ⟨ab, ao, none⟩ → ab < w.heap.size → (∀ i, i < N → w.rangeAt ab (ao + i * 16) (Af i).toList) → ∀ x, Below w.heap.size w x → ∀ i, i < N → x.rangeAt ab (ao + i * 16) (Af i).toList) := fun ab ao _ hab hr x hx i hi j v hv => (hx.cell hab).trans (hr i hi j v hv)
  obtain ⟨DB, HD5⟩ : ∃ DB, Hid (KD DB w5 d) := ⟨_, HD5.out⟩
  clear HH1 HM1 HL1 HG1 HB1 HC2 HB2 HM2 HG2 HH2 HB3 HM3 HC3 HH3 HD3 HB4 HC4 HD4 HH4
  go_wp2
  go_loopw [10] (fun v10 wr => ∃ i : Nat, i ≤ N ∧ v10 = .int .i64 i ∧ Hid (KC wr c) ∧ Hid (KD DB wr d) ∧ Hid (Below w.heap.size w wr)) (fun v10 _ => N - (intOf v10).toNat)
  case atStart => exact ⟨0, Nat.zero_le _, rfl, HC5.out, HD5.out, HB5.out⟩
  case round =>
    clear HC5 HD5 HB5
    obtain ⟨i, hi, rfl, HC, HD, HB⟩ := hrel
    by_cases hlt : i < N
    · obtain ⟨ab, ao, htp, hab, hra⟩ := HM.out (by omega)
      subst htp
      have HRA := Lib.hid (HMR.out ab ao rfl hab hra)
      clear hra
      have AS1 : Hid ((Af i).size = 16) := AS.out i hlt
      have XS1 : Hid ((Xf i).size = 16) := XS.out i hlt
      have HB1 : Hid (∀ x, KC x c → Calls Try.prog 15 #[.pointer (some ⟨c, 0, none⟩), .agg (Af i)] x fun e x' => e = .returned (.agg (Xf i)) ∧ Below x.heap.size x x') := fun x h => HBL.out i c x hlt h
      have HB2 : Hid (∀ x, KD DB x d → Calls Try.prog 16 #[.pointer (some ⟨d, 0, none⟩), .agg (Af i)] x fun e x' => e = .returned (.agg (Xf i)) ∧ Below x.heap.size x x') := fun x h => HBR.out i d DB x hlt h
      have HEQ : ∀ x, (Op.equalIn 10000 35 (.agg (Xf i)) (.agg (Xf i))).run Try.prog x = .ok true x := fun x => HXX.out i x hlt
      have HRI : Hid (∀ x, Below w.heap.size w x → x.rangeAt ab (ao + i * 16) (Af i).toList) := fun x hx => HRA.out x hx i hlt
      have hn0 : (0 : Int) ≤ (i : Int) := by omega
      have hn1 : (i : Int) < (len : Int) := by omega
      have hn2 : i < len := by omega
      have hn3 : (i : Int) < 20 := by omega
      clear HRA
      generalize Af i = Ai at *
      generalize Xf i = Xi at *
      go_upto_region 12 with fail
      refine wp_region_any (by kernel_rfl) ?_
      change wpAny _ _ _ _ _ _ _ (World.drew _)
      have Sz0 : Hid (Below w.heap.size w wr.drew) := HB.out.drew
      have HC0 : Hid (KC wr.drew c) := HKP.out _ _ _ HC.out (Below.refl _ _).drew
      have HD0 : Hid (KD DB wr.drew d) := HKD.out _ _ _ _ HD.out (Below.refl _ _).drew
      clear HC HD HB
      generalize wr.drew = w8 at *
      refine wpAny_of_held (S := fun x : World => Below w.heap.size w x) _ _ _ _ ?_
      refine anyH_take 0 62 (.pointer (some ⟨c, 0, none⟩)) Sz0.out rfl (by kernel_rfl) (by kernel_rfl) (by kernel_rfl) (fun _ _ _ h => h) (by rfl) (by intro x hx; go_simp; try (intro h; omega)) ?_
      try simp only [Act.put, List.setIfInBounds_toArray, List.set_cons_zero, List.set_cons_succ]
      refine anyH_take 1 63 (.slice (some ⟨ab, ao, none⟩) len tcap) Sz0.out rfl (by kernel_rfl) (by kernel_rfl) (by kernel_rfl) (fun _ _ _ h => h) (by rfl) (by intro x hx; go_simp; try (intro h; omega)) ?_
      try simp only [Act.put, List.setIfInBounds_toArray, List.set_cons_zero, List.set_cons_succ]
      refine anyH_take 7 69 (.slice (some ⟨ab, ao, none⟩) len tcap) Sz0.out rfl (by kernel_rfl) (by kernel_rfl) (by kernel_rfl) (fun _ _ _ h => h) (by rfl) (by intro x hx; go_simp; try (intro h; omega)) ?_
      try simp only [Act.put, List.setIfInBounds_toArray, List.set_cons_zero, List.set_cons_succ]
      refine anyH_take 2 64 (.int .i64 (i : Int)) Sz0.out rfl (by kernel_rfl) (by kernel_rfl) (by kernel_rfl) (fun _ _ _ h => h) (by rfl) (by intro x hx; go_simp; try (intro h; omega)) ?_
      try simp only [Act.put, List.setIfInBounds_toArray, List.set_cons_zero, List.set_cons_succ]
      refine anyH_take 8 70 (.int .i64 (i : Int)) Sz0.out rfl (by kernel_rfl) (by kernel_rfl) (by kernel_rfl) (fun _ _ _ h => h) (by rfl) (by intro x hx; go_simp; try (intro h; omega)) ?_
      try simp only [Act.put, List.setIfInBounds_toArray, List.set_cons_zero, List.set_cons_succ]
      refine anyH_take 3 65 (.pointer (some ⟨ab, ao + i * 16, none⟩)) Sz0.out rfl (by kernel_rfl) (by kernel_rfl) (by kernel_rfl) (fun _ _ _ h => h) (by rfl) (by intro x hx; go_simp; try (intro h; omega)) ?_
      try simp only [Act.put, List.setIfInBounds_toArray, List.set_cons_zero, List.set_cons_succ]
      refine anyH_take 9 71 (.pointer (some ⟨ab, ao + i * 16, none⟩)) Sz0.out rfl (by kernel_rfl) (by kernel_rfl) (by kernel_rfl) (fun _ _ _ h => h) (by rfl) (by intro x hx; go_simp; try (intro h; omega)) ?_
      try simp only [Act.put, List.setIfInBounds_toArray, List.set_cons_zero, List.set_cons_succ]
      refine anyH_take 4 66 (.agg Ai) Sz0.out rfl (by kernel_rfl) (by kernel_rfl) (by kernel_rfl) (fun _ _ _ h => h) (by rfl) (fun x hx => exec_arr _ _ ab (ao + i * 16) Ai _ rfl (HRI.out x hx) Try.underlying35 rfl (row_size Try.size16 AS1)) ?_
      try simp only [Act.put, List.setIfInBounds_toArray, List.set_cons_zero, List.set_cons_succ]
      refine anyH_take 10 72 (.agg Ai) Sz0.out rfl (by kernel_rfl) (by kernel_rfl) (by kernel_rfl) (fun _ _ _ h => h) (by rfl) (fun x hx => exec_arr _ _ ab (ao + i * 16) Ai _ rfl (HRI.out x hx) Try.underlying35 rfl (row_size Try.size16 AS1)) ?_
      try simp only [Act.put, List.setIfInBounds_toArray, List.set_cons_zero, List.set_cons_succ]
      refine anyH_take 6 68 (.pointer (some ⟨d, 0, none⟩)) Sz0.out rfl (by kernel_rfl) (by kernel_rfl) (by kernel_rfl) (fun _ _ _ h => h) (by rfl) (by intro x hx; go_simp; try (intro h; omega)) ?_
      try simp only [Act.put, List.setIfInBounds_toArray, List.set_cons_zero, List.set_cons_succ]
      refine anyH_one 5 (by kernel_rfl) ?_
      refine wpOp_step rfl (fun Kc hKc => ?_)
      go_simp
      refine (HB1.out _ HC0.out).mono ?_
      rintro e z1 ⟨rfl, hb⟩
      have Sz1 : Hid (Below w.heap.size w z1) := Sz0.out.trans (hb.mono Sz0.out.size)
      have HC1 : Hid (KC z1 c) := HKP.out _ _ _ HC0.out hb
      have HD1 : Hid (KD DB z1 d) := HKD.out _ _ _ _ HD0.out hb
      clear hb HC0 HD0
      dsimp only
      refine hKc _ _ ⟨Sz1.out, ?_⟩
      clear hKc Kc
      try simp only [Act.put, List.setIfInBounds_toArray, List.set_cons_zero, List.set_cons_succ]
      refine anyH_one 11 (by kernel_rfl) ?_
      refine wpOp_step rfl (fun Kc hKc => ?_)
      go_simp
      refine (HB2.out _ HD1.out).mono ?_
      rintro e z2 ⟨rfl, hb⟩
      have Sz2 : Hid (Below w.heap.size w z2) := Sz1.out.trans (hb.mono Sz1.out.size)
      have HC2 : Hid (KC z2 c) := HKP.out _ _ _ HC1.out hb
      have HD2 : Hid (KD DB z2 d) := HKD.out _ _ _ _ HD1.out hb
      clear hb HC1 HD1
      dsimp only
      refine hKc _ _ ⟨Sz2.out, ?_⟩
      clear hKc Kc
      try simp only [Act.put, List.setIfInBounds_toArray, List.set_cons_zero, List.set_cons_succ]
      refine anyH_take 12 74 (.bool false) Sz2.out rfl (by kernel_rfl) (by kernel_rfl) (by kernel_rfl) (fun _ _ _ h => h) (by rfl) (by intro x hx; go_simp; try (intro h; omega)) ?_
      try simp only [Act.put, List.setIfInBounds_toArray, List.set_cons_zero, List.set_cons_succ]
      refine anyH_done (by kernel_rfl) ?_ _
      go_wp2
      exact ⟨⟨i + 1, by omega, by go_num, HC2.out, HD2.out, Sz2.out⟩, by simp [intOf]; omega⟩
    · have hge : N ≤ i := by omega
      by_cases hl : i < len
      · have hn1 : (i : Int) < (len : Int) := by omega
        have hn3 : (20 : Int) ≤ (i : Int) := by omega
        go_wp2_with (go_at_call 9; refine (known_any _).mono ?_; rintro e w9 ⟨rfl, hb⟩; have R9 : Hid (Below w.heap.size w w9) := HB.out.trans (hb.mono HB.out.size); clear hb)
        go_ret
        exact ⟨rfl, R9.out⟩
      · have hn1 : (len : Int) ≤ (i : Int) := by omega
        go_wp2_with (go_at_call 9; refine (known_any _).mono ?_; rintro e w9 ⟨rfl, hb⟩; have R9 : Hid (Below w.heap.size w w9) := HB.out.trans (hb.mono HB.out.size); clear hb)
        go_ret
        exact ⟨rfl, R9.out⟩
end Go.Proofs.Ytkajigfdfbgphaa

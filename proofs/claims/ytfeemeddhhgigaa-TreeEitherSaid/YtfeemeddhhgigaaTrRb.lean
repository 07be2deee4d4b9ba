/-
  The law TreeEither walked.
-/
import Derived.Test.YtfeemeddhhgigaaTrRa
namespace Go.Proofs.Ytfeemeddhhgigaa
open Go.RowKit

set_option maxHeartbeats 8000000 in
set_option maxRecDepth 100000 in
theorem either_any (X : List Tr.O) (p : Option Addr) (n c : Nat) (hn : X.length = n) (w : World) (hX : OpS w p X) (a b : Int) (x y : Pg.Rf) (hx : Pg.Ok x) (hy : Pg.Ok y) :
    Calls Try.prog 8 #[.slice p n c, .int .i64 a, .int .i64 b, .agg (rfA x), .agg (rfA y)] w (YesH w) := by
  have HX : Hid (∀ z i, Below w.heap.size w z → i < n → ∃ ab ao, p = some ⟨ab, ao, none⟩ ∧ z.rangeAt ab (ao + i * 299) (OpA (X.getD i Tr.o0)).toList ∧ OpOk (X.getD i Tr.o0)) := fun z i hz hi => (hX.old hz).at_ i (by omega)
  have HW := Lib.hid works_any
  have HXS := Lib.hid (rfa_size hx); have HYS := Lib.hid (rfa_size hy)
  have hsX := row_size Try.sizeRef33 HXS; have hsY := row_size Try.sizeRef33 HYS
  have hX1 := rfa_one x; have hY1 := rfa_one y
  have B1 : Hid (Below w.heap.size w ((w.alloc (.cells (rfA x) 33)).alloc (.cells (rfA y) 33))) := ((Below.refl _ w).alloc (Nat.le_refl _) _).alloc (by simp) _
  have G1 : Hid (((w.alloc (.cells (rfA x) 33)).alloc (.cells (rfA y) 33)).heap[w.heap.size + 1]? = some (.cells (rfA y) 33 (0, 0))) := by
    have := heap_alloc_new (w.alloc (.cells (rfA x) 33)) (.cells (rfA y) 33)
    rw [show (w.alloc (.cells (rfA x) 33)).heap.size = w.heap.size + 1 by simp] at this
    exact this
  have G0 : Hid (((w.alloc (.cells (rfA x) 33)).alloc (.cells (rfA y) 33)).heap[w.heap.size]? = some (.cells (rfA x) 33 (0, 0))) := (((Below.refl _ (w.alloc (.cells (rfA x) 33))).alloc (Nat.le_refl _) _).block w.heap.size (by simp)).trans (heap_alloc_new w _)
  obtain ⟨w1, hw1⟩ : ∃ z, z = (w.alloc (.cells (rfA x) 33)).alloc (.cells (rfA y) 33) := ⟨_, rfl⟩
  rw [← hw1] at B1 G1 G0
  have HPX := Lib.hid (fun (z : World) (bb : Nat) (t : Tr.T) (h : Pp w1 z bb t) => h.old)
  have HPU1 : Hid (∀ z bb t, Pp w1 z bb t → Calls Try.prog 27 #[.pointer (some ⟨bb, 0, none⟩), .int .i64 a, .agg (rfA x)] z (PeSay w1 bb (Tr.pqT t a x) ((Tr.pqD t a x).length : Int) z)) := fun z bb t h => lput_any a x hx z h
  have HPU2 : Hid (∀ z bb t, Pp w1 z bb t → Calls Try.prog 27 #[.pointer (some ⟨bb, 0, none⟩), .int .i64 b, .agg (rfA y)] z (PeSay w1 bb (Tr.pqT t b y) ((Tr.pqD t b y).length : Int) z)) := fun z bb t h => lput_any b y hy z h
  have HNW : Hid (∀ z, Below w1.heap.size w1 z → Calls Try.prog 10 #[] z fun e w' => ∃ b, e = .returned (.pointer (some ⟨b, 0, none⟩)) ∧ Hid (Pp w1 w' b Tr.new) ∧ Hid (Below z.heap.size z w') ∧ Hid (z.heap.size ≤ b)) := fun z hz => pp_new w1 z hz
  have hcase : (200 < n ∨ n ≤ 200) := by omega
  unfold YesH at HW ⊢
  rcases hcase with hbig | hsm
  · have hb' : (n : Int) > 200 := by omega
    clear HX HPX HPU1 HPU2 HNW hbig hx hy hX hn
    go_enter Try.func8, Try.ntmps8
    go_wp2_with (first
      | (go_at_call 9; rw [← hw1]; clear hw1; refine (HW.out _).mono ?_; rintro e2 w2 ⟨rfl, B2⟩))
    go_ret
    exact ⟨rfl, Lib.hid (B1.out.trans (B2.out.mono B1.out.size))⟩
  have hs' : ¬ (n : Int) > 200 := by omega
  by_cases hab : a = b
  · clear HX HPX HPU1 HPU2 HNW hsm hx hy hX hn
    subst hab
    go_enter Try.func8, Try.ntmps8
    go_wp2_with (first
      | (go_at_call 9; rw [← hw1]; clear hw1; refine (HW.out _).mono ?_; rintro e2 w2 ⟨rfl, B2⟩))
    go_ret
    exact ⟨rfl, Lib.hid (B1.out.trans (B2.out.mono B1.out.size))⟩
  have habb : (a == b) = false := by simp [hab]
  have HCM : Hid (∀ t, Tr.pqT (Tr.pqT t a x) b y = Tr.pqT (Tr.pqT t b y) a x) := fun t => Tr.pq_comm t a b x y hab
  have HCL : Hid (∀ t, (Tr.pqD t a x).length + (Tr.pqD (Tr.pqT t a x) b y).length = (Tr.pqD t b y).length + (Tr.pqD (Tr.pqT t b y) a x).length) := fun t => Tr.pq_len t a b x y hab
  have HLE := Lib.hid Tr.pqD_le
  generalize rfA x = XA at *
  generalize rfA y = YA at *
  clear hX hn hx hy hsm hab
  go_enter Try.func8, Try.ntmps8
  go_upto_region 4 with (go_at_call 10; rw [← hw1]; clear hw1; refine (HNW.out _ (Below.refl _ _)).mono ?_; rintro e2 w2 ⟨bs, rfl, P2, B2, L2⟩)
  go_upto_region 5 with (go_at_call 10; refine (HNW.out _ P2.out.old).mono ?_; rintro e3 w3 ⟨bt, rfl, Q3, B3, L3⟩; have P3 := Lib.hid (P2.out.next B3.out))
  have HNE : Hid (bs ≠ bt) := by have h1 := P2.out.at_.lt; have h2 := L3.out; show _ ≠ _; omega
  clear P2 B2 B3 L2 L3
  go_wp2
  go_loopw [13] (fun v13 wr => ∃ i : Nat, i ≤ n ∧ v13 = .int .i64 i ∧ Hid (Pp w1 wr bs (Tr.rn X i)) ∧ Hid (Pp w1 wr bt (Tr.rn X i))) (fun v13 _ => n - (intOf v13).toNat)
  case atStart => exact ⟨0, Nat.zero_le _, rfl, P3, Q3⟩
  case round =>
    clear P3 Q3
    obtain ⟨i, hi, rfl, HP, HQ⟩ := hrel
    by_cases hlt : i < n
    · have BW := Lib.hid (B1.out.trans (HP.out.old.mono B1.out.size))
      obtain ⟨ab, ao, hp, hr, hok⟩ := HX.out wr i BW.out hlt
      subst hp
      have HOK := Lib.hid hok
      have HRR : Hid (∀ z, Below w.heap.size w z → z.rangeAt ab (ao + i * 299) (OpA (X.getD i Tr.o0)).toList) := fun z hz => by
        obtain ⟨_, _, e1, h1, _⟩ := HX.out z i hz hlt
        cases e1
        exact h1
      have HR := Lib.hid (HRR.out _ BW.out)
      have HOS := Lib.hid (opa_size hok)
      have hsO := row_size Try.sizeOp HOS
      have HRU : Hid (∀ z bb, Pp w1 z bb (Tr.rn X i) → Calls Try.prog 15 #[.pointer (some ⟨bb, 0, none⟩), .agg (OpA (X.getD i Tr.o0))] z (fun e w' => ∃ v, e = .returned v ∧ Hid (Pp w1 w' bb (Tr.rn X (i + 1))) ∧ Hid (Only bb z w'))) := fun z bb h => (run_any _ hok z h).mono fun _ _ ⟨v, u, h1, _, _, h4, h5⟩ => ⟨_, h1, h4, h5⟩
      have hi0 : 0 ≤ (i : Int) := by omega
      have hi1 : (i : Int) < (n : Int) := by omega
      generalize OpA (X.getD i Tr.o0) = OA at *
      clear HX HPU1 HPU2 HCM HCL HLE hr hok hlt HNW
      go_wp2_with (first
        | ((with_reducible refine rng_load _ _ _ _ _ _ ?_ HR.out Try.underlying38 ?_ hsO ?_); (exact rfl); (exact rfl))
        | (go_at_call 15; with_reducible refine (HRU.out _ _ HP.out).mono ?_; rintro e4 w4 ⟨v4, rfl, P4, O4⟩; have Q4 := Lib.hid (HQ.out.other O4.out (Ne.symm HNE.out) P4.out.at_.lo); have HR4 := Lib.hid (HRR.out _ (B1.out.trans (P4.out.old.mono B1.out.size))))
        | ((with_reducible refine rng_load _ _ _ _ _ _ ?_ HR4.out Try.underlying38 ?_ hsO ?_); (exact rfl); (exact rfl))
        | (go_at_call 15; with_reducible refine (HRU.out _ _ Q4.out).mono ?_; rintro e5 w5 ⟨v5, rfl, Q5, O5⟩; have P5 := Lib.hid (P4.out.other O5.out HNE.out Q5.out.at_.lo)))
      exact ⟨⟨i + 1, by omega, by go_num, P5, Q5⟩, by simp [intOf]; omega⟩
    · have E : i = n := by omega
      subst E
      clear hlt HX
      obtain ⟨t, ht⟩ : ∃ t, Tr.rn X i = t := ⟨_, rfl⟩
      rw [ht] at HP HQ
      have HC := Lib.hid (HCM.out t)
      have HL := Lib.hid (HCL.out t)
      have L1 := HLE.out t a x; have L2 := HLE.out (Tr.pqT t a x) b y; have L3 := HLE.out t b y; have L4 := HLE.out (Tr.pqT t b y) a x
      obtain ⟨t1, ht1⟩ : ∃ t1, Tr.pqT t a x = t1 := ⟨_, rfl⟩
      obtain ⟨t2, ht2⟩ : ∃ t2, Tr.pqT t b y = t2 := ⟨_, rfl⟩
      have HA1 := Lib.hid (fun z h => HPU1.out z bs t h)
      have HA2 := Lib.hid (fun z h => HPU2.out z bs t1 h)
      have HB1 := Lib.hid (fun z h => HPU2.out z bt t h)
      have HB2 := Lib.hid (fun z h => HPU1.out z bt t2 h)
      rw [ht1] at HC HL HA1 L2
      rw [ht2] at HC HL HB1 L4
      rw [← HC.out] at HB2
      obtain ⟨t3, ht3⟩ : ∃ t3, Tr.pqT t1 b y = t3 := ⟨_, rfl⟩
      rw [ht3] at HA2 HB2
      obtain ⟨l1, hl1⟩ : ∃ l, (Tr.pqD t a x).length = l := ⟨_, rfl⟩
      obtain ⟨l2, hl2⟩ : ∃ l, (Tr.pqD t1 b y).length = l := ⟨_, rfl⟩
      obtain ⟨l3, hl3⟩ : ∃ l, (Tr.pqD t b y).length = l := ⟨_, rfl⟩
      obtain ⟨l4, hl4⟩ : ∃ l, (Tr.pqD t2 a x).length = l := ⟨_, rfl⟩
      rw [hl1, hl2, hl3, hl4] at HL
      rw [hl1] at HA1 L1; rw [hl2] at HA2 L2; rw [hl3] at HB1 L3; rw [hl4] at HB2 L4
      obtain ⟨sm, hsm⟩ : ∃ sm : Nat, sm = l1 + l2 := ⟨_, rfl⟩
      have hwa : IntKind.i64.wrap ((l1 : Int) + (l2 : Int)) = (sm : Int) := by rw [IntWalk.i64_in _ ⟨by omega, by omega⟩]; omega
      have hwb : IntKind.i64.wrap ((l3 : Int) + (l4 : Int)) = (sm : Int) := by have := HL.out; rw [IntWalk.i64_in _ ⟨by omega, by omega⟩]; omega
      have HBOX : Hid (∀ z bb tt, Pp w1 z bb tt → z.heap[w.heap.size]? = some (.cells XA 33 (0, 0)) ∧ z.heap[w.heap.size + 1]? = some (.cells YA 33 (0, 0))) := fun z bb tt h => ⟨below_kept h.old G0.out, below_kept h.old G1.out⟩
      unfold PeSay at HA1 HA2 HB1 HB2
      clear HPU1 HPU2 HCM HCL HLE ht ht1 ht2 ht3 hl1 hl2 hl3 hl4 hsm HC HNW L1 L2 L3 L4
      go_upto_region 10 with (fail)
      refine wp_region_any (by kernel_rfl) ?_
      change wpAny _ _ _ _ _ _ _ (World.drew _)
      have PZ : Hid (Pp w1 wr.drew bs t) := ⟨⟨HP.out.at_.box, HP.out.at_.ok, HP.out.at_.tz, HP.out.at_.lo⟩, HP.out.inv, HP.out.old.drew⟩
      have QZ : Hid (Pp w1 wr.drew bt t) := ⟨⟨HQ.out.at_.box, HQ.out.at_.ok, HQ.out.at_.tz, HQ.out.at_.lo⟩, HQ.out.inv, HQ.out.old.drew⟩
      obtain ⟨z, hz9⟩ : ∃ y, y = wr.drew := ⟨_, rfl⟩
      rw [← hz9] at PZ QZ ⊢
      clear hz9
      refine wpAny_of_held (S := fun z => z.heap[w.heap.size]? = some (.cells XA 33 (0, 0)) ∧ z.heap[w.heap.size + 1]? = some (.cells YA 33 (0, 0))) _ _ _ _ ?_
      have SD : (fun z => z.heap[w.heap.size]? = some (.cells XA 33 (0, 0)) ∧ z.heap[w.heap.size + 1]? = some (.cells YA 33 (0, 0))) z := HBOX.out _ _ _ PZ.out
      refine anyH_take 0 50 (.pointer (some ⟨bs, 0, none⟩)) SD rfl (by kernel_rfl) (by kernel_rfl) (by kernel_rfl) (fun _ _ _ h => h) (by rfl) (by intro y hy; go_simp) ?_
      try simp only [Act.put, List.setIfInBounds_toArray, List.set_cons_zero, List.set_cons_succ]
      refine anyH_take 1 51 (.int .i64 a) SD rfl (by kernel_rfl) (by kernel_rfl) (by kernel_rfl) (fun _ _ _ h => h) (by rfl) (by intro y hy; go_simp) ?_
      try simp only [Act.put, List.setIfInBounds_toArray, List.set_cons_zero, List.set_cons_succ]
      refine anyH_take 2 52 (.agg XA) SD rfl (by kernel_rfl) (by kernel_rfl) (by kernel_rfl) (fun _ _ _ h => h) (by rfl) (fun y hy => exec_arr _ _ (w.heap.size) 0 _ _ rfl (rng_whole hy.1) Try.underlying33 rfl hsX) ?_
      try simp only [Act.put, List.setIfInBounds_toArray, List.set_cons_zero, List.set_cons_succ]
      refine anyH_take 4 54 (.pointer (some ⟨bs, 0, none⟩)) SD rfl (by kernel_rfl) (by kernel_rfl) (by kernel_rfl) (fun _ _ _ h => h) (by rfl) (by intro y hy; go_simp) ?_
      try simp only [Act.put, List.setIfInBounds_toArray, List.set_cons_zero, List.set_cons_succ]
      refine anyH_take 5 55 (.int .i64 b) SD rfl (by kernel_rfl) (by kernel_rfl) (by kernel_rfl) (fun _ _ _ h => h) (by rfl) (by intro y hy; go_simp) ?_
      try simp only [Act.put, List.setIfInBounds_toArray, List.set_cons_zero, List.set_cons_succ]
      refine anyH_take 6 56 (.agg YA) SD rfl (by kernel_rfl) (by kernel_rfl) (by kernel_rfl) (fun _ _ _ h => h) (by rfl) (fun y hy => exec_arr _ _ (w.heap.size + 1) 0 _ _ rfl (rng_whole hy.2) Try.underlying33 rfl hsY) ?_
      try simp only [Act.put, List.setIfInBounds_toArray, List.set_cons_zero, List.set_cons_succ]
      refine anyH_one 3 (by kernel_rfl) ?_
      refine wpOp_step rfl (fun Kc hKc => ?_)
      go_simp
      refine (HA1.out _ PZ.out).mono ?_
      rintro e6 w6 ⟨rfl, P6, O6⟩
      have Q6 := Lib.hid (QZ.out.other O6.out (Ne.symm HNE.out) P6.out.at_.lo)
      have SD6 := HBOX.out _ _ _ P6.out
      dsimp only
      refine hKc _ _ ⟨SD6, ?_⟩
      clear hKc Kc SD
      have SD := SD6
      try simp only [Act.put, List.setIfInBounds_toArray, List.set_cons_zero, List.set_cons_succ]
      refine anyH_one 7 (by kernel_rfl) ?_
      refine wpOp_step rfl (fun Kc hKc => ?_)
      go_simp
      refine (HA2.out _ P6.out).mono ?_
      rintro e7 w7 ⟨rfl, P7, O7⟩
      have Q7 := Lib.hid (Q6.out.other O7.out (Ne.symm HNE.out) P7.out.at_.lo)
      have SD7 := HBOX.out _ _ _ P7.out
      dsimp only
      refine hKc _ _ ⟨SD7, ?_⟩
      clear hKc Kc SD
      have SD := SD7
      try simp only [Act.put, List.setIfInBounds_toArray, List.set_cons_zero, List.set_cons_succ]
      refine anyH_take 8 58 (.int .i64 (sm : Int)) SD rfl (by kernel_rfl) (by kernel_rfl) (by kernel_rfl) (fun _ _ _ h => h) (by rfl) (by intro y hy; go_simp) ?_
      try simp only [Act.put, List.setIfInBounds_toArray, List.set_cons_zero, List.set_cons_succ]
      refine anyH_take 9 14 (.int .i64 (sm : Int)) SD rfl (by kernel_rfl) (by kernel_rfl) (by kernel_rfl) (fun _ _ _ h => h) (by rfl) (by intro y hy; go_simp) ?_
      try simp only [Act.put, List.setIfInBounds_toArray, List.set_cons_zero, List.set_cons_succ]
      refine wpAnyH_done (by kernel_rfl) ?_ _
      go_upto_region 11 with (fail)
      refine wp_region_any (by kernel_rfl) ?_
      change wpAny _ _ _ _ _ _ _ (World.drew _)
      have PZ : Hid (Pp w1 w7.drew bs t3) := ⟨⟨P7.out.at_.box, P7.out.at_.ok, P7.out.at_.tz, P7.out.at_.lo⟩, P7.out.inv, P7.out.old.drew⟩
      have QZ : Hid (Pp w1 w7.drew bt t) := ⟨⟨Q7.out.at_.box, Q7.out.at_.ok, Q7.out.at_.tz, Q7.out.at_.lo⟩, Q7.out.inv, Q7.out.old.drew⟩
      obtain ⟨z, hz9⟩ : ∃ y, y = w7.drew := ⟨_, rfl⟩
      rw [← hz9] at PZ QZ ⊢
      clear hz9
      refine wpAny_of_held (S := fun z => z.heap[w.heap.size]? = some (.cells XA 33 (0, 0)) ∧ z.heap[w.heap.size + 1]? = some (.cells YA 33 (0, 0))) _ _ _ _ ?_
      have SD : (fun z => z.heap[w.heap.size]? = some (.cells XA 33 (0, 0)) ∧ z.heap[w.heap.size + 1]? = some (.cells YA 33 (0, 0))) z := HBOX.out _ _ _ PZ.out
      refine anyH_take 0 59 (.pointer (some ⟨bt, 0, none⟩)) SD rfl (by kernel_rfl) (by kernel_rfl) (by kernel_rfl) (fun _ _ _ h => h) (by rfl) (by intro y hy; go_simp) ?_
      try simp only [Act.put, List.setIfInBounds_toArray, List.set_cons_zero, List.set_cons_succ]
      refine anyH_take 1 60 (.int .i64 b) SD rfl (by kernel_rfl) (by kernel_rfl) (by kernel_rfl) (fun _ _ _ h => h) (by rfl) (by intro y hy; go_simp) ?_
      try simp only [Act.put, List.setIfInBounds_toArray, List.set_cons_zero, List.set_cons_succ]
      refine anyH_take 2 61 (.agg YA) SD rfl (by kernel_rfl) (by kernel_rfl) (by kernel_rfl) (fun _ _ _ h => h) (by rfl) (fun y hy => exec_arr _ _ (w.heap.size + 1) 0 _ _ rfl (rng_whole hy.2) Try.underlying33 rfl hsY) ?_
      try simp only [Act.put, List.setIfInBounds_toArray, List.set_cons_zero, List.set_cons_succ]
      refine anyH_take 4 63 (.pointer (some ⟨bt, 0, none⟩)) SD rfl (by kernel_rfl) (by kernel_rfl) (by kernel_rfl) (fun _ _ _ h => h) (by rfl) (by intro y hy; go_simp) ?_
      try simp only [Act.put, List.setIfInBounds_toArray, List.set_cons_zero, List.set_cons_succ]
      refine anyH_take 5 64 (.int .i64 a) SD rfl (by kernel_rfl) (by kernel_rfl) (by kernel_rfl) (fun _ _ _ h => h) (by rfl) (by intro y hy; go_simp) ?_
      try simp only [Act.put, List.setIfInBounds_toArray, List.set_cons_zero, List.set_cons_succ]
      refine anyH_take 6 65 (.agg XA) SD rfl (by kernel_rfl) (by kernel_rfl) (by kernel_rfl) (fun _ _ _ h => h) (by rfl) (fun y hy => exec_arr _ _ (w.heap.size) 0 _ _ rfl (rng_whole hy.1) Try.underlying33 rfl hsX) ?_
      try simp only [Act.put, List.setIfInBounds_toArray, List.set_cons_zero, List.set_cons_succ]
      refine anyH_one 3 (by kernel_rfl) ?_
      refine wpOp_step rfl (fun Kc hKc => ?_)
      go_simp
      refine (HB1.out _ QZ.out).mono ?_
      rintro e8 w8 ⟨rfl, Q8, O8⟩
      have P8 := Lib.hid (PZ.out.other O8.out HNE.out Q8.out.at_.lo)
      have SD8 := HBOX.out _ _ _ Q8.out
      dsimp only
      refine hKc _ _ ⟨SD8, ?_⟩
      clear hKc Kc SD
      have SD := SD8
      try simp only [Act.put, List.setIfInBounds_toArray, List.set_cons_zero, List.set_cons_succ]
      refine anyH_one 7 (by kernel_rfl) ?_
      refine wpOp_step rfl (fun Kc hKc => ?_)
      go_simp
      refine (HB2.out _ Q8.out).mono ?_
      rintro e9 w9 ⟨rfl, Q9, O9⟩
      have P9 := Lib.hid (P8.out.other O9.out HNE.out Q9.out.at_.lo)
      have SD9 := HBOX.out _ _ _ Q9.out
      dsimp only
      refine hKc _ _ ⟨SD9, ?_⟩
      clear hKc Kc SD
      have SD := SD9
      try simp only [Act.put, List.setIfInBounds_toArray, List.set_cons_zero, List.set_cons_succ]
      refine anyH_take 8 67 (.int .i64 (sm : Int)) SD rfl (by kernel_rfl) (by kernel_rfl) (by kernel_rfl) (fun _ _ _ h => h) (by rfl) (by intro y hy; go_simp) ?_
      try simp only [Act.put, List.setIfInBounds_toArray, List.set_cons_zero, List.set_cons_succ]
      refine anyH_take 9 15 (.int .i64 (sm : Int)) SD rfl (by kernel_rfl) (by kernel_rfl) (by kernel_rfl) (fun _ _ _ h => h) (by rfl) (by intro y hy; go_simp) ?_
      try simp only [Act.put, List.setIfInBounds_toArray, List.set_cons_zero, List.set_cons_succ]
      refine wpAnyH_done (by kernel_rfl) ?_ _
      clear HA1 HA2 HB1 HB2 P7 Q7 P6 Q6 P8 Q8 O6 O7 O8 O9 HP HQ HL
      have HNB : Hid (∀ z bb (j : Nat), Pp w1 z bb t3 → Calls Try.prog 23 #[.pointer (some ⟨bb, 0, none⟩), .int .i64 (j : Int)] z (RbSay (Tr.nodeR t3 (j : Int)) (Tr.nodeB t3 (j : Int)) z)) := fun z bb j h => pnode_any (j : Int) z h.at_
      have HPG : Hid (∀ z bb (j : Nat), Pp w1 z bb t3 → Calls Try.prog 25 #[.pointer (some ⟨bb, 0, none⟩), .int .i64 (j : Int)] z (PgSay (Tr.pageL t3 (j : Int)) z)) := fun z bb j h => ppage_any (j : Int) z h.at_
      have HRF : Hid (∀ z bb, Pp w1 z bb t3 → Calls Try.prog 14 #[.pointer (some ⟨bb, 0, none⟩)] z (ToSay (Tr.refs t3) z)) := fun z bb h => prefs_any z h.at_
      have HDI : Hid (∀ z bb, Pp w1 z bb t3 → Calls Try.prog 20 #[.pointer (some ⟨bb, 0, none⟩)] z (DiSay t3 z)) := fun z bb h => pdirty_any z h.at_
      have HOKT := Lib.hid P9.out.at_.ok
      have HRO : Hid (∀ j : Nat, Pg.Ok (Tr.nodeR t3 (j : Int))) := fun j => by
        unfold Tr.nodeR
        split
        · exact nr_ok HOKT.out _
        · exact pg_zr
      have HSR : Hid (∀ z B C u v, Fl B 33 33 z u ((Tr.refs t3).map rfA) → Fl C 33 33 z v ((Tr.refs t3).map rfA) → Calls Try.prog 26 #[u, v] z (BoSay true z)) := fun z B C u v hu hv => by
        have q := samerefs_any (refs_ok HOKT.out) (refs_ok HOKT.out) (by have := refs_le t3; omega) z hu hv
        rw [decide_eq_true rfl] at q
        exact q
      have HSI : Hid (∀ z B C u v, IxO B z u (Tr.dirtyL t3) → IxO C z v (Tr.dirtyL t3) → Calls Try.prog 28 #[u, v] z (BoSay true z)) := fun z B C u v hu hv => by
        have q := sameints_any (by have := Tr.dirtyL_le t3; omega) z hu hv
        rw [decide_eq_true rfl] at q
        exact q
      obtain ⟨Z, hz0⟩ := zfk
      have HZS := Lib.hid hz0.size
      have hz := (zero_of_info hz0.zero).1
      have hzn : ¬ Z = #[] := fun h => by have := HZS.out; rw [h] at this; simp at this
      go_wp2
      go_loopw [16] (fun v16 wr => ∃ j : Nat, j ≤ 9 ∧ v16 = .int .i64 j ∧ Hid (Pp w1 wr bs t3) ∧ Hid (Pp w1 wr bt t3)) (fun v16 _ => 9 - (intOf v16).toNat)
      case atStart => exact ⟨0, Nat.zero_le _, rfl, P9, Q9⟩
      case round =>
        clear P9 Q9
        obtain ⟨j, hj, rfl, HP, HQ⟩ := hrel
        by_cases hlt : j < 9
        · have hj1 : (j : Int) < 9 := by omega
          have HN1 := Lib.hid (fun z bb h => HNB.out z bb j h)
          have HP1 := Lib.hid (fun z bb h => HPG.out z bb j h)
          obtain ⟨R, Z', eA, e33, hk, _⟩ := rfz (HRO.out j)
          have HRS := Lib.hid hk.size
          have HR1 := Lib.hid hk.one
          have hsR := row_size Try.sizeRef33 HRS
          have heqr : ∀ z, (Op.equalIn 10000 33 (.agg R) (.agg R)).run Try.prog z = .ok true z := fun z => by
            have q := rf_eqs (HRO.out j) (HRO.out j) z
            rw [decide_eq_true rfl, eA] at q
            exact q
          obtain ⟨A, RA, eP, _⟩ := pgk (Tr.page_ok HOKT.out (j : Int))
          have heqp : ∀ z, (Op.equalIn 10000 36 (.agg A) (.agg A)).run Try.prog z = .ok true z := fun z => by
            have q := page_eq (Tr.page_ok HOKT.out (j : Int)) (Tr.page_ok HOKT.out (j : Int)) z
            rw [decide_eq_true rfl, eP] at q
            exact q
          unfold RbSay at HN1
          unfold PgSay at HP1
          rw [e33] at HN1
          rw [eP] at HP1
          generalize Tr.nodeB t3 (j : Int) = nb at *
          have hbb : (nb != nb) = false := by simp
          clear HNB HPG hk eA e33 eP hlt HRF HDI HSR HSI HRO
          go_wp2_with (first
            | (go_at_call 23; with_reducible refine (HN1.out _ bs HP.out).mono ?_; rintro e10 w10 ⟨rfl, B10⟩)
            | ((with_reducible refine row_store _ _ _ w10.heap.size _ _ _ ?_ ?_ (heap_alloc_new w10 _) hsR ?_ HR1.out ?_); (exact rfl); (exact rfl); (rw [HRS.out, HZS.out]); intro w11 G11 ch11; have C11 := Lib.hid (ch11.below (B10.out.alloc B10.out.size _) B10.out.size); have P11 := Lib.hid (HP.out.next C11.out); have Q11 := Lib.hid (HQ.out.next C11.out))
            | (go_at_call 23; with_reducible refine (HN1.out _ bt Q11.out).mono ?_; rintro e12 w12 ⟨rfl, B12⟩)
            | ((with_reducible refine row_store _ _ _ w12.heap.size _ _ _ ?_ ?_ (heap_alloc_new w12 _) hsR ?_ HR1.out ?_); (exact rfl); (exact rfl); (rw [HRS.out, HZS.out]); intro w13 G13 ch13; have C13 := Lib.hid (ch13.below (B12.out.alloc B12.out.size _) B12.out.size); have P13 := Lib.hid (P11.out.next C13.out); have Q13 := Lib.hid (Q11.out.next C13.out); have H13 := Lib.hid (below_kept C13.out G11.out))
            | (go_at_call 25; with_reducible refine (HP1.out _ bs P13.out).mono ?_; rintro e14 w14 ⟨rfl, B14⟩; have P14 := Lib.hid (P13.out.next B14.out); have Q14 := Lib.hid (Q13.out.next B14.out); have G14 := Lib.hid (below_kept B14.out G13.out); have H14 := Lib.hid (below_kept B14.out H13.out))
            | (go_at_call 25; with_reducible refine (HP1.out _ bt Q14.out).mono ?_; rintro e15 w15 ⟨rfl, B15⟩; have P15 := Lib.hid (P14.out.next B15.out); have Q15 := Lib.hid (Q14.out.next B15.out); have G15 := Lib.hid (below_kept B15.out G14.out); have H15 := Lib.hid (below_kept B15.out H14.out))
            | ((with_reducible refine row_load_g _ _ w10.heap.size _ _ _ _ ?_ ?_ H15.out Try.underlying33 ?_ hsR ?_); (exact rfl); (exact rfl); (exact rfl))
            | ((with_reducible refine row_load_g _ _ w12.heap.size _ _ _ _ ?_ ?_ G15.out Try.underlying33 ?_ hsR ?_); (exact rfl); (exact rfl); (exact rfl)))
          exact ⟨⟨j + 1, by omega, by go_num, P15, Q15⟩, by simp [intOf]; omega⟩
        · have E : j = 9 := by omega
          subst E
          unfold ToSay at HRF
          unfold DiSay at HDI
          unfold BoSay at HSR HSI
          clear hlt HNB HPG HRO
          go_wp2_with (first
            | (go_at_call 14; with_reducible refine (HRF.out _ bs HP.out).mono ?_; rintro e16 w16 ⟨v16, rfl, F16, B16⟩; have P16 := Lib.hid (HP.out.next B16.out); have Q16 := Lib.hid (HQ.out.next B16.out))
            | (go_at_call 14; with_reducible refine (HRF.out _ bt Q16.out).mono ?_; rintro e17 w17 ⟨v17, rfl, F17, B17⟩; have P17 := Lib.hid (P16.out.next B17.out); have Q17 := Lib.hid (Q16.out.next B17.out); have F16' := Lib.hid (F16.out.old B17.out))
            | (go_at_call 26; with_reducible refine (HSR.out _ _ _ _ _ F16'.out F17.out).mono ?_; rintro e18 w18 ⟨rfl, B18⟩; have P18 := Lib.hid (P17.out.next B18.out); have Q18 := Lib.hid (Q17.out.next B18.out))
            | (go_at_call 20; with_reducible refine (HDI.out _ bs P18.out).mono ?_; rintro e19 w19 ⟨v19, rfl, F19, B19⟩; have P19 := Lib.hid (P18.out.next B19.out); have Q19 := Lib.hid (Q18.out.next B19.out))
            | (go_at_call 20; with_reducible refine (HDI.out _ bt Q19.out).mono ?_; rintro e20 w20 ⟨v20, rfl, F20, B20⟩; have P20 := Lib.hid (P19.out.next B20.out); have F19' := Lib.hid (F19.out.old B20.out))
            | (go_at_call 28; with_reducible refine (HSI.out _ _ _ _ _ F19'.out F20.out).mono ?_; rintro e21 w21 ⟨rfl, B21⟩; have P21 := Lib.hid (P20.out.next B21.out))
            | (go_at_call 9; with_reducible refine (HW.out _).mono ?_; rintro e22 w22 ⟨rfl, B22⟩; have P22 := Lib.hid (P21.out.next B22.out)))
          go_ret
          exact ⟨rfl, Lib.hid (B1.out.trans (P22.out.old.mono B1.out.size))⟩
end Go.Proofs.Ytfeemeddhhgigaa

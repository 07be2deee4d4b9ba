/-
  Contracts: rec, works.
-/
import Derived.Test.YtpfghjnhoafcmaaRgQ0
import Derived.Test.YtpfghjnhoafcmaaRg4
import Derived.Test.YtpfghjnhoafcmaaDk4
namespace Go.Proofs.Ytpfghjnhoafcmaa
open Go.RowKit

theorem build_mkr (g s : Int) : Try.prog.built 40 [(0, .int .i64 g), (1, .int .i64 s), (2, .int .i64 2)] = some (RAr (Rg.mkr g s)) := by
  rw [built_of Try.zeroRec Try.placesRec]
  obtain ⟨pl, hpl⟩ : ∃ pl : Nat → Option (Nat × Nat), pl = fun (i : Nat) => ([(0, 1), (1, 1), (2, 1), (3, 32), (35, 33), (68, 2), (70, 2), (72, 32), (104, 32)] : List (Nat × Nat)).toArray[i]? := ⟨_, rfl⟩
  rw [← hpl]
  have p0 : pl 0 = some (0, 1) := by rw [hpl]; rfl
  have p1 : pl 1 = some (1, 1) := by rw [hpl]; rfl
  have p2 : pl 2 = some (2, 1) := by rw [hpl]; rfl
  clear hpl
  unfold RAr Rg.mkr cv
  generalize (u8v Rg.zero.su ++ ((Value.int .i64 Rg.zero.rt.1 :: u8v Rg.zero.rt.2) ++ ([.int .i64 Rg.zero.bs, .int .i64 Rg.zero.bl] ++ ([.int .i64 Rg.zero.ts, .int .i64 Rg.zero.tl] ++ (u8v Rg.zero.b1 ++ u8v Rg.zero.b2))))) = X
  change Instr.fill pl (([] : List Value) ++ (([Value.int .i64 Rg.zero.gen] : List Value) ++ (([Value.int .i64 Rg.zero.st] : List Value) ++ (([Value.int .i64 Rg.zero.ep] : List Value) ++ X)))).toArray _ = some (([Value.int .i64 g, Value.int .i64 s, Value.int .i64 2] : List Value) ++ X).toArray
  rw [fill_seg pl ([] : List Value) ([Value.int .i64 Rg.zero.gen] : List Value) ([Value.int .i64 g] : List Value) _ 0 0 1 (Value.int .i64 g) _ p0 rfl rfl rfl rfl]
  rw [fill_seg pl (([] : List Value) ++ ([Value.int .i64 g] : List Value)) ([Value.int .i64 Rg.zero.st] : List Value) ([Value.int .i64 s] : List Value) _ 1 1 1 (Value.int .i64 s) _ p1 rfl rfl rfl rfl]
  rw [fill_seg pl ((([] : List Value) ++ ([Value.int .i64 g] : List Value)) ++ ([Value.int .i64 s] : List Value)) ([Value.int .i64 Rg.zero.ep] : List Value) ([Value.int .i64 2] : List Value) _ 2 2 1 (Value.int .i64 2) _ p2 rfl rfl rfl rfl]
  unfold Instr.fill
  rfl
set_option maxRecDepth 100000 in
theorem rec_any (g s : Int) (hg : Pk.In64 g) (hs : Pk.In64 s) (w : World) : Calls Try.prog 30 #[.int .i64 g, .int .i64 s] w (fun e w' => e = .returned (RV (Rg.mkr g s)) ∧ Hid (Below w.heap.size w w')) := by
  obtain ⟨Z, hZ⟩ : ∃ Z, Hid (RAr Rg.zero = Z) := ⟨_, rfl⟩
  have HZS : Hid (Z.size = 136) := by show _ = _; rw [← hZ.out]; exact rar_size Rg.ok_zero
  have hz := (zero_of_info Try.zeroRec).1
  rw [show (cv Rg.zero).toArray = Z from hZ.out] at hz
  have hzn : ¬ Z = #[] := fun h => by have := HZS.out; rw [h] at this; simp at this
  have hsz := row_size Try.sizeRec HZS
  have HBL := Lib.hid (build_mkr g s)
  have HAS : Hid ((RAr (Rg.mkr g s)).size = 136) := rar_size (Rg.mkr_ok hg hs)
  have HA1 : Hid ((RAr (Rg.mkr g s)).all (·.oneCell') = true) := rar_one _
  have HRV := Lib.hid (rv_eq (Rg.mkr g s))
  rw [HRV.out]
  clear hg hs HRV
  generalize RAr (Rg.mkr g s) = A at *
  have R0 : Hid ((w.alloc (.cells Z 40)).heap[w.heap.size]? = some (.cells Z 40 (0, 0))) := heap_alloc_new w _
  have B0 : Hid (Below w.heap.size w (w.alloc (.cells Z 40))) := (Below.refl _ w).alloc (Nat.le_refl _) _
  go_enter Try.func30, Try.ntmps30
  go_wp2_with (first
    | ((with_reducible refine row_buildN _ _ _ _ ?_ HBL.out ?_); (exact rfl))
    | ((with_reducible refine row_store _ _ _ _ _ _ _ ?_ ?_ R0.out (row_size Try.sizeRec HAS) ?_ HA1.out ?_); (exact rfl); (exact rfl); (rw [HAS.out, HZS.out]); intro w4 G4 ch4))
  refine bodyPost_ret (results_cell_row rfl _ _ w.heap.size 40 _ (0, 0) _ rfl G4.out Try.underlying40 rfl (row_size Try.sizeRec HAS)) rfl ⟨rfl, ch4.below B0.out (Nat.le_refl _)⟩
set_option maxHeartbeats 4000000 in
set_option maxRecDepth 100000 in
theorem works_any (w : World) : Calls Try.prog 8 #[] w (YesSay w) := by
  have HR1 : Hid (∀ y, Calls Try.prog 30 #[.int .i64 1, .int .i64 2] y (fun e w' => e = .returned (.agg (RAr Rg.r1)) ∧ Hid (Below y.heap.size y w'))) := fun y => by
    have h := rec_any 1 2 (by unfold Pk.In64; omega) (by unfold Pk.In64; omega) y
    rw [rv_eq] at h
    unfold Rg.r1
    exact h
  have HR2 : Hid (∀ y, Calls Try.prog 30 #[.int .i64 2, .int .i64 3] y (fun e w' => e = .returned (.agg (RAr Rg.r2)) ∧ Hid (Below y.heap.size y w'))) := fun y => by
    have h := rec_any 2 3 (by unfold Pk.In64; omega) (by unfold Pk.In64; omega) y
    rw [rv_eq] at h
    unfold Rg.r2
    exact h
  have HW1 : Hid (∀ K y d g, Vs w K y d g Rg.m0 Nm.St.none → Calls Try.prog 13 #[.pointer (some ⟨d, 0, none⟩), .iface 29 (.pointer (some ⟨g, 0, none⟩)), .agg (RAr Rg.r1), .int .i64 1] y (VSay w K d g (.int .i64 0) Rg.m1 Rg.S1 y)) := fun K y d g h => by
    have h2 := vs_write Rg.r1 Rg.r1_ok 1 h Rg.m0_wr (Nat.zero_le _)
    rw [Rg.e1, rv_eq] at h2
    unfold Rg.m1 Rg.S1
    exact h2
  have HW2 : Hid (∀ K y d g, Vs w K y d g Rg.m1 Rg.S1 → Calls Try.prog 13 #[.pointer (some ⟨d, 0, none⟩), .iface 29 (.pointer (some ⟨g, 0, none⟩)), .agg (RAr Rg.r2), .int .i64 5] y (VSay w K d g (.int .i64 0) Rg.m2 Rg.S2 y)) := fun K y d g h => by
    have h2 := vs_write Rg.r2 Rg.r2_ok 5 h Rg.m1_wr (Nat.le_trans Rg.s1_le (by omega))
    rw [Rg.e2, rv_eq] at h2
    unfold Rg.m2 Rg.S2
    exact h2
  have HA : Hid (∀ K y d g, Vs w K y d g Rg.m2 Rg.S2 → Calls Try.prog 15 #[.pointer (some ⟨d, 0, none⟩), .iface 29 (.pointer (some ⟨g, 0, none⟩))] y (fun e z => ∃ q c, e = .returned (.slice (some ⟨q, 0, none⟩) 2 c) ∧ Hid (Rs z (some ⟨q, 0, none⟩) c [Rg.r2, Rg.r1]) ∧ Hid (Below w.heap.size w z))) := fun K y d g h => by
    refine (vs_all h Rg.m2_rd).mono ?_
    rintro e z ⟨v, rfl, ho, hok, hv, hk⟩
    rw [Rg.a2] at ho hok
    obtain ⟨p, c, rfl, hs⟩ := ho.out.es hok.out
    obtain ⟨ab, ao, rfl, _⟩ := hs.at_ (by simp)
    have ha : ao = 0 := by
      rcases ho.out.2 with ⟨h1, _⟩ | ⟨g', cap, cur, h1, _⟩
      · cases h1
      · injection h1 with h1 _ _; injection h1 with h1; injection h1 with _ h1 _
    subst ha
    exact ⟨ab, c, rfl, hs, hv.out.low⟩
  have HP : Hid (∀ y, Calls Try.prog 31 #[.agg (RAr Rg.r1)] y (GPutYes (Rg.pt Rg.r1) y)) := fun y => by rw [← rv_eq]; exact gput_yes Rg.r1 Rg.r1_ok Rg.r1_may y
  have HC : Hid (∀ y q c, Rs y (some ⟨q, 0, none⟩) c [Rg.r2, Rg.r1] → Calls Try.prog 32 #[.slice (some ⟨q, 0, none⟩) 2 c, .int .i64 1] y (fun e w' => e = .returned (.tuple #[.agg (RAr Rg.r1), .bool true]) ∧ Hid (Below y.heap.size y w'))) := fun y q c h => by
    have h2 := choose_any [Rg.r2, Rg.r1] (some ⟨q, 0, none⟩) 2 c rfl (by omega) 1 (by unfold Pk.In64; omega) y h
    rw [Rg.c1] at h2
    unfold ChSay at h2
    have e : RV ((some Rg.r1).getD Rg.zero) = .agg (RAr Rg.r1) := rv_eq _
    rw [e] at h2
    exact h2
  have HS1 : Hid ((RAr Rg.r1).size = 136) := rar_size Rg.r1_ok
  have HO1 : Hid ((RAr Rg.r1).all (·.oneCell') = true) := rar_one _
  have HS2 : Hid ((RAr Rg.r2).size = 136) := rar_size Rg.r2_ok
  have HE1 : Hid (∀ y, (Op.equalIn 10000 40 (.agg (RAr Rg.r1)) (.agg (RAr Rg.r1))).run Try.prog y = .ok true y) := fun y => by have h := rec_eqs _ _ Rg.r1_ok Rg.r1_ok y; rw [decide_eq_true rfl] at h; exact h
  have HE2 : Hid (∀ y, (Op.equalIn 10000 40 (.agg (RAr Rg.r2)) (.agg (RAr Rg.r2))).run Try.prog y = .ok true y) := fun y => by have h := rec_eqs _ _ Rg.r2_ok Rg.r2_ok y; rw [decide_eq_true rfl] at h; exact h
  have HL2 : Hid (∀ y q c, Rs y (some ⟨q, 0, none⟩) c [Rg.r2, Rg.r1] → y.rangeAt q 0 (RAr Rg.r2).toList) := fun y q c h => by
    have h2 := h.rng (i := 0) (by simp)
    rw [Nat.zero_mul, Nat.add_zero] at h2
    exact h2
  have HM : Hid (Dk.fresh 4 = Rg.m0) := by show _ = _; unfold Rg.m0; rfl
  obtain ⟨Z, hZ⟩ : ∃ Z, Hid (RAr Rg.zero = Z) := ⟨_, rfl⟩
  have HZS : Hid (Z.size = 136) := by show _ = _; rw [← hZ.out]; exact rar_size Rg.ok_zero
  have hz := (zero_of_info Try.zeroRec).1
  rw [show (cv Rg.zero).toArray = Z from hZ.out] at hz
  have hzn : ¬ Z = #[] := fun h => by have := HZS.out; rw [h] at this; simp at this
  have hsz := row_size Try.sizeRec HZS
  generalize RAr Rg.r1 = A1 at *
  generalize RAr Rg.r2 = A2 at *
  go_enter Try.func8, Try.ntmps8
  go_upto_region 5 with (first
    | (go_at_call 9; refine (new4 4 (by omega) (by omega) _).mono ?_; rintro e1 w1 ⟨d, lb, rb, cb, rfl, hd1, hb1⟩; have HB1 := Lib.hid hb1)
    | (go_at_call 10; refine (new_any _).mono ?_; rintro e2 w2 ⟨g, b, c, rfl, hg2, hs2, hb2⟩; have HV2 : Hid (Vs w w2.heap.size w2 d g Rg.m0 Nm.St.none) := by rw [← HM.out]; exact vs_make hd1.out HB1.out hs2.out hg2.out hb2))
  clear hd1 hs2 hg2 hb2 hb1 HM
  generalize w2.heap.size = K at *
  go_upto_region 6 with (first
    | (go_at_call 30; refine (HR1.out _).mono ?_; rintro e3 w3 ⟨rfl, HB3⟩; have HV3 := Lib.hid (HV2.out.old HB3.out))
    | (go_at_call 13; refine (HW1.out _ _ _ _ HV3.out).mono ?_; rintro e4 w4 ⟨rfl, HV4, HK4⟩))
  go_upto_region 7 with (first
    | (go_at_call 30; refine (HR2.out _).mono ?_; rintro e5 w5 ⟨rfl, HB5⟩; have HV5 := Lib.hid (HV4.out.old HB5.out))
    | (go_at_call 13; refine (HW2.out _ _ _ _ HV5.out).mono ?_; rintro e6 w6 ⟨rfl, HV6, HK6⟩))
  go_upto_region 8 with (go_at_call 15; refine (HA.out _ _ _ _ HV6.out).mono ?_; rintro e7 w7 ⟨q, c, rfl, HL7, HB7⟩)
  clear HW1 HW2 HA HV2 HV3 HV4 HV5 HV6 HB1 HB3 HB5 HK4 HK6
  go_upto_region 9 with (first
    | (go_at_call 30; refine (HR1.out _).mono ?_; rintro e8 w8 ⟨rfl, HB8⟩)
    | (go_at_call 31; refine (HP.out _).mono ?_; rintro e9 w9 ⟨p9, c9, rfl, HO9, HS9, HB9⟩; have HBq := Lib.hid (HB8.out.trans (HB9.out.mono HB8.out.size)); have HL9 := Lib.hid (HL7.out.old HBq.out)))
  clear HP HO9 HS9 HB9 HB8
  go_upto_region 10 with (first
    | (go_at_call 32; refine (HC.out _ _ _ HL9.out).mono ?_; rintro e10 w10 ⟨rfl, HB10⟩)
    | ((with_reducible refine row_store _ _ _ _ _ _ _ ?_ ?_ (heap_alloc_new _ _) (row_size Try.sizeRec HS1) ?_ HO1.out ?_); (exact rfl); (exact rfl); (rw [HS1.out, HZS.out]); intro w11 G11 ch11))
  have HB11 : Hid (Below w10.heap.size w10 w11) := ch11.below ((Below.refl _ w10).alloc (Nat.le_refl _) _) (Nat.le_refl _)
  have HBr : Hid (Below w9.heap.size w9 w11) := HB10.out.trans (HB11.out.mono HB10.out.size)
  have HL11 := Lib.hid (HL9.out.old HBr.out)
  have BZ : Hid (Below w.heap.size w w11.drew) := (HB7.out.trans ((HBq.out.trans (HBr.out.mono HBq.out.size)).mono HB7.out.size)).drew
  have LZ : Hid (Rs w11.drew (some ⟨q, 0, none⟩) c [Rg.r2, Rg.r1]) := HL11.out.drew
  have GZ : Hid (w11.drew.heap[w10.heap.size]? = some (.cells A1 40 (0, 0))) := G11.out
  clear HC HB7 HBq HL7 HL9 HB10 HB11 HBr HL11 ch11 G11
  refine wp_region_any (by kernel_rfl) ?_
  change wpAny _ _ _ _ _ _ _ (World.drew _)
  obtain ⟨z, hz'⟩ : ∃ x, x = w11.drew := ⟨_, rfl⟩
  rw [← hz'] at BZ LZ GZ ⊢
  clear hz'
  generalize w10.heap.size = g9 at *
  have he1 := HE1.out
  have he2 := HE2.out
  have KZ : Hid (∀ y, Below z.heap.size z y → y.rangeAt q 0 A2.toList ∧ y.heap[g9]? = some (.cells A1 40 (0, 0))) := fun y hy => ⟨HL2.out y q c (LZ.out.old hy), (hy.block _ (lt_of_block GZ.out)).trans GZ.out⟩
  have D0 : Hid (Below z.heap.size z z) := Below.refl _ _
  refine wpAny_of_held (S := fun y => y.rangeAt q 0 A2.toList ∧ y.heap[g9]? = some (.cells A1 40 (0, 0))) _ _ _ _ ?_
  have SD := KZ.out _ D0.out
  refine anyH_take 0 42 (.int .i64 0) SD rfl (by kernel_rfl) (by kernel_rfl) (by kernel_rfl) (fun _ _ _ h => h) (by rfl) (by intro x hx; have y0 := hx; (first | exact exec_arr 40 (.tmp 64) q 0 A2 _ rfl hx.1 Try.underlying40 rfl (row_size Try.sizeRec HS2) | exact exec_arr 40 (.tmp 9) g9 0 A1 _ rfl (fun j v hv => by rw [cell_of_row x g9 (0 + j) _ _ _ hx.2, Nat.zero_add]; simpa using hv) Try.underlying40 rfl (row_size Try.sizeRec HS1) | go_simp); try (intro h; omega)) ?_
  try simp only [Act.put, List.setIfInBounds_toArray, List.set_cons_zero, List.set_cons_succ]
  refine anyH_take 1 43 (.bool true) SD rfl (by kernel_rfl) (by kernel_rfl) (by kernel_rfl) (fun _ _ _ h => h) (by rfl) (by intro x hx; have y0 := hx; (first | exact exec_arr 40 (.tmp 64) q 0 A2 _ rfl hx.1 Try.underlying40 rfl (row_size Try.sizeRec HS2) | exact exec_arr 40 (.tmp 9) g9 0 A1 _ rfl (fun j v hv => by rw [cell_of_row x g9 (0 + j) _ _ _ hx.2, Nat.zero_add]; simpa using hv) Try.underlying40 rfl (row_size Try.sizeRec HS1) | go_simp); try (intro h; omega)) ?_
  try simp only [Act.put, List.setIfInBounds_toArray, List.set_cons_zero, List.set_cons_succ]
  refine anyH_take 2 44 (.bool true) SD rfl (by kernel_rfl) (by kernel_rfl) (by kernel_rfl) (fun _ _ _ h => h) (by rfl) (by intro x hx; have y0 := hx; (first | exact exec_arr 40 (.tmp 64) q 0 A2 _ rfl hx.1 Try.underlying40 rfl (row_size Try.sizeRec HS2) | exact exec_arr 40 (.tmp 9) g9 0 A1 _ rfl (fun j v hv => by rw [cell_of_row x g9 (0 + j) _ _ _ hx.2, Nat.zero_add]; simpa using hv) Try.underlying40 rfl (row_size Try.sizeRec HS1) | go_simp); try (intro h; omega)) ?_
  try simp only [Act.put, List.setIfInBounds_toArray, List.set_cons_zero, List.set_cons_succ]
  refine anyH_take 3 45 (.int .i64 0) SD rfl (by kernel_rfl) (by kernel_rfl) (by kernel_rfl) (fun _ _ _ h => h) (by rfl) (by intro x hx; have y0 := hx; (first | exact exec_arr 40 (.tmp 64) q 0 A2 _ rfl hx.1 Try.underlying40 rfl (row_size Try.sizeRec HS2) | exact exec_arr 40 (.tmp 9) g9 0 A1 _ rfl (fun j v hv => by rw [cell_of_row x g9 (0 + j) _ _ _ hx.2, Nat.zero_add]; simpa using hv) Try.underlying40 rfl (row_size Try.sizeRec HS1) | go_simp); try (intro h; omega)) ?_
  try simp only [Act.put, List.setIfInBounds_toArray, List.set_cons_zero, List.set_cons_succ]
  refine anyH_take 4 46 (.bool true) SD rfl (by kernel_rfl) (by kernel_rfl) (by kernel_rfl) (fun _ _ _ h => h) (by rfl) (by intro x hx; have y0 := hx; (first | exact exec_arr 40 (.tmp 64) q 0 A2 _ rfl hx.1 Try.underlying40 rfl (row_size Try.sizeRec HS2) | exact exec_arr 40 (.tmp 9) g9 0 A1 _ rfl (fun j v hv => by rw [cell_of_row x g9 (0 + j) _ _ _ hx.2, Nat.zero_add]; simpa using hv) Try.underlying40 rfl (row_size Try.sizeRec HS1) | go_simp); try (intro h; omega)) ?_
  try simp only [Act.put, List.setIfInBounds_toArray, List.set_cons_zero, List.set_cons_succ]
  refine anyH_take 5 47 (.bool true) SD rfl (by kernel_rfl) (by kernel_rfl) (by kernel_rfl) (fun _ _ _ h => h) (by rfl) (by intro x hx; have y0 := hx; (first | exact exec_arr 40 (.tmp 64) q 0 A2 _ rfl hx.1 Try.underlying40 rfl (row_size Try.sizeRec HS2) | exact exec_arr 40 (.tmp 9) g9 0 A1 _ rfl (fun j v hv => by rw [cell_of_row x g9 (0 + j) _ _ _ hx.2, Nat.zero_add]; simpa using hv) Try.underlying40 rfl (row_size Try.sizeRec HS1) | go_simp); try (intro h; omega)) ?_
  try simp only [Act.put, List.setIfInBounds_toArray, List.set_cons_zero, List.set_cons_succ]
  refine anyH_take 6 48 (.bool true) SD rfl (by kernel_rfl) (by kernel_rfl) (by kernel_rfl) (fun _ _ _ h => h) (by rfl) (by intro x hx; have y0 := hx; (first | exact exec_arr 40 (.tmp 64) q 0 A2 _ rfl hx.1 Try.underlying40 rfl (row_size Try.sizeRec HS2) | exact exec_arr 40 (.tmp 9) g9 0 A1 _ rfl (fun j v hv => by rw [cell_of_row x g9 (0 + j) _ _ _ hx.2, Nat.zero_add]; simpa using hv) Try.underlying40 rfl (row_size Try.sizeRec HS1) | go_simp); try (intro h; omega)) ?_
  try simp only [Act.put, List.setIfInBounds_toArray, List.set_cons_zero, List.set_cons_succ]
  refine anyH_take 7 49 (.int .i64 0) SD rfl (by kernel_rfl) (by kernel_rfl) (by kernel_rfl) (fun _ _ _ h => h) (by rfl) (by intro x hx; have y0 := hx; (first | exact exec_arr 40 (.tmp 64) q 0 A2 _ rfl hx.1 Try.underlying40 rfl (row_size Try.sizeRec HS2) | exact exec_arr 40 (.tmp 9) g9 0 A1 _ rfl (fun j v hv => by rw [cell_of_row x g9 (0 + j) _ _ _ hx.2, Nat.zero_add]; simpa using hv) Try.underlying40 rfl (row_size Try.sizeRec HS1) | go_simp); try (intro h; omega)) ?_
  try simp only [Act.put, List.setIfInBounds_toArray, List.set_cons_zero, List.set_cons_succ]
  refine anyH_take 8 50 (.bool true) SD rfl (by kernel_rfl) (by kernel_rfl) (by kernel_rfl) (fun _ _ _ h => h) (by rfl) (by intro x hx; have y0 := hx; (first | exact exec_arr 40 (.tmp 64) q 0 A2 _ rfl hx.1 Try.underlying40 rfl (row_size Try.sizeRec HS2) | exact exec_arr 40 (.tmp 9) g9 0 A1 _ rfl (fun j v hv => by rw [cell_of_row x g9 (0 + j) _ _ _ hx.2, Nat.zero_add]; simpa using hv) Try.underlying40 rfl (row_size Try.sizeRec HS1) | go_simp); try (intro h; omega)) ?_
  try simp only [Act.put, List.setIfInBounds_toArray, List.set_cons_zero, List.set_cons_succ]
  refine anyH_take 9 51 (.bool true) SD rfl (by kernel_rfl) (by kernel_rfl) (by kernel_rfl) (fun _ _ _ h => h) (by rfl) (by intro x hx; have y0 := hx; (first | exact exec_arr 40 (.tmp 64) q 0 A2 _ rfl hx.1 Try.underlying40 rfl (row_size Try.sizeRec HS2) | exact exec_arr 40 (.tmp 9) g9 0 A1 _ rfl (fun j v hv => by rw [cell_of_row x g9 (0 + j) _ _ _ hx.2, Nat.zero_add]; simpa using hv) Try.underlying40 rfl (row_size Try.sizeRec HS1) | go_simp); try (intro h; omega)) ?_
  try simp only [Act.put, List.setIfInBounds_toArray, List.set_cons_zero, List.set_cons_succ]
  refine anyH_take 10 52 (.bool true) SD rfl (by kernel_rfl) (by kernel_rfl) (by kernel_rfl) (fun _ _ _ h => h) (by rfl) (by intro x hx; have y0 := hx; (first | exact exec_arr 40 (.tmp 64) q 0 A2 _ rfl hx.1 Try.underlying40 rfl (row_size Try.sizeRec HS2) | exact exec_arr 40 (.tmp 9) g9 0 A1 _ rfl (fun j v hv => by rw [cell_of_row x g9 (0 + j) _ _ _ hx.2, Nat.zero_add]; simpa using hv) Try.underlying40 rfl (row_size Try.sizeRec HS1) | go_simp); try (intro h; omega)) ?_
  try simp only [Act.put, List.setIfInBounds_toArray, List.set_cons_zero, List.set_cons_succ]
  refine anyH_take 11 53 (.slice p9 192 c9) SD rfl (by kernel_rfl) (by kernel_rfl) (by kernel_rfl) (fun _ _ _ h => h) (by rfl) (by intro x hx; have y0 := hx; (first | exact exec_arr 40 (.tmp 64) q 0 A2 _ rfl hx.1 Try.underlying40 rfl (row_size Try.sizeRec HS2) | exact exec_arr 40 (.tmp 9) g9 0 A1 _ rfl (fun j v hv => by rw [cell_of_row x g9 (0 + j) _ _ _ hx.2, Nat.zero_add]; simpa using hv) Try.underlying40 rfl (row_size Try.sizeRec HS1) | go_simp); try (intro h; omega)) ?_
  try simp only [Act.put, List.setIfInBounds_toArray, List.set_cons_zero, List.set_cons_succ]
  refine anyH_take 12 54 (.int .i64 192) SD rfl (by kernel_rfl) (by kernel_rfl) (by kernel_rfl) (fun _ _ _ h => h) (by rfl) (by intro x hx; have y0 := hx; (first | exact exec_arr 40 (.tmp 64) q 0 A2 _ rfl hx.1 Try.underlying40 rfl (row_size Try.sizeRec HS2) | exact exec_arr 40 (.tmp 9) g9 0 A1 _ rfl (fun j v hv => by rw [cell_of_row x g9 (0 + j) _ _ _ hx.2, Nat.zero_add]; simpa using hv) Try.underlying40 rfl (row_size Try.sizeRec HS1) | go_simp); try (intro h; omega)) ?_
  try simp only [Act.put, List.setIfInBounds_toArray, List.set_cons_zero, List.set_cons_succ]
  refine anyH_take 13 55 (.bool true) SD rfl (by kernel_rfl) (by kernel_rfl) (by kernel_rfl) (fun _ _ _ h => h) (by rfl) (by intro x hx; have y0 := hx; (first | exact exec_arr 40 (.tmp 64) q 0 A2 _ rfl hx.1 Try.underlying40 rfl (row_size Try.sizeRec HS2) | exact exec_arr 40 (.tmp 9) g9 0 A1 _ rfl (fun j v hv => by rw [cell_of_row x g9 (0 + j) _ _ _ hx.2, Nat.zero_add]; simpa using hv) Try.underlying40 rfl (row_size Try.sizeRec HS1) | go_simp); try (intro h; omega)) ?_
  try simp only [Act.put, List.setIfInBounds_toArray, List.set_cons_zero, List.set_cons_succ]
  refine anyH_take 14 56 (.bool true) SD rfl (by kernel_rfl) (by kernel_rfl) (by kernel_rfl) (fun _ _ _ h => h) (by rfl) (by intro x hx; have y0 := hx; (first | exact exec_arr 40 (.tmp 64) q 0 A2 _ rfl hx.1 Try.underlying40 rfl (row_size Try.sizeRec HS2) | exact exec_arr 40 (.tmp 9) g9 0 A1 _ rfl (fun j v hv => by rw [cell_of_row x g9 (0 + j) _ _ _ hx.2, Nat.zero_add]; simpa using hv) Try.underlying40 rfl (row_size Try.sizeRec HS1) | go_simp); try (intro h; omega)) ?_
  try simp only [Act.put, List.setIfInBounds_toArray, List.set_cons_zero, List.set_cons_succ]
  refine anyH_take 15 57 (.bool true) SD rfl (by kernel_rfl) (by kernel_rfl) (by kernel_rfl) (fun _ _ _ h => h) (by rfl) (by intro x hx; have y0 := hx; (first | exact exec_arr 40 (.tmp 64) q 0 A2 _ rfl hx.1 Try.underlying40 rfl (row_size Try.sizeRec HS2) | exact exec_arr 40 (.tmp 9) g9 0 A1 _ rfl (fun j v hv => by rw [cell_of_row x g9 (0 + j) _ _ _ hx.2, Nat.zero_add]; simpa using hv) Try.underlying40 rfl (row_size Try.sizeRec HS1) | go_simp); try (intro h; omega)) ?_
  try simp only [Act.put, List.setIfInBounds_toArray, List.set_cons_zero, List.set_cons_succ]
  refine anyH_take 16 58 (.slice (some ⟨q, 0, none⟩) 2 c) SD rfl (by kernel_rfl) (by kernel_rfl) (by kernel_rfl) (fun _ _ _ h => h) (by rfl) (by intro x hx; have y0 := hx; (first | exact exec_arr 40 (.tmp 64) q 0 A2 _ rfl hx.1 Try.underlying40 rfl (row_size Try.sizeRec HS2) | exact exec_arr 40 (.tmp 9) g9 0 A1 _ rfl (fun j v hv => by rw [cell_of_row x g9 (0 + j) _ _ _ hx.2, Nat.zero_add]; simpa using hv) Try.underlying40 rfl (row_size Try.sizeRec HS1) | go_simp); try (intro h; omega)) ?_
  try simp only [Act.put, List.setIfInBounds_toArray, List.set_cons_zero, List.set_cons_succ]
  refine anyH_take 17 59 (.int .i64 2) SD rfl (by kernel_rfl) (by kernel_rfl) (by kernel_rfl) (fun _ _ _ h => h) (by rfl) (by intro x hx; have y0 := hx; (first | exact exec_arr 40 (.tmp 64) q 0 A2 _ rfl hx.1 Try.underlying40 rfl (row_size Try.sizeRec HS2) | exact exec_arr 40 (.tmp 9) g9 0 A1 _ rfl (fun j v hv => by rw [cell_of_row x g9 (0 + j) _ _ _ hx.2, Nat.zero_add]; simpa using hv) Try.underlying40 rfl (row_size Try.sizeRec HS1) | go_simp); try (intro h; omega)) ?_
  try simp only [Act.put, List.setIfInBounds_toArray, List.set_cons_zero, List.set_cons_succ]
  refine anyH_take 18 60 (.bool true) SD rfl (by kernel_rfl) (by kernel_rfl) (by kernel_rfl) (fun _ _ _ h => h) (by rfl) (by intro x hx; have y0 := hx; (first | exact exec_arr 40 (.tmp 64) q 0 A2 _ rfl hx.1 Try.underlying40 rfl (row_size Try.sizeRec HS2) | exact exec_arr 40 (.tmp 9) g9 0 A1 _ rfl (fun j v hv => by rw [cell_of_row x g9 (0 + j) _ _ _ hx.2, Nat.zero_add]; simpa using hv) Try.underlying40 rfl (row_size Try.sizeRec HS1) | go_simp); try (intro h; omega)) ?_
  try simp only [Act.put, List.setIfInBounds_toArray, List.set_cons_zero, List.set_cons_succ]
  refine anyH_take 19 61 (.bool true) SD rfl (by kernel_rfl) (by kernel_rfl) (by kernel_rfl) (fun _ _ _ h => h) (by rfl) (by intro x hx; have y0 := hx; (first | exact exec_arr 40 (.tmp 64) q 0 A2 _ rfl hx.1 Try.underlying40 rfl (row_size Try.sizeRec HS2) | exact exec_arr 40 (.tmp 9) g9 0 A1 _ rfl (fun j v hv => by rw [cell_of_row x g9 (0 + j) _ _ _ hx.2, Nat.zero_add]; simpa using hv) Try.underlying40 rfl (row_size Try.sizeRec HS1) | go_simp); try (intro h; omega)) ?_
  try simp only [Act.put, List.setIfInBounds_toArray, List.set_cons_zero, List.set_cons_succ]
  refine anyH_take 20 62 (.bool true) SD rfl (by kernel_rfl) (by kernel_rfl) (by kernel_rfl) (fun _ _ _ h => h) (by rfl) (by intro x hx; have y0 := hx; (first | exact exec_arr 40 (.tmp 64) q 0 A2 _ rfl hx.1 Try.underlying40 rfl (row_size Try.sizeRec HS2) | exact exec_arr 40 (.tmp 9) g9 0 A1 _ rfl (fun j v hv => by rw [cell_of_row x g9 (0 + j) _ _ _ hx.2, Nat.zero_add]; simpa using hv) Try.underlying40 rfl (row_size Try.sizeRec HS1) | go_simp); try (intro h; omega)) ?_
  try simp only [Act.put, List.setIfInBounds_toArray, List.set_cons_zero, List.set_cons_succ]
  refine anyH_take 21 63 (.slice (some ⟨q, 0, none⟩) 2 c) SD rfl (by kernel_rfl) (by kernel_rfl) (by kernel_rfl) (fun _ _ _ h => h) (by rfl) (by intro x hx; have y0 := hx; (first | exact exec_arr 40 (.tmp 64) q 0 A2 _ rfl hx.1 Try.underlying40 rfl (row_size Try.sizeRec HS2) | exact exec_arr 40 (.tmp 9) g9 0 A1 _ rfl (fun j v hv => by rw [cell_of_row x g9 (0 + j) _ _ _ hx.2, Nat.zero_add]; simpa using hv) Try.underlying40 rfl (row_size Try.sizeRec HS1) | go_simp); try (intro h; omega)) ?_
  try simp only [Act.put, List.setIfInBounds_toArray, List.set_cons_zero, List.set_cons_succ]
  refine anyH_take 22 64 (.pointer (some ⟨q, 0, none⟩)) SD rfl (by kernel_rfl) (by kernel_rfl) (by kernel_rfl) (fun _ _ _ h => h) (by rfl) (by intro x hx; have y0 := hx; (first | exact exec_arr 40 (.tmp 64) q 0 A2 _ rfl hx.1 Try.underlying40 rfl (row_size Try.sizeRec HS2) | exact exec_arr 40 (.tmp 9) g9 0 A1 _ rfl (fun j v hv => by rw [cell_of_row x g9 (0 + j) _ _ _ hx.2, Nat.zero_add]; simpa using hv) Try.underlying40 rfl (row_size Try.sizeRec HS1) | go_simp); try (intro h; omega)) ?_
  try simp only [Act.put, List.setIfInBounds_toArray, List.set_cons_zero, List.set_cons_succ]
  refine anyH_take 23 65 (.agg A2) SD rfl (by kernel_rfl) (by kernel_rfl) (by kernel_rfl) (fun _ _ _ h => h) (by rfl) (by intro x hx; have y0 := hx; (first | exact exec_arr 40 (.tmp 64) q 0 A2 _ rfl hx.1 Try.underlying40 rfl (row_size Try.sizeRec HS2) | exact exec_arr 40 (.tmp 9) g9 0 A1 _ rfl (fun j v hv => by rw [cell_of_row x g9 (0 + j) _ _ _ hx.2, Nat.zero_add]; simpa using hv) Try.underlying40 rfl (row_size Try.sizeRec HS1) | go_simp); try (intro h; omega)) ?_
  try simp only [Act.put, List.setIfInBounds_toArray, List.set_cons_zero, List.set_cons_succ]
  refine anyH_one 24 (by kernel_rfl) ?_
  refine wpOp_step rfl (fun Kc hKc => ?_)
  go_simp
  refine (HR2.out _).mono ?_
  rintro e21 z1 ⟨rfl, HBz1⟩
  have D1 := Lib.hid (D0.out.trans (HBz1.out.mono D0.out.size))
  dsimp only
  refine hKc _ _ ⟨KZ.out _ D1.out, ?_⟩
  clear hKc Kc
  try simp only [Act.put, List.setIfInBounds_toArray, List.set_cons_zero, List.set_cons_succ]
  clear SD
  have SD := KZ.out _ D1.out
  refine anyH_take 25 67 (.bool true) SD rfl (by kernel_rfl) (by kernel_rfl) (by kernel_rfl) (fun _ _ _ h => h) (by rfl) (by intro x hx; have y0 := hx; (first | exact exec_arr 40 (.tmp 64) q 0 A2 _ rfl hx.1 Try.underlying40 rfl (row_size Try.sizeRec HS2) | exact exec_arr 40 (.tmp 9) g9 0 A1 _ rfl (fun j v hv => by rw [cell_of_row x g9 (0 + j) _ _ _ hx.2, Nat.zero_add]; simpa using hv) Try.underlying40 rfl (row_size Try.sizeRec HS1) | go_simp); try (intro h; omega)) ?_
  try simp only [Act.put, List.setIfInBounds_toArray, List.set_cons_zero, List.set_cons_succ]
  refine anyH_take 26 68 (.bool true) SD rfl (by kernel_rfl) (by kernel_rfl) (by kernel_rfl) (fun _ _ _ h => h) (by rfl) (by intro x hx; have y0 := hx; (first | exact exec_arr 40 (.tmp 64) q 0 A2 _ rfl hx.1 Try.underlying40 rfl (row_size Try.sizeRec HS2) | exact exec_arr 40 (.tmp 9) g9 0 A1 _ rfl (fun j v hv => by rw [cell_of_row x g9 (0 + j) _ _ _ hx.2, Nat.zero_add]; simpa using hv) Try.underlying40 rfl (row_size Try.sizeRec HS1) | go_simp); try (intro h; omega)) ?_
  try simp only [Act.put, List.setIfInBounds_toArray, List.set_cons_zero, List.set_cons_succ]
  refine anyH_take 27 69 (.bool true) SD rfl (by kernel_rfl) (by kernel_rfl) (by kernel_rfl) (fun _ _ _ h => h) (by rfl) (by intro x hx; have y0 := hx; (first | exact exec_arr 40 (.tmp 64) q 0 A2 _ rfl hx.1 Try.underlying40 rfl (row_size Try.sizeRec HS2) | exact exec_arr 40 (.tmp 9) g9 0 A1 _ rfl (fun j v hv => by rw [cell_of_row x g9 (0 + j) _ _ _ hx.2, Nat.zero_add]; simpa using hv) Try.underlying40 rfl (row_size Try.sizeRec HS1) | go_simp); try (intro h; omega)) ?_
  try simp only [Act.put, List.setIfInBounds_toArray, List.set_cons_zero, List.set_cons_succ]
  refine anyH_take 28 70 (.bool true) SD rfl (by kernel_rfl) (by kernel_rfl) (by kernel_rfl) (fun _ _ _ h => h) (by rfl) (by intro x hx; have y0 := hx; (first | exact exec_arr 40 (.tmp 64) q 0 A2 _ rfl hx.1 Try.underlying40 rfl (row_size Try.sizeRec HS2) | exact exec_arr 40 (.tmp 9) g9 0 A1 _ rfl (fun j v hv => by rw [cell_of_row x g9 (0 + j) _ _ _ hx.2, Nat.zero_add]; simpa using hv) Try.underlying40 rfl (row_size Try.sizeRec HS1) | go_simp); try (intro h; omega)) ?_
  try simp only [Act.put, List.setIfInBounds_toArray, List.set_cons_zero, List.set_cons_succ]
  refine anyH_take 29 71 (.bool true) SD rfl (by kernel_rfl) (by kernel_rfl) (by kernel_rfl) (fun _ _ _ h => h) (by rfl) (by intro x hx; have y0 := hx; (first | exact exec_arr 40 (.tmp 64) q 0 A2 _ rfl hx.1 Try.underlying40 rfl (row_size Try.sizeRec HS2) | exact exec_arr 40 (.tmp 9) g9 0 A1 _ rfl (fun j v hv => by rw [cell_of_row x g9 (0 + j) _ _ _ hx.2, Nat.zero_add]; simpa using hv) Try.underlying40 rfl (row_size Try.sizeRec HS1) | go_simp); try (intro h; omega)) ?_
  try simp only [Act.put, List.setIfInBounds_toArray, List.set_cons_zero, List.set_cons_succ]
  refine anyH_take 30 72 (.bool true) SD rfl (by kernel_rfl) (by kernel_rfl) (by kernel_rfl) (fun _ _ _ h => h) (by rfl) (by intro x hx; have y0 := hx; (first | exact exec_arr 40 (.tmp 64) q 0 A2 _ rfl hx.1 Try.underlying40 rfl (row_size Try.sizeRec HS2) | exact exec_arr 40 (.tmp 9) g9 0 A1 _ rfl (fun j v hv => by rw [cell_of_row x g9 (0 + j) _ _ _ hx.2, Nat.zero_add]; simpa using hv) Try.underlying40 rfl (row_size Try.sizeRec HS1) | go_simp); try (intro h; omega)) ?_
  try simp only [Act.put, List.setIfInBounds_toArray, List.set_cons_zero, List.set_cons_succ]
  refine anyH_take 31 73 (.agg A1) SD rfl (by kernel_rfl) (by kernel_rfl) (by kernel_rfl) (fun _ _ _ h => h) (by rfl) (by intro x hx; have y0 := hx; (first | exact exec_arr 40 (.tmp 64) q 0 A2 _ rfl hx.1 Try.underlying40 rfl (row_size Try.sizeRec HS2) | exact exec_arr 40 (.tmp 9) g9 0 A1 _ rfl (fun j v hv => by rw [cell_of_row x g9 (0 + j) _ _ _ hx.2, Nat.zero_add]; simpa using hv) Try.underlying40 rfl (row_size Try.sizeRec HS1) | go_simp); try (intro h; omega)) ?_
  try simp only [Act.put, List.setIfInBounds_toArray, List.set_cons_zero, List.set_cons_succ]
  refine anyH_one 32 (by kernel_rfl) ?_
  refine wpOp_step rfl (fun Kc hKc => ?_)
  go_simp
  refine (HR1.out _).mono ?_
  rintro e22 z2 ⟨rfl, HBz2⟩
  have D2 := Lib.hid (D1.out.trans (HBz2.out.mono D1.out.size))
  dsimp only
  refine hKc _ _ ⟨KZ.out _ D2.out, ?_⟩
  clear hKc Kc
  try simp only [Act.put, List.setIfInBounds_toArray, List.set_cons_zero, List.set_cons_succ]
  clear SD
  have SD := KZ.out _ D2.out
  refine anyH_take 33 75 (.bool true) SD rfl (by kernel_rfl) (by kernel_rfl) (by kernel_rfl) (fun _ _ _ h => h) (by rfl) (by intro x hx; have y0 := hx; (first | exact exec_arr 40 (.tmp 64) q 0 A2 _ rfl hx.1 Try.underlying40 rfl (row_size Try.sizeRec HS2) | exact exec_arr 40 (.tmp 9) g9 0 A1 _ rfl (fun j v hv => by rw [cell_of_row x g9 (0 + j) _ _ _ hx.2, Nat.zero_add]; simpa using hv) Try.underlying40 rfl (row_size Try.sizeRec HS1) | go_simp); try (intro h; omega)) ?_
  try simp only [Act.put, List.setIfInBounds_toArray, List.set_cons_zero, List.set_cons_succ]
  refine anyH_take 34 76 (.bool true) SD rfl (by kernel_rfl) (by kernel_rfl) (by kernel_rfl) (fun _ _ _ h => h) (by rfl) (by intro x hx; have y0 := hx; (first | exact exec_arr 40 (.tmp 64) q 0 A2 _ rfl hx.1 Try.underlying40 rfl (row_size Try.sizeRec HS2) | exact exec_arr 40 (.tmp 9) g9 0 A1 _ rfl (fun j v hv => by rw [cell_of_row x g9 (0 + j) _ _ _ hx.2, Nat.zero_add]; simpa using hv) Try.underlying40 rfl (row_size Try.sizeRec HS1) | go_simp); try (intro h; omega)) ?_
  try simp only [Act.put, List.setIfInBounds_toArray, List.set_cons_zero, List.set_cons_succ]
  refine anyH_take 35 0 (.bool true) SD rfl (by kernel_rfl) (by kernel_rfl) (by kernel_rfl) (fun _ _ _ h => h) (by rfl) (by intro x hx; have y0 := hx; (first | exact exec_arr 40 (.tmp 64) q 0 A2 _ rfl hx.1 Try.underlying40 rfl (row_size Try.sizeRec HS2) | exact exec_arr 40 (.tmp 9) g9 0 A1 _ rfl (fun j v hv => by rw [cell_of_row x g9 (0 + j) _ _ _ hx.2, Nat.zero_add]; simpa using hv) Try.underlying40 rfl (row_size Try.sizeRec HS1) | go_simp); try (intro h; omega)) ?_
  try simp only [Act.put, List.setIfInBounds_toArray, List.set_cons_zero]
  refine wpAnyH_done (by kernel_rfl) ?_ _
  go_wp2
  go_ret
  exact ⟨rfl, BZ.out.trans (D2.out.mono BZ.out.size)⟩

end Go.Proofs.Ytpfghjnhoafcmaa

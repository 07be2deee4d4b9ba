/-
  Contract: works.
-/
import Derived.Test.YtkgefogkdmbciaaBaK
namespace Go.Proofs.Ytkgefogkdmbciaa
open Go.RowKit

set_option maxHeartbeats 2000000 in
set_option maxRecDepth 100000 in
theorem works_any (w : World) : Calls Try.prog 10 #[] w (YesSay w) := by
  have H3 : Hid (∀ y, Calls Try.prog 28 #[] y (SmNew 3 Bt.Z (-1) 3 Bt.T3 y)) := fun y => three_any y
  have HP : Hid (∀ y g, EsRow y g Bt.T3 → Calls Try.prog 12 #[.agg (SmA 3 Bt.Z (-1) (.slice (some ⟨g, 0, none⟩) 3 3))] y (PutOk (Bt.ofS 3 Bt.Z (-1) Bt.T3) 224 y)) := fun y g hy => put_three y g hy
  have HG : Hid (∀ y p c, Bs y p c (Bt.ofS 3 Bt.Z (-1) Bt.T3) → Calls Try.prog 20 #[.slice p 224 c] y (GetOk 3 Bt.Z (-1) 3 Bt.T3 y)) := fun y p c hy => get_three y p c hy
  have HSM : Hid (∀ y g h, EsRow y g Bt.T3 → EsRow y h Bt.T3 → Calls Try.prog 22 #[.agg (SmA 3 Bt.Z (-1) (.slice (some ⟨g, 0, none⟩) 3 3)), .agg (SmA 3 Bt.Z (-1) (.slice (some ⟨h, 0, none⟩) 3 3))] y (YesSay y)) := fun y g h hg hh => by
    have e := samesum_any 3 3 (-1) (-1) Bt.Z Bt.Z (some ⟨g, 0, none⟩) (some ⟨h, 0, none⟩) 3 3 3 3 Bt.T3 Bt.T3 Bt.t3_len Bt.t3_len (by omega) y ⟨Bt.z_len, Bt.z_byt, hg.es Bt.t3s_ok (by rw [Bt.t3_len]; omega)⟩ ⟨Bt.z_len, Bt.z_byt, hh.es Bt.t3s_ok (by rw [Bt.t3_len]; omega)⟩
    rw [decide_eq_true (show _ ∧ _ ∧ _ ∧ _ from ⟨rfl, rfl, rfl, rfl⟩)] at e
    exact e
  generalize Bt.ofS 3 Bt.Z (-1) Bt.T3 = B at *
  go_enter Try.func10, Try.ntmps10
  go_upto_region 2 with (first
    | (go_at_call 28; refine (H3.out _).mono ?_; rintro e1 w1 ⟨g1, rfl, R1, HG1, B1⟩)
    | (go_at_call 12; refine (HP.out _ _ R1.out).mono ?_; rintro e9 w9 ⟨p9, c9, rfl, HO9, HB9, B9⟩))
  have BB : Hid (Below w.heap.size w w9) := B1.out.trans (B9.out.mono B1.out.size)
  clear HP R1 HG1 B1 HO9 B9
  have HXS : Hid (∀ g, (SmA 3 Bt.Z (-1) (.slice (some ⟨g, 0, none⟩) 3 3)).size = 35) := fun g => smA_size _ _ _ Bt.z_len
  have HX1 : Hid (∀ g, (SmA 3 Bt.Z (-1) (.slice (some ⟨g, 0, none⟩) 3 3)).all (·.oneCell') = true) := fun g => smA_one _ _ _ _ _ _
  go_upto_region 3 with (first
    | (go_at_call 20; refine (HG.out _ _ _ HB9.out).mono ?_; rintro e2 w2 ⟨g2, rfl, R2, HG2, B2⟩)
    | ((with_reducible refine row_store _ _ _ _ _ _ _ ?_ ?_ (heap_alloc_new _ _) (sm_info (HXS.out g2)) ?_ (HX1.out g2) ?_); (exact rfl); (exact rfl); (rw [HXS.out g2]; rfl); intro w3 G3 ch3))
  have K3 : Hid (Below w2.heap.size w2 w3) := ch3.below ((Below.refl _ w2).alloc (Nat.le_refl _) _) (Nat.le_refl _)
  have R3 : Hid (EsRow w3 g2 Bt.T3) := R2.out.old K3.out
  have B3 : Hid (Below w.heap.size w w3) := BB.out.trans ((B2.out.trans (K3.out.mono B2.out.size)).mono BB.out.size)
  clear ch3 K3 R2 B2 BB HG HB9 HG2
  refine wp_region_any (by kernel_rfl) ?_
  change wpAny _ _ _ _ _ _ _ (World.drew _)
  have Gz : Hid (w3.drew.heap[w2.heap.size]? = some (.cells (SmA 3 Bt.Z (-1) (.slice (some ⟨g2, 0, none⟩) 3 3)) 26 (0, 0))) := G3.out
  have Rz : Hid (EsRow w3.drew g2 Bt.T3) := R3.out
  have Bz : Hid (Below w.heap.size w w3.drew) := B3.out.drew
  obtain ⟨z, hz⟩ : ∃ y, y = w3.drew := ⟨_, rfl⟩
  rw [← hz] at Gz Rz Bz ⊢
  clear hz
  refine wpAny_of_held (S := fun y => y.heap[w2.heap.size]? = some (.cells (SmA 3 Bt.Z (-1) (.slice (some ⟨g2, 0, none⟩) 3 3)) 26 (0, 0))) _ _ _ _ ?_
  refine anyH_take 0 15 (.int .i64 0) Gz.out rfl (by kernel_rfl) (by kernel_rfl) (by kernel_rfl) (fun _ _ _ h => h) (by rfl) (by intro y hy; go_simp) ?_
  try simp only [Act.put, List.setIfInBounds_toArray, List.set_cons_zero, List.set_cons_succ]
  refine anyH_take 1 16 (.bool true) Gz.out rfl (by kernel_rfl) (by kernel_rfl) (by kernel_rfl) (fun _ _ _ h => h) (by rfl) (by intro y hy; go_simp) ?_
  try simp only [Act.put, List.setIfInBounds_toArray, List.set_cons_zero, List.set_cons_succ]
  refine anyH_take 2 17 (.bool true) Gz.out rfl (by kernel_rfl) (by kernel_rfl) (by kernel_rfl) (fun _ _ _ h => h) (by rfl) (by intro y hy; go_simp) ?_
  try simp only [Act.put, List.setIfInBounds_toArray, List.set_cons_zero, List.set_cons_succ]
  refine anyH_take 3 18 (.slice p9 224 c9) Gz.out rfl (by kernel_rfl) (by kernel_rfl) (by kernel_rfl) (fun _ _ _ h => h) (by rfl) (by intro y hy; go_simp) ?_
  try simp only [Act.put, List.setIfInBounds_toArray, List.set_cons_zero, List.set_cons_succ]
  refine anyH_take 4 19 (.int .i64 224) Gz.out rfl (by kernel_rfl) (by kernel_rfl) (by kernel_rfl) (fun _ _ _ h => h) (by rfl) (by intro y hy; go_simp) ?_
  try simp only [Act.put, List.setIfInBounds_toArray, List.set_cons_zero, List.set_cons_succ]
  refine anyH_take 5 20 (.bool true) Gz.out rfl (by kernel_rfl) (by kernel_rfl) (by kernel_rfl) (fun _ _ _ h => h) (by rfl) (by intro y hy; go_simp) ?_
  try simp only [Act.put, List.setIfInBounds_toArray, List.set_cons_zero, List.set_cons_succ]
  refine anyH_take 6 21 (.bool true) Gz.out rfl (by kernel_rfl) (by kernel_rfl) (by kernel_rfl) (fun _ _ _ h => h) (by rfl) (by intro y hy; go_simp) ?_
  try simp only [Act.put, List.setIfInBounds_toArray, List.set_cons_zero, List.set_cons_succ]
  refine anyH_take 7 22 (.bool true) Gz.out rfl (by kernel_rfl) (by kernel_rfl) (by kernel_rfl) (fun _ _ _ h => h) (by rfl) (by intro y hy; go_simp) ?_
  try simp only [Act.put, List.setIfInBounds_toArray, List.set_cons_zero, List.set_cons_succ]
  refine anyH_take 8 23 (.int .i64 0) Gz.out rfl (by kernel_rfl) (by kernel_rfl) (by kernel_rfl) (fun _ _ _ h => h) (by rfl) (by intro y hy; go_simp) ?_
  try simp only [Act.put, List.setIfInBounds_toArray, List.set_cons_zero, List.set_cons_succ]
  refine anyH_take 9 24 (.bool true) Gz.out rfl (by kernel_rfl) (by kernel_rfl) (by kernel_rfl) (fun _ _ _ h => h) (by rfl) (by intro y hy; go_simp) ?_
  try simp only [Act.put, List.setIfInBounds_toArray, List.set_cons_zero, List.set_cons_succ]
  refine anyH_take 10 25 (.bool true) Gz.out rfl (by kernel_rfl) (by kernel_rfl) (by kernel_rfl) (fun _ _ _ h => h) (by rfl) (by intro y hy; go_simp) ?_
  try simp only [Act.put, List.setIfInBounds_toArray, List.set_cons_zero, List.set_cons_succ]
  refine anyH_take 11 26 (.bool true) Gz.out rfl (by kernel_rfl) (by kernel_rfl) (by kernel_rfl) (fun _ _ _ h => h) (by rfl) (by intro y hy; go_simp) ?_
  try simp only [Act.put, List.setIfInBounds_toArray, List.set_cons_zero, List.set_cons_succ]
  refine anyH_take 12 27 (.agg (SmA 3 Bt.Z (-1) (.slice (some ⟨g2, 0, none⟩) 3 3))) Gz.out rfl (by kernel_rfl) (by kernel_rfl) (by kernel_rfl) (fun _ _ _ h => h) (by rfl) (fun y hy => exec_arr _ _ w2.heap.size 0 _ _ rfl (SmAt.all hy) Try.underlying26 rfl (sm_info (HXS.out _))) ?_
  try simp only [Act.put, List.setIfInBounds_toArray, List.set_cons_zero, List.set_cons_succ]
  refine anyH_one 13 (by kernel_rfl) ?_
  refine wpOp_step rfl (fun Kc hKc => ?_)
  go_simp
  refine (H3.out _).mono ?_
  rintro e4 w4 ⟨g4, rfl, R4, HG4, B4⟩
  have G4 : Hid (w4.heap[w2.heap.size]? = some (.cells (SmA 3 Bt.Z (-1) (.slice (some ⟨g2, 0, none⟩) 3 3)) 26 (0, 0))) := (B4.out.block _ (lt_of_block Gz.out)).trans Gz.out
  have R24 : Hid (EsRow w4 g2 Bt.T3) := Rz.out.old B4.out
  have Bw4 : Hid (Below w.heap.size w w4) := Bz.out.trans (B4.out.mono Bz.out.size)
  dsimp only
  refine hKc _ _ ⟨G4.out, ?_⟩
  clear hKc Kc
  try simp only [Act.put, List.setIfInBounds_toArray, List.set_cons_zero, List.set_cons_succ]
  refine anyH_one 14 (by kernel_rfl) ?_
  refine wpOp_step rfl (fun Kc hKc => ?_)
  go_simp
  refine (HSM.out _ _ _ R24.out R4.out).mono ?_
  rintro e5 w5 ⟨rfl, hb5⟩
  have G5 : Hid (w5.heap[w2.heap.size]? = some (.cells (SmA 3 Bt.Z (-1) (.slice (some ⟨g2, 0, none⟩) 3 3)) 26 (0, 0))) := (hb5.block _ (lt_of_block G4.out)).trans G4.out
  have Bw5 : Hid (Below w.heap.size w w5) := Bw4.out.trans (hb5.mono Bw4.out.size)
  dsimp only
  refine hKc _ _ ⟨G5.out, ?_⟩
  clear hKc Kc
  try simp only [Act.put, List.setIfInBounds_toArray, List.set_cons_zero, List.set_cons_succ]
  refine anyH_take 15 30 (.bool true) G5.out rfl (by kernel_rfl) (by kernel_rfl) (by kernel_rfl) (fun _ _ _ h => h) (by rfl) (by intro y hy; go_simp) ?_
  try simp only [Act.put, List.setIfInBounds_toArray, List.set_cons_zero, List.set_cons_succ]
  refine anyH_take 16 0 (.bool true) G5.out rfl (by kernel_rfl) (by kernel_rfl) (by kernel_rfl) (fun _ _ _ h => h) (by rfl) (by intro y hy; go_simp) ?_
  try simp only [Act.put, List.setIfInBounds_toArray, List.set_cons_zero]
  refine wpAnyH_done (by kernel_rfl) ?_ _
  go_wp2
  go_ret
  exact ⟨rfl, Bw5.out⟩
end Go.Proofs.Ytkgefogkdmbciaa

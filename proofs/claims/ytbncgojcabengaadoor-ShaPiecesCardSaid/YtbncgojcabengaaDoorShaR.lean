/-
  The law ShaPieces: the walk at a nil slice.
-/
import Derived.Test.YtbncgojcabengaaDoorShaQ
namespace Go.Proofs.YtbncgojcabengaaDoor
open Go.RowKit

theorem bytes_nil (w : World) (g : Nat) (p : Option Addr) : BytesAt w g p [] := ⟨fun x hx => (by cases hx), fun h => absurd h (by simp)⟩
set_option maxRecDepth 100000 in
set_option maxHeartbeats 2000000 in
theorem pieces_nil (hT : TakeSaid) (p : Option Addr) (i k : Int) (w : World) (ht : Tab w 1) :
    Calls Tryd.prog 5 #[.slice p 0 0, .int .i64 i, .int .i64 k] w (BoolSay true w) := by
  have HT := Lib.hid hT; clear hT
  have Ht := Lib.hid ht; clear ht
  go_enter Tryd.func5, Tryd.ntmps5
  go_wp2_with fail
  refine (pick_any i _ (by omega) (by omega) _).mono ?_
  rintro e w' ⟨i0, rfl, hi0, rfl⟩
  obtain rfl : i0 = 0 := by omega
  clear hi0
  go_wp2_with fail
  refine (pick_any k _ (by omega) (by omega) _).mono ?_
  rintro e w' ⟨r0, rfl, hr0, rfl⟩
  obtain rfl : r0 = 0 := by omega
  clear hr0
  go_wp2_with fail
  refine (new_any _).mono ?_
  rintro e w1 ⟨rfl, hh1, hb1, hs1⟩
  have S1 := Lib.hid (St.new Ht.out hh1 hb1)
  clear hh1 hb1 hs1
  go_wp2_with fail
  refine (add_st HT.out [] p 0 0 rfl S1.out (bytes_nil _ _ _) (by omega) (by omega) (by simp)).mono ?_
  rintro e w2 ⟨rfl, s2, o2⟩
  rw [List.append_nil] at s2
  have S2 := Lib.hid s2
  clear s2 o2 S1
  go_wp2_with fail
  refine (sum_st HT.out S2.out (by simp)).mono ?_
  rintro e w3 ⟨rfl, s3, o3⟩
  have S3 := Lib.hid s3
  clear s3 o3 S2
  obtain ⟨A1, HA1, HA2, HA3⟩ : ∃ A : Array Value, Hid (A = ((Sha.dg []).map (Value.int .u8)).toArray) ∧ Hid (A.size = 32) ∧ Hid (A.all (·.oneCell') = true) :=
    ⟨_, rfl, by show _ = _; simp [dg_len], all_oneCell_toArray (bytes_one _)⟩
  go_wp2_with fail
  refine (add_st HT.out [] p 0 0 rfl S3.out (bytes_nil _ _ _) (by omega) (by omega) (by simp)).mono ?_
  rintro e w4 ⟨rfl, s4, o4⟩
  rw [List.append_nil] at s4
  have S4 := Lib.hid s4
  clear s4 o4 S3
  go_wp2_with fail
  refine (sum_st HT.out S4.out (by simp)).mono ?_
  rintro e w5 ⟨rfl, s5, o5⟩
  rw [← HA1.out]
  have S5 := Lib.hid s5
  clear s5 o5 S4
  go_wp2_with ((with_reducible refine row_store _ _ _ _ _ _ _ ?_ ?_ (heap_alloc_new _ _) (row_size Tryd.sizeSum HA2) ?_ HA3.out ?_); (exact rfl); (exact rfl); (rw [HA2.out]; rfl); intro w6 G6 ch6; have C6 := Lib.hid ch6; clear ch6)
  have PS := Lib.hid (one_start S5.out C6.out)
  refine (add_st HT.out [] p 0 0 rfl PS.out.1 (bytes_nil _ _ _) (by omega) (by omega) (by simp)).mono ?_
  rintro e w7 ⟨rfl, s7, o7⟩
  rw [List.append_nil] at s7
  have S7 := Lib.hid s7
  have O7 := Lib.hid (one_kept G6.out o7 PS.out.2)
  clear s7 o7 PS G6 C6 S5
  go_upto_region 11 with (fail)
  refine wp_region_any (by kernel_rfl) ?_
  change wpAny _ _ _ _ _ _ _ (World.drew _)
  have S8 : Hid (St w w7.drew w.heap.size []) := S7.out.drew
  have O8 : Hid (w7.drew.heap[w5.heap.size]? = some (.cells A1 26 (0, 0))) := O7.out
  clear S7 O7
  refine any_take 1 49 ?_ rfl (by kernel_rfl) (by kernel_rfl) (by kernel_rfl) (fun _ _ _ h => h) ?_ ?_
  rotate_left
  · (intro w; go_simp; try (with_reducible rfl))
  try simp only [Act.put, List.setIfInBounds_toArray, List.set_cons_zero, List.set_cons_succ]
  refine any_take 2 50 ?_ rfl (by kernel_rfl) (by kernel_rfl) (by kernel_rfl) (fun _ _ _ h => h) ?_ ?_
  rotate_left
  · (intro w; go_simp; try (with_reducible rfl))
  try simp only [Act.put, List.setIfInBounds_toArray, List.set_cons_zero, List.set_cons_succ]
  refine any_take 3 51 ?_ rfl (by kernel_rfl) (by kernel_rfl) (by kernel_rfl) (fun _ _ _ h => h) ?_ ?_
  rotate_left
  · (intro w; go_simp; try (with_reducible rfl))
  try simp only [Act.put, List.setIfInBounds_toArray, List.set_cons_zero, List.set_cons_succ]
  have Hb : Hid (∀ g, w.heap.size ≤ g → BytesAt w g p []) := fun g _ => bytes_nil _ _ _
  have SZ : Hid ((Tryd.prog.info? 26).map (·.size) = some A1.toList.length) := by show _ = _; rw [Array.length_toList, HA2.out]; exact Tryd.sizeSum
  have HE1 : ∀ w, (Op.equalIn 10000 26 (.agg A1) (.agg A1)).run Tryd.prog w = .ok true w := fun w => by rw [HA1.out]; exact sum_same _ (dg_len _) w
  have hng := Tryd.noGuard
  refine any_two 0 4 (by kernel_rfl) ?_ ?_
  · refine op_load 0 26 (.tmp 8) rfl w5.heap.size 0 A1.toList _ rfl (row_range O8.out) Tryd.underlying26 rfl SZ.out ?_
    try simp only [Act.put, List.setIfInBounds_toArray, List.set_cons_zero, List.set_cons_succ]
    rw [Array.toArray_toList]
    refine any_one 4 (by kernel_rfl) ?_
    refine wpOp_step rfl (fun K hK => ?_)
    go_simp
    refine (of_st HT.out [] p 0 0 rfl S8.out Hb.out (by omega) (by omega)).mono ?_
    rintro e w8 ⟨rfl, s9, o9⟩
    rw [← HA1.out]
    have S9 := Lib.hid s9
    clear s9 o9 S8 O8
    dsimp only
    refine hK _ _ ?_
    clear hK K
    try simp only [Act.put, List.setIfInBounds_toArray, List.set_cons_zero, List.set_cons_succ]
    refine any_take_g 5 53 (.bool true) rfl (by kernel_rfl) (by kernel_rfl) (by kernel_rfl) (fun _ _ _ h => h) (by rfl) (by intro w; go_simp) ?_
    try simp only [Act.put, List.setIfInBounds_toArray, List.set_cons_zero, List.set_cons_succ]
    refine any_take_g 6 54 (.bool true) rfl (by kernel_rfl) (by kernel_rfl) (by kernel_rfl) (fun _ _ _ h => h) (by rfl) (by intro w; go_simp) ?_
    try simp only [Act.put, List.setIfInBounds_toArray, List.set_cons_zero, List.set_cons_succ]
    refine any_take_g 7 55 (.pointer (some ⟨w.heap.size, 0, none⟩)) rfl (by kernel_rfl) (by kernel_rfl) (by kernel_rfl) (fun _ _ _ h => h) (by rfl) (by intro w; go_simp) ?_
    try simp only [Act.put, List.setIfInBounds_toArray, List.set_cons_zero, List.set_cons_succ]
    refine any_take_g 9 57 ?_ rfl (by kernel_rfl) (by kernel_rfl) (by kernel_rfl) (fun _ _ _ h => h) (by rfl) ?_ ?_
    rotate_left
    · (intro w; go_simp; try (with_reducible rfl))
    try simp only [Act.put, List.setIfInBounds_toArray, List.set_cons_zero, List.set_cons_succ]
    refine any_one 8 (by kernel_rfl) ?_
    refine wpOp_step rfl (fun K hK => ?_)
    go_simp
    refine (sum_st HT.out S9.out (by simp)).mono ?_
    rintro e wA ⟨rfl, s9, o9⟩
    rw [← HA1.out]
    have S10 := Lib.hid s9
    clear s9 o9 S9
    dsimp only
    refine hK _ _ ?_
    clear hK K
    try simp only [Act.put, List.setIfInBounds_toArray, List.set_cons_zero, List.set_cons_succ]
    refine any_one 10 (by kernel_rfl) ?_
    refine wpOp_step rfl (fun K hK => ?_)
    go_simp
    refine (of_st HT.out [] p 0 0 rfl S10.out Hb.out (by omega) (by omega)).mono ?_
    rintro e wB ⟨rfl, s9, o9⟩
    rw [← HA1.out]
    have S11 := Lib.hid s9
    clear s9 o9 S10
    dsimp only
    refine hK _ _ ?_
    clear hK K
    try simp only [Act.put, List.setIfInBounds_toArray, List.set_cons_zero, List.set_cons_succ]
    refine any_take_g 11 59 (.bool true) rfl (by kernel_rfl) (by kernel_rfl) (by kernel_rfl) (fun _ _ _ h => h) (by rfl) (by intro w; go_simp) ?_
    try simp only [Act.put, List.setIfInBounds_toArray, List.set_cons_zero, List.set_cons_succ]
    refine any_take_g 12 60 (.bool true) rfl (by kernel_rfl) (by kernel_rfl) (by kernel_rfl) (fun _ _ _ h => h) (by rfl) (by intro w; go_simp) ?_
    try simp only [Act.put, List.setIfInBounds_toArray, List.set_cons_zero, List.set_cons_succ]
    refine any_take_g 13 61 (.bool true) rfl (by kernel_rfl) (by kernel_rfl) (by kernel_rfl) (fun _ _ _ h => h) (by rfl) (by intro w; go_simp) ?_
    try simp only [Act.put, List.setIfInBounds_toArray, List.set_cons_zero, List.set_cons_succ]
    refine any_take_g 14 62 (.pointer (some ⟨w.heap.size, 0, none⟩)) rfl (by kernel_rfl) (by kernel_rfl) (by kernel_rfl) (fun _ _ _ h => h) (by rfl) (by intro w; go_simp) ?_
    try simp only [Act.put, List.setIfInBounds_toArray, List.set_cons_zero, List.set_cons_succ]
    refine any_take_g 16 64 (.pointer (some ⟨w.heap.size, 0, none⟩)) rfl (by kernel_rfl) (by kernel_rfl) (by kernel_rfl) (fun _ _ _ h => h) (by rfl) (by intro w; go_simp) ?_
    try simp only [Act.put, List.setIfInBounds_toArray, List.set_cons_zero, List.set_cons_succ]
    refine any_one 15 (by kernel_rfl) ?_
    refine wpOp_step rfl (fun K hK => ?_)
    go_simp
    refine (sum_st HT.out S11.out (by simp)).mono ?_
    rintro e wC ⟨rfl, s9, o9⟩
    rw [← HA1.out]
    have S12 := Lib.hid s9
    clear s9 o9 S11
    dsimp only
    refine hK _ _ ?_
    clear hK K
    try simp only [Act.put, List.setIfInBounds_toArray, List.set_cons_zero, List.set_cons_succ]
    refine any_one 17 (by kernel_rfl) ?_
    refine wpOp_step rfl (fun K hK => ?_)
    go_simp
    refine (sum_st HT.out S12.out (by simp)).mono ?_
    rintro e wD ⟨rfl, s9, o9⟩
    rw [← HA1.out]
    have S13 := Lib.hid s9
    clear s9 o9 S12
    dsimp only
    refine hK _ _ ?_
    clear hK K
    try simp only [Act.put, List.setIfInBounds_toArray, List.set_cons_zero, List.set_cons_succ]
    refine any_take_g 18 66 (.bool true) rfl (by kernel_rfl) (by kernel_rfl) (by kernel_rfl) (fun _ _ _ h => h) (by rfl) (by intro w; go_simp) ?_
    try simp only [Act.put, List.setIfInBounds_toArray, List.set_cons_zero, List.set_cons_succ]
    refine any_take_g 19 67 (.bool true) rfl (by kernel_rfl) (by kernel_rfl) (by kernel_rfl) (fun _ _ _ h => h) (by rfl) (by intro w; go_simp) ?_
    try simp only [Act.put, List.setIfInBounds_toArray, List.set_cons_zero, List.set_cons_succ]
    refine any_take_g 20 68 (.bool true) rfl (by kernel_rfl) (by kernel_rfl) (by kernel_rfl) (fun _ _ _ h => h) (by rfl) (by intro w; go_simp) ?_
    try simp only [Act.put, List.setIfInBounds_toArray, List.set_cons_zero, List.set_cons_succ]
    refine any_one 21 (by kernel_rfl) ?_
    refine wpOp_step rfl (fun K hK => ?_)
    go_simp
    refine (known_st HT.out S13.out).mono ?_
    rintro e wE ⟨rfl, s9, o9⟩
    have S14 := Lib.hid s9
    clear s9 o9 S13
    dsimp only
    refine hK _ _ ?_
    clear hK K
    try simp only [Act.put, List.setIfInBounds_toArray, List.set_cons_zero, List.set_cons_succ]
    refine any_take_g 22 70 (.bool true) rfl (by kernel_rfl) (by kernel_rfl) (by kernel_rfl) (fun _ _ _ h => h) (by rfl) (by intro w; go_simp) ?_
    try simp only [Act.put, List.setIfInBounds_toArray, List.set_cons_zero, List.set_cons_succ]
    refine any_take_g 23 6 (.bool true) rfl (by kernel_rfl) (by kernel_rfl) (by kernel_rfl) (fun _ _ _ h => h) (by rfl) (by intro w; go_simp) ?_
    try simp only [Act.put, List.setIfInBounds_toArray, List.set_cons_zero, List.set_cons_succ]
    refine wpAny_done (by kernel_rfl) ?_ _
    go_wp2
    go_ret
    exact ⟨rfl, S14.out.2.1⟩
  · refine wpOp_step rfl (fun K hK => ?_)
    go_simp
    refine (of_st HT.out [] p 0 0 rfl S8.out Hb.out (by omega) (by omega)).mono ?_
    rintro e w8 ⟨rfl, s9, o9⟩
    rw [← HA1.out]
    have S9 := Lib.hid s9
    have O9 := Lib.hid (row_below O8.out o9)
    clear s9 o9 S8 O8
    dsimp only
    refine hK _ _ ?_
    clear hK K
    try simp only [Act.put, List.setIfInBounds_toArray, List.set_cons_zero, List.set_cons_succ]
    refine any_one 0 (by kernel_rfl) ?_
    refine op_load 0 26 (.tmp 8) rfl w5.heap.size 0 A1.toList _ rfl (row_range O9.out) Tryd.underlying26 rfl SZ.out ?_
    try simp only [Act.put, List.setIfInBounds_toArray, List.set_cons_zero, List.set_cons_succ]
    rw [Array.toArray_toList]
    refine any_take_g 5 53 (.bool true) rfl (by kernel_rfl) (by kernel_rfl) (by kernel_rfl) (fun _ _ _ h => h) (by rfl) (by intro w; go_simp) ?_
    try simp only [Act.put, List.setIfInBounds_toArray, List.set_cons_zero, List.set_cons_succ]
    refine any_take_g 6 54 (.bool true) rfl (by kernel_rfl) (by kernel_rfl) (by kernel_rfl) (fun _ _ _ h => h) (by rfl) (by intro w; go_simp) ?_
    try simp only [Act.put, List.setIfInBounds_toArray, List.set_cons_zero, List.set_cons_succ]
    refine any_take_g 7 55 (.pointer (some ⟨w.heap.size, 0, none⟩)) rfl (by kernel_rfl) (by kernel_rfl) (by kernel_rfl) (fun _ _ _ h => h) (by rfl) (by intro w; go_simp) ?_
    try simp only [Act.put, List.setIfInBounds_toArray, List.set_cons_zero, List.set_cons_succ]
    refine any_take_g 9 57 ?_ rfl (by kernel_rfl) (by kernel_rfl) (by kernel_rfl) (fun _ _ _ h => h) (by rfl) ?_ ?_
    rotate_left
    · (intro w; go_simp; try (with_reducible rfl))
    try simp only [Act.put, List.setIfInBounds_toArray, List.set_cons_zero, List.set_cons_succ]
    refine any_one 8 (by kernel_rfl) ?_
    refine wpOp_step rfl (fun K hK => ?_)
    go_simp
    refine (sum_st HT.out S9.out (by simp)).mono ?_
    rintro e wA ⟨rfl, s9, o9⟩
    rw [← HA1.out]
    have S10 := Lib.hid s9
    clear s9 o9 S9
    dsimp only
    refine hK _ _ ?_
    clear hK K
    try simp only [Act.put, List.setIfInBounds_toArray, List.set_cons_zero, List.set_cons_succ]
    refine any_one 10 (by kernel_rfl) ?_
    refine wpOp_step rfl (fun K hK => ?_)
    go_simp
    refine (of_st HT.out [] p 0 0 rfl S10.out Hb.out (by omega) (by omega)).mono ?_
    rintro e wB ⟨rfl, s9, o9⟩
    rw [← HA1.out]
    have S11 := Lib.hid s9
    clear s9 o9 S10
    dsimp only
    refine hK _ _ ?_
    clear hK K
    try simp only [Act.put, List.setIfInBounds_toArray, List.set_cons_zero, List.set_cons_succ]
    refine any_take_g 11 59 (.bool true) rfl (by kernel_rfl) (by kernel_rfl) (by kernel_rfl) (fun _ _ _ h => h) (by rfl) (by intro w; go_simp) ?_
    try simp only [Act.put, List.setIfInBounds_toArray, List.set_cons_zero, List.set_cons_succ]
    refine any_take_g 12 60 (.bool true) rfl (by kernel_rfl) (by kernel_rfl) (by kernel_rfl) (fun _ _ _ h => h) (by rfl) (by intro w; go_simp) ?_
    try simp only [Act.put, List.setIfInBounds_toArray, List.set_cons_zero, List.set_cons_succ]
    refine any_take_g 13 61 (.bool true) rfl (by kernel_rfl) (by kernel_rfl) (by kernel_rfl) (fun _ _ _ h => h) (by rfl) (by intro w; go_simp) ?_
    try simp only [Act.put, List.setIfInBounds_toArray, List.set_cons_zero, List.set_cons_succ]
    refine any_take_g 14 62 (.pointer (some ⟨w.heap.size, 0, none⟩)) rfl (by kernel_rfl) (by kernel_rfl) (by kernel_rfl) (fun _ _ _ h => h) (by rfl) (by intro w; go_simp) ?_
    try simp only [Act.put, List.setIfInBounds_toArray, List.set_cons_zero, List.set_cons_succ]
    refine any_take_g 16 64 (.pointer (some ⟨w.heap.size, 0, none⟩)) rfl (by kernel_rfl) (by kernel_rfl) (by kernel_rfl) (fun _ _ _ h => h) (by rfl) (by intro w; go_simp) ?_
    try simp only [Act.put, List.setIfInBounds_toArray, List.set_cons_zero, List.set_cons_succ]
    refine any_one 15 (by kernel_rfl) ?_
    refine wpOp_step rfl (fun K hK => ?_)
    go_simp
    refine (sum_st HT.out S11.out (by simp)).mono ?_
    rintro e wC ⟨rfl, s9, o9⟩
    rw [← HA1.out]
    have S12 := Lib.hid s9
    clear s9 o9 S11
    dsimp only
    refine hK _ _ ?_
    clear hK K
    try simp only [Act.put, List.setIfInBounds_toArray, List.set_cons_zero, List.set_cons_succ]
    refine any_one 17 (by kernel_rfl) ?_
    refine wpOp_step rfl (fun K hK => ?_)
    go_simp
    refine (sum_st HT.out S12.out (by simp)).mono ?_
    rintro e wD ⟨rfl, s9, o9⟩
    rw [← HA1.out]
    have S13 := Lib.hid s9
    clear s9 o9 S12
    dsimp only
    refine hK _ _ ?_
    clear hK K
    try simp only [Act.put, List.setIfInBounds_toArray, List.set_cons_zero, List.set_cons_succ]
    refine any_take_g 18 66 (.bool true) rfl (by kernel_rfl) (by kernel_rfl) (by kernel_rfl) (fun _ _ _ h => h) (by rfl) (by intro w; go_simp) ?_
    try simp only [Act.put, List.setIfInBounds_toArray, List.set_cons_zero, List.set_cons_succ]
    refine any_take_g 19 67 (.bool true) rfl (by kernel_rfl) (by kernel_rfl) (by kernel_rfl) (fun _ _ _ h => h) (by rfl) (by intro w; go_simp) ?_
    try simp only [Act.put, List.setIfInBounds_toArray, List.set_cons_zero, List.set_cons_succ]
    refine any_take_g 20 68 (.bool true) rfl (by kernel_rfl) (by kernel_rfl) (by kernel_rfl) (fun _ _ _ h => h) (by rfl) (by intro w; go_simp) ?_
    try simp only [Act.put, List.setIfInBounds_toArray, List.set_cons_zero, List.set_cons_succ]
    refine any_one 21 (by kernel_rfl) ?_
    refine wpOp_step rfl (fun K hK => ?_)
    go_simp
    refine (known_st HT.out S13.out).mono ?_
    rintro e wE ⟨rfl, s9, o9⟩
    have S14 := Lib.hid s9
    clear s9 o9 S13
    dsimp only
    refine hK _ _ ?_
    clear hK K
    try simp only [Act.put, List.setIfInBounds_toArray, List.set_cons_zero, List.set_cons_succ]
    refine any_take_g 22 70 (.bool true) rfl (by kernel_rfl) (by kernel_rfl) (by kernel_rfl) (fun _ _ _ h => h) (by rfl) (by intro w; go_simp) ?_
    try simp only [Act.put, List.setIfInBounds_toArray, List.set_cons_zero, List.set_cons_succ]
    refine any_take_g 23 6 (.bool true) rfl (by kernel_rfl) (by kernel_rfl) (by kernel_rfl) (fun _ _ _ h => h) (by rfl) (by intro w; go_simp) ?_
    try simp only [Act.put, List.setIfInBounds_toArray, List.set_cons_zero, List.set_cons_succ]
    refine wpAny_done (by kernel_rfl) ?_ _
    go_wp2
    go_ret
    exact ⟨rfl, S14.out.2.1⟩

end Go.Proofs.YtbncgojcabengaaDoor

/-
  The law ShaPieces: the walk.
-/
import Derived.Test.YtjidkkehhglahaaDoorShaJ
namespace Go.Proofs.YtjidkkehhglahaaDoor
open Go.RowKit

theorem all_of (b : List Int) (k : Nat) : b.take k ++ (b.drop k).take (b.length - k) = b := by
  rw [List.take_of_length_le (l := b.drop k) (by simp), List.take_append_drop]
theorem row_range {w : World} {O : Nat} {A : Array Value} {t : TypeId} (h : w.heap[O]? = some (.cells A t (0, 0))) : w.rangeAt O 0 A.toList := fun j v hv => by
  rw [cell_of_row w O (0 + j) _ _ _ h]; simpa using hv
theorem St.drew {w wi : World} {G : Nat} {L : List Int} (h : St w wi G L) : St w wi.drew G L := ⟨h.1, h.2.1.drew, h.2.2.1, h.2.2.2.1, h.2.2.2.2.1, h.2.2.2.2.2⟩
theorem one_start {w w5 w6 : World} {G : Nat} {L : List Int} {X : Obj} (h : St w w5 G L) (ch : Chg w5.heap.size (w5.alloc X) w6) : St w w6 G L ∧ G ≠ w5.heap.size :=
  ⟨h.below (ch.below ((Below.refl _ w5).alloc (Nat.le_refl _) X) (Nat.le_refl _)), by
    obtain ⟨R, _, hB⟩ := h.1
    have := lt_of_block hB
    omega⟩
theorem one_kept {w6 w7 : World} {G O : Nat} {X : Obj} (h : w6.heap[O]? = some X) (ho : Only G w6 w7) (hne : G ≠ O) : w7.heap[O]? = some X := by
  rw [ho.block O (lt_of_block h) (Ne.symm hne)]; exact h
theorem row_below {w w' : World} {O : Nat} {X : Obj} (h : w.heap[O]? = some X) (hb : Below w.heap.size w w') : w'.heap[O]? = some X := by
  rw [hb.block O (lt_of_block h)]; exact h

set_option maxRecDepth 100000 in
set_option maxHeartbeats 2000000 in
theorem pieces_long (hT : TakeSaid) (b : List Int) (p : Option Addr) (cap : Nat) (i k : Int) (w : World) (hl : 4096 < b.length) (hm : b.length ≤ 1152921504606846000) (ht : Tab w 0) :
    Calls Tryd.prog 8 #[.slice p b.length cap, .int .i64 i, .int .i64 k] w (BoolSay true w) := by
  have HT := Lib.hid hT; clear hT
  have Ht := Lib.hid ht; clear ht
  have hl1 : (4096 : Int) < b.length := by omega
  go_enter Tryd.func8, Tryd.ntmps8
  go_wp2_with (go_at_call 12; refine (known_any HT.out _ Ht.out).mono ?_; rintro e w1 ⟨rfl, hb1⟩)
  go_ret
  exact ⟨rfl, hb1⟩

set_option maxRecDepth 100000 in
set_option maxHeartbeats 2000000 in
theorem pieces_some (hT : TakeSaid) (b : List Int) (ab ao : Nat) (cap : Nat) (i k : Int) (w : World) (hl : b.length ≤ 4096) (hb : ∀ g, w.heap.size ≤ g → BytesAt w g (some ⟨ab, ao, none⟩) b) (hc : b.length ≤ cap) (hcm : cap ≤ 140737488355328) (ht : Tab w 0) :
    Calls Tryd.prog 8 #[.slice (some ⟨ab, ao, none⟩) b.length cap, .int .i64 i, .int .i64 k] w (BoolSay true w) := by
  have HT := Lib.hid hT; clear hT
  have Ht := Lib.hid ht; clear ht
  have Hb := Lib.hid hb; clear hb
  have hl1 : (b.length : Int) ≤ 4096 := by omega
  go_enter Tryd.func8, Tryd.ntmps8
  go_wp2_with fail
  refine (pick_any i _ (by omega) (by omega) _).mono ?_
  rintro e w' ⟨i0, rfl, hi0, rfl⟩
  go_wp2_with fail
  refine (pick_any k _ (by omega) (by omega) _).mono ?_
  rintro e w' ⟨r0, rfl, hr0, rfl⟩
  go_wp2_with fail
  refine (new_any _).mono ?_
  rintro e w1 ⟨rfl, hh1, hb1, hs1⟩
  have S1 := Lib.hid (St.new Ht.out hh1 hb1)
  have hi1 : i0 ≤ b.length := by omega
  have hr1 : i0 + r0 ≤ b.length := by omega
  clear hh1 hi0 hr0
  have B1 : Hid (BytesAt w1 w.heap.size (some ⟨ab, ao, none⟩) (b.take i0)) := ((Hb.out w.heap.size (Nat.le_refl _)).below hb1 (Nat.le_refl _)).take hi1
  clear hb1 hs1
  have hi2 : i0 ≤ cap := by omega
  have hr2 : i0 + r0 ≤ cap := by omega
  go_wp2_with fail
  refine (add_st HT.out (b.take i0) _ i0 cap (by simp; omega) S1.out B1.out hi2 (by omega) (by simp; omega)).mono ?_
  rintro e w2 ⟨rfl, s2, o2⟩
  have S2 := Lib.hid s2
  clear s2 o2 S1 B1
  go_wp2_with fail
  refine (sum_st HT.out S2.out (by simp; omega)).mono ?_
  rintro e w3 ⟨rfl, s3, o3⟩
  have S3 := Lib.hid s3
  have B3 : Hid (BytesAt w3 w.heap.size (if cap = i0 then some ⟨ab, ao, none⟩ else some ⟨ab, ao + i0, none⟩) ((b.drop i0).take r0)) :=
    ((Hb.out w.heap.size (Nat.le_refl _)).below s3.2.1 (Nat.le_refl _)).part hr1 hc
  clear s3 o3 S2
  obtain ⟨A1, HA1, HA2, HA3⟩ : ∃ A : Array Value, Hid (A = ((Sha.dg (b.take (i0 + r0))).map (Value.int .u8)).toArray) ∧ Hid (A.size = 32) ∧ Hid (A.all (·.oneCell') = true) :=
    ⟨_, rfl, by show _ = _; simp [dg_len], all_oneCell_toArray (bytes_one _)⟩
  go_wp2_with fail
  all_goals
    refine (add_st HT.out ((b.drop i0).take r0) _ r0 _ (by simp; omega) S3.out ?_ (by omega) (by omega) (by simp; omega)).mono ?_
    · first | (have h := B3.out; rw [if_neg (by omega)] at h; exact h) | (have h := B3.out; rw [if_pos (by omega)] at h; exact h)
    rintro e w4 ⟨rfl, s4, o4⟩
    rw [show [] ++ b.take i0 ++ (b.drop i0).take r0 = b.take (i0 + r0) by rw [List.nil_append, ← List.take_add]] at s4
    have S4 := Lib.hid s4
    clear s4 o4 S3 B3
    go_wp2_with fail
    refine (sum_st HT.out S4.out (by simp; omega)).mono ?_
    rintro e w5 ⟨rfl, s5, o5⟩
    rw [← HA1.out]
    have S5 := Lib.hid s5
    clear s5 o5 S4
    go_wp2_with ((with_reducible refine row_store _ _ _ _ _ _ _ ?_ ?_ (heap_alloc_new _ _) (row_size Tryd.sizeSum HA2) ?_ HA3.out ?_); (exact rfl); (exact rfl); (rw [HA2.out]; rfl); intro w6 G6 ch6; have C6 := Lib.hid ch6; clear ch6)
  all_goals
    have PS := Lib.hid (one_start S5.out C6.out)
    have B6 : Hid (BytesAt w6 w.heap.size (if cap = i0 + r0 then some ⟨ab, ao, none⟩ else some ⟨ab, ao + (i0 + r0), none⟩) ((b.drop (i0 + r0)).take (b.length - (i0 + r0)))) :=
      ((Hb.out w.heap.size (Nat.le_refl _)).below PS.out.1.2.1 (Nat.le_refl _)).part (by omega) hc
    refine (add_st HT.out ((b.drop (i0 + r0)).take (b.length - (i0 + r0))) _ (b.length - (i0 + r0)) _ (by simp) PS.out.1 ?_ (by omega) (by omega) (by simp; omega)).mono ?_
    · first | (have h := B6.out; rw [if_neg (by omega)] at h; exact h) | (have h := B6.out; rw [if_pos (by omega)] at h; exact h)
    rintro e w7 ⟨rfl, s7, o7⟩
    rw [all_of b (i0 + r0)] at s7
    have S7 := Lib.hid s7
    have O7 := Lib.hid (one_kept G6.out o7 PS.out.2)
    clear s7 o7 PS B6 G6 C6 S5
    go_upto_region 11 with (fail)
    refine wp_region_any (by kernel_rfl) ?_
    change wpAny _ _ _ _ _ _ _ (World.drew _)
    have S8 : Hid (St w w7.drew w.heap.size b) := S7.out.drew
    have O8 : Hid (w7.drew.heap[w5.heap.size]? = some (.cells A1 30 (0, 0))) := O7.out
    clear S7 O7
    have hk1 : (0 : Int) ≤ (i0 : Int) + (r0 : Int) := by omega
    have hk2 : (i0 : Int) + (r0 : Int) ≤ (cap : Int) := by omega
    have hk3 : ((i0 : Int) + (r0 : Int)).toNat = i0 + r0 := by omega
    have hk4 : (i0 : Int) + (r0 : Int) ≤ ((i0 + r0 : Nat) : Int) := by omega
    try (have hk5 : (i0 : Int) + (r0 : Int) ≤ (i0 : Int) := by omega)
    refine any_take 1 49 ?_ rfl (by kernel_rfl) (by kernel_rfl) (by kernel_rfl) (fun _ _ _ h => h) ?_ ?_
    rotate_left
    · (intro w; go_simp; try (with_reducible rfl))
    try simp only [Act.put, List.setIfInBounds_toArray, List.set_cons_zero, List.set_cons_succ]
    refine any_take 2 50 ?_ rfl (by kernel_rfl) (by kernel_rfl) (by kernel_rfl) (fun _ _ _ h => h) ?_ ?_
    rotate_left
    · (intro w; go_simp; try (with_reducible rfl))
    try simp only [Act.put, List.setIfInBounds_toArray, List.set_cons_zero, List.set_cons_succ]
    refine any_take 3 51 ?_ rfl (by kernel_rfl) (by kernel_rfl) (by kernel_rfl) (fun _ _ _ h => h) ?_ ?_
    rotate_left
    · (intro w; go_simp; try (with_reducible rfl))
    try simp only [Act.put, List.setIfInBounds_toArray, List.set_cons_zero, List.set_cons_succ]
  all_goals
    have HbK : Hid (∀ g, w.heap.size ≤ g → BytesAt w g (some ⟨ab, ao, none⟩) (b.take (i0 + r0))) := fun g hg => (Hb.out g hg).take hr1
    have SZ : Hid ((Tryd.prog.info? 30).map (·.size) = some A1.toList.length) := by show _ = _; rw [Array.length_toList, HA2.out]; exact Tryd.sizeSum
    obtain ⟨D1, HD1⟩ : ∃ A : Array Value, Hid (A = ((Sha.dg b).map (Value.int .u8)).toArray) := ⟨_, rfl⟩
    have HE1 : ∀ w, (Op.equalIn 10000 30 (.agg A1) (.agg A1)).run Tryd.prog w = .ok true w := fun w => by rw [HA1.out]; exact sum_same _ (dg_len _) w
    have HE2 : ∀ w, (Op.equalIn 10000 30 (.agg D1) (.agg D1)).run Tryd.prog w = .ok true w := fun w => by rw [HD1.out]; exact sum_same _ (dg_len _) w
    have hng := Tryd.noGuard
    refine any_two 0 4 (by kernel_rfl) ?_ ?_
    · refine op_load 0 30 (.tmp 8) rfl w5.heap.size 0 A1.toList _ rfl (row_range O8.out) Tryd.underlying30 rfl SZ.out ?_
      try simp only [Act.put, List.setIfInBounds_toArray, List.set_cons_zero, List.set_cons_succ]
      rw [Array.toArray_toList]
      refine any_one 4 (by kernel_rfl) ?_
      refine wpOp_step rfl (fun K hK => ?_)
      go_simp
      refine (of_st HT.out (b.take (i0 + r0)) _ (i0 + r0) _ (by simp; omega) S8.out HbK.out (by omega) (by omega)).mono ?_
      rintro e w8 ⟨rfl, s9, o9⟩
      rw [← HA1.out]
      have S9 := Lib.hid s9
      clear s9 o9 S8 O8
      dsimp only
      refine hK _ _ ?_
      clear hK K
      try simp only [Act.put, List.setIfInBounds_toArray, List.set_cons_zero, List.set_cons_succ]
      refine any_take_g 5 53 (.bool true) rfl (by kernel_rfl) (by kernel_rfl) (by kernel_rfl) (fun _ _ _ h => h) (by rfl) (by intro w; go_simp) ?_
      try simp only [Act.put, List.setIfInBounds_toArray, List.set_cons_zero, List.set_cons_succ]
      refine any_take_g 6 54 (.bool true) rfl (by kernel_rfl) (by kernel_rfl) (by kernel_rfl) (fun _ _ _ h => h) (by rfl) (by intro w; go_simp) ?_
      try simp only [Act.put, List.setIfInBounds_toArray, List.set_cons_zero, List.set_cons_succ]
      refine any_take_g 7 55 (.pointer (some ⟨w.heap.size, 0, none⟩)) rfl (by kernel_rfl) (by kernel_rfl) (by kernel_rfl) (fun _ _ _ h => h) (by rfl) (by intro w; go_simp) ?_
      try simp only [Act.put, List.setIfInBounds_toArray, List.set_cons_zero, List.set_cons_succ]
      refine any_take_g 9 57 ?_ rfl (by kernel_rfl) (by kernel_rfl) (by kernel_rfl) (fun _ _ _ h => h) (by rfl) ?_ ?_
      rotate_left
      · (intro w; go_simp; try (with_reducible rfl))
      try simp only [Act.put, List.setIfInBounds_toArray, List.set_cons_zero, List.set_cons_succ]
      refine any_one 8 (by kernel_rfl) ?_
      refine wpOp_step rfl (fun K hK => ?_)
      go_simp
      refine (sum_st HT.out S9.out (by omega)).mono ?_
      rintro e wA ⟨rfl, s9, o9⟩
      rw [← HD1.out]
      have S10 := Lib.hid s9
      clear s9 o9 S9
      dsimp only
      refine hK _ _ ?_
      clear hK K
      try simp only [Act.put, List.setIfInBounds_toArray, List.set_cons_zero, List.set_cons_succ]
      refine any_one 10 (by kernel_rfl) ?_
      refine wpOp_step rfl (fun K hK => ?_)
      go_simp
      refine (of_st HT.out b _ b.length _ rfl S10.out Hb.out (by omega) (by omega)).mono ?_
      rintro e wB ⟨rfl, s9, o9⟩
      rw [← HD1.out]
      have S11 := Lib.hid s9
      clear s9 o9 S10
      dsimp only
      refine hK _ _ ?_
      clear hK K
      try simp only [Act.put, List.setIfInBounds_toArray, List.set_cons_zero, List.set_cons_succ]
      refine any_take_g 11 59 (.bool true) rfl (by kernel_rfl) (by kernel_rfl) (by kernel_rfl) (fun _ _ _ h => h) (by rfl) (by intro w; go_simp) ?_
      try simp only [Act.put, List.setIfInBounds_toArray, List.set_cons_zero, List.set_cons_succ]
      refine any_take_g 12 60 (.bool true) rfl (by kernel_rfl) (by kernel_rfl) (by kernel_rfl) (fun _ _ _ h => h) (by rfl) (by intro w; go_simp) ?_
      try simp only [Act.put, List.setIfInBounds_toArray, List.set_cons_zero, List.set_cons_succ]
      refine any_take_g 13 61 (.bool true) rfl (by kernel_rfl) (by kernel_rfl) (by kernel_rfl) (fun _ _ _ h => h) (by rfl) (by intro w; go_simp) ?_
      try simp only [Act.put, List.setIfInBounds_toArray, List.set_cons_zero, List.set_cons_succ]
      refine any_take_g 14 62 (.pointer (some ⟨w.heap.size, 0, none⟩)) rfl (by kernel_rfl) (by kernel_rfl) (by kernel_rfl) (fun _ _ _ h => h) (by rfl) (by intro w; go_simp) ?_
      try simp only [Act.put, List.setIfInBounds_toArray, List.set_cons_zero, List.set_cons_succ]
      refine any_take_g 16 64 (.pointer (some ⟨w.heap.size, 0, none⟩)) rfl (by kernel_rfl) (by kernel_rfl) (by kernel_rfl) (fun _ _ _ h => h) (by rfl) (by intro w; go_simp) ?_
      try simp only [Act.put, List.setIfInBounds_toArray, List.set_cons_zero, List.set_cons_succ]
      refine any_one 15 (by kernel_rfl) ?_
      refine wpOp_step rfl (fun K hK => ?_)
      go_simp
      refine (sum_st HT.out S11.out (by omega)).mono ?_
      rintro e wC ⟨rfl, s9, o9⟩
      rw [← HD1.out]
      have S12 := Lib.hid s9
      clear s9 o9 S11
      dsimp only
      refine hK _ _ ?_
      clear hK K
      try simp only [Act.put, List.setIfInBounds_toArray, List.set_cons_zero, List.set_cons_succ]
      refine any_one 17 (by kernel_rfl) ?_
      refine wpOp_step rfl (fun K hK => ?_)
      go_simp
      refine (sum_st HT.out S12.out (by omega)).mono ?_
      rintro e wD ⟨rfl, s9, o9⟩
      rw [← HD1.out]
      have S13 := Lib.hid s9
      clear s9 o9 S12
      dsimp only
      refine hK _ _ ?_
      clear hK K
      try simp only [Act.put, List.setIfInBounds_toArray, List.set_cons_zero, List.set_cons_succ]
      refine any_take_g 18 66 (.bool true) rfl (by kernel_rfl) (by kernel_rfl) (by kernel_rfl) (fun _ _ _ h => h) (by rfl) (by intro w; go_simp) ?_
      try simp only [Act.put, List.setIfInBounds_toArray, List.set_cons_zero, List.set_cons_succ]
      refine any_take_g 19 67 (.bool true) rfl (by kernel_rfl) (by kernel_rfl) (by kernel_rfl) (fun _ _ _ h => h) (by rfl) (by intro w; go_simp) ?_
      try simp only [Act.put, List.setIfInBounds_toArray, List.set_cons_zero, List.set_cons_succ]
      refine any_take_g 20 68 (.bool true) rfl (by kernel_rfl) (by kernel_rfl) (by kernel_rfl) (fun _ _ _ h => h) (by rfl) (by intro w; go_simp) ?_
      try simp only [Act.put, List.setIfInBounds_toArray, List.set_cons_zero, List.set_cons_succ]
      refine any_one 21 (by kernel_rfl) ?_
      refine wpOp_step rfl (fun K hK => ?_)
      go_simp
      refine (known_st HT.out S13.out).mono ?_
      rintro e wE ⟨rfl, s9, o9⟩
      have S14 := Lib.hid s9
      clear s9 o9 S13
      dsimp only
      refine hK _ _ ?_
      clear hK K
      try simp only [Act.put, List.setIfInBounds_toArray, List.set_cons_zero, List.set_cons_succ]
      refine any_take_g 22 70 (.bool true) rfl (by kernel_rfl) (by kernel_rfl) (by kernel_rfl) (fun _ _ _ h => h) (by rfl) (by intro w; go_simp) ?_
      try simp only [Act.put, List.setIfInBounds_toArray, List.set_cons_zero, List.set_cons_succ]
      refine any_take_g 23 6 (.bool true) rfl (by kernel_rfl) (by kernel_rfl) (by kernel_rfl) (fun _ _ _ h => h) (by rfl) (by intro w; go_simp) ?_
      try simp only [Act.put, List.setIfInBounds_toArray, List.set_cons_zero, List.set_cons_succ]
      refine wpAny_done (by kernel_rfl) ?_ _
      go_wp2
      go_ret
      exact ⟨rfl, S14.out.2.1⟩
    · refine wpOp_step rfl (fun K hK => ?_)
      go_simp
      refine (of_st HT.out (b.take (i0 + r0)) _ (i0 + r0) _ (by simp; omega) S8.out HbK.out (by omega) (by omega)).mono ?_
      rintro e w8 ⟨rfl, s9, o9⟩
      rw [← HA1.out]
      have S9 := Lib.hid s9
      have O9 := Lib.hid (row_below O8.out o9)
      clear s9 o9 S8 O8
      dsimp only
      refine hK _ _ ?_
      clear hK K
      try simp only [Act.put, List.setIfInBounds_toArray, List.set_cons_zero, List.set_cons_succ]
      refine any_one 0 (by kernel_rfl) ?_
      refine op_load 0 30 (.tmp 8) rfl w5.heap.size 0 A1.toList _ rfl (row_range O9.out) Tryd.underlying30 rfl SZ.out ?_
      try simp only [Act.put, List.setIfInBounds_toArray, List.set_cons_zero, List.set_cons_succ]
      rw [Array.toArray_toList]
      refine any_take_g 5 53 (.bool true) rfl (by kernel_rfl) (by kernel_rfl) (by kernel_rfl) (fun _ _ _ h => h) (by rfl) (by intro w; go_simp) ?_
      try simp only [Act.put, List.setIfInBounds_toArray, List.set_cons_zero, List.set_cons_succ]
      refine any_take_g 6 54 (.bool true) rfl (by kernel_rfl) (by kernel_rfl) (by kernel_rfl) (fun _ _ _ h => h) (by rfl) (by intro w; go_simp) ?_
      try simp only [Act.put, List.setIfInBounds_toArray, List.set_cons_zero, List.set_cons_succ]
      refine any_take_g 7 55 (.pointer (some ⟨w.heap.size, 0, none⟩)) rfl (by kernel_rfl) (by kernel_rfl) (by kernel_rfl) (fun _ _ _ h => h) (by rfl) (by intro w; go_simp) ?_
      try simp only [Act.put, List.setIfInBounds_toArray, List.set_cons_zero, List.set_cons_succ]
      refine any_take_g 9 57 ?_ rfl (by kernel_rfl) (by kernel_rfl) (by kernel_rfl) (fun _ _ _ h => h) (by rfl) ?_ ?_
      rotate_left
      · (intro w; go_simp; try (with_reducible rfl))
      try simp only [Act.put, List.setIfInBounds_toArray, List.set_cons_zero, List.set_cons_succ]
      refine any_one 8 (by kernel_rfl) ?_
      refine wpOp_step rfl (fun K hK => ?_)
      go_simp
      refine (sum_st HT.out S9.out (by omega)).mono ?_
      rintro e wA ⟨rfl, s9, o9⟩
      rw [← HD1.out]
      have S10 := Lib.hid s9
      clear s9 o9 S9
      dsimp only
      refine hK _ _ ?_
      clear hK K
      try simp only [Act.put, List.setIfInBounds_toArray, List.set_cons_zero, List.set_cons_succ]
      refine any_one 10 (by kernel_rfl) ?_
      refine wpOp_step rfl (fun K hK => ?_)
      go_simp
      refine (of_st HT.out b _ b.length _ rfl S10.out Hb.out (by omega) (by omega)).mono ?_
      rintro e wB ⟨rfl, s9, o9⟩
      rw [← HD1.out]
      have S11 := Lib.hid s9
      clear s9 o9 S10
      dsimp only
      refine hK _ _ ?_
      clear hK K
      try simp only [Act.put, List.setIfInBounds_toArray, List.set_cons_zero, List.set_cons_succ]
      refine any_take_g 11 59 (.bool true) rfl (by kernel_rfl) (by kernel_rfl) (by kernel_rfl) (fun _ _ _ h => h) (by rfl) (by intro w; go_simp) ?_
      try simp only [Act.put, List.setIfInBounds_toArray, List.set_cons_zero, List.set_cons_succ]
      refine any_take_g 12 60 (.bool true) rfl (by kernel_rfl) (by kernel_rfl) (by kernel_rfl) (fun _ _ _ h => h) (by rfl) (by intro w; go_simp) ?_
      try simp only [Act.put, List.setIfInBounds_toArray, List.set_cons_zero, List.set_cons_succ]
      refine any_take_g 13 61 (.bool true) rfl (by kernel_rfl) (by kernel_rfl) (by kernel_rfl) (fun _ _ _ h => h) (by rfl) (by intro w; go_simp) ?_
      try simp only [Act.put, List.setIfInBounds_toArray, List.set_cons_zero, List.set_cons_succ]
      refine any_take_g 14 62 (.pointer (some ⟨w.heap.size, 0, none⟩)) rfl (by kernel_rfl) (by kernel_rfl) (by kernel_rfl) (fun _ _ _ h => h) (by rfl) (by intro w; go_simp) ?_
      try simp only [Act.put, List.setIfInBounds_toArray, List.set_cons_zero, List.set_cons_succ]
      refine any_take_g 16 64 (.pointer (some ⟨w.heap.size, 0, none⟩)) rfl (by kernel_rfl) (by kernel_rfl) (by kernel_rfl) (fun _ _ _ h => h) (by rfl) (by intro w; go_simp) ?_
      try simp only [Act.put, List.setIfInBounds_toArray, List.set_cons_zero, List.set_cons_succ]
      refine any_one 15 (by kernel_rfl) ?_
      refine wpOp_step rfl (fun K hK => ?_)
      go_simp
      refine (sum_st HT.out S11.out (by omega)).mono ?_
      rintro e wC ⟨rfl, s9, o9⟩
      rw [← HD1.out]
      have S12 := Lib.hid s9
      clear s9 o9 S11
      dsimp only
      refine hK _ _ ?_
      clear hK K
      try simp only [Act.put, List.setIfInBounds_toArray, List.set_cons_zero, List.set_cons_succ]
      refine any_one 17 (by kernel_rfl) ?_
      refine wpOp_step rfl (fun K hK => ?_)
      go_simp
      refine (sum_st HT.out S12.out (by omega)).mono ?_
      rintro e wD ⟨rfl, s9, o9⟩
      rw [← HD1.out]
      have S13 := Lib.hid s9
      clear s9 o9 S12
      dsimp only
      refine hK _ _ ?_
      clear hK K
      try simp only [Act.put, List.setIfInBounds_toArray, List.set_cons_zero, List.set_cons_succ]
      refine any_take_g 18 66 (.bool true) rfl (by kernel_rfl) (by kernel_rfl) (by kernel_rfl) (fun _ _ _ h => h) (by rfl) (by intro w; go_simp) ?_
      try simp only [Act.put, List.setIfInBounds_toArray, List.set_cons_zero, List.set_cons_succ]
      refine any_take_g 19 67 (.bool true) rfl (by kernel_rfl) (by kernel_rfl) (by kernel_rfl) (fun _ _ _ h => h) (by rfl) (by intro w; go_simp) ?_
      try simp only [Act.put, List.setIfInBounds_toArray, List.set_cons_zero, List.set_cons_succ]
      refine any_take_g 20 68 (.bool true) rfl (by kernel_rfl) (by kernel_rfl) (by kernel_rfl) (fun _ _ _ h => h) (by rfl) (by intro w; go_simp) ?_
      try simp only [Act.put, List.setIfInBounds_toArray, List.set_cons_zero, List.set_cons_succ]
      refine any_one 21 (by kernel_rfl) ?_
      refine wpOp_step rfl (fun K hK => ?_)
      go_simp
      refine (known_st HT.out S13.out).mono ?_
      rintro e wE ⟨rfl, s9, o9⟩
      have S14 := Lib.hid s9
      clear s9 o9 S13
      dsimp only
      refine hK _ _ ?_
      clear hK K
      try simp only [Act.put, List.setIfInBounds_toArray, List.set_cons_zero, List.set_cons_succ]
      refine any_take_g 22 70 (.bool true) rfl (by kernel_rfl) (by kernel_rfl) (by kernel_rfl) (fun _ _ _ h => h) (by rfl) (by intro w; go_simp) ?_
      try simp only [Act.put, List.setIfInBounds_toArray, List.set_cons_zero, List.set_cons_succ]
      refine any_take_g 23 6 (.bool true) rfl (by kernel_rfl) (by kernel_rfl) (by kernel_rfl) (fun _ _ _ h => h) (by rfl) (by intro w; go_simp) ?_
      try simp only [Act.put, List.setIfInBounds_toArray, List.set_cons_zero, List.set_cons_succ]
      refine wpAny_done (by kernel_rfl) ?_ _
      go_wp2
      go_ret
      exact ⟨rfl, S14.out.2.1⟩

end Go.Proofs.YtjidkkehhglahaaDoor

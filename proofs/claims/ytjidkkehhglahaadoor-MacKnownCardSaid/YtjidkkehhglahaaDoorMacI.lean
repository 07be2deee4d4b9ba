/-
  The law MacSums walked.
-/
import Derived.Test.YtjidkkehhglahaaDoorMacH
namespace Go.Proofs.YtjidkkehhglahaaDoor
open Go.RowKit

set_option maxHeartbeats 1000000 in
set_option maxRecDepth 100000 in
theorem sums_long (hT : TakeSaid) (p q : Option Addr) (n m c d : Nat) (w : World) (hn : 16384 < n ∨ 16384 < m) (ht : Tab w 0) :
    Calls Tryd.prog 13 #[.slice p n c, .slice q m d] w (YesSay w) := by
  have HT := Lib.hid hT; clear hT
  have Ht := Lib.hid ht; clear ht
  by_cases h1 : 16384 < n
  · go_enter Tryd.func13, Tryd.ntmps13
    go_wp2_with (go_at_call 21; refine (works_any HT.out _ Ht.out).mono ?_; rintro e w1 ⟨rfl, hb1⟩)
    go_ret
    exact ⟨rfl, hb1⟩
  · have h2 : 16384 < m := by omega
    go_enter Tryd.func13, Tryd.ntmps13
    go_wp2_with (go_at_call 21; refine (works_any HT.out _ Ht.out).mono ?_; rintro e w1 ⟨rfl, hb1⟩)
    go_ret
    exact ⟨rfl, hb1⟩

theorem splice_all (A : Array Value) (h : A.size = 32) (z : Value) : splice (List.replicate 32 z) 0 A.toList = A.toList := by
  unfold splice
  rw [List.take_zero, List.nil_append, Array.length_toList, h, List.drop_of_length_le (by simp), List.append_nil]

set_option maxHeartbeats 4000000 in
set_option maxRecDepth 100000 in
theorem sums_short (hT : TakeSaid) (K b : List Int) (p q : Option Addr) (n m c d : Nat) (hn : K.length = n) (hm' : b.length = m) (hnl : n ≤ 16384) (hml : m ≤ 16384) (w : World) (hp : BAt w p K) (hq : BAt w q b) (ht : Tab w 0) (htk : Tab w 1) :
    Calls Tryd.prog 13 #[.slice p n c, .slice q m d] w (YesSay w) := by
  have HT := Lib.hid hT; clear hT
  have Ht := Lib.hid ht; clear ht
  have Hk := Lib.hid htk; clear htk
  have Hp := Lib.hid hp; clear hp
  have Hq := Lib.hid hq; clear hq
  subst hn
  subst hm'
  obtain ⟨A, HA1, HA2, HA3⟩ : ∃ A : Array Value, Hid (A = ((hm K b).map (Value.int .u8)).toArray) ∧ Hid (A.size = 32) ∧ Hid (A.all (·.oneCell') = true) :=
    ⟨_, rfl, by show _ = _; simp [hm_len], all_oneCell_toArray (bytes_one _)⟩
  have HEQ : ∀ w, (Op.equalIn 10000 30 (.agg A) (.agg A)).run Tryd.prog w = .ok true w := fun w => by rw [HA1.out]; exact sum_same _ (hm_len _ _) w
  have hng := Tryd.noGuard
  go_enter Tryd.func13, Tryd.ntmps13
  go_upto_region 4 with (go_at_call 23; refine (lent_any K p _ _ Hp.out (by omega)).mono ?_; rintro e w1 ⟨gx, rfl, hgx, hhx, hb1⟩; have HHX := Lib.hid hhx; have HB1 := Lib.hid hb1; clear hhx hb1)
  have MX1 : Hid (BAt w1 (some ⟨gx, 0, none⟩) (mk5 K)) := bat_row HHX.out (mk5_byt Hp.out.1)
  go_upto_region 5 with (go_at_call 23; refine (lent_any b q _ _ (Hq.out.old HB1.out) (by omega)).mono ?_; rintro e w2 ⟨gy, rfl, hgy, hhy, hb2⟩; have HHY := Lib.hid hhy; have HB2 := Lib.hid hb2; clear hhy hb2)
  have MY2 : Hid (BAt w2 (some ⟨gy, 0, none⟩) (mk5 b)) := bat_row HHY.out (mk5_byt Hq.out.1)
  have MX2 : Hid (BAt w2 (some ⟨gx, 0, none⟩) (mk5 K)) := MX1.out.old HB2.out
  have BW2 : Hid (Below w.heap.size w w2) := HB1.out.trans (HB2.out.mono HB1.out.size)
  clear MX1 HHX HHY HB1 HB2
  refine wp_region_any (by kernel_rfl) ?_
  change wpAny _ _ _ _ _ _ _ (World.drew _)
  replace BW2 : Hid (Below w.heap.size w w2.drew) := BW2.out.drew
  replace MX2 : Hid (BAt w2.drew (some ⟨gx, 0, none⟩) (mk5 K)) := MX2.out
  replace MY2 : Hid (BAt w2.drew (some ⟨gy, 0, none⟩) (mk5 b)) := MY2.out
  generalize w2.drew = w3 at *
  have hk1 : (K.length : Int) ≤ (K.length : Int) + 5 := by omega
  have hk2 : (b.length : Int) ≤ (b.length : Int) + 5 := by omega
  have PX : Hid (BAt w3 (some ⟨gx, 0, none⟩) K) := by
    have h := MX2.out
    unfold mk5 at h
    exact h.pre
  have PY : Hid (BAt w3 (some ⟨gy, 0, none⟩) b) := by
    have h := MY2.out
    unfold mk5 at h
    exact h.pre
  refine any_take_g 0 21 ?_ rfl (by kernel_rfl) (by kernel_rfl) (by kernel_rfl) (fun _ _ _ h => h) (by rfl) ?_ ?_
  rotate_left
  · (intro w; go_simp; try (with_reducible rfl))
  try simp only [Act.put, List.setIfInBounds_toArray, List.set_cons_zero, List.set_cons_succ]
  refine any_take_g 1 22 ?_ rfl (by kernel_rfl) (by kernel_rfl) (by kernel_rfl) (fun _ _ _ h => h) (by rfl) ?_ ?_
  rotate_left
  · (intro w; go_simp; try (with_reducible rfl))
  try simp only [Act.put, List.setIfInBounds_toArray, List.set_cons_zero, List.set_cons_succ]
  refine any_take_g 2 23 ?_ rfl (by kernel_rfl) (by kernel_rfl) (by kernel_rfl) (fun _ _ _ h => h) (by rfl) ?_ ?_
  rotate_left
  · (intro w; go_simp; try (with_reducible rfl))
  try simp only [Act.put, List.setIfInBounds_toArray, List.set_cons_zero, List.set_cons_succ]
  refine any_take_g 3 24 ?_ rfl (by kernel_rfl) (by kernel_rfl) (by kernel_rfl) (fun _ _ _ h => h) (by rfl) ?_ ?_
  rotate_left
  · (intro w; go_simp; try (with_reducible rfl))
  try simp only [Act.put, List.setIfInBounds_toArray, List.set_cons_zero, List.set_cons_succ]
  refine any_take_g 4 25 ?_ rfl (by kernel_rfl) (by kernel_rfl) (by kernel_rfl) (fun _ _ _ h => h) (by rfl) ?_ ?_
  rotate_left
  · (intro w; go_simp; try (with_reducible rfl))
  try simp only [Act.put, List.setIfInBounds_toArray, List.set_cons_zero, List.set_cons_succ]
  refine any_take_g 5 26 ?_ rfl (by kernel_rfl) (by kernel_rfl) (by kernel_rfl) (fun _ _ _ h => h) (by rfl) ?_ ?_
  rotate_left
  · (intro w; go_simp; try (with_reducible rfl))
  try simp only [Act.put, List.setIfInBounds_toArray, List.set_cons_zero, List.set_cons_succ]
  refine any_take_g 6 27 ?_ rfl (by kernel_rfl) (by kernel_rfl) (by kernel_rfl) (fun _ _ _ h => h) (by rfl) ?_ ?_
  rotate_left
  · (intro w; go_simp; try (with_reducible rfl))
  try simp only [Act.put, List.setIfInBounds_toArray, List.set_cons_zero, List.set_cons_succ]
  refine any_take_g 7 28 ?_ rfl (by kernel_rfl) (by kernel_rfl) (by kernel_rfl) (fun _ _ _ h => h) (by rfl) ?_ ?_
  rotate_left
  · (intro w; go_simp; try (with_reducible rfl))
  try simp only [Act.put, List.setIfInBounds_toArray, List.set_cons_zero, List.set_cons_succ]
  refine any_two 8 9 (by kernel_rfl) ?_ ?_
  · refine wpOp_step rfl (fun Kc hKc => ?_)
    go_simp
    refine (mac_of_any HT.out K b (some ⟨gx, 0, none⟩) (some ⟨gy, 0, none⟩) K.length b.length (K.length + 5) (b.length + 5) rfl rfl _ PX.out PY.out (by omega) (by omega) (by omega) (by omega) (by omega) (by omega) (Ht.out.below BW2.out Ht.out.lt)).mono ?_
    rintro e w4 ⟨rfl, hb4⟩
    rw [← HA1.out]
    have HB4 : Hid (Below w3.heap.size w3 w4) := hb4
    clear hb4
    dsimp only
    refine hKc _ _ ?_
    clear hKc Kc
    try simp only [Act.put, List.setIfInBounds_toArray, List.set_cons_zero, List.set_cons_succ]
    refine any_one 9 (by kernel_rfl) ?_
    refine wpOp_step rfl (fun Kc hKc => ?_)
    go_simp
    refine hKc _ _ ?_
    clear hKc Kc
    try simp only [Act.put, List.setIfInBounds_toArray, List.set_cons_zero, List.set_cons_succ]
    refine any_one 10 (by kernel_rfl) ?_
    refine op_store 10 30 (.tmp 7) (.tmp 29) rfl w4.heap.size 0 30 (List.replicate 32 (Value.int .u8 0)) A rfl rfl (heap_alloc_new w4 _) (row_size Tryd.sizeSum HA2) (by rw [HA2.out]; simp) HA3.out ?_
    intro w6 g6 ch6
    try simp only [Act.put, List.setIfInBounds_toArray, List.set_cons_zero, List.set_cons_succ]
    refine wpAny_done (by kernel_rfl) ?_ _
    have B36 : Hid (Below w3.heap.size w3 w6) := ch6.below (HB4.out.alloc HB4.out.size _) HB4.out.size
    have A6 : Hid (w6.heap[w4.heap.size]? = some (.cells A 30 (0, 0))) := by
      have h := g6.out
      rw [splice_all A HA2.out, Array.toArray_toList] at h
      exact h
    have MX6 : Hid (BAt w6 (some ⟨gx, 0, none⟩) (mk5 K)) := MX2.out.old B36.out
    have MY6 : Hid (BAt w6 (some ⟨gy, 0, none⟩) (mk5 b)) := MY2.out.old B36.out
    have BW6 : Hid (Below w.heap.size w w6) := BW2.out.trans (B36.out.mono BW2.out.size)
    clear g6 ch6 B36 MX2 MY2 BW2 PX PY
    clear HB4
    generalize w4.heap.size = G at *
    go_upto_region 6 with (fail)
    refine wp_region_any (by kernel_rfl) ?_
    change wpAny _ _ _ _ _ _ _ (World.drew _)
    replace BW6 : Hid (Below w.heap.size w w6.drew) := BW6.out.drew
    replace A6 : Hid (w6.drew.heap[G]? = some (.cells A 30 (0, 0))) := A6.out
    replace MX6 : Hid (BAt w6.drew (some ⟨gx, 0, none⟩) (mk5 K)) := MX6.out
    replace MY6 : Hid (BAt w6.drew (some ⟨gy, 0, none⟩) (mk5 b)) := MY6.out
    generalize w6.drew = w7 at *
    refine any_take_g 1 31 ?_ rfl (by kernel_rfl) (by kernel_rfl) (by kernel_rfl) (fun _ _ _ h => h) (by rfl) ?_ ?_
    rotate_left
    · (intro w; go_simp; try (with_reducible rfl))
    try simp only [Act.put, List.setIfInBounds_toArray, List.set_cons_zero, List.set_cons_succ]
    refine any_take_g 2 32 ?_ rfl (by kernel_rfl) (by kernel_rfl) (by kernel_rfl) (fun _ _ _ h => h) (by rfl) ?_ ?_
    rotate_left
    · (intro w; go_simp; try (with_reducible rfl))
    try simp only [Act.put, List.setIfInBounds_toArray, List.set_cons_zero, List.set_cons_succ]
    refine any_two 0 3 (by kernel_rfl) ?_ ?_
    · refine op_load 0 30 (.tmp 7) rfl G 0 A.toList _ rfl (row_range' A6.out) Tryd.underlying30 rfl (by rw [Array.length_toList]; exact row_size Tryd.sizeSum HA2) ?_
      try simp only [Act.put, List.setIfInBounds_toArray, List.set_cons_zero, List.set_cons_succ]
      rw [Array.toArray_toList]
      refine any_one 3 (by kernel_rfl) ?_
      refine wpOp_step rfl (fun Kc hKc => ?_)
      go_simp
      refine (ref2_of_any K b p q K.length b.length c d rfl rfl (by omega) (by omega) _ (Hp.out.old BW6.out) (Hq.out.old BW6.out) (Hk.out.below BW6.out Hk.out.lt)).mono ?_
      rintro e w8 ⟨rfl, hb8⟩
      rw [← HA1.out]
      have BW8 : Hid (Below w.heap.size w w8) := BW6.out.trans (hb8.mono BW6.out.size)
      have A8 : Hid (w8.heap[G]? = some (.cells A 30 (0, 0))) := (hb8.block _ (lt_of_block A6.out)).trans A6.out
      have MX8 : Hid (BAt w8 (some ⟨gx, 0, none⟩) (mk5 K)) := MX6.out.old hb8
      have MY8 : Hid (BAt w8 (some ⟨gy, 0, none⟩) (mk5 b)) := MY6.out.old hb8
      clear hb8
      dsimp only
      refine hKc _ _ ?_
      clear hKc Kc
      try simp only [Act.put, List.setIfInBounds_toArray, List.set_cons_zero, List.set_cons_succ]
      refine any_take_g 4 34 (.bool true) rfl (by kernel_rfl) (by kernel_rfl) (by kernel_rfl) (fun _ _ _ h => h) (by rfl) (by intro w; go_simp) ?_
      try simp only [Act.put, List.setIfInBounds_toArray, List.set_cons_zero, List.set_cons_succ]
      refine any_take_g 5 35 (.bool true) rfl (by kernel_rfl) (by kernel_rfl) (by kernel_rfl) (fun _ _ _ h => h) (by rfl) (by intro w; go_simp) ?_
      try simp only [Act.put, List.setIfInBounds_toArray, List.set_cons_zero, List.set_cons_succ]
      refine any_take_g 6 36 ?_ rfl (by kernel_rfl) (by kernel_rfl) (by kernel_rfl) (fun _ _ _ h => h) (by rfl) ?_ ?_
      rotate_left
      · (intro w; go_simp; try (with_reducible rfl))
      try simp only [Act.put, List.setIfInBounds_toArray, List.set_cons_zero, List.set_cons_succ]
      refine any_take_g 7 37 ?_ rfl (by kernel_rfl) (by kernel_rfl) (by kernel_rfl) (fun _ _ _ h => h) (by rfl) ?_ ?_
      rotate_left
      · (intro w; go_simp; try (with_reducible rfl))
      try simp only [Act.put, List.setIfInBounds_toArray, List.set_cons_zero, List.set_cons_succ]
      refine any_one 8 (by kernel_rfl) ?_
      refine wpOp_step rfl (fun Kc hKc => ?_)
      go_simp
      refine (kept_any K gx p (K.length + 5) c _ MX8.out (Hp.out.old BW8.out) (by omega) (by omega)).mono ?_
      rintro e w9 ⟨rfl, hb9⟩
      have BW9 : Hid (Below w.heap.size w w9) := BW8.out.trans (hb9.mono BW8.out.size)
      have MY9 : Hid (BAt w9 (some ⟨gy, 0, none⟩) (mk5 b)) := MY8.out.old hb9
      clear hb9
      dsimp only
      refine hKc _ _ ?_
      clear hKc Kc
      try simp only [Act.put, List.setIfInBounds_toArray, List.set_cons_zero, List.set_cons_succ]
      refine any_take_g 9 39 (.bool true) rfl (by kernel_rfl) (by kernel_rfl) (by kernel_rfl) (fun _ _ _ h => h) (by rfl) (by intro w; go_simp) ?_
      try simp only [Act.put, List.setIfInBounds_toArray, List.set_cons_zero, List.set_cons_succ]
      refine any_take_g 10 40 (.bool true) rfl (by kernel_rfl) (by kernel_rfl) (by kernel_rfl) (fun _ _ _ h => h) (by rfl) (by intro w; go_simp) ?_
      try simp only [Act.put, List.setIfInBounds_toArray, List.set_cons_zero, List.set_cons_succ]
      refine any_take_g 11 41 ?_ rfl (by kernel_rfl) (by kernel_rfl) (by kernel_rfl) (fun _ _ _ h => h) (by rfl) ?_ ?_
      rotate_left
      · (intro w; go_simp; try (with_reducible rfl))
      try simp only [Act.put, List.setIfInBounds_toArray, List.set_cons_zero, List.set_cons_succ]
      refine any_take_g 12 42 ?_ rfl (by kernel_rfl) (by kernel_rfl) (by kernel_rfl) (fun _ _ _ h => h) (by rfl) ?_ ?_
      rotate_left
      · (intro w; go_simp; try (with_reducible rfl))
      try simp only [Act.put, List.setIfInBounds_toArray, List.set_cons_zero, List.set_cons_succ]
      refine any_one 13 (by kernel_rfl) ?_
      refine wpOp_step rfl (fun Kc hKc => ?_)
      go_simp
      refine (kept_any b gy q (b.length + 5) d _ MY9.out (Hq.out.old BW9.out) (by omega) (by omega)).mono ?_
      rintro e wA ⟨rfl, hbA⟩
      have BWA : Hid (Below w.heap.size w wA) := BW9.out.trans (hbA.mono BW9.out.size)
      clear hbA
      dsimp only
      refine hKc _ _ ?_
      clear hKc Kc
      try simp only [Act.put, List.setIfInBounds_toArray, List.set_cons_zero, List.set_cons_succ]
      refine any_take_g 14 44 (.bool true) rfl (by kernel_rfl) (by kernel_rfl) (by kernel_rfl) (fun _ _ _ h => h) (by rfl) (by intro w; go_simp) ?_
      try simp only [Act.put, List.setIfInBounds_toArray, List.set_cons_zero, List.set_cons_succ]
      refine any_take_g 15 45 (.bool true) rfl (by kernel_rfl) (by kernel_rfl) (by kernel_rfl) (fun _ _ _ h => h) (by rfl) (by intro w; go_simp) ?_
      try simp only [Act.put, List.setIfInBounds_toArray, List.set_cons_zero, List.set_cons_succ]
      refine any_one 16 (by kernel_rfl) ?_
      refine wpOp_step rfl (fun Kc hKc => ?_)
      go_simp
      refine (works_any HT.out _ (Ht.out.below BWA.out Ht.out.lt)).mono ?_
      rintro e wB ⟨rfl, hbB⟩
      have BWB : Hid (Below w.heap.size w wB) := BWA.out.trans (hbB.mono BWA.out.size)
      clear hbB
      dsimp only
      refine hKc _ _ ?_
      clear hKc Kc
      try simp only [Act.put, List.setIfInBounds_toArray, List.set_cons_zero, List.set_cons_succ]
      refine any_take_g 17 47 (.bool true) rfl (by kernel_rfl) (by kernel_rfl) (by kernel_rfl) (fun _ _ _ h => h) (by rfl) (by intro w; go_simp) ?_
      try simp only [Act.put, List.setIfInBounds_toArray, List.set_cons_zero, List.set_cons_succ]
      refine any_take_g 18 4 (.bool true) rfl (by kernel_rfl) (by kernel_rfl) (by kernel_rfl) (fun _ _ _ h => h) (by rfl) (by intro w; go_simp) ?_
      try simp only [Act.put, List.setIfInBounds_toArray, List.set_cons_zero, List.set_cons_succ]
      refine wpAny_done (by kernel_rfl) ?_ _
      go_wp2
      go_ret
      exact ⟨rfl, BWB.out⟩
    · refine wpOp_step rfl (fun Kc hKc => ?_)
      go_simp
      refine (ref2_of_any K b p q K.length b.length c d rfl rfl (by omega) (by omega) _ (Hp.out.old BW6.out) (Hq.out.old BW6.out) (Hk.out.below BW6.out Hk.out.lt)).mono ?_
      rintro e w8 ⟨rfl, hb8⟩
      rw [← HA1.out]
      have BW8 : Hid (Below w.heap.size w w8) := BW6.out.trans (hb8.mono BW6.out.size)
      have A8 : Hid (w8.heap[G]? = some (.cells A 30 (0, 0))) := (hb8.block _ (lt_of_block A6.out)).trans A6.out
      have MX8 : Hid (BAt w8 (some ⟨gx, 0, none⟩) (mk5 K)) := MX6.out.old hb8
      have MY8 : Hid (BAt w8 (some ⟨gy, 0, none⟩) (mk5 b)) := MY6.out.old hb8
      clear hb8
      dsimp only
      refine hKc _ _ ?_
      clear hKc Kc
      try simp only [Act.put, List.setIfInBounds_toArray, List.set_cons_zero, List.set_cons_succ]
      refine any_one 0 (by kernel_rfl) ?_
      refine op_load 0 30 (.tmp 7) rfl G 0 A.toList _ rfl (row_range' A8.out) Tryd.underlying30 rfl (by rw [Array.length_toList]; exact row_size Tryd.sizeSum HA2) ?_
      try simp only [Act.put, List.setIfInBounds_toArray, List.set_cons_zero, List.set_cons_succ]
      rw [Array.toArray_toList]
      refine any_take_g 4 34 (.bool true) rfl (by kernel_rfl) (by kernel_rfl) (by kernel_rfl) (fun _ _ _ h => h) (by rfl) (by intro w; go_simp) ?_
      try simp only [Act.put, List.setIfInBounds_toArray, List.set_cons_zero, List.set_cons_succ]
      refine any_take_g 5 35 (.bool true) rfl (by kernel_rfl) (by kernel_rfl) (by kernel_rfl) (fun _ _ _ h => h) (by rfl) (by intro w; go_simp) ?_
      try simp only [Act.put, List.setIfInBounds_toArray, List.set_cons_zero, List.set_cons_succ]
      refine any_take_g 6 36 ?_ rfl (by kernel_rfl) (by kernel_rfl) (by kernel_rfl) (fun _ _ _ h => h) (by rfl) ?_ ?_
      rotate_left
      · (intro w; go_simp; try (with_reducible rfl))
      try simp only [Act.put, List.setIfInBounds_toArray, List.set_cons_zero, List.set_cons_succ]
      refine any_take_g 7 37 ?_ rfl (by kernel_rfl) (by kernel_rfl) (by kernel_rfl) (fun _ _ _ h => h) (by rfl) ?_ ?_
      rotate_left
      · (intro w; go_simp; try (with_reducible rfl))
      try simp only [Act.put, List.setIfInBounds_toArray, List.set_cons_zero, List.set_cons_succ]
      refine any_one 8 (by kernel_rfl) ?_
      refine wpOp_step rfl (fun Kc hKc => ?_)
      go_simp
      refine (kept_any K gx p (K.length + 5) c _ MX8.out (Hp.out.old BW8.out) (by omega) (by omega)).mono ?_
      rintro e w9 ⟨rfl, hb9⟩
      have BW9 : Hid (Below w.heap.size w w9) := BW8.out.trans (hb9.mono BW8.out.size)
      have MY9 : Hid (BAt w9 (some ⟨gy, 0, none⟩) (mk5 b)) := MY8.out.old hb9
      clear hb9
      dsimp only
      refine hKc _ _ ?_
      clear hKc Kc
      try simp only [Act.put, List.setIfInBounds_toArray, List.set_cons_zero, List.set_cons_succ]
      refine any_take_g 9 39 (.bool true) rfl (by kernel_rfl) (by kernel_rfl) (by kernel_rfl) (fun _ _ _ h => h) (by rfl) (by intro w; go_simp) ?_
      try simp only [Act.put, List.setIfInBounds_toArray, List.set_cons_zero, List.set_cons_succ]
      refine any_take_g 10 40 (.bool true) rfl (by kernel_rfl) (by kernel_rfl) (by kernel_rfl) (fun _ _ _ h => h) (by rfl) (by intro w; go_simp) ?_
      try simp only [Act.put, List.setIfInBounds_toArray, List.set_cons_zero, List.set_cons_succ]
      refine any_take_g 11 41 ?_ rfl (by kernel_rfl) (by kernel_rfl) (by kernel_rfl) (fun _ _ _ h => h) (by rfl) ?_ ?_
      rotate_left
      · (intro w; go_simp; try (with_reducible rfl))
      try simp only [Act.put, List.setIfInBounds_toArray, List.set_cons_zero, List.set_cons_succ]
      refine any_take_g 12 42 ?_ rfl (by kernel_rfl) (by kernel_rfl) (by kernel_rfl) (fun _ _ _ h => h) (by rfl) ?_ ?_
      rotate_left
      · (intro w; go_simp; try (with_reducible rfl))
      try simp only [Act.put, List.setIfInBounds_toArray, List.set_cons_zero, List.set_cons_succ]
      refine any_one 13 (by kernel_rfl) ?_
      refine wpOp_step rfl (fun Kc hKc => ?_)
      go_simp
      refine (kept_any b gy q (b.length + 5) d _ MY9.out (Hq.out.old BW9.out) (by omega) (by omega)).mono ?_
      rintro e wA ⟨rfl, hbA⟩
      have BWA : Hid (Below w.heap.size w wA) := BW9.out.trans (hbA.mono BW9.out.size)
      clear hbA
      dsimp only
      refine hKc _ _ ?_
      clear hKc Kc
      try simp only [Act.put, List.setIfInBounds_toArray, List.set_cons_zero, List.set_cons_succ]
      refine any_take_g 14 44 (.bool true) rfl (by kernel_rfl) (by kernel_rfl) (by kernel_rfl) (fun _ _ _ h => h) (by rfl) (by intro w; go_simp) ?_
      try simp only [Act.put, List.setIfInBounds_toArray, List.set_cons_zero, List.set_cons_succ]
      refine any_take_g 15 45 (.bool true) rfl (by kernel_rfl) (by kernel_rfl) (by kernel_rfl) (fun _ _ _ h => h) (by rfl) (by intro w; go_simp) ?_
      try simp only [Act.put, List.setIfInBounds_toArray, List.set_cons_zero, List.set_cons_succ]
      refine any_one 16 (by kernel_rfl) ?_
      refine wpOp_step rfl (fun Kc hKc => ?_)
      go_simp
      refine (works_any HT.out _ (Ht.out.below BWA.out Ht.out.lt)).mono ?_
      rintro e wB ⟨rfl, hbB⟩
      have BWB : Hid (Below w.heap.size w wB) := BWA.out.trans (hbB.mono BWA.out.size)
      clear hbB
      dsimp only
      refine hKc _ _ ?_
      clear hKc Kc
      try simp only [Act.put, List.setIfInBounds_toArray, List.set_cons_zero, List.set_cons_succ]
      refine any_take_g 17 47 (.bool true) rfl (by kernel_rfl) (by kernel_rfl) (by kernel_rfl) (fun _ _ _ h => h) (by rfl) (by intro w; go_simp) ?_
      try simp only [Act.put, List.setIfInBounds_toArray, List.set_cons_zero, List.set_cons_succ]
      refine any_take_g 18 4 (.bool true) rfl (by kernel_rfl) (by kernel_rfl) (by kernel_rfl) (fun _ _ _ h => h) (by rfl) (by intro w; go_simp) ?_
      try simp only [Act.put, List.setIfInBounds_toArray, List.set_cons_zero, List.set_cons_succ]
      refine wpAny_done (by kernel_rfl) ?_ _
      go_wp2
      go_ret
      exact ⟨rfl, BWB.out⟩
  · refine wpOp_step rfl (fun Kc hKc => ?_)
    go_simp
    refine hKc _ _ ?_
    clear hKc Kc
    try simp only [Act.put, List.setIfInBounds_toArray, List.set_cons_zero, List.set_cons_succ]
    refine any_one 8 (by kernel_rfl) ?_
    refine wpOp_step rfl (fun Kc hKc => ?_)
    go_simp
    refine (mac_of_any HT.out K b (some ⟨gx, 0, none⟩) (some ⟨gy, 0, none⟩) K.length b.length (K.length + 5) (b.length + 5) rfl rfl _ (PX.out.old ((Below.refl _ w3).alloc (Nat.le_refl _) _)) (PY.out.old ((Below.refl _ w3).alloc (Nat.le_refl _) _)) (by omega) (by omega) (by omega) (by omega) (by omega) (by omega) (Ht.out.below (BW2.out.alloc BW2.out.size _) Ht.out.lt)).mono ?_
    rintro e w4 ⟨rfl, hb4⟩
    rw [← HA1.out]
    have HB4 := Lib.hid hb4
    clear hb4
    dsimp only
    refine hKc _ _ ?_
    clear hKc Kc
    try simp only [Act.put, List.setIfInBounds_toArray, List.set_cons_zero, List.set_cons_succ]
    refine any_one 10 (by kernel_rfl) ?_
    refine op_store 10 30 (.tmp 7) (.tmp 29) rfl w3.heap.size 0 30 (List.replicate 32 (Value.int .u8 0)) A rfl rfl ((HB4.out.block _ (by simp)).trans (heap_alloc_new w3 _)) (row_size Tryd.sizeSum HA2) (by rw [HA2.out]; simp) HA3.out ?_
    intro w6 g6 ch6
    try simp only [Act.put, List.setIfInBounds_toArray, List.set_cons_zero, List.set_cons_succ]
    refine wpAny_done (by kernel_rfl) ?_ _
    have B36 : Hid (Below w3.heap.size w3 w6) := ch6.below (((Below.refl _ w3).alloc (Nat.le_refl _) _).trans (HB4.out.mono (by simp))) (Nat.le_refl _)
    have A6 : Hid (w6.heap[w3.heap.size]? = some (.cells A 30 (0, 0))) := by
      have h := g6.out
      rw [splice_all A HA2.out, Array.toArray_toList] at h
      exact h
    have MX6 : Hid (BAt w6 (some ⟨gx, 0, none⟩) (mk5 K)) := MX2.out.old B36.out
    have MY6 : Hid (BAt w6 (some ⟨gy, 0, none⟩) (mk5 b)) := MY2.out.old B36.out
    have BW6 : Hid (Below w.heap.size w w6) := BW2.out.trans (B36.out.mono BW2.out.size)
    clear g6 ch6 B36 MX2 MY2 BW2 PX PY
    clear HB4
    generalize w3.heap.size = G at *
    go_upto_region 6 with (fail)
    refine wp_region_any (by kernel_rfl) ?_
    change wpAny _ _ _ _ _ _ _ (World.drew _)
    replace BW6 : Hid (Below w.heap.size w w6.drew) := BW6.out.drew
    replace A6 : Hid (w6.drew.heap[G]? = some (.cells A 30 (0, 0))) := A6.out
    replace MX6 : Hid (BAt w6.drew (some ⟨gx, 0, none⟩) (mk5 K)) := MX6.out
    replace MY6 : Hid (BAt w6.drew (some ⟨gy, 0, none⟩) (mk5 b)) := MY6.out
    generalize w6.drew = w7 at *
    refine any_take_g 1 31 ?_ rfl (by kernel_rfl) (by kernel_rfl) (by kernel_rfl) (fun _ _ _ h => h) (by rfl) ?_ ?_
    rotate_left
    · (intro w; go_simp; try (with_reducible rfl))
    try simp only [Act.put, List.setIfInBounds_toArray, List.set_cons_zero, List.set_cons_succ]
    refine any_take_g 2 32 ?_ rfl (by kernel_rfl) (by kernel_rfl) (by kernel_rfl) (fun _ _ _ h => h) (by rfl) ?_ ?_
    rotate_left
    · (intro w; go_simp; try (with_reducible rfl))
    try simp only [Act.put, List.setIfInBounds_toArray, List.set_cons_zero, List.set_cons_succ]
    refine any_two 0 3 (by kernel_rfl) ?_ ?_
    · refine op_load 0 30 (.tmp 7) rfl G 0 A.toList _ rfl (row_range' A6.out) Tryd.underlying30 rfl (by rw [Array.length_toList]; exact row_size Tryd.sizeSum HA2) ?_
      try simp only [Act.put, List.setIfInBounds_toArray, List.set_cons_zero, List.set_cons_succ]
      rw [Array.toArray_toList]
      refine any_one 3 (by kernel_rfl) ?_
      refine wpOp_step rfl (fun Kc hKc => ?_)
      go_simp
      refine (ref2_of_any K b p q K.length b.length c d rfl rfl (by omega) (by omega) _ (Hp.out.old BW6.out) (Hq.out.old BW6.out) (Hk.out.below BW6.out Hk.out.lt)).mono ?_
      rintro e w8 ⟨rfl, hb8⟩
      rw [← HA1.out]
      have BW8 : Hid (Below w.heap.size w w8) := BW6.out.trans (hb8.mono BW6.out.size)
      have A8 : Hid (w8.heap[G]? = some (.cells A 30 (0, 0))) := (hb8.block _ (lt_of_block A6.out)).trans A6.out
      have MX8 : Hid (BAt w8 (some ⟨gx, 0, none⟩) (mk5 K)) := MX6.out.old hb8
      have MY8 : Hid (BAt w8 (some ⟨gy, 0, none⟩) (mk5 b)) := MY6.out.old hb8
      clear hb8
      dsimp only
      refine hKc _ _ ?_
      clear hKc Kc
      try simp only [Act.put, List.setIfInBounds_toArray, List.set_cons_zero, List.set_cons_succ]
      refine any_take_g 4 34 (.bool true) rfl (by kernel_rfl) (by kernel_rfl) (by kernel_rfl) (fun _ _ _ h => h) (by rfl) (by intro w; go_simp) ?_
      try simp only [Act.put, List.setIfInBounds_toArray, List.set_cons_zero, List.set_cons_succ]
      refine any_take_g 5 35 (.bool true) rfl (by kernel_rfl) (by kernel_rfl) (by kernel_rfl) (fun _ _ _ h => h) (by rfl) (by intro w; go_simp) ?_
      try simp only [Act.put, List.setIfInBounds_toArray, List.set_cons_zero, List.set_cons_succ]
      refine any_take_g 6 36 ?_ rfl (by kernel_rfl) (by kernel_rfl) (by kernel_rfl) (fun _ _ _ h => h) (by rfl) ?_ ?_
      rotate_left
      · (intro w; go_simp; try (with_reducible rfl))
      try simp only [Act.put, List.setIfInBounds_toArray, List.set_cons_zero, List.set_cons_succ]
      refine any_take_g 7 37 ?_ rfl (by kernel_rfl) (by kernel_rfl) (by kernel_rfl) (fun _ _ _ h => h) (by rfl) ?_ ?_
      rotate_left
      · (intro w; go_simp; try (with_reducible rfl))
      try simp only [Act.put, List.setIfInBounds_toArray, List.set_cons_zero, List.set_cons_succ]
      refine any_one 8 (by kernel_rfl) ?_
      refine wpOp_step rfl (fun Kc hKc => ?_)
      go_simp
      refine (kept_any K gx p (K.length + 5) c _ MX8.out (Hp.out.old BW8.out) (by omega) (by omega)).mono ?_
      rintro e w9 ⟨rfl, hb9⟩
      have BW9 : Hid (Below w.heap.size w w9) := BW8.out.trans (hb9.mono BW8.out.size)
      have MY9 : Hid (BAt w9 (some ⟨gy, 0, none⟩) (mk5 b)) := MY8.out.old hb9
      clear hb9
      dsimp only
      refine hKc _ _ ?_
      clear hKc Kc
      try simp only [Act.put, List.setIfInBounds_toArray, List.set_cons_zero, List.set_cons_succ]
      refine any_take_g 9 39 (.bool true) rfl (by kernel_rfl) (by kernel_rfl) (by kernel_rfl) (fun _ _ _ h => h) (by rfl) (by intro w; go_simp) ?_
      try simp only [Act.put, List.setIfInBounds_toArray, List.set_cons_zero, List.set_cons_succ]
      refine any_take_g 10 40 (.bool true) rfl (by kernel_rfl) (by kernel_rfl) (by kernel_rfl) (fun _ _ _ h => h) (by rfl) (by intro w; go_simp) ?_
      try simp only [Act.put, List.setIfInBounds_toArray, List.set_cons_zero, List.set_cons_succ]
      refine any_take_g 11 41 ?_ rfl (by kernel_rfl) (by kernel_rfl) (by kernel_rfl) (fun _ _ _ h => h) (by rfl) ?_ ?_
      rotate_left
      · (intro w; go_simp; try (with_reducible rfl))
      try simp only [Act.put, List.setIfInBounds_toArray, List.set_cons_zero, List.set_cons_succ]
      refine any_take_g 12 42 ?_ rfl (by kernel_rfl) (by kernel_rfl) (by kernel_rfl) (fun _ _ _ h => h) (by rfl) ?_ ?_
      rotate_left
      · (intro w; go_simp; try (with_reducible rfl))
      try simp only [Act.put, List.setIfInBounds_toArray, List.set_cons_zero, List.set_cons_succ]
      refine any_one 13 (by kernel_rfl) ?_
      refine wpOp_step rfl (fun Kc hKc => ?_)
      go_simp
      refine (kept_any b gy q (b.length + 5) d _ MY9.out (Hq.out.old BW9.out) (by omega) (by omega)).mono ?_
      rintro e wA ⟨rfl, hbA⟩
      have BWA : Hid (Below w.heap.size w wA) := BW9.out.trans (hbA.mono BW9.out.size)
      clear hbA
      dsimp only
      refine hKc _ _ ?_
      clear hKc Kc
      try simp only [Act.put, List.setIfInBounds_toArray, List.set_cons_zero, List.set_cons_succ]
      refine any_take_g 14 44 (.bool true) rfl (by kernel_rfl) (by kernel_rfl) (by kernel_rfl) (fun _ _ _ h => h) (by rfl) (by intro w; go_simp) ?_
      try simp only [Act.put, List.setIfInBounds_toArray, List.set_cons_zero, List.set_cons_succ]
      refine any_take_g 15 45 (.bool true) rfl (by kernel_rfl) (by kernel_rfl) (by kernel_rfl) (fun _ _ _ h => h) (by rfl) (by intro w; go_simp) ?_
      try simp only [Act.put, List.setIfInBounds_toArray, List.set_cons_zero, List.set_cons_succ]
      refine any_one 16 (by kernel_rfl) ?_
      refine wpOp_step rfl (fun Kc hKc => ?_)
      go_simp
      refine (works_any HT.out _ (Ht.out.below BWA.out Ht.out.lt)).mono ?_
      rintro e wB ⟨rfl, hbB⟩
      have BWB : Hid (Below w.heap.size w wB) := BWA.out.trans (hbB.mono BWA.out.size)
      clear hbB
      dsimp only
      refine hKc _ _ ?_
      clear hKc Kc
      try simp only [Act.put, List.setIfInBounds_toArray, List.set_cons_zero, List.set_cons_succ]
      refine any_take_g 17 47 (.bool true) rfl (by kernel_rfl) (by kernel_rfl) (by kernel_rfl) (fun _ _ _ h => h) (by rfl) (by intro w; go_simp) ?_
      try simp only [Act.put, List.setIfInBounds_toArray, List.set_cons_zero, List.set_cons_succ]
      refine any_take_g 18 4 (.bool true) rfl (by kernel_rfl) (by kernel_rfl) (by kernel_rfl) (fun _ _ _ h => h) (by rfl) (by intro w; go_simp) ?_
      try simp only [Act.put, List.setIfInBounds_toArray, List.set_cons_zero, List.set_cons_succ]
      refine wpAny_done (by kernel_rfl) ?_ _
      go_wp2
      go_ret
      exact ⟨rfl, BWB.out⟩
    · refine wpOp_step rfl (fun Kc hKc => ?_)
      go_simp
      refine (ref2_of_any K b p q K.length b.length c d rfl rfl (by omega) (by omega) _ (Hp.out.old BW6.out) (Hq.out.old BW6.out) (Hk.out.below BW6.out Hk.out.lt)).mono ?_
      rintro e w8 ⟨rfl, hb8⟩
      rw [← HA1.out]
      have BW8 : Hid (Below w.heap.size w w8) := BW6.out.trans (hb8.mono BW6.out.size)
      have A8 : Hid (w8.heap[G]? = some (.cells A 30 (0, 0))) := (hb8.block _ (lt_of_block A6.out)).trans A6.out
      have MX8 : Hid (BAt w8 (some ⟨gx, 0, none⟩) (mk5 K)) := MX6.out.old hb8
      have MY8 : Hid (BAt w8 (some ⟨gy, 0, none⟩) (mk5 b)) := MY6.out.old hb8
      clear hb8
      dsimp only
      refine hKc _ _ ?_
      clear hKc Kc
      try simp only [Act.put, List.setIfInBounds_toArray, List.set_cons_zero, List.set_cons_succ]
      refine any_one 0 (by kernel_rfl) ?_
      refine op_load 0 30 (.tmp 7) rfl G 0 A.toList _ rfl (row_range' A8.out) Tryd.underlying30 rfl (by rw [Array.length_toList]; exact row_size Tryd.sizeSum HA2) ?_
      try simp only [Act.put, List.setIfInBounds_toArray, List.set_cons_zero, List.set_cons_succ]
      rw [Array.toArray_toList]
      refine any_take_g 4 34 (.bool true) rfl (by kernel_rfl) (by kernel_rfl) (by kernel_rfl) (fun _ _ _ h => h) (by rfl) (by intro w; go_simp) ?_
      try simp only [Act.put, List.setIfInBounds_toArray, List.set_cons_zero, List.set_cons_succ]
      refine any_take_g 5 35 (.bool true) rfl (by kernel_rfl) (by kernel_rfl) (by kernel_rfl) (fun _ _ _ h => h) (by rfl) (by intro w; go_simp) ?_
      try simp only [Act.put, List.setIfInBounds_toArray, List.set_cons_zero, List.set_cons_succ]
      refine any_take_g 6 36 ?_ rfl (by kernel_rfl) (by kernel_rfl) (by kernel_rfl) (fun _ _ _ h => h) (by rfl) ?_ ?_
      rotate_left
      · (intro w; go_simp; try (with_reducible rfl))
      try simp only [Act.put, List.setIfInBounds_toArray, List.set_cons_zero, List.set_cons_succ]
      refine any_take_g 7 37 ?_ rfl (by kernel_rfl) (by kernel_rfl) (by kernel_rfl) (fun _ _ _ h => h) (by rfl) ?_ ?_
      rotate_left
      · (intro w; go_simp; try (with_reducible rfl))
      try simp only [Act.put, List.setIfInBounds_toArray, List.set_cons_zero, List.set_cons_succ]
      refine any_one 8 (by kernel_rfl) ?_
      refine wpOp_step rfl (fun Kc hKc => ?_)
      go_simp
      refine (kept_any K gx p (K.length + 5) c _ MX8.out (Hp.out.old BW8.out) (by omega) (by omega)).mono ?_
      rintro e w9 ⟨rfl, hb9⟩
      have BW9 : Hid (Below w.heap.size w w9) := BW8.out.trans (hb9.mono BW8.out.size)
      have MY9 : Hid (BAt w9 (some ⟨gy, 0, none⟩) (mk5 b)) := MY8.out.old hb9
      clear hb9
      dsimp only
      refine hKc _ _ ?_
      clear hKc Kc
      try simp only [Act.put, List.setIfInBounds_toArray, List.set_cons_zero, List.set_cons_succ]
      refine any_take_g 9 39 (.bool true) rfl (by kernel_rfl) (by kernel_rfl) (by kernel_rfl) (fun _ _ _ h => h) (by rfl) (by intro w; go_simp) ?_
      try simp only [Act.put, List.setIfInBounds_toArray, List.set_cons_zero, List.set_cons_succ]
      refine any_take_g 10 40 (.bool true) rfl (by kernel_rfl) (by kernel_rfl) (by kernel_rfl) (fun _ _ _ h => h) (by rfl) (by intro w; go_simp) ?_
      try simp only [Act.put, List.setIfInBounds_toArray, List.set_cons_zero, List.set_cons_succ]
      refine any_take_g 11 41 ?_ rfl (by kernel_rfl) (by kernel_rfl) (by kernel_rfl) (fun _ _ _ h => h) (by rfl) ?_ ?_
      rotate_left
      · (intro w; go_simp; try (with_reducible rfl))
      try simp only [Act.put, List.setIfInBounds_toArray, List.set_cons_zero, List.set_cons_succ]
      refine any_take_g 12 42 ?_ rfl (by kernel_rfl) (by kernel_rfl) (by kernel_rfl) (fun _ _ _ h => h) (by rfl) ?_ ?_
      rotate_left
      · (intro w; go_simp; try (with_reducible rfl))
      try simp only [Act.put, List.setIfInBounds_toArray, List.set_cons_zero, List.set_cons_succ]
      refine any_one 13 (by kernel_rfl) ?_
      refine wpOp_step rfl (fun Kc hKc => ?_)
      go_simp
      refine (kept_any b gy q (b.length + 5) d _ MY9.out (Hq.out.old BW9.out) (by omega) (by omega)).mono ?_
      rintro e wA ⟨rfl, hbA⟩
      have BWA : Hid (Below w.heap.size w wA) := BW9.out.trans (hbA.mono BW9.out.size)
      clear hbA
      dsimp only
      refine hKc _ _ ?_
      clear hKc Kc
      try simp only [Act.put, List.setIfInBounds_toArray, List.set_cons_zero, List.set_cons_succ]
      refine any_take_g 14 44 (.bool true) rfl (by kernel_rfl) (by kernel_rfl) (by kernel_rfl) (fun _ _ _ h => h) (by rfl) (by intro w; go_simp) ?_
      try simp only [Act.put, List.setIfInBounds_toArray, List.set_cons_zero, List.set_cons_succ]
      refine any_take_g 15 45 (.bool true) rfl (by kernel_rfl) (by kernel_rfl) (by kernel_rfl) (fun _ _ _ h => h) (by rfl) (by intro w; go_simp) ?_
      try simp only [Act.put, List.setIfInBounds_toArray, List.set_cons_zero, List.set_cons_succ]
      refine any_one 16 (by kernel_rfl) ?_
      refine wpOp_step rfl (fun Kc hKc => ?_)
      go_simp
      refine (works_any HT.out _ (Ht.out.below BWA.out Ht.out.lt)).mono ?_
      rintro e wB ⟨rfl, hbB⟩
      have BWB : Hid (Below w.heap.size w wB) := BWA.out.trans (hbB.mono BWA.out.size)
      clear hbB
      dsimp only
      refine hKc _ _ ?_
      clear hKc Kc
      try simp only [Act.put, List.setIfInBounds_toArray, List.set_cons_zero, List.set_cons_succ]
      refine any_take_g 17 47 (.bool true) rfl (by kernel_rfl) (by kernel_rfl) (by kernel_rfl) (fun _ _ _ h => h) (by rfl) (by intro w; go_simp) ?_
      try simp only [Act.put, List.setIfInBounds_toArray, List.set_cons_zero, List.set_cons_succ]
      refine any_take_g 18 4 (.bool true) rfl (by kernel_rfl) (by kernel_rfl) (by kernel_rfl) (fun _ _ _ h => h) (by rfl) (by intro w; go_simp) ?_
      try simp only [Act.put, List.setIfInBounds_toArray, List.set_cons_zero, List.set_cons_succ]
      refine wpAny_done (by kernel_rfl) ?_ _
      go_wp2
      go_ret
      exact ⟨rfl, BWB.out⟩

end Go.Proofs.YtjidkkehhglahaaDoor

/-
  rillkit.CopyBytes; the law MacKeys walked.
-/
import Derived.Test.YtjidkkehhglahaaDoorMacE
namespace Go.Proofs.YtjidkkehhglahaaDoor
open Go.RowKit

set_option maxHeartbeats 1000000 in
set_option maxRecDepth 100000 in
theorem copy_any (L : List Int) (p : Option Addr) (n cap : Nat) (hn : L.length = n) (hL : L.length ≤ 1000000) (w : World) (hp : BAt w p L) :
    Calls Tryd.prog 30 #[.slice p n cap] w fun e w' => ∃ v, e = .returned v ∧ w'.ownsRow w.heap.size 5 1 v n (U8s L) ∧ Below w.heap.size w w' := by
  subst hn
  obtain ⟨i0, hi, hz0, hz1, hz2⟩ := info_parts Tryd.info_u8
  have Hp := Lib.hid hp; clear hp
  go_enter Tryd.func30, Tryd.ntmps30
  go_wp2
  go_loopw [3, 4] (fun v i wr => ∃ k : Nat, k ≤ L.length ∧ i = .int .i64 k ∧ Hid (wr.ownsRow w.heap.size 5 1 v k (U8s (L.take k))) ∧ Hid (Below w.heap.size w wr)) (fun _ i _ => L.length - (intOf i).toNat)
  case atStart => exact ⟨0, Nat.zero_le _, rfl, by unfold U8s; exact World.ownsRow_nil _ _ _ _, Below.refl _ _⟩
  case round =>
    obtain ⟨k, hk, rfl, HO, HB⟩ := hrel
    by_cases hlt : k < L.length
    · obtain ⟨ab, ao, hpp, hcs⟩ := (Hp.out.old HB.out).2 (by omega)
      subst hpp
      have c0 := hcs k hlt
      clear hcs
      obtain ⟨x, hx⟩ : ∃ x, L.getD k 0 = x := ⟨_, rfl⟩
      rw [hx] at c0
      go_wp2_with (first
        | (at_builtin; refine wpList_append_own _ rfl _ _ 25 rfl w.heap.size 5 i0 (.int .u8 0) 1 1 Tryd.underlying25 hi hz0 hz1 hz2 rfl (by decide) _ _ _ rfl (HO.out.alloc _) ⟨wr.heap.size, 0, none⟩ 1 1 [.int .u8 x] rfl rfl (u8_cell _ _ _) (u8_one _) (by unfold maxLen; omega) (by omega) (by have := HB.out.size; simp; omega) ?_)
        | go_in)
      intro v' w1 hown' hgrow _
      have hb1 := below_own HB.out (HB.out.size) HO.out hgrow
      rw [U8s_snoc, ← hx, take_snoc L k hlt] at hown'
      clear hgrow HO HB
      go_wp2
      exact ⟨⟨k + 1, by omega, by go_num, hown', hb1⟩, by simp [intOf]; omega⟩
    · have E : k = L.length := by omega
      have HO2 : Hid (wr.ownsRow w.heap.size 5 1 u3 L.length (U8s L)) := by
        have := HO.out
        rw [E, List.take_length] at this
        exact this
      have hge : L.length ≤ k := by omega
      clear hlt HO E
      go_wp2
      go_ret
      exact ⟨_, rfl, HO2.out, HB.out⟩

theorem hm_long (K b : List Int) (h : 64 < K.length) : hm (Sha.dg K) b = hm K b := by
  rw [hm_eq, hm_eq, kb_short (Sha.dg K) (by rw [dg_len]; omega), ← kb_long K h]
theorem hm_pad (K b : List Int) (j : Nat) (h : K.length + j ≤ 64) : hm (K ++ List.replicate j 0) b = hm K b := by
  have e : k64 (K ++ List.replicate j 0) = k64 K := by
    unfold k64
    rw [List.append_assoc, List.length_append, List.length_replicate, List.replicate_append_replicate]
    congr 2
    omega
  rw [hm_eq, hm_eq, kb_short _ (by rw [List.length_append, List.length_replicate]; omega), kb_short K (by omega), e]

set_option maxHeartbeats 1000000 in
set_option maxRecDepth 100000 in
theorem keys_long (hT : TakeSaid) (p q : Option Addr) (n m c d : Nat) (i : Int) (w : World) (hn : 16384 < n ∨ 16384 < m) (ht : Tab w 0) :
    Calls Tryd.prog 15 #[.slice p n c, .slice q m d, .int .i64 i] w (YesSay w) := by
  have HT := Lib.hid hT; clear hT
  have Ht := Lib.hid ht; clear ht
  by_cases h1 : 16384 < n
  · go_enter Tryd.func15, Tryd.ntmps15
    go_wp2_with (go_at_call 21; refine (works_any HT.out _ Ht.out).mono ?_; rintro e w1 ⟨rfl, hb1⟩)
    go_ret
    exact ⟨rfl, hb1⟩
  · have h2 : 16384 < m := by omega
    go_enter Tryd.func15, Tryd.ntmps15
    go_wp2_with (go_at_call 21; refine (works_any HT.out _ Ht.out).mono ?_; rintro e w1 ⟨rfl, hb1⟩)
    go_ret
    exact ⟨rfl, hb1⟩

set_option maxHeartbeats 2000000 in
set_option maxRecDepth 100000 in
theorem keys_short_a (hT : TakeSaid) (K b : List Int) (p q : Option Addr) (n m c d : Nat) (hn : K.length = n) (hm' : b.length = m) (i : Int) (w : World) (hkl : 64 < n ∧ n ≤ 16384) (hp : BAt w p K) (hq : BAt w q b) (hc : n ≤ c) (hcm : c ≤ 9223372036854775807) (hd : m ≤ d) (hdm : d ≤ 9223372036854775807) (hml : m ≤ 16384) (ht : Tab w 0) :
    Calls Tryd.prog 15 #[.slice p n c, .slice q m d, .int .i64 i] w (YesSay w) := by
  have HT := Lib.hid hT; clear hT
  have Ht := Lib.hid ht; clear ht
  have Hp := Lib.hid hp; clear hp
  have Hq := Lib.hid hq; clear hq
  have HN := Lib.hid (And.intro hn hm')
  obtain ⟨A, HA1, HA2, HA3⟩ : ∃ A : Array Value, Hid (A = ((hm K b).map (Value.int .u8)).toArray) ∧ Hid (A.size = 32) ∧ Hid (A.all (·.oneCell') = true) :=
    ⟨_, rfl, by show _ = _; simp [hm_len], all_oneCell_toArray (bytes_one _)⟩
  have HEQ : ∀ w, (Op.equalIn 10000 30 (.agg A) (.agg A)).run Tryd.prog w = .ok true w := fun w => by rw [HA1.out]; exact sum_same _ (hm_len _ _) w
  have hng := Tryd.noGuard
  clear hn hm'
  obtain ⟨hk1, hk2⟩ := hkl
  obtain ⟨D, HD1, HD2, HD3⟩ : ∃ A : Array Value, Hid (A = ((Sha.dg K).map (Value.int .u8)).toArray) ∧ Hid (A.size = 32) ∧ Hid (A.all (·.oneCell') = true) :=
    ⟨_, rfl, by show _ = _; simp [dg_len], all_oneCell_toArray (bytes_one _)⟩
  go_enter Tryd.func15, Tryd.ntmps15
  go_upto_region 4 with (first
    | (go_at_call 19; refine (mac_of_any HT.out K b p q _ _ _ _ HN.out.1 HN.out.2 _ Hp.out Hq.out hc hcm hd hdm (by have := HN.out; omega) (by have := HN.out; omega) Ht.out).mono ?_; rintro e w1 ⟨rfl, hb1⟩; rw [← HA1.out]; have HB1 := Lib.hid hb1; clear hb1)
    | ((with_reducible refine row_store _ _ _ _ _ _ _ ?_ ?_ (heap_alloc_new _ _) (row_size Tryd.sizeSum HA2) ?_ HA3.out ?_); (exact rfl); (exact rfl); (rw [HA2.out]; rfl); intro w2 g2 ch2))
  have hs1 : w.heap.size ≤ w1.heap.size := HB1.out.size
  have BW2 : Hid (Below w.heap.size w w2) := ch2.below (HB1.out.alloc hs1 _) hs1
  have hs2 : w1.heap.size < w2.heap.size := by rw [ch2.size]; simp
  have G2 := g2
  clear g2 ch2 HB1 hs1
  generalize w1.heap.size = G1 at *
  go_upto_region 6 with (first
    | (go_at_call 9; refine (of_any'' HT.out K p _ _ HN.out.1 _ (fun g hg => (Hp.out.old BW2.out).bytes g hg) hc hcm (by have := HN.out; omega) (Ht.out.below BW2.out Ht.out.lt)).mono ?_; rintro e w3 ⟨rfl, hb3⟩; rw [← HD1.out]; have HB3 := Lib.hid hb3; clear hb3)
    | ((with_reducible refine row_store _ _ _ _ _ _ _ ?_ ?_ (heap_alloc_new _ _) (row_size Tryd.sizeSum HD2) ?_ HD3.out ?_); (exact rfl); (exact rfl); (rw [HD2.out]; rfl); intro w4 g4 ch4))
  have hs3 : w2.heap.size ≤ w3.heap.size := HB3.out.size
  have BW4 : Hid (Below w2.heap.size w2 w4) := ch4.below (HB3.out.alloc hs3 _) hs3
  have G4 : Hid (BAt w4 (some ⟨w3.heap.size, 0, none⟩) (Sha.dg K)) := by
    have h := g4.out
    rw [HD1.out] at h
    exact bat_row h (dg_byt K)
  have A4 : Hid (w4.heap[G1]? = some (.cells A 30 (0, 0))) := (BW4.out.block _ hs2).trans G2.out
  have B4 : Hid (Below w.heap.size w w4) := BW2.out.trans (BW4.out.mono BW2.out.size)
  clear g4 ch4 HB3 BW4 BW2 G2 hs2 hs3
  generalize w3.heap.size = G3 at *
  have HHL : Hid (hm (Sha.dg K) b = hm K b) := hm_long K b (by rw [HN.out.1]; omega)
  refine wp_region_any (by kernel_rfl) ?_
  change wpAny _ _ _ _ _ _ _ (World.drew _)
  replace B4 : Hid (Below w.heap.size w w4.drew) := B4.out.drew
  have A5 : Hid (w4.drew.heap[G1]? = some (.cells A 30 (0, 0))) := A4.out
  replace G4 : Hid (BAt w4.drew (some ⟨G3, 0, none⟩) (Sha.dg K)) := G4.out
  generalize w4.drew = w5 at *
  refine any_take_g 0 28 ?_ rfl (by kernel_rfl) (by kernel_rfl) (by kernel_rfl) (fun _ _ _ h => h) (by rfl) ?_ ?_
  rotate_left
  · (intro w; go_simp; try (with_reducible rfl))
  try simp only [Act.put, List.setIfInBounds_toArray, List.set_cons_zero, List.set_cons_succ]
  refine any_take_g 1 29 ?_ rfl (by kernel_rfl) (by kernel_rfl) (by kernel_rfl) (fun _ _ _ h => h) (by rfl) ?_ ?_
  rotate_left
  · (intro w; go_simp; try (with_reducible rfl))
  try simp only [Act.put, List.setIfInBounds_toArray, List.set_cons_zero, List.set_cons_succ]
  refine any_two 2 3 (by kernel_rfl) ?_ ?_
  · refine wpOp_step rfl (fun Kc hKc => ?_)
    go_simp
    refine (mac_of_any HT.out (Sha.dg K) b (some ⟨G3, 0, none⟩) q 32 m 32 d (dg_len K) HN.out.2 _ G4.out (Hq.out.old B4.out) (by omega) (by omega) hd hdm (by rw [dg_len]; omega) (by have := HN.out; omega) (Ht.out.below B4.out Ht.out.lt)).mono ?_
    rintro e w6 ⟨rfl, hb6⟩
    rw [HHL.out, ← HA1.out]
    have B6 : Hid (Below w.heap.size w w6) := B4.out.trans (hb6.mono B4.out.size)
    have A6 : Hid (w6.heap[G1]? = some (.cells A 30 (0, 0))) := (hb6.block _ (lt_of_block A5.out)).trans A5.out
    clear hb6
    dsimp only
    refine hKc _ _ ?_
    clear hKc Kc
    try simp only [Act.put, List.setIfInBounds_toArray, List.set_cons_zero, List.set_cons_succ]
    refine any_one 3 (by kernel_rfl) ?_
    refine op_load 3 30 (.tmp 7) rfl G1 0 A.toList _ rfl (row_range' A6.out) Tryd.underlying30 rfl (by rw [Array.length_toList]; exact row_size Tryd.sizeSum HA2) ?_
    try simp only [Act.put, List.setIfInBounds_toArray, List.set_cons_zero, List.set_cons_succ]
    rw [Array.toArray_toList]
    refine any_take_g 4 32 (.bool true) rfl (by kernel_rfl) (by kernel_rfl) (by kernel_rfl) (fun _ _ _ h => h) (by rfl) (by intro w; go_simp) ?_
    try simp only [Act.put, List.setIfInBounds_toArray, List.set_cons_zero, List.set_cons_succ]
    refine any_take_g 5 33 (.bool true) rfl (by kernel_rfl) (by kernel_rfl) (by kernel_rfl) (fun _ _ _ h => h) (by rfl) (by intro w; go_simp) ?_
    try simp only [Act.put, List.setIfInBounds_toArray, List.set_cons_zero, List.set_cons_succ]
    refine any_one 6 (by kernel_rfl) ?_
    refine wpOp_step rfl (fun Kc hKc => ?_)
    go_simp
    refine (works_any HT.out _ (Ht.out.below B6.out Ht.out.lt)).mono ?_
    rintro e w7 ⟨rfl, hb7⟩
    have B7 : Hid (Below w.heap.size w w7) := B6.out.trans (hb7.mono B6.out.size)
    clear hb7
    dsimp only
    refine hKc _ _ ?_
    clear hKc Kc
    try simp only [Act.put, List.setIfInBounds_toArray, List.set_cons_zero, List.set_cons_succ]
    refine any_take_g 7 35 (.bool true) rfl (by kernel_rfl) (by kernel_rfl) (by kernel_rfl) (fun _ _ _ h => h) (by rfl) (by intro w; go_simp) ?_
    try simp only [Act.put, List.setIfInBounds_toArray, List.set_cons_zero, List.set_cons_succ]
    refine any_take_g 8 6 (.bool true) rfl (by kernel_rfl) (by kernel_rfl) (by kernel_rfl) (fun _ _ _ h => h) (by rfl) (by intro w; go_simp) ?_
    try simp only [Act.put, List.setIfInBounds_toArray, List.set_cons_zero, List.set_cons_succ]
    refine wpAny_done (by kernel_rfl) ?_ _
    go_wp2
    go_ret
    exact ⟨rfl, B7.out⟩
  · refine op_load 3 30 (.tmp 7) rfl G1 0 A.toList _ rfl (row_range' A5.out) Tryd.underlying30 rfl (by rw [Array.length_toList]; exact row_size Tryd.sizeSum HA2) ?_
    try simp only [Act.put, List.setIfInBounds_toArray, List.set_cons_zero, List.set_cons_succ]
    rw [Array.toArray_toList]
    refine any_one 2 (by kernel_rfl) ?_
    refine wpOp_step rfl (fun Kc hKc => ?_)
    go_simp
    refine (mac_of_any HT.out (Sha.dg K) b (some ⟨G3, 0, none⟩) q 32 m 32 d (dg_len K) HN.out.2 _ G4.out (Hq.out.old B4.out) (by omega) (by omega) hd hdm (by rw [dg_len]; omega) (by have := HN.out; omega) (Ht.out.below B4.out Ht.out.lt)).mono ?_
    rintro e w6 ⟨rfl, hb6⟩
    rw [HHL.out, ← HA1.out]
    have B6 : Hid (Below w.heap.size w w6) := B4.out.trans (hb6.mono B4.out.size)
    have A6 : Hid (w6.heap[G1]? = some (.cells A 30 (0, 0))) := (hb6.block _ (lt_of_block A5.out)).trans A5.out
    clear hb6
    dsimp only
    refine hKc _ _ ?_
    clear hKc Kc
    try simp only [Act.put, List.setIfInBounds_toArray, List.set_cons_zero, List.set_cons_succ]
    refine any_take_g 4 32 (.bool true) rfl (by kernel_rfl) (by kernel_rfl) (by kernel_rfl) (fun _ _ _ h => h) (by rfl) (by intro w; go_simp) ?_
    try simp only [Act.put, List.setIfInBounds_toArray, List.set_cons_zero, List.set_cons_succ]
    refine any_take_g 5 33 (.bool true) rfl (by kernel_rfl) (by kernel_rfl) (by kernel_rfl) (fun _ _ _ h => h) (by rfl) (by intro w; go_simp) ?_
    try simp only [Act.put, List.setIfInBounds_toArray, List.set_cons_zero, List.set_cons_succ]
    refine any_one 6 (by kernel_rfl) ?_
    refine wpOp_step rfl (fun Kc hKc => ?_)
    go_simp
    refine (works_any HT.out _ (Ht.out.below B6.out Ht.out.lt)).mono ?_
    rintro e w7 ⟨rfl, hb7⟩
    have B7 : Hid (Below w.heap.size w w7) := B6.out.trans (hb7.mono B6.out.size)
    clear hb7
    dsimp only
    refine hKc _ _ ?_
    clear hKc Kc
    try simp only [Act.put, List.setIfInBounds_toArray, List.set_cons_zero, List.set_cons_succ]
    refine any_take_g 7 35 (.bool true) rfl (by kernel_rfl) (by kernel_rfl) (by kernel_rfl) (fun _ _ _ h => h) (by rfl) (by intro w; go_simp) ?_
    try simp only [Act.put, List.setIfInBounds_toArray, List.set_cons_zero, List.set_cons_succ]
    refine any_take_g 8 6 (.bool true) rfl (by kernel_rfl) (by kernel_rfl) (by kernel_rfl) (fun _ _ _ h => h) (by rfl) (by intro w; go_simp) ?_
    try simp only [Act.put, List.setIfInBounds_toArray, List.set_cons_zero, List.set_cons_succ]
    refine wpAny_done (by kernel_rfl) ?_ _
    go_wp2
    go_ret
    exact ⟨rfl, B7.out⟩

set_option maxHeartbeats 2000000 in
set_option maxRecDepth 100000 in
theorem keys_short_b (hT : TakeSaid) (K b : List Int) (p q : Option Addr) (n m c d : Nat) (hn : K.length = n) (hm' : b.length = m) (i : Int) (w : World) (hkl : n ≤ 64) (hp : BAt w p K) (hq : BAt w q b) (hc : n ≤ c) (hcm : c ≤ 9223372036854775807) (hd : m ≤ d) (hdm : d ≤ 9223372036854775807) (hml : m ≤ 16384) (ht : Tab w 0) :
    Calls Tryd.prog 15 #[.slice p n c, .slice q m d, .int .i64 i] w (YesSay w) := by
  have HT := Lib.hid hT; clear hT
  have Ht := Lib.hid ht; clear ht
  have Hp := Lib.hid hp; clear hp
  have Hq := Lib.hid hq; clear hq
  have HN := Lib.hid (And.intro hn hm')
  obtain ⟨A, HA1, HA2, HA3⟩ : ∃ A : Array Value, Hid (A = ((hm K b).map (Value.int .u8)).toArray) ∧ Hid (A.size = 32) ∧ Hid (A.all (·.oneCell') = true) :=
    ⟨_, rfl, by show _ = _; simp [hm_len], all_oneCell_toArray (bytes_one _)⟩
  have HEQ : ∀ w, (Op.equalIn 10000 30 (.agg A) (.agg A)).run Tryd.prog w = .ok true w := fun w => by rw [HA1.out]; exact sum_same _ (hm_len _ _) w
  have hng := Tryd.noGuard
  clear hn hm'
  obtain ⟨i0, hi, hz0, hz1, hz2⟩ := info_parts Tryd.info_u8
  have hby := Hp.out.1
  go_enter Tryd.func15, Tryd.ntmps15
  go_upto_region 4 with (first
    | (go_at_call 19; refine (mac_of_any HT.out K b p q _ _ _ _ HN.out.1 HN.out.2 _ Hp.out Hq.out hc hcm hd hdm (by have := HN.out; omega) (by have := HN.out; omega) Ht.out).mono ?_; rintro e w1 ⟨rfl, hb1⟩; rw [← HA1.out]; have HB1 := Lib.hid hb1; clear hb1)
    | ((with_reducible refine row_store _ _ _ _ _ _ _ ?_ ?_ (heap_alloc_new _ _) (row_size Tryd.sizeSum HA2) ?_ HA3.out ?_); (exact rfl); (exact rfl); (rw [HA2.out]; rfl); intro w2 g2 ch2))
  have hs1 : w.heap.size ≤ w1.heap.size := HB1.out.size
  have BW2 : Hid (Below w.heap.size w w2) := ch2.below (HB1.out.alloc hs1 _) hs1
  have hs2 : w1.heap.size < w2.heap.size := by rw [ch2.size]; simp
  have G2 := g2
  clear g2 ch2 HB1 hs1
  generalize w1.heap.size = G1 at *
  have HPK : Hid (∀ w, Calls Tryd.prog 27 #[.int .i64 i, .int .i64 (65 - (n : Int))] w (PickSay (65 - (n : Int)) w)) := fun w => pick_any i (65 - (n : Int)) (by omega) (by omega) w
  go_wp2_with (first
    | (go_at_call 30; refine (copy_any K p _ _ HN.out.1 (by have := HN.out; omega) _ (Hp.out.old BW2.out)).mono ?_; rintro e w3 ⟨v3, rfl, ho3, hb3⟩; have HO3 := Lib.hid ho3; have HB3 := Lib.hid hb3; clear ho3 hb3)
    | (go_at_call 27; refine (HPK.out _).mono ?_; rintro e w4 ⟨r0, rfl, hr0, rfl⟩))
  go_loopw [9, 10] (fun v9 v10 wr => ∃ j : Nat, j ≤ r0 ∧ v10 = .int .i64 ((r0 : Int) - j) ∧ Hid (wr.ownsRow w2.heap.size 5 1 v9 (n + j) (U8s (K ++ List.replicate j 0))) ∧ Hid (Below w2.heap.size w2 wr)) (fun _ v10 _ => (intOf v10).toNat)
  case atStart => exact ⟨0, by omega, by simp, by have h := HO3.out; show World.ownsRow _ _ _ _ _ _ _; simpa using h, HB3.out⟩
  case round =>
    clear HO3 HB3
    obtain ⟨j, hj, rfl, HO, HB⟩ := hrel
    by_cases hlt : j < r0
    · have hpos : 0 < (r0 : Int) - j := by omega
      go_wp2_with (first
        | (at_builtin; refine wpList_append_own _ rfl _ _ 25 rfl w2.heap.size 5 i0 (.int .u8 0) 1 1 Tryd.underlying25 hi hz0 hz1 hz2 rfl (by decide) _ _ _ rfl (HO.out.alloc _) ⟨wr.heap.size, 0, none⟩ 1 1 [.int .u8 0] rfl rfl (u8_cell _ _ _) (u8_one _) (by unfold maxLen; omega) (by omega) (by have := HB.out.size; simp; omega) ?_)
        | go_in)
      intro v' w5 hown' hgrow _
      have hb1 := below_own HB.out (HB.out.size) HO.out hgrow
      rw [U8s_snoc, List.append_assoc, ← List.replicate_succ'] at hown'
      clear hgrow HO HB
      go_wp2
      exact ⟨⟨j + 1, by omega, by congr 1; omega, hown', hb1⟩, by simp [intOf]; omega⟩
    · have E : j = r0 := by omega
      subst E
      obtain ⟨p9, c9, rfl, hba, hc1, hc2⟩ := bat_own HO.out (Sha.byt_append hby (byt_rep j 0 (by omega)))
      have hle : ¬ (0 < (j : Int) - j) := by omega
      have A4 : Hid (wr.heap[G1]? = some (.cells A 30 (0, 0))) := (HB.out.block _ hs2).trans G2.out
      have B4 : Hid (Below w.heap.size w wr) := BW2.out.trans (HB.out.mono BW2.out.size)
      have HHL : Hid (hm (K ++ List.replicate j 0) b = hm K b) := hm_pad K b j (by rw [HN.out.1]; omega)
      have hK9 : (K ++ List.replicate j 0).length ≤ 64 := by rw [List.length_append, List.length_replicate, HN.out.1]; omega
      have HBA := Lib.hid hba
      clear BW2 G2 hs2 HO HB hba
      generalize K ++ List.replicate j 0 = K9 at *
      go_upto_region 12 with (fail)

      refine wp_region_any (by kernel_rfl) ?_
      change wpAny _ _ _ _ _ _ _ (World.drew _)
      replace B4 : Hid (Below w.heap.size w wr.drew) := B4.out.drew
      have A5 : Hid (wr.drew.heap[G1]? = some (.cells A 30 (0, 0))) := A4.out
      replace HBA : Hid (BAt wr.drew p9 K9) := HBA.out
      generalize wr.drew = w5 at *
      refine any_take_g 0 50 ?_ rfl (by kernel_rfl) (by kernel_rfl) (by kernel_rfl) (fun _ _ _ h => h) (by rfl) ?_ ?_
      rotate_left
      · (intro w; go_simp; try (with_reducible rfl))
      try simp only [Act.put, List.setIfInBounds_toArray, List.set_cons_zero, List.set_cons_succ]
      refine any_take_g 1 51 ?_ rfl (by kernel_rfl) (by kernel_rfl) (by kernel_rfl) (fun _ _ _ h => h) (by rfl) ?_ ?_
      rotate_left
      · (intro w; go_simp; try (with_reducible rfl))
      try simp only [Act.put, List.setIfInBounds_toArray, List.set_cons_zero, List.set_cons_succ]
      refine any_two 2 3 (by kernel_rfl) ?_ ?_
      · refine wpOp_step rfl (fun Kc hKc => ?_)
        go_simp
        refine (mac_of_any HT.out K9 b p9 q K9.length m c9 d rfl HN.out.2 _ HBA.out (Hq.out.old B4.out) hc1 hc2 hd hdm (by omega) (by have := HN.out; omega) (Ht.out.below B4.out Ht.out.lt)).mono ?_
        rintro e w6 ⟨rfl, hb6⟩
        rw [HHL.out, ← HA1.out]
        have B6 : Hid (Below w.heap.size w w6) := B4.out.trans (hb6.mono B4.out.size)
        have A6 : Hid (w6.heap[G1]? = some (.cells A 30 (0, 0))) := (hb6.block _ (lt_of_block A5.out)).trans A5.out
        clear hb6
        dsimp only
        refine hKc _ _ ?_
        clear hKc Kc
        try simp only [Act.put, List.setIfInBounds_toArray, List.set_cons_zero, List.set_cons_succ]
        refine any_one 3 (by kernel_rfl) ?_
        refine op_load 3 30 (.tmp 7) rfl G1 0 A.toList _ rfl (row_range' A6.out) Tryd.underlying30 rfl (by rw [Array.length_toList]; exact row_size Tryd.sizeSum HA2) ?_
        try simp only [Act.put, List.setIfInBounds_toArray, List.set_cons_zero, List.set_cons_succ]
        rw [Array.toArray_toList]
        refine any_take_g 4 54 (.bool true) rfl (by kernel_rfl) (by kernel_rfl) (by kernel_rfl) (fun _ _ _ h => h) (by rfl) (by intro w; go_simp) ?_
        try simp only [Act.put, List.setIfInBounds_toArray, List.set_cons_zero, List.set_cons_succ]
        refine any_take_g 5 55 (.bool true) rfl (by kernel_rfl) (by kernel_rfl) (by kernel_rfl) (fun _ _ _ h => h) (by rfl) (by intro w; go_simp) ?_
        try simp only [Act.put, List.setIfInBounds_toArray, List.set_cons_zero, List.set_cons_succ]
        refine any_one 6 (by kernel_rfl) ?_
        refine wpOp_step rfl (fun Kc hKc => ?_)
        go_simp
        refine (works_any HT.out _ (Ht.out.below B6.out Ht.out.lt)).mono ?_
        rintro e w7 ⟨rfl, hb7⟩
        have B7 : Hid (Below w.heap.size w w7) := B6.out.trans (hb7.mono B6.out.size)
        clear hb7
        dsimp only
        refine hKc _ _ ?_
        clear hKc Kc
        try simp only [Act.put, List.setIfInBounds_toArray, List.set_cons_zero, List.set_cons_succ]
        refine any_take_g 7 57 (.bool true) rfl (by kernel_rfl) (by kernel_rfl) (by kernel_rfl) (fun _ _ _ h => h) (by rfl) (by intro w; go_simp) ?_
        try simp only [Act.put, List.setIfInBounds_toArray, List.set_cons_zero, List.set_cons_succ]
        refine any_take_g 8 6 (.bool true) rfl (by kernel_rfl) (by kernel_rfl) (by kernel_rfl) (fun _ _ _ h => h) (by rfl) (by intro w; go_simp) ?_
        try simp only [Act.put, List.setIfInBounds_toArray, List.set_cons_zero, List.set_cons_succ]
        refine wpAny_done (by kernel_rfl) ?_ _
        go_wp2
        go_ret
        exact ⟨rfl, B7.out⟩
      · refine op_load 3 30 (.tmp 7) rfl G1 0 A.toList _ rfl (row_range' A5.out) Tryd.underlying30 rfl (by rw [Array.length_toList]; exact row_size Tryd.sizeSum HA2) ?_
        try simp only [Act.put, List.setIfInBounds_toArray, List.set_cons_zero, List.set_cons_succ]
        rw [Array.toArray_toList]
        refine any_one 2 (by kernel_rfl) ?_
        refine wpOp_step rfl (fun Kc hKc => ?_)
        go_simp
        refine (mac_of_any HT.out K9 b p9 q K9.length m c9 d rfl HN.out.2 _ HBA.out (Hq.out.old B4.out) hc1 hc2 hd hdm (by omega) (by have := HN.out; omega) (Ht.out.below B4.out Ht.out.lt)).mono ?_
        rintro e w6 ⟨rfl, hb6⟩
        rw [HHL.out, ← HA1.out]
        have B6 : Hid (Below w.heap.size w w6) := B4.out.trans (hb6.mono B4.out.size)
        have A6 : Hid (w6.heap[G1]? = some (.cells A 30 (0, 0))) := (hb6.block _ (lt_of_block A5.out)).trans A5.out
        clear hb6
        dsimp only
        refine hKc _ _ ?_
        clear hKc Kc
        try simp only [Act.put, List.setIfInBounds_toArray, List.set_cons_zero, List.set_cons_succ]
        refine any_take_g 4 54 (.bool true) rfl (by kernel_rfl) (by kernel_rfl) (by kernel_rfl) (fun _ _ _ h => h) (by rfl) (by intro w; go_simp) ?_
        try simp only [Act.put, List.setIfInBounds_toArray, List.set_cons_zero, List.set_cons_succ]
        refine any_take_g 5 55 (.bool true) rfl (by kernel_rfl) (by kernel_rfl) (by kernel_rfl) (fun _ _ _ h => h) (by rfl) (by intro w; go_simp) ?_
        try simp only [Act.put, List.setIfInBounds_toArray, List.set_cons_zero, List.set_cons_succ]
        refine any_one 6 (by kernel_rfl) ?_
        refine wpOp_step rfl (fun Kc hKc => ?_)
        go_simp
        refine (works_any HT.out _ (Ht.out.below B6.out Ht.out.lt)).mono ?_
        rintro e w7 ⟨rfl, hb7⟩
        have B7 : Hid (Below w.heap.size w w7) := B6.out.trans (hb7.mono B6.out.size)
        clear hb7
        dsimp only
        refine hKc _ _ ?_
        clear hKc Kc
        try simp only [Act.put, List.setIfInBounds_toArray, List.set_cons_zero, List.set_cons_succ]
        refine any_take_g 7 57 (.bool true) rfl (by kernel_rfl) (by kernel_rfl) (by kernel_rfl) (fun _ _ _ h => h) (by rfl) (by intro w; go_simp) ?_
        try simp only [Act.put, List.setIfInBounds_toArray, List.set_cons_zero, List.set_cons_succ]
        refine any_take_g 8 6 (.bool true) rfl (by kernel_rfl) (by kernel_rfl) (by kernel_rfl) (fun _ _ _ h => h) (by rfl) (by intro w; go_simp) ?_
        try simp only [Act.put, List.setIfInBounds_toArray, List.set_cons_zero, List.set_cons_succ]
        refine wpAny_done (by kernel_rfl) ?_ _
        go_wp2
        go_ret
        exact ⟨rfl, B7.out⟩

end Go.Proofs.YtjidkkehhglahaaDoor

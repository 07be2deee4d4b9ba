/-
  The law MacDerives walked.
-/
import Derived.Test.YtjidkkehhglahaaDoorMacJ
namespace Go.Proofs.YtjidkkehhglahaaDoor
open Go.RowKit

section
variable {P : Program} {md : Region.Mode} {ops : Array Oper} {Q : Exit → Act → World → Prop} {fuel : Nat} {listed : Array Bool} {a : Act} {w : World}
/-- op_load, of an operation that is guarded, and wanted. -/
theorem op_load_g {K : Act → World → Prop} (i : Nat) (ty : TypeId) (x : Operand) {D : Option Tmp} {T : TypeId} {ps : String} {af : Array Edge} {gd : Option (Nat × Bool)} (ho : ops[i]? = some { dst := D, op := .load ty x, type := T, pos := ps, after := af, guard := gd })
    (hw : Region.wanted { dst := D, op := .load ty x, type := T, pos := ps, after := af, guard := gd } (yielded ops a.tmps) = true)
    (b o : Nat) (cs : List Value) (d : TypeDesc) (hx : a.eval x = .pointer (some ⟨b, o, none⟩)) (hc : w.rangeAt b o cs)
    (hu : P.underlying ty = some d) (hd : d.isRow = true) (hi : (P.info? ty).map (·.size) = some cs.length) (h : K (a.put D (.agg cs.toArray)) w) : wpOp P ops Q i K a w := by
  unfold wpOp
  rw [ho]
  simp only [hw, if_true]
  exact Or.inl (wp_load_mid ty x rfl b o hx cs d hc hu hd hi h)
end

set_option maxHeartbeats 1000000 in
set_option maxRecDepth 100000 in
theorem derives_long (hT : TakeSaid) (p : Option Addr) (n c : Nat) (S : ByteArray) (w : World) (hn : 16384 < n ∨ 16384 < S.size) (ht : Tab w 0) :
    Calls Tryd.prog 16 #[.slice p n c, .string S] w (YesSay w) := by
  have HT := Lib.hid hT; clear hT
  have Ht := Lib.hid ht; clear ht
  by_cases h1 : 16384 < n
  · go_enter Tryd.func16, Tryd.ntmps16
    go_wp2_with (go_at_call 21; refine (works_any HT.out _ Ht.out).mono ?_; rintro e w1 ⟨rfl, hb1⟩)
    go_ret
    exact ⟨rfl, hb1⟩
  · have h2 : 16384 < S.size := by omega
    go_enter Tryd.func16, Tryd.ntmps16
    go_wp2_with (go_at_call 21; refine (works_any HT.out _ Ht.out).mono ?_; rintro e w1 ⟨rfl, hb1⟩)
    go_ret
    exact ⟨rfl, hb1⟩

set_option maxHeartbeats 4000000 in
set_option maxRecDepth 100000 in
theorem derives_short (hT : TakeSaid) (K : List Int) (S : ByteArray) (p : Option Addr) (n c : Nat) (hn : K.length = n) (hnl : n ≤ 16384) (hS : S.size ≤ 16384) (w : World) (hp : BAt w p K) (hc : n ≤ c) (hcm : c ≤ 9223372036854775807) (ht : Tab w 0) (htk : Tab w 1) :
    Calls Tryd.prog 16 #[.slice p n c, .string S] w (YesSay w) := by
  have HT := Lib.hid hT; clear hT
  have Ht := Lib.hid ht; clear ht
  have Hk := Lib.hid htk; clear htk
  have Hp := Lib.hid hp; clear hp
  subst hn
  have kc := fun w => run_bytes_of_string (P := Tryd.prog) w 9 25 5 S Tryd.underlying9 Tryd.underlying25 Tryd.underlying5
  obtain ⟨A, HA1, HA2, HA3⟩ : ∃ A : Array Value, Hid (A = ((hm K (bl S)).map (Value.int .u8)).toArray) ∧ Hid (A.size = 32) ∧ Hid (A.all (·.oneCell') = true) :=
    ⟨_, rfl, by show _ = _; simp [hm_len], all_oneCell_toArray (bytes_one _)⟩
  have HEQ : ∀ w, (Op.equalIn 10000 30 (.agg A) (.agg A)).run Tryd.prog w = .ok true w := fun w => by rw [HA1.out]; exact sum_same _ (hm_len _ _) w
  have hng := Tryd.noGuard
  go_enter Tryd.func16, Tryd.ntmps16
  go_upto_region 4 with (go_at_call 23; refine (lent_any K p _ _ Hp.out (by omega)).mono ?_; rintro e w1 ⟨gx, rfl, hgx, hhx, hb1⟩; have HHX := Lib.hid hhx; have HB1 := Lib.hid hb1; clear hhx hb1)
  have MX1 : Hid (BAt w1 (some ⟨gx, 0, none⟩) (mk5 K)) := bat_row HHX.out (mk5_byt Hp.out.1)
  have PX : Hid (BAt w1 (some ⟨gx, 0, none⟩) K) := by
    have h := MX1.out
    unfold mk5 at h
    exact h.pre
  go_upto_region 5 with (first
    | (go_at_call 20; refine (derive_any HT.out K S (some ⟨gx, 0, none⟩) _ (K.length + 5) rfl (by omega) (by omega) _ PX.out (by omega) (by omega) (Ht.out.below HB1.out Ht.out.lt)).mono ?_; rintro e w2 ⟨rfl, hb2⟩; rw [← HA1.out]; have HB2 := Lib.hid hb2; clear hb2)
    | ((with_reducible refine row_store _ _ _ _ _ _ _ ?_ ?_ (heap_alloc_new _ _) (row_size Tryd.sizeSum HA2) ?_ HA3.out ?_); (exact rfl); (exact rfl); (rw [HA2.out]; rfl); intro w3 g3 ch3))
  have hs12 : w.heap.size ≤ w1.heap.size := HB1.out.size
  have hs23 : w1.heap.size ≤ w2.heap.size := HB2.out.size
  have B13 : Hid (Below w1.heap.size w1 w3) := ch3.below (HB2.out.alloc hs23 _) hs23
  have BW3 : Hid (Below w.heap.size w w3) := HB1.out.trans (B13.out.mono hs12)
  have MX3 : Hid (BAt w3 (some ⟨gx, 0, none⟩) (mk5 K)) := MX1.out.old B13.out
  have A3 : Hid (w3.heap[w2.heap.size]? = some (.cells A 30 (0, 0))) := g3
  clear MX1 PX HHX HB1 HB2 g3 ch3 B13 hs12 hs23
  generalize w2.heap.size = G at *
  refine wp_region_any (by kernel_rfl) ?_
  change wpAny _ _ _ _ _ _ _ (World.drew _)
  replace BW3 : Hid (Below w.heap.size w w3.drew) := BW3.out.drew
  replace A3 : Hid (w3.drew.heap[G]? = some (.cells A 30 (0, 0))) := A3.out
  replace MX3 : Hid (BAt w3.drew (some ⟨gx, 0, none⟩) (mk5 K)) := MX3.out
  generalize w3.drew = w4 at *
  refine any_take_g 1 25 ?_ rfl (by kernel_rfl) (by kernel_rfl) (by kernel_rfl) (fun _ _ _ h => h) (by rfl) ?_ ?_
  rotate_left
  · (intro w; go_simp; try (with_reducible rfl))
  try simp only [Act.put, List.setIfInBounds_toArray, List.set_cons_zero, List.set_cons_succ]
  refine any_take_g 2 26 ?_ rfl (by kernel_rfl) (by kernel_rfl) (by kernel_rfl) (fun _ _ _ h => h) (by rfl) ?_ ?_
  rotate_left
  · (intro w; go_simp; try (with_reducible rfl))
  try simp only [Act.put, List.setIfInBounds_toArray, List.set_cons_zero, List.set_cons_succ]
  refine any_two 0 3 (by kernel_rfl) ?_ ?_
  · refine op_load 0 30 (.tmp 6) rfl G 0 A.toList _ rfl (row_range' (A3.out)) Tryd.underlying30 rfl (by rw [Array.length_toList]; exact row_size Tryd.sizeSum HA2) ?_
    try simp only [Act.put, List.setIfInBounds_toArray, List.set_cons_zero, List.set_cons_succ]
    rw [Array.toArray_toList]
    refine any_one 3 (by kernel_rfl) ?_
    refine wpOp_step rfl (fun Kc hKc => ?_)
    go_simp
    refine (ref2_derive_any K S p _ c rfl (by omega) (by omega) _ (Hp.out.old BW3.out) hc hcm (Hk.out.below BW3.out Hk.out.lt)).mono ?_
    rintro e w5 ⟨rfl, hb5⟩
    rw [← HA1.out]
    have BW5 : Hid (Below w.heap.size w w5) := BW3.out.trans (hb5.mono BW3.out.size)
    have A5 : Hid (w5.heap[G]? = some (.cells A 30 (0, 0))) := (hb5.block _ (lt_of_block A3.out)).trans A3.out
    have MX5 : Hid (BAt w5 (some ⟨gx, 0, none⟩) (mk5 K)) := MX3.out.old hb5
    clear hb5
    dsimp only
    refine hKc _ _ ?_
    clear hKc Kc
    try simp only [Act.put, List.setIfInBounds_toArray, List.set_cons_zero, List.set_cons_succ]
    refine any_take_g 4 28 (.bool true) rfl (by kernel_rfl) (by kernel_rfl) (by kernel_rfl) (fun _ _ _ h => h) (by rfl) (by intro w; go_simp) ?_
    try simp only [Act.put, List.setIfInBounds_toArray, List.set_cons_zero, List.set_cons_succ]
    refine any_take_g 5 29 (.bool true) rfl (by kernel_rfl) (by kernel_rfl) (by kernel_rfl) (fun _ _ _ h => h) (by rfl) (by intro w; go_simp) ?_
    try simp only [Act.put, List.setIfInBounds_toArray, List.set_cons_zero, List.set_cons_succ]
    refine any_take_g 7 31 ?_ rfl (by kernel_rfl) (by kernel_rfl) (by kernel_rfl) (fun _ _ _ h => h) (by rfl) ?_ ?_
    rotate_left
    · (intro w; go_simp; try (with_reducible rfl))
    try simp only [Act.put, List.setIfInBounds_toArray, List.set_cons_zero, List.set_cons_succ]
    refine any_take_g 8 32 ?_ rfl (by kernel_rfl) (by kernel_rfl) (by kernel_rfl) (fun _ _ _ h => h) (by rfl) ?_ ?_
    rotate_left
    · (intro w; go_simp; try (with_reducible rfl))
    try simp only [Act.put, List.setIfInBounds_toArray, List.set_cons_zero, List.set_cons_succ]
    have HBC : Hid (∀ C, Below w.heap.size w (w5.drew.alloc C)) := fun C => BW5.out.drew.alloc BW5.out.size C
    have HAC : Hid (∀ C, (w5.drew.alloc C).heap[G]? = some (.cells A 30 (0, 0))) := fun C => (heap_alloc_old w5.drew C (lt_of_block A5.out)).trans A5.out
    have HMC : Hid (∀ C, BAt (w5.drew.alloc C) (some ⟨gx, 0, none⟩) (mk5 K)) := fun C => MX5.out.old (((Below.refl _ w5).drew).alloc (Nat.le_refl _) C)
    refine any_two 6 9 (by kernel_rfl) ?_ ?_
    · refine op_load_g 6 30 (.tmp 6) rfl (by rfl) G 0 A.toList _ rfl (row_range' (A5.out)) Tryd.underlying30 rfl (by rw [Array.length_toList]; exact row_size Tryd.sizeSum HA2) ?_
      try simp only [Act.put, List.setIfInBounds_toArray, List.set_cons_zero, List.set_cons_succ]
      rw [Array.toArray_toList]
      refine any_one 9 (by kernel_rfl) ?_
      refine wpOp_step rfl (fun Kc hKc => ?_)
      go_simp
      refine hKc _ _ ?_
      clear hKc Kc
      try simp only [Act.put, List.setIfInBounds_toArray, List.set_cons_zero, List.set_cons_succ]
      refine any_one 10 (by kernel_rfl) ?_
      refine wpOp_step rfl (fun Kc hKc => ?_)
      go_simp
      refine (mac_of_any HT.out K (bl S) p (some ⟨w5.heap.size, 0, none⟩) _ _ c _ rfl (bl_len S) _ (Hp.out.old (HBC.out _)) (conv_bat w5.drew S _ _ _) hc hcm (grownCap_ge _ _ _ _) (cap_ok _ S (by omega)) (by omega) (by rw [bl_len]; omega) (Ht.out.below (HBC.out _) Ht.out.lt)).mono ?_
      rintro e w6 ⟨rfl, hb6⟩
      rw [← HA1.out]
      have BW6 : Hid (Below w.heap.size w w6) := (HBC.out _).trans (hb6.mono (HBC.out _).size)
      have A6 : Hid (w6.heap[G]? = some (.cells A 30 (0, 0))) := (hb6.block _ (lt_of_block (HAC.out _))).trans (HAC.out _)
      have MX6 : Hid (BAt w6 (some ⟨gx, 0, none⟩) (mk5 K)) := (HMC.out _).old hb6
      clear hb6
      dsimp only
      refine hKc _ _ ?_
      clear hKc Kc
      try simp only [Act.put, List.setIfInBounds_toArray, List.set_cons_zero, List.set_cons_succ]
      refine any_take_g 11 35 (.bool true) rfl (by kernel_rfl) (by kernel_rfl) (by kernel_rfl) (fun _ _ _ h => h) (by rfl) (by intro w; go_simp) ?_
      try simp only [Act.put, List.setIfInBounds_toArray, List.set_cons_zero, List.set_cons_succ]
      refine any_take_g 12 36 (.bool true) rfl (by kernel_rfl) (by kernel_rfl) (by kernel_rfl) (fun _ _ _ h => h) (by rfl) (by intro w; go_simp) ?_
      try simp only [Act.put, List.setIfInBounds_toArray, List.set_cons_zero, List.set_cons_succ]
      refine any_take_g 13 37 (.bool true) rfl (by kernel_rfl) (by kernel_rfl) (by kernel_rfl) (fun _ _ _ h => h) (by rfl) (by intro w; go_simp) ?_
      try simp only [Act.put, List.setIfInBounds_toArray, List.set_cons_zero, List.set_cons_succ]
      refine any_take_g 14 38 ?_ rfl (by kernel_rfl) (by kernel_rfl) (by kernel_rfl) (fun _ _ _ h => h) (by rfl) ?_ ?_
      rotate_left
      · (intro w; go_simp; try (with_reducible rfl))
      try simp only [Act.put, List.setIfInBounds_toArray, List.set_cons_zero, List.set_cons_succ]
      refine any_take_g 15 39 ?_ rfl (by kernel_rfl) (by kernel_rfl) (by kernel_rfl) (fun _ _ _ h => h) (by rfl) ?_ ?_
      rotate_left
      · (intro w; go_simp; try (with_reducible rfl))
      try simp only [Act.put, List.setIfInBounds_toArray, List.set_cons_zero, List.set_cons_succ]
      refine any_one 16 (by kernel_rfl) ?_
      refine wpOp_step rfl (fun Kc hKc => ?_)
      go_simp
      refine (kept_any K gx p (K.length + 5) c _ MX6.out (Hp.out.old BW6.out) (by omega) (by omega)).mono ?_
      rintro e w8 ⟨rfl, hb8⟩
      have BW8 : Hid (Below w.heap.size w w8) := BW6.out.trans (hb8.mono BW6.out.size)
      clear hb8
      dsimp only
      refine hKc _ _ ?_
      clear hKc Kc
      try simp only [Act.put, List.setIfInBounds_toArray, List.set_cons_zero, List.set_cons_succ]
      refine any_take_g 17 41 (.bool true) rfl (by kernel_rfl) (by kernel_rfl) (by kernel_rfl) (fun _ _ _ h => h) (by rfl) (by intro w; go_simp) ?_
      try simp only [Act.put, List.setIfInBounds_toArray, List.set_cons_zero, List.set_cons_succ]
      refine any_take_g 18 42 (.bool true) rfl (by kernel_rfl) (by kernel_rfl) (by kernel_rfl) (fun _ _ _ h => h) (by rfl) (by intro w; go_simp) ?_
      try simp only [Act.put, List.setIfInBounds_toArray, List.set_cons_zero, List.set_cons_succ]
      refine any_one 19 (by kernel_rfl) ?_
      refine wpOp_step rfl (fun Kc hKc => ?_)
      go_simp
      refine (works_any HT.out _ (Ht.out.below BW8.out Ht.out.lt)).mono ?_
      rintro e w9 ⟨rfl, hb9⟩
      have BW9 : Hid (Below w.heap.size w w9) := BW8.out.trans (hb9.mono BW8.out.size)
      clear hb9
      dsimp only
      refine hKc _ _ ?_
      clear hKc Kc
      try simp only [Act.put, List.setIfInBounds_toArray, List.set_cons_zero, List.set_cons_succ]
      refine any_take_g 20 44 (.bool true) rfl (by kernel_rfl) (by kernel_rfl) (by kernel_rfl) (fun _ _ _ h => h) (by rfl) (by intro w; go_simp) ?_
      try simp only [Act.put, List.setIfInBounds_toArray, List.set_cons_zero, List.set_cons_succ]
      refine any_take_g 21 4 (.bool true) rfl (by kernel_rfl) (by kernel_rfl) (by kernel_rfl) (fun _ _ _ h => h) (by rfl) (by intro w; go_simp) ?_
      try simp only [Act.put, List.setIfInBounds_toArray, List.set_cons_zero, List.set_cons_succ]
      refine wpAny_done (by kernel_rfl) ?_ _
      go_wp2
      go_ret
      exact ⟨rfl, BW9.out⟩
    · refine wpOp_step rfl (fun Kc hKc => ?_)
      go_simp
      refine hKc _ _ ?_
      clear hKc Kc
      try simp only [Act.put, List.setIfInBounds_toArray, List.set_cons_zero, List.set_cons_succ]
      refine any_two 6 10 (by kernel_rfl) ?_ ?_
      · refine op_load_g 6 30 (.tmp 6) rfl (by rfl) G 0 A.toList _ rfl (row_range' (HAC.out _)) Tryd.underlying30 rfl (by rw [Array.length_toList]; exact row_size Tryd.sizeSum HA2) ?_
        try simp only [Act.put, List.setIfInBounds_toArray, List.set_cons_zero, List.set_cons_succ]
        rw [Array.toArray_toList]
        refine any_one 10 (by kernel_rfl) ?_
        refine wpOp_step rfl (fun Kc hKc => ?_)
        go_simp
        refine (mac_of_any HT.out K (bl S) p (some ⟨w5.heap.size, 0, none⟩) _ _ c _ rfl (bl_len S) _ (Hp.out.old (HBC.out _)) (conv_bat w5.drew S _ _ _) hc hcm (grownCap_ge _ _ _ _) (cap_ok _ S (by omega)) (by omega) (by rw [bl_len]; omega) (Ht.out.below (HBC.out _) Ht.out.lt)).mono ?_
        rintro e w6 ⟨rfl, hb6⟩
        rw [← HA1.out]
        have BW6 : Hid (Below w.heap.size w w6) := (HBC.out _).trans (hb6.mono (HBC.out _).size)
        have A6 : Hid (w6.heap[G]? = some (.cells A 30 (0, 0))) := (hb6.block _ (lt_of_block (HAC.out _))).trans (HAC.out _)
        have MX6 : Hid (BAt w6 (some ⟨gx, 0, none⟩) (mk5 K)) := (HMC.out _).old hb6
        clear hb6
        dsimp only
        refine hKc _ _ ?_
        clear hKc Kc
        try simp only [Act.put, List.setIfInBounds_toArray, List.set_cons_zero, List.set_cons_succ]
        refine any_take_g 11 35 (.bool true) rfl (by kernel_rfl) (by kernel_rfl) (by kernel_rfl) (fun _ _ _ h => h) (by rfl) (by intro w; go_simp) ?_
        try simp only [Act.put, List.setIfInBounds_toArray, List.set_cons_zero, List.set_cons_succ]
        refine any_take_g 12 36 (.bool true) rfl (by kernel_rfl) (by kernel_rfl) (by kernel_rfl) (fun _ _ _ h => h) (by rfl) (by intro w; go_simp) ?_
        try simp only [Act.put, List.setIfInBounds_toArray, List.set_cons_zero, List.set_cons_succ]
        refine any_take_g 13 37 (.bool true) rfl (by kernel_rfl) (by kernel_rfl) (by kernel_rfl) (fun _ _ _ h => h) (by rfl) (by intro w; go_simp) ?_
        try simp only [Act.put, List.setIfInBounds_toArray, List.set_cons_zero, List.set_cons_succ]
        refine any_take_g 14 38 ?_ rfl (by kernel_rfl) (by kernel_rfl) (by kernel_rfl) (fun _ _ _ h => h) (by rfl) ?_ ?_
        rotate_left
        · (intro w; go_simp; try (with_reducible rfl))
        try simp only [Act.put, List.setIfInBounds_toArray, List.set_cons_zero, List.set_cons_succ]
        refine any_take_g 15 39 ?_ rfl (by kernel_rfl) (by kernel_rfl) (by kernel_rfl) (fun _ _ _ h => h) (by rfl) ?_ ?_
        rotate_left
        · (intro w; go_simp; try (with_reducible rfl))
        try simp only [Act.put, List.setIfInBounds_toArray, List.set_cons_zero, List.set_cons_succ]
        refine any_one 16 (by kernel_rfl) ?_
        refine wpOp_step rfl (fun Kc hKc => ?_)
        go_simp
        refine (kept_any K gx p (K.length + 5) c _ MX6.out (Hp.out.old BW6.out) (by omega) (by omega)).mono ?_
        rintro e w8 ⟨rfl, hb8⟩
        have BW8 : Hid (Below w.heap.size w w8) := BW6.out.trans (hb8.mono BW6.out.size)
        clear hb8
        dsimp only
        refine hKc _ _ ?_
        clear hKc Kc
        try simp only [Act.put, List.setIfInBounds_toArray, List.set_cons_zero, List.set_cons_succ]
        refine any_take_g 17 41 (.bool true) rfl (by kernel_rfl) (by kernel_rfl) (by kernel_rfl) (fun _ _ _ h => h) (by rfl) (by intro w; go_simp) ?_
        try simp only [Act.put, List.setIfInBounds_toArray, List.set_cons_zero, List.set_cons_succ]
        refine any_take_g 18 42 (.bool true) rfl (by kernel_rfl) (by kernel_rfl) (by kernel_rfl) (fun _ _ _ h => h) (by rfl) (by intro w; go_simp) ?_
        try simp only [Act.put, List.setIfInBounds_toArray, List.set_cons_zero, List.set_cons_succ]
        refine any_one 19 (by kernel_rfl) ?_
        refine wpOp_step rfl (fun Kc hKc => ?_)
        go_simp
        refine (works_any HT.out _ (Ht.out.below BW8.out Ht.out.lt)).mono ?_
        rintro e w9 ⟨rfl, hb9⟩
        have BW9 : Hid (Below w.heap.size w w9) := BW8.out.trans (hb9.mono BW8.out.size)
        clear hb9
        dsimp only
        refine hKc _ _ ?_
        clear hKc Kc
        try simp only [Act.put, List.setIfInBounds_toArray, List.set_cons_zero, List.set_cons_succ]
        refine any_take_g 20 44 (.bool true) rfl (by kernel_rfl) (by kernel_rfl) (by kernel_rfl) (fun _ _ _ h => h) (by rfl) (by intro w; go_simp) ?_
        try simp only [Act.put, List.setIfInBounds_toArray, List.set_cons_zero, List.set_cons_succ]
        refine any_take_g 21 4 (.bool true) rfl (by kernel_rfl) (by kernel_rfl) (by kernel_rfl) (fun _ _ _ h => h) (by rfl) (by intro w; go_simp) ?_
        try simp only [Act.put, List.setIfInBounds_toArray, List.set_cons_zero, List.set_cons_succ]
        refine wpAny_done (by kernel_rfl) ?_ _
        go_wp2
        go_ret
        exact ⟨rfl, BW9.out⟩
      · refine wpOp_step rfl (fun Kc hKc => ?_)
        go_simp
        refine (mac_of_any HT.out K (bl S) p (some ⟨w5.heap.size, 0, none⟩) _ _ c _ rfl (bl_len S) _ (Hp.out.old (HBC.out _)) (conv_bat w5.drew S _ _ _) hc hcm (grownCap_ge _ _ _ _) (cap_ok _ S (by omega)) (by omega) (by rw [bl_len]; omega) (Ht.out.below (HBC.out _) Ht.out.lt)).mono ?_
        rintro e w6 ⟨rfl, hb6⟩
        rw [← HA1.out]
        have BW6 : Hid (Below w.heap.size w w6) := (HBC.out _).trans (hb6.mono (HBC.out _).size)
        have A6 : Hid (w6.heap[G]? = some (.cells A 30 (0, 0))) := (hb6.block _ (lt_of_block (HAC.out _))).trans (HAC.out _)
        have MX6 : Hid (BAt w6 (some ⟨gx, 0, none⟩) (mk5 K)) := (HMC.out _).old hb6
        clear hb6
        dsimp only
        refine hKc _ _ ?_
        clear hKc Kc
        try simp only [Act.put, List.setIfInBounds_toArray, List.set_cons_zero, List.set_cons_succ]
        refine any_one 6 (by kernel_rfl) ?_
        refine op_load_g 6 30 (.tmp 6) rfl (by rfl) G 0 A.toList _ rfl (row_range' (A6.out)) Tryd.underlying30 rfl (by rw [Array.length_toList]; exact row_size Tryd.sizeSum HA2) ?_
        try simp only [Act.put, List.setIfInBounds_toArray, List.set_cons_zero, List.set_cons_succ]
        rw [Array.toArray_toList]
        refine any_take_g 11 35 (.bool true) rfl (by kernel_rfl) (by kernel_rfl) (by kernel_rfl) (fun _ _ _ h => h) (by rfl) (by intro w; go_simp) ?_
        try simp only [Act.put, List.setIfInBounds_toArray, List.set_cons_zero, List.set_cons_succ]
        refine any_take_g 12 36 (.bool true) rfl (by kernel_rfl) (by kernel_rfl) (by kernel_rfl) (fun _ _ _ h => h) (by rfl) (by intro w; go_simp) ?_
        try simp only [Act.put, List.setIfInBounds_toArray, List.set_cons_zero, List.set_cons_succ]
        refine any_take_g 13 37 (.bool true) rfl (by kernel_rfl) (by kernel_rfl) (by kernel_rfl) (fun _ _ _ h => h) (by rfl) (by intro w; go_simp) ?_
        try simp only [Act.put, List.setIfInBounds_toArray, List.set_cons_zero, List.set_cons_succ]
        refine any_take_g 14 38 ?_ rfl (by kernel_rfl) (by kernel_rfl) (by kernel_rfl) (fun _ _ _ h => h) (by rfl) ?_ ?_
        rotate_left
        · (intro w; go_simp; try (with_reducible rfl))
        try simp only [Act.put, List.setIfInBounds_toArray, List.set_cons_zero, List.set_cons_succ]
        refine any_take_g 15 39 ?_ rfl (by kernel_rfl) (by kernel_rfl) (by kernel_rfl) (fun _ _ _ h => h) (by rfl) ?_ ?_
        rotate_left
        · (intro w; go_simp; try (with_reducible rfl))
        try simp only [Act.put, List.setIfInBounds_toArray, List.set_cons_zero, List.set_cons_succ]
        refine any_one 16 (by kernel_rfl) ?_
        refine wpOp_step rfl (fun Kc hKc => ?_)
        go_simp
        refine (kept_any K gx p (K.length + 5) c _ MX6.out (Hp.out.old BW6.out) (by omega) (by omega)).mono ?_
        rintro e w8 ⟨rfl, hb8⟩
        have BW8 : Hid (Below w.heap.size w w8) := BW6.out.trans (hb8.mono BW6.out.size)
        clear hb8
        dsimp only
        refine hKc _ _ ?_
        clear hKc Kc
        try simp only [Act.put, List.setIfInBounds_toArray, List.set_cons_zero, List.set_cons_succ]
        refine any_take_g 17 41 (.bool true) rfl (by kernel_rfl) (by kernel_rfl) (by kernel_rfl) (fun _ _ _ h => h) (by rfl) (by intro w; go_simp) ?_
        try simp only [Act.put, List.setIfInBounds_toArray, List.set_cons_zero, List.set_cons_succ]
        refine any_take_g 18 42 (.bool true) rfl (by kernel_rfl) (by kernel_rfl) (by kernel_rfl) (fun _ _ _ h => h) (by rfl) (by intro w; go_simp) ?_
        try simp only [Act.put, List.setIfInBounds_toArray, List.set_cons_zero, List.set_cons_succ]
        refine any_one 19 (by kernel_rfl) ?_
        refine wpOp_step rfl (fun Kc hKc => ?_)
        go_simp
        refine (works_any HT.out _ (Ht.out.below BW8.out Ht.out.lt)).mono ?_
        rintro e w9 ⟨rfl, hb9⟩
        have BW9 : Hid (Below w.heap.size w w9) := BW8.out.trans (hb9.mono BW8.out.size)
        clear hb9
        dsimp only
        refine hKc _ _ ?_
        clear hKc Kc
        try simp only [Act.put, List.setIfInBounds_toArray, List.set_cons_zero, List.set_cons_succ]
        refine any_take_g 20 44 (.bool true) rfl (by kernel_rfl) (by kernel_rfl) (by kernel_rfl) (fun _ _ _ h => h) (by rfl) (by intro w; go_simp) ?_
        try simp only [Act.put, List.setIfInBounds_toArray, List.set_cons_zero, List.set_cons_succ]
        refine any_take_g 21 4 (.bool true) rfl (by kernel_rfl) (by kernel_rfl) (by kernel_rfl) (fun _ _ _ h => h) (by rfl) (by intro w; go_simp) ?_
        try simp only [Act.put, List.setIfInBounds_toArray, List.set_cons_zero, List.set_cons_succ]
        refine wpAny_done (by kernel_rfl) ?_ _
        go_wp2
        go_ret
        exact ⟨rfl, BW9.out⟩
  · refine wpOp_step rfl (fun Kc hKc => ?_)
    go_simp
    refine (ref2_derive_any K S p _ c rfl (by omega) (by omega) _ (Hp.out.old BW3.out) hc hcm (Hk.out.below BW3.out Hk.out.lt)).mono ?_
    rintro e w5 ⟨rfl, hb5⟩
    rw [← HA1.out]
    have BW5 : Hid (Below w.heap.size w w5) := BW3.out.trans (hb5.mono BW3.out.size)
    have A5 : Hid (w5.heap[G]? = some (.cells A 30 (0, 0))) := (hb5.block _ (lt_of_block A3.out)).trans A3.out
    have MX5 : Hid (BAt w5 (some ⟨gx, 0, none⟩) (mk5 K)) := MX3.out.old hb5
    clear hb5
    dsimp only
    refine hKc _ _ ?_
    clear hKc Kc
    try simp only [Act.put, List.setIfInBounds_toArray, List.set_cons_zero, List.set_cons_succ]
    refine any_one 0 (by kernel_rfl) ?_
    refine op_load 0 30 (.tmp 6) rfl G 0 A.toList _ rfl (row_range' (A5.out)) Tryd.underlying30 rfl (by rw [Array.length_toList]; exact row_size Tryd.sizeSum HA2) ?_
    try simp only [Act.put, List.setIfInBounds_toArray, List.set_cons_zero, List.set_cons_succ]
    rw [Array.toArray_toList]
    refine any_take_g 4 28 (.bool true) rfl (by kernel_rfl) (by kernel_rfl) (by kernel_rfl) (fun _ _ _ h => h) (by rfl) (by intro w; go_simp) ?_
    try simp only [Act.put, List.setIfInBounds_toArray, List.set_cons_zero, List.set_cons_succ]
    refine any_take_g 5 29 (.bool true) rfl (by kernel_rfl) (by kernel_rfl) (by kernel_rfl) (fun _ _ _ h => h) (by rfl) (by intro w; go_simp) ?_
    try simp only [Act.put, List.setIfInBounds_toArray, List.set_cons_zero, List.set_cons_succ]
    refine any_take_g 7 31 ?_ rfl (by kernel_rfl) (by kernel_rfl) (by kernel_rfl) (fun _ _ _ h => h) (by rfl) ?_ ?_
    rotate_left
    · (intro w; go_simp; try (with_reducible rfl))
    try simp only [Act.put, List.setIfInBounds_toArray, List.set_cons_zero, List.set_cons_succ]
    refine any_take_g 8 32 ?_ rfl (by kernel_rfl) (by kernel_rfl) (by kernel_rfl) (fun _ _ _ h => h) (by rfl) ?_ ?_
    rotate_left
    · (intro w; go_simp; try (with_reducible rfl))
    try simp only [Act.put, List.setIfInBounds_toArray, List.set_cons_zero, List.set_cons_succ]
    have HBC : Hid (∀ C, Below w.heap.size w (w5.drew.alloc C)) := fun C => BW5.out.drew.alloc BW5.out.size C
    have HAC : Hid (∀ C, (w5.drew.alloc C).heap[G]? = some (.cells A 30 (0, 0))) := fun C => (heap_alloc_old w5.drew C (lt_of_block A5.out)).trans A5.out
    have HMC : Hid (∀ C, BAt (w5.drew.alloc C) (some ⟨gx, 0, none⟩) (mk5 K)) := fun C => MX5.out.old (((Below.refl _ w5).drew).alloc (Nat.le_refl _) C)
    refine any_two 6 9 (by kernel_rfl) ?_ ?_
    · refine op_load_g 6 30 (.tmp 6) rfl (by rfl) G 0 A.toList _ rfl (row_range' (A5.out)) Tryd.underlying30 rfl (by rw [Array.length_toList]; exact row_size Tryd.sizeSum HA2) ?_
      try simp only [Act.put, List.setIfInBounds_toArray, List.set_cons_zero, List.set_cons_succ]
      rw [Array.toArray_toList]
      refine any_one 9 (by kernel_rfl) ?_
      refine wpOp_step rfl (fun Kc hKc => ?_)
      go_simp
      refine hKc _ _ ?_
      clear hKc Kc
      try simp only [Act.put, List.setIfInBounds_toArray, List.set_cons_zero, List.set_cons_succ]
      refine any_one 10 (by kernel_rfl) ?_
      refine wpOp_step rfl (fun Kc hKc => ?_)
      go_simp
      refine (mac_of_any HT.out K (bl S) p (some ⟨w5.heap.size, 0, none⟩) _ _ c _ rfl (bl_len S) _ (Hp.out.old (HBC.out _)) (conv_bat w5.drew S _ _ _) hc hcm (grownCap_ge _ _ _ _) (cap_ok _ S (by omega)) (by omega) (by rw [bl_len]; omega) (Ht.out.below (HBC.out _) Ht.out.lt)).mono ?_
      rintro e w6 ⟨rfl, hb6⟩
      rw [← HA1.out]
      have BW6 : Hid (Below w.heap.size w w6) := (HBC.out _).trans (hb6.mono (HBC.out _).size)
      have A6 : Hid (w6.heap[G]? = some (.cells A 30 (0, 0))) := (hb6.block _ (lt_of_block (HAC.out _))).trans (HAC.out _)
      have MX6 : Hid (BAt w6 (some ⟨gx, 0, none⟩) (mk5 K)) := (HMC.out _).old hb6
      clear hb6
      dsimp only
      refine hKc _ _ ?_
      clear hKc Kc
      try simp only [Act.put, List.setIfInBounds_toArray, List.set_cons_zero, List.set_cons_succ]
      refine any_take_g 11 35 (.bool true) rfl (by kernel_rfl) (by kernel_rfl) (by kernel_rfl) (fun _ _ _ h => h) (by rfl) (by intro w; go_simp) ?_
      try simp only [Act.put, List.setIfInBounds_toArray, List.set_cons_zero, List.set_cons_succ]
      refine any_take_g 12 36 (.bool true) rfl (by kernel_rfl) (by kernel_rfl) (by kernel_rfl) (fun _ _ _ h => h) (by rfl) (by intro w; go_simp) ?_
      try simp only [Act.put, List.setIfInBounds_toArray, List.set_cons_zero, List.set_cons_succ]
      refine any_take_g 13 37 (.bool true) rfl (by kernel_rfl) (by kernel_rfl) (by kernel_rfl) (fun _ _ _ h => h) (by rfl) (by intro w; go_simp) ?_
      try simp only [Act.put, List.setIfInBounds_toArray, List.set_cons_zero, List.set_cons_succ]
      refine any_take_g 14 38 ?_ rfl (by kernel_rfl) (by kernel_rfl) (by kernel_rfl) (fun _ _ _ h => h) (by rfl) ?_ ?_
      rotate_left
      · (intro w; go_simp; try (with_reducible rfl))
      try simp only [Act.put, List.setIfInBounds_toArray, List.set_cons_zero, List.set_cons_succ]
      refine any_take_g 15 39 ?_ rfl (by kernel_rfl) (by kernel_rfl) (by kernel_rfl) (fun _ _ _ h => h) (by rfl) ?_ ?_
      rotate_left
      · (intro w; go_simp; try (with_reducible rfl))
      try simp only [Act.put, List.setIfInBounds_toArray, List.set_cons_zero, List.set_cons_succ]
      refine any_one 16 (by kernel_rfl) ?_
      refine wpOp_step rfl (fun Kc hKc => ?_)
      go_simp
      refine (kept_any K gx p (K.length + 5) c _ MX6.out (Hp.out.old BW6.out) (by omega) (by omega)).mono ?_
      rintro e w8 ⟨rfl, hb8⟩
      have BW8 : Hid (Below w.heap.size w w8) := BW6.out.trans (hb8.mono BW6.out.size)
      clear hb8
      dsimp only
      refine hKc _ _ ?_
      clear hKc Kc
      try simp only [Act.put, List.setIfInBounds_toArray, List.set_cons_zero, List.set_cons_succ]
      refine any_take_g 17 41 (.bool true) rfl (by kernel_rfl) (by kernel_rfl) (by kernel_rfl) (fun _ _ _ h => h) (by rfl) (by intro w; go_simp) ?_
      try simp only [Act.put, List.setIfInBounds_toArray, List.set_cons_zero, List.set_cons_succ]
      refine any_take_g 18 42 (.bool true) rfl (by kernel_rfl) (by kernel_rfl) (by kernel_rfl) (fun _ _ _ h => h) (by rfl) (by intro w; go_simp) ?_
      try simp only [Act.put, List.setIfInBounds_toArray, List.set_cons_zero, List.set_cons_succ]
      refine any_one 19 (by kernel_rfl) ?_
      refine wpOp_step rfl (fun Kc hKc => ?_)
      go_simp
      refine (works_any HT.out _ (Ht.out.below BW8.out Ht.out.lt)).mono ?_
      rintro e w9 ⟨rfl, hb9⟩
      have BW9 : Hid (Below w.heap.size w w9) := BW8.out.trans (hb9.mono BW8.out.size)
      clear hb9
      dsimp only
      refine hKc _ _ ?_
      clear hKc Kc
      try simp only [Act.put, List.setIfInBounds_toArray, List.set_cons_zero, List.set_cons_succ]
      refine any_take_g 20 44 (.bool true) rfl (by kernel_rfl) (by kernel_rfl) (by kernel_rfl) (fun _ _ _ h => h) (by rfl) (by intro w; go_simp) ?_
      try simp only [Act.put, List.setIfInBounds_toArray, List.set_cons_zero, List.set_cons_succ]
      refine any_take_g 21 4 (.bool true) rfl (by kernel_rfl) (by kernel_rfl) (by kernel_rfl) (fun _ _ _ h => h) (by rfl) (by intro w; go_simp) ?_
      try simp only [Act.put, List.setIfInBounds_toArray, List.set_cons_zero, List.set_cons_succ]
      refine wpAny_done (by kernel_rfl) ?_ _
      go_wp2
      go_ret
      exact ⟨rfl, BW9.out⟩
    · refine wpOp_step rfl (fun Kc hKc => ?_)
      go_simp
      refine hKc _ _ ?_
      clear hKc Kc
      try simp only [Act.put, List.setIfInBounds_toArray, List.set_cons_zero, List.set_cons_succ]
      refine any_two 6 10 (by kernel_rfl) ?_ ?_
      · refine op_load_g 6 30 (.tmp 6) rfl (by rfl) G 0 A.toList _ rfl (row_range' (HAC.out _)) Tryd.underlying30 rfl (by rw [Array.length_toList]; exact row_size Tryd.sizeSum HA2) ?_
        try simp only [Act.put, List.setIfInBounds_toArray, List.set_cons_zero, List.set_cons_succ]
        rw [Array.toArray_toList]
        refine any_one 10 (by kernel_rfl) ?_
        refine wpOp_step rfl (fun Kc hKc => ?_)
        go_simp
        refine (mac_of_any HT.out K (bl S) p (some ⟨w5.heap.size, 0, none⟩) _ _ c _ rfl (bl_len S) _ (Hp.out.old (HBC.out _)) (conv_bat w5.drew S _ _ _) hc hcm (grownCap_ge _ _ _ _) (cap_ok _ S (by omega)) (by omega) (by rw [bl_len]; omega) (Ht.out.below (HBC.out _) Ht.out.lt)).mono ?_
        rintro e w6 ⟨rfl, hb6⟩
        rw [← HA1.out]
        have BW6 : Hid (Below w.heap.size w w6) := (HBC.out _).trans (hb6.mono (HBC.out _).size)
        have A6 : Hid (w6.heap[G]? = some (.cells A 30 (0, 0))) := (hb6.block _ (lt_of_block (HAC.out _))).trans (HAC.out _)
        have MX6 : Hid (BAt w6 (some ⟨gx, 0, none⟩) (mk5 K)) := (HMC.out _).old hb6
        clear hb6
        dsimp only
        refine hKc _ _ ?_
        clear hKc Kc
        try simp only [Act.put, List.setIfInBounds_toArray, List.set_cons_zero, List.set_cons_succ]
        refine any_take_g 11 35 (.bool true) rfl (by kernel_rfl) (by kernel_rfl) (by kernel_rfl) (fun _ _ _ h => h) (by rfl) (by intro w; go_simp) ?_
        try simp only [Act.put, List.setIfInBounds_toArray, List.set_cons_zero, List.set_cons_succ]
        refine any_take_g 12 36 (.bool true) rfl (by kernel_rfl) (by kernel_rfl) (by kernel_rfl) (fun _ _ _ h => h) (by rfl) (by intro w; go_simp) ?_
        try simp only [Act.put, List.setIfInBounds_toArray, List.set_cons_zero, List.set_cons_succ]
        refine any_take_g 13 37 (.bool true) rfl (by kernel_rfl) (by kernel_rfl) (by kernel_rfl) (fun _ _ _ h => h) (by rfl) (by intro w; go_simp) ?_
        try simp only [Act.put, List.setIfInBounds_toArray, List.set_cons_zero, List.set_cons_succ]
        refine any_take_g 14 38 ?_ rfl (by kernel_rfl) (by kernel_rfl) (by kernel_rfl) (fun _ _ _ h => h) (by rfl) ?_ ?_
        rotate_left
        · (intro w; go_simp; try (with_reducible rfl))
        try simp only [Act.put, List.setIfInBounds_toArray, List.set_cons_zero, List.set_cons_succ]
        refine any_take_g 15 39 ?_ rfl (by kernel_rfl) (by kernel_rfl) (by kernel_rfl) (fun _ _ _ h => h) (by rfl) ?_ ?_
        rotate_left
        · (intro w; go_simp; try (with_reducible rfl))
        try simp only [Act.put, List.setIfInBounds_toArray, List.set_cons_zero, List.set_cons_succ]
        refine any_one 16 (by kernel_rfl) ?_
        refine wpOp_step rfl (fun Kc hKc => ?_)
        go_simp
        refine (kept_any K gx p (K.length + 5) c _ MX6.out (Hp.out.old BW6.out) (by omega) (by omega)).mono ?_
        rintro e w8 ⟨rfl, hb8⟩
        have BW8 : Hid (Below w.heap.size w w8) := BW6.out.trans (hb8.mono BW6.out.size)
        clear hb8
        dsimp only
        refine hKc _ _ ?_
        clear hKc Kc
        try simp only [Act.put, List.setIfInBounds_toArray, List.set_cons_zero, List.set_cons_succ]
        refine any_take_g 17 41 (.bool true) rfl (by kernel_rfl) (by kernel_rfl) (by kernel_rfl) (fun _ _ _ h => h) (by rfl) (by intro w; go_simp) ?_
        try simp only [Act.put, List.setIfInBounds_toArray, List.set_cons_zero, List.set_cons_succ]
        refine any_take_g 18 42 (.bool true) rfl (by kernel_rfl) (by kernel_rfl) (by kernel_rfl) (fun _ _ _ h => h) (by rfl) (by intro w; go_simp) ?_
        try simp only [Act.put, List.setIfInBounds_toArray, List.set_cons_zero, List.set_cons_succ]
        refine any_one 19 (by kernel_rfl) ?_
        refine wpOp_step rfl (fun Kc hKc => ?_)
        go_simp
        refine (works_any HT.out _ (Ht.out.below BW8.out Ht.out.lt)).mono ?_
        rintro e w9 ⟨rfl, hb9⟩
        have BW9 : Hid (Below w.heap.size w w9) := BW8.out.trans (hb9.mono BW8.out.size)
        clear hb9
        dsimp only
        refine hKc _ _ ?_
        clear hKc Kc
        try simp only [Act.put, List.setIfInBounds_toArray, List.set_cons_zero, List.set_cons_succ]
        refine any_take_g 20 44 (.bool true) rfl (by kernel_rfl) (by kernel_rfl) (by kernel_rfl) (fun _ _ _ h => h) (by rfl) (by intro w; go_simp) ?_
        try simp only [Act.put, List.setIfInBounds_toArray, List.set_cons_zero, List.set_cons_succ]
        refine any_take_g 21 4 (.bool true) rfl (by kernel_rfl) (by kernel_rfl) (by kernel_rfl) (fun _ _ _ h => h) (by rfl) (by intro w; go_simp) ?_
        try simp only [Act.put, List.setIfInBounds_toArray, List.set_cons_zero, List.set_cons_succ]
        refine wpAny_done (by kernel_rfl) ?_ _
        go_wp2
        go_ret
        exact ⟨rfl, BW9.out⟩
      · refine wpOp_step rfl (fun Kc hKc => ?_)
        go_simp
        refine (mac_of_any HT.out K (bl S) p (some ⟨w5.heap.size, 0, none⟩) _ _ c _ rfl (bl_len S) _ (Hp.out.old (HBC.out _)) (conv_bat w5.drew S _ _ _) hc hcm (grownCap_ge _ _ _ _) (cap_ok _ S (by omega)) (by omega) (by rw [bl_len]; omega) (Ht.out.below (HBC.out _) Ht.out.lt)).mono ?_
        rintro e w6 ⟨rfl, hb6⟩
        rw [← HA1.out]
        have BW6 : Hid (Below w.heap.size w w6) := (HBC.out _).trans (hb6.mono (HBC.out _).size)
        have A6 : Hid (w6.heap[G]? = some (.cells A 30 (0, 0))) := (hb6.block _ (lt_of_block (HAC.out _))).trans (HAC.out _)
        have MX6 : Hid (BAt w6 (some ⟨gx, 0, none⟩) (mk5 K)) := (HMC.out _).old hb6
        clear hb6
        dsimp only
        refine hKc _ _ ?_
        clear hKc Kc
        try simp only [Act.put, List.setIfInBounds_toArray, List.set_cons_zero, List.set_cons_succ]
        refine any_one 6 (by kernel_rfl) ?_
        refine op_load_g 6 30 (.tmp 6) rfl (by rfl) G 0 A.toList _ rfl (row_range' (A6.out)) Tryd.underlying30 rfl (by rw [Array.length_toList]; exact row_size Tryd.sizeSum HA2) ?_
        try simp only [Act.put, List.setIfInBounds_toArray, List.set_cons_zero, List.set_cons_succ]
        rw [Array.toArray_toList]
        refine any_take_g 11 35 (.bool true) rfl (by kernel_rfl) (by kernel_rfl) (by kernel_rfl) (fun _ _ _ h => h) (by rfl) (by intro w; go_simp) ?_
        try simp only [Act.put, List.setIfInBounds_toArray, List.set_cons_zero, List.set_cons_succ]
        refine any_take_g 12 36 (.bool true) rfl (by kernel_rfl) (by kernel_rfl) (by kernel_rfl) (fun _ _ _ h => h) (by rfl) (by intro w; go_simp) ?_
        try simp only [Act.put, List.setIfInBounds_toArray, List.set_cons_zero, List.set_cons_succ]
        refine any_take_g 13 37 (.bool true) rfl (by kernel_rfl) (by kernel_rfl) (by kernel_rfl) (fun _ _ _ h => h) (by rfl) (by intro w; go_simp) ?_
        try simp only [Act.put, List.setIfInBounds_toArray, List.set_cons_zero, List.set_cons_succ]
        refine any_take_g 14 38 ?_ rfl (by kernel_rfl) (by kernel_rfl) (by kernel_rfl) (fun _ _ _ h => h) (by rfl) ?_ ?_
        rotate_left
        · (intro w; go_simp; try (with_reducible rfl))
        try simp only [Act.put, List.setIfInBounds_toArray, List.set_cons_zero, List.set_cons_succ]
        refine any_take_g 15 39 ?_ rfl (by kernel_rfl) (by kernel_rfl) (by kernel_rfl) (fun _ _ _ h => h) (by rfl) ?_ ?_
        rotate_left
        · (intro w; go_simp; try (with_reducible rfl))
        try simp only [Act.put, List.setIfInBounds_toArray, List.set_cons_zero, List.set_cons_succ]
        refine any_one 16 (by kernel_rfl) ?_
        refine wpOp_step rfl (fun Kc hKc => ?_)
        go_simp
        refine (kept_any K gx p (K.length + 5) c _ MX6.out (Hp.out.old BW6.out) (by omega) (by omega)).mono ?_
        rintro e w8 ⟨rfl, hb8⟩
        have BW8 : Hid (Below w.heap.size w w8) := BW6.out.trans (hb8.mono BW6.out.size)
        clear hb8
        dsimp only
        refine hKc _ _ ?_
        clear hKc Kc
        try simp only [Act.put, List.setIfInBounds_toArray, List.set_cons_zero, List.set_cons_succ]
        refine any_take_g 17 41 (.bool true) rfl (by kernel_rfl) (by kernel_rfl) (by kernel_rfl) (fun _ _ _ h => h) (by rfl) (by intro w; go_simp) ?_
        try simp only [Act.put, List.setIfInBounds_toArray, List.set_cons_zero, List.set_cons_succ]
        refine any_take_g 18 42 (.bool true) rfl (by kernel_rfl) (by kernel_rfl) (by kernel_rfl) (fun _ _ _ h => h) (by rfl) (by intro w; go_simp) ?_
        try simp only [Act.put, List.setIfInBounds_toArray, List.set_cons_zero, List.set_cons_succ]
        refine any_one 19 (by kernel_rfl) ?_
        refine wpOp_step rfl (fun Kc hKc => ?_)
        go_simp
        refine (works_any HT.out _ (Ht.out.below BW8.out Ht.out.lt)).mono ?_
        rintro e w9 ⟨rfl, hb9⟩
        have BW9 : Hid (Below w.heap.size w w9) := BW8.out.trans (hb9.mono BW8.out.size)
        clear hb9
        dsimp only
        refine hKc _ _ ?_
        clear hKc Kc
        try simp only [Act.put, List.setIfInBounds_toArray, List.set_cons_zero, List.set_cons_succ]
        refine any_take_g 20 44 (.bool true) rfl (by kernel_rfl) (by kernel_rfl) (by kernel_rfl) (fun _ _ _ h => h) (by rfl) (by intro w; go_simp) ?_
        try simp only [Act.put, List.setIfInBounds_toArray, List.set_cons_zero, List.set_cons_succ]
        refine any_take_g 21 4 (.bool true) rfl (by kernel_rfl) (by kernel_rfl) (by kernel_rfl) (fun _ _ _ h => h) (by rfl) (by intro w; go_simp) ?_
        try simp only [Act.put, List.setIfInBounds_toArray, List.set_cons_zero, List.set_cons_succ]
        refine wpAny_done (by kernel_rfl) ?_ _
        go_wp2
        go_ret
        exact ⟨rfl, BW9.out⟩

end Go.Proofs.YtjidkkehhglahaaDoor

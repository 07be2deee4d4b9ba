/-
  The reference's Tag.
-/
import Derived.Test.YtkhaiiiioieglaaDoorSeT
namespace Go.Proofs.YtkhaiiiioieglaaDoor
open Go.RowKit

theorem rbox_key {B : Nat} {w : World} {g : Nat} {K : List Int} (h : RBox B w g K) : ∃ q cq, w.cell? ⟨g, 1, none⟩ = some (.slice (some ⟨q, 0, none⟩) 32 cq) ∧ Bs w (some ⟨q, 0, none⟩) cq (Seal.k2 K) := by
  obtain ⟨d, q, cq, h0, h1, h2, h3, h4, h5, h6⟩ := h
  refine ⟨q, cq, by rw [cell_of_row w g 1 _ _ _ h4]; rfl, bs_row ⟨Seal.k2_byt K, fun _ => ⟨q, 0, rfl, fun j hj => ?_⟩⟩ ⟨by rw [Seal.k2_len]; exact h2, h3⟩⟩
  rw [Nat.zero_add]
  exact h5 j (by rw [Seal.k2_len] at hj; exact hj)

theorem rbox_lt {B : Nat} {w : World} {g : Nat} {K : List Int} (h : RBox B w g K) : g < w.heap.size := by
  obtain ⟨d, q, cq, h0, h1, h2, h3, h4, h5, h6⟩ := h
  exact lt_of_block h4
theorem own_base {w : World} {B B' n s : Nat} {e : TypeId} {v : Value} {xs : List Value} (h : w.ownsRow B' e s v n xs) (hb : B ≤ B') : w.ownsRow B e s v n xs := by
  refine ⟨h.1, ?_⟩
  rcases h.2 with h1 | ⟨g, cap, cur, h1, h2, h3⟩
  · exact Or.inl h1
  · exact Or.inr ⟨g, cap, cur, h1, Nat.le_trans hb h2, h3⟩

set_option maxHeartbeats 4000000 in
set_option maxRecDepth 100000 in
theorem reftag_any (K h t : List Int) (B g : Nat) (e n : Int) (he : 0 ≤ e ∧ e ≤ 9223372036854775807) (hn : 0 ≤ n ∧ n ≤ 9223372036854775807) (ph pt : Option Addr) (nh nt ch ct : Nat) (hnh : h.length = nh) (hnt : t.length = nt)
    (w : World) (hg : RBox B w g K) (hh : Bs w ph ch h) (htt : Bs w pt ct t) (hl : nh + nt ≤ 90000) (htb : Tab w 0) :
    Calls Tryd.prog 31 #[.pointer (some ⟨g, 0, none⟩), .int .i64 e, .int .i64 n, .slice ph nh ch, .slice pt nt ct] w (RowSay (Seal.tg K e n h t) w) := by
  have Ht := Lib.hid htb; clear htb
  have Hg := Lib.hid hg; clear hg
  have Hh := Lib.hid hh; clear hh
  have Htt := Lib.hid htt; clear htt
  have Hnh := Lib.hid (And.intro hnh hnt); clear hnh hnt
  have Hl := Lib.hid hl; clear hl
  have He := Lib.hid he; clear he
  have Hn := Lib.hid hn; clear hn
  have HT0 : Hid (∀ x, Calls Tryd.prog 46 #[.int .i64 (nh : Nat)] x (EightSay (nh : Nat) x)) := fun x => eight_any _ ⟨by omega, by have := Hl.out; omega⟩ x
  have HT1 : Hid (∀ x, Calls Tryd.prog 46 #[.int .i64 e] x (EightSay e x)) := fun x => eight_any _ He.out x
  have HT2 : Hid (∀ x, Calls Tryd.prog 46 #[.int .i64 n] x (EightSay n x)) := fun x => eight_any _ Hn.out x
  obtain ⟨R, HR⟩ : ∃ R, Hid (R = Seal.tin h e n t) := ⟨_, rfl⟩
  have HRB : Hid (Sha.Byt R) := by show Sha.Byt R; rw [HR.out]; exact Seal.tin_byt Hh.out.byt Htt.out.byt
  obtain ⟨N, HN⟩ : ∃ N, Hid (R.length = N) := ⟨_, rfl⟩
  have hN1 : N ≤ 100000 := by
    have h1 := HN.out
    rw [HR.out, Seal.tin_len] at h1
    have := Hl.out
    have := Hnh.out
    omega
  obtain ⟨A, HA1, HA2, HA3⟩ : ∃ A : Array Value, Hid (A = ((hm (Seal.k2 K) R).map (Value.int .u8)).toArray) ∧ Hid (A.size = 32) ∧ Hid (A.all (·.oneCell') = true) :=
    ⟨_, rfl, by show _ = _; simp [hm_len], all_oneCell_toArray (bytes_one _)⟩
  have HRR : Hid (((Seal.be8 (nh : Nat) ++ h ++ Seal.be8 e) ++ Seal.be8 n) ++ t = R) := by show _ = _; rw [HR.out, ← Hnh.out.1]; unfold Seal.tin; simp only [List.append_assoc]
  have B0 : Hid (Below w.heap.size w (w.alloc (.cells (List.replicate 32 (Value.int .u8 0)).toArray 37))) := (Below.refl _ w).alloc (Nat.le_refl _) _
  have R0 : Hid ((w.alloc (.cells (List.replicate 32 (Value.int .u8 0)).toArray 37)).heap[w.heap.size]? = some (.cells (List.replicate 32 (Value.int .u8 0)).toArray 37 (0, 0))) := heap_alloc_new w _
  have HS0 : Hid (w.heap.size < (w.alloc (.cells (List.replicate 32 (Value.int .u8 0)).toArray 37)).heap.size) := lt_of_block R0.out
  rw [show RowSay (Seal.tg K e n h t) w = RowSay (hm (Seal.k2 K) R) w by unfold Seal.tg; rw [HR.out]]
  have hnh9 : nh ≤ 90000 := by have := Hl.out; omega
  go_enter Tryd.func31, Tryd.ntmps31
  go_upto_region 3 with (first
    | (go_at_call 46; refine (HT0.out _).mono ?_; rintro e1 w1 ⟨g1, c1, rfl, O1', hb1⟩; have B1 : Hid (Below w.heap.size w w1) := B0.out.trans (hb1.mono B0.out.size); have R1 := Lib.hid ((hb1.block _ (lt_of_block R0.out)).trans R0.out); have HS1 : Hid (w.heap.size + 1 ≤ w1.heap.size) := Nat.le_trans HS0.out hb1.size; have O1 := Lib.hid (own_base O1'.out HS0.out); clear hb1 HT0 O1')
    | (at_builtin; refine append_bts _ _ h (w.heap.size + 1) _ _ _ ph nh ch rfl rfl Hnh.out.1 (Hh.out.old B1.out) O1.out (by omega) HS1.out ?_; intro v2 w2 ho2 hg2; have O2 := Lib.hid ho2; have B2 : Hid (Below w.heap.size w w2) := B1.out.grown hg2 B1.out.size (fun q hq => by have := (O1.out.lt q hq).1; omega); have R2 := Lib.hid ((hg2.block _ (lt_of_block R1.out) (fun e => by have := (O1.out.lt _ e.symm).1; omega)).trans R1.out); have HS2 : Hid (w.heap.size + 1 ≤ w2.heap.size) := Nat.le_trans HS1.out hg2.size; clear ho2 hg2 O1)
    | (go_at_call 46; refine (HT1.out _).mono ?_; rintro e3 w3 ⟨g3, c3, rfl, O3, hb3⟩; have B3 : Hid (Below w.heap.size w w3) := B2.out.trans (hb3.mono B2.out.size); have R3 := Lib.hid ((hb3.block _ (lt_of_block R2.out)).trans R2.out); have O23 := Lib.hid (own_keepX O2.out hb3); have X3 := Lib.hid (bs_own O3.out (Seal.be8_byt e)); have HS3 : Hid (w.heap.size + 1 ≤ w3.heap.size) := Nat.le_trans HS2.out hb3.size; clear hb3 HT1 O3 O2)
    | (at_builtin; refine append_bts _ _ (Seal.be8 e) (w.heap.size + 1) _ _ _ _ 8 c3 rfl rfl (Seal.be8_len e) X3.out O23.out (by omega) HS3.out ?_; intro v4 w4 ho4 hg4; have O4 := Lib.hid ho4; have B4 : Hid (Below w.heap.size w w4) := B3.out.grown hg4 B3.out.size (fun q hq => by have := (O23.out.lt q hq).1; omega); have R4 := Lib.hid ((hg4.block _ (lt_of_block R3.out) (fun e => by have := (O23.out.lt _ e.symm).1; omega)).trans R3.out); have HS4 : Hid (w.heap.size + 1 ≤ w4.heap.size) := Nat.le_trans HS3.out hg4.size; clear ho4 hg4 O23 X3)
    | (go_at_call 46; refine (HT2.out _).mono ?_; rintro e5 w5 ⟨g5, c5, rfl, O5, hb5⟩; have B5 : Hid (Below w.heap.size w w5) := B4.out.trans (hb5.mono B4.out.size); have R5 := Lib.hid ((hb5.block _ (lt_of_block R4.out)).trans R4.out); have O45 := Lib.hid (own_keepX O4.out hb5); have X5 := Lib.hid (bs_own O5.out (Seal.be8_byt n)); have HS5 : Hid (w.heap.size + 1 ≤ w5.heap.size) := Nat.le_trans HS4.out hb5.size; clear hb5 HT2 O5 O4)
    | (at_builtin; refine append_bts _ _ (Seal.be8 n) (w.heap.size + 1) _ _ _ _ 8 c5 rfl rfl (Seal.be8_len n) X5.out O45.out (by omega) HS5.out ?_; intro v6 w6 ho6 hg6; have O6 := Lib.hid ho6; have B6 : Hid (Below w.heap.size w w6) := B5.out.grown hg6 B5.out.size (fun q hq => by have := (O45.out.lt q hq).1; omega); have R6 := Lib.hid ((hg6.block _ (lt_of_block R5.out) (fun e => by have := (O45.out.lt _ e.symm).1; omega)).trans R5.out); have HS6 : Hid (w.heap.size + 1 ≤ w6.heap.size) := Nat.le_trans HS5.out hg6.size; clear ho6 hg6 O45 X5))
  clear R0 R1 R2 R3 R4 R5 B0 B1 B2 B3 B4 B5 HS0 HS1 HS2 HS3 HS4 HS5
  refine wp_region_any (by kernel_rfl) ?_
  change wpAny _ _ _ _ _ _ _ (World.drew _)
  replace B6 : Hid (Below w.heap.size w w6.drew) := B6.out.drew
  replace R6 : Hid (w6.drew.heap[w.heap.size]? = some (.cells (List.replicate 32 (Value.int .u8 0)).toArray 37 (0, 0))) := R6.out
  replace O6 := Lib.hid (own_keepX O6.out (Below.refl _ w6).drew)
  replace HS6 : Hid (w.heap.size + 1 ≤ w6.drew.heap.size) := HS6.out
  generalize w6.drew = z at *
  obtain ⟨q, cq, hq1, hq2⟩ := rbox_key (Hg.out.keep B6.out)
  have HQ := Lib.hid hq2; clear hq2
  refine any_take_g 0 24 (.pointer (some ⟨g, 0, none⟩)) rfl (by kernel_rfl) (by kernel_rfl) (by kernel_rfl) (fun _ _ _ h => h) (by rfl) (by intro w; go_simp) ?_
  try simp only [Act.put, List.setIfInBounds_toArray, List.set_cons_zero, List.set_cons_succ]
  refine any_take_g 1 25 (.pointer (some ⟨g, 0, none⟩)) rfl (by kernel_rfl) (by kernel_rfl) (by kernel_rfl) (fun _ _ _ h => h) (by rfl) (by intro w; go_simp) ?_
  try simp only [Act.put, List.setIfInBounds_toArray, List.set_cons_zero, List.set_cons_succ]
  refine any_take_g 2 26 (.pointer (some ⟨g, 1, none⟩)) rfl (by kernel_rfl) (by kernel_rfl) (by kernel_rfl) (fun _ _ _ h => h) (by rfl) (by intro w; go_simp) ?_
  try simp only [Act.put, List.setIfInBounds_toArray, List.set_cons_zero, List.set_cons_succ]
  refine any_take_g 4 28 v6 rfl (by kernel_rfl) (by kernel_rfl) (by kernel_rfl) (fun _ _ _ h => h) (by rfl) (by intro w; go_simp) ?_
  try simp only [Act.put, List.setIfInBounds_toArray, List.set_cons_zero, List.set_cons_succ]
  refine any_take_g 5 29 (.slice pt nt ct) rfl (by kernel_rfl) (by kernel_rfl) (by kernel_rfl) (fun _ _ _ h => h) (by rfl) (by intro w; go_simp) ?_
  try simp only [Act.put, List.setIfInBounds_toArray, List.set_cons_zero, List.set_cons_succ]
  have HQ' : Hid (∀ x, z.grownBy x v6.ownBlock → Bs x (some ⟨q, 0, none⟩) cq (Seal.k2 K) ∧ x.cell? ⟨g, 1, none⟩ = some (.slice (some ⟨q, 0, none⟩) 32 cq)) := fun x hx => by
    have hlt := rbox_lt Hg.out
    have hbx : Below w.heap.size w x := B6.out.grown hx B6.out.size (fun q hq => by have := (O6.out.lt q hq).1; omega)
    obtain ⟨q', cq', hc1, hc2⟩ := rbox_key (Hg.out.keep hbx)
    have hcc := hx.cell hq1 (fun e => by have h8 : w.heap.size + 1 ≤ g := (O6.out.lt g e.symm).1; have h9 : g < w.heap.size := hlt; omega)
    rw [hc1] at hcc
    cases hcc
    exact ⟨hc2, hc1⟩
  refine any_two 3 6 (by kernel_rfl) ?_ ?_
  · refine wpOp_step rfl (fun Kc hKc => ?_)
    have hq9 := hq1
    go_simp
    refine hKc _ _ ?_
    clear hKc Kc
    try simp only [Act.put, List.setIfInBounds_toArray, List.set_cons_zero, List.set_cons_succ]
    refine any_one 6 (by kernel_rfl) ?_
    refine op_append_bts 6 (.tmp 28) (.tmp 29) t (w.heap.size + 1) v6 _ _ pt nt ct rfl rfl rfl Hnh.out.2 (Htt.out.old B6.out) O6.out (by have := Hl.out; omega) HS6.out ?_
    intro v7 w7 ho7 hg7
    rw [HRR.out] at ho7
    have B7 : Hid (Below w.heap.size w w7) := B6.out.grown hg7 B6.out.size (fun q hq => by have := (O6.out.lt q hq).1; omega)
    have R7 := Lib.hid ((hg7.block _ (lt_of_block R6.out) (fun e => by have := (O6.out.lt _ e.symm).1; omega)).trans R6.out)
    obtain ⟨p7, c7, rfl, X7', _⟩ := own_bs ho7 HRB.out
    have X7 := Lib.hid X7'
    rw [HN.out]
    have HQ7 := Lib.hid (HQ'.out w7 hg7)
    clear ho7 hg7 X7'
    try simp only [Act.put, List.setIfInBounds_toArray, List.set_cons_zero, List.set_cons_succ]
    refine any_one 7 (by kernel_rfl) ?_
    refine wpOp_step rfl (fun Kc hKc => ?_)
    go_simp
    refine (ref2_of_any (Seal.k2 K) R (some ⟨q, 0, none⟩) p7 32 N cq c7 (Seal.k2_len K) HN.out (by omega) (by omega) _ HQ7.out.1.bat X7.out.bat (Ht.out.below B7.out Ht.out.lt)).mono ?_
    rintro e8 w8 ⟨rfl, hb8⟩
    rw [← HA1.out]
    have B8 : Hid (Below w.heap.size w w8) := B7.out.trans (hb8.mono B7.out.size)
    have R8 := Lib.hid ((hb8.block _ (lt_of_block R7.out)).trans R7.out)
    clear hb8
    dsimp only
    refine hKc _ _ ?_
    clear hKc Kc
    try simp only [Act.put, List.setIfInBounds_toArray, List.set_cons_zero, List.set_cons_succ]
    refine any_one 8 (by kernel_rfl) ?_
    refine op_store 8 37 (.tmp 10) (.tmp 31) rfl w.heap.size 0 37 (List.replicate 32 (Value.int .u8 0)) A rfl rfl R8.out (row_size Tryd.sizeSum HA2) (by rw [HA2.out]; simp) HA3.out ?_
    intro w9 g9 ch9
    try simp only [Act.put, List.setIfInBounds_toArray, List.set_cons_zero, List.set_cons_succ]
    refine wpAny_done (by kernel_rfl) ?_ _
    have G9 : Hid (w9.heap[w.heap.size]? = some (.cells A 37 (0, 0))) := by
      have h := g9.out
      have e : splice (List.replicate 32 (Value.int .u8 0)) 0 A.toList = A.toList := by
        unfold splice
        rw [List.take_zero, List.nil_append, Array.length_toList, HA2.out, List.drop_of_length_le (by simp), List.append_nil]
      rw [e, Array.toArray_toList] at h
      exact h
    clear g9
    go_wp2
    refine bodyPost_ret (results_cell_row rfl _ _ w.heap.size 37 A (0, 0) _ rfl G9.out Tryd.underlying37 rfl (row_size Tryd.sizeSum HA2)) rfl ⟨?_, ch9.below B8.out (Nat.le_refl _)⟩
    rw [HA1.out]
  · refine op_append_bts 6 (.tmp 28) (.tmp 29) t (w.heap.size + 1) v6 _ _ pt nt ct rfl rfl rfl Hnh.out.2 (Htt.out.old B6.out) O6.out (by have := Hl.out; omega) HS6.out ?_
    intro v7 w7 ho7 hg7
    rw [HRR.out] at ho7
    have B7 : Hid (Below w.heap.size w w7) := B6.out.grown hg7 B6.out.size (fun q hq => by have := (O6.out.lt q hq).1; omega)
    have R7 := Lib.hid ((hg7.block _ (lt_of_block R6.out) (fun e => by have := (O6.out.lt _ e.symm).1; omega)).trans R6.out)
    obtain ⟨p7, c7, rfl, X7', _⟩ := own_bs ho7 HRB.out
    have X7 := Lib.hid X7'
    rw [HN.out]
    have HQ7 := Lib.hid (HQ'.out w7 hg7)
    clear ho7 hg7 X7'
    try simp only [Act.put, List.setIfInBounds_toArray, List.set_cons_zero, List.set_cons_succ]
    refine any_one 3 (by kernel_rfl) ?_
    refine wpOp_step rfl (fun Kc hKc => ?_)
    have hq9 := HQ7.out.2
    go_simp
    refine hKc _ _ ?_
    clear hKc Kc
    try simp only [Act.put, List.setIfInBounds_toArray, List.set_cons_zero, List.set_cons_succ]
    refine any_one 7 (by kernel_rfl) ?_
    refine wpOp_step rfl (fun Kc hKc => ?_)
    go_simp
    refine (ref2_of_any (Seal.k2 K) R (some ⟨q, 0, none⟩) p7 32 N cq c7 (Seal.k2_len K) HN.out (by omega) (by omega) _ HQ7.out.1.bat X7.out.bat (Ht.out.below B7.out Ht.out.lt)).mono ?_
    rintro e8 w8 ⟨rfl, hb8⟩
    rw [← HA1.out]
    have B8 : Hid (Below w.heap.size w w8) := B7.out.trans (hb8.mono B7.out.size)
    have R8 := Lib.hid ((hb8.block _ (lt_of_block R7.out)).trans R7.out)
    clear hb8
    dsimp only
    refine hKc _ _ ?_
    clear hKc Kc
    try simp only [Act.put, List.setIfInBounds_toArray, List.set_cons_zero, List.set_cons_succ]
    refine any_one 8 (by kernel_rfl) ?_
    refine op_store 8 37 (.tmp 10) (.tmp 31) rfl w.heap.size 0 37 (List.replicate 32 (Value.int .u8 0)) A rfl rfl R8.out (row_size Tryd.sizeSum HA2) (by rw [HA2.out]; simp) HA3.out ?_
    intro w9 g9 ch9
    try simp only [Act.put, List.setIfInBounds_toArray, List.set_cons_zero, List.set_cons_succ]
    refine wpAny_done (by kernel_rfl) ?_ _
    have G9 : Hid (w9.heap[w.heap.size]? = some (.cells A 37 (0, 0))) := by
      have h := g9.out
      have e : splice (List.replicate 32 (Value.int .u8 0)) 0 A.toList = A.toList := by
        unfold splice
        rw [List.take_zero, List.nil_append, Array.length_toList, HA2.out, List.drop_of_length_le (by simp), List.append_nil]
      rw [e, Array.toArray_toList] at h
      exact h
    clear g9
    go_wp2
    refine bodyPost_ret (results_cell_row rfl _ _ w.heap.size 37 A (0, 0) _ rfl G9.out Tryd.underlying37 rfl (row_size Tryd.sizeSum HA2)) rfl ⟨?_, ch9.below B8.out (Nat.le_refl _)⟩
    rw [HA1.out]
end Go.Proofs.YtkhaiiiioieglaaDoor

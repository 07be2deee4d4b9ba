/-
  Contract: rilllaw04.works.
-/
import Derived.Test.YtkajigfdfbgphaaCtrF
import Derived.Deep.RegionLawGrows
namespace Go.Proofs.Ytkajigfdfbgphaa
open Go.RowKit

theorem xor0 (y : Int) (h : 0 ≤ y ∧ y ≤ 255) : bits .xor .u8 0 y = y := by
  have e := Aes.xor_u8 0 y.toNat (by omega) (by omega)
  rw [Nat.zero_xor, Int.toNat_of_nonneg h.1] at e
  exact e
theorem x20 (S : Nat → List Int) (hl : ∀ i, (S i).length = 16) (hb : ∀ i, Sha.Byt (S i)) : Ctr.xs S (List.replicate 20 0) = S 0 ++ (S 1).take 4 := by
  apply Ctr.ext_getD
  · rw [Ctr.xs_len, List.length_append, List.length_take, hl, hl]; rfl
  · intro j hj
    rw [Ctr.xs_len, List.length_replicate] at hj
    have hz : (List.replicate 20 (0 : Int)).getD j 0 = 0 := by
      rw [List.getD_eq_getElem?_getD, List.getElem?_replicate]
      split <;> rfl
    rw [Ctr.xs_get _ _ _ (by rw [List.length_replicate]; exact hj), hz, xor0 _ (Sha.byt_getD (hb _) _), List.getD_eq_getElem?_getD, List.getD_eq_getElem?_getD]
    by_cases h : j < 16
    · rw [List.getElem?_append_left (by rw [hl]; exact h), show j / 16 = 0 by omega, show j % 16 = j by omega]
    · rw [List.getElem?_append_right (by rw [hl]; omega), hl, List.getElem?_take, if_pos (by omega), show j / 16 = 1 by omega, show j % 16 = j - 16 by omega]
/-- append onto a full row that came in, as an operation of a region by hand. -/
theorem op_append_full {ops : Array Oper} {a : Act} {w : World} {K : Act → World → Prop} {Q : Exit → Act → World → Prop} {D : Tmp} {T : TypeId} {ps : String} {af : Array Edge} (i : Nat) (s x : Operand) (l ys : List Int) (g n cap b m c : Nat)
    (ho : ops[i]? = some { dst := some D, op := Op.call { callee := Callee.builtin Builtin.append, args := #[s, x], argTypes := #[22, 22] }, type := T, pos := ps, after := af, guard := none }) (hs : a.eval s = .slice (some ⟨g, 0, none⟩) n cap)
    (hx : a.eval x = .slice (some ⟨b, 0, none⟩) m c) (hl : l.length = n) (hm : ys.length = m) (hcl : ∀ j, j < n → w.cell? ⟨g, j, none⟩ = some (.int .u8 (l.getD j 0))) (hc : ∀ j, j < m → w.cell? ⟨b, j, none⟩ = some (.int .u8 (ys.getD j 0))) (hfull : cap < n + m) (hn : n + m ≤ 1000000000000)
    (hK : ∀ v' w', w'.ownsRow w.heap.size 5 1 v' (n + m) (U8s (l ++ ys)) → w.grownBy w' none → K (a.put (some D) v') w') :
    wpOp Try.prog ops Q i K a w := by
  obtain ⟨i0, hi, hz0, hz1, hz2⟩ := info_parts Try.info_u8
  have cells : ∀ (q : List Int) (k : Nat) (bl : Nat), q.length = k → (∀ j, j < k → w.cell? ⟨bl, j, none⟩ = some (.int .u8 (q.getD j 0))) → ∀ j u, (q.map (Value.int .u8))[j]? = some u → w.cell? ((⟨bl, 0, none⟩ : Addr).add j) = some u := fun q k bl hq hh j u hj => by
    have hjl : j < q.length := by have := (List.getElem?_eq_some_iff.1 hj).1; simpa using this
    rw [Addr.add_mid, Nat.zero_add, hh j (by omega)]
    rw [List.getElem?_map, List.getElem?_eq_getElem hjl] at hj
    rw [List.getD_eq_getElem?_getD, List.getElem?_eq_getElem hjl]
    simpa using hj
  obtain ⟨v', w', hrun, r1, r2⟩ := run_append_arg_grows (P := Try.prog) w 22 T 5 i0 (.int .u8 0) 1 1 Try.underlying22 hi hz0 hz1 hz2 rfl (by decide) ⟨g, 0, none⟩ n cap (l.map (Value.int .u8)) (by simp [hl]) (cells l n g hl hcl) ⟨b, 0, none⟩ m c (ys.map (Value.int .u8)) (by simp [hm]) (cells ys m b hm hc) hfull (by unfold maxLen; omega) (by omega)
  refine op_plain i _ ho rfl ?_
  unfold Oper.wp
  simp [execOp, resolve, invoke, builtin, hs, hx, hrun, Result.andThen]
  refine hK v' w' ?_ r2
  have e : U8s (l ++ ys) = l.map (Value.int .u8) ++ ys.map (Value.int .u8) := by unfold U8s; simp
  rw [e]
  exact r1

set_option maxHeartbeats 4000000 in
set_option maxRecDepth 100000 in
theorem works_any (w : World) : Calls Try.prog 17 #[] w (YesSay w) := by
  obtain ⟨S, HS⟩ : ∃ S, Hid (S = Ctr.sblk kw0 9 1 2) := ⟨_, rfl⟩
  have HSL : Hid (∀ i, (S i).length = 16) := fun i => by rw [HS.out]; exact sblk_len _ _ _ _ _
  have HSB : Hid (∀ i, Sha.Byt (S i)) := fun i => by rw [HS.out]; exact sblk_byt _ _ _ _ _
  have HX : Hid (∀ c g x, Ciph x c Aes.TB kw0 → BAt x (some ⟨g, 0, none⟩) (List.replicate 20 0) → Calls Try.prog 18 #[.pointer (some ⟨c, 0, none⟩), .int .i64 1, .int .i64 2, .slice (some ⟨g, 0, none⟩) 20 20] x fun r x' => ∃ q cq, r = .returned (.slice q 20 cq) ∧ Hid (BAt x' q (S 0 ++ (S 1).take 4)) ∧ Hid (Below x.heap.size x x')) := fun c g x hc hb => by
    refine (xor_got c kw0 9 1 2 (List.replicate 20 0) (some ⟨g, 0, none⟩) 20 (by simp) (fun e => by cases e) kw0_len (by omega) x hb hc).mono ?_
    rintro r x' ⟨q, cq, rfl, hg⟩
    refine ⟨q, cq, rfl, ?_, hg.out.below⟩
    have h := hg.out.bat
    have e1 : (1 : Int) % 18446744073709551616 = 1 := by decide
    have e2 : (2 : Int) % 18446744073709551616 = 2 := by decide
    rw [e1, e2, ← HS.out, x20 S HSL.out HSB.out] at h
    exact h
  have HB : Hid (∀ c x, Ciph x c Aes.TB kw0 → Calls Try.prog 15 #[.pointer (some ⟨c, 0, none⟩), .agg #[.int .u8 0, .int .u8 0, .int .u8 0, .int .u8 0, .int .u8 0, .int .u8 1, .int .u8 0, .int .u8 0, .int .u8 0, .int .u8 0, .int .u8 0, .int .u8 2, .int .u8 0, .int .u8 0, .int .u8 0, .int .u8 0]] x fun r x' => r = .returned (.agg ((S 0).map (Value.int .u8)).toArray) ∧ Hid (Below x.heap.size x x')) := fun c x hc => by
    have h := block_any kw0 (Ctr.cb 1 2 0) 9 c x hc kw0_len (by omega) (Ctr.cb_len _ _ _) (Ctr.cb_byt _ _ _)
    unfold Bk at h
    rw [HS.out]
    exact h.mono fun r x' hh => ⟨hh.1, hh.2⟩
  have HB1 : Hid (∀ c x, Ciph x c Aes.TB kw0 → Calls Try.prog 15 #[.pointer (some ⟨c, 0, none⟩), .agg #[.int .u8 0, .int .u8 0, .int .u8 0, .int .u8 0, .int .u8 0, .int .u8 1, .int .u8 0, .int .u8 0, .int .u8 0, .int .u8 0, .int .u8 0, .int .u8 2, .int .u8 0, .int .u8 0, .int .u8 0, .int .u8 1]] x fun r x' => r = .returned (.agg ((S 1).map (Value.int .u8)).toArray) ∧ Hid (Below x.heap.size x x')) := fun c x hc => by
    have h := block_any kw0 (Ctr.cb 1 2 1) 9 c x hc kw0_len (by omega) (Ctr.cb_len _ _ _) (Ctr.cb_byt _ _ _)
    unfold Bk at h
    rw [HS.out]
    exact h.mono fun r x' hh => ⟨hh.1, hh.2⟩
  obtain ⟨Y0, HY0, HY0s, HY01⟩ : ∃ Y : Array Value, Hid (Y = ((S 0).map (Value.int .u8)).toArray) ∧ Hid (Y.size = 16) ∧ Hid (Y.all (·.oneCell') = true) := ⟨_, rfl, by show _ = _; simp [HSL.out], u8_all _⟩
  obtain ⟨Y1, HY1, HY1s, HY11⟩ : ∃ Y : Array Value, Hid (Y = ((S 1).map (Value.int .u8)).toArray) ∧ Hid (Y.size = 16) ∧ Hid (Y.all (·.oneCell') = true) := ⟨_, rfl, by show _ = _; simp [HSL.out], u8_all _⟩
  rw [← HY0.out] at HB
  rw [← HY1.out] at HB1
  go_enter Try.func17, Try.ntmps17
  go_upto_region 5 with (first
    | (go_at_call 36; refine (some_any _).mono ?_; rintro e w1 ⟨c, rfl, HC1, hb1⟩; have HQ1 := Lib.hid hb1; clear hb1)
    | ((with_reducible refine make_at _ 5 _ _ (.int .u8 0) 1 20 20 ?_ ?_ ?_ ?_ rfl ?_ ?_ ?_ ?_); (exact rfl); (exact rfl); (exact Try.underlying22); (exact Try.info_u8); omega; omega; omega; intro w2 G2 hb2 hs2; have HQ2 : Hid (Below w.heap.size w w2) := HQ1.out.trans (hb2.mono HQ1.out.size); have HC2 : Hid (Ciph w2 c Aes.TB kw0) := HC1.out.below hb2 (Nat.le_refl _); have HZ2 : Hid (BAt w2 (some ⟨w1.heap.size, 0, none⟩) (List.replicate 20 0)) := bat_row (by rw [List.map_replicate]; exact G2.out) (byt_rep 20 0 (by omega)); clear hb2 hs2 G2)
    | (go_at_call 18; refine (HX.out c _ _ HC2.out HZ2.out).mono ?_; rintro e w3 ⟨q, cq, rfl, HX3, hb3⟩; have HQ3 : Hid (Below w.heap.size w w3) := HQ2.out.trans (hb3.out.mono HQ2.out.size); have HC3 : Hid (Ciph w3 c Aes.TB kw0) := HC2.out.below hb3.out (Nat.le_refl _); clear hb3))
  clear HX HC1 HQ1 HQ2 HC2 HZ2
  go_upto_region 6 with (first
    | (go_at_call 37; refine (blk4_any _ _ _ _).mono ?_; rintro e w4 ⟨rfl, hb4⟩; have HQ4 : Hid (Below w.heap.size w w4) := HQ3.out.trans (hb4.mono HQ3.out.size); have HC4 : Hid (Ciph w4 c Aes.TB kw0) := HC3.out.below hb4 (Nat.le_refl _); have HX4 : Hid (BAt w4 q (S 0 ++ (S 1).take 4)) := HX3.out.old hb4; clear hb4)
    | (go_at_call 15; refine (HB.out c _ HC4.out).mono ?_; rintro e w5 ⟨rfl, hb5⟩; have HQ5 : Hid (Below w.heap.size w w5) := HQ4.out.trans (hb5.out.mono HQ4.out.size); have HC5 : Hid (Ciph w5 c Aes.TB kw0) := HC4.out.below hb5.out (Nat.le_refl _); have HX5 : Hid (BAt w5 q (S 0 ++ (S 1).take 4)) := HX4.out.old hb5.out; have HZ5 : Hid ((w5.alloc (.cells #[.int .u8 0, .int .u8 0, .int .u8 0, .int .u8 0, .int .u8 0, .int .u8 0, .int .u8 0, .int .u8 0, .int .u8 0, .int .u8 0, .int .u8 0, .int .u8 0, .int .u8 0, .int .u8 0, .int .u8 0, .int .u8 0] 35)).heap[w5.heap.size]? = some (.cells #[.int .u8 0, .int .u8 0, .int .u8 0, .int .u8 0, .int .u8 0, .int .u8 0, .int .u8 0, .int .u8 0, .int .u8 0, .int .u8 0, .int .u8 0, .int .u8 0, .int .u8 0, .int .u8 0, .int .u8 0, .int .u8 0] 35 (0, 0))) := heap_alloc_new _ _; clear hb5)
    | ((with_reducible refine row_store _ _ _ _ _ _ _ ?_ ?_ HZ5.out (row_size Try.size16 HY0s) ?_ HY01.out ?_); (exact rfl); (exact rfl); (rw [HY0s.out]; rfl); intro w6 G6 ch6; have hb6 : Below w5.heap.size w5 w6 := ch6.below ((Below.refl _ w5).alloc (Nat.le_refl _) _) (Nat.le_refl _); have HQ6 : Hid (Below w.heap.size w w6) := HQ5.out.trans (hb6.mono HQ5.out.size); have HC6 : Hid (Ciph w6 c Aes.TB kw0) := HC5.out.below hb6 (Nat.le_refl _); have HX6 : Hid (BAt w6 q (S 0 ++ (S 1).take 4)) := HX5.out.old hb6; clear hb6 ch6))
  clear HB HC3 HQ3 HX3 HQ4 HC4 HX4 HQ5 HC5 HX5 HZ5
  go_upto_region 7 with (first
    | (go_at_call 37; refine (blk4_any _ _ _ _).mono ?_; rintro e w7 ⟨rfl, hb7⟩; have HQ7 : Hid (Below w.heap.size w w7) := HQ6.out.trans (hb7.mono HQ6.out.size); have HC7 : Hid (Ciph w7 c Aes.TB kw0) := HC6.out.below hb7 (Nat.le_refl _); have HX7 : Hid (BAt w7 q (S 0 ++ (S 1).take 4)) := HX6.out.old hb7; have HG7 : Hid (w7.heap[w5.heap.size]? = some (.cells Y0 35 (0, 0))) := (hb7.block _ (lt_of_block G6.out)).trans G6.out; clear hb7)
    | (go_at_call 15; refine (HB1.out c _ HC7.out).mono ?_; rintro e w8 ⟨rfl, hb8⟩; have HQ8 : Hid (Below w.heap.size w w8) := HQ7.out.trans (hb8.out.mono HQ7.out.size); have HX8 : Hid (BAt w8 q (S 0 ++ (S 1).take 4)) := HX7.out.old hb8.out; have HG8 : Hid (w8.heap[w5.heap.size]? = some (.cells Y0 35 (0, 0))) := (hb8.out.block _ (lt_of_block HG7.out)).trans HG7.out; have HZ8 : Hid ((w8.alloc (.cells #[.int .u8 0, .int .u8 0, .int .u8 0, .int .u8 0, .int .u8 0, .int .u8 0, .int .u8 0, .int .u8 0, .int .u8 0, .int .u8 0, .int .u8 0, .int .u8 0, .int .u8 0, .int .u8 0, .int .u8 0, .int .u8 0] 35)).heap[w8.heap.size]? = some (.cells #[.int .u8 0, .int .u8 0, .int .u8 0, .int .u8 0, .int .u8 0, .int .u8 0, .int .u8 0, .int .u8 0, .int .u8 0, .int .u8 0, .int .u8 0, .int .u8 0, .int .u8 0, .int .u8 0, .int .u8 0, .int .u8 0] 35 (0, 0))) := heap_alloc_new _ _; clear hb8)
    | ((with_reducible refine row_store _ _ _ _ _ _ _ ?_ ?_ HZ8.out (row_size Try.size16 HY1s) ?_ HY11.out ?_); (exact rfl); (exact rfl); (rw [HY1s.out]; rfl); intro w9 G9 ch9; have hb9 : Below w8.heap.size w8 w9 := ch9.below ((Below.refl _ w8).alloc (Nat.le_refl _) _) (Nat.le_refl _); have HQ9 : Hid (Below w.heap.size w w9) := HQ8.out.trans (hb9.mono HQ8.out.size); have HX9 : Hid (BAt w9 q (S 0 ++ (S 1).take 4)) := HX8.out.old hb9; have HG9 : Hid (w9.heap[w5.heap.size]? = some (.cells Y0 35 (0, 0))) := (hb9.block _ (lt_of_block HG8.out)).trans HG8.out; clear hb9 ch9))
  clear HB1 HC6 HQ6 HX6 HQ7 HC7 HX7 HQ8 HX8 HZ8 HG7 HG8 G6
  refine wp_region_any (by kernel_rfl) ?_
  change wpAny _ _ _ _ _ _ _ (World.drew _)
  have HQd : Hid (Below w.heap.size w w9.drew) := HQ9.out.drew
  have HXd : Hid (BAt w9.drew q (S 0 ++ (S 1).take 4)) := HX9.out.drewN 1
  have HGd : Hid (w9.drew.heap[w5.heap.size]? = some (.cells Y0 35 (0, 0)) ∧ w9.drew.heap[w8.heap.size]? = some (.cells Y1 35 (0, 0))) := ⟨HG9.out, G9.out⟩
  clear HQ9 HX9 HG9 G9
  generalize w9.drew = wd at *
  have hT := Lib.hid trivial
  refine wpAny_of_held (S := fun _ : World => True) _ _ _ _ ?_
  refine anyH_take 0 17 (.slice q 20 cq) hT.out rfl (by kernel_rfl) (by kernel_rfl) (by kernel_rfl) (fun _ _ _ h => h) (by rfl) (by intro x hx; go_simp; try (intro h; omega)) ?_
  try simp only [Act.put, List.setIfInBounds_toArray, List.set_cons_zero, List.set_cons_succ]
  refine anyH_take 1 18 (.slice (some ⟨w5.heap.size, 0, none⟩) 16 16) hT.out rfl (by kernel_rfl) (by kernel_rfl) (by kernel_rfl) (fun _ _ _ h => h) (by rfl) (by intro x hx; go_simp; try (intro h; omega)) ?_
  try simp only [Act.put, List.setIfInBounds_toArray, List.set_cons_zero, List.set_cons_succ]
  refine anyH_take 2 19 (.slice (some ⟨w8.heap.size, 0, none⟩) 4 16) hT.out rfl (by kernel_rfl) (by kernel_rfl) (by kernel_rfl) (fun _ _ _ h => h) (by rfl) (by intro x hx; go_simp; try (intro h; omega)) ?_
  try simp only [Act.put, List.setIfInBounds_toArray, List.set_cons_zero, List.set_cons_succ]
  refine anyH_one 3 (by kernel_rfl) ?_
  refine op_append_full 3 (.tmp 18) (.tmp 19) (S 0) ((S 1).take 4) w5.heap.size 16 16 w8.heap.size 4 16 rfl rfl rfl (HSL.out 0) (by rw [List.length_take, HSL.out]; rfl) (fun j hj => by have h := HGd.out.1; rw [HY0.out] at h; exact u8_cell h j (by rw [HSL.out]; exact hj)) (fun j hj => by have h := HGd.out.2; rw [HY1.out] at h; rw [u8_cell h j (by rw [HSL.out]; omega), List.getD_eq_getElem?_getD, List.getD_eq_getElem?_getD, List.getElem?_take, if_pos hj]) (by omega) (by omega) ?_
  intro v' wz hown hgrow
  have hbz : Below wd.heap.size wd wz := (Below.refl _ wd).grown hgrow (Nat.le_refl _) (fun j e => by cases e)
  have HQz : Hid (Below w.heap.size w wz) := HQd.out.trans (hbz.mono HQd.out.size)
  have HXz : Hid (BAt wz q (S 0 ++ (S 1).take 4)) := HXd.out.old hbz
  have hsb : Sha.Byt (S 0 ++ (S 1).take 4) := Sha.byt_append (HSB.out 0) (Sha.byt_take (HSB.out 1) 4)
  obtain ⟨p2, c2, hv2, hl2, hp2, _, _, _, _⟩ := own_bat hown hsb
  rw [show 16 + 4 = 20 from rfl] at hv2 hl2
  subst hv2
  have HP2 := Lib.hid hp2
  have HL2 := Lib.hid hl2
  clear hown hgrow hbz HQd HXd HGd hp2 hl2 hsb
  refine ⟨trivial, ?_⟩
  try simp only [Act.put, List.setIfInBounds_toArray, List.set_cons_zero, List.set_cons_succ]
  refine anyH_one 4 (by kernel_rfl) ?_
  refine wpOp_step rfl (fun Kc hKc => ?_)
  go_simp
  refine (same_any (S 0 ++ (S 1).take 4) q p2 20 20 cq c2 HL2.out HL2.out wz HXz.out HP2.out (by rw [HL2.out]; omega)).mono ?_
  rintro e wy ⟨rfl, hby⟩
  have HQy : Hid (Below w.heap.size w wy) := HQz.out.trans (hby.mono HQz.out.size)
  clear hby
  dsimp only
  refine hKc _ _ ⟨trivial, ?_⟩
  clear hKc Kc
  try simp only [Act.put, List.setIfInBounds_toArray, List.set_cons_zero, List.set_cons_succ]
  refine anyH_take 5 0 (.bool true) trivial rfl (by kernel_rfl) (by kernel_rfl) (by kernel_rfl) (fun _ _ _ h => h) (by rfl) (by intro x hx; go_simp; try (intro h; omega)) ?_
  try simp only [Act.put, List.setIfInBounds_toArray, List.set_cons_zero]
  refine anyH_done (by kernel_rfl) ?_ _
  go_wp2
  go_ret
  exact ⟨rfl, HQy.out⟩
end Go.Proofs.Ytkajigfdfbgphaa

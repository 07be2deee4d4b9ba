/-
  BatchPlain: the law walked.
-/
import Derived.Test.YtkgefogkdmbciaaBaN
namespace Go.Proofs.Ytkgefogkdmbciaa
open Go.RowKit

theorem byte_wf {x : Int} (h : (Lit.int .u8 x).wf = true) : 0 ≤ x ∧ x ≤ 255 := by
  simp [Lit.wf, IntKind.min, IntKind.max, IntKind.signed, IntKind.bits] at h
  omega
/-- Put, whatever it answers. -/
def PutAny (r : Int) (w : World) (e : Ending) (w' : World) : Prop := ∃ q m c, e = .returned (.tuple #[.slice q m c, .int .i64 r]) ∧ Hid (Below w.heap.size w w')
theorem put_either (t n : Int) (P : List Int) (p : Option Addr) (m c : Nat) (L : List Bt.En) (hm : L.length = m) (w : World) (h : Sv w P p c L) :
    Calls Try.prog 12 #[.agg (SmA t P n (.slice p m c))] w (PutAny (Bt.ck t n L) w) := by
  by_cases h0 : Bt.ck t n L = 0
  · refine (put_ok t n P p m c L hm w h h0).mono ?_
    rintro e w' ⟨q, d, rfl, _, _, hb⟩
    exact ⟨q, _, d, by rw [h0], hb⟩
  · refine (put_no t n P p m c L hm w h _ rfl h0).mono ?_
    rintro e w' ⟨rfl, hb⟩
    exact ⟨none, 0, 0, rfl, hb⟩
theorem get_no {B : List Int} {r : Int} (hr : Bt.gc B = r) (h0 : r ≠ 0) (p : Option Addr) (n c : Nat) (hn : B.length = n) (hL : n ≤ 100000) (w : World) (h : Bs w p c B) :
    Calls Try.prog 20 #[.slice p n c] w (fun e w' => e = .returned (.tuple #[.agg (SmA 0 Bt.Z 0 (.slice none 0 0)), .int .i64 r]) ∧ Below w.heap.size w w') :=
  (get_any B p n c hn hL w h).mono fun e w' h => by
    rcases h with ⟨h1, _⟩ | ⟨_, h1⟩
    · exact absurd (hr.symm.trans h1) h0
    · rw [hr] at h1; exact h1
set_option maxHeartbeats 4000000 in
set_option maxRecDepth 100000 in
theorem plain_core (B B' : List Int) (l l' : Nat) (hl : B.length = l) (hl' : B'.length = l') (h0 : 1 ≤ l) (h9 : l ≤ 2000) (_h9' : l' ≤ 2000) (hb : Sha.Byt B) (cut x : Int) (hx : 0 ≤ x ∧ x ≤ 255)
    (X Y : Array Value) (v v' : Value) (m m' : Nat) (hX : X.size = 35) (hY : Y.size = 35) (h3 : m ≤ 300) (h3' : m' ≤ 300) (w : World)
    (hc : ∀ z : World, (z.heap[w.heap.size]? = some (.cells X 26 (0, 0)) ∧ z.heap[w.heap.size + 1]? = some (.cells Y 26 (0, 0))) → z.cell? ⟨w.heap.size, 34, none⟩ = some v ∧ z.cell? ⟨w.heap.size + 1, 34, none⟩ = some v')
    (hv : ∃ p c, v = .slice p m c) (hv' : ∃ p c, v' = .slice p m' c)
    (hp : ∀ y, Below w.heap.size w y → Calls Try.prog 12 #[.agg X] y (PutOk B l y)) (hp' : ∀ y, Below w.heap.size w y → Calls Try.prog 12 #[.agg Y] y (PutOk B' l' y))
    (hcut : ∀ j, j < l → Bt.gc (B.take j) = 4) (hmore : Bt.gc (B ++ [x]) = 3) (eb : Bool) (heb : decide (B = B') = eb) (hs : ∀ y, Below w.heap.size w y → Calls Try.prog 22 #[.agg X, .agg Y] y (BoSay eb y)) :
    Calls Try.prog 7 #[.agg X, .agg Y, .int .i64 cut, .int .u8 x] w (YesSay w) := by
  have HWK : Hid (∀ y, Calls Try.prog 10 #[] y (YesSay y)) := fun y => works_any y
  obtain ⟨p, c, rfl⟩ := hv
  obtain ⟨p', c', rfl⟩ := hv'
  have HP := Lib.hid hp
  have HP' := Lib.hid hp'
  have HS := Lib.hid hs
  have HXS := Lib.hid hX
  have HYS := Lib.hid hY
  have hsx := sm_info hX
  have hsy := sm_info hY
  have HPK : Hid (∀ y, Calls Try.prog 25 #[.int .i64 cut, .int .i64 (l : Nat)] y fun r w' => w' = y ∧ r = .returned (.int .i64 (pk cut (l : Nat) : Nat))) := fun y => pick_at cut (l : Nat) (by omega) (by omega) y
  have hj := pk_lt cut (l : Nat) (by omega)
  obtain ⟨j, hje⟩ : ∃ j, pk cut (l : Nat) = j := ⟨_, rfl⟩
  rw [hje] at HPK hj
  have HJ : Hid (j < l) := by show _ < _; omega
  have HG4 : Hid (∀ y q d, Bs y q d B → Calls Try.prog 20 #[.slice q j d] y (fun e w' => e = .returned (.tuple #[.agg (SmA 0 Bt.Z 0 (.slice none 0 0)), .int .i64 4]) ∧ Below y.heap.size y w')) := fun y q d hy => get_no (hcut j HJ.out) (by omega) q j d (by rw [List.length_take, hl]; have := HJ.out; omega) (by have := HJ.out; omega) y (hy.take j)
  have HG3 : Hid (∀ y q d, Bs y q d (B ++ [x]) → Calls Try.prog 20 #[.slice q (l + 1) d] y (fun e w' => e = .returned (.tuple #[.agg (SmA 0 Bt.Z 0 (.slice none 0 0)), .int .i64 3]) ∧ Below y.heap.size y w')) := fun y q d hy => get_no hmore (by omega) q (l + 1) d (by rw [List.length_append, hl]; rfl) (by omega) y hy
  have HCP : Hid (∀ y q d, Bs y q d B → Calls Try.prog 26 #[.slice q l d] y fun e w' => ∃ v, e = .returned v ∧ w'.ownsRow y.heap.size 5 1 v l (U8s B) ∧ Below y.heap.size y w') := fun y q d hy => copybytes_any B q l d hl (by omega) y hy.bat
  have HBX : Hid (Sha.Byt (B ++ [x])) := Sha.byt_append hb (fun z hz => by rw [List.mem_singleton] at hz; omega)
  have HSB : Hid (∀ y q d q' d', Bs y q d B → Bs y q' d' B' → Calls Try.prog 16 #[.slice q l d, .slice q' l' d'] y (EqSay eb y)) := fun y q d q' d' h1 h2 => by rw [← heb]; exact same_all B B' q q' l l' d d' hl hl' y h1.bat h2.bat (by omega)
  have HZS : Hid ((SmA 0 Bt.Z 0 (.slice none 0 0)).size = 35) := smA_size _ _ _ Bt.z_len
  have HZ1 : Hid ((SmA 0 Bt.Z 0 (.slice none 0 0)).all (·.oneCell') = true) := smA_one _ _ _ _ _ _
  generalize SmA 0 Bt.Z 0 (.slice none 0 0) = Z at *
  obtain ⟨i0, hi, hz0, hz1, hz2⟩ := info_parts Try.info_u8
  have HLB := Lib.hid h9
  have B0 : Hid (Below w.heap.size w ((w.alloc (.cells X 26)).alloc (.cells Y 26))) := below_two w _ _
  have G0 : Hid ((((w.alloc (.cells X 26)).alloc (.cells Y 26)).heap[w.heap.size]? = some (.cells X 26 (0, 0)) ∧ ((w.alloc (.cells X 26)).alloc (.cells Y 26)).heap[w.heap.size + 1]? = some (.cells Y 26 (0, 0)))) := ⟨(heap_oldX _ _ (by simp)).trans (heap_alloc_new w _), heap_alloc2_new w _ _⟩
  have HC := Lib.hid hc
  have HLN := Lib.hid hl
  clear hp hp' hs hX hY hcut hmore heb hc h0 _h9' hb hl hl' hj
  have hjl : (j : Int) ≤ (l : Int) := by have := HJ.out; omega
  go_enter Try.func7, Try.ntmps7
  go_upto_region 1 with (fail)
  change Code.wp _ _ _ _ ((w.alloc (.cells X 26)).alloc (.cells Y 26))
  obtain ⟨w0, hw0⟩ : ∃ y, y = ((w.alloc (.cells X 26)).alloc (.cells Y 26)) := ⟨_, rfl⟩
  rw [← hw0] at B0 G0 ⊢
  clear hw0
  obtain ⟨c34, d34⟩ := HC.out _ G0.out
  have hgt : ¬ (m : Int) > 300 := by omega
  have hgt' : ¬ (m' : Int) > 300 := by omega
  have TK := Lib.hid True.intro
  have GX0 : Hid (w0.heap[w.heap.size]? = some (.cells X 26 (0, 0))) := G0.out.1
  go_upto_region 7 with (first
    | ((with_reducible refine row_load _ _ _ _ _ _ _ ?_ GX0.out Try.underlying26 ?_ (sm_info HXS.out) ?_); (exact rfl); (exact rfl))
    | (go_at_call 12; clear TK; refine (HP.out _ B0.out).mono ?_; rintro e1 w1 ⟨p1, c1, rfl, HO1, HB1, B1⟩; have BW1 : Hid (Below w.heap.size w w1) := B0.out.trans (B1.out.mono B0.out.size); have G1 : Hid ((w1.heap[w.heap.size]? = some (.cells X 26 (0, 0)) ∧ w1.heap[w.heap.size + 1]? = some (.cells Y 26 (0, 0)))) := ⟨(B1.out.block _ (lt_of_block G0.out.1)).trans G0.out.1, (B1.out.block _ (lt_of_block G0.out.2)).trans G0.out.2⟩; have GY1 : Hid (w1.heap[w.heap.size + 1]? = some (.cells Y 26 (0, 0))) := G1.out.2)
    | ((with_reducible refine row_load _ _ _ _ _ _ _ ?_ GY1.out Try.underlying26 ?_ (sm_info HYS.out) ?_); (exact rfl); (exact rfl))
    | (go_at_call 12; refine (HP'.out _ BW1.out).mono ?_; rintro e2 w2 ⟨p2, c2, rfl, HO2, HB2, B2⟩))
  have BW2 : Hid (Below w.heap.size w w2) := BW1.out.trans (B2.out.mono BW1.out.size)
  have G2 : Hid ((w2.heap[w.heap.size]? = some (.cells X 26 (0, 0)) ∧ w2.heap[w.heap.size + 1]? = some (.cells Y 26 (0, 0)))) := ⟨(B2.out.block _ (lt_of_block G1.out.1)).trans G1.out.1, (B2.out.block _ (lt_of_block G1.out.2)).trans G1.out.2⟩
  have HB12 : Hid (Bs w2 p1 c1 B) := HB1.out.old B2.out
  clear HO1 HO2 HB1 B1 B2 BW1 G1 GY1 GX0 G0 B0 c34 d34 HP HP'
  have hcap : (l : Int) ≤ (c1 : Int) := by have := HB12.out.cap; rw [HLN.out] at this; omega
  go_upto_region 8 with (first
    | (go_at_call 25; refine (HPK.out _).mono ?_; rintro e3 w3 ⟨hw3, rfl⟩; subst w3)
    | (go_at_call 20; refine (HG4.out _ _ _ HB12.out).mono ?_; rintro e4 w4 ⟨rfl, hb4⟩)
    | ((with_reducible refine row_store _ _ _ _ _ _ _ ?_ ?_ (heap_alloc_new _ _) (sm_info HZS.out) ?_ HZ1.out ?_); (exact rfl); (exact rfl); (rw [HZS.out]; rfl); intro w5 G5 ch5))
  have K5 : Hid (Below w2.heap.size w2 w5) := hb4.trans ((ch5.below ((Below.refl _ w4).alloc (Nat.le_refl _) _) (Nat.le_refl _)).mono hb4.size)
  have BW5 : Hid (Below w.heap.size w w5) := BW2.out.trans (K5.out.mono BW2.out.size)
  have G25 : Hid ((w5.heap[w.heap.size]? = some (.cells X 26 (0, 0)) ∧ w5.heap[w.heap.size + 1]? = some (.cells Y 26 (0, 0)))) := ⟨(K5.out.block _ (lt_of_block G2.out.1)).trans G2.out.1, (K5.out.block _ (lt_of_block G2.out.2)).trans G2.out.2⟩
  have HB15 : Hid (Bs w5 p1 c1 B) := HB12.out.old K5.out
  have HB25 : Hid (Bs w5 p2 c2 B') := HB2.out.old K5.out
  clear ch5 G5 K5 hb4 G2 BW2 HB12 HB2
  go_upto_region 9 with (first
    | (go_at_call 26; refine (HCP.out _ _ _ HB15.out).mono ?_; rintro e6 w6 ⟨v6, rfl, ho6, hb6⟩; have HO6 := Lib.hid ho6; have HL6 := Lib.hid hb6; have BW6 : Hid (Below w.heap.size w w6) := BW5.out.trans (hb6.mono BW5.out.size); clear ho6 hb6)
    | (at_builtin; refine wpList_append_own _ rfl _ _ 29 rfl w5.heap.size 5 i0 (.int .u8 0) 1 1 Try.underlying29 hi hz0 hz1 hz2 rfl (by decide) _ _ _ rfl (HO6.out.alloc _) ⟨w6.heap.size, 0, none⟩ 1 1 [.int .u8 x] rfl rfl (u8_cell _ _ _) (u8_one _) (by unfold maxLen; omega) (by omega) (by have := HL6.out.size; simp; omega) ?_; intro v7 w7 hown7 hgrow7 _; have HB7 : Hid (Below w5.heap.size w5 w7) := below_own HL6.out HL6.out.size HO6.out hgrow7; have HBS7 := own_bs (by rw [U8s_snoc] at hown7; exact hown7) HBX.out; obtain ⟨p7, c7, hv7, hbs7, hl7⟩ := HBS7; rw [hl7] at hv7; subst hv7; have HBS7 := Lib.hid hbs7; clear hown7 hgrow7 hbs7 hl7)
    | (go_at_call 20; refine (HG3.out _ _ _ HBS7.out).mono ?_; rintro e8 w8 ⟨rfl, hb8⟩)
    | ((with_reducible refine row_store _ _ _ _ _ _ _ ?_ ?_ (heap_alloc_new _ _) (sm_info HZS.out) ?_ HZ1.out ?_); (exact rfl); (exact rfl); (rw [HZS.out]; rfl); intro w9 G9 ch9))
  have K9 : Hid (Below w5.heap.size w5 w9) := (HB7.out.trans (hb8.mono HB7.out.size)).trans ((ch9.below ((Below.refl _ w8).alloc (Nat.le_refl _) _) (Nat.le_refl _)).mono (HB7.out.trans (hb8.mono HB7.out.size)).size)
  have BW9 : Hid (Below w.heap.size w w9) := BW5.out.trans (K9.out.mono BW5.out.size)
  have G29 : Hid ((w9.heap[w.heap.size]? = some (.cells X 26 (0, 0)) ∧ w9.heap[w.heap.size + 1]? = some (.cells Y 26 (0, 0)))) := ⟨(K9.out.block _ (lt_of_block G25.out.1)).trans G25.out.1, (K9.out.block _ (lt_of_block G25.out.2)).trans G25.out.2⟩
  have HB19 : Hid (Bs w9 p1 c1 B) := HB15.out.old K9.out
  have HB29 : Hid (Bs w9 p2 c2 B') := HB25.out.old K9.out
  clear ch9 G9 K9 hb8 HB7 G25 BW5 HB15 HB25 HO6 HL6 BW6 HBS7
  refine wp_region_any (by kernel_rfl) ?_
  change wpAny _ _ _ _ _ _ _ (World.drew _)
  have Gz : Hid ((w9.drew.heap[w.heap.size]? = some (.cells X 26 (0, 0)) ∧ w9.drew.heap[w.heap.size + 1]? = some (.cells Y 26 (0, 0)))) := G29.out
  have B1z : Hid (Bs w9.drew p1 c1 B) := HB19.out.drew
  have B2z : Hid (Bs w9.drew p2 c2 B') := HB29.out.drew
  have Bz : Hid (Below w.heap.size w w9.drew) := BW9.out.drew
  obtain ⟨z, hz⟩ : ∃ y, y = w9.drew := ⟨_, rfl⟩
  rw [← hz] at Gz B1z B2z Bz ⊢
  clear hz
  refine wpAny_of_held (S := fun y => (y.heap[w.heap.size]? = some (.cells X 26 (0, 0)) ∧ y.heap[w.heap.size + 1]? = some (.cells Y 26 (0, 0)))) _ _ _ _ ?_
  refine anyH_take 0 64 (.slice p1 l c1) Gz.out rfl (by kernel_rfl) (by kernel_rfl) (by kernel_rfl) (fun _ _ _ h => h) (by rfl) (by intro y hy; go_simp) ?_
  try simp only [Act.put, List.setIfInBounds_toArray, List.set_cons_zero, List.set_cons_succ]
  refine anyH_take 1 65 (.slice p2 l' c2) Gz.out rfl (by kernel_rfl) (by kernel_rfl) (by kernel_rfl) (fun _ _ _ h => h) (by rfl) (by intro y hy; go_simp) ?_
  try simp only [Act.put, List.setIfInBounds_toArray, List.set_cons_zero, List.set_cons_succ]
  refine anyH_take 3 67 (.agg X) Gz.out rfl (by kernel_rfl) (by kernel_rfl) (by kernel_rfl) (fun _ _ _ h => h) (by rfl) (fun y hy => exec_arr _ _ w.heap.size 0 _ _ rfl (fun j u hu => by rw [cell_of_row y _ (0 + j) _ _ _ hy.1, Nat.zero_add]; simpa using hu) Try.underlying26 rfl (sm_info HXS.out)) ?_
  try simp only [Act.put, List.setIfInBounds_toArray, List.set_cons_zero, List.set_cons_succ]
  refine anyH_take 4 68 (.agg Y) Gz.out rfl (by kernel_rfl) (by kernel_rfl) (by kernel_rfl) (fun _ _ _ h => h) (by rfl) (fun y hy => exec_arr _ _ (w.heap.size + 1) 0 _ _ rfl (fun j u hu => by rw [cell_of_row y _ (0 + j) _ _ _ hy.2, Nat.zero_add]; simpa using hu) Try.underlying26 rfl (sm_info HYS.out)) ?_
  try simp only [Act.put, List.setIfInBounds_toArray, List.set_cons_zero, List.set_cons_succ]
  refine anyH_one 2 (by kernel_rfl) ?_
  refine wpOp_step rfl (fun Kc hKc => ?_)
  go_simp
  refine (HSB.out _ _ _ _ _ B1z.out B2z.out).mono ?_
  rintro e10 w10 ⟨rfl, hb10⟩
  have G10 : Hid ((w10.heap[w.heap.size]? = some (.cells X 26 (0, 0)) ∧ w10.heap[w.heap.size + 1]? = some (.cells Y 26 (0, 0)))) := ⟨(hb10.block _ (lt_of_block Gz.out.1)).trans Gz.out.1, (hb10.block _ (lt_of_block Gz.out.2)).trans Gz.out.2⟩
  have BW10 : Hid (Below w.heap.size w w10) := Bz.out.trans (hb10.mono Bz.out.size)
  dsimp only
  refine hKc _ _ ⟨G10.out, ?_⟩
  clear hKc Kc
  try simp only [Act.put, List.setIfInBounds_toArray, List.set_cons_zero, List.set_cons_succ]
  refine anyH_one 5 (by kernel_rfl) ?_
  refine wpOp_step rfl (fun Kc hKc => ?_)
  go_simp
  refine (HS.out _ BW10.out).mono ?_
  rintro e11 w11 ⟨rfl, hb11⟩
  have G11 : Hid ((w11.heap[w.heap.size]? = some (.cells X 26 (0, 0)) ∧ w11.heap[w.heap.size + 1]? = some (.cells Y 26 (0, 0)))) := ⟨(hb11.block _ (lt_of_block G10.out.1)).trans G10.out.1, (hb11.block _ (lt_of_block G10.out.2)).trans G10.out.2⟩
  have BW11 : Hid (Below w.heap.size w w11) := BW10.out.trans (hb11.mono BW10.out.size)
  dsimp only
  refine hKc _ _ ⟨G11.out, ?_⟩
  clear hKc Kc
  try simp only [Act.put, List.setIfInBounds_toArray, List.set_cons_zero, List.set_cons_succ]
  refine anyH_take 6 70 (.bool true) G11.out rfl (by kernel_rfl) (by kernel_rfl) (by kernel_rfl) (fun _ _ _ h => h) (by rfl) (by intro y hy; go_simp) ?_
  try simp only [Act.put, List.setIfInBounds_toArray, List.set_cons_zero, List.set_cons_succ]
  refine anyH_take 7 71 (.bool true) G11.out rfl (by kernel_rfl) (by kernel_rfl) (by kernel_rfl) (fun _ _ _ h => h) (by rfl) (by intro y hy; go_simp) ?_
  try simp only [Act.put, List.setIfInBounds_toArray, List.set_cons_zero, List.set_cons_succ]
  refine anyH_take 8 72 (.int .i64 4) G11.out rfl (by kernel_rfl) (by kernel_rfl) (by kernel_rfl) (fun _ _ _ h => h) (by rfl) (by intro y hy; go_simp) ?_
  try simp only [Act.put, List.setIfInBounds_toArray, List.set_cons_zero, List.set_cons_succ]
  refine anyH_take 9 73 (.bool true) G11.out rfl (by kernel_rfl) (by kernel_rfl) (by kernel_rfl) (fun _ _ _ h => h) (by rfl) (by intro y hy; go_simp) ?_
  try simp only [Act.put, List.setIfInBounds_toArray, List.set_cons_zero, List.set_cons_succ]
  refine anyH_take 10 74 (.bool true) G11.out rfl (by kernel_rfl) (by kernel_rfl) (by kernel_rfl) (fun _ _ _ h => h) (by rfl) (by intro y hy; go_simp) ?_
  try simp only [Act.put, List.setIfInBounds_toArray, List.set_cons_zero, List.set_cons_succ]
  refine anyH_take 11 75 (.bool true) G11.out rfl (by kernel_rfl) (by kernel_rfl) (by kernel_rfl) (fun _ _ _ h => h) (by rfl) (by intro y hy; go_simp) ?_
  try simp only [Act.put, List.setIfInBounds_toArray, List.set_cons_zero, List.set_cons_succ]
  refine anyH_take 12 76 (.int .i64 3) G11.out rfl (by kernel_rfl) (by kernel_rfl) (by kernel_rfl) (fun _ _ _ h => h) (by rfl) (by intro y hy; go_simp) ?_
  try simp only [Act.put, List.setIfInBounds_toArray, List.set_cons_zero, List.set_cons_succ]
  refine anyH_take 13 77 (.bool true) G11.out rfl (by kernel_rfl) (by kernel_rfl) (by kernel_rfl) (fun _ _ _ h => h) (by rfl) (by intro y hy; go_simp) ?_
  try simp only [Act.put, List.setIfInBounds_toArray, List.set_cons_zero, List.set_cons_succ]
  refine anyH_take 14 78 (.bool true) G11.out rfl (by kernel_rfl) (by kernel_rfl) (by kernel_rfl) (fun _ _ _ h => h) (by rfl) (by intro y hy; go_simp) ?_
  try simp only [Act.put, List.setIfInBounds_toArray, List.set_cons_zero, List.set_cons_succ]
  refine anyH_take 15 79 (.bool true) G11.out rfl (by kernel_rfl) (by kernel_rfl) (by kernel_rfl) (fun _ _ _ h => h) (by rfl) (by intro y hy; go_simp) ?_
  try simp only [Act.put, List.setIfInBounds_toArray, List.set_cons_zero, List.set_cons_succ]
  refine anyH_one 16 (by kernel_rfl) ?_
  refine wpOp_step rfl (fun Kc hKc => ?_)
  go_simp
  refine (HWK.out _).mono ?_
  rintro e12 w12 ⟨rfl, hb12⟩
  have G12 : Hid ((w12.heap[w.heap.size]? = some (.cells X 26 (0, 0)) ∧ w12.heap[w.heap.size + 1]? = some (.cells Y 26 (0, 0)))) := ⟨(hb12.block _ (lt_of_block G11.out.1)).trans G11.out.1, (hb12.block _ (lt_of_block G11.out.2)).trans G11.out.2⟩
  have BW12 : Hid (Below w.heap.size w w12) := BW11.out.trans (hb12.mono BW11.out.size)
  dsimp only
  refine hKc _ _ ⟨G12.out, ?_⟩
  clear hKc Kc
  try simp only [Act.put, List.setIfInBounds_toArray, List.set_cons_zero, List.set_cons_succ]
  refine anyH_take 17 81 (.bool true) G12.out rfl (by kernel_rfl) (by kernel_rfl) (by kernel_rfl) (fun _ _ _ h => h) (by rfl) (by intro y hy; go_simp) ?_
  try simp only [Act.put, List.setIfInBounds_toArray, List.set_cons_zero, List.set_cons_succ]
  refine anyH_take 18 8 (.bool true) G12.out rfl (by kernel_rfl) (by kernel_rfl) (by kernel_rfl) (fun _ _ _ h => h) (by rfl) (by intro y hy; go_simp) ?_
  try simp only [Act.put, List.setIfInBounds_toArray, List.set_cons_zero, List.set_cons_succ]
  refine wpAnyH_done (by kernel_rfl) ?_ _
  go_wp2
  go_ret
  exact ⟨rfl, BW12.out⟩
set_option maxHeartbeats 2000000 in
set_option maxRecDepth 100000 in
theorem plain_out (X Y : Array Value) (v v' : Value) (m m' : Nat) (hX : X.size = 35) (hY : Y.size = 35) (w : World) (r r' : Int)
    (hc : ∀ z : World, (z.heap[w.heap.size]? = some (.cells X 26 (0, 0)) ∧ z.heap[w.heap.size + 1]? = some (.cells Y 26 (0, 0))) → z.cell? ⟨w.heap.size, 34, none⟩ = some v ∧ z.cell? ⟨w.heap.size + 1, 34, none⟩ = some v')
    (hv : ∃ p c, v = .slice p m c) (hv' : ∃ p c, v' = .slice p m' c)
    (hp : ∀ y, Below w.heap.size w y → Calls Try.prog 12 #[.agg X] y (PutAny r y)) (hp' : ∀ y, Below w.heap.size w y → Calls Try.prog 12 #[.agg Y] y (PutAny r' y))
    (h : 300 < m ∨ 300 < m' ∨ r ≠ 0 ∨ r' ≠ 0) (cut x : Int) :
    Calls Try.prog 7 #[.agg X, .agg Y, .int .i64 cut, .int .u8 x] w (YesSay w) := by
  have HWK : Hid (∀ y, Calls Try.prog 10 #[] y (YesSay y)) := fun y => works_any y
  obtain ⟨p, c, rfl⟩ := hv
  obtain ⟨p', c', rfl⟩ := hv'
  have HP := Lib.hid hp
  have HP' := Lib.hid hp'
  have HXS := Lib.hid hX
  have HYS := Lib.hid hY
  have hsx := sm_info hX
  have hsy := sm_info hY
  have B0 : Hid (Below w.heap.size w ((w.alloc (.cells X 26)).alloc (.cells Y 26))) := below_two w _ _
  have G0 : Hid ((((w.alloc (.cells X 26)).alloc (.cells Y 26)).heap[w.heap.size]? = some (.cells X 26 (0, 0)) ∧ ((w.alloc (.cells X 26)).alloc (.cells Y 26)).heap[w.heap.size + 1]? = some (.cells Y 26 (0, 0)))) := ⟨(heap_oldX _ _ (by simp)).trans (heap_alloc_new w _), heap_alloc2_new w _ _⟩
  have HC := Lib.hid hc
  clear hp hp' hX hY hc
  go_enter Try.func7, Try.ntmps7
  go_upto_region 1 with (fail)
  change Code.wp _ _ _ _ ((w.alloc (.cells X 26)).alloc (.cells Y 26))
  obtain ⟨w0, hw0⟩ : ∃ y, y = ((w.alloc (.cells X 26)).alloc (.cells Y 26)) := ⟨_, rfl⟩
  rw [← hw0] at B0 G0 ⊢
  clear hw0
  obtain ⟨c34, d34⟩ := HC.out _ G0.out
  have GX0 : Hid (w0.heap[w.heap.size]? = some (.cells X 26 (0, 0))) := G0.out.1
  by_cases h1 : 300 < m
  · have hgt : (m : Int) > 300 := by omega
    clear h1 h
    go_wp2_with (go_at_call 10; refine (HWK.out _).mono ?_; rintro e6 w6 ⟨rfl, hb6⟩)
    go_ret
    exact ⟨rfl, B0.out.trans (hb6.mono B0.out.size)⟩
  have hgt : ¬ (m : Int) > 300 := by omega
  by_cases h2 : 300 < m'
  · have hgt' : (m' : Int) > 300 := by omega
    clear h1 h h2
    go_wp2_with (go_at_call 10; refine (HWK.out _).mono ?_; rintro e6 w6 ⟨rfl, hb6⟩)
    go_ret
    exact ⟨rfl, B0.out.trans (hb6.mono B0.out.size)⟩
  have hgt' : ¬ (m' : Int) > 300 := by omega
  have hrr : r ≠ 0 ∨ r' ≠ 0 := by omega
  have TK := Lib.hid True.intro
  clear h1 h h2
  go_upto_region 5 with (first
    | ((with_reducible refine row_load _ _ _ _ _ _ _ ?_ GX0.out Try.underlying26 ?_ (sm_info HXS.out) ?_); (exact rfl); (exact rfl))
    | (go_at_call 12; clear TK; refine (HP.out _ B0.out).mono ?_; rintro e1 w1 ⟨p1, m1, c1, rfl, B1⟩; have BW1 : Hid (Below w.heap.size w w1) := B0.out.trans (B1.out.mono B0.out.size); have GY1 : Hid (w1.heap[w.heap.size + 1]? = some (.cells Y 26 (0, 0))) := (B1.out.block _ (lt_of_block G0.out.2)).trans G0.out.2)
    | ((with_reducible refine row_load _ _ _ _ _ _ _ ?_ GY1.out Try.underlying26 ?_ (sm_info HYS.out) ?_); (exact rfl); (exact rfl))
    | (go_at_call 12; refine (HP'.out _ BW1.out).mono ?_; rintro e2 w2 ⟨p2, m2, c2, rfl, B2⟩))
  have BW2 : Hid (Below w.heap.size w w2) := BW1.out.trans (B2.out.mono BW1.out.size)
  by_cases h0 : r = 0
  · have hr1 : r' ≠ 0 := by omega
    have hb1 : (r' == 0) = false := by simp [hr1]
    subst h0
    clear hrr hr1
    go_wp2_with (go_at_call 10; refine (HWK.out _).mono ?_; rintro e6 w6 ⟨rfl, hb6⟩)
    go_ret
    exact ⟨rfl, BW2.out.trans (hb6.mono BW2.out.size)⟩
  · have hb0 : (r == 0) = false := by simp [h0]
    clear hrr h0
    go_wp2_with (go_at_call 10; refine (HWK.out _).mono ?_; rintro e6 w6 ⟨rfl, hb6⟩)
    go_ret
    exact ⟨rfl, BW2.out.trans (hb6.mono BW2.out.size)⟩
theorem plain_any (t n : Int) (ht : Pk.In64 t) (hn : Pk.In64 n) (P : List Int) (p : Option Addr) (m c : Nat) (L : List Bt.En) (hm : L.length = m)
    (t' n' : Int) (ht' : Pk.In64 t') (hn' : Pk.In64 n') (P' : List Int) (p' : Option Addr) (m' c' : Nat) (L' : List Bt.En) (hm' : L'.length = m') (cut x : Int) (hx : 0 ≤ x ∧ x ≤ 255) (w : World) (h : Sv w P p c L) (h' : Sv w P' p' c' L') :
    Calls Try.prog 7 #[.agg (SmA t P n (.slice p m c)), .agg (SmA t' P' n' (.slice p' m' c')), .int .i64 cut, .int .u8 x] w (YesSay w) := by
  have hc : ∀ z : World, (z.heap[w.heap.size]? = some (.cells (SmA t P n (.slice p m c)) 26 (0, 0)) ∧ z.heap[w.heap.size + 1]? = some (.cells (SmA t' P' n' (.slice p' m' c')) 26 (0, 0))) →
      z.cell? ⟨w.heap.size, 34, none⟩ = some (.slice p m c) ∧ z.cell? ⟨w.heap.size + 1, 34, none⟩ = some (.slice p' m' c') := fun z hz => by
    have a1 : SmAt z w.heap.size t P n (.slice p m c) := hz.1
    have a2 : SmAt z (w.heap.size + 1) t' P' n' (.slice p' m' c') := hz.2
    exact ⟨a1.c34 h.len, a2.c34 h'.len⟩
  by_cases hall : 300 < m ∨ 300 < m' ∨ Bt.ck t n L ≠ 0 ∨ Bt.ck t' n' L' ≠ 0
  · exact plain_out _ _ _ _ m m' (smA_size t n _ h.len) (smA_size t' n' _ h'.len) w _ _ hc ⟨p, c, rfl⟩ ⟨p', c', rfl⟩ (fun y hy => put_either t n P p m c L hm y (h.old hy)) (fun y hy => put_either t' n' P' p' m' c' L' hm' y (h'.old hy)) hall cut x
  · have hk : Bt.ck t n L = 0 := by omega
    have hk' : Bt.ck t' n' L' = 0 := by omega
    have hl := (Bt.ck_ok hk).1
    have hl' := (Bt.ck_ok hk').1
    have hlen := Bt.ofS_len t n h.len h.es.ok
    have hlen' := Bt.ofS_len t' n' h'.len h'.es.ok
    rw [hm] at hlen
    rw [hm'] at hlen'
    have hiff := Bt.plain ht hn h.len h.es.ok hl ht' hn' h'.len h'.es.ok hl'
    refine plain_core (Bt.ofS t P n L) (Bt.ofS t' P' n' L') (56 + 56 * m) (56 + 56 * m') hlen hlen' (by omega) (by omega) (by omega) (Bt.ofS_byt t n h.byt h.es.ok) cut x hx _ _ _ _ m m' (smA_size t n _ h.len) (smA_size t' n' _ h'.len) (by omega) (by omega) w hc ⟨p, c, rfl⟩ ⟨p', c', rfl⟩
      (fun y hy => put_ok t n P p m c L hm y (h.old hy) hk) (fun y hy => put_ok t' n' P' p' m' c' L' hm' y (h'.old hy) hk') (fun j hj => Bt.cut ht hn h.len h.es.ok hl j (by omega)) (Bt.more ht hn h.len h.es.ok hl x) (decide (t = t' ∧ P = P' ∧ n = n' ∧ L = L')) ?_
      (fun y hy => samesum_any t t' n n' P P' p p' m m' c c' L L' hm hm' (by omega) y (h.old hy) (h'.old hy))
    rw [decide_eq_decide]
    exact hiff
end Go.Proofs.Ytkgefogkdmbciaa

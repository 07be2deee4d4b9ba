/-
  BatchPuts: the law walked.
-/
import Derived.Test.YtkgefogkdmbciaaBaQ3
namespace Go.Proofs.Ytkgefogkdmbciaa
open Go.RowKit

/-- Put, whatever it answers: a row of its own and a number. -/
def PutG (R : List Int) (m : Nat) (r : Int) (w : World) (e : Ending) (w' : World) : Prop :=
  ∃ p c, e = .returned (.tuple #[.slice p m c, .int .i64 r]) ∧ Hid (w'.ownsRow w.heap.size 5 1 (.slice p m c) m (U8s R)) ∧ Hid (Bs w' p c R) ∧ Hid (Below w.heap.size w w')
theorem putg_ok {R : List Int} {m : Nat} {w w' : World} {e : Ending} (h : PutOk R m w e w') : PutG R m 0 w e w' := h
theorem putg_no {r : Int} {w w' : World} {e : Ending} (h : PutNo r w e w') : PutG [] 0 r w e w' := ⟨none, 0, h.1, Lib.hid (by unfold U8s; exact World.ownsRow_nil _ _ _ _), Lib.hid (bs_none _), Lib.hid h.2⟩
theorem own_far {B n c : Nat} {p : Option Addr} {y : World} {R : List Int} (h : y.ownsRow B 5 1 (.slice p n c) n (U8s R)) : 0 < R.length → ∀ b o s, p = some ⟨b, o, s⟩ → B ≤ b := fun h0 b o s e => by
  subst e
  obtain ⟨h1, h2⟩ := h
  rcases h2 with ⟨h3, _⟩ | ⟨g, cap, cur, h3, h4, _⟩
  · cases h3
  · cases h3; exact h4
set_option maxHeartbeats 4000000 in
set_option maxRecDepth 100000 in
theorem puts_core (X : Array Value) (YY : Nat → Array Value) (R : List Int) (r : Int) (l m c : Nat) (p : Option Addr) (L : List Bt.En) (hX : X.size = 35) (hX1 : X.all (·.oneCell') = true) (hY : ∀ g, (YY g).size = 35) (h3 : m ≤ 300) (hR : R.length = l) (hl : l ≤ 1000) (w : World)
    (ha : ∀ g (z : World), z.heap[g]? = some (.cells X 26 (0, 0)) → z.cell? ⟨g, 34, none⟩ = some (.slice p m c))
    (hst : ∀ b (z : World) g, z.heap[b]? = some (.cells X 26 (0, 0)) → (z.setCell ⟨b, 34, none⟩ (.slice (some ⟨g, 0, none⟩) m (m + 5))).heap[b]? = some (.cells (YY g) 26 (0, 0)))
    (hlent : ∀ y, Below w.heap.size w y → Calls Try.prog 11 #[.slice p m c] y (LentE m L y))
    (hkept : ∀ y g, Below w.heap.size w y → EsRow y g (Bt.k5 L) → Calls Try.prog 18 #[.slice (some ⟨g, 0, none⟩) (m + 5) (m + 5), .slice p m c] y (BoSay true y))
    (hput : ∀ y g, EsRow y g (Bt.k5 L) → Calls Try.prog 12 #[.agg (YY g)] y (PutG R l r y))
    (href : ∀ y, Below w.heap.size w y → Calls Try.prog 13 #[.agg X] y (PutG R l r y))
    (hck : ∀ y g, EsRow y g (Bt.k5 L) → Calls Try.prog 14 #[.agg (YY g)] y (InSay r y))
    (hrc : ∀ y, Below w.heap.size w y → Calls Try.prog 15 #[.agg X] y (InSay r y)) :
    Calls Try.prog 3 #[.agg X] w (YesSay w) := by
  have HWK : Hid (∀ y, Calls Try.prog 10 #[] y (YesSay y)) := fun y => works_any y
  have HXS := Lib.hid hX
  have HX1 := Lib.hid hX1
  have HYS := Lib.hid hY
  have hsx := sm_info hX
  have HA := Lib.hid ha
  have HST := Lib.hid hst
  have HLE := Lib.hid hlent
  have HKE := Lib.hid hkept
  have HPU := Lib.hid hput
  have HRF := Lib.hid href
  have HCK := Lib.hid hck
  have HRC := Lib.hid hrc
  have HSB : Hid (∀ y q d q' d', Bs y q d R → Bs y q' d' R → Calls Try.prog 16 #[.slice q l d, .slice q' l d'] y (YesSay y)) := fun y q d q' d' h1 h2 => same_any R q q' l l d d' hR hR y h1.bat h2.bat (by omega)
  have HSA : Hid (∀ y q d q' d', BAt y q R → BAt y q' R → Calls Try.prog 16 #[.slice q l d, .slice q' l d'] y (YesSay y)) := fun y q d q' d' h1 h2 => same_any R q q' l l d d' hR hR y h1 h2 (by omega)
  have HL1 := Lib.hid hl
  have HR := Lib.hid hR
  have B0 : Hid (Below w.heap.size w (w.alloc (.cells X 26))) := (Below.refl _ w).alloc (Nat.le_refl _) _
  have G0 : Hid ((w.alloc (.cells X 26)).heap[w.heap.size]? = some (.cells X 26 (0, 0))) := heap_alloc_new w _
  clear hX hX1 hY hR hl ha hst hlent hkept hput href hck hrc
  go_enter Try.func3, Try.ntmps3
  go_upto_region 1 with (fail)
  change Code.wp _ _ _ _ (w.alloc (.cells X 26))
  obtain ⟨w0, hw0⟩ : ∃ y, y = w.alloc (.cells X 26) := ⟨_, rfl⟩
  rw [← hw0] at B0 G0 ⊢
  clear hw0
  have c34 := HA.out _ _ G0.out
  have hgt : ¬ (m : Int) > 300 := by omega
  go_upto_region 4 with (go_at_call 11; refine (HLE.out _ B0.out).mono ?_; rintro e1 w1 ⟨g, rfl, E1, HG1, K1⟩)
  have BW1 : Hid (Below w.heap.size w w1) := B0.out.trans (K1.out.mono B0.out.size)
  have G1 : Hid (w1.heap[w.heap.size]? = some (.cells X 26 (0, 0))) := (K1.out.block _ (lt_of_block G0.out)).trans G0.out
  clear c34 G0 B0 K1 HG1 HLE
  go_upto_region 5 with (first
    | ((with_reducible refine row_load _ _ _ _ _ _ _ ?_ G1.out Try.underlying26 ?_ (sm_info HXS.out) ?_); (exact rfl); (exact rfl))
    | ((with_reducible refine row_store _ _ _ _ _ _ _ ?_ ?_ (heap_alloc_new _ _) (sm_info HXS.out) ?_ HX1.out ?_); (exact rfl); (exact rfl); (rw [HXS.out]; rfl); intro w2 G2 ch2))
  have K2 : Hid (Below w1.heap.size w1 w2) := ch2.below ((Below.refl _ w1).alloc (Nat.le_refl _) _) (Nat.le_refl _)
  have BW2 : Hid (Below w.heap.size w w2) := BW1.out.trans (K2.out.mono BW1.out.size)
  have GX2 : Hid (w2.heap[w.heap.size]? = some (.cells X 26 (0, 0))) := (K2.out.block _ (lt_of_block G1.out)).trans G1.out
  have E2 : Hid (EsRow w2 g (Bt.k5 L)) := E1.out.old K2.out
  have NE : Hid (w.heap.size < w1.heap.size) := lt_of_block G1.out
  have NG : Hid (g < w1.heap.size) := lt_of_block E1.out
  clear ch2 K2 G1 E1
  obtain ⟨bx, hbx⟩ : ∃ b, w1.heap.size = b := ⟨_, rfl⟩
  rw [hbx] at G2 NE NG ⊢
  have HBX := Lib.hid hbx
  clear hbx BW1
  have c34 := HA.out _ _ GX2.out
  have d34 := HA.out _ _ G2.out
  have f34 := frozen_of_row w2 bx 34 _ _ G2.out
  have hm5 : (m : Int) ≤ ((m + 5 : Nat) : Int) := by omega
  go_upto_region 6 with (fail)
  change Code.wp _ _ _ _ (w2.setCell ⟨bx, 34, none⟩ (.slice (some ⟨g, 0, none⟩) m (m + 5)))
  have ch3 := Chg.setCell w2 ⟨bx, 34, none⟩ (.slice (some ⟨g, 0, none⟩) m (m + 5))
  have G3 := Lib.hid (HST.out bx w2 g G2.out)
  obtain ⟨w3, hw3⟩ : ∃ y, y = w2.setCell ⟨bx, 34, none⟩ (.slice (some ⟨g, 0, none⟩) m (m + 5)) := ⟨_, rfl⟩
  rw [← hw3] at ch3 G3 ⊢
  clear hw3
  have BW3 : Hid (Below w.heap.size w w3) := ch3.below BW2.out (Nat.le_of_lt NE.out)
  have E3 : Hid (EsRow w3 g (Bt.k5 L)) := E2.out.only ch3.only (Nat.ne_of_lt NG.out)
  have GX3 : Hid (w3.heap[w.heap.size]? = some (.cells X 26 (0, 0))) := (ch3.only.block _ (lt_of_block GX2.out) (Nat.ne_of_lt NE.out)).trans GX2.out
  have HPY : Hid (∀ y, EsRow y g (Bt.k5 L) → Calls Try.prog 12 #[.agg (YY g)] y (PutG R l r y)) := fun y hy => HPU.out y g hy
  have HCY : Hid (∀ y, EsRow y g (Bt.k5 L) → Calls Try.prog 14 #[.agg (YY g)] y (InSay r y)) := fun y hy => HCK.out y g hy
  have HYG := Lib.hid (HYS.out g)
  clear c34 d34 f34 ch3 BW2 E2 GX2 G2 HPU HCK HYS HST HBX
  generalize YY g = Y at *
  have TK := Lib.hid True.intro
  go_upto_region 9 with (first
    | ((with_reducible refine row_load _ _ _ _ _ _ _ ?_ G3.out Try.underlying26 ?_ (sm_info HYG.out) ?_); (exact rfl); (exact rfl))
    | (go_at_call 12; clear TK; refine (HPY.out _ E3.out).mono ?_; rintro e4 w4 ⟨p1, c1, rfl, O1, B1, K4⟩; have E4 : Hid (EsRow w4 g (Bt.k5 L)) := E3.out.old K4.out; have G4 : Hid (w4.heap[bx]? = some (.cells Y 26 (0, 0))) := (K4.out.block _ (lt_of_block G3.out)).trans G3.out)
    | ((with_reducible refine row_load _ _ _ _ _ _ _ ?_ G4.out Try.underlying26 ?_ (sm_info HYG.out) ?_); (exact rfl); (exact rfl))
    | (go_at_call 12; refine (HPY.out _ E4.out).mono ?_; rintro e5 w5 ⟨p2, c2, rfl, O2, B2, K5⟩; have K35 : Hid (Below w3.heap.size w3 w5) := K4.out.trans (K5.out.mono K4.out.size); have BW5 : Hid (Below w.heap.size w w5) := BW3.out.trans (K35.out.mono BW3.out.size); have GX5 : Hid (w5.heap[w.heap.size]? = some (.cells X 26 (0, 0))) := (K35.out.block _ (lt_of_block GX3.out)).trans GX3.out)
    | ((with_reducible refine row_load _ _ _ _ _ _ _ ?_ GX5.out Try.underlying26 ?_ (sm_info HXS.out) ?_); (exact rfl); (exact rfl))
    | (go_at_call 13; refine (HRF.out _ BW5.out).mono ?_; rintro e6 w6 ⟨p3, c3, rfl, O3, B3, K6⟩))
  have K56 : Hid (Below w4.heap.size w4 w6) := K5.out.trans (K6.out.mono K5.out.size)
  have K56s : Hid (w4.heap.size ≤ w6.heap.size) := K56.out.size
  have K36 : Hid (Below w3.heap.size w3 w6) := K35.out.trans (K6.out.mono K35.out.size)
  have BW6 : Hid (Below w.heap.size w w6) := BW3.out.trans (K36.out.mono BW3.out.size)
  have GG6 : Hid ((w6.heap[w.heap.size]? = some (.cells X 26 (0, 0)) ∧ w6.heap[bx]? = some (.cells Y 26 (0, 0)))) := ⟨(K36.out.block _ (lt_of_block GX3.out)).trans GX3.out, (K36.out.block _ (lt_of_block G3.out)).trans G3.out⟩
  have E6 : Hid (EsRow w6 g (Bt.k5 L)) := E3.out.old K36.out
  have O6 : Hid ((w6.ownsRow w3.heap.size 5 1 (.slice p1 l c1) l (U8s R))) := own_keepX O1.out K56.out
  have B16 : Hid (Bs w6 p1 c1 R) := B1.out.old K56.out
  have B26 : Hid (Bs w6 p2 c2 R) := B2.out.old K6.out
  have HN2 : Hid (0 < R.length → ∀ b o s, p2 = some ⟨b, o, s⟩ → w4.heap.size ≤ b) := own_far O2.out
  have HN3 : Hid (0 < R.length → ∀ b o s, p3 = some ⟨b, o, s⟩ → w4.heap.size ≤ b) := fun h b o s e => Nat.le_trans K5.out.size (own_far O3.out h b o s e)
  have HN1 : Hid (∀ b, (Value.slice p1 l c1).ownBlock = some b → w3.heap.size ≤ b ∧ b < w4.heap.size) := fun b hb => World.ownsRow.lt O1.out b hb
  clear O1 O2 O3 B1 B2 K4 K5 K6 K56 K35 BW5 GX5 G4 E4 G3 HPY HRF
  refine wp_region_any (by kernel_rfl) ?_
  change wpAny _ _ _ _ _ _ _ (World.drew _)
  have Gz : Hid ((w6.drew.heap[w.heap.size]? = some (.cells X 26 (0, 0)) ∧ w6.drew.heap[bx]? = some (.cells Y 26 (0, 0)))) := GG6.out
  have Ez : Hid (EsRow w6.drew g (Bt.k5 L)) := E6.out
  have Oz : Hid ((w6.drew.ownsRow w3.heap.size 5 1 (.slice p1 l c1) l (U8s R))) := O6.out
  have B1z : Hid (Bs w6.drew p1 c1 R) := B16.out.drew
  have B2z : Hid (Bs w6.drew p2 c2 R) := B26.out.drew
  have B3z : Hid (Bs w6.drew p3 c3 R) := B3.out.drew
  have Bz : Hid (Below w.heap.size w w6.drew) := BW6.out.drew
  have Kz : Hid (Below w3.heap.size w3 w6.drew) := K36.out.drew
  have Sz : Hid (w4.heap.size ≤ w6.drew.heap.size) := Nat.le_trans K56s.out (Nat.le_refl _)
  obtain ⟨z, hz⟩ : ∃ y, y = w6.drew := ⟨_, rfl⟩
  rw [← hz] at Gz Ez Oz B1z B2z B3z Bz Kz Sz ⊢
  clear hz
  refine wpAny_of_held (S := fun y => (y.heap[w.heap.size]? = some (.cells X 26 (0, 0)) ∧ y.heap[bx]? = some (.cells Y 26 (0, 0)))) _ _ _ _ ?_
  refine anyH_take 0 41 (.int .i64 r) Gz.out rfl (by kernel_rfl) (by kernel_rfl) (by kernel_rfl) (fun _ _ _ h => h) (by rfl) (by intro y hy; go_simp) ?_
  try simp only [Act.put, List.setIfInBounds_toArray, List.set_cons_zero, List.set_cons_succ]
  refine anyH_take 1 42 (.int .i64 r) Gz.out rfl (by kernel_rfl) (by kernel_rfl) (by kernel_rfl) (fun _ _ _ h => h) (by rfl) (by intro y hy; go_simp) ?_
  try simp only [Act.put, List.setIfInBounds_toArray, List.set_cons_zero, List.set_cons_succ]
  refine anyH_take 2 43 (.bool false) Gz.out rfl (by kernel_rfl) (by kernel_rfl) (by kernel_rfl) (fun _ _ _ h => h) (by rfl) (by intro y hy; go_simp) ?_
  try simp only [Act.put, List.setIfInBounds_toArray, List.set_cons_zero, List.set_cons_succ]
  refine anyH_take 3 44 (.bool false) Gz.out rfl (by kernel_rfl) (by kernel_rfl) (by kernel_rfl) (fun _ _ _ h => h) (by rfl) (by intro y hy; go_simp) ?_
  try simp only [Act.put, List.setIfInBounds_toArray, List.set_cons_zero, List.set_cons_succ]
  refine anyH_take 4 45 (.int .i64 r) Gz.out rfl (by kernel_rfl) (by kernel_rfl) (by kernel_rfl) (fun _ _ _ h => h) (by rfl) (by intro y hy; go_simp) ?_
  try simp only [Act.put, List.setIfInBounds_toArray, List.set_cons_zero, List.set_cons_succ]
  refine anyH_take 5 46 (.int .i64 r) Gz.out rfl (by kernel_rfl) (by kernel_rfl) (by kernel_rfl) (fun _ _ _ h => h) (by rfl) (by intro y hy; go_simp) ?_
  try simp only [Act.put, List.setIfInBounds_toArray, List.set_cons_zero, List.set_cons_succ]
  refine anyH_take 6 47 (.bool false) Gz.out rfl (by kernel_rfl) (by kernel_rfl) (by kernel_rfl) (fun _ _ _ h => h) (by rfl) (by intro y hy; go_simp) ?_
  try simp only [Act.put, List.setIfInBounds_toArray, List.set_cons_zero, List.set_cons_succ]
  refine anyH_take 7 48 (.bool false) Gz.out rfl (by kernel_rfl) (by kernel_rfl) (by kernel_rfl) (fun _ _ _ h => h) (by rfl) (by intro y hy; go_simp) ?_
  try simp only [Act.put, List.setIfInBounds_toArray, List.set_cons_zero, List.set_cons_succ]
  refine anyH_take 8 49 (.bool false) Gz.out rfl (by kernel_rfl) (by kernel_rfl) (by kernel_rfl) (fun _ _ _ h => h) (by rfl) (by intro y hy; go_simp) ?_
  try simp only [Act.put, List.setIfInBounds_toArray, List.set_cons_zero, List.set_cons_succ]
  refine anyH_take 9 50 (.agg Y) Gz.out rfl (by kernel_rfl) (by kernel_rfl) (by kernel_rfl) (fun _ _ _ h => h) (by rfl) (fun y hy => exec_arr _ _ bx 0 _ _ rfl (fun j u hu => by rw [cell_of_row y _ (0 + j) _ _ _ hy.2, Nat.zero_add]; simpa using hu) Try.underlying26 rfl (sm_info HYG.out)) ?_
  try simp only [Act.put, List.setIfInBounds_toArray, List.set_cons_zero, List.set_cons_succ]
  refine anyH_take 11 52 (.agg X) Gz.out rfl (by kernel_rfl) (by kernel_rfl) (by kernel_rfl) (fun _ _ _ h => h) (by rfl) (fun y hy => exec_arr _ _ w.heap.size 0 _ _ rfl (fun j u hu => by rw [cell_of_row y _ (0 + j) _ _ _ hy.1, Nat.zero_add]; simpa using hu) Try.underlying26 rfl (sm_info HXS.out)) ?_
  try simp only [Act.put, List.setIfInBounds_toArray, List.set_cons_zero, List.set_cons_succ]
  refine anyH_one 10 (by kernel_rfl) ?_
  refine wpOp_step rfl (fun Kc hKc => ?_)
  go_simp
  refine (HCY.out _ Ez.out).mono ?_
  rintro e10 w10 ⟨rfl, hb10⟩
  have BW10 : Hid (Below z.heap.size z w10) := hb10
  have G10 : Hid ((w10.heap[w.heap.size]? = some (.cells X 26 (0, 0)) ∧ w10.heap[bx]? = some (.cells Y 26 (0, 0)))) := ⟨(BW10.out.block _ (lt_of_block Gz.out.1)).trans Gz.out.1, (BW10.out.block _ (lt_of_block Gz.out.2)).trans Gz.out.2⟩
  dsimp only
  refine hKc _ _ ⟨G10.out, ?_⟩
  clear hKc Kc
  try simp only [Act.put, List.setIfInBounds_toArray, List.set_cons_zero, List.set_cons_succ]
  refine anyH_one 12 (by kernel_rfl) ?_
  refine wpOp_step rfl (fun Kc hKc => ?_)
  go_simp
  refine (HRC.out _ (Bz.out.trans (BW10.out.mono Bz.out.size))).mono ?_
  rintro e12 w12 ⟨rfl, hb12⟩
  have BW12 : Hid (Below z.heap.size z w12) := BW10.out.trans (hb12.mono BW10.out.size)
  have G12 : Hid ((w12.heap[w.heap.size]? = some (.cells X 26 (0, 0)) ∧ w12.heap[bx]? = some (.cells Y 26 (0, 0)))) := ⟨(BW12.out.block _ (lt_of_block Gz.out.1)).trans Gz.out.1, (BW12.out.block _ (lt_of_block Gz.out.2)).trans Gz.out.2⟩
  dsimp only
  refine hKc _ _ ⟨G12.out, ?_⟩
  clear hKc Kc
  try simp only [Act.put, List.setIfInBounds_toArray, List.set_cons_zero, List.set_cons_succ]
  refine anyH_take 13 54 (.bool false) G12.out rfl (by kernel_rfl) (by kernel_rfl) (by kernel_rfl) (fun _ _ _ h => h) (by rfl) (by intro y hy; go_simp) ?_
  try simp only [Act.put, List.setIfInBounds_toArray, List.set_cons_zero, List.set_cons_succ]
  refine anyH_take 14 55 (.bool false) G12.out rfl (by kernel_rfl) (by kernel_rfl) (by kernel_rfl) (fun _ _ _ h => h) (by rfl) (by intro y hy; go_simp) ?_
  try simp only [Act.put, List.setIfInBounds_toArray, List.set_cons_zero, List.set_cons_succ]
  refine anyH_take 15 56 (.bool false) G12.out rfl (by kernel_rfl) (by kernel_rfl) (by kernel_rfl) (fun _ _ _ h => h) (by rfl) (by intro y hy; go_simp) ?_
  try simp only [Act.put, List.setIfInBounds_toArray, List.set_cons_zero, List.set_cons_succ]
  refine anyH_take 16 57 (.slice p1 l c1) G12.out rfl (by kernel_rfl) (by kernel_rfl) (by kernel_rfl) (fun _ _ _ h => h) (by rfl) (by intro y hy; go_simp) ?_
  try simp only [Act.put, List.setIfInBounds_toArray, List.set_cons_zero, List.set_cons_succ]
  refine anyH_take 17 58 (.slice p3 l c3) G12.out rfl (by kernel_rfl) (by kernel_rfl) (by kernel_rfl) (fun _ _ _ h => h) (by rfl) (by intro y hy; go_simp) ?_
  try simp only [Act.put, List.setIfInBounds_toArray, List.set_cons_zero, List.set_cons_succ]
  refine anyH_one 18 (by kernel_rfl) ?_
  refine wpOp_step rfl (fun Kc hKc => ?_)
  go_simp
  refine (HSB.out _ _ _ _ _ (B1z.out.old BW12.out) (B3z.out.old BW12.out)).mono ?_
  rintro e18 w18 ⟨rfl, hb18⟩
  have BW18 : Hid (Below z.heap.size z w18) := BW12.out.trans (hb18.mono BW12.out.size)
  have G18 : Hid ((w18.heap[w.heap.size]? = some (.cells X 26 (0, 0)) ∧ w18.heap[bx]? = some (.cells Y 26 (0, 0)))) := ⟨(BW18.out.block _ (lt_of_block Gz.out.1)).trans Gz.out.1, (BW18.out.block _ (lt_of_block Gz.out.2)).trans Gz.out.2⟩
  dsimp only
  refine hKc _ _ ⟨G18.out, ?_⟩
  clear hKc Kc
  try simp only [Act.put, List.setIfInBounds_toArray, List.set_cons_zero, List.set_cons_succ]
  refine anyH_take 19 60 (.bool false) G18.out rfl (by kernel_rfl) (by kernel_rfl) (by kernel_rfl) (fun _ _ _ h => h) (by rfl) (by intro y hy; go_simp) ?_
  try simp only [Act.put, List.setIfInBounds_toArray, List.set_cons_zero, List.set_cons_succ]
  refine anyH_take 20 61 (.bool false) G18.out rfl (by kernel_rfl) (by kernel_rfl) (by kernel_rfl) (fun _ _ _ h => h) (by rfl) (by intro y hy; go_simp) ?_
  try simp only [Act.put, List.setIfInBounds_toArray, List.set_cons_zero, List.set_cons_succ]
  refine wpAnyH_done (by kernel_rfl) ?_ _
  have O18 : Hid ((w18.ownsRow w3.heap.size 5 1 (.slice p1 l c1) l (U8s R))) := own_keepX Oz.out BW18.out
  have K18 : Hid (Below w3.heap.size w3 w18) := Kz.out.trans (BW18.out.mono Kz.out.size)
  have BX18 : Hid (Below w.heap.size w w18) := Bz.out.trans (BW18.out.mono Bz.out.size)
  have A218 : Hid (BAt w18 p2 R) := (B2z.out.old BW18.out).bat
  have A318 : Hid (BAt w18 p3 R) := (B3z.out.old BW18.out).bat
  clear BW18 BW12 BW10 G18 G12 G10 hb18 hb12 hb10 B1z B2z B3z Oz Ez Kz Bz Sz HCY HRC HSB HYG
  go_upto_region 12 with (go_at_call 17; refine (spoiln_any (by have := HL1.out; omega) O18.out).mono ?_; rintro e19 w19 ⟨rfl, HS19⟩)
  have K19 : Hid (Below w3.heap.size w3 w19) := HS19.out.below K18.out K18.out.size (fun b hb => (HN1.out b hb).1)
  have BW19 : Hid (Below w.heap.size w w19) := HS19.out.below BX18.out BX18.out.size (fun b hb => Nat.le_trans BW3.out.size (HN1.out b hb).1)
  have E19 : Hid (EsRow w19 g (Bt.k5 L)) := E3.out.old K19.out
  have GX19 : Hid (w19.heap[w.heap.size]? = some (.cells X 26 (0, 0))) := (K19.out.block _ (lt_of_block GX3.out)).trans GX3.out
  have A219 : Hid (BAt w19 p2 R) := HS19.out.bat A218.out (fun h0 b hb b' o s e he => by have h1 := HN2.out h0 b' o s e; have h2 := (HN1.out b hb).2; omega)
  have A319 : Hid (BAt w19 p3 R) := HS19.out.bat A318.out (fun h0 b hb b' o s e he => by have h1 := HN3.out h0 b' o s e; have h2 := (HN1.out b hb).2; omega)
  clear HS19 K19 A218 A318 K18 BX18 O18 HN1 HN2 HN3 E3 GX3 BW3
  clear Gz GG6 E6 O6 B16 B26 B3 BW6 K36 K56s
  go_wp2_with (first
    | (go_at_call 16; refine (HSA.out _ _ _ _ _ A219.out A319.out).mono ?_; rintro e20 w20 ⟨rfl, hb20⟩; have BW20 : Hid (Below w.heap.size w w20) := BW19.out.trans (hb20.mono BW19.out.size); have E20 : Hid (EsRow w20 g (Bt.k5 L)) := E19.out.old hb20; have G20 : Hid (w20.heap[w.heap.size]? = some (.cells X 26 (0, 0))) := (hb20.block _ (lt_of_block GX19.out)).trans GX19.out; have c34 := HA.out _ _ G20.out)
    | (go_at_call 18; refine (HKE.out _ g BW20.out E20.out).mono ?_; rintro e21 w21 ⟨rfl, hb21⟩; have BW21 : Hid (Below w.heap.size w w21) := BW20.out.trans (hb21.mono BW20.out.size))
    | (go_at_call 10; refine (HWK.out _).mono ?_; rintro e22 w22 ⟨rfl, hb22⟩))
  go_ret
  exact ⟨rfl, BW21.out.trans (hb22.mono BW21.out.size)⟩
set_option maxHeartbeats 1000000 in
set_option maxRecDepth 100000 in
theorem puts_far (X : Array Value) (m c : Nat) (p : Option Addr) (hX : X.size = 35) (h3 : 300 < m) (w : World)
    (ha : ∀ g (z : World), z.heap[g]? = some (.cells X 26 (0, 0)) → z.cell? ⟨g, 34, none⟩ = some (.slice p m c)) :
    Calls Try.prog 3 #[.agg X] w (YesSay w) := by
  have HWK : Hid (∀ y, Calls Try.prog 10 #[] y (YesSay y)) := fun y => works_any y
  have hsx := sm_info hX
  have B0 : Hid (Below w.heap.size w (w.alloc (.cells X 26))) := (Below.refl _ w).alloc (Nat.le_refl _) _
  have c34 := ha _ _ (heap_alloc_new w (.cells X 26))
  clear hX ha
  go_enter Try.func3, Try.ntmps3
  go_upto_region 1 with (fail)
  change Code.wp _ _ _ _ (w.alloc (.cells X 26))
  obtain ⟨w0, hw0⟩ : ∃ y, y = w.alloc (.cells X 26) := ⟨_, rfl⟩
  rw [← hw0] at B0 c34 ⊢
  clear hw0
  have hgt : (m : Int) > 300 := by omega
  clear h3
  go_wp2_with (go_at_call 10; refine (HWK.out _).mono ?_; rintro e6 w6 ⟨rfl, hb6⟩)
  go_ret
  exact ⟨rfl, B0.out.trans (hb6.mono B0.out.size)⟩
theorem puts_any (t n : Int) (P : List Int) (p : Option Addr) (m c : Nat) (L : List Bt.En) (hm : L.length = m) (w : World) (h : Sv w P p c L) :
    Calls Try.prog 3 #[.agg (SmA t P n (.slice p m c))] w (YesSay w) := by
  have ha : ∀ g (z : World), z.heap[g]? = some (.cells (SmA t P n (.slice p m c)) 26 (0, 0)) → z.cell? ⟨g, 34, none⟩ = some (.slice p m c) := fun g z hz => by
    have a1 : SmAt z g t P n (.slice p m c) := hz
    exact a1.c34 h.len
  by_cases h3 : 300 < m
  · exact puts_far _ m c p (smA_size t n _ h.len) h3 w ha
  · have hv : ∀ y g, EsRow y g (Bt.k5 L) → Sv y P (some ⟨g, 0, none⟩) (m + 5) L := fun y g hg => by
      have e := es_take (hg.es (Bt.k5_ok h.es.ok) (c := m + 5) (by rw [Bt.k5_len, hm]; omega)) m
      unfold Bt.k5 at e
      rw [List.take_left' hm] at e
      exact ⟨h.len, h.byt, e⟩
    obtain ⟨R, l, r, hR, hl, hp, hr⟩ : ∃ R l r, R.length = l ∧ l ≤ 1000 ∧ (∀ y q d, Sv y P q d L → Calls Try.prog 12 #[.agg (SmA t P n (.slice q m d))] y (PutG R l r y)) ∧ (∀ y q d, Sv y P q d L → Calls Try.prog 13 #[.agg (SmA t P n (.slice q m d))] y (PutG R l r y)) ∧ Bt.ck t n L = r := by
      by_cases h0 : Bt.ck t n L = 0
      · have hl := (Bt.ck_ok h0).1
        exact ⟨Bt.ofS t P n L, 56 + 56 * m, 0, by rw [Bt.ofS_len t n h.len h.es.ok, hm], by omega, fun y q d hy => (put_ok t n P q m d L hm y hy h0).mono fun _ _ => putg_ok, fun y q d hy => (refput_ok t n P q m d L hm y hy h0).mono fun _ _ => putg_ok, h0⟩
      · exact ⟨[], 0, _, rfl, by omega, fun y q d hy => (put_no t n P q m d L hm y hy _ rfl h0).mono fun _ _ => putg_no, fun y q d hy => (refput_no t n P q m d L hm y hy _ rfl h0).mono fun _ _ => putg_no, rfl⟩
    obtain ⟨hr, hck⟩ := hr
    refine puts_core _ (fun g => SmA t P n (.slice (some ⟨g, 0, none⟩) m (m + 5))) R r l m c p L (smA_size t n _ h.len) (smA_one _ _ _ _ _ _) (fun g => smA_size t n _ h.len) (by omega) hR hl w ha (fun b z g hz => ?_)
      (fun y hy => lente_any L p m c hm (by omega) y (h.es.old hy)) (fun y g hy hg => kepte_any L g p m c hm (by omega) y hg (h.es.old hy)) (fun y g hg => hp y _ _ (hv y g hg)) (fun y hy => hr y p c (h.old hy))
      (fun y g hg => by rw [← hck]; exact check_any t n P _ m (m + 5) L hm y (hv y g hg)) (fun y hy => by rw [← hck]; exact refcheck_any t n P p m c L hm y (h.old hy))
    have a1 : SmAt z b t P n (.slice p m c) := hz
    exact a1.set h.len _
end Go.Proofs.Ytkgefogkdmbciaa

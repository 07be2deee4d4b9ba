/-
  BatchGets: the law walked.
-/
import Derived.Test.YtkgefogkdmbciaaBaR2
namespace Go.Proofs.Ytkgefogkdmbciaa
open Go.RowKit

set_option maxHeartbeats 4000000 in
set_option maxRecDepth 100000 in
theorem gets_core (B : List Int) (p : Option Addr) (n c : Nat) (hn : B.length = n) (hL : n ≤ 8192) (w : World) (hp : Bs w p c B) (XX : Value → Array Value) (m : Nat) (L : List Bt.En) (r : Int)
    (hX : ∀ v, (XX v).size = 35) (hX1 : ∀ q c, (XX (.slice q m c)).all (·.oneCell') = true) (hXc : ∀ v g (z : World), z.heap[g]? = some (.cells (XX v) 26 (0, 0)) → z.cell? ⟨g, 34, none⟩ = some v)
    (hget : ∀ y q d, Bs y q d B → Calls Try.prog 20 #[.slice q n d] y (fun e w' => ∃ q c, e = .returned (.tuple #[.agg (XX (.slice q m c)), .int .i64 r]) ∧ Hid (EsO y.heap.size w' (.slice q m c) L) ∧ Hid (Below y.heap.size y w')))
    (href : ∀ y, Below w.heap.size w y → Calls Try.prog 21 #[.slice p n c] y (fun e w' => ∃ q c, e = .returned (.tuple #[.agg (XX (.slice q m c)), .int .i64 r]) ∧ Hid (EsO y.heap.size w' (.slice q m c) L) ∧ Hid (Below y.heap.size y w')))
    (hsame : ∀ y A A' q q' c c', EsO A y (.slice q m c) L → EsO A' y (.slice q' m c') L → Calls Try.prog 22 #[.agg (XX (.slice q m c)), .agg (XX (.slice q' m c'))] y (YesSay y))
    (hspe : ∀ A y v, EsO A y v L → Calls Try.prog 24 #[v] y (SpSay v y)) :
    Calls Try.prog 4 #[.slice p n c] w (YesSay w) := by
  have HWK : Hid (∀ y, Calls Try.prog 10 #[] y (YesSay y)) := fun y => works_any y
  have HLN : Hid (∀ y, Below w.heap.size w y → Calls Try.prog 19 #[.slice p n c] y (fun e w' => ∃ g, e = .returned (.slice (some ⟨g, 0, none⟩) (n + 5) (n + 5)) ∧ Hid (y.heap.size ≤ g) ∧ Hid (w'.heap[g]? = some (.cells ((mk5 B).map (Value.int .u8)).toArray 5 (0, 0))) ∧ Hid (Below y.heap.size y w'))) := fun y hy => lentn_any B n hn (by omega) p c y (hp.old hy)
  have HKB : Hid (∀ y g, Below w.heap.size w y → y.heap[g]? = some (.cells ((mk5 B).map (Value.int .u8)).toArray 5 (0, 0)) → Calls Try.prog 23 #[.slice (some ⟨g, 0, none⟩) (n + 5) (n + 5), .slice p n c] y (YesSay y)) := fun y g hy hg => keptn_any B n hn (by omega) g p c y hg (hp.old hy)
  have HSB : Hid (∀ y g, y.heap[g]? = some (.cells ((mk5 B).map (Value.int .u8)).toArray 5 (0, 0)) → Calls Try.prog 17 #[.slice (some ⟨g, 0, none⟩) (n + 5) (n + 5)] y (fun e w' => e = .returned (.tuple #[]) ∧ Only g y w')) := fun y g hg => spoil_cells g (n + 5) (n + 5) _ (mk5 B) (by rw [mk5_len, hn]) (by omega) y hg (fun j hj => by
    have h1 : (mk5 B).length = n + 5 := by rw [mk5_len, hn]
    rw [List.getElem?_toArray, List.getElem?_map, List.getD_eq_getElem?_getD, List.getElem?_eq_getElem (by omega)]
    rfl)
  have HBB : Hid (∀ y g, y.heap[g]? = some (.cells ((mk5 B).map (Value.int .u8)).toArray 5 (0, 0)) → Bs y (some ⟨g, 0, none⟩) (n + 5) B) := fun y g hg => by
    have h := lent_bs (L := B) (by omega) hg hp.bat.1
    rw [hn] at h
    exact h
  have HGE : Hid (∀ y g, y.heap[g]? = some (.cells ((mk5 B).map (Value.int .u8)).toArray 5 (0, 0)) → Calls Try.prog 20 #[.slice (some ⟨g, 0, none⟩) n (n + 5)] y (fun e w' => ∃ q c, e = .returned (.tuple #[.agg (XX (.slice q m c)), .int .i64 r]) ∧ Hid (EsO y.heap.size w' (.slice q m c) L) ∧ Hid (Below y.heap.size y w'))) := fun y g hg => hget y _ _ (HBB.out y g hg)
  have HRF := Lib.hid href
  have HSS := Lib.hid hsame
  have HSE := Lib.hid hspe
  have HXS := Lib.hid hX
  have HX1 := Lib.hid hX1
  have HXC := Lib.hid hXc
  have hZS := sm_info (A := ZSm.toArray) rfl
  generalize ((mk5 B).map (Value.int .u8)).toArray = MB at *
  clear hn hp hget href hsame hspe hX hX1 hXc HBB
  have hgt : ¬ (n : Int) > 8192 := by omega
  have hcap : (n : Int) ≤ ((n + 5 : Nat) : Int) := by omega
  go_enter Try.func4, Try.ntmps4
  go_upto_region 4 with (go_at_call 19; refine (HLN.out _ (Below.refl _ _)).mono ?_; rintro e1 w1 ⟨g, rfl, HG1, R1, K1⟩)
  have HGW : Hid (w.heap.size ≤ g ∧ g < w1.heap.size) := ⟨HG1.out, lt_of_block R1.out⟩
  have TK := Lib.hid True.intro
  go_upto_region 5 with (first
    | (go_at_call 20; refine (HGE.out _ _ R1.out).mono ?_; rintro e2 w2 ⟨q1, c1, rfl, O2, K2⟩)
    | ((with_reducible refine row_store _ _ _ _ _ _ (XX (.slice q1 m c1)) ?_ ?_ (heap_alloc_new _ _) (sm_info (HXS.out _)) ?_ (HX1.out _ _) ?_); (exact rfl); (exact rfl); (rw [HXS.out]; rfl); intro w3 G3 ch3))
  have L3 : Hid (Below w2.heap.size w2 w3) := ch3.below ((Below.refl _ w2).alloc (Nat.le_refl _) _) (Nat.le_refl _)
  have K3 : Hid (Below w1.heap.size w1 w3) := K2.out.trans (L3.out.mono K2.out.size)
  have R3 : Hid (w3.heap[g]? = some (.cells MB 5 (0, 0))) := (K3.out.block _ HGW.out.2).trans R1.out
  have O3 : Hid (EsO w1.heap.size w3 (.slice q1 m c1) L) := O2.out.old L3.out
  have HO1 : Hid (∀ b, (Value.slice q1 m c1).ownBlock = some b → w1.heap.size ≤ b ∧ b < w2.heap.size) := fun b hb => World.ownsRow.lt O2.out b hb
  have HB4 : Hid (w1.heap.size ≤ w2.heap.size ∧ w2.heap.size < w3.heap.size) := ⟨K2.out.size, lt_of_block G3.out⟩
  have BW3 : Hid (Below w.heap.size w w3) := K1.out.trans (K3.out.mono K1.out.size)
  obtain ⟨b4, hb4⟩ : ∃ b, w2.heap.size = b := ⟨_, rfl⟩
  rw [hb4] at G3 HO1 HB4 ⊢
  clear hb4 ch3 O2 K2 L3 K3 R1 K1 HG1 TK HLN
  go_upto_region 6 with (first
    | (go_at_call 20; refine (HGE.out _ _ R3.out).mono ?_; rintro e4 w4 ⟨q2, c2, rfl, O4, K4⟩)
    | ((with_reducible refine row_store _ _ _ _ _ _ (XX (.slice q2 m c2)) ?_ ?_ (heap_alloc_new _ _) (sm_info (HXS.out _)) ?_ (HX1.out _ _) ?_); (exact rfl); (exact rfl); (rw [HXS.out]; rfl); intro w5 G5 ch5))
  have L5 : Hid (Below w4.heap.size w4 w5) := ch5.below ((Below.refl _ w4).alloc (Nat.le_refl _) _) (Nat.le_refl _)
  have K5 : Hid (Below w3.heap.size w3 w5) := K4.out.trans (L5.out.mono K4.out.size)
  have O5 : Hid (EsO w3.heap.size w5 (.slice q2 m c2) L) := O4.out.old L5.out
  have HO2 : Hid (∀ b, (Value.slice q2 m c2).ownBlock = some b → w3.heap.size ≤ b) := fun b hb => (World.ownsRow.lt O4.out b hb).1
  have HB6 : Hid (w3.heap.size ≤ w4.heap.size) := K4.out.size
  have BW5 : Hid (Below w.heap.size w w5) := BW3.out.trans (K5.out.mono BW3.out.size)
  obtain ⟨b6, hb6⟩ : ∃ b, w4.heap.size = b := ⟨_, rfl⟩
  rw [hb6] at G5 HB6 ⊢
  clear hb6 ch5 O4 K4 L5 HGE
  go_upto_region 7 with (first
    | (go_at_call 21; refine (HRF.out _ BW5.out).mono ?_; rintro e6 w6 ⟨q3, c3, rfl, O6, K6⟩)
    | ((with_reducible refine row_store _ _ _ _ _ _ (XX (.slice q3 m c3)) ?_ ?_ (heap_alloc_new _ _) (sm_info (HXS.out _)) ?_ (HX1.out _ _) ?_); (exact rfl); (exact rfl); (rw [HXS.out]; rfl); intro w7 G7 ch7))
  have L7 : Hid (Below w6.heap.size w6 w7) := ch7.below ((Below.refl _ w6).alloc (Nat.le_refl _) _) (Nat.le_refl _)
  have K57 : Hid (Below w5.heap.size w5 w7) := K6.out.trans (L7.out.mono K6.out.size)
  have K37 : Hid (Below w3.heap.size w3 w7) := K5.out.trans (K57.out.mono K5.out.size)
  have O7 : Hid (EsO w5.heap.size w7 (.slice q3 m c3) L) := O6.out.old L7.out
  have O27 : Hid (EsO w3.heap.size w7 (.slice q2 m c2) L) := O5.out.old K57.out
  have O17 : Hid (EsO w1.heap.size w7 (.slice q1 m c1) L) := O3.out.old K37.out
  have HO3 : Hid (∀ b, (Value.slice q3 m c3).ownBlock = some b → w3.heap.size ≤ b) := fun b hb => Nat.le_trans K5.out.size (World.ownsRow.lt O6.out b hb).1
  have HB8 : Hid (w3.heap.size ≤ w6.heap.size) := Nat.le_trans K5.out.size K6.out.size
  have BW7 : Hid (Below w.heap.size w w7) := BW3.out.trans (K37.out.mono BW3.out.size)
  have R7 : Hid (w7.heap[g]? = some (.cells MB 5 (0, 0))) := (K37.out.block _ (lt_of_block R3.out)).trans R3.out
  have G37 : Hid (w7.heap[b4]? = some (.cells (XX (.slice q1 m c1)) 26 (0, 0))) := (K37.out.block _ (lt_of_block G3.out)).trans G3.out
  have G57 : Hid (w7.heap[b6]? = some (.cells (XX (.slice q2 m c2)) 26 (0, 0))) := (K57.out.block _ (lt_of_block G5.out)).trans G5.out
  obtain ⟨b8, hb8⟩ : ∃ b, w6.heap.size = b := ⟨_, rfl⟩
  rw [hb8] at G7 HB8 ⊢
  clear hb8 ch7 O6 K6 L7 K57 K37 O5 O3 K5 G5 G3 R3 BW5 BW3 HRF
  have TK := Lib.hid True.intro
  go_upto_region 9 with (first
    | ((with_reducible refine row_load_g _ _ _ _ _ _ _ ?_ ?_ G37.out Try.underlying26 ?_ (sm_info (HXS.out _)) ?_); (exact rfl); (exact rfl); (exact rfl))
    | ((with_reducible refine row_load_g _ _ _ _ _ _ _ ?_ ?_ G7.out Try.underlying26 ?_ (sm_info (HXS.out _)) ?_); (exact rfl); (exact rfl); (exact rfl))
    | (go_at_call 22; refine (HSS.out _ _ _ _ _ _ _ O17.out O7.out).mono ?_; rintro e8 w8 ⟨rfl, hb8⟩; have BW8 : Hid (Below w.heap.size w w8) := BW7.out.trans (hb8.mono BW7.out.size); have R8 : Hid (w8.heap[g]? = some (.cells MB 5 (0, 0))) := (hb8.block _ (lt_of_block R7.out)).trans R7.out)
    | (go_at_call 23; refine (HKB.out _ _ BW8.out R8.out).mono ?_; rintro e9 w9 ⟨rfl, hb9⟩))
  have K79 : Hid (Below w7.heap.size w7 w9) := hb8.trans (hb9.mono hb8.size)
  have BW9 : Hid (Below w.heap.size w w9) := BW7.out.trans (K79.out.mono BW7.out.size)
  have R9 : Hid (w9.heap[g]? = some (.cells MB 5 (0, 0))) := (K79.out.block _ (lt_of_block R7.out)).trans R7.out
  have G39 : Hid (w9.heap[b4]? = some (.cells (XX (.slice q1 m c1)) 26 (0, 0))) := (K79.out.block _ (lt_of_block G37.out)).trans G37.out
  have G59 : Hid (w9.heap[b6]? = some (.cells (XX (.slice q2 m c2)) 26 (0, 0))) := (K79.out.block _ (lt_of_block G57.out)).trans G57.out
  have G79 : Hid (w9.heap[b8]? = some (.cells (XX (.slice q3 m c3)) 26 (0, 0))) := (K79.out.block _ (lt_of_block G7.out)).trans G7.out
  have O19 := Lib.hid (O17.out.old K79.out)
  have O29 := Lib.hid (O27.out.old K79.out)
  have O39 := Lib.hid (O7.out.old K79.out)
  clear hb8 hb9 R8 BW8 K79 R7 BW7 G37 G57 G7 O17 O27 O7 HKB TK
  have c34 := HXC.out _ _ _ G39.out
  go_upto_region 10 with (go_at_call 24; refine (HSE.out _ _ _ O19.out).mono ?_; rintro e10 w10 ⟨rfl, S10⟩)
  have R10 : Hid (w10.heap[g]? = some (.cells MB 5 (0, 0))) := (S10.out.blk (lt_of_block R9.out) (fun b hb e => by have := (HO1.out b hb).1; have := HGW.out; omega)).trans R9.out
  have G5a : Hid (w10.heap[b6]? = some (.cells (XX (.slice q2 m c2)) 26 (0, 0))) := (S10.out.blk (lt_of_block G59.out) (fun b hb e => by have := (HO1.out b hb).2; have := HB4.out; have := HB6.out; omega)).trans G59.out
  have G7a : Hid (w10.heap[b8]? = some (.cells (XX (.slice q3 m c3)) 26 (0, 0))) := (S10.out.blk (lt_of_block G79.out) (fun b hb e => by have := (HO1.out b hb).2; have := HB4.out; have := HB8.out; omega)).trans G79.out
  have O2a : Hid (EsO w3.heap.size w10 (.slice q2 m c2) L) := O29.out.keep (fun b hb => S10.out.blk (World.ownsRow.lt O29.out b hb).2 (fun b' hb' e => by have := (HO1.out b' hb').2; have := HB4.out; have := HO2.out b hb; omega))
  have O3a : Hid (EsO w5.heap.size w10 (.slice q3 m c3) L) := O39.out.keep (fun b hb => S10.out.blk (World.ownsRow.lt O39.out b hb).2 (fun b' hb' e => by have := (HO1.out b' hb').2; have := HB4.out; have := HO3.out b hb; omega))
  have BWa : Hid (Below w.heap.size w w10) := S10.out.below BW9.out BW9.out.size (fun b hb => by have := (HO1.out b hb).1; have := HGW.out; omega)
  clear S10 R9 G59 G79 G39 O19 O29 O39 BW9 c34 HSE
  go_upto_region 11 with (go_at_call 17; refine (HSB.out _ _ R10.out).mono ?_; rintro e11 w11 ⟨rfl, S11⟩)
  have G5b : Hid (w11.heap[b6]? = some (.cells (XX (.slice q2 m c2)) 26 (0, 0))) := (S11.block _ (lt_of_block G5a.out) (by have := HGW.out; have := HB4.out; have := HB6.out; omega)).trans G5a.out
  have G7b : Hid (w11.heap[b8]? = some (.cells (XX (.slice q3 m c3)) 26 (0, 0))) := (S11.block _ (lt_of_block G7a.out) (by have := HGW.out; have := HB4.out; have := HB8.out; omega)).trans G7a.out
  have O2b : Hid (EsO w3.heap.size w11 (.slice q2 m c2) L) := O2a.out.only S11 (by have := HGW.out; have := HB4.out; omega)
  have O3b : Hid (EsO w5.heap.size w11 (.slice q3 m c3) L) := O3a.out.keep (fun b hb => S11.block _ (World.ownsRow.lt O3a.out b hb).2 (by have := HGW.out; have := HB4.out; have := HO3.out b hb; omega))
  have BWb : Hid (Below w.heap.size w w11) := S11.below BWa.out HGW.out.1 BWa.out.size
  clear S11 R10 G5a G7a O2a O3a BWa HSB
  go_wp2_with (first
    | ((with_reducible refine row_load _ _ _ _ _ _ _ ?_ G5b.out Try.underlying26 ?_ (sm_info (HXS.out _)) ?_); (exact rfl); (exact rfl))
    | ((with_reducible refine row_load _ _ _ _ _ _ _ ?_ G7b.out Try.underlying26 ?_ (sm_info (HXS.out _)) ?_); (exact rfl); (exact rfl))
    | (go_at_call 22; refine (HSS.out _ _ _ _ _ _ _ O2b.out O3b.out).mono ?_; rintro e12 w12 ⟨rfl, hb12⟩; have BWc : Hid (Below w.heap.size w w12) := BWb.out.trans (hb12.mono BWb.out.size))
    | (go_at_call 10; refine (HWK.out _).mono ?_; rintro e13 w13 ⟨rfl, hb13⟩))
  go_ret
  exact ⟨rfl, BWc.out.trans (hb13.mono BWc.out.size)⟩
set_option maxHeartbeats 1000000 in
set_option maxRecDepth 100000 in
theorem gets_far (p : Option Addr) (n c : Nat) (hL : 8192 < n) (w : World) : Calls Try.prog 4 #[.slice p n c] w (YesSay w) := by
  have HWK : Hid (∀ y, Calls Try.prog 10 #[] y (YesSay y)) := fun y => works_any y
  have hgt : (n : Int) > 8192 := by omega
  clear hL
  go_enter Try.func4, Try.ntmps4
  go_wp2_with (go_at_call 10; refine (HWK.out _).mono ?_; rintro e13 w13 ⟨rfl, hb13⟩)
  go_ret
  exact ⟨rfl, hb13⟩
theorem gets_any (B : List Int) (p : Option Addr) (c : Nat) (w : World) (hp : Bs w p c B) : Calls Try.prog 4 #[.slice p B.length c] w (YesSay w) := by
  by_cases hL : 8192 < B.length
  · exact gets_far p _ c hL w
  · obtain ⟨t, P, k, m, L, r, h1, h2, h3, h4, h5, h6, h7⟩ := gets_alike B B.length rfl (by omega) hp.bat.1
    exact gets_core B p B.length c rfl (by omega) w hp (fun v => SmA t P k v) m L r (fun v => smA_size t k v h1) (fun q d => smA_one _ _ _ _ _ _) (fun v g z hz => SmAt.c34 (y := z) (g := g) (t := t) (P := P) (n := k) (v := v) hz h1)
      h6 (fun y hy => h7 y p c (hp.old hy)) (fun y A A' q q' d d' e e' => same_own h1 h2 h3 h4 (by omega) y A A' q q' d d' e e') (fun A y v hv => spoile_own hv h3 (by omega))
end Go.Proofs.Ytkgefogkdmbciaa

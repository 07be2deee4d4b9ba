/-
  Contract: rillref01.Of is the digest.
-/
import Derived.Test.YtjidkkehhglahaaDoorShaX
import Derived.Test.YtjidkkehhglahaaDoorShaI
namespace Go.Proofs.YtjidkkehhglahaaDoor
open Go.RowKit

theorem first_any (w : World) : Calls Tryd.prog 40 #[] w fun e w' => ∃ g c, e = .returned (.slice (some ⟨g, 0, none⟩) 8 c) ∧ XAt w' g Sha.init ∧ Below w.heap.size w w' := by
  go_enter Tryd.func40, Tryd.ntmps40
  go_wp2
  go_ret
  exact ⟨w.heap.size, 8, rfl, xat_new w _ _ _ _ _ _ _ _ _ _, (Below.refl _ w).alloc (Nat.le_refl _) _⟩

theorem sb_dg (s : Sha.St) : sbK s.ints 32 = Sha.dgK s 8 := by
  unfold sbK Sha.dgK
  simp [List.range_succ, sb_eq, Sha.St.ints, Sha.b4, List.flatMap_cons]
/-- The text with its ending. -/
def tx (L : List Int) : List Int := L ++ Sha.pad L.length
theorem tx_rows (L : List Int) : (tx L).length = 64 * ((tx L).length / 64) := by
  have := Sha.pad_rows L.length
  have e : (tx L).length = L.length + (Sha.pad L.length).length := by unfold tx; simp
  rw [← e] at this
  omega
theorem tx_byt (L : List Int) (h : Sha.Byt L) : Sha.Byt (tx L) := by unfold tx; exact Sha.byt_append h (Sha.pad_byt _)
theorem tx_len (L : List Int) : (tx L).length ≤ L.length + 72 := by
  unfold tx
  rw [List.length_append, Sha.pad_len]
  unfold Sha.zs
  omega
theorem tx_pos (L : List Int) : 0 < (tx L).length := by
  unfold tx
  rw [List.length_append, Sha.pad_len]
  omega
theorem tx_dg (L : List Int) : sbK (Sha.stN (tx L) ((tx L).length / 64)).ints 32 = Sha.dg L := by
  rw [sb_dg, Sha.dg_eq]
  rfl
theorem u8_at {w : World} {B n g c : Nat} {l : List Int} (h : w.ownsRow B 5 1 (.slice (some ⟨g, 0, none⟩) n c) n (U8s l)) (j : Nat) (hj : j < n) : w.cell? ⟨g, j, none⟩ = some (.int .u8 (l.getD j 0)) := by
  have hl : (U8s l).length = n := by have := h.1; simpa using this
  rw [h.cellAt j (by omega)]
  unfold U8s at *
  simp only [List.length_map] at hl
  rw [List.getElem?_map, List.getElem?_eq_getElem (by omega), List.getD_eq_getElem?_getD, List.getElem?_eq_getElem (by omega)]
  rfl
theorem own_cap {w : World} {B n g c : Nat} {e : TypeId} {xs : List Value} (h : w.ownsRow B e 1 (.slice (some ⟨g, 0, none⟩) n c) n xs) : n ≤ c ∧ c ≤ maxLen := by
  rcases h.2 with ⟨h1, _⟩ | ⟨g', cap, cur, h1, _, _, h2, h3, _⟩
  · cases h1
  · cases h1; exact ⟨h2, h3⟩
attribute [irreducible] tx

set_option maxHeartbeats 2000000 in
set_option maxRecDepth 100000 in
theorem ref_of_any (L : List Int) (p : Option Addr) (cap : Nat) (w : World) (hb : ∀ g, w.heap.size ≤ g → BytesAt w g p L) (hL : L.length ≤ 1000000) (ht : Tab w 1) :
    Calls Tryd.prog 26 #[.slice p L.length cap] w (SumSay L w) := by
  have Ht := Lib.hid ht; clear ht
  have hby : Sha.Byt L := (hb w.heap.size (Nat.le_refl _)).1
  have HR : Hid (∀ w', Below w.heap.size w w' → Calls Tryd.prog 39 #[.slice p L.length cap] w' fun e w'' => ∃ v, e = .returned v ∧ w''.ownsRow w'.heap.size 5 1 v (tx L).length (U8s (tx L)) ∧ Below w'.heap.size w' w'') := fun w' hbw => by
    have e : tx L = Rl L 8 := by rw [rl_eq]; unfold tx; rfl
    rw [e]
    by_cases h0 : 0 < L.length
    · obtain ⟨ab, ao, hp, hne, hc⟩ := (hb w.heap.size (Nat.le_refl _)).2 h0
      have hlt : ab < w.heap.size := World.block_lt_of_cell? w _ (hc 0 h0)
      refine rows_any p ab ao cap L (fun _ => hp) hL w' (Nat.lt_of_lt_of_le hlt hbw.size) (fun j hj => ?_)
      exact (hbw.cell hlt).trans (hc j hj)
    · exact rows_any p 0 0 cap L (fun h => absurd h h0) hL w' (Nat.lt_of_le_of_lt (Nat.zero_le _) (Nat.lt_of_lt_of_le Ht.out.lt hbw.size)) (fun j hj => by omega)
  have HBY := Lib.hid (tx_byt L hby)
  have htl := tx_len L
  have htr := tx_rows L
  have htp := tx_pos L
  have HDG := Lib.hid (tx_dg L)
  clear hb hby
  generalize tx L = T at *
  generalize hq : T.length / 64 = q at *
  clear hq
  go_enter Tryd.func26, Tryd.ntmps26
  go_upto_region 2 with (go_at_call 39; refine (HR.out _ ((Below.refl _ w).alloc (Nat.le_refl _) _)).mono ?_; rintro e w1 ⟨v, rfl, hown1, hb1⟩; have HO1 := Lib.hid hown1; have HB1 := Lib.hid hb1; clear hown1 hb1)
  have RES1 : Hid (w1.heap[w.heap.size]? = some (.cells (List.replicate 32 (Value.int .u8 0)).toArray 30 (0, 0))) := by
    show _ = _
    rw [HB1.out.block _ (by simp)]
    exact heap_alloc_new w _
  have BW1 : Hid (Below w.heap.size w w1) := ((Below.refl _ w).alloc (Nat.le_refl _) _).trans (HB1.out.mono (by simp))
  obtain ⟨gr, cr, hv⟩ := own_some HO1.out htp
  subst hv
  obtain ⟨hcr1, hcr2⟩ := own_cap HO1.out
  have HTc : Hid (∀ w', Below w1.heap.size w1 w' → ∀ j, j < T.length → w'.cell? ⟨gr, j, none⟩ = some (.int .u8 (T.getD j 0))) := fun w' h j hj => by
    have h1 := u8_at HO1.out j hj
    exact (h.cell (World.block_lt_of_cell? w1 ⟨gr, j, none⟩ h1)).trans h1
  have hgr : gr < w1.heap.size := World.block_lt_of_cell? w1 ⟨gr, 0, none⟩ (u8_at HO1.out 0 htp)
  have HT1 : Hid (Tab w1 1) := Ht.out.below BW1.out Ht.out.lt
  clear HO1 HB1 HR
  go_upto_region 3 with (go_at_call 40; refine (first_any _).mono ?_; rintro e w2 ⟨gs, cs, rfl, hx2, hb2⟩)
  have HX2 := Lib.hid hx2
  have HB2 := Lib.hid hb2
  clear hx2 hb2
  go_wp2
  go_loopw [4, 5] (fun v4 v5 wr => ∃ j : Nat, j ≤ q ∧ v5 = .int .i64 (64 * (j : Int)) ∧ ∃ gs cs, v4 = .slice (some ⟨gs, 0, none⟩) 8 cs ∧ Hid (XAt wr gs (Sha.stN T j)) ∧ Hid (Below w1.heap.size w1 wr)) (fun _ v5 _ => 64 * q - (intOf v5).toNat)
  case atStart => exact ⟨0, by omega, rfl, gs, cs, rfl, by rw [Sha.stN]; exact HX2.out, HB2.out⟩
  case round =>
    clear HX2 HB2
    obtain ⟨j, hj, rfl, gs, cs, hv4, HX, HB⟩ := hrel
    subst hv4
    by_cases hlt : j < q
    · have hne : ¬ cr = 64 * j := by omega
      have HCL : Hid (∀ w', Below w1.heap.size w1 w' → ∀ k, k < 64 → w'.cell? ⟨gr, 64 * j + k, none⟩ = some (.int .u8 (Sha.row T j k))) := fun w' h k hk => HTc.out w' h (64 * j + k) (by omega)
      have HRB : Hid (∀ i, i < 64 → 0 ≤ Sha.row T j i ∧ Sha.row T j i ≤ 255) := fun i _ => Sha.byt_getD HBY.out _
      go_wp2_with (go_at_call 41; refine (ref_take_any (Sha.stN T j) gs cs gr (64 * j) _ (Sha.row T j) _ HX.out (Nat.lt_of_lt_of_le hgr HB.out.size) (by omega) (HCL.out _ HB.out) HRB.out (HT1.out.below HB.out HT1.out.lt)).mono ?_; rintro e w3 ⟨g3, c3, rfl, hx3, hb3⟩)
      refine ⟨⟨j + 1, by omega, by congr 1, g3, c3, rfl, ?_, ?_⟩, by simp [intOf]; omega⟩
      · show XAt _ _ _; rw [Sha.stN]; exact hx3
      · exact HB.out.trans (hb3.mono HB.out.size)
    · have E : j = q := by omega
      subst E
      have HXL := HX
      generalize wr = wL at *
      have BWL : Hid (Below w.heap.size w wL) := BW1.out.trans (HB.out.mono BW1.out.size)
      have RESL : Hid (wL.heap[w.heap.size]? = some (.cells (List.replicate 32 (Value.int .u8 0)).toArray 30 (0, 0))) := by
        show _ = _
        rw [HB.out.block _ (lt_of_block RES1.out)]
        exact RES1.out
      have hwl : w.heap.size < wL.heap.size := lt_of_block RESL.out
      obtain ⟨l, hl⟩ : ∃ l, Hid (l = (Sha.stN T j).ints) := ⟨_, rfl⟩
      have hl8 : Hid (l.length = 8) := by rw [hl.out]; rfl
      have HIL : Hid (il (Sha.stN T j) = l) := by rw [hl.out]; unfold il Sha.St.ints; rfl
      have HD2 : Hid (sbK l 32 = Sha.dg L) := by rw [hl.out]; exact HDG
      clear hl HX HB HDG HT1 HTc BW1 RES1 HBY htl htr hgr hcr1 hcr2 htp
      generalize Sha.stN T j = X at *
      go_wp2
      go_loopw [7] (fun v7 wr => ∃ k : Nat, k ≤ 32 ∧ v7 = .int .i64 k ∧ Hid (wr.heap[wL.heap.size]? = some (.cells ((sbK l k).map (Value.int .u8)).toArray 30 (0, 0))) ∧ Hid (Below wL.heap.size wL wr)) (fun v7 _ => 32 - (intOf v7).toNat)
      case atStart =>
        refine ⟨0, by omega, rfl, ?_, ?_⟩
        · show _ = _; rw [sbK_zero]; exact heap_alloc_new _ _
        · exact (Below.refl _ _).alloc (Nat.le_refl _) _
      case round =>
        obtain ⟨k, hk, rfl, HG, HB⟩ := hrel
        by_cases hlt : k < 32
        · have cw : wr.cell? ⟨gs, k / 4, none⟩ = some (.int .u32 (l.getD (k / 4) 0)) := by
            rw [← HIL.out]
            exact (HB.out.cell HXL.out.lt).trans (HXL.out.nth (k / 4) (by omega))
          have c0 := sb_cell HG.out hk k hlt
          have f0 := frozen_of_row wr wL.heap.size k _ _ HG.out
          go_wp2

          rw [sb_eq']
          refine ⟨⟨k + 1, by omega, by go_num, ?_, ?_⟩, by simp [intOf]; omega⟩
          · have h := set_u8 (x := sb l k) (i := k) HG.out
            rw [sbK_step l k hlt] at h
            exact h
          · exact HB.out.setCell (by simp) _
        · have E : k = 32 := by omega
          have hge : 32 ≤ k := by omega
          obtain ⟨A, HA1, HA2, HA3⟩ : ∃ A : Array Value, Hid (A = ((sbK l 32).map (Value.int .u8)).toArray) ∧ Hid (A.size = 32) ∧ Hid (A.all (·.oneCell') = true) :=
            ⟨_, rfl, by show _ = _; simp [sbK_len l 32 (by omega)], all_oneCell_toArray (bytes_one _)⟩
          have HG8 : Hid (wr.heap[wL.heap.size]? = some (.cells A 30 (0, 0))) := by
            have h := HG.out
            rw [E, ← HA1.out] at h
            exact h
          have RES2 : Hid (wr.heap[w.heap.size]? = some (.cells (List.replicate 32 (Value.int .u8 0)).toArray 30 (0, 0))) := by
            show _ = _
            rw [HB.out.block _ hwl]
            exact RESL.out
          have BW2 : Hid (Below w.heap.size w wr) := BWL.out.trans (HB.out.mono (by omega))
          clear E hlt HG
          go_wp2_with (first
            | ((with_reducible refine row_load _ _ _ _ _ _ _ ?_ HG8.out Tryd.underlying30 ?_ (row_size Tryd.sizeSum HA2) ?_); (exact rfl); (exact rfl))
            | ((with_reducible refine row_store _ _ _ _ _ _ _ ?_ ?_ RES2.out (row_size Tryd.sizeSum HA2) ?_ HA3.out ?_); (exact rfl); (exact rfl); (rw [HA2.out]; rfl); intro w6 G6 ch6))
          refine bodyPost_ret (results_cell_row rfl _ _ w.heap.size 30 A (0, 0) _ rfl G6.out Tryd.underlying30 rfl (row_size Tryd.sizeSum HA2)) rfl ⟨?_, ch6.below BW2.out (Nat.le_refl _)⟩
          rw [HA1.out, HD2.out]

end Go.Proofs.YtjidkkehhglahaaDoor

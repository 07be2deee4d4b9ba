/-
  Contract: rillref02.Of.
-/
import Derived.Test.YtjidkkehhglahaaDoorMacG
namespace Go.Proofs.YtjidkkehhglahaaDoor
open Go.RowKit

set_option maxHeartbeats 4000000 in
set_option maxRecDepth 100000 in
theorem ref2_of_any (K b : List Int) (p q : Option Addr) (n m c d : Nat) (hn : K.length = n) (hm' : b.length = m) (hnl : n ≤ 100000) (hml : m ≤ 100000) (w : World) (hp : BAt w p K) (hq : BAt w q b) (htk : Tab w 1) :
    Calls Tryd.prog 29 #[.slice p n c, .slice q m d] w (HmSay K b w) := by
  subst hn
  subst hm'
  obtain ⟨i0, hi, hz0, hz1, hz2⟩ := info_parts Tryd.info_u8
  have Hp := Lib.hid hp; clear hp
  have Hq := Lib.hid hq; clear hq
  have Hk := Lib.hid htk; clear htk
  have hbb := Hq.out.1
  obtain ⟨A, HA1, HA2, HA3⟩ : ∃ A : Array Value, Hid (A = ((hm K b).map (Value.int .u8)).toArray) ∧ Hid (A.size = 32) ∧ Hid (A.all (·.oneCell') = true) :=
    ⟨_, rfl, by show _ = _; simp [hm_len], all_oneCell_toArray (bytes_one _)⟩
  obtain ⟨IN, HIN⟩ : ∃ IN, Hid (IN = Sha.dg (xl 54 (kb K) ++ b)) := ⟨_, rfl⟩
  have HIN32 : Hid (IN.length = 32) := by rw [HIN.out]; exact dg_len _
  have HINB : Hid (Sha.Byt IN) := by rw [HIN.out]; exact dg_byt _
  obtain ⟨IA, HIA1, HIA2, HIA3⟩ : ∃ A : Array Value, Hid (A = (IN.map (Value.int .u8)).toArray) ∧ Hid (A.size = 32) ∧ Hid (A.all (·.oneCell') = true) :=
    ⟨_, rfl, by show _ = _; simp [HIN32.out], all_oneCell_toArray (bytes_one _)⟩
  have HHM : Hid (hm K b = Sha.dg (xl 92 (kb K) ++ IN)) := by show _ = _; rw [hm_eq, HIN.out]
  have HX1 := Lib.hid (xl_kb_len 54 K)
  have HX2 := Lib.hid (xl_kb_len 92 K)
  have HXB1 := Lib.hid (xl_byt 54 (kb K))
  have HXB2 := Lib.hid (xl_byt 92 (kb K))
  have BW0 : Hid (Below w.heap.size w (w.alloc (.cells (List.replicate 32 (Value.int .u8 0)).toArray 30))) := (Below.refl _ w).alloc (Nat.le_refl _) _
  go_enter Tryd.func29, Tryd.ntmps29
  go_upto_region 2 with (go_at_call 42; refine (block_any 54 K p _ _ rfl (by omega) _ (Hp.out.old BW0.out) (Hk.out.below BW0.out Hk.out.lt)).mono ?_; rintro e w1 ⟨v1, rfl, ho1, hb1⟩; have HO1 := Lib.hid ho1; have HB1 := Lib.hid hb1; clear ho1 hb1)
  have BW1 : Hid (Below w.heap.size w w1) := BW0.out.trans (HB1.out.mono (by simp))
  have hs1 : w.heap.size < w1.heap.size := by have := HB1.out.size; simp at this; omega
  have RES1 : Hid (w1.heap[w.heap.size]? = some (.cells (List.replicate 32 (Value.int .u8 0)).toArray 30 (0, 0))) := by
    show _ = _
    rw [HB1.out.block _ (by simp)]
    exact heap_alloc_new w _
  have HO1' : Hid (w1.ownsRow (w.heap.size + 1) 5 1 v1 64 (U8s (xl 54 (kb K)))) := own_mono HO1.out (by simp)
  clear HO1 HB1 BW0
  go_wp2
  go_loopw [5, 6] (fun v i wr => ∃ k : Nat, k ≤ b.length ∧ i = .int .i64 k ∧ Hid (wr.ownsRow (w.heap.size + 1) 5 1 v (64 + k) (U8s (xl 54 (kb K) ++ b.take k))) ∧ Hid (Below (w.heap.size + 1) w1 wr)) (fun _ i _ => b.length - (intOf i).toNat)
  case atStart => exact ⟨0, Nat.zero_le _, rfl, by have h := HO1'.out; show World.ownsRow _ _ _ _ _ _ _; simpa using h, Below.refl _ _⟩
  case round =>
    clear HO1'
    obtain ⟨k, hk', rfl, HO, HB⟩ := hrel
    have HBw : Hid (Below w.heap.size w wr) := BW1.out.trans (HB.out.mono (by omega))
    by_cases hlt : k < b.length
    · obtain ⟨ab, ao, hpp, hcs⟩ := (Hq.out.old HBw.out).2 (by omega)
      subst hpp
      have c0 := hcs k hlt
      clear hcs
      obtain ⟨y, hy⟩ : ∃ y, b.getD k 0 = y := ⟨_, rfl⟩
      rw [hy] at c0
      have hszr : w.heap.size + 1 ≤ wr.heap.size := by have := HB.out.size; omega
      go_wp2_with (first
        | (at_builtin; refine wpList_append_own _ rfl _ _ 25 rfl (w.heap.size + 1) 5 i0 (.int .u8 0) 1 1 Tryd.underlying25 hi hz0 hz1 hz2 rfl (by decide) _ _ _ rfl (HO.out.alloc _) ⟨wr.heap.size, 0, none⟩ 1 1 [.int .u8 y] rfl rfl (u8_cell _ _ _) (u8_one _) (by unfold maxLen; omega) (by omega) (by have := HB.out.size; simp; omega) ?_)
        | go_in)
      intro v' w1 hown' hgrow _
      have hb1 := below_own HB.out hszr HO.out hgrow
      rw [U8s_snoc, ← hy, List.append_assoc, take_snoc b k hlt] at hown'
      clear hgrow HO HB HBw
      go_wp2
      exact ⟨⟨k + 1, by omega, by go_num, hown', hb1⟩, by simp [intOf]; omega⟩
    · have E : k = b.length := by omega
      have HO0 : Hid (wr.ownsRow (w.heap.size + 1) 5 1 u5 (64 + b.length) (U8s (xl 54 (kb K) ++ b))) := by
        have := HO.out
        rw [E, List.take_length] at this
        exact this
      have hge : b.length ≤ k := by omega
      obtain ⟨p5, c5, h5, HBA5, hc51, hc52⟩ := bat_own HO0.out (Sha.byt_append HXB1.out hbb)
      have HT5 : Hid ((xl 54 (kb K) ++ b).length ≤ 1000000) := by show _ ≤ _; rw [List.length_append, HX1.out]; omega
      have HBA := Lib.hid HBA5
      have HROF := Lib.hid (ref_of_any (xl 54 (kb K) ++ b) p5 c5)
      subst h5
      have RESw : Hid (wr.heap[w.heap.size]? = some (.cells (List.replicate 32 (Value.int .u8 0)).toArray 30 (0, 0))) := (HB.out.block _ (by omega)).trans RES1.out
      clear hlt HO E HB HO0 HBA5 RES1 BW1
      generalize (xl 54 (kb K) ++ b).length = n5 at *
      generalize wr = wa at *
      go_upto_region 8 with (first
        | (go_at_call 26; refine (HROF.out _ (fun g hg => HBA.out.bytes g hg) HT5.out (Hk.out.below HBw.out Hk.out.lt)).mono ?_; rintro e w2 ⟨rfl, hb2⟩; rw [← HIN.out, ← HIA1.out]; have HB2 := Lib.hid hb2; clear hb2)
        | ((with_reducible refine row_store _ _ _ _ _ _ _ ?_ ?_ (heap_alloc_new _ _) (row_size Tryd.sizeSum HIA2) ?_ HIA3.out ?_); (exact rfl); (exact rfl); (rw [HIA2.out]; rfl); intro w3 g3 ch3; have BW3 : Hid (Below w.heap.size w w3) := (ch3.below ((HBw.out.trans (HB2.out.mono HBw.out.size)).alloc (Nat.le_trans HBw.out.size HB2.out.size) _) (Nat.le_trans HBw.out.size HB2.out.size)))
        | (go_at_call 42; refine (block_any 92 K p _ _ rfl (by omega) _ (Hp.out.old BW3.out) (Hk.out.below BW3.out Hk.out.lt)).mono ?_; rintro e w4 ⟨v4, rfl, ho4, hb4⟩; have HO4 := Lib.hid ho4; have HB4 := Lib.hid hb4; clear ho4 hb4))
      have hwa : w.heap.size < wa.heap.size := lt_of_block RESw.out
      have hsz2 : wa.heap.size ≤ w2.heap.size := HB2.out.size
      have hsz3 : w2.heap.size < w3.heap.size := by rw [ch3.size]; simp
      have RES3 : Hid (w3.heap[w.heap.size]? = some (.cells (List.replicate 32 (Value.int .u8 0)).toArray 30 (0, 0))) := by
        show _ = _
        rw [ch3.block _ (by omega), heap_alloc_old _ _ (by omega), HB2.out.block _ hwa]
        exact RESw.out
      have I3 : Hid (w3.heap[w2.heap.size]? = some (.cells (IN.map (Value.int .u8)).toArray 30 (0, 0))) := by
        have h := g3.out
        rw [HIA1.out] at h
        exact h
      clear g3 ch3 HB2 RESw HBw HROF HT5 HBA
      generalize w2.heap.size = G2 at *
      go_wp2
      go_loopw [5, 8] (fun v i wr => ∃ k : Nat, k ≤ 32 ∧ i = .int .i64 k ∧ Hid (wr.ownsRow w3.heap.size 5 1 v (64 + k) (U8s (xl 92 (kb K) ++ IN.take k))) ∧ Hid (Below w3.heap.size w3 wr)) (fun _ i _ => 32 - (intOf i).toNat)
      case atStart => exact ⟨0, Nat.zero_le _, rfl, by have h := HO4.out; show World.ownsRow _ _ _ _ _ _ _; simpa using h, HB4.out⟩
      case round =>
        clear HO4 HB4
        obtain ⟨k, hk2, rfl, HO, HB⟩ := hrel
        by_cases hlt : k < 32
        · have c0 := row_cell ((HB.out.block _ hsz3).trans I3.out) k (by rw [HIN32.out]; exact hlt)
          obtain ⟨y, hy⟩ : ∃ y, IN.getD k 0 = y := ⟨_, rfl⟩
          rw [hy] at c0
          go_wp2_with (first
            | (at_builtin; refine wpList_append_own _ rfl _ _ 25 rfl w3.heap.size 5 i0 (.int .u8 0) 1 1 Tryd.underlying25 hi hz0 hz1 hz2 rfl (by decide) _ _ _ rfl (HO.out.alloc _) ⟨wr.heap.size, 0, none⟩ 1 1 [.int .u8 y] rfl rfl (u8_cell _ _ _) (u8_one _) (by unfold maxLen; omega) (by omega) (by have := HB.out.size; simp; omega) ?_)
            | go_in)
          intro v' w1 hown' hgrow _
          have hb1 := below_own HB.out (HB.out.size) HO.out hgrow
          rw [U8s_snoc, ← hy, List.append_assoc, take_snoc IN k (by rw [HIN32.out]; exact hlt)] at hown'
          clear hgrow HO HB
          go_wp2
          exact ⟨⟨k + 1, by omega, by go_num, hown', hb1⟩, by simp [intOf]; omega⟩
        · have E : k = 32 := by omega
          have HO0 : Hid (wr.ownsRow w3.heap.size 5 1 u5 96 (U8s (xl 92 (kb K) ++ IN))) := by
            have := HO.out
            rw [E, List.take_of_length_le (by rw [HIN32.out]; omega)] at this
            exact this
          have hge : 32 ≤ k := by omega
          obtain ⟨p5, c5, h5, HBA5, hc51, hc52⟩ := bat_own HO0.out (Sha.byt_append HXB2.out HINB.out)
          have HT5 : Hid ((xl 92 (kb K) ++ IN).length ≤ 1000000) := by show _ ≤ _; rw [List.length_append, HX2.out, HIN32.out]; omega
          have HBA := Lib.hid HBA5
          have HROF := Lib.hid (ref_of_any (xl 92 (kb K) ++ IN) p5 c5)
          subst h5
          have RESw : Hid (wr.heap[w.heap.size]? = some (.cells (List.replicate 32 (Value.int .u8 0)).toArray 30 (0, 0))) := (HB.out.block _ (by omega)).trans RES3.out
          have HBw : Hid (Below w.heap.size w wr) := BW3.out.trans (HB.out.mono (by omega))
          clear hlt HO E HB HO0 HBA5 RES3 BW3 I3
          generalize (xl 92 (kb K) ++ IN).length = n5 at *
          go_wp2_with (first
            | (go_at_call 26; refine (HROF.out _ (fun g hg => HBA.out.bytes g hg) HT5.out (Hk.out.below HBw.out Hk.out.lt)).mono ?_; rintro e w6 ⟨rfl, hb6⟩; rw [← HHM.out, ← HA1.out]; have HB6 := Lib.hid hb6; clear hb6; have RES6 : Hid (w6.heap[w.heap.size]? = some (.cells (List.replicate 32 (Value.int .u8 0)).toArray 30 (0, 0))) := (HB6.out.block _ (lt_of_block RESw.out)).trans RESw.out)
            | ((with_reducible refine row_store _ _ _ _ _ _ _ ?_ ?_ RES6.out (row_size Tryd.sizeSum HA2) ?_ HA3.out ?_); (exact rfl); (exact rfl); (rw [HA2.out]; rfl); intro w7 G7 ch7))
          refine bodyPost_ret (results_cell_row rfl _ _ w.heap.size 30 A (0, 0) _ rfl G7.out Tryd.underlying30 rfl (row_size Tryd.sizeSum HA2)) rfl ⟨?_, ch7.below (HBw.out.trans (HB6.out.mono HBw.out.size)) (Nat.le_refl _)⟩
          rw [HA1.out]

end Go.Proofs.YtjidkkehhglahaaDoor

/-
  The law RegionGets walked.
-/
import Derived.Test.YtjnepegohfhgiaaRgO
import Derived.Test.YtjnepegohfhgiaaRgQ
namespace Go.Proofs.Ytjnepegohfhgiaa
open Go.RowKit

def LentN (n : Nat) (L : List Int) (w : World) (e : Ending) (w' : World) : Prop :=
  ∃ g, e = .returned (.slice (some ⟨g, 0, none⟩) (n + 5) (n + 5)) ∧ Hid (w.heap.size ≤ g) ∧ Hid (w'.heap[g]? = some (.cells ((mk5 L).map (Value.int .u8)).toArray 5 (0, 0))) ∧ Hid (Below w.heap.size w w')
theorem lentn_any (L : List Int) (n : Nat) (hn : L.length = n) (hL : n ≤ 1000000) (p : Option Addr) (c : Nat) (w : World) (hp : Bs w p c L) : Calls Try.prog 16 #[.slice p n c] w (LentN n L w) := by
  subst hn
  refine (lent_any L p c w hp.bat hL).mono ?_
  rintro e w' ⟨g, h1, h2, h3, h4⟩
  exact ⟨g, h1, h2, h3, h4⟩
theorem keptn_any (L : List Int) (n : Nat) (hn : L.length = n) (hL : n ≤ 100000) (g : Nat) (q : Option Addr) (d : Nat) (w : World) (hg : w.heap[g]? = some (.cells ((mk5 L).map (Value.int .u8)).toArray 5 (0, 0))) (hq : Bs w q d L) :
    Calls Try.prog 19 #[.slice (some ⟨g, 0, none⟩) (n + 5) (n + 5), .slice q n d] w (YesSay w) := by
  subst hn
  exact kept_any L g q (L.length + 5) d w (bat_row hg (mk5_byt hq.bat.1)) hq.bat (by omega) (Nat.le_refl _)
def GotG (A : Array Value) (r : Int) (w : World) (e : Ending) (w' : World) : Prop := e = .returned (.tuple #[.agg A, .int .i64 r]) ∧ Hid (Below w.heap.size w w')
set_option maxHeartbeats 2000000 in
set_option maxRecDepth 100000 in
theorem gets_core (L : List Int) (p : Option Addr) (n c : Nat) (hn : L.length = n) (hL : n ≤ 4096) (w : World) (hp : Bs w p c L) (A : Array Value) (r : Int) (hA : A.size = 136) (hA1 : A.all (·.oneCell') = true)
    (heq : ∀ y, (Op.equalIn 10000 29 (.agg A) (.agg A)).run Try.prog y = .ok true y)
    (hget : ∀ y q d, Bs y q d L → Calls Try.prog 17 #[.slice q n d] y (GotG A r y)) (href : ∀ y q d, Bs y q d L → Calls Try.prog 18 #[.slice q n d] y (GotG A r y)) :
    Calls Try.prog 4 #[.slice p n c] w (YesSay w) := by
  have HWK : Hid (∀ y, Calls Try.prog 15 #[] y (YesSay y)) := fun y => works_any y
  have HLN : Hid (Calls Try.prog 16 #[.slice p n c] w (LentN n L w)) := lentn_any L n hn (by omega) p c w hp
  have HKB : Hid (∀ y g, Below w.heap.size w y → y.heap[g]? = some (.cells ((mk5 L).map (Value.int .u8)).toArray 5 (0, 0)) → Calls Try.prog 19 #[.slice (some ⟨g, 0, none⟩) (n + 5) (n + 5), .slice p n c] y (YesSay y)) := fun y g hy hg => keptn_any L n hn (by omega) g p c y hg (hp.old hy)
  have HGE : Hid (∀ y g, y.heap[g]? = some (.cells ((mk5 L).map (Value.int .u8)).toArray 5 (0, 0)) → Calls Try.prog 17 #[.slice (some ⟨g, 0, none⟩) n (n + 5)] y (GotG A r y)) := fun y g hg => by
    have h := lent_bs (L := L) (by omega) hg hp.bat.1
    rw [hn] at h
    exact hget y _ _ h
  have HRF : Hid (∀ y, Below w.heap.size w y → Calls Try.prog 18 #[.slice p n c] y (GotG A r y)) := fun y hy => href y _ _ (hp.old hy)
  have HAS := Lib.hid hA
  have HA1 := Lib.hid hA1
  obtain ⟨Z, hZ⟩ : ∃ Z, Hid (RAr Rg.zero = Z) := ⟨_, rfl⟩
  have HZS : Hid (Z.size = 136) := by show _ = _; rw [← hZ.out]; exact rar_size Rg.ok_zero
  have hz := (zero_of_info Try.zeroRec).1
  rw [show (cv Rg.zero).toArray = Z from hZ.out] at hz
  have hzn : ¬ Z = #[] := fun h => by have := HZS.out; rw [h] at this; simp at this
  have hsz := row_size Try.sizeRec HZS
  clear hn hp hget href hA hA1
  have hl : ¬ (n : Int) > 4096 := by omega
  have hcap : (n : Int) ≤ ((n + 5 : Nat) : Int) := by omega
  go_enter Try.func4, Try.ntmps4
  go_upto_region 4 with (go_at_call 16; refine HLN.out.mono ?_; rintro e1 w1 ⟨g, rfl, HG1, R1, B1⟩)
  go_upto_region 5 with (first
    | (go_at_call 17; refine (HGE.out _ _ R1.out).mono ?_; rintro e2 w2 ⟨rfl, HB2⟩)
    | ((with_reducible refine row_store _ _ _ _ _ _ _ ?_ ?_ (heap_alloc_new _ _) (row_size Try.sizeRec HAS) ?_ HA1.out ?_); (exact rfl); (exact rfl); (rw [HAS.out, HZS.out]); intro w3 G3 ch3))
  have K23 : Hid (Below w2.heap.size w2 w3) := ch3.below ((Below.refl _ w2).alloc (Nat.le_refl _) _) (Nat.le_refl _)
  have K13 : Hid (Below w1.heap.size w1 w3) := HB2.out.trans (K23.out.mono HB2.out.size)
  have R3 := Lib.hid ((K13.out.block _ (lt_of_block R1.out)).trans R1.out)
  have B3 : Hid (Below w.heap.size w w3) := B1.out.trans (K13.out.mono B1.out.size)
  obtain ⟨b4, hb4⟩ : ∃ b, w2.heap.size = b := ⟨_, rfl⟩
  rw [hb4] at G3 ⊢
  clear hb4 ch3 K23 K13 HB2 R1 B1 HLN HGE
  go_upto_region 6 with (first
    | (go_at_call 18; refine (HRF.out _ B3.out).mono ?_; rintro e4 w4 ⟨rfl, HB4⟩)
    | ((with_reducible refine row_store _ _ _ _ _ _ _ ?_ ?_ (heap_alloc_new _ _) (row_size Try.sizeRec HAS) ?_ HA1.out ?_); (exact rfl); (exact rfl); (rw [HAS.out, HZS.out]); intro w5 G5 ch5))
  have K45 : Hid (Below w4.heap.size w4 w5) := ch5.below ((Below.refl _ w4).alloc (Nat.le_refl _) _) (Nat.le_refl _)
  have K35 : Hid (Below w3.heap.size w3 w5) := HB4.out.trans (K45.out.mono HB4.out.size)
  have R5 := Lib.hid ((K35.out.block _ (lt_of_block R3.out)).trans R3.out)
  have G35 := Lib.hid ((K35.out.block _ (lt_of_block G3.out)).trans G3.out)
  have B5 : Hid (Below w.heap.size w w5) := B3.out.trans (K35.out.mono B3.out.size)
  obtain ⟨b6, hb6⟩ : ∃ b, w4.heap.size = b := ⟨_, rfl⟩
  rw [hb6] at G5 ⊢
  clear hb6 ch5 K45 K35 HB4 R3 G3 B3 HRF
  go_wp2_with (first
    | ((with_reducible refine row_load_g _ _ _ _ _ _ _ ?_ ?_ G35.out Try.underlying29 ?_ (row_size Try.sizeRec HAS) ?_); (exact rfl); (exact rfl); (exact rfl))
    | ((with_reducible refine row_load_g _ _ _ _ _ _ _ ?_ ?_ G5 Try.underlying29 ?_ (row_size Try.sizeRec HAS) ?_); (exact rfl); (exact rfl); (exact rfl))
    | ((with_reducible refine row_load_g _ _ _ _ _ _ _ ?_ ?_ G5.out Try.underlying29 ?_ (row_size Try.sizeRec HAS) ?_); (exact rfl); (exact rfl); (exact rfl))
    | (go_at_call 19; refine (HKB.out _ _ B5.out R5.out).mono ?_; rintro e6 w6 ⟨rfl, hb6⟩; have B6 := Lib.hid (B5.out.trans (hb6.mono B5.out.size)); clear hb6)
    | (go_at_call 15; refine (HWK.out _).mono ?_; rintro e7 w7 ⟨rfl, hb7⟩; have B7 := Lib.hid (B6.out.trans (hb7.mono B6.out.size)); clear hb7))
  go_ret
  exact ⟨rfl, B7.out⟩
set_option maxHeartbeats 1000000 in
set_option maxRecDepth 100000 in
theorem gets_any (L : List Int) (p : Option Addr) (n c : Nat) (hn : L.length = n) (w : World) (hp : Bs w p c L) :
    Calls Try.prog 4 #[.slice p n c] w (YesSay w) := by
  by_cases hlong : 4096 < n
  · have hl : (n : Int) > 4096 := by omega
    go_enter Try.func4, Try.ntmps4
    go_wp2_with (go_at_call 15; refine (works_any _).mono ?_; rintro e1 w1 ⟨rfl, hb1⟩)
    go_ret
    exact ⟨rfl, hb1⟩
  · have hok : Rg.Ok (Rg.gt L) := Rg.gt_ok hp.bat.1
    refine gets_core L p n c hn (by omega) w hp (RAr (Rg.gt L)) (Rg.er L) (rar_size hok) (rar_one _) (fun y => ?_) (fun y q d h => ?_) (fun y q d h => ?_)
    · have h := rec_eqs (Rg.gt L) (Rg.gt L) hok hok y
      rw [decide_eq_true rfl] at h
      exact h
    · have h1 := gget_any L q n d hn (by omega) y h
      unfold GotSay at h1
      rw [rv_eq] at h1
      exact h1
    · have h1 := fgget_any L q n d hn (by omega) y h
      unfold GotSay at h1
      rw [rv_eq] at h1
      exact h1
end Go.Proofs.Ytjnepegohfhgiaa

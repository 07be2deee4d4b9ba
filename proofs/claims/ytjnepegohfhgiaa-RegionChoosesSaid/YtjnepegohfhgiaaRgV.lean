/-
  The law RegionChooses walked.
-/
import Derived.Test.YtjnepegohfhgiaaRgL2
import Derived.Test.YtjnepegohfhgiaaRgP
import Derived.Test.YtjnepegohfhgiaaRgQ
namespace Go.Proofs.Ytjnepegohfhgiaa
open Go.RowKit

def ChoG (A : Array Value) (b : Bool) (w : World) (e : Ending) (w' : World) : Prop := e = .returned (.tuple #[.agg A, .bool b]) ∧ Hid (Below w.heap.size w w')
set_option maxHeartbeats 2000000 in
set_option maxRecDepth 100000 in
theorem chooses_core (L : List Rg.R) (p : Option Addr) (n c : Nat) (hn : L.length = n) (hL : n ≤ 300) (lv : Int) (w : World) (hp : Rs w p c L) (A : Array Value) (b : Bool) (hA : A.size = 136) (hA1 : A.all (·.oneCell') = true)
    (heq : ∀ y, (Op.equalIn 10000 29 (.agg A) (.agg A)).run Try.prog y = .ok true y)
    (hget : ∀ y q d, Rs y q d L → Calls Try.prog 21 #[.slice q n d, .int .i64 lv] y (ChoG A b y)) (href : ∀ y q d, Rs y q d L → Calls Try.prog 22 #[.slice q n d, .int .i64 lv] y (ChoG A b y)) :
    Calls Try.prog 5 #[.slice p n c, .int .i64 lv] w (YesSay w) := by
  have HWK : Hid (∀ y, Calls Try.prog 15 #[] y (YesSay y)) := fun y => works_any y
  have HLN : Hid (Calls Try.prog 20 #[.slice p n c] w (LentR n L w)) := lentr_any L p n c hn hL w hp
  have HKB : Hid (∀ y g, Below w.heap.size w y → RsRow y g (Rg.k5 L) → Calls Try.prog 23 #[.slice (some ⟨g, 0, none⟩) (n + 5) (n + 5), .slice p n c] y (BlSay true y)) := fun y g hy hg => keptr_any L g p n c hn hL y hg (hp.old hy)
  have HGE : Hid (∀ y g, RsRow y g (Rg.k5 L) → Calls Try.prog 21 #[.slice (some ⟨g, 0, none⟩) n (n + 5), .int .i64 lv] y (ChoG A b y)) := fun y g hg => by
    have h := rs_take (RsRow.es hg (Rg.k5_ok hp.ok) (c := n + 5) (by rw [Rg.k5_len]; omega)) n
    have e : (Rg.k5 L).take n = L := by unfold Rg.k5; rw [← hn, List.take_left]
    rw [e] at h
    exact hget y _ _ h
  have HRF : Hid (∀ y, Below w.heap.size w y → Calls Try.prog 22 #[.slice p n c, .int .i64 lv] y (ChoG A b y)) := fun y hy => href y _ _ (hp.old hy)
  have HAS := Lib.hid hA
  have HA1 := Lib.hid hA1
  obtain ⟨Z, hZ⟩ : ∃ Z, Hid (RAr Rg.zero = Z) := ⟨_, rfl⟩
  have HZS : Hid (Z.size = 136) := by show _ = _; rw [← hZ.out]; exact rar_size Rg.ok_zero
  have hz := (zero_of_info Try.zeroRec).1
  rw [show (cv Rg.zero).toArray = Z from hZ.out] at hz
  have hzn : ¬ Z = #[] := fun h => by have := HZS.out; rw [h] at this; simp at this
  have hsz := row_size Try.sizeRec HZS
  clear hn hp hget href hA hA1
  have hl : ¬ (n : Int) > 300 := by omega
  have hcap : (n : Int) ≤ ((n + 5 : Nat) : Int) := by omega
  go_enter Try.func5, Try.ntmps5
  go_upto_region 4 with (go_at_call 20; refine HLN.out.mono ?_; rintro e1 w1 ⟨g, rfl, R1, HG1, B1⟩)
  go_upto_region 5 with (first
    | (go_at_call 21; refine (HGE.out _ _ R1.out).mono ?_; rintro e2 w2 ⟨rfl, HB2⟩)
    | ((with_reducible refine row_store _ _ _ _ _ _ _ ?_ ?_ (heap_alloc_new _ _) (row_size Try.sizeRec HAS) ?_ HA1.out ?_); (exact rfl); (exact rfl); (rw [HAS.out, HZS.out]); intro w3 G3 ch3))
  have K23 : Hid (Below w2.heap.size w2 w3) := ch3.below ((Below.refl _ w2).alloc (Nat.le_refl _) _) (Nat.le_refl _)
  have K13 : Hid (Below w1.heap.size w1 w3) := HB2.out.trans (K23.out.mono HB2.out.size)
  have R3 := Lib.hid (R1.out.old K13.out)
  have B3 : Hid (Below w.heap.size w w3) := B1.out.trans (K13.out.mono B1.out.size)
  obtain ⟨b4, hb4⟩ : ∃ b, w2.heap.size = b := ⟨_, rfl⟩
  rw [hb4] at G3 ⊢
  clear hb4 ch3 K23 K13 HB2 R1 B1 HLN HGE
  go_upto_region 6 with (first
    | (go_at_call 22; refine (HRF.out _ B3.out).mono ?_; rintro e4 w4 ⟨rfl, HB4⟩)
    | ((with_reducible refine row_store _ _ _ _ _ _ _ ?_ ?_ (heap_alloc_new _ _) (row_size Try.sizeRec HAS) ?_ HA1.out ?_); (exact rfl); (exact rfl); (rw [HAS.out, HZS.out]); intro w5 G5 ch5))
  have K45 : Hid (Below w4.heap.size w4 w5) := ch5.below ((Below.refl _ w4).alloc (Nat.le_refl _) _) (Nat.le_refl _)
  have K35 : Hid (Below w3.heap.size w3 w5) := HB4.out.trans (K45.out.mono HB4.out.size)
  have R5 := Lib.hid (R3.out.old K35.out)
  have G35 := Lib.hid ((K35.out.block _ (lt_of_block G3.out)).trans G3.out)
  have B5 : Hid (Below w.heap.size w w5) := B3.out.trans (K35.out.mono B3.out.size)
  obtain ⟨b6, hb6⟩ : ∃ b, w4.heap.size = b := ⟨_, rfl⟩
  rw [hb6] at G5 ⊢
  clear hb6 ch5 K45 K35 HB4 R3 G3 B3 HRF
  go_wp2_with (first
    | ((with_reducible refine row_load_g _ _ _ _ _ _ _ ?_ ?_ G35.out Try.underlying29 ?_ (row_size Try.sizeRec HAS) ?_); (exact rfl); (exact rfl); (exact rfl))
    | ((with_reducible refine row_load_g _ _ _ _ _ _ _ ?_ ?_ G5.out Try.underlying29 ?_ (row_size Try.sizeRec HAS) ?_); (exact rfl); (exact rfl); (exact rfl))
    | (go_at_call 23; refine (HKB.out _ _ B5.out R5.out).mono ?_; rintro e6 w6 ⟨rfl, hb6⟩; have B6 := Lib.hid (B5.out.trans (hb6.mono B5.out.size)); clear hb6)
    | (go_at_call 15; refine (HWK.out _).mono ?_; rintro e7 w7 ⟨rfl, hb7⟩; have B7 := Lib.hid (B6.out.trans (hb7.mono B6.out.size)); clear hb7))
  go_ret
  exact ⟨rfl, B7.out⟩
set_option maxHeartbeats 1000000 in
set_option maxRecDepth 100000 in
theorem chooses_any (L : List Rg.R) (p : Option Addr) (n c : Nat) (hn : L.length = n) (lv : Int) (hlv : Pk.In64 lv) (w : World) (hp : Rs w p c L) :
    Calls Try.prog 5 #[.slice p n c, .int .i64 lv] w (YesSay w) := by
  by_cases hlong : 300 < n
  · have hl : (n : Int) > 300 := by omega
    go_enter Try.func5, Try.ntmps5
    go_wp2_with (go_at_call 15; refine (works_any _).mono ?_; rintro e1 w1 ⟨rfl, hb1⟩)
    go_ret
    exact ⟨rfl, hb1⟩
  · have hok : Rg.Ok ((Rg.ch lv L).getD Rg.zero) := by
      cases h : Rg.ch lv L with
      | none => exact Rg.ok_zero
      | some x => exact hp.ok x (Rg.chk_mem lv n (by omega) x (by rw [Rg.chk_all lv hn]; exact h))
    refine chooses_core L p n c hn (by omega) lv w hp (RAr ((Rg.ch lv L).getD Rg.zero)) (Rg.ch lv L).isSome (rar_size hok) (rar_one _) (fun y => ?_) (fun y q d h => ?_) (fun y q d h => ?_)
    · have h := rec_eqs _ _ hok hok y
      rw [decide_eq_true rfl] at h
      exact h
    · have h1 := choose_any L q n d hn (by omega) lv hlv y h
      unfold ChSay at h1
      rw [rv_eq] at h1
      exact h1
    · have h1 := fchoose_any L q n d hn (by omega) lv hlv y h
      unfold ChSay at h1
      rw [rv_eq] at h1
      exact h1
end Go.Proofs.Ytjnepegohfhgiaa

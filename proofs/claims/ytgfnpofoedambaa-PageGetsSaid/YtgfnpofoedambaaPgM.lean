/-
  PageGets walked.
-/
import Derived.Test.YtgfnpofoedambaaPgK
namespace Go.Proofs.Ytgfnpofoedambaa
open Go.RowKit

def LentN (n : Nat) (L : List Int) (w : World) (e : Ending) (w' : World) : Prop :=
  ∃ g, e = .returned (.slice (some ⟨g, 0, none⟩) (n + 5) (n + 5)) ∧ Hid (w.heap.size ≤ g) ∧ Hid (w'.heap[g]? = some (.cells ((mk5 L).map (Value.int .u8)).toArray 5 (0, 0))) ∧ Hid (Below w.heap.size w w')
theorem lentn_any (L : List Int) (n : Nat) (hn : L.length = n) (hL : n ≤ 1000000) (p : Option Addr) (c : Nat) (w : World) (hp : Bs w p c L) : Calls Try.prog 17 #[.slice p n c] w (LentN n L w) := by
  subst hn
  refine (lent_any L p c w hp.bat hL).mono ?_
  rintro e w' ⟨g, h1, h2, h3, h4⟩
  exact ⟨g, h1, h2, h3, h4⟩
theorem keptn_any (L : List Int) (n : Nat) (hn : L.length = n) (hL : n ≤ 100000) (g : Nat) (q : Option Addr) (d : Nat) (w : World) (hg : w.heap[g]? = some (.cells ((mk5 L).map (Value.int .u8)).toArray 5 (0, 0))) (hq : Bs w q d L) :
    Calls Try.prog 20 #[.slice (some ⟨g, 0, none⟩) (n + 5) (n + 5), .slice q n d] w (YesSay w) := by
  subst hn
  exact kept_any L g q (L.length + 5) d w (bat_row hg (mk5_byt hq.bat.1)) hq.bat (by omega) (Nat.le_refl _)
theorem lentn_bs {w : World} {g n : Nat} {L : List Int} (hn : L.length = n) (hL : n ≤ 1000000) (hb : Sha.Byt L) (hg : w.heap[g]? = some (.cells ((mk5 L).map (Value.int .u8)).toArray 5 (0, 0))) : Bs w (some ⟨g, 0, none⟩) (n + 5) L := by
  have h := bat_row hg (mk5_byt hb)
  unfold mk5 at h
  exact bs_row h.pre ⟨by omega, by omega⟩
theorem got_both (L : List Int) (n : Nat) (hn : L.length = n) (hL : n ≤ 900000) (hb : Sha.Byt L) : ∃ A RA, PgK (Pg.pg L) A RA ∧ PV (Pg.pg L) = .agg A ∧
    (∀ w p c, Bs w p c L → Calls Try.prog 18 #[.slice p n c] w fun e w' => e = .returned (.tuple #[.int .i64 (Pg.ix L), .agg A, .int .i64 (Pg.er L)]) ∧ Hid (Below w.heap.size w w')) ∧
    ∀ w p c, Bs w p c L → Calls Try.prog 19 #[.slice p n c] w fun e w' => e = .returned (.tuple #[.int .i64 (Pg.ix L), .agg A, .int .i64 (Pg.er L)]) ∧ Hid (Below w.heap.size w w') := by
  obtain ⟨A, RA, eA, hk⟩ := pgk (Pg.pg_ok hb)
  refine ⟨A, RA, hk, eA, fun w p c hp => ?_, fun w p c hp => ?_⟩
  · have h := get_any L p n c hn hL w hp
    unfold GotSay at h
    rw [eA] at h
    exact h
  · have h := rget_any L p n c hn hL w hp
    unfold GotSay at h
    rw [eA] at h
    exact h
set_option maxHeartbeats 2000000 in
set_option maxRecDepth 100000 in
theorem gets_any (L : List Int) (p : Option Addr) (c : Nat) (w : World) (hp : Bs w p c L) : Calls Try.prog 4 #[.slice p L.length c] w (YesSay w) := by
  obtain ⟨n, hn⟩ : ∃ n, L.length = n := ⟨_, rfl⟩
  rw [hn]
  have B0 : Hid (Below w.heap.size w w) := Below.refl _ _
  by_cases hbig : (n : Int) > 4096
  · clear hp hn
    go_enter Try.func4, Try.ntmps4
    go_wp2_with (go_at_call 16; refine (known_any _).mono ?_; rintro e1 w1 ⟨rfl, HB1⟩)
    go_ret
    exact ⟨rfl, HB1.out⟩
  have hsm : n ≤ 4096 := by omega
  obtain ⟨A, RA, hk, eA, hget, hrget⟩ := got_both L n hn (by omega) hp.bat.1
  have HG := Lib.hid hget
  have HR := Lib.hid hrget
  have HP := Lib.hid hp
  have HLE := Lib.hid (lentn_any L n hn (by omega) p c w hp)
  have HLB : Hid (∀ (y : World) (g : Nat), y.heap[g]? = some (.cells ((mk5 L).map (Value.int .u8)).toArray 5 (0, 0)) → Bs y (some ⟨g, 0, none⟩) (n + 5) L) := fun y g hg => lentn_bs hn (by omega) hp.bat.1 hg
  have HKE : Hid (∀ (y : World) (g : Nat), y.heap[g]? = some (.cells ((mk5 L).map (Value.int .u8)).toArray 5 (0, 0)) → Bs y p c L → Calls Try.prog 20 #[.slice (some ⟨g, 0, none⟩) (n + 5) (n + 5), .slice p n c] y (YesSay y)) := fun y g hg hq => keptn_any L n hn (by omega) g p c y hg hq
  have HAS := Lib.hid hk.size
  have HA1 := Lib.hid hk.one
  have hsa := row_size Try.sizePage HAS
  have hz := (zero_of_info Try.zeroPage).1
  obtain ⟨Z, eZ⟩ : ∃ Z, (cs Pg.zp).toArray = Z := ⟨_, rfl⟩
  have HZS : Hid (Z.size = 264) := by show _ = _; rw [← eZ, List.size_toArray, cs_len Pg.ok_zp]
  rw [eZ] at hz
  have hzn : ¬ Z = #[] := fun h => by have := HZS.out; rw [h] at this; simp at this
  have heq : ∀ y, (Op.equalIn 10000 28 (.agg A) (.agg A)).run Try.prog y = .ok true y := fun y => by
    have := page_eq (Pg.pg_ok hp.bat.1) (Pg.pg_ok hp.bat.1) y
    rw [decide_eq_true rfl, eA] at this
    exact this
  generalize Pg.ix L = x at *
  generalize Pg.er L = er at *
  clear hk eA hp hget hrget hn eZ
  go_enter Try.func4, Try.ntmps4
  go_upto_region 5 with (first
    | (go_at_call 17; refine HLE.out.mono ?_; rintro e1 w1 ⟨g, rfl, HG1, HM1, HB1⟩)
    | (go_at_call 18; refine (HG.out _ _ _ (HLB.out _ _ HM1.out)).mono ?_; rintro e2 w2 ⟨rfl, HB2⟩)
    | ((with_reducible refine row_store _ _ _ _ _ _ _ ?_ ?_ (heap_alloc_new _ _) (row_size Try.sizePage HAS) ?_ HA1.out ?_); (exact rfl); (exact rfl); (rw [HAS.out, HZS.out]); intro w3 G3 ch3))
  have B2 := Lib.hid (HB1.out.trans (HB2.out.mono HB1.out.size))
  have B3 : Hid (Below w.heap.size w w3) := ch3.below (B2.out.alloc B2.out.size _) B2.out.size
  have HM2 := Lib.hid ((HB2.out.block _ (lt_of_block HM1.out)).trans HM1.out)
  have HM3 := Lib.hid ((ch3.block _ (Nat.ne_of_lt (lt_of_block HM2.out))).trans ((heap_oldX w2 _ (lt_of_block HM2.out)).trans HM2.out))
  clear ch3 HM1 HM2 HB1 HB2 B2 HLE HG
  go_upto_region 6 with (first
    | (go_at_call 19; refine (HR.out _ _ _ (HP.out.old B3.out)).mono ?_; rintro e4 w4 ⟨rfl, HB4⟩)
    | ((with_reducible refine row_store _ _ _ _ _ _ _ ?_ ?_ (heap_alloc_new _ _) (row_size Try.sizePage HAS) ?_ HA1.out ?_); (exact rfl); (exact rfl); (rw [HAS.out, HZS.out]); intro w5 G5 ch5))
  have B4 := Lib.hid (B3.out.trans (HB4.out.mono B3.out.size))
  have B5 : Hid (Below w.heap.size w w5) := ch5.below (B4.out.alloc B4.out.size _) B4.out.size
  have M4 := Lib.hid ((HB4.out.block _ (lt_of_block HM3.out)).trans HM3.out)
  have M5 := Lib.hid ((ch5.block _ (Nat.ne_of_lt (lt_of_block M4.out))).trans ((heap_oldX w4 _ (lt_of_block M4.out)).trans M4.out))
  have G4 := Lib.hid ((HB4.out.block _ (lt_of_block G3.out)).trans G3.out)
  have GA := Lib.hid ((ch5.block _ (Nat.ne_of_lt (lt_of_block G4.out))).trans ((heap_oldX w4 _ (lt_of_block G4.out)).trans G4.out))
  clear ch5 M4 G4 HM3 G3 HB4 B4 B3 HR hz hzn
  go_wp2_with (first
    | ((with_reducible refine row_load_g _ _ w2.heap.size _ _ _ _ ?_ ?_ GA.out Try.underlying28 ?_ hsa ?_); (exact rfl); (exact rfl); (exact rfl))
    | ((with_reducible refine row_load_g _ _ w4.heap.size _ _ _ _ ?_ ?_ G5.out Try.underlying28 ?_ hsa ?_); (exact rfl); (exact rfl); (exact rfl))
    | (go_at_call 20; refine (HKE.out _ _ M5.out (HP.out.old B5.out)).mono ?_; rintro e6 w6 ⟨rfl, hb6⟩; have B6 := Lib.hid (B5.out.trans (hb6.mono B5.out.size)))
    | (go_at_call 16; refine (known_any _).mono ?_; rintro e7 w7 ⟨rfl, HB7⟩; have B7 := Lib.hid (B6.out.trans (HB7.out.mono B6.out.size))))
  go_ret
  exact ⟨rfl, B7.out⟩
end Go.Proofs.Ytgfnpofoedambaa

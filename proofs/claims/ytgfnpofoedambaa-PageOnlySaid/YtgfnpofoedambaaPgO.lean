/-
  PageOnly walked.
-/
import Derived.Test.YtgfnpofoedambaaPgK
namespace Go.Proofs.Ytgfnpofoedambaa
open Go.RowKit

/-- What Get says, the node an opaque row. -/
theorem got_agg (L : List Int) (p : Option Addr) (n c : Nat) (hn : L.length = n) (hL : n ≤ 900000) (hb : Sha.Byt L) : ∃ A RA, PgK (Pg.pg L) A RA ∧ PV (Pg.pg L) = .agg A ∧
    ∀ w, Bs w p c L → Calls Try.prog 18 #[.slice p n c] w fun e w' => e = .returned (.tuple #[.int .i64 (Pg.ix L), .agg A, .int .i64 (Pg.er L)]) ∧ Hid (Below w.heap.size w w') := by
  obtain ⟨A, RA, eA, hk⟩ := pgk (Pg.pg_ok hb)
  refine ⟨A, RA, hk, eA, fun w hp => ?_⟩
  have h := get_any L p n c hn hL w hp
  unfold GotSay at h
  rw [eA] at h
  exact h
set_option maxHeartbeats 2000000 in
set_option maxRecDepth 100000 in
theorem only_any (L : List Int) (p : Option Addr) (c : Nat) (w : World) (hp : Bs w p c L) : Calls Try.prog 6 #[.slice p L.length c] w (YesSay w) := by
  obtain ⟨n, hn⟩ : ∃ n, L.length = n := ⟨_, rfl⟩
  rw [hn]
  have B0 : Hid (Below w.heap.size w w) := Below.refl _ _
  by_cases hbig : (n : Int) > 4096
  · clear hp hn
    go_enter Try.func6, Try.ntmps6
    go_wp2_with (go_at_call 16; refine (known_any _).mono ?_; rintro e1 w1 ⟨rfl, HB1⟩)
    go_ret
    exact ⟨rfl, HB1.out⟩
  have hsm : n ≤ 4096 := by omega
  obtain ⟨A, RA, hk, eA, hget⟩ := got_agg L p n c hn (by omega) hp.bat.1
  have HG := Lib.hid hget
  have HP := Lib.hid hp
  have HAS := Lib.hid hk.size
  have HA1 := Lib.hid hk.one
  have hsa := row_size Try.sizePage HAS
  have hz := (zero_of_info Try.zeroPage).1
  have HBT := Lib.hid Try.builtPage
  obtain ⟨Z, eZ⟩ : ∃ Z, (cs Pg.zp).toArray = Z := ⟨_, rfl⟩
  have HZS : Hid (Z.size = 264) := by show _ = _; rw [← eZ, List.size_toArray, cs_len Pg.ok_zp]
  rw [eZ] at hz HBT
  have hzn : ¬ Z = #[] := fun h => by have := HZS.out; rw [h] at this; simp at this
  by_cases h0 : Pg.er L = 0
  · obtain ⟨hnd, hpt⟩ := Pg.only hp.bat.1 h0
    have HC : Hid (∀ y, Calls Try.prog 9 #[.int .i64 (Pg.ix L), .agg A] y (PutYes L y)) := fun y => by
      have := put_yes (Pg.ix L) (Pg.pg L) (Pg.pg_ok hp.bat.1) hnd y
      rw [hpt, eA] at this
      exact this
    have HSM : Hid (∀ y q d, Bs y p c L → Bs y q d L → Calls Try.prog 13 #[.slice p n c, .slice q 328 d] y (YesSay y)) := fun y q d h1 h2 => same_any L p q n 328 c d hn (Pg.er_len h0) y h1.bat h2.bat (by omega)
    rw [h0] at HG
    generalize Pg.ix L = x at *
    clear h0 hnd hpt eA hk hp hget hn
    go_enter Try.func6, Try.ntmps6
    go_upto_region 4 with (first
      | (go_at_call 18; refine (HG.out _ HP.out).mono ?_; rintro e1 w1 ⟨rfl, HB1⟩)
      | ((with_reducible refine row_store _ _ _ _ _ _ _ ?_ ?_ (heap_alloc_new _ _) (row_size Try.sizePage HAS) ?_ HA1.out ?_); (exact rfl); (exact rfl); (rw [HAS.out, HZS.out]); intro w2 G2 ch2))
    have B2 : Hid (Below w.heap.size w w2) := ch2.below (HB1.out.alloc HB1.out.size _) HB1.out.size
    clear hz hzn ch2
    go_wp2_with (first
      | ((with_reducible refine row_load _ _ w1.heap.size _ _ _ _ ?_ G2.out Try.underlying28 ?_ hsa ?_); (exact rfl); (exact rfl))
      | (go_at_call 9; refine (HC.out _).mono ?_; rintro e3 w3 ⟨q3, c3, rfl, HO3, HS3, HB3⟩; have B3 := Lib.hid (B2.out.trans (HB3.out.mono B2.out.size)))
      | (go_at_call 13; refine (HSM.out _ _ _ (HP.out.old B3.out) HS3.out).mono ?_; rintro e4 w4 ⟨rfl, hb4⟩; have B4 := Lib.hid (B3.out.trans (hb4.mono B3.out.size)))
      | (go_at_call 16; refine (known_any _).mono ?_; rintro e5 w5 ⟨rfl, HB5⟩; have B5 := Lib.hid (B4.out.trans (HB5.out.mono B4.out.size))))
    go_ret
    exact ⟨rfl, B5.out⟩
  · obtain ⟨hix, hpg⟩ := Pg.none h0
    have heq : ∀ y, (Op.equalIn 10000 28 (.agg A) (.agg Z)).run Try.prog y = .ok true y := fun y => by
      have := page_eq Pg.ok_zp Pg.ok_zp y
      rw [decide_eq_true rfl] at this
      have e1 : PV Pg.zp = .agg A := by rw [← hpg]; exact eA
      have e2 : PV Pg.zp = .agg Z := by unfold PV; rw [eZ]
      rw [← e1, ← e2]
      exact this
    rw [hix] at HG
    have hbe : (Pg.er L != 0) = true := by simp [h0]
    have hbf : (Pg.er L == 0) = false := by simp [h0]
    generalize Pg.er L = er at *
    clear hix hpg eA hk hp hget hn
    go_enter Try.func6, Try.ntmps6
    go_upto_region 4 with (first
      | (go_at_call 18; refine (HG.out _ HP.out).mono ?_; rintro e1 w1 ⟨rfl, HB1⟩)
      | ((with_reducible refine row_store _ _ _ _ _ _ _ ?_ ?_ (heap_alloc_new _ _) (row_size Try.sizePage HAS) ?_ HA1.out ?_); (exact rfl); (exact rfl); (rw [HAS.out, HZS.out]); intro w2 G2 ch2))
    have B2 : Hid (Below w.heap.size w w2) := ch2.below (HB1.out.alloc HB1.out.size _) HB1.out.size
    clear hz hzn ch2
    go_wp2_with (first
      | ((with_reducible refine row_load_g _ _ w1.heap.size _ _ _ _ ?_ ?_ G2.out Try.underlying28 ?_ hsa ?_); (exact rfl); (exact rfl); (exact rfl))
      | ((with_reducible refine row_build0_g _ _ ?_ HBT.out ?_); (exact rfl))
      | (go_at_call 16; refine (known_any _).mono ?_; rintro e5 w5 ⟨rfl, HB5⟩; have B5 := Lib.hid (B2.out.trans (HB5.out.mono B2.out.size))))
    go_ret
    exact ⟨rfl, B5.out⟩
end Go.Proofs.Ytgfnpofoedambaa

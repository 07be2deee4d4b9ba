/-
  PageUnlike walked.
-/
import Derived.Test.YtgfnpofoedambaaPgK
namespace Go.Proofs.Ytgfnpofoedambaa
open Go.RowKit

set_option maxHeartbeats 2000000 in
set_option maxRecDepth 100000 in
theorem unlike_any (i k : Int) (hi : Pk.In64 i) (hk : Pk.In64 k) (R S : List Pg.Rf) (hR : Pg.OkA R) (hS : Pg.OkA S) (w : World) : Calls Try.prog 8 #[.int .i64 i, .int .i64 k, PV R, PV S] w (YesSay w) := by
  obtain ⟨A, RA, eA, ha⟩ := pgk hR
  obtain ⟨B, RB, eB, hb⟩ := pgk hS
  obtain ⟨L, m, er, hLm, hm1, hput, hc⟩ := put_cases i R hR
  obtain ⟨M, n, fr, hMn, hn1, hqut, hd⟩ := put_cases k S hS
  have HC1 : Hid (∀ y, Calls Try.prog 9 #[.int .i64 i, .agg A] y (PutV L m er y)) := fun y => by rw [← eA]; exact hput y
  have HC2 : Hid (∀ y, Calls Try.prog 9 #[.int .i64 k, .agg B] y (PutV M n fr y)) := fun y => by rw [← eB]; exact hqut y
  have HPE : Hid (∀ y, (Op.equalIn 10000 28 (.agg A) (.agg B)).run Try.prog y = .ok (decide (R = S)) y) := fun y => by
    have := page_eq hR hS y
    rw [eA, eB] at this
    exact this
  rw [eA, eB]
  have HAS := Lib.hid ha.size
  have HBS := Lib.hid hb.size
  have hsa := row_size Try.sizePage HAS
  have hsb := row_size Try.sizePage HBS
  have h1 := ha.one
  have h2 := hb.one
  have B0 : Hid (Below w.heap.size w ((w.alloc (.cells A 28)).alloc (.cells B 28))) := ((Below.refl _ w).alloc (Nat.le_refl _) _).alloc (by simp) _
  have R0 : Hid (((w.alloc (.cells A 28)).alloc (.cells B 28)).heap[w.heap.size]? = some (.cells A 28 (0, 0))) := heap_alloc2_old w _ _
  have S0 : Hid (((w.alloc (.cells A 28)).alloc (.cells B 28)).heap[w.heap.size + 1]? = some (.cells B 28 (0, 0))) := heap_alloc2_new w _ _
  obtain ⟨u, hu⟩ : ∃ u, u = (w.alloc (.cells A 28)).alloc (.cells B 28) := ⟨_, rfl⟩
  rw [← hu] at B0 R0 S0
  have BU : Hid (Below w.heap.size w u) := B0.out
  clear B0
  have KA : Hid (∀ y, Below u.heap.size u y → y.heap[w.heap.size]? = some (.cells A 28 (0, 0))) := fun y hy => (hy.block _ (lt_of_block R0.out)).trans R0.out
  have KB : Hid (∀ y, Below u.heap.size u y → y.heap[w.heap.size + 1]? = some (.cells B 28 (0, 0))) := fun y hy => (hy.block _ (lt_of_block S0.out)).trans S0.out
  have BB : Hid (∀ y, Below u.heap.size u y → Below w.heap.size w y) := fun y hy => BU.out.trans (hy.mono BU.out.size)
  have B0 : Hid (Below u.heap.size u u) := Below.refl _ _
  clear R0 S0 BU ha hb eA eB hput hqut
  have hcd : (er = 0 ∧ fr = 0 ∧ L = Pg.pt i R ∧ M = Pg.pt k S) ∨ (¬ er = 0) ∨ (er = 0 ∧ ¬ fr = 0) := by
    rcases hc with ⟨h3, h4, h5, h6⟩ | ⟨h3, h4, h5, h6⟩
    · rcases hd with ⟨h7, h8, h9, h0⟩ | ⟨h7, h8, h9, h0⟩
      · exact Or.inl ⟨h3, h7, h5, h9⟩
      · exact Or.inr (Or.inr ⟨h3, by omega⟩)
    · exact Or.inr (Or.inl (by omega))
  clear hc hd
  rcases hcd with ⟨rfl, rfl, hL, hM⟩ | hne | ⟨rfl, hne⟩
  · have HSM : Hid (∀ y p1 p2 c1 c2, Bs y p1 c1 L → Bs y p2 c2 M → Calls Try.prog 13 #[.slice p1 m c1, .slice p2 n c2] y (EqSay (decide (i = k ∧ R = S)) y)) := fun y p1 p2 c1 c2 h1 h2 => by
      have := same_all L M p1 p2 m n c1 c2 hLm hMn y h1.bat h2.bat (by omega)
      have e : decide (L = M) = decide (i = k ∧ R = S) := by
        rw [hL, hM]
        exact decide_eq_decide.2 (Pg.unlike hi hk hR hS)
      rw [e] at this
      exact this
    clear hL hM hLm hMn hm1 hn1
    by_cases hik : i = k
    · subst hik
      have e2 : decide (i = i ∧ R = S) = decide (R = S) := decide_eq_decide.2 ⟨fun h => h.2, fun h => ⟨rfl, h⟩⟩
      rw [e2] at HSM
      have heq := HPE.out
      generalize decide (R = S) = q at *
      clear e2 HPE
      go_enter Try.func8, Try.ntmps8
      go_upto_region 1 with (fail)
      rw [← hu]
      clear hu
      go_wp2_with (first
        | ((with_reducible refine row_load _ _ w.heap.size _ _ _ _ ?_ (KA.out _ B0.out) Try.underlying28 ?_ hsa ?_); (exact rfl); (exact rfl))
        | (go_at_call 9; refine (HC1.out _).mono ?_; rintro e1 w1 ⟨p1, c1, rfl, HS1, HB1⟩; clear HC1; have B1 := Lib.hid (B0.out.trans (HB1.out.mono B0.out.size)))
        | ((with_reducible refine row_load _ _ (w.heap.size + 1) _ _ _ _ ?_ (KB.out _ B1.out) Try.underlying28 ?_ hsb ?_); (exact rfl); (exact rfl))
        | (go_at_call 9; refine (HC2.out _).mono ?_; rintro e2 w2 ⟨p2, c2, rfl, HS2, HB2⟩; clear HC2; have B2 := Lib.hid (B1.out.trans (HB2.out.mono B1.out.size)); have HS12 := Lib.hid (HS1.out.old HB2.out))
        | (go_at_call 13; refine (HSM.out _ _ _ _ _ HS12.out HS2.out).mono ?_; rintro e3 w3 ⟨rfl, hb3⟩; have B3 := Lib.hid (B2.out.trans (hb3.mono B2.out.size)))
        | ((with_reducible refine row_load_g _ _ w.heap.size _ _ _ _ ?_ ?_ (KA.out _ B3.out) Try.underlying28 ?_ hsa ?_); (exact rfl); (exact rfl); (exact rfl))
        | ((with_reducible refine row_load_g _ _ (w.heap.size + 1) _ _ _ _ ?_ ?_ (KB.out _ B3.out) Try.underlying28 ?_ hsb ?_); (exact rfl); (exact rfl); (exact rfl))
        | (go_at_call 16; refine (known_any _).mono ?_; rintro e4 w4 ⟨rfl, HB4⟩; have B4 := Lib.hid (B3.out.trans (HB4.out.mono B3.out.size))))
      go_ret
      exact ⟨rfl, (BB.out _ B4.out)⟩
    · have e2 : decide (i = k ∧ R = S) = false := decide_eq_false (fun h => hik h.1)
      rw [e2] at HSM
      have hbe : (i == k) = false := by simp [hik]
      clear e2 HPE
      go_enter Try.func8, Try.ntmps8
      go_upto_region 1 with (fail)
      rw [← hu]
      clear hu
      go_wp2_with (first
        | ((with_reducible refine row_load _ _ w.heap.size _ _ _ _ ?_ (KA.out _ B0.out) Try.underlying28 ?_ hsa ?_); (exact rfl); (exact rfl))
        | (go_at_call 9; refine (HC1.out _).mono ?_; rintro e1 w1 ⟨p1, c1, rfl, HS1, HB1⟩; clear HC1; have B1 := Lib.hid (B0.out.trans (HB1.out.mono B0.out.size)))
        | ((with_reducible refine row_load _ _ (w.heap.size + 1) _ _ _ _ ?_ (KB.out _ B1.out) Try.underlying28 ?_ hsb ?_); (exact rfl); (exact rfl))
        | (go_at_call 9; refine (HC2.out _).mono ?_; rintro e2 w2 ⟨p2, c2, rfl, HS2, HB2⟩; clear HC2; have B2 := Lib.hid (B1.out.trans (HB2.out.mono B1.out.size)); have HS12 := Lib.hid (HS1.out.old HB2.out))
        | (go_at_call 13; refine (HSM.out _ _ _ _ _ HS12.out HS2.out).mono ?_; rintro e3 w3 ⟨rfl, hb3⟩; have B3 := Lib.hid (B2.out.trans (hb3.mono B2.out.size)))
        | ((with_reducible refine row_load_g _ _ w.heap.size _ _ _ _ ?_ ?_ (KA.out _ B3.out) Try.underlying28 ?_ hsa ?_); (exact rfl); (exact rfl); (exact rfl))
        | ((with_reducible refine row_load_g _ _ (w.heap.size + 1) _ _ _ _ ?_ ?_ (KB.out _ B3.out) Try.underlying28 ?_ hsb ?_); (exact rfl); (exact rfl); (exact rfl))
        | (go_at_call 16; refine (known_any _).mono ?_; rintro e4 w4 ⟨rfl, HB4⟩; have B4 := Lib.hid (B3.out.trans (HB4.out.mono B3.out.size))))
      go_ret
      exact ⟨rfl, BB.out _ B4.out⟩
  · have hbe : (er != 0) = true := by simp [hne]
    have hbf : (er == 0) = false := by simp [hne]
    clear HPE
    go_enter Try.func8, Try.ntmps8
    go_upto_region 1 with (fail)
    rw [← hu]
    clear hu
    go_wp2_with (first
      | ((with_reducible refine row_load _ _ w.heap.size _ _ _ _ ?_ (KA.out _ B0.out) Try.underlying28 ?_ hsa ?_); (exact rfl); (exact rfl))
      | (go_at_call 9; refine (HC1.out _).mono ?_; rintro e1 w1 ⟨p1, c1, rfl, HS1, HB1⟩; clear HC1; have B1 := Lib.hid (B0.out.trans (HB1.out.mono B0.out.size)))
      | ((with_reducible refine row_load _ _ (w.heap.size + 1) _ _ _ _ ?_ (KB.out _ B1.out) Try.underlying28 ?_ hsb ?_); (exact rfl); (exact rfl))
      | (go_at_call 9; refine (HC2.out _).mono ?_; rintro e2 w2 ⟨p2, c2, rfl, HS2, HB2⟩; clear HC2; have B2 := Lib.hid (B1.out.trans (HB2.out.mono B1.out.size)); have HS12 := Lib.hid (HS1.out.old HB2.out))
      | (go_at_call 16; refine (known_any _).mono ?_; rintro e4 w4 ⟨rfl, HB4⟩; have B4 := Lib.hid (B2.out.trans (HB4.out.mono B2.out.size))))
    go_ret
    exact ⟨rfl, BB.out _ B4.out⟩
  · have hbe : (fr != 0) = true := by simp [hne]
    have hbf : (fr == 0) = false := by simp [hne]
    clear HPE
    go_enter Try.func8, Try.ntmps8
    go_upto_region 1 with (fail)
    rw [← hu]
    clear hu
    go_wp2_with (first
      | ((with_reducible refine row_load _ _ w.heap.size _ _ _ _ ?_ (KA.out _ B0.out) Try.underlying28 ?_ hsa ?_); (exact rfl); (exact rfl))
      | (go_at_call 9; refine (HC1.out _).mono ?_; rintro e1 w1 ⟨p1, c1, rfl, HS1, HB1⟩; clear HC1; have B1 := Lib.hid (B0.out.trans (HB1.out.mono B0.out.size)))
      | ((with_reducible refine row_load _ _ (w.heap.size + 1) _ _ _ _ ?_ (KB.out _ B1.out) Try.underlying28 ?_ hsb ?_); (exact rfl); (exact rfl))
      | (go_at_call 9; refine (HC2.out _).mono ?_; rintro e2 w2 ⟨p2, c2, rfl, HS2, HB2⟩; clear HC2; have B2 := Lib.hid (B1.out.trans (HB2.out.mono B1.out.size)); have HS12 := Lib.hid (HS1.out.old HB2.out))
      | (go_at_call 16; refine (known_any _).mono ?_; rintro e4 w4 ⟨rfl, HB4⟩; have B4 := Lib.hid (B2.out.trans (HB4.out.mono B2.out.size))))
    go_ret
    exact ⟨rfl, BB.out _ B4.out⟩
end Go.Proofs.Ytgfnpofoedambaa

/-
  The reference of layer 10 walked: Place, At.
-/
import Derived.Test.YtohphehbfbobnaaGeE
import Derived.Test.YtohphehbfbobnaaGeF
namespace Go.Proofs.Ytohphehbfbobnaa
open Go.RowKit

namespace Ge
theorem at_div (b p q : Int) (hb : 0 < b) (hq : 0 ≤ q ∧ q < b) : (p * b + q) / b = p ∧ (p * b + q) % b = q := by
  have h1 : (p * b + q) / b = p := by
    rw [Int.add_comm, Int.add_mul_ediv_right _ _ (by omega), Int.ediv_eq_zero_of_lt hq.1 hq.2, Int.zero_add]
  have h2 : (p * b + q) % b = q := by
    rw [Int.add_comm, Int.add_mul_emod_self_right, Int.emod_eq_of_lt hq.1 hq.2]
  exact ⟨h1, h2⟩
theorem div_at (a b x : Int) (hb : 0 < b) (hx : 0 ≤ x ∧ x < a * b) : there a b (x / b) (x % b) ∧ (x / b) * b + x % b = x := by
  have h1 := Int.emod_nonneg x (b := b) (by omega)
  have h2 := Int.emod_lt_of_pos x hb
  have h3 : 0 ≤ x / b := Int.ediv_nonneg hx.1 (by omega)
  have h4 : x / b < a := (Int.ediv_lt_iff_lt_mul hb).2 hx.2
  have h5 := Int.mul_ediv_add_emod x b
  rw [Int.mul_comm] at h5
  exact ⟨⟨⟨h3, by omega⟩, h1, by omega⟩, h5⟩
theorem at_lt (a b p q : Int) (hb : 0 < b) (h : there a b p q) : 0 ≤ p * b + q ∧ p * b + q < a * b := by
  obtain ⟨⟨h0, h1⟩, h2, h3⟩ := h
  have k1 : 0 ≤ p * b := Int.mul_nonneg h0 (by omega)
  have k2 : p * b ≤ (a - 1) * b := Int.mul_le_mul_of_nonneg_right h1 (by omega)
  rw [Int.sub_mul, Int.one_mul] at k2
  omega
end Ge
theorem rsec_ok {a b c : Int} (ho : Ge.ok a b c) (w : World) : Calls Try.prog 14 #[.agg #[.int .i64 a, .int .i64 b, .int .i64 c]] w (Num (3 + a * b) w) := by
  have q := rsectors_any a b c w
  rw [show Ge.sec a b c = 3 + a * b by unfold Ge.sec; exact if_pos ho] at q
  exact q
theorem rsec_no {a b c : Int} (ho : ¬ Ge.ok a b c) (w : World) : Calls Try.prog 14 #[.agg #[.int .i64 a, .int .i64 b, .int .i64 c]] w (Num 0 w) := by
  have q := rsectors_any a b c w
  rw [show Ge.sec a b c = 0 by unfold Ge.sec; exact if_neg ho] at q
  exact q
set_option maxHeartbeats 4000000 in
set_option maxRecDepth 100000 in
theorem rplace_any (a b c t : Int) (w : World) : Calls Try.prog 10 #[.agg #[.int .i64 a, .int .i64 b, .int .i64 c], .int .i64 t] w (PSay (Ge.ps a b c t) (Ge.pt a b c t) (decide (Ge.isin a b c t)) w) := by
  obtain ⟨B0, HX⟩ := gpbox a b c 0 0 w
  have HP := pbox_at a b c 0 0 w
  obtain ⟨w0, hw0⟩ : ∃ x, x = (w.alloc (GBox a b c)).alloc (PBox 0 0) := ⟨_, rfl⟩
  rw [← hw0] at B0 HX HP
  by_cases h3 : t < 3
  · have hi : ¬ Ge.isin a b c t := fun h => by have := h.2.1; omega
    rw [(in_no hi).1, (in_no hi).2, decide_eq_false hi]
    go_enter Try.func10, Try.ntmps10
    go_upto_region 1 with (fail)
    unfold GBox PBox at hw0
    rw [← hw0]
    clear hw0
    obtain ⟨⟨x00, x01, x02⟩, y00, y01⟩ := HX.out _ (Below.refl _ _)
    have f0 := frozen_of_row w0 (w.heap.size + 1) 0 _ _ (HP.out _ (Below.refl _ _))
    have f1 := frozen_of_row w0 (w.heap.size + 1) 1 _ _ (HP.out _ (Below.refl _ _))
    go_wp2
    refine bodyPost_ret (results_cell_tmp rfl _ _ (w.heap.size + 1) 25 _ (0, 0) _ rfl (pset (HP.out _ (Below.refl _ _))) Try.underlying25 rfl psize) rfl ⟨rfl, ?_⟩
    exact (pset_chg w0 (w.heap.size + 1) _ _).below B0.out (by omega)
  by_cases ho : Ge.ok a b c
  · by_cases ht : t < 3 + a * b
    · have hi : Ge.isin a b c t := ⟨ho, by omega, by omega⟩
      rw [(in_ok hi).1, (in_ok hi).2, decide_eq_true hi]
      have hb := ho.1.2.1
      have ha := ho.1.1
      have hA := Ge.area a b (by omega) (by omega)
      have hw1 : IntKind.i64.wrap (t - 3) = t - 3 := IntWalk.i64_in _ ⟨by omega, by omega⟩
      obtain ⟨hth, hx⟩ := Ge.div_at a b (t - 3) (by omega) ⟨by omega, by omega⟩
      obtain ⟨⟨q0, q1⟩, r0, r1⟩ := hth
      have hle : ∀ k : Int, k < (t - 3) / b ↔ b ≤ t - 3 - k * b := fun k => by
        have h := Int.le_ediv_iff_mul_le (a := k + 1) (b := t - 3) (c := b) (by omega)
        rw [Int.add_mul, Int.one_mul] at h
        omega
      have HL := Lib.hid hle
      clear hle
      obtain ⟨N, hN⟩ : ∃ N : Nat, (t - 3) / b = (N : Int) := ⟨((t - 3) / b).toNat, by omega⟩
      have HR : Hid ((t - 3) % b = t - 3 - (N : Int) * b) := by show _ = _; rw [hN] at hx; omega
      rw [hN] at q1 hx HL ⊢
      have hNa : N ≤ 31 := by omega
      generalize (t - 3) % b = R at *
      have HO := Lib.hid ho
      have hge : ¬ t < 3 := h3
      have hge1 : ¬ 3 + a * b ≤ t := by omega
      have htb : t ≤ 3000 := by omega
      clear ho ht hi hA hN h3
      go_enter Try.func10, Try.ntmps10
      go_upto_region 1 with (fail)
      unfold GBox PBox at hw0
      rw [← hw0]
      clear hw0
      obtain ⟨⟨x00, x01, x02⟩, y00, y01⟩ := HX.out _ (Below.refl _ _)
      go_upto_region 4 with (go_at_call 14; refine (rsec_ok HO.out _).mono ?_; rintro e1 w1 ⟨rfl, hb1⟩; have B1 := Lib.hid hb1; clear hb1)
      obtain ⟨⟨x10, x11, x12⟩, y10, y11⟩ := HX.out _ B1.out
      have f0 := frozen_of_row w1 (w.heap.size + 1) 0 _ _ (HP.out _ B1.out)
      have f1 := frozen_of_row w1 (w.heap.size + 1) 1 _ _ (HP.out _ B1.out)
      go_loopw [6] (fun v6 wr => ∃ k : Nat, k ≤ N ∧ v6 = .int .i64 k ∧ wr = w1) (fun v6 _ => N - (intOf v6).toNat)
      case atStart => exact ⟨0, by omega, rfl, rfl⟩
      case round =>
        obtain ⟨k, hk, rfl, rfl⟩ := hrel
        have hp := Ge.area (k : Int) b (by omega) (by omega)
        have hw3 : IntKind.i64.wrap ((k : Int) * b) = (k : Int) * b := IntWalk.i64_in _ ⟨by omega, by omega⟩
        have hw4 : IntKind.i64.wrap (t - 3 - (k : Int) * b) = t - 3 - (k : Int) * b := IntWalk.i64_in _ ⟨by omega, by omega⟩
        by_cases hlt : k < N
        · have hc : b ≤ t - 3 - (k : Int) * b := (HL.out (k : Int)).1 (by omega)
          go_wp2
          exact ⟨⟨k + 1, by omega, by go_num, by first | rfl | trivial⟩, by simp [intOf]; omega⟩
        · have hkN : k = N := by omega
          subst hkN
          have hc : ¬ b ≤ t - 3 - (k : Int) * b := fun h => by have := (HL.out (k : Int)).2 h; omega
          go_wp2
          have e : R = t - 3 - (k : Int) * b := HR.out
          subst e
          refine bodyPost_ret (results_cell_tmp rfl _ _ (w.heap.size + 1) 25 _ (0, 0) _ rfl (pset (HP.out _ B1.out)) Try.underlying25 rfl psize) rfl ⟨rfl, ?_⟩
          exact (pset_chg _ (w.heap.size + 1) _ _).below (B0.out.trans (B1.out.mono B0.out.size)) (by omega)
    · have hi : ¬ Ge.isin a b c t := fun h => by have := h.2.2; omega
      rw [(in_no hi).1, (in_no hi).2, decide_eq_false hi]
      have hge : 3 + a * b ≤ t := by omega
      go_enter Try.func10, Try.ntmps10
      go_upto_region 1 with (fail)
      unfold GBox PBox at hw0
      rw [← hw0]
      clear hw0
      obtain ⟨⟨x00, x01, x02⟩, y00, y01⟩ := HX.out _ (Below.refl _ _)
      go_wp2_with (go_at_call 14; refine (rsec_ok ho _).mono ?_; rintro e1 w1 ⟨rfl, hb1⟩; obtain ⟨⟨x10, x11, x12⟩, y10, y11⟩ := HX.out _ hb1; have f0 := frozen_of_row w1 (w.heap.size + 1) 0 _ _ (HP.out _ hb1); have f1 := frozen_of_row w1 (w.heap.size + 1) 1 _ _ (HP.out _ hb1))
      refine bodyPost_ret (results_cell_tmp rfl _ _ (w.heap.size + 1) 25 _ (0, 0) _ rfl (pset (HP.out _ hb1)) Try.underlying25 rfl psize) rfl ⟨rfl, ?_⟩
      exact (pset_chg w1 (w.heap.size + 1) _ _).below (B0.out.trans (hb1.mono B0.out.size)) (by omega)
  · have hi : ¬ Ge.isin a b c t := fun h => ho h.1
    rw [(in_no hi).1, (in_no hi).2, decide_eq_false hi]
    have hge : 0 ≤ t := by omega
    go_enter Try.func10, Try.ntmps10
    go_upto_region 1 with (fail)
    unfold GBox PBox at hw0
    rw [← hw0]
    clear hw0
    obtain ⟨⟨x00, x01, x02⟩, y00, y01⟩ := HX.out _ (Below.refl _ _)
    go_wp2_with (go_at_call 14; refine (rsec_no ho _).mono ?_; rintro e1 w1 ⟨rfl, hb1⟩; obtain ⟨⟨x10, x11, x12⟩, y10, y11⟩ := HX.out _ hb1; have f0 := frozen_of_row w1 (w.heap.size + 1) 0 _ _ (HP.out _ hb1); have f1 := frozen_of_row w1 (w.heap.size + 1) 1 _ _ (HP.out _ hb1))
    refine bodyPost_ret (results_cell_tmp rfl _ _ (w.heap.size + 1) 25 _ (0, 0) _ rfl (pset (HP.out _ hb1)) Try.underlying25 rfl psize) rfl ⟨rfl, ?_⟩
    exact (pset_chg w1 (w.heap.size + 1) _ _).below (B0.out.trans (hb1.mono B0.out.size)) (by omega)
theorem isin_le {a b c t : Int} (h : Ge.isin a b c t) : 0 < b ∧ 0 ≤ t - 3 ∧ t - 3 < a * b ∧ t ≤ 3000 := by
  have hA := Ge.area a b (by have := h.1.1.1; omega) (by have := h.1.1.2.1; omega)
  exact ⟨by have := h.1.1.2.1; omega, by have := h.2; omega, by have := h.2; omega, by have := h.2; omega⟩
/-- A sector's place is there, and has that sector. -/
theorem at_ps {a b c t : Int} (h : Ge.isin a b c t) : Ge.there a b (Ge.ps a b c t) (Ge.pt a b c t) ∧ Ge.at_ a b c (Ge.ps a b c t) (Ge.pt a b c t) = t := by
  obtain ⟨h0, h1, h2, _⟩ := isin_le h
  obtain ⟨k1, k2⟩ := Ge.div_at a b (t - 3) h0 ⟨h1, h2⟩
  rw [(in_ok h).1, (in_ok h).2]
  refine ⟨k1, ?_⟩
  rw [at_ok h.1 k1]
  omega
/-- A place that is there has a sector whose place it is. -/
theorem ps_at {a b c p q : Int} (ho : Ge.ok a b c) (ht : Ge.there a b p q) : Ge.isin a b c (3 + p * b + q) ∧ Ge.ps a b c (3 + p * b + q) = p ∧ Ge.pt a b c (3 + p * b + q) = q := by
  have hb : 0 < b := by have := ho.1.2.1; omega
  have h := Ge.at_lt a b p q hb ht
  have hi : Ge.isin a b c (3 + p * b + q) := ⟨ho, by omega, by omega⟩
  have e : 3 + p * b + q - 3 = p * b + q := by omega
  obtain ⟨k1, k2⟩ := Ge.at_div b p q hb ⟨ht.2.1, by have := ht.2.2; omega⟩
  rw [(in_ok hi).1, (in_ok hi).2, e]
  exact ⟨hi, k1, k2⟩
/-- No place behind the first sectors is p, q up to t. -/
def NoAt (a b p q t : Int) : Prop := ¬ (Ge.there a b p q ∧ 3 + p * b + q < t)
theorem noat_next {a b c p q t : Int} (h : NoAt a b p q t) (hi : Ge.isin a b c t) (hne : ¬ (Ge.ps a b c t = p ∧ Ge.pt a b c t = q)) : NoAt a b p q (t + 1) := by
  rintro ⟨h1, h2⟩
  have h3 : ¬ 3 + p * b + q < t := fun k => h ⟨h1, k⟩
  have h4 : 3 + p * b + q = t := by omega
  have h5 := ps_at hi.1 h1
  rw [h4] at h5
  exact hne h5.2
set_option maxHeartbeats 4000000 in
set_option maxRecDepth 100000 in
theorem rat_any (a b c p q : Int) (w : World) : Calls Try.prog 16 #[.agg #[.int .i64 a, .int .i64 b, .int .i64 c], .agg #[.int .i64 p, .int .i64 q]] w (Num (Ge.at_ a b c p q) w) := by
  obtain ⟨B0, HX⟩ := gpbox a b c p q w
  obtain ⟨w0, hw0⟩ : ∃ x, x = (w.alloc (GBox a b c)).alloc (PBox p q) := ⟨_, rfl⟩
  rw [← hw0] at B0 HX
  by_cases ho : Ge.ok a b c
  · have hA := Ge.area a b (by have := ho.1.1; omega) (by have := ho.1.2.1; omega)
    obtain ⟨S, hS⟩ : ∃ S : Nat, 3 + a * b = 3 + (S : Int) := ⟨(a * b).toNat, by omega⟩
    have hS2 : S ≤ 2048 := by omega
    obtain ⟨V, HV⟩ : ∃ V, Hid (Ge.at_ a b c p q = V) := ⟨_, rfl⟩
    rw [HV.out]
    have HO := Lib.hid ho
    have KS : ∀ y, Calls Try.prog 14 #[.agg #[.int .i64 a, .int .i64 b, .int .i64 c]] y (Num (3 + (S : Int)) y) := fun y => by
      have h := rsec_ok ho y
      rw [hS] at h
      exact h
    have HS := Lib.hid hS
    clear ho hA hS
    go_enter Try.func16, Try.ntmps16
    go_upto_region 1 with (fail)
    unfold GBox PBox at hw0
    rw [← hw0]
    clear hw0
    go_upto_region 2 with (fail)
    go_loopw [5] (fun v5 wr => ∃ k : Nat, k ≤ S ∧ v5 = .int .i64 (3 + (k : Int)) ∧ Hid (NoAt a b p q (3 + (k : Int))) ∧ Hid (Below w0.heap.size w0 wr)) (fun v5 _ => S + 3 - (intOf v5).toNat)
    case atStart => exact ⟨0, by omega, rfl, by rintro ⟨h1, h2⟩; have h3 := Ge.at_lt a b p q (by have := HO.out.1.2.1; omega) h1; simp at h2; omega, Lib.hid (Below.refl _ _)⟩
    case round =>
      obtain ⟨k, hk, rfl, HN, HB⟩ := hrel
      by_cases hlt : k < S
      · have hc : 3 + (k : Int) < 3 + (S : Int) := by omega
        have hi : Ge.isin a b c (3 + (k : Int)) := ⟨HO.out, by omega, by have := HS.out; omega⟩
        obtain ⟨P, hP⟩ : ∃ P, Ge.ps a b c (3 + (k : Int)) = P := ⟨_, rfl⟩
        obtain ⟨Q, hQ⟩ : ∃ P, Ge.pt a b c (3 + (k : Int)) = P := ⟨_, rfl⟩
        have KP : ∀ y, Calls Try.prog 10 #[.agg #[.int .i64 a, .int .i64 b, .int .i64 c], .int .i64 (3 + (k : Int))] y (PSay P Q true y) := fun y => by
          have h := rplace_any a b c (3 + (k : Int)) y
          rw [hP, hQ, decide_eq_true hi] at h
          exact h
        have HI := Lib.hid (And.intro hi (And.intro hP hQ))
        clear hi hP hQ
        obtain ⟨⟨x00, x01, x02⟩, y00, y01⟩ := HX.out _ HB.out
        go_upto_region 5 with (first
          | (go_at_call 14; refine (KS _).mono ?_; rintro e1 w1 ⟨rfl, hb1⟩; have B1 := Lib.hid (HB.out.trans (hb1.mono HB.out.size)); clear hb1; obtain ⟨⟨x10, x11, x12⟩, y10, y11⟩ := HX.out _ B1.out)
          | (go_at_call 10; refine (KP _).mono ?_; rintro e2 w2 ⟨rfl, hb2⟩; have B2 := Lib.hid (B1.out.trans (hb2.mono B1.out.size)); clear hb2; obtain ⟨⟨x20, x21, x22⟩, y20, y21⟩ := HX.out _ B2.out))
        have B3 : Hid (Below w0.heap.size w0 (w2.alloc (.cells #[.int .i64 P, .int .i64 Q] 25))) := Lib.hid (B2.out.alloc B2.out.size _)
        obtain ⟨_, y30, y31⟩ := HX.out _ B3.out
        by_cases he : P = p ∧ Q = q
        · have hV : V = 3 + (k : Int) := by
            have h := (at_ps HI.out.1).2
            rw [HI.out.2.1, HI.out.2.2, he.1, he.2, HV.out] at h
            exact h
          obtain ⟨rfl, rfl⟩ := he
          go_wp2
          go_ret
          exact ⟨by first | rfl | (rw [hV]; rfl), B0.out.trans (B3.out.mono B0.out.size)⟩
        · have HN2 := Lib.hid (noat_next HN.out HI.out.1 (by rw [HI.out.2.1, HI.out.2.2]; exact he))
          have HN3 : Hid (NoAt a b p q (3 + ((k + 1 : Nat) : Int))) := by
            have h := HN2.out
            rw [Int.add_assoc] at h
            exact h
          by_cases hP : P = p
          · subst hP
            have hQ : ¬ Q = q := fun h => he ⟨rfl, h⟩
            go_wp2
            exact ⟨⟨k + 1, by omega, by go_num, HN3, B3⟩, by simp [intOf]; omega⟩
          · go_wp2
            exact ⟨⟨k + 1, by omega, by go_num, HN3, B3⟩, by simp [intOf]; omega⟩
      · have hkn : k = S := by omega
        subst hkn
        have hV : V = 0 := by
          rw [← HV.out]
          refine at_no (fun h => HN.out ⟨h.2, ?_⟩)
          have h3 := Ge.at_lt a b p q (by have := HO.out.1.2.1; omega) h.2
          have := HS.out
          omega
        obtain ⟨⟨x00, x01, x02⟩, y00, y01⟩ := HX.out _ HB.out
        go_wp2_with (go_at_call 14; refine (KS _).mono ?_; rintro e1 w1 ⟨rfl, hb1⟩; have B1 := Lib.hid (HB.out.trans (hb1.mono HB.out.size)); clear hb1)
        go_ret
        exact ⟨by first | rfl | (rw [hV]; rfl), B0.out.trans (B1.out.mono B0.out.size)⟩
  · rw [at_no (fun h => ho h.1)]
    go_enter Try.func16, Try.ntmps16
    go_upto_region 1 with (fail)
    unfold GBox PBox at hw0
    rw [← hw0]
    clear hw0
    obtain ⟨⟨x00, x01, x02⟩, y00, y01⟩ := HX.out _ (Below.refl _ _)
    go_upto_region 2 with (fail)
    go_loopw [5] (fun v5 wr => v5 = .int .i64 3 ∧ wr = w0) (fun _ _ => 0)
    case atStart => exact ⟨rfl, rfl⟩
    case round =>
      obtain ⟨rfl, rfl⟩ := hrel
      go_wp2_with (go_at_call 14; refine (rsec_no ho _).mono ?_; rintro e1 w1 ⟨rfl, hb1⟩; have B1 := Lib.hid hb1; clear hb1)
      go_ret
      exact ⟨rfl, B0.out.trans (B1.out.mono B0.out.size)⟩
end Go.Proofs.Ytohphehbfbobnaa

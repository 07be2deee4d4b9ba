/-
  GeoNeeds walked.
-/
import Derived.Test.YtohphehbfbobnaaGeH
namespace Go.Proofs.Ytohphehbfbobnaa
open Go.RowKit

namespace Ge
theorem nd_step (b m : Int) (hb : 32 ≤ b ∧ b ≤ 64) : nd b m ≤ nd b (m + 1) ∧ nd b (m + 1) ≤ nd b m + 1 := by
  have h1 := (nd_le b m (nd b (m + 1)) (by omega)).2
  have h2 := (nd_le b (m + 1) (nd b (m + 1)) (by omega)).1 (Int.le_refl _)
  have h3 := (nd_le b m (nd b m) (by omega)).1 (Int.le_refl _)
  have h4 := (nd_le b (m + 1) (nd b m + 1) (by omega)).2
  rw [Int.add_mul, Int.one_mul] at h4
  exact ⟨h1 (by omega), h4 (by omega)⟩
theorem nd_room (b m : Int) (hb : 32 ≤ b ∧ b ≤ 64) : 4 * m ≤ nd b m * (b - 1) ∧ (nd b m - 1) * (b - 1) < 4 * m := by
  have h3 := (nd_le b m (nd b m) (by omega)).1 (Int.le_refl _)
  have h4 := (nd_le b m (nd b m - 1) (by omega)).2
  exact ⟨h3, by omega⟩
theorem nd_zero (b : Int) (hb : 32 ≤ b ∧ b ≤ 64) : nd b 0 = 0 := by
  have h1 := (nd_le b 0 0 (by omega)).2 (by omega)
  have h2 := nd_in b 0 hb.1 (by omega) (by omega)
  omega
theorem nd_mono (b m k : Int) (hb : 32 ≤ b ∧ b ≤ 64) (h : m ≤ k) : nd b m ≤ nd b k := by
  have h2 := (nd_le b k (nd b k) (by omega)).1 (Int.le_refl _)
  exact (nd_le b m _ (by omega)).2 (by omega)
end Ge
theorem need_ok {a b c : Int} (ho : Ge.ok a b c) (m : Int) : Ge.need a b c m = Ge.nd b (Ge.cut m) := by unfold Ge.need; exact if_pos ho
theorem rsv_ok {a b c : Int} (ho : Ge.ok a b c) (m : Int) : Ge.rsv a b c m = Ge.nd b (Ge.cut m) + 8 := by unfold Ge.rsv; exact if_pos ho
/-- An answer, behind a world. -/
def NumB (v : Int) (w0 : World) (e : Ending) (w' : World) : Prop := e = .returned (.int .i64 v) ∧ Hid (Below w0.heap.size w0 w')
theorem numB {P : Program} {f : FuncId} {args : Array Value} {v : Int} {w0 y : World} (h : Calls P f args y (Num v y)) (hy : Below w0.heap.size w0 y) : Calls P f args y (NumB v w0) := by
  refine h.mono ?_
  rintro e w' ⟨rfl, hb⟩
  exact ⟨rfl, hy.trans (hb.mono hy.size)⟩
def YesB (w0 : World) (e : Ending) (w' : World) : Prop := e = .returned (.bool true) ∧ Hid (Below w0.heap.size w0 w')
theorem worksB {w0 y : World} (hy : Below w0.heap.size w0 y) : Calls Try.prog 23 #[] y (YesB w0) := by
  refine (works_any y).mono ?_
  rintro e w' ⟨rfl, hb⟩
  exact ⟨rfl, hy.trans (hb.mono hy.size)⟩
set_option maxHeartbeats 4000000 in
set_option maxRecDepth 100000 in
theorem needs_law (a b c t : Int) (w : World) : Calls Try.prog 6 #[.agg #[.int .i64 a, .int .i64 b, .int .i64 c], .int .i64 t] w (YesSay w) := by
  obtain ⟨B0, HX⟩ := gbox a b c w
  obtain ⟨w0, hw0⟩ : ∃ x, x = w.alloc (GBox a b c) := ⟨_, rfl⟩
  rw [← hw0] at B0 HX
  by_cases ho : Ge.ok a b c
  · have hb := ho.1.2.1
    obtain ⟨M, HM⟩ : ∃ M : Int, Hid (((pk t 64 : Nat) : Int) = M) := ⟨_, rfl⟩
    have hM : 0 ≤ M ∧ M ≤ 63 := by
      have h := pk_lt t 64 (by omega)
      rw [HM.out] at h
      exact ⟨by rw [← HM.out]; omega, by omega⟩
    obtain ⟨N, HN⟩ : ∃ N, Hid (Ge.nd b M = N) := ⟨_, rfl⟩
    obtain ⟨N1, HN1⟩ : ∃ N, Hid (Ge.nd b (M + 1) = N) := ⟨_, rfl⟩
    obtain ⟨X, HX1⟩ : ∃ N, Hid (Ge.nd b (Ge.cut t) = N) := ⟨_, rfl⟩
    obtain ⟨Y, HY1⟩ : ∃ N, Hid (Ge.nd b 64 = N) := ⟨_, rfl⟩
    have h1 := Ge.nd_step b M hb
    have h2 := Ge.nd_room b M hb
    have h3 := Ge.nd_in b M hb.1 hM.1 (by omega)
    have h4 : M = 0 → N = 0 := fun h => by rw [← HN.out, h]; exact Ge.nd_zero b hb
    have h5 := Ge.nd_in b (Ge.cut t) hb.1 (Ge.cut_in t).1 (Ge.cut_in t).2
    have h6 := Ge.nd_mono b (Ge.cut t) 64 hb (Ge.cut_in t).2
    rw [HN.out, HN1.out] at h1
    rw [HN.out] at h2 h3
    rw [HX1.out] at h5 h6
    rw [HY1.out] at h6
    have hp := Ge.area N (b - 1) (by omega) (by omega)
    have KM : ∀ y, Calls Try.prog 24 #[.int .i64 t, .int .i64 64] y fun e w' => w' = y ∧ e = .returned (.int .i64 M) := fun y => by
      have q := pick_at t 64 (by omega) (by omega) y
      rw [HM.out] at q
      exact q
    have KC : ∀ y, Below w0.heap.size w0 y → Calls Try.prog 11 #[.agg #[.int .i64 a, .int .i64 b, .int .i64 c]] y (NumB 0 w0) := fun y hy => numB (check_ok ho y) hy
    have K1 : ∀ y, Below w0.heap.size w0 y → Calls Try.prog 17 #[.agg #[.int .i64 a, .int .i64 b, .int .i64 c], .int .i64 M] y (NumB N w0) := fun y hy => by
      have q := need_any a b c M y
      rw [need_ok ho, Ge.cut_id M ⟨hM.1, by omega⟩, HN.out] at q
      exact numB q hy
    have K2 : ∀ y, Below w0.heap.size w0 y → Calls Try.prog 17 #[.agg #[.int .i64 a, .int .i64 b, .int .i64 c], .int .i64 (M + 1)] y (NumB N1 w0) := fun y hy => by
      have q := need_any a b c (M + 1) y
      rw [need_ok ho, Ge.cut_id (M + 1) ⟨by omega, by omega⟩, HN1.out] at q
      exact numB q hy
    have K3 : ∀ y, Below w0.heap.size w0 y → Calls Try.prog 17 #[.agg #[.int .i64 a, .int .i64 b, .int .i64 c], .int .i64 t] y (NumB X w0) := fun y hy => by
      have q := need_any a b c t y
      rw [need_ok ho, HX1.out] at q
      exact numB q hy
    have K4 : ∀ y, Below w0.heap.size w0 y → Calls Try.prog 17 #[.agg #[.int .i64 a, .int .i64 b, .int .i64 c], .int .i64 64] y (NumB Y w0) := fun y hy => by
      have q := need_any a b c 64 y
      rw [need_ok ho, Ge.cut_id 64 ⟨by omega, by omega⟩, HY1.out] at q
      exact numB q hy
    have KR : ∀ y, Below w0.heap.size w0 y → Calls Try.prog 19 #[.agg #[.int .i64 a, .int .i64 b, .int .i64 c], .int .i64 M] y (NumB (N + 8) w0) := fun y hy => by
      have q := reserve_any a b c M y
      rw [rsv_ok ho, Ge.cut_id M ⟨hM.1, by omega⟩, HN.out] at q
      exact numB q hy
    have hw1 : IntKind.i64.wrap (M + 1) = M + 1 := IntWalk.i64_in _ ⟨by omega, by omega⟩
    have hw2 : IntKind.i64.wrap (N + 1) = N + 1 := IntWalk.i64_in _ ⟨by omega, by omega⟩
    have hw3 : IntKind.i64.wrap (N - 1) = N - 1 := IntWalk.i64_in _ ⟨by omega, by omega⟩
    have hw4 : IntKind.i64.wrap (b - 1) = b - 1 := IntWalk.i64_in _ ⟨by omega, by omega⟩
    have hw5 : IntKind.i64.wrap (4 * M) = 4 * M := IntWalk.i64_in _ ⟨by omega, by omega⟩
    have hw6 : IntKind.i64.wrap (N + 8) = N + 8 := IntWalk.i64_in _ ⟨by omega, by omega⟩
    have hw7 : IntKind.i64.wrap (N * (b - 1)) = N * (b - 1) := IntWalk.i64_in _ ⟨by omega, by omega⟩
    have e8 : (N - 1) * (b - 1) = N * (b - 1) - (b - 1) := by rw [Int.sub_mul, Int.one_mul]
    have hw8 : IntKind.i64.wrap ((N - 1) * (b - 1)) = (N - 1) * (b - 1) := by rw [e8]; exact IntWalk.i64_in _ ⟨by omega, by omega⟩
    have c1 : ¬ N1 < N := by omega
    have c2 : ¬ N1 > N + 1 := by omega
    have c3 : ¬ N * (b - 1) < 4 * M := by omega
    have c4 : ¬ (N - 1) * (b - 1) ≥ 4 * M := by omega
    have c5 : (0 : Int) ≤ X := h5.1
    obtain ⟨Z8, hZ8⟩ : ∃ Z, (N - 1) * (b - 1) = Z := ⟨_, rfl⟩
    obtain ⟨Z7, hZ7⟩ : ∃ Z, N * (b - 1) = Z := ⟨_, rfl⟩
    clear h1 h2 hp e8 h3 h5
    rw [hZ8] at hw8 c4
    rw [hZ7] at hw7 c3
    go_enter Try.func6, Try.ntmps6
    go_upto_region 1 with (fail)
    unfold GBox at hw0
    rw [← hw0]
    clear hw0
    obtain ⟨x00, x01, x02⟩ := HX.out _ (Below.refl _ _)
    go_upto_region 6 with (first
      | (go_at_call 11; refine (KC _ (Below.refl _ _)).mono ?_; rintro e1 w1 ⟨rfl, B1⟩; obtain ⟨x10, x11, x12⟩ := HX.out _ B1.out)
      | (go_at_call 24; refine (KM _).mono ?_; rintro e1 w1 ⟨rfl, rfl⟩)
      | (go_at_call 17; refine (K2 _ B2.out).mono ?_; rintro e1 w3 ⟨rfl, B3⟩; obtain ⟨x30, x31, x32⟩ := HX.out _ B3.out)
      | (go_at_call 17; refine (K1 _ B1.out).mono ?_; rintro e1 w2 ⟨rfl, B2⟩; obtain ⟨x20, x21, x22⟩ := HX.out _ B2.out))
    clear B1 B2 x10 x11 x12 x20 x21 x22
    by_cases hm : M = 0
    · have hn0 := h4 hm
      have hm1 : ¬ M > 0 := by omega
      have hn1 : ¬ N ≠ 0 := fun h => h hn0
      have hmd : (M == 0) = true := by rw [hm]; rfl
      have hnd : (N != 0) = false := by rw [hn0]; rfl
      clear hn0 hm
      go_upto_region 8 with (fail)
      have Ta : Hid (0 = 0) := rfl
      have Tb : Hid (0 = 0) := rfl
      have BB : Hid (Below w0.heap.size w0 w3.drew) := Lib.hid B3.out.drew
      go_region_held3 (fun y => y.cell? ⟨w.heap.size, 0, none⟩ = some (.int .i64 a) ∧ y.cell? ⟨w.heap.size, 1, none⟩ = some (.int .i64 b) ∧ y.cell? ⟨w.heap.size, 2, none⟩ = some (.int .i64 c))
        (exact HX.out _ (Hid.out (by assumption)))
        ((first
          | (go_at_call 19; refine (KR _ (Hid.out (by assumption))).mono ?_; rintro e1 q1 ⟨rfl, hb1⟩; clear BB; have BB := hb1; clear hb1)
          | (go_at_call 17; have R := Ta.out; clear R Ta; refine (K3 _ (Hid.out (by assumption))).mono ?_; rintro e1 q1 ⟨rfl, hb1⟩; clear BB; have BB := hb1; clear hb1)
          | (go_at_call 17; have R := Tb.out; clear R Tb; refine (K3 _ (Hid.out (by assumption))).mono ?_; rintro e1 q1 ⟨rfl, hb1⟩; clear BB; have BB := hb1; clear hb1)
          | (go_at_call 17; refine (K4 _ (Hid.out (by assumption))).mono ?_; rintro e1 q1 ⟨rfl, hb1⟩; clear BB; have BB := hb1; clear hb1)
          | (go_at_call 23; refine (worksB (Hid.out (by assumption))).mono ?_; rintro e1 q1 ⟨rfl, hb1⟩; clear BB; have BB := hb1; clear hb1)))
      go_wp2
      go_ret
      exact ⟨rfl, B0.out.trans (BB.out.mono B0.out.size)⟩
    · have hm1 : M > 0 := by omega
      go_upto_region 8 with (fail)
      have Ta : Hid (0 = 0) := rfl
      have Tb : Hid (0 = 0) := rfl
      have BB : Hid (Below w0.heap.size w0 w3.drew) := Lib.hid B3.out.drew
      go_region_held3 (fun y => y.cell? ⟨w.heap.size, 0, none⟩ = some (.int .i64 a) ∧ y.cell? ⟨w.heap.size, 1, none⟩ = some (.int .i64 b) ∧ y.cell? ⟨w.heap.size, 2, none⟩ = some (.int .i64 c))
        (exact HX.out _ (Hid.out (by assumption)))
        ((first
          | (go_at_call 19; refine (KR _ (Hid.out (by assumption))).mono ?_; rintro e1 q1 ⟨rfl, hb1⟩; clear BB; have BB := hb1; clear hb1)
          | (go_at_call 17; have R := Ta.out; clear R Ta; refine (K3 _ (Hid.out (by assumption))).mono ?_; rintro e1 q1 ⟨rfl, hb1⟩; clear BB; have BB := hb1; clear hb1)
          | (go_at_call 17; have R := Tb.out; clear R Tb; refine (K3 _ (Hid.out (by assumption))).mono ?_; rintro e1 q1 ⟨rfl, hb1⟩; clear BB; have BB := hb1; clear hb1)
          | (go_at_call 17; refine (K4 _ (Hid.out (by assumption))).mono ?_; rintro e1 q1 ⟨rfl, hb1⟩; clear BB; have BB := hb1; clear hb1)
          | (go_at_call 23; refine (worksB (Hid.out (by assumption))).mono ?_; rintro e1 q1 ⟨rfl, hb1⟩; clear BB; have BB := hb1; clear hb1)))
      go_wp2
      go_ret
      exact ⟨rfl, B0.out.trans (BB.out.mono B0.out.size)⟩
  · have KC : ∀ y, Below w0.heap.size w0 y → Calls Try.prog 11 #[.agg #[.int .i64 a, .int .i64 b, .int .i64 c]] y (NumB 15 w0) := fun y hy => numB (check_no ho y) hy
    have KN : ∀ y, Below w0.heap.size w0 y → Calls Try.prog 17 #[.agg #[.int .i64 a, .int .i64 b, .int .i64 c], .int .i64 t] y (NumB 0 w0) := fun y hy => by
      have q := need_any a b c t y
      rw [show Ge.need a b c t = 0 by unfold Ge.need; exact if_neg ho] at q
      exact numB q hy
    have KR : ∀ y, Below w0.heap.size w0 y → Calls Try.prog 19 #[.agg #[.int .i64 a, .int .i64 b, .int .i64 c], .int .i64 t] y (NumB 0 w0) := fun y hy => by
      have q := reserve_any a b c t y
      rw [show Ge.rsv a b c t = 0 by unfold Ge.rsv; exact if_neg ho] at q
      exact numB q hy
    go_enter Try.func6, Try.ntmps6
    go_upto_region 1 with (fail)
    unfold GBox at hw0
    rw [← hw0]
    clear hw0
    obtain ⟨x00, x01, x02⟩ := HX.out _ (Below.refl _ _)
    go_wp2_with (first
      | (go_at_call 11; refine (KC _ (Below.refl _ _)).mono ?_; rintro e1 w1 ⟨rfl, B1⟩; obtain ⟨x10, x11, x12⟩ := HX.out _ B1.out)
      | (go_at_call 17; refine (KN _ B1.out).mono ?_; rintro e1 w2 ⟨rfl, B2⟩; obtain ⟨x20, x21, x22⟩ := HX.out _ B2.out)
      | (go_at_call 19; refine (KR _ B2.out).mono ?_; rintro e1 w3 ⟨rfl, B3⟩; obtain ⟨x30, x31, x32⟩ := HX.out _ B3.out)
      | (go_at_call 23; refine (worksB B3.out).mono ?_; rintro e1 w4 ⟨rfl, B4⟩))
    go_ret
    exact ⟨rfl, B0.out.trans (B4.out.mono B0.out.size)⟩
end Go.Proofs.Ytohphehbfbobnaa

/-
  The example that each statement of layer 10 asks, and Pick.
-/
import Derived.Test.YtohphehbfbobnaaGeG
namespace Go.Proofs.Ytohphehbfbobnaa
open Go.RowKit

theorem fst_ok : Ge.ok 18 32 4 := by decide
theorem fst_need : Ge.need 18 32 4 4 = 1 := by decide
theorem fst_lean : Ge.lean 18 32 4 = 6 := by decide
theorem fst_sec : Ge.sec 18 32 4 = 579 := by decide
theorem fst_at : Ge.at_ 18 32 4 1 2 = 37 := by decide
set_option maxHeartbeats 4000000 in
set_option maxRecDepth 100000 in
theorem works_any (w : World) : Calls Try.prog 23 #[] w (YesSay w) := by
  obtain ⟨B0, HX⟩ := gbox 18 32 4 w
  obtain ⟨w0, hw0⟩ : ∃ x, x = w.alloc (GBox 18 32 4) := ⟨_, rfl⟩
  rw [← hw0] at B0 HX
  have KC : ∀ y, Below w0.heap.size w0 y → Calls Try.prog 11 #[.agg #[.int .i64 18, .int .i64 32, .int .i64 4]] y fun e w' => e = .returned (.int .i64 0) ∧ Hid (Below w0.heap.size w0 w') := fun y hy => by
    refine (check_ok fst_ok y).mono ?_
    rintro e w' ⟨rfl, hb⟩
    exact ⟨rfl, hy.trans (hb.mono hy.size)⟩
  have KN : ∀ y, Below w0.heap.size w0 y → Calls Try.prog 17 #[.agg #[.int .i64 18, .int .i64 32, .int .i64 4], .int .i64 4] y fun e w' => e = .returned (.int .i64 1) ∧ Hid (Below w0.heap.size w0 w') := fun y hy => by
    have q := need_any 18 32 4 4 y
    rw [fst_need] at q
    refine q.mono ?_
    rintro e w' ⟨rfl, hb⟩
    exact ⟨rfl, hy.trans (hb.mono hy.size)⟩
  have KL : ∀ y, Below w0.heap.size w0 y → Calls Try.prog 21 #[.agg #[.int .i64 18, .int .i64 32, .int .i64 4]] y fun e w' => e = .returned (.int .i64 6) ∧ Hid (Below w0.heap.size w0 w') := fun y hy => by
    have q := leans_any 18 32 4 y
    rw [fst_lean] at q
    refine q.mono ?_
    rintro e w' ⟨rfl, hb⟩
    exact ⟨rfl, hy.trans (hb.mono hy.size)⟩
  have KS : ∀ y, Below w0.heap.size w0 y → Calls Try.prog 13 #[.agg #[.int .i64 18, .int .i64 32, .int .i64 4]] y fun e w' => e = .returned (.int .i64 579) ∧ Hid (Below w0.heap.size w0 w') := fun y hy => by
    have q := sectors_any 18 32 4 y
    rw [fst_sec] at q
    refine q.mono ?_
    rintro e w' ⟨rfl, hb⟩
    exact ⟨rfl, hy.trans (hb.mono hy.size)⟩
  have KA : ∀ y, Below w0.heap.size w0 y → Calls Try.prog 15 #[.agg #[.int .i64 18, .int .i64 32, .int .i64 4], .agg #[.int .i64 1, .int .i64 2]] y fun e w' => e = .returned (.int .i64 37) ∧ Hid (Below w0.heap.size w0 w') := fun y hy => by
    have q := at_any 18 32 4 1 2 y
    rw [fst_at] at q
    refine q.mono ?_
    rintro e w' ⟨rfl, hb⟩
    exact ⟨rfl, hy.trans (hb.mono hy.size)⟩
  go_enter Try.func23, Try.ntmps23
  go_upto_region 2 with (fail)
  unfold GBox at hw0
  rw [← hw0]
  clear hw0
  obtain ⟨x00, x01, x02⟩ := HX.out _ (Below.refl _ _)
  go_wp2_with (first
    | (go_at_call 11; refine (KC _ (Below.refl _ _)).mono ?_; rintro e1 w1 ⟨rfl, B1⟩; obtain ⟨x10, x11, x12⟩ := HX.out _ B1.out)
    | (go_at_call 17; refine (KN _ B1.out).mono ?_; rintro e1 w2 ⟨rfl, B2⟩; obtain ⟨x20, x21, x22⟩ := HX.out _ B2.out)
    | (go_at_call 21; refine (KL _ B2.out).mono ?_; rintro e1 w3 ⟨rfl, B3⟩; obtain ⟨x30, x31, x32⟩ := HX.out _ B3.out)
    | (go_at_call 13; refine (KS _ B3.out).mono ?_; rintro e1 w4 ⟨rfl, B4⟩; obtain ⟨x40, x41, x42⟩ := HX.out _ B4.out)
    | (go_at_call 15; refine (KA _ B4.out).mono ?_; rintro e1 w5 ⟨rfl, B5⟩))
  go_ret
  exact ⟨rfl, B0.out.trans (B5.out.mono B0.out.size)⟩
/-- Which number Pick answers. -/
def pk (k n : Int) : Nat := (if k.tmod n < 0 then k.tmod n + n else k.tmod n).toNat
theorem pk_lt (k n : Int) (h1 : 1 ≤ n) : (pk k n : Int) < n := by
  have hlt : k.tmod n < n := Int.tmod_lt_of_pos k (by omega)
  have hge : -n < k.tmod n := by
    have h := Int.tmod_lt_of_pos (-k) (show 0 < n by omega)
    rw [Int.neg_tmod] at h
    omega
  unfold pk
  split <;> omega
attribute [irreducible] pk
set_option maxHeartbeats 1000000 in
theorem pick_at (k n : Int) (h1 : 1 ≤ n) (hn : n ≤ 1000000) (w : World) : Calls Try.prog 24 #[.int .i64 k, .int .i64 n] w fun r w' => w' = w ∧ r = .returned (.int .i64 (pk k n : Nat)) := by
  have hlt : k.tmod n < n := Int.tmod_lt_of_pos k (by omega)
  have hge : -n < k.tmod n := by
    have h := Int.tmod_lt_of_pos (-k) (show 0 < n by omega)
    rw [Int.neg_tmod] at h
    omega
  have hw : IntKind.i64.wrap (k.tmod n) = k.tmod n := IntWalk.i64_in _ ⟨by omega, by omega⟩
  have hnz : n ≠ 0 := by omega
  have hw2 : IntKind.i64.wrap (k.tmod n + n) = k.tmod n + n := IntWalk.i64_in _ ⟨by omega, by omega⟩
  by_cases h0 : k.tmod n < 0
  · have hp : ((pk k n : Nat) : Int) = k.tmod n + n := by unfold pk; rw [if_pos h0]; omega
    go_enter Try.func24, Try.ntmps24
    go_wp2
    go_ret
    exact ⟨rfl, by first | rfl | (rw [hp]; rfl)⟩
  · have h0' : 0 ≤ k.tmod n := by omega
    have hp : ((pk k n : Nat) : Int) = k.tmod n := by unfold pk; rw [if_neg h0]; omega
    go_enter Try.func24, Try.ntmps24
    go_wp2
    go_ret
    exact ⟨rfl, by first | rfl | (rw [hp]; rfl)⟩
end Go.Proofs.Ytohphehbfbobnaa

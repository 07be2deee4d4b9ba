/-
  UsageKnown walked.
-/
import Derived.Test.YtnnalemboeccbaaUsT0
import Derived.Test.YtnnalemboeccbaaUsM
namespace Go.Proofs.Ytnnalemboeccbaa
open Go.RowKit

set_option maxHeartbeats 8000000 in
set_option maxRecDepth 100000 in
theorem known_any (w : World) : Calls Try.prog 6 #[] w (YesSay w) := by
  have HW : Hid (∀ y, Calls Try.prog 8 #[] y (YesSay y)) := fun y => works_any y
  have HK1 : Hid (∀ (n : Int) (Os : List Us.O) (g : Nat) y, Os.length = 17 → OpS y (some ⟨g, 0, none⟩) Os → Calls Try.prog 3 #[.int .i64 n, .slice (some ⟨g, 0, none⟩) 17 17] y (YesSay y)) := fun n Os g y h1 h2 => runs_any n Os _ 17 17 h1 y h2
  have HK2 : Hid (∀ (n : Int) (Os : List Us.O) (g : Nat) y, Os.length = 17 → OpS y (some ⟨g, 0, none⟩) Os → Calls Try.prog 4 #[.int .i64 n, .slice (some ⟨g, 0, none⟩) 17 17] y (YesSay y)) := fun n Os g y h1 h2 => one_any n Os _ 17 17 h1 y h2
  have HK3 : Hid (∀ (n : Int) (Os : List Us.O) (g : Nat) y, Os.length = 17 → OpS y (some ⟨g, 0, none⟩) Os → Calls Try.prog 5 #[.int .i64 n, .slice (some ⟨g, 0, none⟩) 17 17] y (YesSay y)) := fun n Os g y h1 h2 => round_any n Os _ 17 17 h1 y h2
  go_enter Try.func6, Try.ntmps6
  go_upto_region 2 with (fail)
  obtain ⟨A, hA⟩ : ∃ A : Array Value, A = #[.int .i64 (-9223372036854775808), .int .i64 (-65), .int .i64 (-64), .int .i64 (-3), .int .i64 (-2), .int .i64 (-1), .int .i64 0, .int .i64 1, .int .i64 2, .int .i64 3, .int .i64 31, .int .i64 32, .int .i64 33, .int .i64 63, .int .i64 64, .int .i64 65, .int .i64 1099511627776, .int .i64 1099511627777, .int .i64 9223372036854775807] := ⟨_, rfl⟩
  obtain ⟨w0, hw0⟩ : ∃ y, y = w.alloc (.cells A 3) := ⟨_, rfl⟩
  have B0 : Hid (Below w.heap.size w w0) := by rw [hw0]; exact (Below.refl _ w).alloc (Nat.le_refl _) _
  have HC : Hid (∀ y, Below w0.heap.size w0 y → ∀ j, j < 19 → ∃ x, y.cell? ⟨w.heap.size, j, none⟩ = some (.int .i64 x)) := fun y hy j hj => by
    have h1 : w0.heap[w.heap.size]? = some (.cells A 3 (0, 0)) := by rw [hw0]; exact heap_alloc_new w _
    have h2 := (hy.block _ (lt_of_block h1)).trans h1
    rw [cell_of_row y _ _ _ _ _ h2, hA]
    rcases j with _ | _ | _ | _ | _ | _ | _ | _ | _ | _ | _ | _ | _ | _ | _ | _ | _ | _ | _ | j
    all_goals first | exact ⟨_, rfl⟩ | omega
  rw [← hA, ← hw0]
  clear hw0 hA
  go_wp2
  go_loopw [2, 3, 4] (fun v2 _ _ y => ∃ i : Nat, i ≤ 19 ∧ v2 = .int .i64 i ∧ Hid (Below w0.heap.size w0 y)) (fun v2 _ _ _ => 19 - (intOf v2).toNat)
  case atStart => exact ⟨0, by omega, rfl, Below.refl _ _⟩
  case round =>
    obtain ⟨i, hi, rfl, HB⟩ := hrel
    by_cases hlt : i < 19
    · have hi0 : (0 : Int) ≤ (i : Int) := by omega
      have hi1 : (i : Int) < 19 := by omega
      go_wp2
      go_loopw [3, 4] (fun v3 _ y => ∃ k : Nat, k ≤ 19 ∧ v3 = .int .i64 k ∧ Hid (Below w0.heap.size w0 y)) (fun v3 _ _ => 19 - (intOf v3).toNat)
      case atStart => exact ⟨0, by omega, rfl, HB⟩
      case round =>
        clear HB
        obtain ⟨k, hk, rfl, HB⟩ := hrel
        by_cases hkl : k < 19
        · have hk0 : (0 : Int) ≤ (k : Int) := by omega
          have hk1 : (k : Int) < 19 := by omega
          obtain ⟨x, hx⟩ : ∃ x : Int, ∀ y, Below w0.heap.size w0 y → y.cell? ⟨w.heap.size, i, none⟩ = some (.int .i64 x) := by
            obtain ⟨x, h0⟩ := HC.out _ (Below.refl _ w0) i hlt
            exact ⟨x, fun y hy => (hy.cell (World.block_lt_of_cell? _ _ h0)).trans h0⟩
          obtain ⟨z, hz⟩ : ∃ z : Int, ∀ y, Below w0.heap.size w0 y → y.cell? ⟨w.heap.size, k, none⟩ = some (.int .i64 z) := by
            obtain ⟨z, h0⟩ := HC.out _ (Below.refl _ w0) k hkl
            exact ⟨z, fun y hy => (hy.cell (World.block_lt_of_cell? _ _ h0)).trans h0⟩
          have HX := Lib.hid hx
          have HZ := Lib.hid hz
          have c0 := HX.out _ HB.out
          have c1 := HZ.out _ HB.out
          clear hx hz
          go_upto_region 8 with (fail)
          dsimp only [List.append]
          go_still_tail 64, (by kernel_rfl)
          change wpList _ _ _ _ _ (World.drew _)
          have B1 : Hid (Below w0.heap.size w0 wr.drew) := HB.out.drew
          obtain ⟨w1, hw1⟩ : ∃ y, y = wr.drew := ⟨_, rfl⟩
          rw [← hw1] at B1 ⊢
          clear hw1 c0 c1
          refine ex_build x z _ (by kernel_rfl) fun wc G2 B2 => ?_
          have O2 : Hid (OpS wc (some ⟨w1.heap.size, 0, none⟩) (exO x z)) := ops_row G2.out
          have BB2 : Hid (Below w0.heap.size w0 wc) := B1.out.trans (B2.out.mono B1.out.size)
          clear G2 B2 B1
          obtain ⟨g, hg⟩ : ∃ g, w1.heap.size = g := ⟨_, rfl⟩
          rw [hg] at O2 ⊢
          clear hg
          have HJ : Hid (∀ y, Below wc.heap.size wc y → y.cell? ⟨w.heap.size, i, none⟩ = some (.int .i64 x) ∧ y.cell? ⟨w.heap.size, k, none⟩ = some (.int .i64 z)) := fun y hy => ⟨HX.out y (BB2.out.trans (hy.mono BB2.out.size)), HZ.out y (BB2.out.trans (hy.mono BB2.out.size))⟩
          clear HB
          have HK1' : Hid (∀ n y, OpS y (some ⟨g, 0, none⟩) (exO x z) → Calls Try.prog 3 #[.int .i64 n, .slice (some ⟨g, 0, none⟩) 17 17] y (YesSay y)) := fun n y h => HK1.out n (exO x z) g y (exO_len x z) h
          have HK2' : Hid (∀ n y, OpS y (some ⟨g, 0, none⟩) (exO x z) → Calls Try.prog 4 #[.int .i64 n, .slice (some ⟨g, 0, none⟩) 17 17] y (YesSay y)) := fun n y h => HK2.out n (exO x z) g y (exO_len x z) h
          have HK3' : Hid (∀ n y, OpS y (some ⟨g, 0, none⟩) (exO x z) → Calls Try.prog 5 #[.int .i64 n, .slice (some ⟨g, 0, none⟩) 17 17] y (YesSay y)) := fun n y h => HK3.out n (exO x z) g y (exO_len x z) h
          generalize exO x z = Os at *
          clear HK1 HK2 HK3
          go_wp2_with (first
            | (go_at_call 3; refine (HK1'.out 3 _ O2.out).mono ?_; rintro e3 w3 ⟨rfl, b3⟩; have O3 := Lib.hid (O2.out.old b3); obtain ⟨q0, q1⟩ := HJ.out _ b3; have B3 := Lib.hid b3; clear O2)
            | (go_at_call 3; refine (HK1'.out x _ O3.out).mono ?_; rintro e4 w4 ⟨rfl, b4⟩; have O4 := Lib.hid (O3.out.old b4); have B4 := Lib.hid (B3.out.trans (b4.mono B3.out.size)); obtain ⟨q2, q3⟩ := HJ.out _ B4.out)
            | (go_at_call 4; refine (HK2'.out z _ O4.out).mono ?_; rintro e5 w5 ⟨rfl, b5⟩; have O5 := Lib.hid (O4.out.old b5); have B5 := Lib.hid (B4.out.trans (b5.mono B4.out.size)))
            | (go_at_call 5; refine (HK3'.out 3 _ O5.out).mono ?_; rintro e6 w6 ⟨rfl, b6⟩; have B6 := Lib.hid (B5.out.trans (b6.mono B5.out.size))))
          exact ⟨⟨k + 1, by omega, by go_num, BB2.out.trans (B6.out.mono BB2.out.size)⟩, by simp [intOf]; omega⟩
        · have hge : ¬ (k : Int) < 19 := by omega
          go_wp2
          exact ⟨⟨i + 1, by omega, by go_num, HB⟩, by simp [intOf]; omega⟩
    · have hge : ¬ (i : Int) < 19 := by omega
      go_wp2_with (go_at_call 8; refine (HW.out _).mono ?_; rintro e9 w9 ⟨rfl, hb9⟩)
      go_ret
      exact ⟨rfl, B0.out.trans ((HB.out.mono B0.out.size).trans (hb9.mono (Nat.le_trans B0.out.size HB.out.size)))⟩
end Go.Proofs.Ytnnalemboeccbaa

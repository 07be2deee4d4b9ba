/-
  The law ScoreKnown, walked.
-/
import Derived.Test.YthgjfjmampmiiaaVcI
namespace Go.Proofs.Ythgjfjmampmiiaa
open Go.RowKit

namespace Vc
def nl : List Int := [-9223372036854775808, -1, 0, 1, 32, 64, 65, 1099511627776, 1099511627777, 9223372036854775807]
def nn (i : Nat) : Int := nl.getD i 0
theorem nn_in (i : Nat) (hi : i < 10) : In64 (nn i) := by
  unfold In64
  rcases i with _ | _ | _ | _ | _ | _ | _ | _ | _ | _ | i
  all_goals first | omega | exact ⟨by decide, by decide⟩
def no : Option (Nat × Int) := none
theorem vic_nil (s lean now : Int) : vic s lean now [] = none := rfl
theorem z_of : of 32 32 9 = 0 ∧ of 0 0 0 = 0 ∧ of 32 33 0 = 0 := by decide +kernel
end Vc
def KN : Array Value := #[.int .i64 (-9223372036854775808), .int .i64 (-1), .int .i64 0, .int .i64 1, .int .i64 32, .int .i64 64, .int .i64 65, .int .i64 1099511627776, .int .i64 1099511627777, .int .i64 9223372036854775807]
theorem kn_cell {y : World} {g : Nat} (h : y.heap[g]? = some (.cells KN 3 (0, 0))) (i : Nat) (hi : i < 10) : y.cell? ⟨g, i, none⟩ = some (.int .i64 (Vc.nn i)) := by
  rw [cell_of_row y g i _ _ _ h]
  rcases i with _ | _ | _ | _ | _ | _ | _ | _ | _ | _ | i
  any_goals rfl
  omega
theorem build_hw (l n : Int) : Try.prog.built 27 [(0, .int .i64 32), (1, .int .i64 l), (2, .int .i64 n)] = some (HwA 32 l n) := by kernel_rfl
theorem exec_b3 {P : Program} {a : Act} {w : World} {D : Option Tmp} {T : TypeId} {ps : String} {af : Array Edge} {gd : Option (Nat × Bool)} (t : TypeId) (i j k : Nat) (x y z : Operand) (v u s : Value) (R : Array Value) (hx : a.eval x = v) (hy : a.eval y = u) (hz : a.eval z = s) (hr : P.built t [(i, v), (j, u), (k, s)] = some R) :
    (execOp a.eval { dst := D, op := .build t #[(i, x), (j, y), (k, z)], type := T, pos := ps, after := af, guard := gd }).run P w = .ok (.value (.agg R)) w := by
  have hrun := run_build (P := P) w t #[(i, v), (j, u), (k, s)] R hr
  unfold execOp
  simp only [hx, hy, hz, List.map_toArray, List.map_cons, List.map_nil, hrun, Sem.run_bind, Sem.run_pure, Result.andThen_ok]
set_option maxHeartbeats 8000000 in
set_option maxRecDepth 100000 in
theorem sk_any (w : World) : Calls Try.prog 6 #[] w (BoSay true w) := by
  have HA : Hid (∀ a b d y, Calls Try.prog 3 #[.int .i64 a, .int .i64 b, .int .i64 d] y (BoSay true y)) := fun a b d y => sof_any a b d y
  have HBE : Hid (∀ a b d e y, In64 e → Calls Try.prog 5 #[.int .i64 a, .int .i64 b, .int .i64 d, .int .i64 e] y (BoSay true y)) := fun a b d e y he => bends_any a b d e he y
  have HVI : Hid (∀ r a b d g y, In64 a → In64 b → In64 d → SgO g y (.slice (some ⟨g, 0, none⟩) 2 2) [⟨2, r, b⟩, ⟨2, 1, d⟩] → Calls Try.prog 4 #[.slice (some ⟨g, 0, none⟩) 2 2, .agg (HwA 32 b a)] y (BoSay true y)) := fun r a b d g y ha hb hd hO => sv_any [⟨2, r, b⟩, ⟨2, 1, d⟩] (some ⟨g, 0, none⟩) 2 2 rfl 32 b a ha (by
    intro i hi
    rcases i with _ | _ | i
    · exact hb
    · exact hd
    · omega) y hO.reads
  have HVN : Hid (∀ y, Calls Try.prog 12 #[.slice none 0 0, .int .i64 32, .int .i64 6, .int .i64 9] y fun e w' => e = .returned (.tuple #[.int .i64 0, .bool false]) ∧ Hid (Below y.heap.size y w')) := fun y => victim_of [] none 0 0 rfl (by omega) 32 6 9 (by unfold In64; omega) (fun i hi => by omega) 0 false (by rw [Vc.vic_nil]; rfl) (by rw [Vc.vic_nil]; rfl) y (fun h => by simp at h)
  have HO1 : Hid (∀ y, Calls Try.prog 8 #[.int .i64 32, .int .i64 32, .int .i64 9] y fun e w' => e = .returned (.int .i64 0) ∧ w' = y) := fun y => by have h := of_any 32 32 9 y; rw [Vc.z_of.1] at h; exact h
  have HO2 : Hid (∀ y, Calls Try.prog 8 #[.int .i64 0, .int .i64 0, .int .i64 0] y fun e w' => e = .returned (.int .i64 0) ∧ w' = y) := fun y => by have h := of_any 0 0 0 y; rw [Vc.z_of.2.1] at h; exact h
  have HO3 : Hid (∀ y, Calls Try.prog 8 #[.int .i64 32, .int .i64 33, .int .i64 0] y fun e w' => e = .returned (.int .i64 0) ∧ w' = y) := fun y => by have h := of_any 32 33 0 y; rw [Vc.z_of.2.2] at h; exact h
  have HK := Lib.hid known_any
  have B0 : Hid (Below w.heap.size w (w.alloc (.cells KN 3))) := (Below.refl _ w).alloc (Nat.le_refl _) _
  have G0 : Hid ((w.alloc (.cells KN 3)).heap[w.heap.size]? = some (.cells KN 3 (0, 0))) := heap_alloc_new w _
  have HKN : Hid (#[.int .i64 (-9223372036854775808), .int .i64 (-1), .int .i64 0, .int .i64 1, .int .i64 32, .int .i64 64, .int .i64 65, .int .i64 1099511627776, .int .i64 1099511627777, .int .i64 9223372036854775807] = KN) := rfl
  go_enter Try.func6, Try.ntmps6
  go_wp2
  rw [HKN.out]
  obtain ⟨w0, hw0⟩ : ∃ x, w.alloc (.cells KN 3) = x := ⟨_, rfl⟩
  rw [hw0] at B0 G0 ⊢
  clear hw0
  go_loopw [2, 3, 4] (fun v2 _ _ wr => ∃ i : Nat, i ≤ 10 ∧ v2 = .int .i64 i ∧ Hid (Below w.heap.size w wr) ∧ Hid (wr.heap[w.heap.size]? = some (.cells KN 3 (0, 0)))) (fun v2 _ _ _ => 10 - (intOf v2).toNat)
  case atStart => exact ⟨0, Nat.zero_le _, rfl, B0, G0⟩
  case round =>
    obtain ⟨i, hi, rfl, HB, HG⟩ := hrel
    by_cases hlt : i < 10
    · have hi0 : 0 ≤ (i : Int) := by omega
      have hi1 : (i : Int) < 10 := by omega
      go_wp2
      go_loopw [3, 4] (fun v3 _ wr => ∃ j : Nat, j ≤ 10 ∧ v3 = .int .i64 j ∧ Hid (Below w.heap.size w wr) ∧ Hid (wr.heap[w.heap.size]? = some (.cells KN 3 (0, 0)))) (fun v3 _ _ => 10 - (intOf v3).toNat)
      case atStart => exact ⟨0, Nat.zero_le _, rfl, HB, HG⟩
      case round =>
        clear HB HG
        obtain ⟨j, hj, rfl, HB, HG⟩ := hrel
        by_cases hlt2 : j < 10
        · have hj0 : 0 ≤ (j : Int) := by omega
          have hj1 : (j : Int) < 10 := by omega
          go_wp2
          go_loopw [4] (fun v4 wr => ∃ m : Nat, m ≤ 10 ∧ v4 = .int .i64 m ∧ Hid (Below w.heap.size w wr) ∧ Hid (wr.heap[w.heap.size]? = some (.cells KN 3 (0, 0)))) (fun v4 _ => 10 - (intOf v4).toNat)
          case atStart => exact ⟨0, Nat.zero_le _, rfl, HB, HG⟩
          case round =>
            clear HB HG
            obtain ⟨m, hm, rfl, HB, HG⟩ := hrel
            by_cases hlt3 : m < 10
            · have hm0 : 0 ≤ (m : Int) := by omega
              have hm1 : (m : Int) < 10 := by omega
              have HCI : Hid (∀ y : World, y.heap[w.heap.size]? = some (.cells KN 3 (0, 0)) → y.cell? ⟨w.heap.size, i, none⟩ = some (.int .i64 (Vc.nn i))) := fun y h => kn_cell h i hlt
              have HCJ : Hid (∀ y : World, y.heap[w.heap.size]? = some (.cells KN 3 (0, 0)) → y.cell? ⟨w.heap.size, j, none⟩ = some (.int .i64 (Vc.nn j))) := fun y h => kn_cell h j hlt2
              have HCM : Hid (∀ y : World, y.heap[w.heap.size]? = some (.cells KN 3 (0, 0)) → y.cell? ⟨w.heap.size, m, none⟩ = some (.int .i64 (Vc.nn m))) := fun y h => kn_cell h m hlt3
              have HIN : Hid (In64 (Vc.nn i) ∧ In64 (Vc.nn j) ∧ In64 (Vc.nn m)) := ⟨Vc.nn_in i hlt, Vc.nn_in j hlt2, Vc.nn_in m hlt3⟩
              generalize Vc.nn i = a at *
              generalize Vc.nn j = b at *
              generalize Vc.nn m = d at *
              go_upto_region 11 with (fail)
              refine wp_region_any (by kernel_rfl) ?_
              change wpAny _ _ _ _ _ _ _ (World.drew _)
              have G1 : Hid (wr.drew.heap[w.heap.size]? = some (.cells KN 3 (0, 0))) := HG.out
              have B1 : Hid (Below w.heap.size w wr.drew) := HB.out.drew
              obtain ⟨z, hz⟩ : ∃ y, y = wr.drew := ⟨_, rfl⟩
              rw [← hz] at G1 B1 ⊢
              clear hz HB HG
              refine wpAny_of_held (S := fun y => y.heap[w.heap.size]? = some (.cells KN 3 (0, 0))) _ _ _ _ ?_
              refine anyH_take 0 26 (.slice (some ⟨w.heap.size, 0, none⟩) 10 10) G1.out rfl (by kernel_rfl) (by kernel_rfl) (by kernel_rfl) (fun _ _ _ h => h) (by rfl) (by intro y hy; go_simp) ?_
              try simp only [Act.put, List.setIfInBounds_toArray, List.set_cons_zero, List.set_cons_succ]
              refine anyH_take 1 27 (.int .i64 (i : Int)) G1.out rfl (by kernel_rfl) (by kernel_rfl) (by kernel_rfl) (fun _ _ _ h => h) (by rfl) (by intro y hy; go_simp) ?_
              try simp only [Act.put, List.setIfInBounds_toArray, List.set_cons_zero, List.set_cons_succ]
              refine anyH_take 2 28 (.pointer (some ⟨w.heap.size, i, none⟩)) G1.out rfl (by kernel_rfl) (by kernel_rfl) (by kernel_rfl) (fun _ _ _ h => h) (by rfl) (by intro y hy; go_simp; try (intro h; omega)) ?_
              try simp only [Act.put, List.setIfInBounds_toArray, List.set_cons_zero, List.set_cons_succ]
              refine anyH_take 3 29 (.int .i64 a) G1.out rfl (by kernel_rfl) (by kernel_rfl) (by kernel_rfl) (fun _ _ _ h => h) (by rfl) (by intro y hy; have c1 := HCI.out y hy; go_simp) ?_
              try simp only [Act.put, List.setIfInBounds_toArray, List.set_cons_zero, List.set_cons_succ]
              refine anyH_take 4 30 (.slice (some ⟨w.heap.size, 0, none⟩) 10 10) G1.out rfl (by kernel_rfl) (by kernel_rfl) (by kernel_rfl) (fun _ _ _ h => h) (by rfl) (by intro y hy; go_simp) ?_
              try simp only [Act.put, List.setIfInBounds_toArray, List.set_cons_zero, List.set_cons_succ]
              refine anyH_take 5 31 (.int .i64 (j : Int)) G1.out rfl (by kernel_rfl) (by kernel_rfl) (by kernel_rfl) (fun _ _ _ h => h) (by rfl) (by intro y hy; go_simp) ?_
              try simp only [Act.put, List.setIfInBounds_toArray, List.set_cons_zero, List.set_cons_succ]
              refine anyH_take 6 32 (.pointer (some ⟨w.heap.size, j, none⟩)) G1.out rfl (by kernel_rfl) (by kernel_rfl) (by kernel_rfl) (fun _ _ _ h => h) (by rfl) (by intro y hy; go_simp; try (intro h; omega)) ?_
              try simp only [Act.put, List.setIfInBounds_toArray, List.set_cons_zero, List.set_cons_succ]
              refine anyH_take 7 33 (.int .i64 b) G1.out rfl (by kernel_rfl) (by kernel_rfl) (by kernel_rfl) (fun _ _ _ h => h) (by rfl) (by intro y hy; have c1 := HCJ.out y hy; go_simp) ?_
              try simp only [Act.put, List.setIfInBounds_toArray, List.set_cons_zero, List.set_cons_succ]
              refine anyH_take 8 34 (.slice (some ⟨w.heap.size, 0, none⟩) 10 10) G1.out rfl (by kernel_rfl) (by kernel_rfl) (by kernel_rfl) (fun _ _ _ h => h) (by rfl) (by intro y hy; go_simp) ?_
              try simp only [Act.put, List.setIfInBounds_toArray, List.set_cons_zero, List.set_cons_succ]
              refine anyH_take 9 35 (.int .i64 (m : Int)) G1.out rfl (by kernel_rfl) (by kernel_rfl) (by kernel_rfl) (fun _ _ _ h => h) (by rfl) (by intro y hy; go_simp) ?_
              try simp only [Act.put, List.setIfInBounds_toArray, List.set_cons_zero, List.set_cons_succ]
              refine anyH_take 10 36 (.pointer (some ⟨w.heap.size, m, none⟩)) G1.out rfl (by kernel_rfl) (by kernel_rfl) (by kernel_rfl) (fun _ _ _ h => h) (by rfl) (by intro y hy; go_simp; try (intro h; omega)) ?_
              try simp only [Act.put, List.setIfInBounds_toArray, List.set_cons_zero, List.set_cons_succ]
              refine anyH_take 11 37 (.int .i64 d) G1.out rfl (by kernel_rfl) (by kernel_rfl) (by kernel_rfl) (fun _ _ _ h => h) (by rfl) (by intro y hy; have c1 := HCM.out y hy; go_simp) ?_
              try simp only [Act.put, List.setIfInBounds_toArray, List.set_cons_zero, List.set_cons_succ]
              refine anyH_one 12 (by kernel_rfl) ?_
              refine wpOp_step rfl (fun Kc hKc => ?_)
              go_simp
              refine (HA.out a b d _).mono ?_
              rintro e1 w1 ⟨rfl, b1⟩
              have G2 : Hid (w1.heap[w.heap.size]? = some (.cells KN 3 (0, 0))) := (b1.block _ (lt_of_block G1.out)).trans G1.out
              have B2 := Lib.hid (B1.out.trans (b1.mono B1.out.size))
              dsimp only
              refine hKc _ _ ⟨G2.out, ?_⟩
              clear hKc Kc
              try simp only [Act.put, List.setIfInBounds_toArray, List.set_cons_zero, List.set_cons_succ]
              refine anyH_take 13 39 (.bool false) G2.out rfl (by kernel_rfl) (by kernel_rfl) (by kernel_rfl) (fun _ _ _ h => h) (by rfl) (by intro y hy; go_simp) ?_
              try simp only [Act.put, List.setIfInBounds_toArray, List.set_cons_zero, List.set_cons_succ]
              refine anyH_take 14 40 (.bool false) G2.out rfl (by kernel_rfl) (by kernel_rfl) (by kernel_rfl) (fun _ _ _ h => h) (by rfl) (by intro y hy; go_simp) ?_
              try simp only [Act.put, List.setIfInBounds_toArray, List.set_cons_zero, List.set_cons_succ]
              refine anyH_take 15 41 (.slice (some ⟨w.heap.size, 0, none⟩) 10 10) G2.out rfl (by kernel_rfl) (by kernel_rfl) (by kernel_rfl) (fun _ _ _ h => h) (by rfl) (by intro y hy; go_simp) ?_
              try simp only [Act.put, List.setIfInBounds_toArray, List.set_cons_zero, List.set_cons_succ]
              refine anyH_take 16 42 (.int .i64 (i : Int)) G2.out rfl (by kernel_rfl) (by kernel_rfl) (by kernel_rfl) (fun _ _ _ h => h) (by rfl) (by intro y hy; go_simp) ?_
              try simp only [Act.put, List.setIfInBounds_toArray, List.set_cons_zero, List.set_cons_succ]
              refine anyH_take 17 43 (.pointer (some ⟨w.heap.size, i, none⟩)) G2.out rfl (by kernel_rfl) (by kernel_rfl) (by kernel_rfl) (fun _ _ _ h => h) (by rfl) (by intro y hy; go_simp; try (intro h; omega)) ?_
              try simp only [Act.put, List.setIfInBounds_toArray, List.set_cons_zero, List.set_cons_succ]
              refine anyH_take 18 44 (.int .i64 a) G2.out rfl (by kernel_rfl) (by kernel_rfl) (by kernel_rfl) (fun _ _ _ h => h) (by rfl) (by intro y hy; have c1 := HCI.out y hy; go_simp) ?_
              try simp only [Act.put, List.setIfInBounds_toArray, List.set_cons_zero, List.set_cons_succ]
              refine anyH_take 19 45 (.slice (some ⟨w.heap.size, 0, none⟩) 10 10) G2.out rfl (by kernel_rfl) (by kernel_rfl) (by kernel_rfl) (fun _ _ _ h => h) (by rfl) (by intro y hy; go_simp) ?_
              try simp only [Act.put, List.setIfInBounds_toArray, List.set_cons_zero, List.set_cons_succ]
              refine anyH_take 20 46 (.int .i64 (j : Int)) G2.out rfl (by kernel_rfl) (by kernel_rfl) (by kernel_rfl) (fun _ _ _ h => h) (by rfl) (by intro y hy; go_simp) ?_
              try simp only [Act.put, List.setIfInBounds_toArray, List.set_cons_zero, List.set_cons_succ]
              refine anyH_take 21 47 (.pointer (some ⟨w.heap.size, j, none⟩)) G2.out rfl (by kernel_rfl) (by kernel_rfl) (by kernel_rfl) (fun _ _ _ h => h) (by rfl) (by intro y hy; go_simp; try (intro h; omega)) ?_
              try simp only [Act.put, List.setIfInBounds_toArray, List.set_cons_zero, List.set_cons_succ]
              refine anyH_take 22 48 (.int .i64 b) G2.out rfl (by kernel_rfl) (by kernel_rfl) (by kernel_rfl) (fun _ _ _ h => h) (by rfl) (by intro y hy; have c1 := HCJ.out y hy; go_simp) ?_
              try simp only [Act.put, List.setIfInBounds_toArray, List.set_cons_zero, List.set_cons_succ]
              refine anyH_take 23 49 (.slice (some ⟨w.heap.size, 0, none⟩) 10 10) G2.out rfl (by kernel_rfl) (by kernel_rfl) (by kernel_rfl) (fun _ _ _ h => h) (by rfl) (by intro y hy; go_simp) ?_
              try simp only [Act.put, List.setIfInBounds_toArray, List.set_cons_zero, List.set_cons_succ]
              refine anyH_take 24 50 (.int .i64 (m : Int)) G2.out rfl (by kernel_rfl) (by kernel_rfl) (by kernel_rfl) (fun _ _ _ h => h) (by rfl) (by intro y hy; go_simp) ?_
              try simp only [Act.put, List.setIfInBounds_toArray, List.set_cons_zero, List.set_cons_succ]
              refine anyH_take 25 51 (.pointer (some ⟨w.heap.size, m, none⟩)) G2.out rfl (by kernel_rfl) (by kernel_rfl) (by kernel_rfl) (fun _ _ _ h => h) (by rfl) (by intro y hy; go_simp; try (intro h; omega)) ?_
              try simp only [Act.put, List.setIfInBounds_toArray, List.set_cons_zero, List.set_cons_succ]
              refine anyH_take 26 52 (.int .i64 d) G2.out rfl (by kernel_rfl) (by kernel_rfl) (by kernel_rfl) (fun _ _ _ h => h) (by rfl) (by intro y hy; have c1 := HCM.out y hy; go_simp) ?_
              try simp only [Act.put, List.setIfInBounds_toArray, List.set_cons_zero, List.set_cons_succ]
              refine anyH_take 27 53 (.slice (some ⟨w.heap.size, 0, none⟩) 10 10) G2.out rfl (by kernel_rfl) (by kernel_rfl) (by kernel_rfl) (fun _ _ _ h => h) (by rfl) (by intro y hy; go_simp) ?_
              try simp only [Act.put, List.setIfInBounds_toArray, List.set_cons_zero, List.set_cons_succ]
              refine anyH_take 28 54 (.int .i64 (i : Int)) G2.out rfl (by kernel_rfl) (by kernel_rfl) (by kernel_rfl) (fun _ _ _ h => h) (by rfl) (by intro y hy; go_simp) ?_
              try simp only [Act.put, List.setIfInBounds_toArray, List.set_cons_zero, List.set_cons_succ]
              refine anyH_take 29 55 (.pointer (some ⟨w.heap.size, i, none⟩)) G2.out rfl (by kernel_rfl) (by kernel_rfl) (by kernel_rfl) (fun _ _ _ h => h) (by rfl) (by intro y hy; go_simp; try (intro h; omega)) ?_
              try simp only [Act.put, List.setIfInBounds_toArray, List.set_cons_zero, List.set_cons_succ]
              refine anyH_take 30 56 (.int .i64 a) G2.out rfl (by kernel_rfl) (by kernel_rfl) (by kernel_rfl) (fun _ _ _ h => h) (by rfl) (by intro y hy; have c1 := HCI.out y hy; go_simp) ?_
              try simp only [Act.put, List.setIfInBounds_toArray, List.set_cons_zero, List.set_cons_succ]
              refine anyH_one 31 (by kernel_rfl) ?_
              refine wpOp_step rfl (fun Kc hKc => ?_)
              go_simp
              refine (HBE.out a b d a _ HIN.out.1).mono ?_
              rintro e2 w2 ⟨rfl, b2⟩
              have G3 : Hid (w2.heap[w.heap.size]? = some (.cells KN 3 (0, 0))) := (b2.block _ (lt_of_block G2.out)).trans G2.out
              have B3 := Lib.hid (B2.out.trans (b2.mono B2.out.size))
              dsimp only
              refine hKc _ _ ⟨G3.out, ?_⟩
              clear hKc Kc
              try simp only [Act.put, List.setIfInBounds_toArray, List.set_cons_zero, List.set_cons_succ]
              refine anyH_take 32 58 (.bool false) G3.out rfl (by kernel_rfl) (by kernel_rfl) (by kernel_rfl) (fun _ _ _ h => h) (by rfl) (by intro y hy; go_simp) ?_
              try simp only [Act.put, List.setIfInBounds_toArray, List.set_cons_zero, List.set_cons_succ]
              refine anyH_take 33 59 (.bool false) G3.out rfl (by kernel_rfl) (by kernel_rfl) (by kernel_rfl) (fun _ _ _ h => h) (by rfl) (by intro y hy; go_simp) ?_
              try simp only [Act.put, List.setIfInBounds_toArray, List.set_cons_zero, List.set_cons_succ]
              refine anyH_take 34 60 (.bool false) G3.out rfl (by kernel_rfl) (by kernel_rfl) (by kernel_rfl) (fun _ _ _ h => h) (by rfl) (by intro y hy; go_simp) ?_
              try simp only [Act.put, List.setIfInBounds_toArray, List.set_cons_zero, List.set_cons_succ]
              refine anyH_take 35 61 (.slice (some ⟨w.heap.size, 0, none⟩) 10 10) G3.out rfl (by kernel_rfl) (by kernel_rfl) (by kernel_rfl) (fun _ _ _ h => h) (by rfl) (by intro y hy; go_simp) ?_
              try simp only [Act.put, List.setIfInBounds_toArray, List.set_cons_zero, List.set_cons_succ]
              refine anyH_take 36 62 (.int .i64 (i : Int)) G3.out rfl (by kernel_rfl) (by kernel_rfl) (by kernel_rfl) (fun _ _ _ h => h) (by rfl) (by intro y hy; go_simp) ?_
              try simp only [Act.put, List.setIfInBounds_toArray, List.set_cons_zero, List.set_cons_succ]
              refine anyH_take 37 63 (.pointer (some ⟨w.heap.size, i, none⟩)) G3.out rfl (by kernel_rfl) (by kernel_rfl) (by kernel_rfl) (fun _ _ _ h => h) (by rfl) (by intro y hy; go_simp; try (intro h; omega)) ?_
              try simp only [Act.put, List.setIfInBounds_toArray, List.set_cons_zero, List.set_cons_succ]
              refine anyH_take 38 64 (.int .i64 a) G3.out rfl (by kernel_rfl) (by kernel_rfl) (by kernel_rfl) (fun _ _ _ h => h) (by rfl) (by intro y hy; have c1 := HCI.out y hy; go_simp) ?_
              try simp only [Act.put, List.setIfInBounds_toArray, List.set_cons_zero, List.set_cons_succ]
              refine anyH_take 39 65 (.int .i64 (a.tmod 9)) G3.out rfl (by kernel_rfl) (by kernel_rfl) (by kernel_rfl) (fun _ _ _ h => h) (by rfl) (by intro y hy; go_simp) ?_
              try simp only [Act.put, List.setIfInBounds_toArray, List.set_cons_zero, List.set_cons_succ]
              refine anyH_take 40 66 (.slice (some ⟨w.heap.size, 0, none⟩) 10 10) G3.out rfl (by kernel_rfl) (by kernel_rfl) (by kernel_rfl) (fun _ _ _ h => h) (by rfl) (by intro y hy; go_simp) ?_
              try simp only [Act.put, List.setIfInBounds_toArray, List.set_cons_zero, List.set_cons_succ]
              refine anyH_take 41 67 (.int .i64 (j : Int)) G3.out rfl (by kernel_rfl) (by kernel_rfl) (by kernel_rfl) (fun _ _ _ h => h) (by rfl) (by intro y hy; go_simp) ?_
              try simp only [Act.put, List.setIfInBounds_toArray, List.set_cons_zero, List.set_cons_succ]
              refine anyH_take 42 68 (.pointer (some ⟨w.heap.size, j, none⟩)) G3.out rfl (by kernel_rfl) (by kernel_rfl) (by kernel_rfl) (fun _ _ _ h => h) (by rfl) (by intro y hy; go_simp; try (intro h; omega)) ?_
              try simp only [Act.put, List.setIfInBounds_toArray, List.set_cons_zero, List.set_cons_succ]
              refine anyH_take 43 69 (.int .i64 b) G3.out rfl (by kernel_rfl) (by kernel_rfl) (by kernel_rfl) (fun _ _ _ h => h) (by rfl) (by intro y hy; have c1 := HCJ.out y hy; go_simp) ?_
              try simp only [Act.put, List.setIfInBounds_toArray, List.set_cons_zero, List.set_cons_succ]
              refine anyH_take 44 70 (.agg (SgA ⟨2, a.tmod 9, b⟩)) G3.out rfl (by kernel_rfl) (by kernel_rfl) (by kernel_rfl) (fun _ _ _ h => h) (by rfl) (fun y hy => exec_b3 _ _ _ _ _ _ _ _ _ _ _ rfl rfl rfl (build_sgl 2 (a.tmod 9) b)) ?_
              try simp only [Act.put, List.setIfInBounds_toArray, List.set_cons_zero, List.set_cons_succ]
              refine anyH_take 45 71 (.slice (some ⟨w.heap.size, 0, none⟩) 10 10) G3.out rfl (by kernel_rfl) (by kernel_rfl) (by kernel_rfl) (fun _ _ _ h => h) (by rfl) (by intro y hy; go_simp) ?_
              try simp only [Act.put, List.setIfInBounds_toArray, List.set_cons_zero, List.set_cons_succ]
              refine anyH_take 46 72 (.int .i64 (m : Int)) G3.out rfl (by kernel_rfl) (by kernel_rfl) (by kernel_rfl) (fun _ _ _ h => h) (by rfl) (by intro y hy; go_simp) ?_
              try simp only [Act.put, List.setIfInBounds_toArray, List.set_cons_zero, List.set_cons_succ]
              refine anyH_take 47 73 (.pointer (some ⟨w.heap.size, m, none⟩)) G3.out rfl (by kernel_rfl) (by kernel_rfl) (by kernel_rfl) (fun _ _ _ h => h) (by rfl) (by intro y hy; go_simp; try (intro h; omega)) ?_
              try simp only [Act.put, List.setIfInBounds_toArray, List.set_cons_zero, List.set_cons_succ]
              refine anyH_take 48 74 (.int .i64 d) G3.out rfl (by kernel_rfl) (by kernel_rfl) (by kernel_rfl) (fun _ _ _ h => h) (by rfl) (by intro y hy; have c1 := HCM.out y hy; go_simp) ?_
              try simp only [Act.put, List.setIfInBounds_toArray, List.set_cons_zero, List.set_cons_succ]
              refine anyH_take 49 75 (.agg (SgA ⟨2, 1, d⟩)) G3.out rfl (by kernel_rfl) (by kernel_rfl) (by kernel_rfl) (fun _ _ _ h => h) (by rfl) (fun y hy => exec_b3 _ _ _ _ _ _ _ _ _ _ _ rfl rfl rfl (build_sgl 2 1 d)) ?_
              try simp only [Act.put, List.setIfInBounds_toArray, List.set_cons_zero, List.set_cons_succ]
              refine anyH_take 51 77 (.slice (some ⟨w.heap.size, 0, none⟩) 10 10) G3.out rfl (by kernel_rfl) (by kernel_rfl) (by kernel_rfl) (fun _ _ _ h => h) (by rfl) (by intro y hy; go_simp) ?_
              try simp only [Act.put, List.setIfInBounds_toArray, List.set_cons_zero, List.set_cons_succ]
              refine anyH_take 52 78 (.int .i64 (j : Int)) G3.out rfl (by kernel_rfl) (by kernel_rfl) (by kernel_rfl) (fun _ _ _ h => h) (by rfl) (by intro y hy; go_simp) ?_
              try simp only [Act.put, List.setIfInBounds_toArray, List.set_cons_zero, List.set_cons_succ]
              refine anyH_take 53 79 (.pointer (some ⟨w.heap.size, j, none⟩)) G3.out rfl (by kernel_rfl) (by kernel_rfl) (by kernel_rfl) (fun _ _ _ h => h) (by rfl) (by intro y hy; go_simp; try (intro h; omega)) ?_
              try simp only [Act.put, List.setIfInBounds_toArray, List.set_cons_zero, List.set_cons_succ]
              refine anyH_take 54 80 (.int .i64 b) G3.out rfl (by kernel_rfl) (by kernel_rfl) (by kernel_rfl) (fun _ _ _ h => h) (by rfl) (by intro y hy; have c1 := HCJ.out y hy; go_simp) ?_
              try simp only [Act.put, List.setIfInBounds_toArray, List.set_cons_zero, List.set_cons_succ]
              refine anyH_take 55 81 (.slice (some ⟨w.heap.size, 0, none⟩) 10 10) G3.out rfl (by kernel_rfl) (by kernel_rfl) (by kernel_rfl) (fun _ _ _ h => h) (by rfl) (by intro y hy; go_simp) ?_
              try simp only [Act.put, List.setIfInBounds_toArray, List.set_cons_zero, List.set_cons_succ]
              refine anyH_take 56 82 (.int .i64 (i : Int)) G3.out rfl (by kernel_rfl) (by kernel_rfl) (by kernel_rfl) (fun _ _ _ h => h) (by rfl) (by intro y hy; go_simp) ?_
              try simp only [Act.put, List.setIfInBounds_toArray, List.set_cons_zero, List.set_cons_succ]
              refine anyH_take 57 83 (.pointer (some ⟨w.heap.size, i, none⟩)) G3.out rfl (by kernel_rfl) (by kernel_rfl) (by kernel_rfl) (fun _ _ _ h => h) (by rfl) (by intro y hy; go_simp; try (intro h; omega)) ?_
              try simp only [Act.put, List.setIfInBounds_toArray, List.set_cons_zero, List.set_cons_succ]
              refine anyH_take 58 84 (.int .i64 a) G3.out rfl (by kernel_rfl) (by kernel_rfl) (by kernel_rfl) (fun _ _ _ h => h) (by rfl) (by intro y hy; have c1 := HCI.out y hy; go_simp) ?_
              try simp only [Act.put, List.setIfInBounds_toArray, List.set_cons_zero, List.set_cons_succ]
              refine anyH_take 59 85 (.agg (HwA 32 b a)) G3.out rfl (by kernel_rfl) (by kernel_rfl) (by kernel_rfl) (fun _ _ _ h => h) (by rfl) (fun y hy => exec_b3 _ _ _ _ _ _ _ _ _ _ _ rfl rfl rfl (build_hw b a)) ?_
              try simp only [Act.put, List.setIfInBounds_toArray, List.set_cons_zero, List.set_cons_succ]
              refine anyH_one 50 (by kernel_rfl) ?_
              refine wpOp_step rfl (fun Kc hKc => ?_)
              rw [if_pos (by rfl)]
              refine bs_sg2_op _ _ ⟨2, a.tmod 9, b⟩ ⟨2, 1, d⟩ rfl rfl ?_
              have O4 : Hid (SgO w2.heap.size (w2.alloc (.cells (Us.sc [⟨2, a.tmod 9, b⟩, ⟨2, 1, d⟩]).toArray 36)) (.slice (some ⟨w2.heap.size, 0, none⟩) 2 2) [⟨2, a.tmod 9, b⟩, ⟨2, 1, d⟩]) := own_sc [⟨2, a.tmod 9, b⟩, ⟨2, 1, d⟩] w2 (by simp)
              have B4 : Hid (Below w.heap.size w (w2.alloc (.cells (Us.sc [⟨2, a.tmod 9, b⟩, ⟨2, 1, d⟩]).toArray 36))) := B3.out.alloc B3.out.size _
              have G4 : Hid ((w2.alloc (.cells (Us.sc [⟨2, a.tmod 9, b⟩, ⟨2, 1, d⟩]).toArray 36)).heap[w.heap.size]? = some (.cells KN 3 (0, 0))) := (((Below.refl _ w2).alloc (Nat.le_refl _) _).block _ (lt_of_block G3.out)).trans G3.out
              refine hKc _ _ ⟨G4.out, ?_⟩
              clear hKc Kc
              try simp only [Act.put, List.setIfInBounds_toArray, List.set_cons_zero, List.set_cons_succ]
              generalize (w2.alloc (.cells (Us.sc [⟨2, a.tmod 9, b⟩, ⟨2, 1, d⟩]).toArray 36)) = w4 at *
              refine anyH_one 60 (by kernel_rfl) ?_
              refine wpOp_step rfl (fun Kc hKc => ?_)
              go_simp
              refine (HVI.out _ _ _ _ _ _ HIN.out.1 HIN.out.2.1 HIN.out.2.2 O4.out).mono ?_
              rintro e5 w5 ⟨rfl, b5⟩
              have G5 : Hid (w5.heap[w.heap.size]? = some (.cells KN 3 (0, 0))) := (b5.block _ (lt_of_block G4.out)).trans G4.out
              have B5 := Lib.hid (B4.out.trans (b5.mono B4.out.size))
              dsimp only
              refine hKc _ _ ⟨G5.out, ?_⟩
              clear hKc Kc
              try simp only [Act.put, List.setIfInBounds_toArray, List.set_cons_zero, List.set_cons_succ]
              refine anyH_take 61 87 (.bool false) G5.out rfl (by kernel_rfl) (by kernel_rfl) (by kernel_rfl) (fun _ _ _ h => h) (by rfl) (by intro y hy; go_simp) ?_
              try simp only [Act.put, List.setIfInBounds_toArray, List.set_cons_zero, List.set_cons_succ]
              refine anyH_take 62 88 (.bool false) G5.out rfl (by kernel_rfl) (by kernel_rfl) (by kernel_rfl) (fun _ _ _ h => h) (by rfl) (by intro y hy; go_simp) ?_
              try simp only [Act.put, List.setIfInBounds_toArray, List.set_cons_zero, List.set_cons_succ]
              refine wpAnyH_done (by kernel_rfl) ?_ _
              go_wp2
              exact ⟨⟨m + 1, by omega, by go_num, B5, G5⟩, by simp [intOf]; omega⟩
            · have E : m = 10 := by omega
              subst E
              clear hlt3
              go_wp2
              exact ⟨⟨j + 1, by omega, by go_num, HB, HG⟩, by simp [intOf]; omega⟩
        · have E : j = 10 := by omega
          subst E
          clear hlt2
          go_wp2
          exact ⟨⟨i + 1, by omega, by go_num, HB, HG⟩, by simp [intOf]; omega⟩
    · have E : i = 10 := by omega
      subst E
      clear hlt
      go_wp2_with (first
        | (go_at_call 12; refine (HVN.out _).mono ?_; rintro e1 w1 ⟨rfl, b1⟩; have B1 := Lib.hid (HB.out.trans (b1.out.mono HB.out.size)))
        | (go_at_call 8; with_reducible refine (HO1.out _).mono ?_; rintro e2 w2 ⟨rfl, rfl⟩)
        | (go_at_call 8; with_reducible refine (HO2.out _).mono ?_; rintro e2 w2 ⟨rfl, rfl⟩)
        | (go_at_call 8; with_reducible refine (HO3.out _).mono ?_; rintro e2 w2 ⟨rfl, rfl⟩)
        | (go_at_call 10; refine (HK.out _).mono ?_; rintro e5 w5 ⟨rfl, b5⟩))
      go_ret
      exact ⟨rfl, B1.out.trans (b5.mono B1.out.size)⟩
end Go.Proofs.Ythgjfjmampmiiaa

/-
  GeoKnown walked.
-/
import Derived.Test.YtohphehbfbobnaaGeJ
import Derived.Test.YtohphehbfbobnaaGeM
namespace Go.Proofs.Ytohphehbfbobnaa
open Go.RowKit

namespace Ge
def sg : List Int := [-9223372036854775808, 0, 15, 16, 17, 18, 31, 32, 33, 9223372036854775807]
def sl : List Int := [-9223372036854775808, 0, 1, 31, 32, 33, 63, 64, 65, 9223372036854775807]
def bl : List Int := [-1, 0, 1, 4, 5, 6, 63, 64, 65, 9223372036854775807]
end Ge
def NB (L : List Int) : Obj := .cells (L.map (Value.int .i64)).toArray 3
theorem nb_cell {y : World} {g : Nat} {L : List Int} (h : y.heap[g]? = some (NB L)) (i : Nat) (hi : i < L.length) : y.cell? ⟨g, i, none⟩ = some (.int .i64 (L.getD i 0)) := by
  unfold NB at h
  rw [cell_of_row y _ i _ _ _ h]
  simp [List.getD_eq_getElem?_getD, hi]
theorem k17 : Ge.ok 17 32 4 := by decide
theorem k17n : ¬ Ge.ok 17 32 5 := by decide
theorem k32 : Ge.ok 32 64 64 := by decide
theorem k32_need : Ge.need 32 64 64 64 = 5 := by decide
theorem k32_lean : Ge.lean 32 64 64 = 12 := by decide
theorem k32_sec : Ge.sec 32 64 64 = 2051 := by decide
def Yes2 (z : World) (e : Ending) (w' : World) : Prop := e = .returned (.bool true) ∧ Hid (Below z.heap.size z w')
theorem yes2 {P : Program} {f : FuncId} {args : Array Value} {z y : World} (h : Calls P f args y (YesSay y)) (hy : Below z.heap.size z y) : Calls P f args y (Yes2 z) := by
  refine h.mono ?_
  rintro e w' ⟨rfl, hb⟩
  exact ⟨rfl, hy.trans (hb.mono hy.size)⟩
set_option maxHeartbeats 8000000 in
set_option maxRecDepth 100000 in
theorem known_law (w : World) : Calls Try.prog 7 #[] w (YesSay w) := by
  obtain ⟨w0, HW0⟩ : ∃ y : World, Hid (y = ((w.alloc (NB Ge.sg)).alloc (NB Ge.sl)).alloc (NB Ge.bl)) := ⟨_, rfl⟩
  have BW : Hid (Below w.heap.size w w0) := by
    show Below _ _ _
    rw [HW0.out]
    exact (((Below.refl _ w).alloc (Nat.le_refl _) _).alloc (by simp) _).alloc (by simp; omega) _
  have R1 : Hid (w0.heap[w.heap.size]? = some (NB Ge.sg)) := by
    show _ = _
    rw [HW0.out, heap_alloc_old _ _ (by simp; omega), heap_alloc_old _ _ (by simp)]
    exact heap_alloc_new w _
  have R2 : Hid (w0.heap[w.heap.size + 1]? = some (NB Ge.sl)) := by
    show _ = _
    rw [HW0.out, heap_alloc_old _ _ (by simp)]
    have k := heap_alloc_new (w.alloc (NB Ge.sg)) (NB Ge.sl)
    simpa using k
  have R3 : Hid (w0.heap[w.heap.size + 1 + 1]? = some (NB Ge.bl)) := by
    show _ = _
    rw [HW0.out]
    have k := heap_alloc_new ((w.alloc (NB Ge.sg)).alloc (NB Ge.sl)) (NB Ge.bl)
    simpa using k
  have HC : Hid (∀ i k j, i < 10 → k < 10 → j < 10 → ∀ y, Below w0.heap.size w0 y → y.cell? ⟨w.heap.size, i, none⟩ = some (.int .i64 (Ge.sg.getD i 0)) ∧ y.cell? ⟨w.heap.size + 1, k, none⟩ = some (.int .i64 (Ge.sl.getD k 0)) ∧ y.cell? ⟨w.heap.size + 1 + 1, j, none⟩ = some (.int .i64 (Ge.bl.getD j 0))) := fun i k j hi hk hj y hy =>
    ⟨nb_cell ((hy.block _ (lt_of_block R1.out)).trans R1.out) i hi, nb_cell ((hy.block _ (lt_of_block R2.out)).trans R2.out) k hk, nb_cell ((hy.block _ (lt_of_block R3.out)).trans R3.out) j hj⟩
  go_enter Try.func7, Try.ntmps7
  go_upto_region 5 with (fail)
  have HW0' : ((w.alloc (.cells #[.int .i64 (-9223372036854775808), .int .i64 0, .int .i64 15, .int .i64 16, .int .i64 17, .int .i64 18, .int .i64 31, .int .i64 32, .int .i64 33, .int .i64 9223372036854775807] 3)).alloc (.cells #[.int .i64 (-9223372036854775808), .int .i64 0, .int .i64 1, .int .i64 31, .int .i64 32, .int .i64 33, .int .i64 63, .int .i64 64, .int .i64 65, .int .i64 9223372036854775807] 3)).alloc (.cells #[.int .i64 (-1), .int .i64 0, .int .i64 1, .int .i64 4, .int .i64 5, .int .i64 6, .int .i64 63, .int .i64 64, .int .i64 65, .int .i64 9223372036854775807] 3) = w0 := HW0.out.symm
  rw [HW0']
  clear HW0' HW0 R1 R2 R3
  go_loopw [4, 5, 6] (fun v4 _ _ wr => ∃ i : Nat, i ≤ 10 ∧ v4 = .int .i64 i ∧ Hid (Below w0.heap.size w0 wr)) (fun v4 _ _ _ => 10 - (intOf v4).toNat)
  case atStart => exact ⟨0, by omega, rfl, Lib.hid (Below.refl _ _)⟩
  case round =>
    obtain ⟨i, hi, rfl, HB⟩ := hrel
    by_cases hlt : i < 10
    · have hi0 : (0 : Int) ≤ (i : Int) := by omega
      have hi10 : (i : Int) < 10 := by omega
      go_upto_region 8 with (fail)
      go_loopw [5, 6] (fun v5 _ wr => ∃ k : Nat, k ≤ 10 ∧ v5 = .int .i64 k ∧ Hid (Below w0.heap.size w0 wr)) (fun v5 _ _ => 10 - (intOf v5).toNat)
      case atStart => exact ⟨0, by omega, rfl, HB⟩
      case round =>
        clear HB
        obtain ⟨k, hk, rfl, HB⟩ := hrel
        by_cases hltk : k < 10
        · have hk0 : (0 : Int) ≤ (k : Int) := by omega
          have hk10 : (k : Int) < 10 := by omega
          go_upto_region 11 with (fail)
          go_loopw [6] (fun v6 wr => ∃ j : Nat, j ≤ 10 ∧ v6 = .int .i64 j ∧ Hid (Below w0.heap.size w0 wr)) (fun v6 _ => 10 - (intOf v6).toNat)
          case atStart => exact ⟨0, by omega, rfl, HB⟩
          case round =>
            clear HB
            obtain ⟨j, hj, rfl, HB⟩ := hrel
            by_cases hltj : j < 10
            · have hj0 : (0 : Int) ≤ (j : Int) := by omega
              have hj10 : (j : Int) < 10 := by omega
              obtain ⟨a, HA⟩ : ∃ a, Hid (Ge.sg.getD i 0 = a) := ⟨_, rfl⟩
              obtain ⟨b, HBE⟩ : ∃ a, Hid (Ge.sl.getD k 0 = a) := ⟨_, rfl⟩
              obtain ⟨c, HCE⟩ : ∃ a, Hid (Ge.bl.getD j 0 = a) := ⟨_, rfl⟩
              have HK : Hid (∀ y, Below w0.heap.size w0 y → y.cell? ⟨w.heap.size, i, none⟩ = some (.int .i64 a) ∧ y.cell? ⟨w.heap.size + 1, k, none⟩ = some (.int .i64 b) ∧ y.cell? ⟨w.heap.size + 1 + 1, j, none⟩ = some (.int .i64 c)) := fun y hy => by
                have h := HC.out i k j hlt hltk hltj y hy
                rw [HA.out, HBE.out, HCE.out] at h
                exact h
              have HKA : Hid (∀ y o, Below w0.heap.size w0 y → (y.alloc o).cell? ⟨w.heap.size, i, none⟩ = some (.int .i64 a) ∧ (y.alloc o).cell? ⟨w.heap.size + 1, k, none⟩ = some (.int .i64 b) ∧ (y.alloc o).cell? ⟨w.heap.size + 1 + 1, j, none⟩ = some (.int .i64 c)) := fun y o hy => HK.out _ (hy.trans ((Below.refl _ y).alloc hy.size o))
              have B0 : Hid (Below w0.heap.size w0 wr.drew) := Lib.hid HB.out.drew
              have hw17 : IntKind.i64.wrap ((i : Int) * 17) = (i : Int) * 17 := IntWalk.i64_in _ ⟨by omega, by omega⟩
              clear HA HBE HCE
              go_upto_region 13 with (fail)
              go_region_held3 (fun y => y.cell? ⟨w.heap.size, i, none⟩ = some (.int .i64 a) ∧ y.cell? ⟨w.heap.size + 1, k, none⟩ = some (.int .i64 b) ∧ y.cell? ⟨w.heap.size + 1 + 1, j, none⟩ = some (.int .i64 c))
                (first | exact HK.out _ (Hid.out (by assumption)) | exact HKA.out _ _ (Hid.out (by assumption)))
                (fail)
              have C1 : Hid (Below w0.heap.size w0 (wr.alloc (.cells #[.int .i64 a, .int .i64 b, .int .i64 c] 23)).drew) := Lib.hid (HB.out.alloc HB.out.size _).drew
              have X1 : Hid (∀ y, Below (wr.alloc (.cells #[.int .i64 a, .int .i64 b, .int .i64 c] 23)).drew.heap.size (wr.alloc (.cells #[.int .i64 a, .int .i64 b, .int .i64 c] 23)).drew y → Bx y wr.heap.size a b c) := fun y hy => (bx_of (y := (wr.alloc (.cells #[.int .i64 a, .int .i64 b, .int .i64 c] 23)).drew) (heap_alloc_new wr _)).old hy
              obtain ⟨z1, hz1⟩ : ∃ x, x = (wr.alloc (.cells #[.int .i64 a, .int .i64 b, .int .i64 c] 23)).drew := ⟨_, rfl⟩
              obtain ⟨g, hg⟩ : ∃ x, x = wr.heap.size := ⟨_, rfl⟩
              rw [← hz1] at C1 X1 ⊢
              rw [← hg] at X1 ⊢
              clear hz1 hg B0 HKA HB
              have HS : Hid (∀ y, Below z1.heap.size z1 y → (y.cell? ⟨g, 0, none⟩ = some (.int .i64 a) ∧ y.cell? ⟨g, 1, none⟩ = some (.int .i64 b) ∧ y.cell? ⟨g, 2, none⟩ = some (.int .i64 c)) ∧ y.cell? ⟨w.heap.size, i, none⟩ = some (.int .i64 a) ∧ y.cell? ⟨w.heap.size + 1, k, none⟩ = some (.int .i64 b) ∧ y.cell? ⟨w.heap.size + 1 + 1, j, none⟩ = some (.int .i64 c)) := fun y hy => ⟨X1.out y hy, HK.out y (C1.out.trans (hy.mono C1.out.size))⟩
              have HSA : Hid (∀ y o, Below z1.heap.size z1 y → ((y.alloc o).cell? ⟨g, 0, none⟩ = some (.int .i64 a) ∧ (y.alloc o).cell? ⟨g, 1, none⟩ = some (.int .i64 b) ∧ (y.alloc o).cell? ⟨g, 2, none⟩ = some (.int .i64 c)) ∧ (y.alloc o).cell? ⟨w.heap.size, i, none⟩ = some (.int .i64 a) ∧ (y.alloc o).cell? ⟨w.heap.size + 1, k, none⟩ = some (.int .i64 b) ∧ (y.alloc o).cell? ⟨w.heap.size + 1 + 1, j, none⟩ = some (.int .i64 c)) := fun y o hy => HS.out _ (hy.alloc hy.size o)
              have KT : Hid (∀ y, Below z1.heap.size z1 y → Calls Try.prog 3 #[.agg #[.int .i64 a, .int .i64 b, .int .i64 c], .agg #[.int .i64 (k : Int), .int .i64 (j : Int)], .int .i64 ((i : Int) * 17), .int .i64 c] y (Yes2 z1)) := fun y hy => yes2 (tells_law a b c k j ((i : Int) * 17) c y) hy
              have KP : Hid (∀ y, Below z1.heap.size z1 y → Calls Try.prog 4 #[.agg #[.int .i64 a, .int .i64 b, .int .i64 c], .agg #[.int .i64 c, .int .i64 b], .int .i64 b] y (Yes2 z1)) := fun y hy => yes2 (places_law a b c c b b y) hy
              have KN : Hid (∀ y, Below z1.heap.size z1 y → Calls Try.prog 6 #[.agg #[.int .i64 a, .int .i64 b, .int .i64 c], .int .i64 a] y (Yes2 z1)) := fun y hy => yes2 (needs_law a b c a y) hy
              have KL : Hid (∀ y, Below z1.heap.size z1 y → Calls Try.prog 5 #[.agg #[.int .i64 a, .int .i64 b, .int .i64 c], .int .i64 (j : Int), .int .i64 (k : Int), .slice (some ⟨y.heap.size, 0, none⟩) 5 5] (y.alloc (.cells #[.int .i64 7, .int .i64 7, .int .i64 7, .int .i64 0, .int .i64 9] 3)) (Yes2 z1)) := fun y hy => by
                have hI : IAt (y.alloc (.cells #[.int .i64 7, .int .i64 7, .int .i64 7, .int .i64 0, .int .i64 9] 3)) (some ⟨y.heap.size, 0, none⟩) [7, 7, 7, 0, 9] := fun _ => by
                  refine ⟨_, _, rfl, fun r hr => ?_⟩
                  rw [Nat.zero_add]
                  exact nb_cell (L := [7, 7, 7, 0, 9]) (heap_alloc_new y _) r hr
                exact yes2 (lean_law a b c j k [7, 7, 7, 0, 9] (some ⟨y.heap.size, 0, none⟩) 5 _ hI) (hy.alloc hy.size _)
              go_upto_region 14 with (fail)
              have B0 : Hid (Below z1.heap.size z1 z1.drew) := (Below.refl _ z1).drew
              go_region_held3 (fun y => (y.cell? ⟨g, 0, none⟩ = some (.int .i64 a) ∧ y.cell? ⟨g, 1, none⟩ = some (.int .i64 b) ∧ y.cell? ⟨g, 2, none⟩ = some (.int .i64 c)) ∧ y.cell? ⟨w.heap.size, i, none⟩ = some (.int .i64 a) ∧ y.cell? ⟨w.heap.size + 1, k, none⟩ = some (.int .i64 b) ∧ y.cell? ⟨w.heap.size + 1 + 1, j, none⟩ = some (.int .i64 c))
                (first | exact HS.out _ (Hid.out (by assumption)) | exact HSA.out _ _ (Hid.out (by assumption)))
                ((first
                  | (go_at_call 3; refine (KT.out _ B0.out).mono ?_; rintro e1 q1 ⟨rfl, B1⟩)
                  | (go_at_call 4; refine (KP.out _ B1.out).mono ?_; rintro e1 q2 ⟨rfl, B2⟩)
                  | (go_at_call 5; refine (KL.out _ B2.out).mono ?_; rintro e1 q3 ⟨rfl, B3⟩)
                  | (go_at_call 6; refine (KN.out _ B3.out).mono ?_; rintro e1 q4 ⟨rfl, B4⟩)))
              go_wp2
              have B5 : Hid (Below w0.heap.size w0 q4) := C1.out.trans (B4.out.mono C1.out.size)
              exact ⟨⟨j + 1, by omega, by go_num, B5⟩, by simp [intOf]; omega⟩
            · have hge : (10 : Int) ≤ (j : Int) := by omega
              go_wp2
              exact ⟨⟨k + 1, by omega, by go_num, HB⟩, by simp [intOf]; omega⟩
        · have hge : (10 : Int) ≤ (k : Int) := by omega
          go_wp2
          exact ⟨⟨i + 1, by omega, by go_num, HB⟩, by simp [intOf]; omega⟩
    · have hge : (10 : Int) ≤ (i : Int) := by omega
      have T1 : Hid (0 = 0) := rfl
      go_upto_region 17 with (first
        | (go_at_call 11; have R := T1.out; clear R T1; refine (numB (check_ok k17 _) HB.out).mono ?_; rintro e1 w1 ⟨rfl, B1⟩)
        | (go_at_call 11; refine (numB (check_no k17n _) B1.out).mono ?_; rintro e1 w2 ⟨rfl, B2⟩))
      go_upto_region 18 with (fail)
      have C3 : Hid (Below w0.heap.size w0 (w2.alloc (.cells #[.int .i64 32, .int .i64 64, .int .i64 64] 23))) := Lib.hid (B2.out.alloc B2.out.size _)
      have X3 : Hid (∀ y, Below (w2.alloc (.cells #[.int .i64 32, .int .i64 64, .int .i64 64] 23)).heap.size (w2.alloc (.cells #[.int .i64 32, .int .i64 64, .int .i64 64] 23)) y → Bx y w2.heap.size 32 64 64) := fun y hy => (bx_of (heap_alloc_new w2 _)).old hy
      obtain ⟨z3, hz3⟩ : ∃ x, x = w2.alloc (.cells #[.int .i64 32, .int .i64 64, .int .i64 64] 23) := ⟨_, rfl⟩
      obtain ⟨g, hg⟩ : ∃ x, x = w2.heap.size := ⟨_, rfl⟩
      rw [← hz3] at C3 X3 ⊢
      rw [← hg] at X3 ⊢
      clear hz3 hg
      have KN : Hid (∀ y, Below z3.heap.size z3 y → Calls Try.prog 17 #[.agg #[.int .i64 32, .int .i64 64, .int .i64 64], .int .i64 64] y (NumB 5 z3)) := fun y hy => by
        have q := need_any 32 64 64 64 y
        rw [k32_need] at q
        exact numB q hy
      have KL : Hid (∀ y, Below z3.heap.size z3 y → Calls Try.prog 21 #[.agg #[.int .i64 32, .int .i64 64, .int .i64 64]] y (NumB 12 z3)) := fun y hy => by
        have q := leans_any 32 64 64 y
        rw [k32_lean] at q
        exact numB q hy
      have KS : Hid (∀ y, Below z3.heap.size z3 y → Calls Try.prog 13 #[.agg #[.int .i64 32, .int .i64 64, .int .i64 64]] y (NumB 2051 z3)) := fun y hy => by
        have q := sectors_any 32 64 64 y
        rw [k32_sec] at q
        exact numB q hy
      obtain ⟨x00, x01, x02⟩ := X3.out _ (Below.refl _ _)
      go_wp2_with (first
        | (go_at_call 11; refine (numB (check_ok k32 _) (Below.refl _ z3)).mono ?_; rintro e1 w3 ⟨rfl, D1⟩; obtain ⟨x10, x11, x12⟩ := X3.out _ D1.out)
        | (go_at_call 17; refine (KN.out _ D1.out).mono ?_; rintro e1 w4 ⟨rfl, D2⟩; obtain ⟨x20, x21, x22⟩ := X3.out _ D2.out)
        | (go_at_call 21; refine (KL.out _ D2.out).mono ?_; rintro e1 w5 ⟨rfl, D3⟩; obtain ⟨x30, x31, x32⟩ := X3.out _ D3.out)
        | (go_at_call 13; refine (KS.out _ D3.out).mono ?_; rintro e1 w6 ⟨rfl, D4⟩)
        | (go_at_call 23; refine (worksB D4.out).mono ?_; rintro e1 w7 ⟨rfl, D5⟩))
      go_ret
      have hz : Below w.heap.size w z3 := BW.out.trans (C3.out.mono BW.out.size)
      exact ⟨rfl, hz.trans (D5.out.mono hz.size)⟩
end Go.Proofs.Ytohphehbfbobnaa

/-
  CountKnown walked.
-/
import Derived.Test.YtglfjjmbadffmaaCoI
import Derived.Test.YtglfjjmbadffmaaCoE
namespace Go.Proofs.Ytglfjjmbadffmaa
open Go.RowKit

namespace Cn
/-- The numbers about their ends. -/
def ns : List Int := [-9223372036854775808, -1, 0, 1, 2, 5, 1048575, 1048576, 1048577, 1099511627776, 1099511627777, 1152921504606846976, 1152921504606846977, 9223372036854775807]
theorem ns_in : ∀ i, i < 14 → In64 (ns.getD i 0) := by
  intro i hi
  unfold In64 ns
  match i, hi with
  | 0, _ | 1, _ | 2, _ | 3, _ | 4, _ | 5, _ | 6, _ | 7, _ | 8, _ | 9, _ | 10, _ | 11, _ | 12, _ | 13, _ => exact ⟨by decide, by decide⟩
end Cn
def NBox : Obj := .cells (Cn.ns.map (Value.int .i64)).toArray 3
/-- The calls of one round. -/
def CBox (a b : Int) : Obj := .cells #[.int .i64 0, .int .i64 a, .int .i64 0, .int .i64 b, .int .i64 1, .int .i64 b, .int .i64 3, .int .i64 1, .int .i64 0, .int .i64 b, .int .i64 0, .int .i64 1073741824, .int .i64 4, .int .i64 0, .int .i64 2, .int .i64 0, .int .i64 0, .int .i64 a, .int .i64 9, .int .i64 0, .int .i64 0, .int .i64 1125899906842624] 37
def cops (a b : Int) : List (Int × Int) := [(0, a), (0, b), (1, b), (3, 1), (0, b), (0, 1073741824), (4, 0), (2, 0), (0, a), (9, 0), (0, 1125899906842624)]
theorem cops_rows {y : World} {g : Nat} {a b : Int} (h : y.heap[g]? = some (CBox a b)) (ha : In64 a) (hb : In64 b) : ORows y (some ⟨g, 0, none⟩) (cops a b) := fun _ => by
  unfold CBox at h
  refine ⟨_, _, rfl, fun r x hx => ?_⟩
  have hc : ∀ n : Int, (n = 0 ∨ n = 1 ∨ n = 2 ∨ n = 3 ∨ n = 4 ∨ n = 9 ∨ n = 1073741824 ∨ n = 1125899906842624) → In64 n := fun n hn => by unfold In64; omega
  have hr : r < 11 := (List.getElem?_eq_some_iff.1 hx).1
  unfold cops at hx
  match r, hr with
  | 0, _ => cases hx; exact ⟨by rw [cell_of_row _ _ _ _ _ _ h]; rfl, by rw [cell_of_row _ _ _ _ _ _ h]; rfl, hc 0 (by omega), ha⟩
  | 1, _ => cases hx; exact ⟨by rw [cell_of_row _ _ _ _ _ _ h]; rfl, by rw [cell_of_row _ _ _ _ _ _ h]; rfl, hc 0 (by omega), hb⟩
  | 2, _ => cases hx; exact ⟨by rw [cell_of_row _ _ _ _ _ _ h]; rfl, by rw [cell_of_row _ _ _ _ _ _ h]; rfl, hc 1 (by omega), hb⟩
  | 3, _ => cases hx; exact ⟨by rw [cell_of_row _ _ _ _ _ _ h]; rfl, by rw [cell_of_row _ _ _ _ _ _ h]; rfl, hc 3 (by omega), hc 1 (by omega)⟩
  | 4, _ => cases hx; exact ⟨by rw [cell_of_row _ _ _ _ _ _ h]; rfl, by rw [cell_of_row _ _ _ _ _ _ h]; rfl, hc 0 (by omega), hb⟩
  | 5, _ => cases hx; exact ⟨by rw [cell_of_row _ _ _ _ _ _ h]; rfl, by rw [cell_of_row _ _ _ _ _ _ h]; rfl, hc 0 (by omega), hc _ (by omega)⟩
  | 6, _ => cases hx; exact ⟨by rw [cell_of_row _ _ _ _ _ _ h]; rfl, by rw [cell_of_row _ _ _ _ _ _ h]; rfl, hc 4 (by omega), hc 0 (by omega)⟩
  | 7, _ => cases hx; exact ⟨by rw [cell_of_row _ _ _ _ _ _ h]; rfl, by rw [cell_of_row _ _ _ _ _ _ h]; rfl, hc 2 (by omega), hc 0 (by omega)⟩
  | 8, _ => cases hx; exact ⟨by rw [cell_of_row _ _ _ _ _ _ h]; rfl, by rw [cell_of_row _ _ _ _ _ _ h]; rfl, hc 0 (by omega), ha⟩
  | 9, _ => cases hx; exact ⟨by rw [cell_of_row _ _ _ _ _ _ h]; rfl, by rw [cell_of_row _ _ _ _ _ _ h]; rfl, hc 9 (by omega), hc 0 (by omega)⟩
  | 10, _ => cases hx; exact ⟨by rw [cell_of_row _ _ _ _ _ _ h]; rfl, by rw [cell_of_row _ _ _ _ _ _ h]; rfl, hc 0 (by omega), hc _ (by omega)⟩
theorem round_runs (a b : Int) (ha : In64 a) (hb : In64 b) (y : World) : Calls Try.prog 3 #[.slice (some ⟨y.heap.size, 0, none⟩) 11 11] (y.alloc (CBox a b)) fun e w' => e = .returned (.bool true) ∧ Hid (Below y.heap.size y w') := by
  refine (runs_any (cops a b) (some ⟨y.heap.size, 0, none⟩) 11 (y.alloc (CBox a b)) (cops_rows (heap_alloc_new y _) ha hb)).mono ?_
  rintro e w' ⟨rfl, h⟩
  exact ⟨rfl, Lib.hid (((Below.refl _ y).alloc (Nat.le_refl _) _).trans (h.mono (by simp)))⟩
set_option maxHeartbeats 8000000 in
set_option maxRecDepth 100000 in
theorem known_any (w : World) : Calls Try.prog 7 #[] w (YesSay w) := by
  obtain ⟨w0, HW0⟩ : ∃ y : World, Hid (y = w.alloc NBox) := ⟨_, rfl⟩
  have BW : Hid (Below w.heap.size w w0) := by show Below _ _ _; rw [HW0.out]; exact (Below.refl _ w).alloc (Nat.le_refl _) _
  have BN : Hid (w0.heap[w.heap.size]? = some NBox) := by show _ = _; rw [HW0.out]; exact heap_alloc_new w _
  have CN : Hid (∀ i, i < 14 → ∀ y, Below w0.heap.size w0 y → y.cell? ⟨w.heap.size, i, none⟩ = some (.int .i64 (Cn.ns.getD i 0))) := fun i hi y hy => by
    have h : y.heap[w.heap.size]? = some NBox := (hy.block _ (block_lt BN.out)).trans BN.out
    unfold NBox at h
    rw [cell_of_row y _ i _ _ _ h]
    match i, hi with
    | 0, _ | 1, _ | 2, _ | 3, _ | 4, _ | 5, _ | 6, _ | 7, _ | 8, _ | 9, _ | 10, _ | 11, _ | 12, _ | 13, _ => rfl
  have KM : ∀ y, Calls Try.prog 17 #[.int .i64 2, .int .i64 3] y fun e w' => e = .returned (.int .i64 2097155) ∧ w' = y := fun y => by
    have q := make_any 2 3 y
    rw [Cn.wkm.1] at q
    exact q
  go_enter Try.func7, Try.ntmps7
  go_upto_region 3 with (fail)
  have HW0' : w.alloc (.cells #[.int .i64 (-9223372036854775808), .int .i64 (-1), .int .i64 0, .int .i64 1, .int .i64 2, .int .i64 5, .int .i64 1048575, .int .i64 1048576, .int .i64 1048577, .int .i64 1099511627776, .int .i64 1099511627777, .int .i64 1152921504606846976, .int .i64 1152921504606846977, .int .i64 9223372036854775807] 3) = w0 := HW0.out.symm
  rw [HW0']
  clear HW0' HW0 BN
  go_loopw [2, 3] (fun v2 _ wr => ∃ i : Nat, i ≤ 14 ∧ v2 = .int .i64 i ∧ Hid (Below w0.heap.size w0 wr)) (fun v2 _ _ => 14 - (intOf v2).toNat)
  case atStart => exact ⟨0, by omega, rfl, Lib.hid (Below.refl _ _)⟩
  case round =>
    obtain ⟨i, hi, rfl, HB⟩ := hrel
    by_cases hlt : i < 14
    · have hi0 : (0 : Int) ≤ (i : Int) := by omega
      have hi14 : (i : Int) < 14 := by omega
      go_upto_region 6 with (fail)
      go_loopw [3] (fun v3 wr => ∃ k : Nat, k ≤ 14 ∧ v3 = .int .i64 k ∧ Hid (Below w0.heap.size w0 wr)) (fun v3 _ => 14 - (intOf v3).toNat)
      case atStart => exact ⟨0, by omega, rfl, HB⟩
      case round =>
        clear HB
        obtain ⟨k, hk, rfl, HB⟩ := hrel
        by_cases hltk : k < 14
        · have hk0 : (0 : Int) ≤ (k : Int) := by omega
          have hk14 : (k : Int) < 14 := by omega
          obtain ⟨a, HAE⟩ : ∃ a, Hid (Cn.ns.getD i 0 = a) := ⟨_, rfl⟩
          obtain ⟨b, HBE⟩ : ∃ b, Hid (Cn.ns.getD k 0 = b) := ⟨_, rfl⟩
          have HA : Hid (In64 a) := by have h := Cn.ns_in i hlt; rw [HAE.out] at h; exact h
          have HB64 : Hid (In64 b) := by have h := Cn.ns_in k hltk; rw [HBE.out] at h; exact h
          have HK : Hid (∀ y, Below w0.heap.size w0 y → y.cell? ⟨w.heap.size, i, none⟩ = some (.int .i64 a) ∧ y.cell? ⟨w.heap.size, k, none⟩ = some (.int .i64 b)) := fun y hy => by
            have h1 := CN.out i hlt y hy
            have h2 := CN.out k hltk y hy
            rw [HAE.out] at h1
            rw [HBE.out] at h2
            exact ⟨h1, h2⟩
          have HKA : Hid (∀ y o, Below w0.heap.size w0 y → (y.alloc o).cell? ⟨w.heap.size, i, none⟩ = some (.int .i64 a) ∧ (y.alloc o).cell? ⟨w.heap.size, k, none⟩ = some (.int .i64 b)) := fun y o hy => HK.out _ (hy.trans ((Below.refl _ y).alloc hy.size o))
          have B0 : Hid (Below w0.heap.size w0 wr.drew) := Lib.hid HB.out.drew
          go_upto_region 8 with (fail)
          simp only [List.append_eq, List.cons_append, List.nil_append]
          go_region_held3 (fun y => y.cell? ⟨w.heap.size, i, none⟩ = some (.int .i64 a) ∧ y.cell? ⟨w.heap.size, k, none⟩ = some (.int .i64 b))
            (first | exact HK.out _ (Hid.out (by assumption)) | exact HKA.out _ _ (Hid.out (by assumption)))
            ((first
              | (go_at_call 4; refine (makes_any a b a HA.out _).mono ?_; rintro e1 w1 ⟨rfl, hb1⟩; have B1 : Hid (Below w0.heap.size w0 w1) := Lib.hid (B0.out.trans (hb1.mono B0.out.size)); clear hb1)
              | (go_at_call 6; refine (orders_any a b b a _).mono ?_; rintro e2 w2 ⟨rfl, hb2⟩; have B2 : Hid (Below w0.heap.size w0 w2) := Lib.hid (B1.out.trans (hb2.mono B1.out.size)); clear hb2)
              | (go_at_call 3; refine (round_runs a b HA.out HB64.out w2).mono ?_; rintro e3 w3 ⟨rfl, hb3⟩; have B3 : Hid (Below w0.heap.size w0 w3) := Lib.hid (B2.out.trans (hb3.out.mono B2.out.size)); clear hb3)))
          go_wp2
          exact ⟨⟨k + 1, by omega, by go_num, B3⟩, by simp [intOf]; omega⟩
        · have hge : (14 : Int) ≤ (k : Int) := by omega
          go_wp2
          exact ⟨⟨i + 1, by omega, by go_num, HB⟩, by simp [intOf]; omega⟩
    · have hge : (14 : Int) ≤ (i : Int) := by omega
      go_wp2_with (first
        | (go_at_call 17; refine (KM _).mono ?_; rintro e4 w4 ⟨rfl, rfl⟩)
        | (go_at_call 9; refine (works_any _).mono ?_; rintro e5 w5 ⟨rfl, hb5⟩))
      go_ret
      have hb : Below w.heap.size w0 w5 := (HB.out.mono BW.out.size).trans (hb5.mono (Nat.le_trans BW.out.size HB.out.size))
      exact ⟨rfl, BW.out.trans hb⟩
end Go.Proofs.Ytglfjjmbadffmaa

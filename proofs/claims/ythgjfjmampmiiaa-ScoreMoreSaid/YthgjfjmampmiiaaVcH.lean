/-
  The law ScoreVictim, walked.
-/
import Derived.Test.YthgjfjmampmiiaaVcG
namespace Go.Proofs.Ythgjfjmampmiiaa
open Go.RowKit

def HwA (s l n : Int) : Array Value := #[.int .i64 s, .int .i64 l, .int .i64 n]
theorem hw_cells {y : World} {g : Nat} {s l n : Int} (h : y.heap[g]? = some (.cells (HwA s l n) 27 (0, 0))) : y.cell? ⟨g, 0, none⟩ = some (.int .i64 s) ∧ y.cell? ⟨g, 1, none⟩ = some (.int .i64 l) ∧ y.cell? ⟨g, 2, none⟩ = some (.int .i64 n) := by
  refine ⟨?_, ?_, ?_⟩ <;> rw [cell_of_row y g _ _ _ _ h] <;> rfl
theorem victim_of (L : List Us.S) (p : Option Addr) (n c : Nat) (hn : L.length = n) (hl : n ≤ 10000) (s lean now : Int) (hnow : In64 now) (hin : ∀ i, i < n → In64 (Us.at_ L i).a) (q : Int) (bb : Bool) (hq : Vc.pl (Vc.vic s lean now L) = q) (hb : (Vc.vic s lean now L).isSome = bb) (w : World) (h : SgS w p L) :
    Calls Try.prog 12 #[.slice p n c, .int .i64 s, .int .i64 lean, .int .i64 now] w fun e w' => e = .returned (.tuple #[.int .i64 q, .bool bb]) ∧ Hid (Below w.heap.size w w') := by
  have k := victim_any L p n c hn hl s lean now hnow hin w h
  unfold ViSay at k
  rw [hq, hb] at k
  exact k
theorem rvictim_of (L : List Us.S) (p : Option Addr) (n c : Nat) (hn : L.length = n) (hl : n ≤ 10000) (s lean now : Int) (hnow : In64 now) (hin : ∀ i, i < n → In64 (Us.at_ L i).a) (q : Int) (bb : Bool) (hq : Vc.pl (Vc.vic s lean now L) = q) (hb : (Vc.vic s lean now L).isSome = bb) (w : World) (h : SgS w p L) :
    Calls Try.prog 13 #[.slice p n c, .int .i64 s, .int .i64 lean, .int .i64 now] w fun e w' => e = .returned (.tuple #[.int .i64 q, .bool bb]) ∧ Hid (Below w.heap.size w w') := by
  have k := rvictim_any L p n c hn hl s lean now hnow hin w h
  unfold ViSay at k
  rw [hq, hb] at k
  exact k
set_option maxHeartbeats 4000000 in
set_option maxRecDepth 100000 in
theorem sv_any (L : List Us.S) (p : Option Addr) (n c : Nat) (hn : L.length = n) (s lean now : Int) (hnow : In64 now) (hin : ∀ i, i < n → In64 (Us.at_ L i).a) (w : World) (h : SgS w p L) :
    Calls Try.prog 4 #[.slice p n c, .agg (HwA s lean now)] w (BoSay true w) := by
  obtain ⟨w0, hw0⟩ : ∃ x, x = w.alloc (.cells (HwA s lean now) 27) := ⟨_, rfl⟩
  have G0 : Hid (w0.heap[w.heap.size]? = some (.cells (HwA s lean now) 27 (0, 0))) := by show _ = _; rw [hw0]; exact heap_alloc_new w _
  have B0 : Hid (Below w.heap.size w w0) := by rw [hw0]; exact (Below.refl _ w).alloc (Nat.le_refl _) _
  have HK := Lib.hid known_any
  by_cases h0 : n ≤ 4096
  · have HLE : Hid (Calls Try.prog 11 #[.slice p n c] w0 (LeSay L n w0)) := lent_any L p n c hn (by omega) w0 (h.old B0.out)
    obtain ⟨q, hq⟩ : ∃ q, Vc.pl (Vc.vic s lean now L) = q := ⟨_, rfl⟩
    obtain ⟨bb, hbb⟩ : ∃ bb, (Vc.vic s lean now L).isSome = bb := ⟨_, rfl⟩
    have HV : Hid (∀ p n c y, L.length = n → n ≤ 4096 → SgS y p L → Calls Try.prog 12 #[.slice p n c, .int .i64 s, .int .i64 lean, .int .i64 now] y fun e w' => e = .returned (.tuple #[.int .i64 q, .bool bb]) ∧ Hid (Below y.heap.size y w')) := fun p m c y hm hl hy => victim_of L p m c hm (by omega) s lean now hnow (by rw [← hm, hn]; exact hin) q bb hq hbb y hy
    have HR : Hid (∀ y, SgS y p L → Calls Try.prog 13 #[.slice p n c, .int .i64 s, .int .i64 lean, .int .i64 now] y fun e w' => e = .returned (.tuple #[.int .i64 q, .bool bb]) ∧ Hid (Below y.heap.size y w')) := fun y hy => rvictim_of L p n c hn (by omega) s lean now hnow hin q bb hq hbb y hy
    have HKP : Hid (∀ B g y, SgO B y (.slice (some ⟨g, 0, none⟩) (n + 5) (n + 5)) (Vc.ln L n (n + 5)) → SgS y p L → Calls Try.prog 14 #[.slice (some ⟨g, 0, none⟩) (n + 5) (n + 5), .slice p n c] y (BoSay true y)) := fun B g y h1 h2 => kp_any L B g n p c hn (by omega) y h1 h2
    have HP : Hid (∀ y, Below w.heap.size w y → SgS y p L) := fun y hy => h.old hy
    have HRD : Hid (∀ B g y, SgO B y (.slice (some ⟨g, 0, none⟩) (n + 5) (n + 5)) (Vc.ln L n (n + 5)) → SgS y (some ⟨g, 0, none⟩) L) := fun B g y hO h0 => ⟨g, 0, rfl, fun i hi => by
      have h := hO.rng i (by rw [Vc.ln_len]; omega)
      rw [Vc.ln_at _ _ _ _ (by omega), if_pos (by omega), if_pos (by omega)] at h
      rw [Nat.zero_add]
      exact h⟩
    have HN := Lib.hid hn
    clear h hnow hin hq hbb hn
    go_enter Try.func4, Try.ntmps4
    go_upto_region 4 with (first
      | (go_at_call 11; rw [← hw0]; refine HLE.out.mono ?_; rintro e1 w1 ⟨g, rfl, O1, B1⟩))
    refine wp_region_any (by kernel_rfl) ?_
    change wpAny _ _ _ _ _ _ _ (World.drew _)
    have B01 : Hid (Below w0.heap.size w0 w1.drew) := B1.out.drew
    have SD : w1.drew.heap[w.heap.size]? = some (.cells (HwA s lean now) 27 (0, 0)) := (B01.out.block _ (lt_of_block G0.out)).trans G0.out
    have O7 : Hid (SgO w0.heap.size w1.drew (.slice (some ⟨g, 0, none⟩) (n + 5) (n + 5)) (Vc.ln L n (n + 5))) := O1.out.old (Below.refl _ w1).drew
    have B7 : Hid (Below w.heap.size w w1.drew) := B0.out.trans (B01.out.mono B0.out.size)
    obtain ⟨z, hz⟩ : ∃ y, y = w1.drew := ⟨_, rfl⟩
    rw [← hz] at SD O7 B7 B01 ⊢
    clear hz
    refine wpAny_of_held (S := fun y => y.heap[w.heap.size]? = some (.cells (HwA s lean now) 27 (0, 0))) _ _ _ _ ?_
    refine anyH_take 0 17 (.slice (some ⟨g, 0, none⟩) (n + 5) (n + 5)) SD rfl (by kernel_rfl) (by kernel_rfl) (by kernel_rfl) (fun _ _ _ h => h) (by rfl) (by intro y hy; go_simp) ?_
    try simp only [Act.put, List.setIfInBounds_toArray, List.set_cons_zero, List.set_cons_succ]
    refine anyH_take 1 18 (.slice p n c) SD rfl (by kernel_rfl) (by kernel_rfl) (by kernel_rfl) (fun _ _ _ h => h) (by rfl) (by intro y hy; go_simp) ?_
    try simp only [Act.put, List.setIfInBounds_toArray, List.set_cons_zero, List.set_cons_succ]
    refine anyH_take 2 19 (.int .i64 (n : Int)) SD rfl (by kernel_rfl) (by kernel_rfl) (by kernel_rfl) (fun _ _ _ h => h) (by rfl) (by intro y hy; go_simp) ?_
    try simp only [Act.put, List.setIfInBounds_toArray, List.set_cons_zero, List.set_cons_succ]
    refine anyH_take 3 20 (.slice (some ⟨g, 0, none⟩) n (n + 5)) SD rfl (by kernel_rfl) (by kernel_rfl) (by kernel_rfl) (fun _ _ _ h => h) (by rfl) (by intro y hy; go_simp; try (intro h; omega)) ?_
    try simp only [Act.put, List.setIfInBounds_toArray, List.set_cons_zero, List.set_cons_succ]
    refine anyH_take 4 21 (.pointer (some ⟨w.heap.size, 0, none⟩)) SD rfl (by kernel_rfl) (by kernel_rfl) (by kernel_rfl) (fun _ _ _ h => h) (by rfl) (by intro y hy; go_simp) ?_
    try simp only [Act.put, List.setIfInBounds_toArray, List.set_cons_zero, List.set_cons_succ]
    refine anyH_take 5 22 (.int .i64 s) SD rfl (by kernel_rfl) (by kernel_rfl) (by kernel_rfl) (fun _ _ _ h => h) (by rfl) (by intro y hy; obtain ⟨y0, y1, y2⟩ := hw_cells hy; go_simp) ?_
    try simp only [Act.put, List.setIfInBounds_toArray, List.set_cons_zero, List.set_cons_succ]
    refine anyH_take 6 23 (.pointer (some ⟨w.heap.size, 1, none⟩)) SD rfl (by kernel_rfl) (by kernel_rfl) (by kernel_rfl) (fun _ _ _ h => h) (by rfl) (by intro y hy; go_simp) ?_
    try simp only [Act.put, List.setIfInBounds_toArray, List.set_cons_zero, List.set_cons_succ]
    refine anyH_take 7 24 (.int .i64 lean) SD rfl (by kernel_rfl) (by kernel_rfl) (by kernel_rfl) (fun _ _ _ h => h) (by rfl) (by intro y hy; obtain ⟨y0, y1, y2⟩ := hw_cells hy; go_simp) ?_
    try simp only [Act.put, List.setIfInBounds_toArray, List.set_cons_zero, List.set_cons_succ]
    refine anyH_take 8 25 (.pointer (some ⟨w.heap.size, 2, none⟩)) SD rfl (by kernel_rfl) (by kernel_rfl) (by kernel_rfl) (fun _ _ _ h => h) (by rfl) (by intro y hy; go_simp) ?_
    try simp only [Act.put, List.setIfInBounds_toArray, List.set_cons_zero, List.set_cons_succ]
    refine anyH_take 9 26 (.int .i64 now) SD rfl (by kernel_rfl) (by kernel_rfl) (by kernel_rfl) (fun _ _ _ h => h) (by rfl) (by intro y hy; obtain ⟨y0, y1, y2⟩ := hw_cells hy; go_simp) ?_
    try simp only [Act.put, List.setIfInBounds_toArray, List.set_cons_zero, List.set_cons_succ]
    refine anyH_one 10 (by kernel_rfl) ?_
    refine wpOp_step rfl (fun Kc hKc => ?_)
    go_simp
    refine (HV.out _ _ _ _ HN.out h0 (HRD.out _ _ _ O7.out)).mono ?_
    rintro e2 w2 ⟨rfl, B2⟩
    have O2 := Lib.hid (O7.out.old B2.out)
    have BB := Lib.hid (B7.out.trans (B2.out.mono B7.out.size))
    have SD2 : w2.heap[w.heap.size]? = _ := (B2.out.block _ (lt_of_block SD)).trans SD
    dsimp only
    refine hKc _ _ ⟨SD2, ?_⟩
    clear hKc Kc
    try simp only [Act.put, List.setIfInBounds_toArray, List.set_cons_zero, List.set_cons_succ]
    refine anyH_take 11 16 (.tuple #[.int .i64 q, .bool bb]) SD2 rfl (by kernel_rfl) (by kernel_rfl) (by kernel_rfl) (fun _ _ _ h => h) (by rfl) (by intro y hy; go_simp) ?_
    try simp only [Act.put, List.setIfInBounds_toArray, List.set_cons_zero, List.set_cons_succ]
    refine anyH_take 12 28 (.int .i64 q) SD2 rfl (by kernel_rfl) (by kernel_rfl) (by kernel_rfl) (fun _ _ _ h => h) (by rfl) (by intro y hy; go_simp) ?_
    try simp only [Act.put, List.setIfInBounds_toArray, List.set_cons_zero, List.set_cons_succ]
    refine anyH_take 13 29 (.bool bb) SD2 rfl (by kernel_rfl) (by kernel_rfl) (by kernel_rfl) (fun _ _ _ h => h) (by rfl) (by intro y hy; go_simp) ?_
    try simp only [Act.put, List.setIfInBounds_toArray, List.set_cons_zero, List.set_cons_succ]
    refine anyH_take 14 6 (.int .i64 q) SD2 rfl (by kernel_rfl) (by kernel_rfl) (by kernel_rfl) (fun _ _ _ h => h) (by rfl) (by intro y hy; go_simp) ?_
    try simp only [Act.put, List.setIfInBounds_toArray, List.set_cons_zero, List.set_cons_succ]
    refine anyH_take 15 7 (.bool bb) SD2 rfl (by kernel_rfl) (by kernel_rfl) (by kernel_rfl) (fun _ _ _ h => h) (by rfl) (by intro y hy; go_simp) ?_
    try simp only [Act.put, List.setIfInBounds_toArray, List.set_cons_zero, List.set_cons_succ]
    refine wpAnyH_done (by kernel_rfl) ?_ _
    obtain ⟨z0, z1, z2⟩ := hw_cells SD2
    go_wp2_with (first
      | (go_at_call 13; refine (HR.out _ (HP.out _ BB.out)).mono ?_; rintro e3 w3 ⟨rfl, B3⟩; have BB3 := Lib.hid (BB.out.trans (B3.out.mono BB.out.size)))
      | (go_at_call 14; refine (HKP.out _ _ _ (O2.out.old B3.out) (HP.out _ BB3.out)).mono ?_; rintro e4 w4 ⟨rfl, B4⟩; have BB4 := Lib.hid (BB3.out.trans (B4.mono BB3.out.size)))
      | (go_at_call 10; refine (HK.out _).mono ?_; rintro e5 w5 ⟨rfl, B5⟩))
    go_ret
    exact ⟨rfl, BB4.out.trans (B5.mono BB4.out.size)⟩
  · have h0' : 4096 < n := by omega
    have h1 : (4096 : Int) < (n : Int) := by omega
    clear h hin hn
    go_enter Try.func4, Try.ntmps4
    go_wp2_with (first
      | (go_at_call 10; rw [← hw0]; refine (HK.out _).mono ?_; rintro e5 w5 ⟨rfl, B5⟩))
    go_ret
    exact ⟨rfl, B0.out.trans (B5.mono B0.out.size)⟩
end Go.Proofs.Ythgjfjmampmiiaa

/-
  Contracts: aes.moved, aes.toState, aes.toBlock.
-/
import Derived.Test.YtkajigfdfbgphaaAesF
namespace Go.Proofs.Ytkajigfdfbgphaa
open Go.RowKit

theorem set4 {w : World} {g : Nat} {t : TypeId} {z0 z1 z2 z3 : Value} (a b c d : Int) (h : w.heap[g]? = some (.cells #[z0, z1, z2, z3] t (0, 0))) :
    ((((w.setCell ⟨g, 0, none⟩ (.int .u32 a)).setCell ⟨g, 1, none⟩ (.int .u32 b)).setCell ⟨g, 2, none⟩ (.int .u32 c)).setCell ⟨g, 3, none⟩ (.int .u32 d)).heap[g]? = some (.cells #[.int .u32 a, .int .u32 b, .int .u32 c, .int .u32 d] t (0, 0)) := by
  have h1 := heap_setCell_same w g 0 _ _ (.int .u32 a) h
  have h2 := heap_setCell_same _ g 1 _ _ (.int .u32 b) h1
  have h3 := heap_setCell_same _ g 2 _ _ (.int .u32 c) h2
  have h4 := heap_setCell_same _ g 3 _ _ (.int .u32 d) h3
  rw [h4]
  rfl
theorem below4 {B : Nat} {w w' : World} {g : Nat} (a b c d : Int) (h : Below B w w') (hg : B ≤ g) :
    Below B w ((((w'.setCell ⟨g, 0, none⟩ (.int .u32 a)).setCell ⟨g, 1, none⟩ (.int .u32 b)).setCell ⟨g, 2, none⟩ (.int .u32 c)).setCell ⟨g, 3, none⟩ (.int .u32 d)) :=
  (((h.setCell hg _).setCell hg _).setCell hg _).setCell hg _

set_option maxHeartbeats 4000000 in
set_option maxRecDepth 100000 in
theorem moved_any (T : List Int) (g : Nat) (a b c d : Int) (w : World) (hT : Tbl w g T) (hg : g < w.heap.size) :
    Calls Try.prog 32 #[.pointer (some ⟨g, 0, none⟩), St4 a b c d] w (StSay (Aes.col T a b c d) (Aes.col T b c d a) (Aes.col T c d a b) (Aes.col T d a b c) w) := by
  unfold St4
  have HT := Lib.hid hT; clear hT
  have Hg := Lib.hid hg; clear hg
  go_enter Try.func32, Try.ntmps32
  go_upto_region 1 with fail
  have HA : Hid (((w.alloc (.cells #[.int .u32 a, .int .u32 b, .int .u32 c, .int .u32 d] 56)).alloc (.cells #[.int .u32 0, .int .u32 0, .int .u32 0, .int .u32 0] 56)).heap[w.heap.size]? = some (.cells #[.int .u32 a, .int .u32 b, .int .u32 c, .int .u32 d] 56 (0, 0))) := heap_alloc2_old w _ _
  have HZ : Hid (((w.alloc (.cells #[.int .u32 a, .int .u32 b, .int .u32 c, .int .u32 d] 56)).alloc (.cells #[.int .u32 0, .int .u32 0, .int .u32 0, .int .u32 0] 56)).heap[w.heap.size + 1]? = some (.cells #[.int .u32 0, .int .u32 0, .int .u32 0, .int .u32 0] 56 (0, 0))) := heap_alloc2_new w _ _
  have HB : Hid (Below w.heap.size w ((w.alloc (.cells #[.int .u32 a, .int .u32 b, .int .u32 c, .int .u32 d] 56)).alloc (.cells #[.int .u32 0, .int .u32 0, .int .u32 0, .int .u32 0] 56))) := ((Below.refl _ w).alloc (Nat.le_refl _) _).alloc (by simp) _
  have HS1 : Hid (w.heap.size + 1 < ((w.alloc (.cells #[.int .u32 a, .int .u32 b, .int .u32 c, .int .u32 d] 56)).alloc (.cells #[.int .u32 0, .int .u32 0, .int .u32 0, .int .u32 0] 56)).heap.size) := lt_of_block HZ.out
  generalize (w.alloc (.cells #[.int .u32 a, .int .u32 b, .int .u32 c, .int .u32 d] 56)).alloc (.cells #[.int .u32 0, .int .u32 0, .int .u32 0, .int .u32 0] 56) = w1 at *
  have HA2 : Hid (∀ x, Below w1.heap.size w1 x → x.heap[w.heap.size]? = some (.cells #[.int .u32 a, .int .u32 b, .int .u32 c, .int .u32 d] 56 (0, 0))) := fun x hx => (hx.block _ (by have := HS1.out; omega)).trans HA.out
  have HS : Hid (∀ x : World, x.heap[w.heap.size]? = some (.cells #[.int .u32 a, .int .u32 b, .int .u32 c, .int .u32 d] 56 (0, 0)) → x.cell? ⟨w.heap.size, 0, none⟩ = some (.int .u32 a) ∧ x.cell? ⟨w.heap.size, 1, none⟩ = some (.int .u32 b) ∧ x.cell? ⟨w.heap.size, 2, none⟩ = some (.int .u32 c) ∧ x.cell? ⟨w.heap.size, 3, none⟩ = some (.int .u32 d)) := fun x hA =>
    ⟨by rw [cell_of_row x w.heap.size 0 _ _ _ hA]; rfl, by rw [cell_of_row x w.heap.size 1 _ _ _ hA]; rfl, by rw [cell_of_row x w.heap.size 2 _ _ _ hA]; rfl, by rw [cell_of_row x w.heap.size 3 _ _ _ hA]; rfl⟩
  have HTB : Hid (∀ x, Below w1.heap.size w1 x → Tbl x g T) := fun x hx => (HT.out.below HB.out Hg.out).below hx (by have := HS1.out; have := Hg.out; omega)
  have HZB : Hid (∀ x, Below w1.heap.size w1 x → x.heap[w.heap.size + 1]? = some (.cells #[.int .u32 0, .int .u32 0, .int .u32 0, .int .u32 0] 56 (0, 0))) := fun x hx => (hx.block _ HS1.out).trans HZ.out
  have HZC : Hid (∀ x, Below w1.heap.size w1 x → x.cell? ⟨w.heap.size + 1, 0, none⟩ = some (.int .u32 0) ∧ x.cell? ⟨w.heap.size + 1, 1, none⟩ = some (.int .u32 0) ∧ x.cell? ⟨w.heap.size + 1, 2, none⟩ = some (.int .u32 0) ∧ x.cell? ⟨w.heap.size + 1, 3, none⟩ = some (.int .u32 0)) := fun x hx =>
    ⟨by rw [cell_of_row x (w.heap.size + 1) 0 _ _ _ (HZB.out x hx)]; rfl, by rw [cell_of_row x (w.heap.size + 1) 1 _ _ _ (HZB.out x hx)]; rfl, by rw [cell_of_row x (w.heap.size + 1) 2 _ _ _ (HZB.out x hx)]; rfl, by rw [cell_of_row x (w.heap.size + 1) 3 _ _ _ (HZB.out x hx)]; rfl⟩
  have HZF : Hid (∀ x, Below w1.heap.size w1 x → ∀ j, x.frozen? ⟨w.heap.size + 1, j, none⟩ = false) := fun x hx j => frozen_of_row x (w.heap.size + 1) j _ _ (HZB.out x hx)
  have HR := Lib.hid (Below.refl w1.heap.size w1)
  clear HA HZ
  go_region_held3 (fun x : World => x.cell? ⟨w.heap.size, 0, none⟩ = some (.int .u32 a) ∧ x.cell? ⟨w.heap.size, 1, none⟩ = some (.int .u32 b) ∧ x.cell? ⟨w.heap.size, 2, none⟩ = some (.int .u32 c) ∧ x.cell? ⟨w.heap.size, 3, none⟩ = some (.int .u32 d))
    (first | exact HS.out _ (HA2.out _ HR.out.drew) | exact HS.out _ (HA2.out _ (by assumption)) | (refine HS.out _ ?_; rw [heap_setCell_other _ _ _ _ (by simp), heap_setCell_other _ _ _ _ (by simp), heap_setCell_other _ _ _ _ (by simp), heap_setCell_other _ _ _ _ (by simp)]; exact HA2.out _ (by assumption)))
    ((first
      | (go_at_call 46; refine (column_any T g _ _ _ _ _ (by first | exact HTB.out _ HR.out.drew | exact HTB.out _ (by assumption))).mono ?_; rintro e w2 ⟨rfl, q, hw2⟩; have hb2 : Below w1.heap.size w1 w2 := (by rw [hw2]; exact below_dn (by first | exact HR.out.drew | assumption) q); clear hw2; obtain ⟨z0, z1, z2, z3⟩ := HZC.out w2 hb2; have y0 := HZF.out w2 hb2 0; have y1 := HZF.out w2 hb2 1; have y2 := HZF.out w2 hb2 2; have y3 := HZF.out w2 hb2 3)))
  have F := set4 (Aes.col T a b c d) (Aes.col T b c d a) (Aes.col T c d a b) (Aes.col T d a b c) (HZB.out w2 hb2)
  have HB2 : Below w.heap.size w w2 := HB.out.trans (hb2.mono HB.out.size)
  have HB3 := Lib.hid (below4 (Aes.col T a b c d) (Aes.col T b c d a) (Aes.col T c d a b) (Aes.col T d a b c) HB2 (show w.heap.size ≤ w.heap.size + 1 by omega))
  clear HB2 z0 z1 z2 z3 y0 y1 y2 y3
  generalize (((w2.setCell ⟨w.heap.size + 1, 0, none⟩ (.int .u32 (Aes.col T a b c d))).setCell ⟨w.heap.size + 1, 1, none⟩ (.int .u32 (Aes.col T b c d a))).setCell ⟨w.heap.size + 1, 2, none⟩ (.int .u32 (Aes.col T c d a b))).setCell ⟨w.heap.size + 1, 3, none⟩ (.int .u32 (Aes.col T d a b c)) = w3 at *
  go_wp2
  exact bodyPost_ret (results_cell_row rfl _ _ (w.heap.size + 1) 56 _ (0, 0) _ rfl F Try.underlying56 rfl Try.size_st) rfl ⟨rfl, HB3.out⟩
end Go.Proofs.Ytkajigfdfbgphaa

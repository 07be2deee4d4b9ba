/-
  Contracts: aes.laid, aes.mixed.
-/
import Derived.Test.YtkajigfdfbgphaaAesD
import Derived.StillTailTactics
import Derived.Deep.RegionHeld3
namespace Go.Proofs.Ytkajigfdfbgphaa
open Go.RowKit

theorem Try.size_st : (Try.prog.info? 56).map (·.size) = some 4 := by kernel_rfl
theorem one4 (k : IntKind) (a b c d : Int) : (#[Value.int k a, .int k b, .int k c, .int k d] : Array Value).all (·.oneCell') = true := by
  refine Array.all_eq_true_iff_forall_mem.2 (fun v hv => ?_)
  simp at hv
  rcases hv with rfl | rfl | rfl | rfl <;> rfl
/-- Four words. -/
def St4 (a b c d : Int) : Value := .agg #[.int .u32 a, .int .u32 b, .int .u32 c, .int .u32 d]
def StSay (a b c d : Int) (w : World) (e : Ending) (w' : World) : Prop := e = .returned (St4 a b c d) ∧ Below w.heap.size w w'

set_option maxHeartbeats 1000000 in
set_option maxRecDepth 100000 in
theorem laid_any (a b c d k0 k1 k2 k3 : Int) (w : World) :
    Calls Try.prog 29 #[St4 a b c d, St4 k0 k1 k2 k3] w (StSay (bits .xor .u32 a k0) (bits .xor .u32 b k1) (bits .xor .u32 c k2) (bits .xor .u32 d k3) w) := by
  unfold St4
  go_enter Try.func29, Try.ntmps29
  go_wp2
  refine bodyPost_ret (results_cell_row rfl _ _ (w.heap.size + 1 + 1) 56 _ (0, 0) _ rfl (heap3_2 w _ _ _) Try.underlying56 rfl Try.size_st) rfl ⟨rfl, ?_⟩
  exact (((Below.refl _ w).alloc (Nat.le_refl _) _).alloc (by simp) _).alloc (by simp; omega) _

set_option maxHeartbeats 1000000 in
set_option maxRecDepth 100000 in
theorem mixed_any (a b c d : Int) (w : World) :
    Calls Try.prog 31 #[St4 a b c d] w (StSay (Aes.mixw a) (Aes.mixw b) (Aes.mixw c) (Aes.mixw d) w) := by
  unfold St4
  go_enter Try.func31, Try.ntmps31
  go_upto_region 1 with fail
  have HA : Hid (((w.alloc (.cells #[.int .u32 a, .int .u32 b, .int .u32 c, .int .u32 d] 56)).alloc (.cells #[.int .u32 0, .int .u32 0, .int .u32 0, .int .u32 0] 56)).heap[w.heap.size]? = some (.cells #[.int .u32 a, .int .u32 b, .int .u32 c, .int .u32 d] 56 (0, 0))) := heap_alloc2_old w _ _
  have HZ : Hid (((w.alloc (.cells #[.int .u32 a, .int .u32 b, .int .u32 c, .int .u32 d] 56)).alloc (.cells #[.int .u32 0, .int .u32 0, .int .u32 0, .int .u32 0] 56)).heap[w.heap.size + 1]? = some (.cells #[.int .u32 0, .int .u32 0, .int .u32 0, .int .u32 0] 56 (0, 0))) := heap_alloc2_new w _ _
  have HB : Hid (Below w.heap.size w ((w.alloc (.cells #[.int .u32 a, .int .u32 b, .int .u32 c, .int .u32 d] 56)).alloc (.cells #[.int .u32 0, .int .u32 0, .int .u32 0, .int .u32 0] 56))) := ((Below.refl _ w).alloc (Nat.le_refl _) _).alloc (by simp) _
  generalize (w.alloc (.cells #[.int .u32 a, .int .u32 b, .int .u32 c, .int .u32 d] 56)).alloc (.cells #[.int .u32 0, .int .u32 0, .int .u32 0, .int .u32 0] 56) = w1 at *
  have c0 : w1.cell? ⟨w.heap.size, 0, none⟩ = some (.int .u32 a) := by rw [cell_of_row w1 w.heap.size 0 _ _ _ HA.out]; rfl
  have c1 : w1.cell? ⟨w.heap.size, 1, none⟩ = some (.int .u32 b) := by rw [cell_of_row w1 w.heap.size 1 _ _ _ HA.out]; rfl
  have c2 : w1.cell? ⟨w.heap.size, 2, none⟩ = some (.int .u32 c) := by rw [cell_of_row w1 w.heap.size 2 _ _ _ HA.out]; rfl
  have c3 : w1.cell? ⟨w.heap.size, 3, none⟩ = some (.int .u32 d) := by rw [cell_of_row w1 w.heap.size 3 _ _ _ HA.out]; rfl
  go_still_tail 13, (by kernel_rfl)
  still_call (mix_any _ _)
  repeat still_step
  still_call (mix_any _ _)
  repeat still_step
  still_call (mix_any _ _)
  repeat still_step
  still_call (mix_any _ _)
  repeat still_step
  refine wpStill_nil ?_
  change wpList _ _ _ _ _ w1.drew
  have HZ2 : Hid (w1.drew.heap[w.heap.size + 1]? = some (.cells #[.int .u32 0, .int .u32 0, .int .u32 0, .int .u32 0] 56 (0, 0))) := HZ.out
  have HB2 : Hid (Below w.heap.size w w1.drew) := HB.out.drew
  generalize w1.drew = w2 at *
  clear HZ HA HB c0 c1 c2 c3
  go_wp2_with ((with_reducible refine row_store _ _ _ _ _ _ #[.int .u32 (Aes.mixw a), .int .u32 (Aes.mixw b), .int .u32 (Aes.mixw c), .int .u32 (Aes.mixw d)] ?_ ?_ HZ2.out ?_ ?_ ?_ ?_); (exact rfl); (exact rfl); (exact Try.size_st); (exact rfl); (exact one4 _ _ _ _ _); intro w3 G3 ch3)
  exact bodyPost_ret (results_cell_row rfl _ _ (w.heap.size + 1) 56 _ (0, 0) _ rfl G3.out Try.underlying56 rfl Try.size_st) rfl ⟨rfl, ch3.below HB2.out (by omega)⟩
end Go.Proofs.Ytkajigfdfbgphaa

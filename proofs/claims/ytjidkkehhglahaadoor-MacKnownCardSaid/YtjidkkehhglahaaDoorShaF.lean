/-
  Contracts: sha.ending, sha.New.
-/
import Derived.Test.YtjidkkehhglahaaDoorShaE
import Derived.Test.YtjidkkehhglahaaDoorShaO
import Derived.Test.YtjidkkehhglahaaDoorShaP
import Derived.Deep.WholeRow
namespace Go.Proofs.YtjidkkehhglahaaDoor
open Go.RowKit

theorem Tryd.zero5 : (Tryd.prog.info? 5).map (fun i => (i.zero, i.size, i.bytes)) = some (some (.int .u8 0), 1, 1) := by kernel_rfl

theorem mk_start (z n : Nat) : ((List.replicate (1 + z + 8) (Value.int .u8 0)).toArray.setIfInBounds 0 (.int .u8 128)) = ((Sha.padK n z 0).map (Value.int .u8)).toArray := by
  apply Array.ext'
  unfold Sha.padK
  rw [show 1 + z + 8 = (z + 8) + 1 by omega, List.replicate_succ]
  rw [Array.toList_setIfInBounds]
  simp only [List.set_cons_zero, List.take_zero, List.nil_append, List.map_append, List.map_cons, List.map_replicate, List.cons_append]
  rw [List.replicate_append_replicate]

def EndSay (n : Nat) (w : World) (e : Ending) (w' : World) : Prop :=
  ∃ B, e = .returned (.slice (some ⟨B, 0, none⟩) (Sha.pad n).length (Sha.pad n).length) ∧ w.heap.size ≤ B ∧ Hid (w'.heap[B]? = some (.cells ((Sha.pad n).map (Value.int .u8)).toArray 5 (0, 0))) ∧ Below w.heap.size w w'

set_option maxRecDepth 100000 in
set_option maxHeartbeats 1000000 in
theorem ending_any (n : Nat) (hn : n ≤ 1152921504606846976) (w : World) :
    Calls Tryd.prog 28 #[.int .u64 (n : Int)] w (EndSay n w) := by
  go_enter Tryd.func28, Tryd.ntmps28
  go_upto_region 3 with (fail)
  obtain ⟨z, hz⟩ : ∃ z : Nat, z = (119 - n % 64) % 64 := ⟨_, rfl⟩
  have hz2 : (128 - ((n : Int) % 64 + 1 + 8)) % 64 = (z : Int) := by omega
  rw [hz2]
  have hz3 : z ≤ 63 := by omega
  have HZ : Hid (z = Sha.zs n) := hz
  clear hz hz2
  go_upto_region 4 with ((with_reducible refine make_at _ 5 _ _ (.int .u8 0) 1 (1 + z) (1 + z + 8) ?_ ?_ ?_ ?_ rfl ?_ ?_ ?_ ?_); (exact rfl); (exact rfl); (exact Tryd.underlying25); (exact Tryd.zero5); omega; omega; omega; intro w1 G1 hb1 hs1)
  have c0 : w1.cell? ⟨w.heap.size, 0, none⟩ = some (.int .u8 0) := by
    rw [cell_of_row w1 w.heap.size 0 _ _ _ G1.out]; simp
  have f0 := frozen_of_row w1 w.heap.size 0 _ _ G1.out
  go_wp2
  go_loopw [5, 23] (fun v5 v23 wr => ∃ k : Nat, k ≤ 8 ∧ v23 = .int .i64 k ∧ v5 = .slice (some ⟨w.heap.size, 0, none⟩) (1 + z + k) (1 + z + 8) ∧ Hid (wr.heap[w.heap.size]? = some (.cells ((Sha.padK n z k).map (Value.int .u8)).toArray 5 (0, 0))) ∧ Hid (Below w.heap.size w wr)) (fun _ v23 _ => 8 - (intOf v23).toNat)
  case atStart =>
    refine ⟨0, by omega, rfl, rfl, ?_, ?_⟩
    · have := heap_setCell_same w1 w.heap.size 0 _ _ (.int .u8 128) G1.out
      rw [mk_start z n] at this
      exact this
    · exact hb1.setCell (Nat.le_refl _) _
  case round =>
    obtain ⟨k, hk, rfl, rfl, HG, HB⟩ := hrel
    clear c0 f0 G1 hb1 hs1
    have hgl : w.heap.size < wr.heap.size := lt_of_block HG.out
    by_cases hlt : k < 8
    · have HG2 : Hid ((wr.alloc (.cells #[.int .u8 (8 * (n : Int) / 2 ^ (56 - 8 * k) % 256)] 5)).heap[w.heap.size]? = some (.cells ((Sha.padK n z k).map (Value.int .u8)).toArray 5 (0, 0))) := by
        show _ = _; rw [heap_alloc_old _ _ hgl]; exact HG.out
      have hfit : Hid (1 + z + k + 1 ≤ ((Sha.padK n z k).map (Value.int .u8)).length) := by
        show _ ≤ _; rw [List.length_map, Sha.padK_len _ _ _ hk]; omega
      go_wp2_with ((with_reducible refine append_at _ _ _ 5 w.heap.size (1 + z + k) (1 + z + 8) _ ⟨wr.heap.size, 0, none⟩ 1 (.int .u8 (8 * (n : Int) / 2 ^ (56 - 8 * k) % 256)) ?_ ?_ HG2.out ?_ ?_ ?_ ?_ ?_ hfit.out ?_); (exact rfl); (exact rfl); (exact Tryd.underlying25); (exact Tryd.size5); (exact cell_of_one (heap_alloc_new _ _)); (exact rfl); omega; intro w3 g3 ch3)
      have g4 := g3.out
      rw [← Sha.lb_eq, Sha.padK_step n z k hlt] at g4
      have hb3 := ch3.below (HB.out.alloc (by have := HB.out.size; omega) (.cells #[.int .u8 (8 * (n : Int) / 2 ^ (56 - 8 * k) % 256)] 5)) (Nat.le_refl _)
      exact ⟨⟨k + 1, by omega, by go_num, rfl, g4, hb3⟩, by simp [intOf]; omega⟩
    · have E : k = 8 := by omega
      have hge : 8 ≤ k := by omega
      have HE : Hid (1 + z + k = (Sha.pad n).length ∧ 1 + z + 8 = (Sha.pad n).length ∧ wr.heap[w.heap.size]? = some (.cells ((Sha.pad n).map (Value.int .u8)).toArray 5 (0, 0))) := by
        have h8 := HG.out
        rw [E, HZ.out] at h8
        refine ⟨?_, ?_, ?_⟩
        · rw [Sha.pad_len, E, HZ.out]; omega
        · rw [Sha.pad_len, HZ.out]; omega
        · rw [Sha.pad_eq]; exact h8
      clear E hlt HG HZ
      go_wp2
      go_ret
      exact ⟨w.heap.size, by show Ending.returned (.slice (some ⟨w.heap.size, 0, none⟩) (1 + z + k) (1 + z + 8)) = _; rw [HE.out.1, HE.out.2.1], Nat.le_refl _, HE.out.2.2, HB.out⟩

theorem hc_init : (Sha.HC Sha.init (List.replicate 64 0) 0).toArray = #[.int .u32 1779033703, .int .u32 3144134277, .int .u32 1013904242, .int .u32 2773480762, .int .u32 1359893119, .int .u32 2600822924, .int .u32 528734635, .int .u32 1541459225, .int .u8 0, .int .u8 0, .int .u8 0, .int .u8 0, .int .u8 0, .int .u8 0, .int .u8 0, .int .u8 0, .int .u8 0, .int .u8 0, .int .u8 0, .int .u8 0, .int .u8 0, .int .u8 0, .int .u8 0, .int .u8 0, .int .u8 0, .int .u8 0, .int .u8 0, .int .u8 0, .int .u8 0, .int .u8 0, .int .u8 0, .int .u8 0, .int .u8 0, .int .u8 0, .int .u8 0, .int .u8 0, .int .u8 0, .int .u8 0, .int .u8 0, .int .u8 0, .int .u8 0, .int .u8 0, .int .u8 0, .int .u8 0, .int .u8 0, .int .u8 0, .int .u8 0, .int .u8 0, .int .u8 0, .int .u8 0, .int .u8 0, .int .u8 0, .int .u8 0, .int .u8 0, .int .u8 0, .int .u8 0, .int .u8 0, .int .u8 0, .int .u8 0, .int .u8 0, .int .u8 0, .int .u8 0, .int .u8 0, .int .u8 0, .int .u8 0, .int .u8 0, .int .u8 0, .int .u8 0, .int .u8 0, .int .u8 0, .int .u8 0, .int .u8 0, .int .u64 0] := by
  unfold Sha.HC
  rfl
theorem new_blk (w : World) : HBlk (w.alloc (.cells (Sha.HC Sha.init (List.replicate 64 0) 0).toArray 49)) w.heap.size [] (List.replicate 64 0) 0 := by
  unfold HBlk
  rw [heap_alloc_new, show ([] : List Int).length / 64 = 0 from rfl, Sha.stN]
theorem Tryd.zeroHash : (Tryd.prog.info? 49).map (fun i => (i.zero, i.size)) = some (some (.agg #[.int .u32 0, .int .u32 0, .int .u32 0, .int .u32 0, .int .u32 0, .int .u32 0, .int .u32 0, .int .u32 0, .int .u8 0, .int .u8 0, .int .u8 0, .int .u8 0, .int .u8 0, .int .u8 0, .int .u8 0, .int .u8 0, .int .u8 0, .int .u8 0, .int .u8 0, .int .u8 0, .int .u8 0, .int .u8 0, .int .u8 0, .int .u8 0, .int .u8 0, .int .u8 0, .int .u8 0, .int .u8 0, .int .u8 0, .int .u8 0, .int .u8 0, .int .u8 0, .int .u8 0, .int .u8 0, .int .u8 0, .int .u8 0, .int .u8 0, .int .u8 0, .int .u8 0, .int .u8 0, .int .u8 0, .int .u8 0, .int .u8 0, .int .u8 0, .int .u8 0, .int .u8 0, .int .u8 0, .int .u8 0, .int .u8 0, .int .u8 0, .int .u8 0, .int .u8 0, .int .u8 0, .int .u8 0, .int .u8 0, .int .u8 0, .int .u8 0, .int .u8 0, .int .u8 0, .int .u8 0, .int .u8 0, .int .u8 0, .int .u8 0, .int .u8 0, .int .u8 0, .int .u8 0, .int .u8 0, .int .u8 0, .int .u8 0, .int .u8 0, .int .u8 0, .int .u8 0, .int .u64 0]), 73) := by kernel_rfl
/-- A new hash: by which no bytes went. -/
def NewSay (w : World) (e : Ending) (w' : World) : Prop :=
  e = .returned (.pointer (some ⟨w.heap.size, 0, none⟩)) ∧ Holds w' w.heap.size [] ∧ Below w.heap.size w w' ∧ w'.heap.size = w.heap.size + 1
set_option maxRecDepth 100000 in
theorem new_any (w : World) : Calls Tryd.prog 5 #[] w (NewSay w) := by
  have hz := (zero_of_info Tryd.zeroHash).1
  go_enter Tryd.func5, Tryd.ntmps5
  go_wp2
  go_ret
  refine ⟨rfl, ?_, (Below.refl _ w).alloc (Nat.le_refl _) _, by simp⟩
  refine ⟨List.replicate 64 0, Sha.rest_nil _ (by simp) (fun x hx => by rw [List.mem_replicate] at hx; omega), ?_⟩
  have h := new_blk w
  rw [hc_init] at h
  exact h

end Go.Proofs.YtjidkkehhglahaaDoor

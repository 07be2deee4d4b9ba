/-
  Contracts: seal.toBytes, slices.Grow of nothing.
-/
import Derived.Test.YtkhaiiiioieglaaDoorA6
import Derived.Lib.AppendZeros
namespace Go.Proofs.YtkhaiiiioieglaaDoor
open Go.RowKit

namespace Seal
/-- A number's eight bytes, the highest first. -/
def be8 (n : Int) : List Int := [n / 72057594037927936 % 256, n / 281474976710656 % 256, n / 1099511627776 % 256, n / 4294967296 % 256, n / 16777216 % 256, n / 65536 % 256, n / 256 % 256, n % 256]
def tb (n : Int) : Nat → List Int
  | 0 => List.replicate 8 0
  | k + 1 => (tb n k).set (7 - k) (n / 256 ^ k % 256)
theorem tb_len (n : Int) (k : Nat) : (tb n k).length = 8 := by
  induction k with
  | zero => rfl
  | succ k ih => rw [tb, List.length_set, ih]
theorem tb_all (n : Int) : tb n 8 = be8 n := by simp [tb, be8]
theorem be8_len (n : Int) : (be8 n).length = 8 := rfl
theorem be8_byt (n : Int) : Sha.Byt (be8 n) := fun x hx => by
  unfold be8 at hx
  simp only [List.mem_cons, List.not_mem_nil, or_false] at hx
  rcases hx with rfl | rfl | rfl | rfl | rfl | rfl | rfl | rfl <;> omega
theorem tb_zero (n : Int) : (tb n 0).map (Value.int .u8) = List.replicate 8 (Value.int .u8 0) := by simp [tb]
attribute [irreducible] be8 tb
end Seal

def TbSay (n : Int) (w : World) (e : Ending) (w' : World) : Prop :=
  ∃ g, e = .returned (.slice (some ⟨g, 0, none⟩) 8 8) ∧ Hid (BAt w' (some ⟨g, 0, none⟩) (Seal.be8 n)) ∧ Below w.heap.size w w'
set_option maxHeartbeats 1000000 in
set_option maxRecDepth 100000 in
theorem toBytes_any (n : Int) (hn : 0 ≤ n ∧ n ≤ 9223372036854775807) (w : World) :
    Calls Tryd.prog 45 #[.int .i64 n] w (TbSay n w) := by
  go_enter Tryd.func45, Tryd.ntmps45
  go_upto_region 2 with ((with_reducible refine make_at _ 5 _ _ (.int .u8 0) 1 8 8 ?_ ?_ ?_ ?_ rfl ?_ ?_ ?_ ?_); (exact rfl); (exact rfl); (exact Tryd.underlying22); (exact Tryd.info_u8); omega; omega; omega; intro w1 G1 hb1 hs1)
  have G1' : Hid (w1.heap[w.heap.size]? = some (.cells ((Seal.tb n 0).map (Value.int .u8)).toArray 5 (0, 0))) := by
    show _ = _; rw [Seal.tb_zero]; exact G1.out
  have HB1 := Lib.hid hb1
  clear hb1 G1 hs1
  go_wp2
  go_loopw [0, 8] (fun v0 v8 wr => ∃ (k : Nat) (z : Int), k ≤ 8 ∧ v8 = .int .i64 k ∧ v0 = .int .i64 z ∧ 0 ≤ z ∧ z ≤ 9223372036854775807 ∧ Hid (z = n / 256 ^ k) ∧ Hid (wr.heap[w.heap.size]? = some (.cells ((Seal.tb n k).map (Value.int .u8)).toArray 5 (0, 0))) ∧ Hid (Below w.heap.size w wr)) (fun _ v8 _ => 8 - (intOf v8).toNat)
  case atStart => exact ⟨0, n, Nat.zero_le _, rfl, rfl, hn.1, hn.2, by show _ = _; simp, G1'.out, HB1.out⟩
  case round =>
    clear G1' HB1
    obtain ⟨k, z, hk, rfl, rfl, hz1, hz2, HZ, HG, HB⟩ := hrel
    by_cases hlt : k < 8
    · have hw2 : IntKind.i64.wrap (7 - (k : Int)) = 7 - (k : Int) := IntWalk.i64_in _ ⟨by omega, by omega⟩
      have hx1 : 0 ≤ 7 - (k : Int) := by omega
      have hx2 : 7 - (k : Int) < 8 := by omega
      have hx3 : (7 - (k : Int)).toNat = 7 - k := by omega
      have hx4 : (k : Int) < 8 := by omega
      have c0 := row_cell HG.out (7 - k) (by rw [Seal.tb_len]; omega)
      have f0 := frozen_of_row wr w.heap.size (7 - k) _ _ HG.out
      generalize (Seal.tb n k).getD (7 - k) 0 = y0 at c0
      go_wp2
      refine ⟨⟨k + 1, z / 256, by omega, by go_num, ?_, by omega, by omega, ?_, ?_, ?_⟩, by simp [intOf]; omega⟩
      · rfl
      · show _ = _
        rw [HZ.out, Int.ediv_ediv_of_nonneg (Int.le_of_lt (Int.pow_pos (by decide)))]
        rfl
      · have h2 := set_u8' (i := 7 - k) (x := z % 256) HG.out
        rw [HZ.out] at h2
        rw [HZ.out]
        unfold Seal.tb
        exact h2
      · exact HB.out.setCell (by simp) _
    · obtain rfl : k = 8 := by omega
      clear hlt
      go_wp2
      go_ret
      refine ⟨w.heap.size, rfl, ?_, HB.out⟩
      have h := HG.out
      rw [Seal.tb_all] at h
      exact bat_row h (Seal.be8_byt n)

set_option maxHeartbeats 1000000 in
set_option maxRecDepth 100000 in
/-- Room for so many bytes, out of nothing. -/
theorem grow_nil (n : Nat) (hn : n ≤ 1000000000) (w : World) :
    Calls Tryd.prog 83 #[.slice none 0 0, .int .i64 n] w fun e w' => ∃ v, e = .returned v ∧ w'.ownsRow w.heap.size 5 1 v 0 (U8s []) ∧ Below w.heap.size w w' := by
  obtain ⟨i0, hi, hz0, hz1, hz2⟩ := info_parts Tryd.info_u8
  have h1 : ¬ ((n : Int) < 0) := by omega
  by_cases h0 : 0 < n
  · have h0' : (n : Int) > 0 := by omega
    have hcm := grownCap_le_maxLen w n 0 5 (by unfold maxLen; omega)
    have hcn : n ≤ grownCap w n 0 5 := grownCap_ge w _ _ _
    have hr : ∀ ty, (Builtin.append_ #[22, 3] ty #[.slice none 0 0, .int .i64 n]).run Tryd.prog w = _ := fun ty =>
      Lib.run_append_nil_zeros w 22 3 ty 5 i0 (.int .u8 0) .i64 .i64 Tryd.underlying22 Tryd.underlying3 hi hz0 n h0 (by omega) (by omega) (by rw [hz2]; omega)
    have hrow : ∀ c, c ≤ maxLen → n ≤ c → (w.drew.alloc (.cells (Builtin.zeroCells (Value.int .u8 0).cells n ++ Builtin.zeroCells (Value.int .u8 0).cells (c - n)) 5)).ownsRow w.heap.size 5 1 (.slice (some ⟨w.heap.size, 0, none⟩) 0 c) 0 (U8s []) := fun c hc hnc =>
      ⟨by unfold U8s; rfl, Or.inr ⟨w.heap.size, c, _, rfl, Nat.le_refl _, heap_alloc_new w.drew _, Nat.zero_le _, hc, by simp only [Array.size_append, size_zeroCells]; show n * 1 + (c - n) * 1 = c * 1; omega, by unfold U8s; simp⟩⟩
    have hbel : ∀ C, Below w.heap.size w (w.drew.alloc C) := fun C => (Below.refl _ w).drew.alloc (Nat.le_refl _) C
    generalize grownCap w n 0 5 = G at *
    go_enter Tryd.func83, Tryd.ntmps83
    go_wp2_with (first
      | (at_builtin; refine Lib.wpList_append_run _ rfl _ _ _ _ rfl _ _ rfl rfl _ _ (hr _) ?_)
      | go_in)
    go_ret
    exact ⟨_, rfl, hrow G hcm hcn, hbel _⟩
  · obtain rfl : n = 0 := by omega
    go_enter Tryd.func83, Tryd.ntmps83
    go_wp2
    go_ret
    exact ⟨_, rfl, by unfold U8s; exact World.ownsRow_nil _ _ _ _, Below.refl _ _⟩

end Go.Proofs.YtkhaiiiioieglaaDoor

/-
  Counter mode in plain numbers; contracts: ctr.put, bytes.Clone.
-/
import Derived.Test.YtkajigfdfbgphaaAesX
import Derived.Test.YtkajigfdfbgphaaTurF
namespace Go.Proofs.Ytkajigfdfbgphaa
open Go.RowKit

namespace Ctr
/-- The sixteen bytes of an epoch, a number and a block's place. -/
def cb (e n i : Int) : List Int := [e / 1099511627776 % 256, e / 4294967296 % 256, e / 16777216 % 256, e / 65536 % 256, e / 256 % 256, e % 256,
  n / 1099511627776 % 256, n / 4294967296 % 256, n / 16777216 % 256, n / 65536 % 256, n / 256 % 256, n % 256, i / 16777216 % 256, i / 65536 % 256, i / 256 % 256, i % 256]
theorem cb_len (e n i : Int) : (cb e n i).length = 16 := rfl
theorem cb_byt (e n i : Int) : Sha.Byt (cb e n i) := fun x hx => by
  unfold cb at hx
  simp only [List.mem_cons, List.not_mem_nil, or_false] at hx
  rcases hx with rfl | rfl | rfl | rfl | rfl | rfl | rfl | rfl | rfl | rfl | rfl | rfl | rfl | rfl | rfl | rfl <;> omega
/-- A number's lowest bytes put into a row from place o on, k of m of them, the last one first. -/
def pt (l : List Int) (o m : Nat) (v : Int) : Nat → List Int
  | 0 => l
  | k + 1 => (pt l o m v k).set (o + (m - 1 - k)) (v / 256 ^ k % 256)
theorem pt_len (l : List Int) (o m : Nat) (v : Int) (k : Nat) : (pt l o m v k).length = l.length := by
  induction k with
  | zero => rfl
  | succ k ih => rw [pt, List.length_set, ih]
theorem pt_place (e n z i : Int) : pt (cb e n z) 12 4 i 4 = cb e n i := by
  unfold cb
  simp [pt]
theorem pt_start (e n : Int) : pt (pt (List.replicate 16 0) 0 6 e 6) 6 6 n 6 = cb e n 0 := by
  unfold cb
  simp [pt]
end Ctr

def PutSay (l : List Int) (g o m : Nat) (v : Int) (w : World) (e : Ending) (w' : World) : Prop := e = .returned (.tuple #[]) ∧ Hid (w'.heap[g]? = some (.cells ((Ctr.pt l o m v m).map (Value.int .u8)).toArray 35 (0, 0))) ∧ Chg g w w'
set_option maxHeartbeats 1000000 in
set_option maxRecDepth 100000 in
theorem put_any (l : List Int) (g o m c : Nat) (v : Int) (hl : l.length = 16) (hm : o + m ≤ 16) (hv : 0 ≤ v ∧ v < 18446744073709551616) (w : World) (hg : w.heap[g]? = some (.cells (l.map (Value.int .u8)).toArray 35 (0, 0))) :
    Calls Try.prog 50 #[.slice (some ⟨g, o, none⟩) m c, .int .u64 v] w (PutSay l g o m v w) := by
  have Hg := Lib.hid hg; clear hg
  have Hl := Lib.hid hl; clear hl
  go_enter Try.func50, Try.ntmps50
  go_wp2
  go_loopw [1, 7] (fun v1 v7 wr => ∃ (k : Nat) (z : Int), k ≤ m ∧ v7 = .int .i64 k ∧ v1 = .int .u64 z ∧ 0 ≤ z ∧ z < 18446744073709551616 ∧ Hid (z = v / 256 ^ k) ∧ Hid (wr.heap[g]? = some (.cells ((Ctr.pt l o m v k).map (Value.int .u8)).toArray 35 (0, 0))) ∧ Hid (Chg g w wr)) (fun _ v7 _ => m - (intOf v7).toNat)
  case atStart => exact ⟨0, v, Nat.zero_le _, rfl, rfl, hv.1, hv.2, by show _ = _; simp, Hg.out, Chg.refl _ _⟩
  case round =>
    clear Hg
    obtain ⟨k, z, hk, rfl, rfl, hz1, hz2, HZ, HG, HC⟩ := hrel
    by_cases hlt : k < m
    · have hw1 : IntKind.i64.wrap ((m : Int) - 1) = (m : Int) - 1 := IntWalk.i64_in _ ⟨by omega, by omega⟩
      have hw2 : IntKind.i64.wrap ((m : Int) - 1 - k) = (m : Int) - 1 - k := IntWalk.i64_in _ ⟨by omega, by omega⟩
      have hx1 : 0 ≤ (m : Int) - 1 - k := by omega
      have hx2 : (m : Int) - 1 - k < (m : Int) := by omega
      have hx3 : ((m : Int) - 1 - k).toNat = m - 1 - k := by omega
      have c0 := u8_cell HG.out (o + (m - 1 - k)) (by rw [Ctr.pt_len, Hl.out]; omega)
      have f0 := frozen_of_row wr g (o + (m - 1 - k)) _ _ HG.out
      generalize (Ctr.pt l o m v k).getD (o + (m - 1 - k)) 0 = y0 at c0
      go_wp2
      refine ⟨⟨k + 1, z / 256, by omega, by go_num, ?_, by omega, by omega, ?_, ?_, ?_⟩, by simp [intOf]; omega⟩
      · rfl
      · show _ = _
        rw [HZ.out, Int.ediv_ediv_of_nonneg (Int.le_of_lt (Int.pow_pos (by decide)))]
        rfl
      · have h2 := u8_set (i := o + (m - 1 - k)) (x := z % 256) HG.out
        rw [HZ.out] at h2
        rw [HZ.out]
        exact h2
      · exact HC.out.trans (Chg.setCell wr ⟨g, o + (m - 1 - k), none⟩ _)
    · obtain rfl : k = m := by omega
      have hge : (k : Int) ≤ (k : Int) := Int.le_refl _
      clear hlt
      go_wp2
      go_end0
      exact ⟨rfl, HG, HC.out⟩
end Go.Proofs.Ytkajigfdfbgphaa

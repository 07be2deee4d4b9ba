/-
  Contracts: slices.Chunk of bytes by sixteen, and its iterator.
-/
import Derived.RangeFuncNested
import Derived.RangeFuncBound
import Derived.RangeFuncCalls
import Derived.RangeFuncLeaves
import Derived.Shelf.Abstract
import Derived.Shelf.RegionOpen
import Derived.WalkKit
import Derived.OwnWalkIn
import Derived.TacticsInMore
import Derived.LoopNIn
import Derived.LoopIn
import Derived.Test.YtkajigfdfbgphaaCtrB
namespace Go.Proofs.Ytkajigfdfbgphaa
open Go.RowKit Go.Shelf

set_option maxHeartbeats 1000000 in
theorem chunk_any (p : Option Addr) (len cap : Nat) (w : World) :
    Calls Try.prog 40 #[.slice p len cap, .int .i64 16] w fun e w' => e = .returned (.func (.func 52) #[] #[.pointer (some ⟨w.heap.size, 0, none⟩), .pointer (some ⟨w.heap.size + 1, 0, none⟩)]) ∧
      w' = (w.alloc (.cells #[.slice p len cap] 22)).alloc (.cells #[.int .i64 16] 3) := by
  go_enter Try.func40, Try.ntmps40
  go_wp2
  go_ret
  exact ⟨rfl, rfl⟩

/-- The part that comes x-th. -/
def Ctr.encs (g len : Nat) (x : Nat) : Array Value := #[.slice (some ⟨g, 16 * x, none⟩) (min 16 (len - 16 * x)) (min 16 (len - 16 * x))]
/-- How many parts there are. -/
def Ctr.nch (len : Nat) : Nat := (len + 15) / 16

set_option maxRecDepth 100000 in
set_option maxHeartbeats 4000000 in
theorem chunk1_in (l bs bn g len cap : Nat) (p : Option Addr) (hp : 0 < len → p = some ⟨g, 0, none⟩) (hlen : len ≤ 1000000000) (hcap : len ≤ cap) (hcm : cap ≤ 9223372036854775807) (J Jx : List Nat → World → Prop)
    (hY : ∀ pre x W, J pre W → pre.length < Ctr.nch len → YieldAt Fence.wide 1 Try.prog l (Ctr.encs g len x) W fun e W' =>
      (e = .returned (.bool true) ∧ J (pre ++ [x]) W' ∧ W'.heap[bs]? = W.heap[bs]? ∧ W'.heap[bn]? = W.heap[bn]?) ∨ (e = .returned (.bool false) ∧ Jx (pre ++ [x]) W'))
    (W : World) (hbs : W.heap[bs]? = some (.cells #[.slice p len cap] 22 (0, 0))) (hbn : W.heap[bn]? = some (.cells #[.int .i64 16] 3 (0, 0))) (h0 : J [] W) (hJd : ∀ pre x, J pre x → J pre x.drew) :
    CallsIn Fence.wide 2 Try.prog 52 #[.func (.yield l) #[] #[], .pointer (some ⟨bs, 0, none⟩), .pointer (some ⟨bn, 0, none⟩)] W fun e W' => (∃ v, e = .returned v) ∧
      ((∃ ys, ys = List.range (Ctr.nch len) ∧ J ys W') ∨ (∃ pre, True ∧ Jx pre W')) := by
  refine callsIn_of_wp Try.func52 rfl trivial ?_ rfl
  simp only [Try.ntmps52, List.size_toArray, List.length_cons, List.length_nil, Nat.reduceAdd, Nat.reduceSub, Array.replicate_succ, Array.replicate_zero, List.push_toArray, List.append_toArray, List.nil_append, List.cons_append]
  have HBS := Lib.hid hbs; have HBN := Lib.hid hbn; have HJ0 := Lib.hid h0; clear hbs hbn h0
  gi_wp2
  gi_loopw [4] (fun v4 wr => ∃ k : Nat, k ≤ Ctr.nch len ∧ v4 = .int .i64 (16 * (k : Int)) ∧ Hid (J (List.range k) wr) ∧ Hid (wr.heap[bs]? = some (.cells #[.slice p len cap] 22 (0, 0))) ∧ Hid (wr.heap[bn]? = some (.cells #[.int .i64 16] 3 (0, 0))))
    (fun v4 _ => 16 * Ctr.nch len - (intOf v4).toNat)
  case atStart => exact ⟨0, Nat.zero_le _, rfl, HJ0.out, HBS.out, HBN.out⟩
  case round =>
    clear HBS HBN HJ0
    obtain ⟨k, hk, rfl, HJ, HBS, HBN⟩ := hrel
    have cs : wr.cell? ⟨bs, 0, none⟩ = some (.slice p len cap) := by rw [cell_of_row wr bs 0 _ _ _ HBS.out]; rfl
    have cn : wr.cell? ⟨bn, 0, none⟩ = some (.int .i64 16) := by rw [cell_of_row wr bn 0 _ _ _ HBN.out]; rfl
    by_cases hlt : 16 * k < len
    · obtain rfl := hp (by omega)
      have hlz : 16 * (k : Int) < (len : Int) := by omega
      have hkn : k < Ctr.nch len := by unfold Ctr.nch; omega
      have ht : (16 * (k : Int)).toNat = 16 * k := by omega
      have h0 : 0 ≤ 16 * (k : Int) := by omega
      have hle : 16 * (k : Int) ≤ (len : Int) := by omega
      have hle2 : 16 * k ≤ len := by omega
      have hsub : ((len - 16 * k : Nat) : Int) = (len : Int) - 16 * k := by omega
      gi_wp2
      have csd : wr.drew.cell? ⟨bs, 0, none⟩ = some (.slice (some ⟨g, 0, none⟩) len cap) := cs
      have cnd : wr.drew.cell? ⟨bn, 0, none⟩ = some (.int .i64 16) := cn
      gi_region
      obtain ⟨E, hE⟩ : ∃ E, E = min 16 (len - 16 * k) := ⟨_, rfl⟩
      have HE : (if (len : Int) - 16 * (k : Int) < 16 then (len : Int) - 16 * (k : Int) else 16) = (E : Int) := by split <;> omega
      rw [HE]
      obtain ⟨fn, tmps, assign, body, hy, hR⟩ := hY (List.range k) k wr.drew (hJd _ _ HJ.out) (by rw [List.length_range]; exact hkn)
      unfold Ctr.encs at hy
      rw [← hE] at hy
      have e0 : ¬ E = 0 := by omega
      have e00 : 0 < E := by omega
      have e1 : E ≤ 16 := by omega
      have e2 : 16 * k + E ≤ len := by omega
      have e3 : 16 * k + E ≤ cap := by omega
      have e4 : (16 * (k : Int) + (E : Int)).toNat = 16 * k + E := by omega
      have e5 : 0 ≤ 16 * (k : Int) + (E : Int) := by omega
      have e6 : 16 * (k : Int) + (E : Int) ≤ (cap : Int) := by omega
      have e7 : 16 * (k : Int) ≤ 16 * (k : Int) + (E : Int) := by omega
      have HEQ := Lib.hid hE
      have HBSd : Hid (wr.drew.heap[bs]? = some (.cells #[.slice (some ⟨g, 0, none⟩) len cap] 22 (0, 0))) := HBS.out
      have HBNd : Hid (wr.drew.heap[bn]? = some (.cells #[.int .i64 16] 3 (0, 0))) := HBN.out
      clear HE hE cs cn HBS HBN HJ
      generalize wr.drew = wd at *
      gi_wp2
      refine hR.mono ?_
      rintro e W3 (⟨rfl, hJ3, hs3, hn3⟩ | ⟨rfl, hJx3⟩)
      · have HBS3 : Hid (W3.heap[bs]? = some (.cells #[.slice (some ⟨g, 0, none⟩) len cap] 22 (0, 0))) := hs3.trans HBSd.out
        have HBN3 : Hid (W3.heap[bn]? = some (.cells #[.int .i64 16] 3 (0, 0))) := hn3.trans HBNd.out
        have HJ3 := Lib.hid hJ3
        have cn3 : W3.cell? ⟨bn, 0, none⟩ = some (.int .i64 16) := by rw [cell_of_row W3 bn 0 _ _ _ HBN3.out]; rfl
        clear hs3 hn3 hJ3 hR hy
        gi_wp2
        go_roundw
        case rel => exact ⟨k + 1, by omega, by congr 1, by show J _ _; rw [List.range_succ]; exact HJ3.out, HBS3.out, HBN3.out⟩
        case measure => simp [intOf]; omega
      · gi_wp2
        refine bodyPost_ret (results_none rfl _ _ _) rfl ?_
        exact ⟨⟨_, rfl⟩, .inr ⟨_, trivial, hJx3⟩⟩
    · obtain rfl : k = Ctr.nch len := by unfold Ctr.nch at *; omega
      have hge : (len : Int) ≤ 16 * ((Ctr.nch len : Nat) : Int) := by omega
      gi_wp2
      go_end0
      exact ⟨⟨_, rfl⟩, .inl ⟨_, rfl, HJ.out⟩⟩
end Go.Proofs.Ytkajigfdfbgphaa

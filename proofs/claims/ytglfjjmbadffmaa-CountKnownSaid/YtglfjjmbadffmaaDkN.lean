/-
  Contract: New.
-/
import Derived.Test.YtglfjjmbadffmaaDkM
import Derived.Carry
namespace Go.Proofs.Ytglfjjmbadffmaa
open Go.RowKit Go.MapKept Go.ChangeMaps

namespace Dk
def fresh (n : Nat) : M := ⟨n, fun _ => [], fun _ => none, fun _ => 0, 0, -1, false⟩
def may (n : Int) : Bool := decide (1 ≤ n) && decide (n ≤ 4096)
end Dk
theorem Try.info_row : (Try.prog.info? 65).map (fun i => (i.zero, i.size, i.bytes)) = some (some (.slice none 0 0), 1, 24) := by kernel_rfl
theorem make_run (t e : TypeId) (z : Value) (bytes n : Nat) (hu : Try.prog.underlying t = some (.slice e)) (hi : (Try.prog.info? e).map (fun i => (i.zero, i.size, i.bytes)) = some (some z, 1, bytes)) (hz : z.cells = #[z]) (hb : bytes * n ≤ 281474976710656) (hn : n ≤ 9223372036854775807) (w : World) :
    (Instr.makeSlice t (.int .i64 (n : Int)) (.int .i64 (n : Int))).run Try.prog w = .ok (.slice (some ⟨w.heap.size, 0, none⟩) n n) (w.alloc (.cells (Array.replicate n z) e)) := by
  obtain ⟨i, hi1, hi2, hi3, hi4⟩ := info_parts hi
  have hrun := run_make (P := Try.prog) w t e i z hu hi1 hi2 .i64 .i64 n n (by omega) (by omega) (by rw [hi4]; omega) (by omega)
  rw [hi3, hz, Nat.mul_one] at hrun
  have hl : (madeCells #[z] n).toList = List.replicate n z := toList_madeCells_one z n
  have e2 : madeCells #[z] n = (List.replicate n z).toArray := by rw [← hl, Array.toArray_toList]
  have e3 : ((n : Int)).toNat = n := by omega
  rw [e3, e2, List.toArray_replicate] at hrun
  exact hrun
theorem al4 (x : World) (A B C D : Obj) : ((((x.alloc A).alloc B).alloc C).alloc D).heap[x.heap.size]? = some A ∧ ((((x.alloc A).alloc B).alloc C).alloc D).heap[x.heap.size + 1]? = some B ∧ ((((x.alloc A).alloc B).alloc C).alloc D).heap[x.heap.size + 1 + 1]? = some C ∧ ((((x.alloc A).alloc B).alloc C).alloc D).heap[x.heap.size + 1 + 1 + 1]? = some D := by
  have h : ((((x.alloc A).alloc B).alloc C).alloc D).heap = (((x.heap.push A).push B).push C).push D := rfl
  rw [h]
  simp only [Array.getElem?_push, Array.size_push]
  refine ⟨?_, ?_, ?_, ?_⟩
  · rw [if_neg (by omega), if_neg (by omega), if_neg (by omega), if_pos trivial]
  · rw [if_neg (by omega), if_neg (by omega), if_pos trivial]
  · rw [if_neg (by omega), if_pos trivial]
  · rw [if_pos trivial]
theorem below4 (w : World) (A B C D : Obj) : Below w.heap.size w ((((w.alloc A).alloc B).alloc C).alloc D).drew := (((((Below.refl _ w).alloc (Nat.le_refl _) _).alloc (by simp) _).alloc (by simp; omega) _).alloc (by simp; omega) _).drew
def DRow (lb cb rb n : Nat) : Obj := .cells #[.slice (some ⟨lb, 0, none⟩) n n, .map (some cb), .slice (some ⟨rb, 0, none⟩) n n, .int .i64 0, .int .i64 (-1), .bool false] 54
def Lasts0 (n : Nat) : Obj := .cells (Array.replicate n (Value.slice none 0 0)) 65
def Reads0 (n : Nat) : Obj := .cells (Array.replicate n (Value.int .i64 0)) 3
theorem fresh_at {y : World} {B d lb rb cb n : Nat} (hn : 1 ≤ n ∧ n ≤ 4096) (h1 : y.heap[lb]? = some (Lasts0 n)) (h2 : y.heap[cb]? = some (.map #[] 0)) (h3 : y.heap[rb]? = some (Reads0 n)) (h4 : y.heap[d]? = some (DRow lb cb rb n)) (hB : B ≤ d ∧ B ≤ lb ∧ B ≤ rb ∧ B ≤ cb) :
    DkAt y (fun g => B ≤ g ∧ g < y.heap.size) d lb rb cb (Dk.fresh n) := by
  refine ⟨⟨⟨hB.1, lt_of_block h4⟩, ⟨hB.2.1, lt_of_block h1⟩, ⟨hB.2.2.1, lt_of_block h3⟩, ⟨hB.2.2.2, lt_of_block h2⟩⟩, fun g h => h.2, h4, ⟨_, h1, by simp [Dk.fresh], fun i hi => ⟨.slice none 0 0, ?_, sec_nil _ _⟩⟩, ⟨fun _ => none, ⟨.map [], ⟨#[], 0, h2, ⟨by simp, stamped_empty 0, by simp⟩, Nat.zero_le _, rfl⟩, fun i => by simp [Maps.has], fun j v h => by cases h⟩, fun i => ⟨fun _ => rfl, fun L hL => by cases hL⟩⟩, ?_, ⟨hn.1, hn.2, fun i _ => rfl, by unfold In64 Dk.fresh; dsimp only; omega, fun i => by simp [Dk.fresh], fun i L hL => by cases hL⟩⟩
  · have hi' : i < n := hi
    simp [hi']
  · rw [h3]
    unfold Reads0 Dk.fresh
    congr 2
    apply Array.ext
    · simp
    · intro j _ _; simp
def NewSay (n : Int) (w : World) (e : Ending) (w' : World) : Prop :=
  if Dk.may n then ∃ d lb rb cb, e = .returned (.tuple #[.pointer (some ⟨d, 0, none⟩), .int .i64 0]) ∧ Hid (DkAt w' (fun g => w.heap.size ≤ g ∧ g < w'.heap.size) d lb rb cb (Dk.fresh n.toNat)) ∧ Below w.heap.size w w'
  else e = .returned (.tuple #[.pointer none, .int .i64 7]) ∧ w' = w
set_option maxHeartbeats 2000000 in
set_option maxRecDepth 100000 in
theorem new_no (n : Int) (h : Dk.may n = false) (w : World) : Calls Try.prog 10 #[.int .i64 n] w (NewSay n w) := by
  by_cases h1 : 1 ≤ n
  · have h2 : 4096 < n := by
      unfold Dk.may at h
      simp [h1] at h
      exact h
    go_enter Try.func10, Try.ntmps10
    go_wp2
    go_ret2
    unfold NewSay
    rw [h, if_neg (by decide)]
    exact ⟨rfl, rfl⟩
  · have h2 : n < 1 := by omega
    go_enter Try.func10, Try.ntmps10
    go_wp2
    go_ret2
    unfold NewSay
    rw [h, if_neg (by decide)]
    exact ⟨rfl, rfl⟩
set_option maxHeartbeats 2000000 in
set_option maxRecDepth 100000 in
theorem new_yes (n : Nat) (h1 : 1 ≤ n) (h2 : n ≤ 4096) (w : World) : Calls Try.prog 10 #[.int .i64 (n : Int)] w (NewSay n w) := by
  have hm : Dk.may n = true := by unfold Dk.may; simp; omega
  have hl1 : (1 : Int) ≤ (n : Int) := by omega
  have hl2 : (n : Int) ≤ 4096 := by omega
  have m1 := make_run 51 65 (.slice none 0 0) 24 n Try.underlying51 Try.info_row rfl (by omega) (by omega)
  have m2 := make_run 49 3 (.int .i64 0) 8 n Try.underlying49 Try.info_int rfl (by omega) (by omega)
  have hmm := @run_makeMap Try.prog
  go_enter Try.func10, Try.ntmps10
  go_upto_region 3 with (fail)
  go_region_held3 (fun _ => True)
    (trivial)
    (fail)
  all_goals (
    go_wp2
    go_ret2
    unfold NewSay
    rw [hm, if_pos rfl, Int.toNat_natCast]
    refine ⟨_, _, _, _, rfl, Lib.hid (fresh_at ⟨h1, h2⟩ ?_ ?_ ?_ (al4 w _ _ _ _).2.2.2 ?_), below4 w _ _ _ _⟩
    · first | exact (al4 w _ _ _ _).1 | exact (al4 w _ _ _ _).2.1 | exact (al4 w _ _ _ _).2.2.1
    · first | exact (al4 w _ _ _ _).1 | exact (al4 w _ _ _ _).2.1 | exact (al4 w _ _ _ _).2.2.1
    · first | exact (al4 w _ _ _ _).1 | exact (al4 w _ _ _ _).2.1 | exact (al4 w _ _ _ _).2.2.1
    · omega)
theorem disk_new (n : Int) (w : World) : Calls Try.prog 10 #[.int .i64 n] w (NewSay n w) := by
  cases h : Dk.may n with
  | false => exact new_no n h w
  | true =>
    have h' := h
    unfold Dk.may at h'
    simp only [Bool.and_eq_true, decide_eq_true_eq] at h'
    obtain ⟨k, rfl⟩ : ∃ k : Nat, n = (k : Int) := ⟨n.toNat, by omega⟩
    exact new_yes k (by omega) (by omega) w
end Go.Proofs.Ytglfjjmbadffmaa

/-
  Things that are put one behind the other, in plain lists and in memory.
-/
import Derived.Test.YtkgefogkdmbciaaPaU
namespace Go.Proofs.Ytkgefogkdmbciaa
open Go.RowKit

namespace Pk
structure Th where
  k : Int
  n : Int
  a : Int
  s : List Int
def Th.ok (x : Th) : Prop := In64 x.n ∧ In64 x.a ∧ x.s.length = 32 ∧ Sha.Byt x.s
def Th.cells (x : Th) : List Value := Value.int .i64 x.k :: Value.int .i64 x.n :: Value.int .i64 x.a :: x.s.map (Value.int .u8)
def th0 : Th := ⟨0, 0, 0, List.replicate 32 0⟩
def kd (x : Th) : Nat := pk x.k 3
theorem kd_lt (x : Th) : kd x < 3 := by
  have h := pk_lt x.k 3 (by omega)
  unfold kd
  omega
def bts (x : Th) : List Int := if kd x = 0 then e8 x.n 8 else if kd x = 1 then x.s else ref (x.a, x.s)
def sz (x : Th) : Nat := if kd x = 0 then 8 else if kd x = 1 then 32 else 40
theorem bts_len {x : Th} (h : x.ok) : (bts x).length = sz x := by
  unfold bts sz
  split
  · exact e8_len _ _
  · split
    · exact h.2.2.1
    · unfold ref
      rw [List.length_append, e8_len, h.2.2.1]
theorem sz_le (x : Th) : 8 ≤ sz x ∧ sz x ≤ 40 := by
  unfold sz
  split
  · omega
  · split <;> omega
theorem bts_byt {x : Th} (h : x.ok) : Sha.Byt (bts x) := by
  unfold bts
  split
  · exact e8_byt _ _
  · split
    · exact h.2.2.2
    · exact Sha.byt_append (e8_byt _ _) h.2.2.2
/-- The first k, one behind the other. -/
def pt (l : Nat → Th) : Nat → List Int
  | 0 => []
  | k + 1 => pt l k ++ bts (l k)
theorem pt_zero (l : Nat → Th) : pt l 0 = [] := rfl
theorem pt_succ (l : Nat → Th) (k : Nat) : pt l k ++ bts (l k) = pt l (k + 1) := rfl
theorem pt_len {l : Nat → Th} (h : ∀ k, (l k).ok) (k : Nat) : (pt l (k + 1)).length = (pt l k).length + sz (l k) := by
  rw [← pt_succ, List.length_append, bts_len (h k)]
theorem pt_le {l : Nat → Th} (h : ∀ k, (l k).ok) : ∀ k, (pt l k).length ≤ 40 * k
  | 0 => by simp [pt]
  | k + 1 => by
    have h1 := pt_le h k
    have h2 := sz_le (l k)
    rw [pt_len h]
    omega
theorem pt_mono {l : Nat → Th} (h : ∀ k, (l k).ok) (k : Nat) : ∀ d, (pt l k).length ≤ (pt l (k + d)).length
  | 0 => Nat.le_refl _
  | d + 1 => by
    have h1 := pt_mono h k d
    have h2 := pt_len h (k + d)
    rw [show k + (d + 1) = (k + d) + 1 by omega, h2]
    omega
theorem pt_pre (l : Nat → Th) (k : Nat) : ∀ d, ∃ t, pt l (k + d) = pt l k ++ t
  | 0 => ⟨[], by simp⟩
  | d + 1 => by
    obtain ⟨t, ht⟩ := pt_pre l k d
    exact ⟨t ++ bts (l (k + d)), by rw [show k + (d + 1) = (k + d) + 1 by omega, ← pt_succ, ht, List.append_assoc]⟩
/-- What stands behind the first k of N. -/
def tl (l : Nat → Th) (N k : Nat) : List Int := (pt l N).drop (pt l k).length
theorem tl_zero (l : Nat → Th) (N : Nat) : tl l N 0 = pt l N := by unfold tl; rw [pt_zero]; rfl
theorem tl_end (l : Nat → Th) (N : Nat) : tl l N N = [] := by unfold tl; exact List.drop_of_length_le (Nat.le_refl _)
theorem tl_step (l : Nat → Th) (N k : Nat) (hk : k < N) : tl l N k = bts (l k) ++ tl l N (k + 1) := by
  obtain ⟨t, ht⟩ := pt_pre l (k + 1) (N - (k + 1))
  rw [show k + 1 + (N - (k + 1)) = N by omega] at ht
  unfold tl
  rw [ht, List.drop_left, ← pt_succ, List.append_assoc, List.drop_left]
theorem tl_byt {l : Nat → Th} (h : ∀ k, (l k).ok) (N k : Nat) : Sha.Byt (tl l N k) := by
  have hb : ∀ k, Sha.Byt (pt l k) := fun k => by
    induction k with
    | zero => intro x hx; rw [pt_zero] at hx; cases hx
    | succ k ih => rw [← pt_succ]; exact Sha.byt_append ih (bts_byt (h k))
  intro x hx
  exact hb N x (List.mem_of_mem_drop hx)
theorem pt_byt {l : Nat → Th} (h : ∀ k, (l k).ok) (k : Nat) : Sha.Byt (pt l k) := by
  rw [← tl_zero]
  exact tl_byt h k 0
/-! what is read of a thing's bytes -/
theorem rd0 {x : Th} (hx : x.ok) (h : kd x = 0) (T : List Int) : vi (bts x ++ T) = x.n ∧ nx 8 (bts x ++ T) = T ∧ nb 8 (bts x ++ T) false = false := by
  have hl := bts_len hx
  have e : bts x = e8 x.n 8 := by unfold bts; rw [if_pos h]
  have hl8 : (bts x).length = 8 := by rw [e, e8_len]
  refine ⟨?_, ?_, ?_⟩
  · unfold vi
    rw [if_neg (by rw [List.length_append]; omega), show (8 : Nat) = (bts x).length from hl8.symm, List.take_left, e, in8_e8 hx.1]
  · unfold nx
    rw [if_neg (by rw [List.length_append]; omega), show (8 : Nat) = (bts x).length from hl8.symm, List.drop_left]
  · unfold nb
    rw [if_neg (by rw [List.length_append]; omega)]
theorem rd1 {x : Th} (hx : x.ok) (h : kd x = 1) (T : List Int) : vs (bts x ++ T) = x.s ∧ nx 32 (bts x ++ T) = T ∧ nb 32 (bts x ++ T) false = false := by
  have e : bts x = x.s := by unfold bts; rw [if_neg (by omega), if_pos h]
  have hl8 : (bts x).length = 32 := by rw [e, hx.2.2.1]
  refine ⟨?_, ?_, ?_⟩
  · unfold vs
    rw [if_neg (by rw [List.length_append]; omega), show (32 : Nat) = (bts x).length from hl8.symm, List.take_left, e]
  · unfold nx
    rw [if_neg (by rw [List.length_append]; omega), show (32 : Nat) = (bts x).length from hl8.symm, List.drop_left]
  · unfold nb
    rw [if_neg (by rw [List.length_append]; omega)]
theorem rd2 {x : Th} (hx : x.ok) (h : kd x = 2) (T : List Int) : vr (bts x ++ T) = (x.a, x.s) ∧ nx 40 (bts x ++ T) = T ∧ nb 40 (bts x ++ T) false = false := by
  have e : bts x = e8 x.a 8 ++ x.s := by unfold bts; rw [if_neg (by omega), if_neg (by omega)]; rfl
  have hl8 : (bts x).length = 40 := by rw [e, List.length_append, e8_len, hx.2.2.1]
  have h8 : (e8 x.a 8).length = 8 := e8_len _ _
  refine ⟨?_, ?_, ?_⟩
  · unfold vr
    rw [if_neg (by rw [List.length_append]; omega), e, List.append_assoc]
    have t1 : (e8 x.a 8 ++ (x.s ++ T)).take 8 = e8 x.a 8 := by
      conv => lhs; arg 1; rw [← h8]
      exact List.take_left
    have t2 : (e8 x.a 8 ++ (x.s ++ T)).drop 8 = x.s ++ T := by
      conv => lhs; arg 1; rw [← h8]
      exact List.drop_left
    have t3 : (x.s ++ T).take 32 = x.s := by
      conv => lhs; arg 1; rw [← hx.2.2.1]
      exact List.take_left
    rw [t1, t2, t3, in8_e8 hx.2.1]
  · unfold nx
    rw [if_neg (by rw [List.length_append]; omega), show (40 : Nat) = (bts x).length from hl8.symm, List.drop_left]
  · unfold nb
    rw [if_neg (by rw [List.length_append]; omega)]
attribute [irreducible] kd bts sz pt tl Th.cells
end Pk
/-- Things that came in. -/
def TRows (w : World) (tp : Option Addr) (M : Nat) (l : Nat → Pk.Th) : Prop :=
  (∀ k, (l k).ok) ∧ (0 < M → ∃ tb tf, tp = some ⟨tb, tf, none⟩ ∧ tb < w.heap.size ∧ ∀ r, r < M → w.rangeAt tb (tf + r * 35) (l r).cells)
theorem rng_old {w y : World} {b o : Nat} {cs : List Value} (h : w.rangeAt b o cs) (hb : Below w.heap.size w y) : y.rangeAt b o cs := fun j v hv => by
  have h1 := h j v hv
  exact (hb.cell (World.block_lt_of_cell? w _ h1)).trans h1
/-- The cells of one thing, as they are loaded. -/
structure ThAt (y : World) (tb o : Nat) (x : Pk.Th) : Prop where
  ck : y.cell? ⟨tb, o, none⟩ = some (.int .i64 x.k)
  cn : y.cell? ⟨tb, o + 1, none⟩ = some (.int .i64 x.n)
  cs : ∀ A : Array Value, A = (x.s.map (Value.int .u8)).toArray → y.rangeAt tb (o + 3) A.toList
  cr : ∀ A : Array Value, A = (Value.int .i64 x.a :: x.s.map (Value.int .u8)).toArray → y.rangeAt tb (o + 2) A.toList
theorem th_at {y : World} {tb o : Nat} {x : Pk.Th} (h : y.rangeAt tb o x.cells) : ThAt y tb o x := by
  unfold Pk.Th.cells at h
  refine ⟨h 0 _ rfl, h 1 _ rfl, fun A e j v hv => ?_, fun A e j v hv => ?_⟩
  · subst e
    have h1 := h (j + 3) v (by simpa using hv)
    rw [show o + (j + 3) = o + 3 + j by omega] at h1
    exact h1
  · subst e
    have h1 := h (j + 2) v (by simpa using hv)
    rw [show o + (j + 2) = o + 2 + j by omega] at h1
    exact h1
section
variable {P : Program} {ops : Array Oper} {rest : List Oper} {a : Act} {w : World} {Q : Exit → Act → World → Prop} {D : Option Tmp} {T : TypeId} {ps : String} {af : Array Edge}
/-- The smaller of two numbers. -/
theorem min_at (x y : Operand) (ts : Array TypeId) (m n N : Int) (hx : a.eval x = .int .i64 m) (hy : a.eval y = .int .i64 n) (hN : (if n < m then n else m) = N) (h : wpList P ops Q rest (a.put D (.int .i64 N)) w) :
    wpList P ops Q ({ dst := D, op := .call { callee := .builtin .min, args := #[x, y], argTypes := ts }, type := T, pos := ps, after := af, guard := none } :: rest) a w :=
  wpList_plain rfl fun K hK => by
    subst hN
    have hrun := run_min_int2 (P := P) w ts T .i64 .i64 m n
    unfold Oper.wp
    simp [execOp, resolve, invoke, builtin, hx, hy, hrun, Result.andThen]
    exact hK _ _ h
end
end Go.Proofs.Ytkgefogkdmbciaa

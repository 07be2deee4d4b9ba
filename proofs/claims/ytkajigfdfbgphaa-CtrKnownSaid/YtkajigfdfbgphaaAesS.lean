/-
  The cipher's steps as plain functions; laws for regions by hand.
-/
import Derived.Test.YtkajigfdfbgphaaAesH
import Derived.Test.YtkajigfdfbgphaaAesR
namespace Go.Proofs.Ytkajigfdfbgphaa
open Go.RowKit

namespace Aes
/-- A state: four words. -/
structure W where
  a : Int
  b : Int
  c : Int
  d : Int
def lay (s : W) (ks : List Int) (k : Nat) : W := ⟨bits .xor .u32 s.a (ks.getD (4 * k) 0), bits .xor .u32 s.b (ks.getD (4 * k + 1) 0), bits .xor .u32 s.c (ks.getD (4 * k + 2) 0), bits .xor .u32 s.d (ks.getD (4 * k + 3) 0)⟩
def mvd (T : List Int) (s : W) : W := ⟨col T s.a s.b s.c s.d, col T s.b s.c s.d s.a, col T s.c s.d s.a s.b, col T s.d s.a s.b s.c⟩
def mxd (s : W) : W := ⟨mixw s.a, mixw s.b, mixw s.c, mixw s.d⟩
def toW (l : List Int) : W := ⟨wk l 0, wk l 4, wk l 8, wk l 12⟩
def rounds (T ks : List Int) (s : W) : Nat → W
  | 0 => lay s ks 0
  | k + 1 => lay (mxd (mvd T (rounds T ks s k))) ks (k + 1)
/-- A block turned under the words of N + 2 keys. -/
def last (T ks : List Int) (N : Nat) (s : W) : W := lay (mvd T (rounds T ks s N)) ks (N + 1)
def blk (T ks : List Int) (N : Nat) (l : List Int) : List Int := blk4 (last T ks N (toW l)).a (last T ks N (toW l)).b (last T ks N (toW l)).c (last T ks N (toW l)).d
theorem rounds_zero (T ks : List Int) (s : W) : rounds T ks s 0 = lay s ks 0 := rfl
theorem rounds_succ (T ks : List Int) (s : W) (k : Nat) : rounds T ks s (k + 1) = lay (mxd (mvd T (rounds T ks s k))) ks (k + 1) := rfl
theorem blk_len (T ks : List Int) (N : Nat) (l : List Int) : (blk T ks N l).length = 16 := bk_len _ _
theorem blk_byt (T ks : List Int) (N : Nat) (l : List Int) : Sha.Byt (blk T ks N l) := bk_byt _ _
attribute [irreducible] rounds
end Aes
/-- A state's cells. -/
def stc (s : Aes.W) : Array Value := #[.int .u32 s.a, .int .u32 s.b, .int .u32 s.c, .int .u32 s.d]
theorem stc_one (s : Aes.W) : (stc s).all (·.oneCell') = true := one4 _ _ _ _ _
theorem stc_splice (s t : Aes.W) : (splice (stc s).toList 0 (stc t).toList).toArray = stc t := rfl
theorem stc_cells {x : World} {g : Nat} {s : Aes.W} {t : TypeId} {fr : Nat × Nat} (h : x.heap[g]? = some (.cells (stc s) t fr)) :
    x.cell? ⟨g, 0, none⟩ = some (.int .u32 s.a) ∧ x.cell? ⟨g, 1, none⟩ = some (.int .u32 s.b) ∧ x.cell? ⟨g, 2, none⟩ = some (.int .u32 s.c) ∧ x.cell? ⟨g, 3, none⟩ = some (.int .u32 s.d) :=
  ⟨by rw [cell_of_row x g 0 _ _ _ h]; rfl, by rw [cell_of_row x g 1 _ _ _ h]; rfl, by rw [cell_of_row x g 2 _ _ _ h]; rfl, by rw [cell_of_row x g 3 _ _ _ h]; rfl⟩

section
variable {P : Program} {md : Region.Mode} {ops : Array Oper} {Q : Exit → Act → World → Prop} {S : World → Prop}
theorem anyL_two (k i j : Nat) {fuel : Nat} {listed : Array Bool} {a : Act} {w : World} (hr : Region.ready md ops listed = [i, j])
    (h : wpOp P ops Q i (fun a' w' => (i ≠ k → S w') ∧ wpAnyL P md ops Q S k fuel (listed.setIfInBounds i true) a' w') a w)
    (h2 : wpOp P ops Q j (fun a' w' => (j ≠ k → S w') ∧ wpAnyL P md ops Q S k fuel (listed.setIfInBounds j true) a' w') a w) : wpAnyL P md ops Q S k (fuel + 1) listed a w :=
  ⟨fun h0 => absurd (hr ▸ h0) (by simp), fun m hm => by
    rw [hr] at hm
    simp at hm
    rcases hm with rfl | rfl <;> assumption⟩
/-- A row loaded whole, as an operation that yields. -/
theorem exec_row {a : Act} {w : World} {D : Option Tmp} {T : TypeId} {ps : String} {af : Array Edge} {gd : Option (Nat × Bool)} (ty : TypeId) (x : Operand) (g : Nat) (t : TypeId) (cs : Array Value) (fr : Nat × Nat) (d : TypeDesc) (hx : a.eval x = .pointer (some ⟨g, 0, none⟩))
    (hg : w.heap[g]? = some (.cells cs t fr)) (hu : P.underlying ty = some d) (hd : d.isRow = true) (hi : (P.info? ty).map (·.size) = some cs.size) :
    (execOp a.eval { dst := D, op := .load ty x, type := T, pos := ps, after := af, guard := gd }).run P w = .ok (.value (.agg cs)) w := by
  have h := run_loadAt_mid (P := P) w g 0 ty cs.toList d (fun j v hv => by rw [cell_of_row w g (0 + j) cs t fr hg]; simpa using hv) hu hd (by simpa using hi)
  unfold execOp
  simp only [hx, h, Sem.run_bind, Sem.run_pure, Result.andThen_ok, Array.toArray_toList]
end
end Go.Proofs.Ytkajigfdfbgphaa

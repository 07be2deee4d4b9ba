/-
  Contract: toRef.
-/
import Derived.Test.YtkgefogkdmbciaaPaF
namespace Go.Proofs.Ytkgefogkdmbciaa
open Go.RowKit

theorem fill_off (off : Nat) : ∀ (l : List Value) (k : Nat) (Z : Array Value), off + k + l.length ≤ Z.size →
    (l.zipIdx k).foldl (fun (cs : Array Value) (x : Value × Nat) => cs.setIfInBounds (off + x.2) x.1) Z = (Z.toList.take (off + k) ++ l ++ Z.toList.drop (off + k + l.length)).toArray
  | [], k, Z, _ => by simp
  | v :: l, k, Z, h => by
    simp only [List.length_cons] at h
    rw [List.zipIdx_cons, List.foldl_cons]
    rw [fill_off off l (k + 1) _ (by simp; omega)]
    apply Array.ext'
    have hk : off + k < Z.toList.length := by simp; omega
    simp only [Array.toList_setIfInBounds, List.length_cons]
    have e1 : (Z.toList.set (off + k) v).take (off + (k + 1)) = Z.toList.take (off + k) ++ [v] := by
      rw [show off + (k + 1) = off + k + 1 by omega, List.take_add_one, List.getElem?_set_self hk, List.take_set_of_le (Nat.le_refl _)]
      rfl
    have e2 : (Z.toList.set (off + k) v).drop (off + (k + 1) + l.length) = Z.toList.drop (off + k + (l.length + 1)) := by
      rw [List.drop_set_of_lt (by omega)]
      congr 1
      omega
    rw [e1, e2]
    simp
theorem fill_ref (place : Nat → Option (Nat × Nat)) (v : Value) (A Z : Array Value) (z : List Value) (hv : v.cells = #[v]) (h0 : place 0 = some (0, 1)) (h1 : place 1 = some (1, 32)) (hA : A.size = 32) (hZ : Z = (Value.int .i64 0 :: z).toArray) (hz : z.length = 32) :
    Instr.fill place Z [(0, v), (1, .agg A)] = some (#[v] ++ A) := by
  have h := fill_off 1 A.toList 0 (v :: z).toArray (by simp; omega)
  subst hZ
  unfold Instr.fill
  rw [h0]
  dsimp only
  rw [hv]
  split
  · rename_i hh
    simp [hz] at hh
  · unfold Instr.fill
    rw [h1]
    dsimp only
    split
    · rename_i hh
      simp [Value.cells, hA, hz] at hh
    · unfold Instr.fill
      congr 1
      show Array.foldl (fun (cs : Array Value) (x : Value × Nat) => cs.setIfInBounds (1 + x.2) x.1) (v :: z).toArray A.zipIdx = _
      rw [← Array.foldl_toList, Array.toList_zipIdx, h]
      apply Array.ext'
      simp [hA, hz]

def Z33 : Array Value := (Value.int .i64 0 :: List.replicate 32 (Value.int .u8 0)).toArray
theorem exec_build2 {P : Program} {a : Act} {w : World} {D : Option Tmp} {T : TypeId} {ps : String} {af : Array Edge} {gd : Option (Nat × Bool)} (t : TypeId) (x y : Operand) (v u : Value) (R : Array Value) (hx : a.eval x = v) (hy : a.eval y = u) (hr : P.built t [(0, v), (1, u)] = some R) :
    (execOp a.eval { dst := D, op := .build t #[(0, x), (1, y)], type := T, pos := ps, after := af, guard := gd }).run P w = .ok (.value (.agg R)) w := by
  have hrun := run_build (P := P) w t #[(0, v), (1, u)] R hr
  unfold execOp
  simp only [hx, hy, List.map_toArray, List.map_cons, List.map_nil, hrun, Sem.run_bind, Sem.run_pure, Result.andThen_ok]
theorem r33_eq (k : Int) (S : List Int) : R33 (k, S) = .agg (#[.int .i64 k] ++ (S.map (Value.int .u8)).toArray) := by
  unfold R33
  congr 1
  apply Array.ext'
  simp

end Go.Proofs.Ytkgefogkdmbciaa

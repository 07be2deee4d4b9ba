/-
  Towards the contract of aes.New: a cipher built of its table; a row of states that grows.
-/
import Derived.Test.YtkajigfdfbgphaaAesH
import Derived.Laws.Tables
namespace Go.Proofs.Ytkajigfdfbgphaa
open Go.RowKit

theorem fill_list : ∀ (l : List Value) (k : Nat) (Z : Array Value), k + l.length ≤ Z.size →
    (l.zipIdx k).foldl (fun (cs : Array Value) (x : Value × Nat) => cs.setIfInBounds (0 + x.2) x.1) Z = (Z.toList.take k ++ l ++ Z.toList.drop (k + l.length)).toArray
  | [], k, Z, _ => by simp
  | v :: l, k, Z, h => by
    simp only [List.length_cons] at h
    rw [List.zipIdx_cons, List.foldl_cons]
    rw [fill_list l (k + 1) _ (by simp; omega)]
    apply Array.ext'
    have hk : k < Z.toList.length := by simp; omega
    simp only [Array.toList_setIfInBounds, Nat.zero_add, List.length_cons]
    have e1 : (Z.toList.set k v).take (k + 1) = Z.toList.take k ++ [v] := by
      rw [List.take_add_one, List.getElem?_set_self hk, List.take_set_of_le (Nat.le_refl k)]
      rfl
    have e2 : (Z.toList.set k v).drop (k + 1 + l.length) = Z.toList.drop (k + (l.length + 1)) := by
      rw [List.drop_set_of_lt (by omega)]
      congr 1
      omega
    rw [e1, e2]
    simp
theorem fill_one (place : Nat → Option (Nat × Nat)) (A Z : Array Value) (n : Nat) (hp : place 0 = some (0, n)) (hA : A.size = n) (hZ : n ≤ Z.size) : Instr.fill place Z [(0, .agg A)] = some (A.toList ++ Z.toList.drop n).toArray := by
  have h := fill_list A.toList 0 Z (by simp; omega)
  unfold Instr.fill
  rw [hp]
  dsimp only
  split
  · rename_i hh
    simp [Value.cells, hA] at hh
    omega
  unfold Instr.fill
  congr 1
  show Array.foldl (fun (cs : Array Value) (x : Value × Nat) => cs.setIfInBounds (0 + x.2) x.1) Z A.zipIdx = _
  rw [← Array.foldl_toList, Array.toList_zipIdx]
  rw [h]
  simp [hA]
def Z257 : Array Value := (List.replicate 256 (Value.int .u8 0) ++ [Value.slice none 0 0]).toArray
theorem Try.zeroCipher : (Try.prog.info? 51).map (fun i => (i.zero, i.size)) = some (some (.agg Z257), 257) := by kernel_rfl
theorem z257 : Z257.toList.drop 256 = [Value.slice none 0 0] := by
  unfold Z257
  rw [List.drop_append_of_le_length (by rw [List.length_replicate]; exact Nat.le_refl _), List.drop_of_length_le (by rw [List.length_replicate]; exact Nat.le_refl _)]
  rfl
theorem z257s : Z257.size = 257 := by
  unfold Z257
  rw [List.size_toArray, List.length_append, List.length_replicate]
  rfl
attribute [irreducible] Z257
theorem Try.placesCipher : (match Try.prog.underlying 51 with
    | some (.struct fields) => fields.toList.mapM (fun f => (Try.prog.info? f.type).map fun i => (f.offset, i.size))
    | _ => none) = some [(0, 256), (256, 1)] := by kernel_rfl
theorem build_cipher (A : Array Value) (hA : A.size = 256) : Try.prog.built 51 [(0, .agg A)] = some (A.push (.slice none 0 0)) := by
  unfold Program.built
  have hz := Try.zeroCipher
  have hp := Try.placesCipher
  cases hi : Try.prog.info? 51 with
  | none => rw [hi] at hz; cases hz
  | some i =>
    rw [hi] at hz
    simp only [Option.map_some, Option.some.injEq, Prod.mk.injEq] at hz
    cases hu : Try.prog.underlying 51 with
    | none => rw [hu] at hp; cases hp
    | some d =>
      rw [hu] at hp
      cases d <;> try (exact absurd hp (fun h => by cases h))
      case struct fields =>
        dsimp only at hp ⊢
        rw [hz.1, hp]
        dsimp only
        rw [fill_one _ A _ 256 rfl hA (by show 256 ≤ Z257.size; rw [z257s]; omega)]
        show some (A.toList ++ Z257.toList.drop 256).toArray = _
        rw [z257]
        congr 1
        apply Array.ext'
        simp
end Go.Proofs.Ytkajigfdfbgphaa

/-
  A box built of its two parts.
-/
import Derived.Test.YtkhaiiiioieglaaDoorSeD
import Derived.Laws.Tables
namespace Go.Proofs.YtkhaiiiioieglaaDoor
open Go.RowKit

theorem fill_off (off : Nat) : ∀ (l : List Value) (k : Nat) (Z : Array Value), off + k + l.length ≤ Z.size →
    (l.zipIdx k).foldl (fun (cs : Array Value) (x : Value × Nat) => cs.setIfInBounds (off + x.2) x.1) Z = (Z.toList.take (off + k) ++ l ++ Z.toList.drop (off + k + l.length)).toArray
  | [], k, Z, _ => by simp
  | v :: l, k, Z, h => by
    simp only [List.length_cons] at h
    rw [List.zipIdx_cons, List.foldl_cons]
    rw [fill_off off l (k + 1) _ (by simp; omega)]
    apply Array.ext'
    have hk : off + k < Z.toList.length := by simp; omega
    simp only [Array.toList_setIfInBounds, List.length_cons]
    have e1 : (Z.toList.set (off + k) v).take (off + (k + 1)) = Z.toList.take (off + k) ++ [v] := by
      rw [show off + (k + 1) = off + k + 1 by omega, List.take_add_one, List.getElem?_set_self hk, List.take_set_of_le (Nat.le_refl _)]
      rfl
    have e2 : (Z.toList.set (off + k) v).drop (off + (k + 1) + l.length) = Z.toList.drop (off + k + (l.length + 1)) := by
      rw [List.drop_set_of_lt (by omega)]
      congr 1
      omega
    rw [e1, e2]
    simp
theorem fill_box (place : Nat → Option (Nat × Nat)) (v : Value) (A Z : Array Value) (z : List Value) (hv : v.cells = #[v]) (h0 : place 0 = some (0, 1)) (h1 : place 1 = some (1, 32)) (hA : A.size = 32) (hZ : Z = (Value.pointer none :: z).toArray) (hz : z.length = 32) :
    Instr.fill place Z [(0, v), (1, .agg A)] = some (#[v] ++ A) := by
  have h := fill_off 1 A.toList 0 (v :: z).toArray (by simp; omega)
  subst hZ
  unfold Instr.fill
  rw [h0]
  dsimp only
  rw [hv]
  split
  · rename_i hh
    simp [hz] at hh
  · unfold Instr.fill
    rw [h1]
    dsimp only
    split
    · rename_i hh
      simp [Value.cells, hA, hz] at hh
    · unfold Instr.fill
      congr 1
      show Array.foldl (fun (cs : Array Value) (x : Value × Nat) => cs.setIfInBounds (1 + x.2) x.1) (v :: z).toArray A.zipIdx = _
      rw [← Array.foldl_toList, Array.toList_zipIdx, h]
      apply Array.ext'
      simp [hA, hz]
theorem fold_box (a : Option Addr) (A : Array Value) (hA : A.size = 32) (z : List Value) (hz : z.length = 32) :
    Array.foldl (fun (cs : Array Value) (x : Value × Nat) => cs.setIfInBounds (1 + x.snd) x.fst) (Value.pointer a :: z).toArray (A.zipIdx 0) 0 32 = #[.pointer a] ++ A := by
  have h := fill_off 1 A.toList 0 (Value.pointer a :: z).toArray (by simp; omega)
  have e : Array.foldl (fun (cs : Array Value) (x : Value × Nat) => cs.setIfInBounds (1 + x.snd) x.fst) (Value.pointer a :: z).toArray (A.zipIdx 0) 0 32 = Array.foldl (fun (cs : Array Value) (x : Value × Nat) => cs.setIfInBounds (1 + x.snd) x.fst) (Value.pointer a :: z).toArray (A.zipIdx 0) := by rw [show (A.zipIdx 0).size = 32 by simp [hA]]
  rw [e, ← Array.foldl_toList, Array.toList_zipIdx, h]
  apply Array.ext'
  simp [hA, hz]
def Z33 : Array Value := (Value.pointer none :: List.replicate 32 (Value.int .u8 0)).toArray
theorem Tryd.zeroBox : (Tryd.prog.info? 51).map (fun i => (i.zero, i.size)) = some (some (.agg Z33), 33) := by kernel_rfl
theorem Tryd.placesBox : (match Tryd.prog.underlying 51 with
    | some (.struct fields) => fields.toList.mapM (fun f => (Tryd.prog.info? f.type).map fun i => (f.offset, i.size))
    | _ => none) = some [(0, 1), (1, 32)] := by kernel_rfl
set_option maxRecDepth 100000 in
theorem build_box (a : Option Addr) (A : Array Value) (hA : A.size = 32) : Tryd.prog.built 51 [(0, .pointer a), (1, .agg A)] = some (#[.pointer a] ++ A) := by
  unfold Program.built
  have hz := Tryd.zeroBox
  have hp := Tryd.placesBox
  cases hi : Tryd.prog.info? 51 with
  | none => rw [hi] at hz; cases hz
  | some i =>
    rw [hi] at hz
    simp only [Option.map_some, Option.some.injEq, Prod.mk.injEq] at hz
    cases hu : Tryd.prog.underlying 51 with
    | none => rw [hu] at hp; cases hp
    | some d =>
      rw [hu] at hp
      cases d <;> try (exact absurd hp (fun h => by cases h))
      case struct fields =>
        dsimp only at hp ⊢
        rw [hz.1, hp]
        dsimp only
        exact fill_box _ (.pointer a) A Z33 (List.replicate 32 (Value.int .u8 0)) rfl rfl rfl hA rfl rfl
section
variable {P : Program} {ops : Array Oper} {rest : List Oper} {a : Act} {w : World} {Q : Exit → Act → World → Prop} {D : Option Tmp} {T : TypeId} {ps : String} {af : Array Edge}
/-- A value built of two parts. -/
theorem row_build2 (t : TypeId) (x y : Operand) (v u : Value) (R : Array Value) (hx : a.eval x = v) (hy : a.eval y = u) (hr : P.built t [(0, v), (1, u)] = some R) (h : wpList P ops Q rest (a.put D (.agg R)) w) :
    wpList P ops Q ({ dst := D, op := .build t #[(0, x), (1, y)], type := T, pos := ps, after := af, guard := none } :: rest) a w :=
  wpList_plain rfl fun K hK => by
    have hrun := run_build (P := P) w t #[(0, v), (1, u)] R hr
    unfold Oper.wp execOp
    simp only [hx, hy, List.map_toArray, List.map_cons, List.map_nil, hrun, Sem.run_bind, Sem.run_pure, Result.andThen_ok]
    exact hK _ _ h
end
end Go.Proofs.YtkhaiiiioieglaaDoor

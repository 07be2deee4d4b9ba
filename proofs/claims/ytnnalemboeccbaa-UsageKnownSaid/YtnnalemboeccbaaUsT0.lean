/-
  Seventeen calls in a row of their own.
-/
import Derived.Test.YtnnalemboeccbaaUsR
import Derived.Great.BuildSlice
namespace Go.Proofs.Ytnnalemboeccbaa
open Go.RowKit

theorem Try.infoOpz : (Try.prog.info? 32).map (fun i => (i.zero, i.size, i.bytes)) = some (some (.agg (OpA Us.o0)), 7, 56) := by kernel_rfl
/-- The cells of calls. -/
def opc (L : List Us.O) : List Value := L.flatMap OpC
theorem opc_at : ∀ (L : List Us.O) (i j : Nat), i < L.length → j < 7 → (opc L)[i * 7 + j]? = (OpC (L.getD i Us.o0))[j]?
  | [], i, j, hi, _ => by simp at hi
  | x :: r, i, j, hi, hj => by
    have hx : (OpC x).length = 7 := rfl
    have e : opc (x :: r) = OpC x ++ opc r := by unfold opc; rw [List.flatMap_cons]
    rw [e]
    cases i with
    | zero =>
      rw [Nat.zero_mul, Nat.zero_add, List.getElem?_append_left (by omega)]
      rfl
    | succ i =>
      rw [List.getElem?_append_right (by omega), hx, show (i + 1) * 7 + j - 7 = i * 7 + j by omega, opc_at r i j (by simpa using hi) hj]
      rfl
theorem ops_row {y : World} {g : Nat} {L : List Us.O} (h : y.heap[g]? = some (.cells (opc L).toArray 32 (0, 0))) : OpS y (some ⟨g, 0, none⟩) L := fun _ => ⟨g, 0, rfl, fun i hi j v hv => by
  rw [cell_of_row y g _ _ _ _ h, List.getElem?_toArray, Nat.zero_add]
  have hj : j < 7 := (List.getElem?_eq_some_iff.1 hv).1
  rw [opc_at L i j hi hj]
  exact hv⟩
/-- The calls of the examples. -/
def exO (x z : Int) : List Us.O := [⟨1, 0, 0, x, Us.z⟩, ⟨1, 0, 0, z, Us.z⟩, ⟨2, 0, 2, 9, Us.z⟩, ⟨2, x, z, 3, Us.z⟩, ⟨2, 0, x, z, Us.z⟩, ⟨3, z, 0, 0, Us.z⟩, ⟨2, 0, -2, 0, Us.z⟩, ⟨3, 0, 0, 0, Us.z⟩, ⟨1, 0, 0, 0, Us.z⟩, ⟨1, 0, 0, 0, Us.z⟩, ⟨4, 0, 0, 0, Us.z⟩, ⟨1, 0, 0, 8, Us.z⟩, ⟨0, x, 0, 0, ⟨z, 0, 0⟩⟩, ⟨0, 1, 0, 0, ⟨2, x, z⟩⟩, ⟨0, 2, 0, 0, ⟨1, 0, 0⟩⟩, ⟨9, 0, 0, 0, Us.z⟩, ⟨4, 0, 0, 0, Us.z⟩]
theorem exO_len (x z : Int) : (exO x z).length = 17 := rfl
def exP (x z : Int) : List (Nat × Value) := (List.range 17).map fun i => (i, .agg (OpA ((exO x z).getD i Us.o0)))
set_option maxRecDepth 100000 in
theorem exO_fill (x z : Int) : Instr.fill (fun i => some (i * 7, 7)) ((Array.range (17 * 7)).map ((Value.agg (OpA Us.o0)).cells[· % (Value.agg (OpA Us.o0)).cells.size]!)) (exP x z) = some (opc (exO x z)).toArray := by kernel_rfl
set_option maxRecDepth 100000 in
theorem ex_build {ops : Array Oper} {rest : List Oper} {a : Act} {w : World} {Q : Exit → Act → World → Prop} {D : Option Tmp} {T : TypeId} {ps : String} {af : Array Edge} (x z : Int) (parts : Array (Nat × Operand)) (hp : (parts.map fun (i, q) => (i, a.eval q)).toList = exP x z)
    (h : ∀ w', Hid (w'.heap[w.heap.size]? = some (.cells (opc (exO x z)).toArray 32 (0, 0))) → Hid (Below w.heap.size w w') → wpList Try.prog ops Q rest (a.put D (.slice (some ⟨w.heap.size, 0, none⟩) 17 17)) w') :
    wpList Try.prog ops Q ({ dst := D, op := .buildSlice 22 17 parts, type := T, pos := ps, after := af, guard := none } :: rest) a w :=
  wpList_plain rfl fun K hK => by
    obtain ⟨i, hi1, hi2, hi3, hi4⟩ := info_parts Try.infoOpz
    refine wp_buildSlice 22 32 17 parts rfl (opc (exO x z)).toArray i _ Try.underlying22 hi1 hi2 (by rw [hi3]; omega) (by rw [hi3]; omega) ?_ (hK _ _ (h _ (heap_alloc_new w _) ((Below.refl _ w).alloc (Nat.le_refl _) _)))
    rw [hi3, hp]
    exact exO_fill x z
end Go.Proofs.Ytnnalemboeccbaa

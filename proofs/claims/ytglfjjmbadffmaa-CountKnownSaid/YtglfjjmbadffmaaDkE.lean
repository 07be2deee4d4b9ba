/-
  Contract: settle.
-/
import Derived.Test.YtglfjjmbadffmaaDkC
namespace Go.Proofs.Ytglfjjmbadffmaa
open Go.RowKit

theorem Try.mapTy : Try.prog.underlying 52 = some (.map 3 65) := by kernel_rfl
/-- The same but for its draws. -/
structure SameW (w z : World) : Prop where
  os : z.os = w.os
  tape : z.tape = w.tape
  output : z.output = w.output
  heap : z.heap = w.heap
/-- 'delete(m, k)', whatever it leaves. -/
theorem wpList_del {P : Program} {w : World} {ops : Array Oper} {rest : List Oper} {o : Oper} {a : Act} {Q : Exit → Act → World → Prop} (hg : o.guard = none) (m x : Operand) (t k : TypeId) (hop : o.op = Op.call { callee := Callee.builtin Builtin.delete, args := #[m, x], argTypes := #[t, k] }) (b : Nat) (key : Value)
    (hm : a.eval m = .map (some b)) (hx : a.eval x = key) (y : World) (hrun : (Builtin.delete_ #[t, k] o.type #[.map (some b), key]).run P w = .ok (.tuple #[]) y) (hK : wpList P ops Q rest (a.put o.dst (.tuple #[])) y) : wpList P ops Q (o :: rest) a w := by
  refine wpList_plain hg fun K' hK' => ?_
  unfold Oper.wp
  simp [execOp, hop, resolve, invoke, builtin, hm, hx, hrun, Result.andThen]
  exact hK' _ _ hK
theorem chosen {α : Type} {p q : α → Prop} (h : ∃ y, p y ∧ q y) : q h.choose := h.choose_spec.2
section
variable {T : Nat → Prop} {d lb rb cb : Nat} {m : Dk.M}
set_option maxHeartbeats 1000000 in
set_option maxRecDepth 100000 in
theorem settle_gen (i n : Nat) (p : Option Addr) (k c : Nat) (hi : i < n) (w : World) (R : World → Prop) (c0 : w.cell? ⟨d, 0, none⟩ = some (.slice (some ⟨lb, 0, none⟩) n n)) (c1 : w.cell? ⟨d, 1, none⟩ = some (.map (some cb))) (hne : d ≠ lb)
    (A : Array Value) (hA : w.heap[lb]? = some (.cells A 65 (0, 0))) (hs : A.size = n)
    (hl : ∀ z, SameW w z → (Instr.lookup 52 (.map (some cb)) (.int .i64 (i : Int)) false).run Try.prog z = .ok (.slice p k c) z)
    (hH : ∀ z ty, SameW (w.setCell ⟨lb, i, none⟩ (.slice p k c)) z → ∃ y, (Builtin.delete_ #[52, 3] ty #[.map (some cb), .int .i64 (i : Int)]).run Try.prog z = .ok (.tuple #[]) y ∧ R y) :
    Calls Try.prog 38 #[.pointer (some ⟨d, 0, none⟩), .int .i64 (i : Int)] w fun e w' => e = .returned (.tuple #[]) ∧ R w' := by
  have h0 : (0 : Int) ≤ (i : Int) := by omega
  have h1 : (i : Int) < (n : Int) := by omega
  have hlk := hl w.drew ⟨rfl, rfl, rfl, rfl⟩
  have f0 := frozen_of_row w lb i _ _ hA
  have t0 : w.cell? ⟨lb, i, none⟩ = A[i]? := cell_of_row w lb i _ _ _ hA
  obtain ⟨a0, ha0⟩ : ∃ a0, A[i]? = some a0 := ⟨A[i]'(by omega), Array.getElem?_eq_getElem _⟩
  rw [ha0] at t0
  have HH := Lib.hid hH; clear hH hl
  have c1' : (w.setCell ⟨lb, i, none⟩ (.slice p k c)).cell? ⟨d, 1, none⟩ = some (.map (some cb)) := by rw [World.cell?_of_block (heap_setCell_other w ⟨lb, i, none⟩ d _ hne)]; exact c1
  have c0' : (w.setCell ⟨lb, i, none⟩ (.slice p k c)).cell? ⟨d, 0, none⟩ = some (.slice (some ⟨lb, 0, none⟩) n n) := by rw [World.cell?_of_block (heap_setCell_other w ⟨lb, i, none⟩ d _ hne)]; exact c0
  go_enter Try.func38, Try.ntmps38
  go_upto_region 0 with (fail)
  go_region_held3 (fun y => y.cell? ⟨d, 0, none⟩ = some (.slice (some ⟨lb, 0, none⟩) n n) ∧ y.cell? ⟨d, 1, none⟩ = some (.map (some cb)))
    (first | exact ⟨c0, c1⟩ | exact ⟨c0', c1'⟩)
    (fail)
  go_wp2_with (at_delete; refine wpList_del rfl _ _ _ _ rfl cb _ rfl rfl _ (HH.out _ _ (by exact ⟨rfl, rfl, rfl, rfl⟩)).choose_spec.1 ?_)
  go_end0
  exact ⟨rfl, chosen (q := R) _⟩
end
end Go.Proofs.Ytglfjjmbadffmaa

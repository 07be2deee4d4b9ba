/-
  Contracts: LentRecords, KeptRecords.
-/
import Derived.Test.YtpfghjnhoafcmaaRgL
namespace Go.Proofs.Ytpfghjnhoafcmaa
open Go.RowKit

section
variable {P : Program} {ops : Array Oper} {C : World → Prop} {Qa : Act → Prop} {rest : List Oper} {a : Act} {w : World} {Q : Exit → Act → World → Prop} {D : Option Tmp} {T : TypeId} {ps : String} {af : Array Edge} {gd : Option (Nat × Bool)}
theorem exec_b1 (t : TypeId) (x : Operand) (v : Value) (R : Array Value) (hx : a.eval x = v) (hr : P.built t [(0, v)] = some R) :
    (execOp a.eval { dst := D, op := .build t #[(0, x)], type := T, pos := ps, after := af, guard := gd }).run P w = .ok (.value (.agg R)) w := by
  have hrun := run_build (P := P) w t #[(0, v)] R hr
  unfold execOp
  simp only [hx, List.map_toArray, List.map_cons, List.map_nil, hrun, Sem.run_bind, Sem.run_pure, Result.andThen_ok]
theorem row_b1 (t : TypeId) (x : Operand) (v : Value) (R : Array Value) (hx : a.eval x = v) (hr : P.built t [(0, v)] = some R) (h : wpList P ops Q rest (a.put D (.agg R)) w) :
    wpList P ops Q ({ dst := D, op := .build t #[(0, x)], type := T, pos := ps, after := af, guard := none } :: rest) a w :=
  wpList_plain rfl fun K hK => by
    unfold Oper.wp
    rw [exec_b1 t x v R hx hr]
    exact hK _ _ h
theorem quiet_b1 (t : TypeId) (x : Operand) (v : Value) (R : Array Value) (hw : Region.wanted { dst := D, op := .build t #[(0, x)], type := T, pos := ps, after := af, guard := gd } (yielded ops a.tmps) = true) (hx : a.eval x = v) (hr : P.built t [(0, v)] = some R) (h : wpQuiet P ops C Qa rest (a.put D (.agg R))) :
    wpQuiet P ops C Qa ({ dst := D, op := .build t #[(0, x)], type := T, pos := ps, after := af, guard := gd } :: rest) a :=
  BigFrame.wpQuiet_want hw fun K hK => ⟨.agg R, fun w hC => by
    unfold Oper.quietAt
    rw [exec_b1 t x v R hx hr]
    simp only [Oper.quietUpon, and_self], hK _ h⟩
end
namespace Rg
def km : R := { zero with gen := -77 }
theorem km_ok : Ok km := { ok_zero with gen := ⟨by decide, by decide⟩ }
def k5 (L : List R) : List R := L ++ List.replicate 5 km
theorem k5_len (L : List R) : (k5 L).length = L.length + 5 := by unfold k5; simp
theorem k5_ok {L : List R} (h : ∀ x ∈ L, Rg.Ok x) : ∀ x ∈ k5 L, Rg.Ok x := ok_app h (ok_rep km_ok 5)
theorem k5_lo (L : List R) (i : Nat) (h : i < L.length) : (k5 L).getD i zero = L.getD i zero := by
  unfold k5
  rw [List.getD_eq_getElem?_getD, List.getD_eq_getElem?_getD, List.getElem?_append_left h]
theorem k5_hi (L : List R) (i : Nat) (h : L.length ≤ i) (h2 : i < L.length + 5) : (k5 L).getD i zero = km := by
  unfold k5
  rw [List.getD_eq_getElem?_getD, List.getElem?_append_right h, List.getElem?_replicate, if_pos (by omega)]
  rfl
/-- The first k, and noughts. -/
def fl (F : List R) (n k : Nat) : List R := F.take k ++ List.replicate (n - k) zero
theorem fl_zero (F : List R) (n : Nat) : fl F n 0 = List.replicate n zero := by unfold fl; rfl
theorem fl_all {F : List R} {n : Nat} (h : F.length = n) : fl F n n = F := by unfold fl; rw [Nat.sub_self, ← h, List.take_length]; simp
theorem fl_len {F : List R} {n k : Nat} (h : F.length = n) (hk : k ≤ n) : (fl F n k).length = n := by unfold fl; simp; omega
theorem fl_ok {F : List R} (h : ∀ x ∈ F, Rg.Ok x) (n k : Nat) : ∀ x ∈ fl F n k, Rg.Ok x := ok_app (fun x hx => h x (List.mem_of_mem_take hx)) (ok_rep ok_zero _)
theorem fl_step {F : List R} {n k : Nat} (h : F.length = n) (hk : k < n) : (fl F n k).set k (F.getD k zero) = fl F n (k + 1) := by
  unfold fl
  obtain ⟨m, rfl⟩ : ∃ m, n = k + 1 + m := ⟨n - (k + 1), by omega⟩
  rw [show k + 1 + m - k = m + 1 by omega, set_next (by rw [List.length_take]; omega), show k + 1 + m - (k + 1) = m by omega, List.take_add_one, List.getD_eq_getElem?_getD, List.getElem?_eq_getElem (by omega)]
  rfl
attribute [irreducible] k5 fl
end Rg
theorem built_km : Try.prog.built 40 [(0, .int .i64 (-77))] = some (RAr Rg.km) := by kernel_rfl
theorem rs_take {w : World} {p : Option Addr} {c : Nat} {L : List Rg.R} (h : Rs w p c L) (k : Nat) : Rs w p c (L.take k) :=
  ⟨fun x hx => h.ok x (List.mem_of_mem_take hx), fun h0 => by
    rw [List.length_take] at h0
    obtain ⟨ab, ao, h1, h2⟩ := h.at_ (by omega)
    refine ⟨ab, ao, h1, fun i hi => ?_⟩
    rw [List.length_take] at hi
    have e : (L.take k).getD i Rg.zero = L.getD i Rg.zero := by
      rw [List.getD_eq_getElem?_getD, List.getD_eq_getElem?_getD, List.getElem?_take, if_pos (by omega)]
    rw [e]
    exact h2 i (by omega), ⟨by rw [List.length_take]; have := h.cap; omega, h.cap.2⟩, h.nil⟩
def LentR (n : Nat) (L : List Rg.R) (w : World) (e : Ending) (w' : World) : Prop :=
  ∃ g, e = .returned (.slice (some ⟨g, 0, none⟩) (n + 5) (n + 5)) ∧ Hid (RsRow w' g (Rg.k5 L)) ∧ Hid (w.heap.size ≤ g) ∧ Hid (Below w.heap.size w w')
end Go.Proofs.Ytpfghjnhoafcmaa

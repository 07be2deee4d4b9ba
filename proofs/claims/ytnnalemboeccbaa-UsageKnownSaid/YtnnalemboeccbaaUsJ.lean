/-
  Calls in memory; contracts: does, works.
-/
import Derived.Test.YtnnalemboeccbaaUsI
namespace Go.Proofs.Ytnnalemboeccbaa
open Go.RowKit

def OpC (o : Us.O) : List Value := [.int .i64 o.k, .int .i64 o.g, .int .i64 o.n, .int .i64 o.w, .int .i64 o.x.s, .int .i64 o.x.l, .int .i64 o.x.a]
def OpA (o : Us.O) : Array Value := #[.int .i64 o.k, .int .i64 o.g, .int .i64 o.n, .int .i64 o.w, .int .i64 o.x.s, .int .i64 o.x.l, .int .i64 o.x.a]
theorem Try.sizeOp : (Try.prog.info? 32).map (·.size) = some 7 := by kernel_rfl
theorem op_info (o : Us.O) : (Try.prog.info? 32).map (·.size) = some (OpA o).size := Try.sizeOp
def Us.o0 : Us.O := ⟨0, 0, 0, 0, Us.z⟩
/-- Calls, as a slice sees them. -/
def OpS (y : World) (p : Option Addr) (L : List Us.O) : Prop := 0 < L.length → ∃ ab ao, p = some ⟨ab, ao, none⟩ ∧ ∀ i, i < L.length → y.rangeAt ab (ao + i * 7) (OpA (L.getD i Us.o0)).toList
theorem OpS.old {w y : World} {p : Option Addr} {L : List Us.O} (h : OpS w p L) (hb : Below w.heap.size w y) : OpS y p L := fun h0 => by
  obtain ⟨ab, ao, h1, h2⟩ := h h0
  exact ⟨ab, ao, h1, fun i hi => rng_old (h2 i hi) hb⟩
/-- The cells of a call's box. -/
theorem opa_cells {y : World} {g : Nat} {o : Us.O} (h : y.heap[g]? = some (.cells (OpA o) 32 (0, 0))) :
    y.cell? ⟨g, 0, none⟩ = some (.int .i64 o.k) ∧ y.cell? ⟨g, 1, none⟩ = some (.int .i64 o.g) ∧ y.cell? ⟨g, 2, none⟩ = some (.int .i64 o.n) ∧ y.cell? ⟨g, 3, none⟩ = some (.int .i64 o.w) := by
  refine ⟨?_, ?_, ?_, ?_⟩ <;> rw [cell_of_row y g _ _ _ _ h] <;> rfl
theorem opa_row {y : World} {g : Nat} {o : Us.O} (h : y.heap[g]? = some (.cells (OpA o) 32 (0, 0))) : y.rangeAt g 4 (SgA o.x).toList := fun j v hv => by
  rw [cell_of_row y g _ _ _ _ h]
  have hj : j < 3 := (List.getElem?_eq_some_iff.1 hv).1
  rcases j with _ | _ | _ | j
  · exact hv
  · exact hv
  · exact hv
  · omega
set_option maxHeartbeats 4000000 in
set_option maxRecDepth 100000 in
theorem does_any {x : World} {b : Nat} {v : Value} {T : List Us.S} (o : Us.O) (w : World) (h : Tp x w b v T) :
    Calls Try.prog 20 #[.pointer (some ⟨b, 0, none⟩), .agg (OpA o)] w (TpSay x b v (Us.dT T o) (.int .i64 (Us.dE T o)) w) := by
  obtain ⟨w1, hw1⟩ : ∃ y, y = w.alloc (.cells (OpA o) 32) := ⟨_, rfl⟩
  have G1 : Hid (w1.heap[w.heap.size]? = some (.cells (OpA o) 32 (0, 0))) := by rw [hw1]; exact heap_alloc_new w _
  have B1 : Hid (Below w.heap.size w w1) := by rw [hw1]; exact (Below.refl _ w).alloc (Nat.le_refl _) _
  have H1 : Hid (Tp x w1 b v T) := h.next B1.out
  have M1 : Hid (Tn v w w1) := Tn.of B1.out
  obtain ⟨c0, c1, c2, c3⟩ := opa_cells G1.out
  have R1 : Hid (w1.rangeAt w.heap.size 4 (SgA o.x).toList) := opa_row G1.out
  obtain ⟨K, g, n, q, r⟩ := o
  dsimp only at c0 c1 c2 c3 R1
  have e0 : K = 0 → Us.dE T ⟨K, g, n, q, r⟩ = Us.setE T g r ∧ Us.dT T ⟨K, g, n, q, r⟩ = Us.setT T g r := fun e => by subst e; exact ⟨rfl, rfl⟩
  have e1 : K = 1 → Us.dE T ⟨K, g, n, q, r⟩ = (if Us.takeB T then 0 else 9) ∧ Us.dT T ⟨K, g, n, q, r⟩ = Us.takeT T q := fun e => by subst e; exact ⟨rfl, rfl⟩
  have e2 : K = 2 → Us.dE T ⟨K, g, n, q, r⟩ = Us.addE T g n ∧ Us.dT T ⟨K, g, n, q, r⟩ = Us.addT T g n q := fun e => by subst e; exact ⟨rfl, rfl⟩
  have e3 : K = 3 → Us.dE T ⟨K, g, n, q, r⟩ = Us.pendE T g ∧ Us.dT T ⟨K, g, n, q, r⟩ = Us.pendT T g := fun e => by subst e; exact ⟨rfl, rfl⟩
  have e4 : K = 4 → Us.dE T ⟨K, g, n, q, r⟩ = 0 ∧ Us.dT T ⟨K, g, n, q, r⟩ = Us.relT T := fun e => by subst e; exact ⟨rfl, rfl⟩
  have e5 : (K ≠ 0 ∧ K ≠ 1 ∧ K ≠ 2 ∧ K ≠ 3 ∧ K ≠ 4) → Us.dE T ⟨K, g, n, q, r⟩ = 0 ∧ Us.dT T ⟨K, g, n, q, r⟩ = T := fun ⟨f0, f1, f2, f3, f4⟩ => by
    unfold Us.dE Us.dT
    dsimp only
    rw [if_neg f0, if_neg f1, if_neg f2, if_neg f3, if_neg f0, if_neg f1, if_neg f2, if_neg f3, if_neg f4]
    exact ⟨rfl, rfl⟩
  obtain ⟨X, hX⟩ : ∃ X, OpA ⟨K, g, n, q, r⟩ = X := ⟨_, rfl⟩
  rw [hX] at hw1 ⊢
  clear hX h
  by_cases k0 : K = 0
  · rw [(e0 k0).1, (e0 k0).2]
    have kk : (K == 0) = true := by simp [k0]
    clear e0 e1 e2 e3 e4 e5 k0
    go_enter Try.func20, Try.ntmps20
    go_upto_region 1 with (fail)
    rw [← hw1]
    clear hw1
    go_wp2_with (first
      | ((with_reducible refine rng_load _ _ _ _ _ _ ?_ R1.out Try.underlying30 ?_ (sg_info r) ?_); (exact rfl); (exact rfl))
      | (go_at_call 27; refine (tp_set g r H1.out).mono ?_; rintro e2 w2 ⟨rfl, H2, M2⟩))
    go_ret
    exact ⟨rfl, H2, Lib.hid (M1.out.trans M2.out)⟩
  by_cases k1 : K = 1
  · rw [(e1 k1).1, (e1 k1).2]
    have kk0 : (K == 0) = false := by simp [k0]
    have kk : (K == 1) = true := by simp [k1]
    clear e0 e1 e2 e3 e4 e5 k0 k1
    cases hb : Us.takeB T with
    | true =>
      have HT : Hid (Calls Try.prog 21 #[.pointer (some ⟨b, 0, none⟩), .int .i64 q] w1 (TpSay x b v (Us.takeT T q) (.tuple #[.int .i64 (Us.takeI T), .bool true]) w1)) := by
        have := tp_take q H1.out
        rw [hb] at this
        exact this
      go_enter Try.func20, Try.ntmps20
      go_upto_region 1 with (fail)
      rw [← hw1]
      clear hw1
      go_wp2_with (go_at_call 21; refine HT.out.mono ?_; rintro e2 w2 ⟨rfl, H2, M2⟩)
      go_ret
      exact ⟨rfl, H2, Lib.hid (M1.out.trans M2.out)⟩
    | false =>
      have HT : Hid (Calls Try.prog 21 #[.pointer (some ⟨b, 0, none⟩), .int .i64 q] w1 (TpSay x b v (Us.takeT T q) (.tuple #[.int .i64 (Us.takeI T), .bool false]) w1)) := by
        have := tp_take q H1.out
        rw [hb] at this
        exact this
      go_enter Try.func20, Try.ntmps20
      go_upto_region 1 with (fail)
      rw [← hw1]
      clear hw1
      go_wp2_with (go_at_call 21; refine HT.out.mono ?_; rintro e2 w2 ⟨rfl, H2, M2⟩)
      go_ret
      exact ⟨rfl, H2, Lib.hid (M1.out.trans M2.out)⟩
  by_cases k2 : K = 2
  · rw [(e2 k2).1, (e2 k2).2]
    have kk0 : (K == 0) = false := by simp [k0]
    have kk1 : (K == 1) = false := by simp [k1]
    have kk : (K == 2) = true := by simp [k2]
    clear e0 e1 e2 e3 e4 e5 k0 k1 k2
    go_enter Try.func20, Try.ntmps20
    go_upto_region 1 with (fail)
    rw [← hw1]
    clear hw1
    go_wp2_with (go_at_call 25; refine (tp_add g n q H1.out).mono ?_; rintro e2 w2 ⟨rfl, H2, M2⟩)
    go_ret
    exact ⟨rfl, H2, Lib.hid (M1.out.trans M2.out)⟩
  by_cases k3 : K = 3
  · rw [(e3 k3).1, (e3 k3).2]
    have kk0 : (K == 0) = false := by simp [k0]
    have kk1 : (K == 1) = false := by simp [k1]
    have kk2 : (K == 2) = false := by simp [k2]
    have kk : (K == 3) = true := by simp [k3]
    clear e0 e1 e2 e3 e4 e5 k0 k1 k2 k3
    go_enter Try.func20, Try.ntmps20
    go_upto_region 1 with (fail)
    rw [← hw1]
    clear hw1
    go_wp2_with (go_at_call 23; refine (tp_pend g H1.out).mono ?_; rintro e2 w2 ⟨rfl, H2, M2⟩)
    go_ret
    exact ⟨rfl, H2, Lib.hid (M1.out.trans M2.out)⟩
  have kk0 : (K == 0) = false := by simp [k0]
  have kk1 : (K == 1) = false := by simp [k1]
  have kk2 : (K == 2) = false := by simp [k2]
  have kk3 : (K == 3) = false := by simp [k3]
  by_cases k4 : K = 4
  · rw [(e4 k4).1, (e4 k4).2]
    have kk : (K == 4) = true := by simp [k4]
    clear e0 e1 e2 e3 e4 e5 k0 k1 k2 k3 k4
    go_enter Try.func20, Try.ntmps20
    go_upto_region 1 with (fail)
    rw [← hw1]
    clear hw1
    go_wp2_with (go_at_call 24; refine (tp_release H1.out).mono ?_; rintro e2 w2 ⟨rfl, H2, M2⟩)
    go_ret
    exact ⟨rfl, H2, Lib.hid (M1.out.trans M2.out)⟩
  · rw [(e5 ⟨k0, k1, k2, k3, k4⟩).1, (e5 ⟨k0, k1, k2, k3, k4⟩).2]
    have kk4 : (K == 4) = false := by simp [k4]
    clear e0 e1 e2 e3 e4 e5 k0 k1 k2 k3 k4
    go_enter Try.func20, Try.ntmps20
    go_upto_region 1 with (fail)
    rw [← hw1]
    clear hw1
    go_wp2
    go_ret
    exact ⟨rfl, H1, M1⟩
section
variable {P : Program} {ops : Array Oper} {rest : List Oper} {a : Act} {w : World} {Q : Exit → Act → World → Prop} {D : Option Tmp} {T : TypeId} {ps : String} {af : Array Edge} {gd : Option (Nat × Bool)}
theorem row_b2_g (t : TypeId) (i j : Nat) (x y : Operand) (v u : Value) (R : Array Value) (hw : Region.wanted { dst := D, op := .build t #[(i, x), (j, y)], type := T, pos := ps, after := af, guard := gd } (yielded ops a.tmps) = true) (hx : a.eval x = v) (hy : a.eval y = u) (hr : P.built t [(i, v), (j, u)] = some R) (h : wpList P ops Q rest (a.put D (.agg R)) w) :
    wpList P ops Q ({ dst := D, op := .build t #[(i, x), (j, y)], type := T, pos := ps, after := af, guard := gd } :: rest) a w :=
  BigFrame.wpList_want hw fun K hK => by
    unfold Oper.wp
    rw [exec_b2 t i j x y v u R hx hy hr]
    exact hK _ _ h
end
namespace Us
def a1 : List S := [⟨1, 0, 5⟩, z, z]
def a2 : List S := [⟨2, 0, 5⟩, ⟨1, 0, 7⟩, z]
def a3 : List S := [⟨2, 2, 9⟩, ⟨1, 0, 7⟩, z]
def a4 : List S := [⟨2, 0, 9⟩, ⟨1, 0, 7⟩, z]
def a5 : List S := [⟨3, 0, 9⟩, ⟨1, 0, 7⟩, z]
def a6 : List S := [z, ⟨1, 0, 7⟩, z]
theorem s1 : takeT (new 3) 5 = a1 ∧ takeI (new 3) = 0 ∧ takeB (new 3) = true := by decide
theorem s2 : takeT a1 7 = a2 ∧ takeI a1 = 1 ∧ takeB a1 = true := by decide
theorem s3 : addT a2 0 2 9 = a3 ∧ addE a2 0 2 = 0 := by decide
theorem s4 : pendT a3 0 = a3 ∧ pendE a3 0 = 16 := by decide
theorem s5 : addT a3 0 (-2) 11 = a4 ∧ addE a3 0 (-2) = 0 := by decide
theorem s6 : pendT a4 0 = a5 ∧ pendE a4 0 = 0 := by decide
theorem s7 : relT a5 = a6 ∧ (ix 3 a5).length = 1 ∧ (ix 0 a6).length = 2 ∧ a5.length = 3 ∧ at_ a5 0 = ⟨3, 0, 9⟩ := by decide
end Us
set_option maxHeartbeats 4000000 in
set_option maxRecDepth 100000 in
theorem works_any (w : World) : Calls Try.prog 8 #[] w (YesSay w) := by
  have K1 : Hid (∀ y b v, Tp w y b v (Us.new 3) → Calls Try.prog 21 #[.pointer (some ⟨b, 0, none⟩), .int .i64 5] y (TpSay w b v Us.a1 (.tuple #[.int .i64 0, .bool true]) y)) := fun y b v h => by
    have := tp_take 5 h; rw [Us.s1.1, Us.s1.2.1, Us.s1.2.2] at this; exact this
  have K2 : Hid (∀ y b v, Tp w y b v Us.a1 → Calls Try.prog 21 #[.pointer (some ⟨b, 0, none⟩), .int .i64 7] y (TpSay w b v Us.a2 (.tuple #[.int .i64 1, .bool true]) y)) := fun y b v h => by
    have := tp_take 7 h; rw [Us.s2.1, Us.s2.2.1, Us.s2.2.2] at this; exact this
  have K3 : Hid (∀ y b v, Tp w y b v Us.a2 → Calls Try.prog 25 #[.pointer (some ⟨b, 0, none⟩), .int .i64 0, .int .i64 2, .int .i64 9] y (TpSay w b v Us.a3 (.int .i64 0) y)) := fun y b v h => by
    have := tp_add 0 2 9 h; rw [Us.s3.1, Us.s3.2] at this; exact this
  have K4 : Hid (∀ y b v, Tp w y b v Us.a3 → Calls Try.prog 23 #[.pointer (some ⟨b, 0, none⟩), .int .i64 0] y (TpSay w b v Us.a3 (.int .i64 16) y)) := fun y b v h => by
    have := tp_pend 0 h; rw [Us.s4.1, Us.s4.2] at this; exact this
  have K5 : Hid (∀ y b v, Tp w y b v Us.a3 → Calls Try.prog 25 #[.pointer (some ⟨b, 0, none⟩), .int .i64 0, .int .i64 (-2), .int .i64 11] y (TpSay w b v Us.a4 (.int .i64 0) y)) := fun y b v h => by
    have := tp_add 0 (-2) 11 h; rw [Us.s5.1, Us.s5.2] at this; exact this
  have K6 : Hid (∀ y b v, Tp w y b v Us.a4 → Calls Try.prog 23 #[.pointer (some ⟨b, 0, none⟩), .int .i64 0] y (TpSay w b v Us.a5 (.int .i64 0) y)) := fun y b v h => by
    have := tp_pend 0 h; rw [Us.s6.1, Us.s6.2] at this; exact this
  have K7 : Hid (∀ y b v, Tp w y b v Us.a5 → Calls Try.prog 14 #[.pointer (some ⟨b, 0, none⟩)] y (SnSay w b v Us.a5 y)) := fun y b v h => tp_segs h
  have K8 : Hid (∀ y b v, Tp w y b v Us.a5 → Calls Try.prog 24 #[.pointer (some ⟨b, 0, none⟩)] y (TpSay w b v Us.a6 (.int .i64 1) y)) := fun y b v h => by
    have := tp_release h; rw [Us.s7.1, Us.s7.2.1] at this; exact this
  have K9 : Hid (∀ y b v, Tp w y b v Us.a6 → Calls Try.prog 18 #[.pointer (some ⟨b, 0, none⟩), .int .i64 0] y (TpSay w b v Us.a6 (.int .i64 2) y)) := fun y b v h => by
    have := tp_count 0 h; rw [Us.s7.2.2.1] at this; exact this
  have heq : ∀ y, (Op.equalIn 10000 30 (.agg (SgA ⟨3, 0, 9⟩)) (.agg (SgA ⟨3, 0, 9⟩))).run Try.prog y = .ok true y := fun y => by rw [seg_eq, decide_eq_true rfl]
  have hl5 := Us.s7.2.2.2.1
  have HA5 := Lib.hid Us.s7.2.2.2.2
  have HB5 : Hid (0 < Us.a5.length) := by show _ < _; rw [hl5]; omega
  unfold SnSay at K7
  rw [hl5] at K7
  generalize Us.a1 = A1 at *
  generalize Us.a2 = A2 at *
  generalize Us.a3 = A3 at *
  generalize Us.a4 = A4 at *
  generalize Us.a5 = A5 at *
  generalize Us.a6 = A6 at *
  clear hl5
  go_enter Try.func8, Try.ntmps8
  go_upto_region 9 with (first
    | (go_at_call 9; refine (tp_new 3 w w (Below.refl _ _)).mono ?_; rintro e0 w0 ⟨b, v, rfl, H0⟩)
    | (go_at_call 21; refine (K1.out _ _ _ H0.out).mono ?_; rintro e1 w1 ⟨rfl, H1, M1⟩; clear H0 M1)
    | (go_at_call 21; refine (K2.out _ _ _ H1.out).mono ?_; rintro e2 w2 ⟨rfl, H2, M2⟩; clear H1 M2)
    | (go_at_call 25; refine (K3.out _ _ _ H2.out).mono ?_; rintro e3 w3 ⟨rfl, H3, M3⟩; clear H2 M3)
    | (go_at_call 23; refine (K4.out _ _ _ H3.out).mono ?_; rintro e4 w4 ⟨rfl, H4, M4⟩; clear H3 M4)
    | (go_at_call 25; refine (K5.out _ _ _ H4.out).mono ?_; rintro e5 w5 ⟨rfl, H5, M5⟩; clear H4 M5)
    | (go_at_call 23; refine (K6.out _ _ _ H5.out).mono ?_; rintro e6 w6 ⟨rfl, H6, M6⟩; clear H5 M6)
    | (go_at_call 14; refine (K7.out _ _ _ H6.out).mono ?_; rintro e7 w7 ⟨p7, c7, rfl, H7, S7, _, _⟩))
  obtain ⟨g7, c7', hv7⟩ := S7.out.isb 0 HB5.out
  injection hv7 with hp7 q1 q2
  clear q1 q2
  subst hp7
  have R7 : Hid (w7.rangeAt g7 0 (SgA ⟨3, 0, 9⟩).toList) := by
    have := S7.out.rng 0 HB5.out
    rw [HA5.out, Nat.zero_mul] at this
    exact this
  have hbx := build_sga 3 9
  have HSX := Lib.hid (sg_info ⟨3, 0, 9⟩)
  generalize SgA ⟨3, 0, 9⟩ = X at *
  go_wp2_with (first
    | ((with_reducible refine rng_load_g _ _ _ _ _ _ ?_ ?_ R7.out Try.underlying30 ?_ HSX.out ?_); (exact rfl); (exact rfl); (exact rfl))
    | ((with_reducible refine row_b2_g _ _ _ _ _ _ _ _ ?_ ?_ ?_ hbx ?_); (exact rfl); (exact rfl); (exact rfl))
    | (go_at_call 24; refine (K8.out _ _ _ H7.out).mono ?_; rintro e8 w8 ⟨rfl, H8, M8⟩)
    | (go_at_call 18; refine (K9.out _ _ _ H8.out).mono ?_; rintro e9 w9 ⟨rfl, H9, M9⟩))
  go_ret
  exact ⟨rfl, H9.out.old⟩
end Go.Proofs.Ytnnalemboeccbaa

/-
  The reference's tree: contracts: dirty, there, Get, Node.
-/
import Derived.Test.YtfeemeddhhgigaaTrN
namespace Go.Proofs.Ytfeemeddhhgigaa
open Go.RowKit

theorem Try.zeroRef33 : (Try.prog.info? 33).map (fun i => (i.zero, i.size)) = some (some (.agg (cl Pg.zr).toArray), 33) := by kernel_rfl
/-- The zero ref, as the calls meet it: an opaque row. -/
structure ZfK (Z : Array Value) : Prop where
  size : Z.size = 33
  one : Z.all (·.oneCell') = true
  val : R33 Pg.zr = .agg Z
  built : Try.prog.built 33 [] = some Z
  zero : (Try.prog.info? 33).map (fun i => (i.zero, i.size)) = some (some (.agg Z), 33)
theorem zfk : ∃ Z, ZfK Z := ⟨(cl Pg.zr).toArray, by rw [List.size_toArray, cl_len Pg.ok_zr], all_oneCell_toArray (cl_one _), by unfold R33 cl; rfl, Try.builtRef, Try.zeroRef33⟩
theorem nn_ref {y : World} {q o : Nat} {x : Tr.Nn} (h : y.rangeAt q o (Tr.nnA x).toList) : y.cell? ⟨q, o + 1, none⟩ = some (.bool x.d) ∧ y.rangeAt q (o + 2) (cl x.r) := by
  refine ⟨h 1 _ rfl, fun j v hv => ?_⟩
  have h2 := h (2 + j) v (by show (Value.int .i64 (x.i : Int) :: Value.bool x.d :: cl x.r)[2 + j]? = _; rw [show 2 + j = j + 1 + 1 by omega, List.getElem?_cons_succ, List.getElem?_cons_succ]; exact hv)
  rw [show o + 2 + j = o + (2 + j) by omega]
  exact h2
theorem mp_ref {y : World} {q o : Nat} {x : Nat × Pg.Rf} (h : y.rangeAt q o (Tr.mpA x).toList) : y.cell? ⟨q, o, none⟩ = some (.int .i64 (x.1 : Int)) ∧ y.rangeAt q (o + 1) (cl x.2) := by
  refine ⟨h 0 _ rfl, fun j v hv => ?_⟩
  have h2 := h (1 + j) v (by show (Value.int .i64 (x.1 : Int) :: cl x.2)[1 + j]? = _; rw [show 1 + j = j + 1 by omega, List.getElem?_cons_succ]; exact hv)
  rw [show o + 1 + j = o + (1 + j) by omega]
  exact h2
def RbSay (r : Pg.Rf) (bb : Bool) (w : World) (e : Ending) (w' : World) : Prop := e = .returned (.tuple #[R33 r, .bool bb]) ∧ Hid (Below w.heap.size w w')
set_option maxHeartbeats 2000000 in
set_option maxRecDepth 100000 in
theorem get_any {K b : Nat} {vb vn : Value} {L : List Tr.Nn} {t : Tr.T} (N : Int) (w : World) (h : RT K w b vb vn L t) :
    Calls Try.prog 37 #[.pointer (some ⟨b, 0, none⟩), .int .i64 N] w (RbSay (Tr.getR t N) (Tr.getB t N) w) := by
  obtain ⟨Z, hk⟩ := zfk
  have HZS := Lib.hid hk.size
  have HZ1 := Lib.hid hk.one
  have HZV := Lib.hid hk.val
  have HBL := Lib.hid hk.built
  have hz := (zero_of_info hk.zero).1
  have hzn : ¬ Z = #[] := fun h => by have := HZS.out; rw [h] at this; simp at this
  have hsz := row_size Try.sizeRef33 HZS
  have R0 : Hid ((w.alloc (.cells Z 33)).heap[w.heap.size]? = some (.cells Z 33 (0, 0))) := heap_alloc_new w _
  have B0 : Hid (Below w.heap.size w (w.alloc (.cells Z 33))) := (Below.refl _ w).alloc (Nat.le_refl _) _
  obtain ⟨p, c, rfl⟩ := h.lenb
  have HT : Hid (∀ y, Below w.heap.size w y → RT K y b (.slice p (Tr.bl t).length c) vn L t) := fun y hy => h.old hy
  have HA : Hid (∀ y, Below w.heap.size w y → Calls Try.prog 57 #[.pointer (some ⟨b, 0, none⟩), .int .i64 N] y fun e w' => e = .returned (.int .i64 (Tr.atI t N)) ∧ Hid (Below y.heap.size y w')) := fun y hy => at_any N y (h.old hy)
  obtain ⟨w0, hw0⟩ : ∃ x, x = w.alloc (.cells Z 33) := ⟨_, rfl⟩
  rw [← hw0] at R0 B0
  rcases Tr.atI_cases t N with ⟨h1, h2⟩ | ⟨h1, i, hi, h2, h3⟩
  · have e1 : Tr.getR t N = Pg.zr := by unfold Tr.getR; rw [h1]; rfl
    rw [h1, e1]
    rw [h2] at HA
    unfold RbSay
    rw [HZV.out]
    clear h h1 h2 e1 hk
    go_enter Try.func37, Try.ntmps37
    go_wp2_with (first
      | (go_at_call 57; rw [← hw0]; clear hw0; refine (HA.out _ B0.out).mono ?_; rintro e1 w1 ⟨rfl, B1⟩; have BB := Lib.hid (B0.out.trans (B1.out.mono B0.out.size)); have R1 : Hid (w1.heap[w.heap.size]? = some (.cells Z 33 (0, 0))) := (B1.out.block _ (lt_of_block R0.out)).trans R0.out)
      | ((with_reducible refine row_build0 _ _ HBL.out ?_))
      | ((with_reducible refine row_store _ _ _ _ _ _ _ ?_ ?_ R1.out hsz ?_ HZ1.out ?_); (exact rfl); (exact rfl); (exact rfl); intro w9 G9 ch9))
    refine bodyPost_ret (results_ct rfl _ _ w.heap.size 33 Z (0, 0) _ rfl G9.out Try.underlying33 rfl hsz) rfl ⟨rfl, Lib.hid (ch9.below BB.out (Nat.le_refl _))⟩
  · have e1 : Tr.getR t N = t.b N.toNat := by unfold Tr.getR; rw [h1]; rfl
    obtain ⟨A, Z', eA, hA⟩ := rfk (h.ok.1 N.toNat)
    have HAS := Lib.hid hA.size
    have HA1 := Lib.hid hA.one
    have HM : Hid (∀ y, Below w.heap.size w y → ∃ q, p = some ⟨q, 0, none⟩ ∧ y.rangeAt q (i * 34 + 1) A.toList) := fun y hy => by
      obtain ⟨q, c', e, hr⟩ := (h.old hy).mp i hi
      injection e with e _ _
      rw [h3] at hr
      have e5 : A.toList = cl (t.b N.toNat) := by
        have e6 : R33 (t.b N.toNat) = .agg (cl (t.b N.toNat)).toArray := rfl
        rw [e6] at eA
        injection eA with eA
        rw [← eA]
      exact ⟨q, e, by rw [e5]; exact (mp_ref hr).2⟩
    rw [h1, e1]
    rw [h2] at HA
    unfold RbSay
    rw [eA]
    have hle := Tr.bl_le t
    have hi0 : 0 ≤ (i : Int) := by omega
    have hi1 : (i : Int) < ((Tr.bl t).length : Int) := by omega
    have hc0 := Lib.hid (fun y hy => (h.old (y := y) hy).c0)
    obtain ⟨n, hn⟩ : ∃ n, (Tr.bl t).length = n := ⟨_, rfl⟩
    rw [hn] at HT hi1 hle hc0
    obtain ⟨q, hp, _⟩ := HM.out w (Below.refl _ _)
    subst hp
    have hsA := row_size Try.sizeRef33 HAS
    clear h h1 h2 h3 e1 hk hA eA hn hi
    go_enter Try.func37, Try.ntmps37
    go_wp2_with (first
      | (go_at_call 57; rw [← hw0]; clear hw0; refine (HA.out _ B0.out).mono ?_; rintro e1 w1 ⟨rfl, B1⟩; have BB := Lib.hid (B0.out.trans (B1.out.mono B0.out.size)); have R1 : Hid (w1.heap[w.heap.size]? = some (.cells Z 33 (0, 0))) := (B1.out.block _ (lt_of_block R0.out)).trans R0.out; have d0 := hc0.out _ BB.out; have HR : Hid (w1.rangeAt q (i * 34 + 1) A.toList) := by (obtain ⟨q', e', hr⟩ := HM.out _ BB.out; cases e'; exact hr))
      | ((with_reducible refine rng_load _ _ _ _ _ _ ?_ HR.out Try.underlying33 ?_ hsA ?_); (exact rfl); (exact rfl))
      | ((with_reducible refine row_store _ _ _ _ _ _ _ ?_ ?_ R1.out hsA ?_ HA1.out ?_); (exact rfl); (exact rfl); (rw [HAS.out, HZS.out]); intro w9 G9 ch9))
    refine bodyPost_ret (results_ct rfl _ _ w.heap.size 33 A (0, 0) _ rfl G9.out Try.underlying33 rfl hsA) rfl ⟨rfl, Lib.hid (ch9.below BB.out (Nat.le_refl _))⟩
end Go.Proofs.Ytfeemeddhhgigaa

/-
  A counter in memory, the program's and the reference's; New, Value, Raise.
-/
import Derived.Test.YtglfjjmbadffmaaCoA
import Derived.Test.YtglfjjmbadffmaaDkX9
namespace Go.Proofs.Ytglfjjmbadffmaa
open Go.RowKit

set_option maxRecDepth 100000 in
theorem meth_spend (v : Value) (w : World) : (method 212 24 v "Spend").run Try.prog w = .ok (40, v) w := by kernel_rfl
namespace Cn
/-- May a counter at v be raised to that? -/
def ok (v q : Int) : Bool := decide (v < q) && decide (q ≤ 1152921504606846976)
def rE (m : Dk.M) (v q : Int) : Int := if ok v q then Dk.spendE m else 8
def rM (m : Dk.M) (v q : Int) : Dk.M := if ok v q then Dk.spend m else m
def rV (m : Dk.M) (v q : Int) : Int := if ok v q && !Dk.gone m then q else v
theorem rE_no {m : Dk.M} {v q : Int} (h : ok v q = false) : rE m v q = 8 ∧ rM m v q = m ∧ rV m v q = v := by
  unfold rE rM rV
  rw [h]
  exact ⟨rfl, rfl, rfl⟩
theorem rE_gone {m : Dk.M} {v q : Int} (h : ok v q = true) (hg : Dk.gone m = true) : rE m v q = 12 ∧ rM m v q = Dk.spend m ∧ rV m v q = v := by
  unfold rE rM rV Dk.spendE
  rw [h, hg]
  exact ⟨rfl, rfl, rfl⟩
theorem rE_done {m : Dk.M} {v q : Int} (h : ok v q = true) (hg : Dk.gone m = false) : rE m v q = 0 ∧ rM m v q = Dk.spend m ∧ rV m v q = q := by
  unfold rE rM rV Dk.spendE
  rw [h, hg]
  exact ⟨rfl, rfl, rfl⟩
end Cn
/-- The counter of the disk in block d lies in block c, and has v. -/
def CnAt (y : World) (c d : Nat) (v : Int) : Prop := y.heap[c]? = some (.cells #[.iface 24 (.pointer (some ⟨d, 0, none⟩)), .int .i64 v] 61 (0, 0))
/-- .. the reference's. -/
def RcAt (y : World) (c r : Nat) (v : Int) : Prop := y.heap[c]? = some (.cells #[.pointer (some ⟨r, 0, none⟩), .int .i64 v] 63 (0, 0))
section
variable {y z : World} {c d r : Nat} {v : Int}
theorem CnAt.keep (h : CnAt y c d v) (hk : z.heap[c]? = y.heap[c]?) : CnAt z c d v := hk.trans h
theorem RcAt.keep (h : RcAt y c r v) (hk : z.heap[c]? = y.heap[c]?) : RcAt z c r v := hk.trans h
theorem CnAt.lt (h : CnAt y c d v) : c < y.heap.size := by
  unfold CnAt at h
  exact (Array.getElem?_eq_some_iff.mp h).1
theorem RcAt.lt (h : RcAt y c r v) : c < y.heap.size := by
  unfold RcAt at h
  exact (Array.getElem?_eq_some_iff.mp h).1
theorem CnAt.mv {ks : List Nat} (h : CnAt y c d v) (hm : Mv ks y z) (hk : c ∉ ks) : CnAt z c d v := h.keep (hm.block c h.lt hk)
theorem RcAt.mv {ks : List Nat} (h : RcAt y c r v) (hm : Mv ks y z) (hk : c ∉ ks) : RcAt z c r v := h.keep (hm.block c h.lt hk)
theorem CnAt.old (h : CnAt y c d v) (hb : Below y.heap.size y z) : CnAt z c d v := h.keep (hb.block c h.lt)
theorem RcAt.old (h : RcAt y c r v) (hb : Below y.heap.size y z) : RcAt z c r v := h.keep (hb.block c h.lt)
theorem CnAt.cells (h : CnAt y c d v) : y.cell? ⟨c, 0, none⟩ = some (.iface 24 (.pointer (some ⟨d, 0, none⟩))) ∧ y.cell? ⟨c, 1, none⟩ = some (.int .i64 v) := by
  unfold CnAt at h
  constructor <;> rw [cell_of_row y c _ _ _ _ h] <;> rfl
theorem RcAt.cells (h : RcAt y c r v) : y.cell? ⟨c, 0, none⟩ = some (.pointer (some ⟨r, 0, none⟩)) ∧ y.cell? ⟨c, 1, none⟩ = some (.int .i64 v) := by
  unfold RcAt at h
  constructor <;> rw [cell_of_row y c _ _ _ _ h] <;> rfl
end
set_option maxRecDepth 100000 in
theorem value_any {c d : Nat} {v : Int} (w : World) (h : CnAt w c d v) : Calls Try.prog 15 #[.pointer (some ⟨c, 0, none⟩)] w fun e w' => e = .returned (.int .i64 v) ∧ w' = w := by
  obtain ⟨_, c1⟩ := h.cells
  clear h
  go_enter Try.func15, Try.ntmps15
  go_wp2
  go_ret
  exact ⟨rfl, rfl⟩
set_option maxRecDepth 100000 in
theorem rvalue_any {c r : Nat} {v : Int} (w : World) (h : RcAt w c r v) : Calls Try.prog 16 #[.pointer (some ⟨c, 0, none⟩)] w fun e w' => e = .returned (.int .i64 v) ∧ w' = w := by
  obtain ⟨_, c1⟩ := h.cells
  clear h
  go_enter Try.func16, Try.ntmps16
  go_wp2
  go_ret
  exact ⟨rfl, rfl⟩
set_option maxRecDepth 100000 in
theorem cnew_any (d : Nat) (w : World) : Calls Try.prog 12 #[.pointer (some ⟨d, 0, none⟩)] w fun e w' => e = .returned (.pointer (some ⟨w.heap.size, 0, none⟩)) ∧ Hid (CnAt w' w.heap.size d 0) ∧ Hid (Below w.heap.size w w') := by
  go_enter Try.func12, Try.ntmps12
  go_wp2
  go_ret
  exact ⟨rfl, Lib.hid (heap_alloc_new w _), Lib.hid ((Below.refl _ _).alloc (Nat.le_refl _) _)⟩
set_option maxRecDepth 100000 in
theorem rcnew_any (r : Nat) (w : World) : Calls Try.prog 13 #[.pointer (some ⟨r, 0, none⟩)] w fun e w' => e = .returned (.pointer (some ⟨w.heap.size, 0, none⟩)) ∧ Hid (RcAt w' w.heap.size r 0) ∧ Hid (Below w.heap.size w w') := by
  go_enter Try.func13, Try.ntmps13
  go_wp2
  go_ret
  exact ⟨rfl, Lib.hid (heap_alloc_new w _), Lib.hid ((Below.refl _ _).alloc (Nat.le_refl _) _)⟩
/-- What Raise says. -/
def RaiseSay (T : Nat → Prop) (d lb rb cb c : Nat) (m : Dk.M) (v q : Int) (w : World) (e : Ending) (w' : World) : Prop :=
  e = .returned (.int .i64 (Cn.rE m v q)) ∧ Hid (DkAt w' T d lb rb cb (Cn.rM m v q)) ∧ Hid (CnAt w' c d (Cn.rV m v q)) ∧ Hid (Mv [d, c] w w')
def RRaiseSay (U : Nat → Prop) (r qb c : Nat) (m : Dk.M) (v q : Int) (w : World) (e : Ending) (w' : World) : Prop :=
  e = .returned (.int .i64 (Cn.rE m v q)) ∧ Hid (RfAt w' U r qb (Cn.rM m v q)) ∧ Hid (RcAt w' c r (Cn.rV m v q)) ∧ Hid (Mv [r, c] w w')
theorem Mv.wide {ks ks' : List Nat} {w y : World} (h : Mv ks w y) (hk : ∀ k ∈ ks, k ∈ ks') : Mv ks' w y := ⟨h.os, h.tape, h.output, h.size, fun k h1 h2 => h.block k h1 (fun h3 => h2 (hk k h3))⟩
set_option maxHeartbeats 1000000 in
set_option maxRecDepth 100000 in
theorem raise_any {T : Nat → Prop} {d lb rb cb c : Nat} {m : Dk.M} {v : Int} (q : Int) (w : World) (hd : DkAt w T d lb rb cb m) (hc : CnAt w c d v) (ht : ¬ T c) :
    Calls Try.prog 23 #[.pointer (some ⟨c, 0, none⟩), .int .i64 q] w (RaiseSay T d lb rb cb c m v q w) := by
  have ms := meth_spend
  obtain ⟨c0, c1⟩ := hc.cells
  have hcd : c ≠ d := fun e => ht (e ▸ hd.lt.1)
  cases ho : Cn.ok v q with
  | false =>
    obtain ⟨e1, e2, e3⟩ := Cn.rE_no (m := m) ho
    unfold RaiseSay
    rw [e1, e2, e3]
    have HD := Lib.hid hd; have HC := Lib.hid hc; clear hd hc
    by_cases h0 : q ≤ v
    · go_enter Try.func23, Try.ntmps23
      go_wp2
      go_ret
      exact ⟨rfl, HD, HC, Lib.hid (Mv.refl _ _)⟩
    · have h1 : v < q := by omega
      have h2 : 1152921504606846976 < q := by
        unfold Cn.ok at ho
        simp at ho
        omega
      go_enter Try.func23, Try.ntmps23
      go_wp2
      go_ret
      exact ⟨rfl, HD, HC, Lib.hid (Mv.refl _ _)⟩
  | true =>
    have h12 : v < q ∧ q ≤ 1152921504606846976 := by
      unfold Cn.ok at ho
      simp at ho
      omega
    obtain ⟨h1, h2⟩ := h12
    cases hg : Dk.gone m with
    | true =>
      obtain ⟨e1, e2, e3⟩ := Cn.rE_gone (m := m) ho hg
      have es : Dk.spendE m = 12 := by unfold Dk.spendE; rw [hg]; rfl
      unfold RaiseSay
      rw [e1, e2, e3]
      have HD := Lib.hid hd; have HC := Lib.hid hc; clear hd hc
      go_enter Try.func23, Try.ntmps23
      go_wp2_with (go_at_call 40; refine (spend_any _ HD.out).mono ?_; rw [es]; rintro e1 w1 ⟨rfl, D1, hm1⟩; have M1 := Lib.hid hm1; clear hm1)
      go_ret
      exact ⟨rfl, D1, Lib.hid (HC.out.mv M1.out (by simpa using hcd)), Lib.hid (M1.out.wide (by simp))⟩
    | false =>
      obtain ⟨e1, e2, e3⟩ := Cn.rE_done (m := m) ho hg
      have es : Dk.spendE m = 0 := by unfold Dk.spendE; rw [hg]; rfl
      unfold RaiseSay
      rw [e1, e2, e3]
      have HD := Lib.hid hd; have HC := Lib.hid hc; clear hd hc
      go_enter Try.func23, Try.ntmps23
      go_wp2_with (go_at_call 40; refine (spend_any _ HD.out).mono ?_; rw [es]; rintro e1 w1 ⟨rfl, D1, hm1⟩; have M1 := Lib.hid hm1; clear hm1; have C1 := Lib.hid (HC.out.mv M1.out (by simpa using hcd)); have f1 := frozen_of_row w1 c 1 _ _ C1.out; have c1b := C1.out.cells.2)
      go_ret
      have HS : (w1.setCell ⟨c, 1, none⟩ (.int .i64 q)).heap[c]? = _ := heap_setCell_same w1 c 1 _ _ (.int .i64 q) C1.out
      exact ⟨rfl, Lib.hid (D1.out.mv (ks := [c]) ((Mv.refl _ _).setCell _ _ (by simp)) (fun k hk => by simp at hk; subst hk; exact ht)), Lib.hid HS, Lib.hid ((M1.out.wide (by simp)).setCell _ _ (by simp))⟩
set_option maxHeartbeats 1000000 in
set_option maxRecDepth 100000 in
theorem rraise_any {U : Nat → Prop} {r qb c : Nat} {m : Dk.M} {v : Int} (q : Int) (w : World) (hd : RfAt w U r qb m) (hc : RcAt w c r v) (ht : ¬ U c) :
    Calls Try.prog 30 #[.pointer (some ⟨c, 0, none⟩), .int .i64 q] w (RRaiseSay U r qb c m v q w) := by
  obtain ⟨c0, c1⟩ := hc.cells
  have hcd : c ≠ r := fun e => ht (e ▸ hd.lt.1)
  cases ho : Cn.ok v q with
  | false =>
    obtain ⟨e1, e2, e3⟩ := Cn.rE_no (m := m) ho
    unfold RRaiseSay
    rw [e1, e2, e3]
    have HD := Lib.hid hd; have HC := Lib.hid hc; clear hd hc
    by_cases h0 : q ≤ v
    · go_enter Try.func30, Try.ntmps30
      go_wp2
      go_ret
      exact ⟨rfl, HD, HC, Lib.hid (Mv.refl _ _)⟩
    · have h1 : v < q := by omega
      have h2 : 1152921504606846976 < q := by
        unfold Cn.ok at ho
        simp at ho
        omega
      go_enter Try.func30, Try.ntmps30
      go_wp2
      go_ret
      exact ⟨rfl, HD, HC, Lib.hid (Mv.refl _ _)⟩
  | true =>
    have h12 : v < q ∧ q ≤ 1152921504606846976 := by
      unfold Cn.ok at ho
      simp at ho
      omega
    obtain ⟨h1, h2⟩ := h12
    cases hg : Dk.gone m with
    | true =>
      obtain ⟨e1, e2, e3⟩ := Cn.rE_gone (m := m) ho hg
      have es : Dk.spendE m = 12 := by unfold Dk.spendE; rw [hg]; rfl
      unfold RRaiseSay
      rw [e1, e2, e3]
      have HD := Lib.hid hd; have HC := Lib.hid hc; clear hd hc
      go_enter Try.func30, Try.ntmps30
      go_wp2_with (go_at_call 42; refine (refspend_any _ HD.out).mono ?_; rw [es]; rintro e1 w1 ⟨rfl, D1, M1⟩)
      go_ret
      exact ⟨rfl, D1, Lib.hid (HC.out.mv M1.out (by simpa using hcd)), Lib.hid (M1.out.wide (by simp))⟩
    | false =>
      obtain ⟨e1, e2, e3⟩ := Cn.rE_done (m := m) ho hg
      have es : Dk.spendE m = 0 := by unfold Dk.spendE; rw [hg]; rfl
      unfold RRaiseSay
      rw [e1, e2, e3]
      have HD := Lib.hid hd; have HC := Lib.hid hc; clear hd hc
      go_enter Try.func30, Try.ntmps30
      go_wp2_with (go_at_call 42; refine (refspend_any _ HD.out).mono ?_; rw [es]; rintro e1 w1 ⟨rfl, D1, M1⟩; have C1 := Lib.hid (HC.out.mv M1.out (by simpa using hcd)); have f1 := frozen_of_row w1 c 1 _ _ C1.out; have c1b := C1.out.cells.2)
      go_ret
      have HS : (w1.setCell ⟨c, 1, none⟩ (.int .i64 q)).heap[c]? = _ := heap_setCell_same w1 c 1 _ _ (.int .i64 q) C1.out
      exact ⟨rfl, Lib.hid (D1.out.mv (ks := [c]) ((Mv.refl _ _).setCell _ _ (by simp)) (fun k hk => by simp at hk; subst hk; exact ht)), Lib.hid HS, Lib.hid ((M1.out.wide (by simp)).setCell _ _ (by simp))⟩
end Go.Proofs.Ytglfjjmbadffmaa

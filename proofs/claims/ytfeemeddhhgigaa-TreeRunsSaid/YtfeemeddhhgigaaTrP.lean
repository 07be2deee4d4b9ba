/-
  The reference's tree: contracts: dirty, Node, there.
-/
import Derived.Test.YtfeemeddhhgigaaTrO
namespace Go.Proofs.Ytfeemeddhhgigaa
open Go.RowKit

theorem RT.nnat {K b : Nat} {y : World} {p : Option Addr} {n c : Nat} {vb : Value} {L : List Tr.Nn} {t : Tr.T} (h : RT K y b vb (.slice p n c) L t) (i : Nat) (hi : i < L.length) : ∃ q, p = some ⟨q, 0, none⟩ ∧ y.cell? ⟨q, i * 35 + 1, none⟩ = some (.bool (L.getD i ⟨0, false, Pg.zr⟩).d) ∧ y.rangeAt q (i * 35 + 2) (cl (L.getD i ⟨0, false, Pg.zr⟩).r) := by
  obtain ⟨q, c', e, hr⟩ := h.nn i hi
  injection e with e _ _
  exact ⟨q, e, nn_ref hr⟩
set_option maxHeartbeats 2000000 in
set_option maxRecDepth 100000 in
theorem dirty1_any {K b : Nat} {vb vn : Value} {L : List Tr.Nn} {t : Tr.T} (N : Int) (w : World) (h : RT K w b vb vn L t) (hl : L.length ≤ 1000) (h9 : ∀ i, 9 ≤ i → t.n i = none) :
    Calls Try.prog 55 #[.pointer (some ⟨b, 0, none⟩), .int .i64 N] w fun e w' => e = .returned (.bool (decide (Tr.inN N) && Tr.dty (t.n N.toNat))) ∧ Hid (Below w.heap.size w w') := by
  obtain ⟨p, c, rfl⟩ := h.lenn
  have HA := Lib.hid (nidx_any N w h hl)
  have HC : Hid (∀ y, Below w.heap.size w y → y.cell? ⟨b, 1, none⟩ = some (.slice p L.length c)) := fun y hy => (h.old hy).c1
  rcases Tr.ndI_cases h.rep h9 N with ⟨h1, h2⟩ | ⟨h1, i, hi, h2, h3⟩
  · have e1 : (decide (Tr.inN N) && Tr.dty (t.n N.toNat)) = false := by
      rcases h1 with h1 | h1
      · rw [decide_eq_false (by unfold Tr.inN; omega), Bool.false_and]
      · rw [h1]; simp [Tr.dty]
    rw [e1]
    rw [h2] at HA
    clear h h1 h2 e1
    go_enter Try.func55, Try.ntmps55
    go_wp2_with (first
      | (go_at_call 56; refine HA.out.mono ?_; rintro e1 w1 ⟨rfl, B1⟩))
    go_ret
    exact ⟨rfl, B1⟩
  · have e1 : (decide (Tr.inN N) && Tr.dty (t.n N.toNat)) = (L.getD i ⟨0, false, Pg.zr⟩).d := by
      rw [decide_eq_true h1, h3, (Tr.nd_facts _).1, Bool.true_and]
    rw [e1]
    rw [h2] at HA
    have HM : Hid (∀ y, Below w.heap.size w y → ∃ q, p = some ⟨q, 0, none⟩ ∧ y.cell? ⟨q, i * 35 + 1, none⟩ = some (.bool (L.getD i ⟨0, false, Pg.zr⟩).d)) := fun y hy => by
      obtain ⟨q, e, e2, _⟩ := RT.nnat (h.old hy) i hi
      exact ⟨q, e, e2⟩
    generalize (L.getD i ⟨0, false, Pg.zr⟩).d = bd at *
    obtain ⟨n, hn⟩ : ∃ n, L.length = n := ⟨_, rfl⟩
    rw [hn] at HC hi hl
    have hi0 : 0 ≤ (i : Int) := by omega
    have hi1 : (i : Int) < (n : Int) := by omega
    obtain ⟨q, hp, _⟩ := HM.out w (Below.refl _ _)
    subst hp
    clear h h1 h2 h3 e1 hn
    go_enter Try.func55, Try.ntmps55
    go_wp2_with (first
      | (go_at_call 56; refine HA.out.mono ?_; rintro e1 w1 ⟨rfl, B1⟩; have d0 := HC.out _ B1.out; have d1 : w1.cell? ⟨q, i * 35 + 1, none⟩ = some (.bool bd) := (by obtain ⟨q', e', hr⟩ := HM.out _ B1.out; cases e'; exact hr)))
    go_ret
    exact ⟨rfl, B1⟩
set_option maxHeartbeats 2000000 in
set_option maxRecDepth 100000 in
theorem node_any {K b : Nat} {vb vn : Value} {L : List Tr.Nn} {t : Tr.T} (N : Int) (w : World) (h : RT K w b vb vn L t) (hl : L.length ≤ 1000) (h9 : ∀ i, 9 ≤ i → t.n i = none) :
    Calls Try.prog 35 #[.pointer (some ⟨b, 0, none⟩), .int .i64 N] w (RbSay (Tr.nodeR t N) (Tr.nodeB t N) w) := by
  obtain ⟨Z, hk⟩ := zfk
  have HZS := Lib.hid hk.size
  have HZ1 := Lib.hid hk.one
  have HZV := Lib.hid hk.val
  have HBL := Lib.hid hk.built
  have hz := (zero_of_info hk.zero).1
  have hzn : ¬ Z = #[] := fun h => by have := HZS.out; rw [h] at this; simp at this
  have hsz := row_size Try.sizeRef33 HZS
  have R0 : Hid ((w.alloc (.cells Z 33)).heap[w.heap.size]? = some (.cells Z 33 (0, 0))) := heap_alloc_new w _
  have B0 : Hid (Below w.heap.size w (w.alloc (.cells Z 33))) := (Below.refl _ w).alloc (Nat.le_refl _) _
  obtain ⟨p, c, rfl⟩ := h.lenn
  have HA : Hid (∀ y, Below w.heap.size w y → Calls Try.prog 56 #[.pointer (some ⟨b, 0, none⟩), .int .i64 N] y fun e w' => e = .returned (.int .i64 (Tr.ndI L N)) ∧ Hid (Below y.heap.size y w')) := fun y hy => nidx_any N y (h.old hy) hl
  have HC : Hid (∀ y, Below w.heap.size w y → y.cell? ⟨b, 1, none⟩ = some (.slice p L.length c)) := fun y hy => (h.old hy).c1
  obtain ⟨w0, hw0⟩ : ∃ x, x = w.alloc (.cells Z 33) := ⟨_, rfl⟩
  rw [← hw0] at R0 B0
  have no : Tr.nodeB t N = false → Tr.nodeR t N = Pg.zr := fun h => by unfold Tr.nodeR; rw [h]; rfl
  rcases Tr.ndI_cases h.rep h9 N with ⟨h1, h2⟩ | ⟨h1, i, hi, h2, h3⟩
  · have e1 : Tr.nodeB t N = false := by
      unfold Tr.nodeB
      rcases h1 with h1 | h1
      · rw [decide_eq_false (by unfold Tr.inN; omega), Bool.false_and]
      · rw [h1]; simp [Tr.cln]
    rw [no e1, e1]
    rw [h2] at HA
    unfold RbSay
    rw [HZV.out]
    clear h h1 h2 e1 hk no
    go_enter Try.func35, Try.ntmps35
    go_wp2_with (first
      | (go_at_call 56; rw [← hw0]; clear hw0; refine (HA.out _ B0.out).mono ?_; rintro e1 w1 ⟨rfl, B1⟩; have BB := Lib.hid (B0.out.trans (B1.out.mono B0.out.size)); have R1 : Hid (w1.heap[w.heap.size]? = some (.cells Z 33 (0, 0))) := (B1.out.block _ (lt_of_block R0.out)).trans R0.out)
      | ((with_reducible refine row_build0 _ _ HBL.out ?_))
      | ((with_reducible refine row_store _ _ _ _ _ _ _ ?_ ?_ R1.out hsz ?_ HZ1.out ?_); (exact rfl); (exact rfl); (exact rfl); intro w9 G9 ch9))
    refine bodyPost_ret (results_ct rfl _ _ w.heap.size 33 Z (0, 0) _ rfl G9.out Try.underlying33 rfl hsz) rfl ⟨rfl, Lib.hid (ch9.below BB.out (Nat.le_refl _))⟩
  · have hi0 : 0 ≤ (i : Int) := by omega
    have hnb : Tr.nodeB t N = !(L.getD i ⟨0, false, Pg.zr⟩).d := by unfold Tr.nodeB; rw [decide_eq_true h1, h3, (Tr.nd_facts _).2.1, Bool.true_and]
    have HM : Hid (∀ y, Below w.heap.size w y → ∃ q, p = some ⟨q, 0, none⟩ ∧ y.cell? ⟨q, i * 35 + 1, none⟩ = some (.bool (L.getD i ⟨0, false, Pg.zr⟩).d) ∧ y.rangeAt q (i * 35 + 2) (cl (L.getD i ⟨0, false, Pg.zr⟩).r)) := fun y hy => RT.nnat (h.old hy) i hi
    obtain ⟨q, hp, _⟩ := HM.out w (Below.refl _ _)
    subst hp
    rw [h2] at HA
    cases hd : (L.getD i ⟨0, false, Pg.zr⟩).d with
    | true =>
      rw [hd] at hnb HM
      rw [no hnb, hnb]
      unfold RbSay
      rw [HZV.out]
      obtain ⟨n, hn⟩ : ∃ n, L.length = n := ⟨_, rfl⟩
      rw [hn] at HC hi hl
      have hi1 : (i : Int) < (n : Int) := by omega
      clear h h1 h2 h3 hk no hnb hn hd
      go_enter Try.func35, Try.ntmps35
      go_wp2_with (first
        | (go_at_call 56; rw [← hw0]; clear hw0; refine (HA.out _ B0.out).mono ?_; rintro e1 w1 ⟨rfl, B1⟩; have BB := Lib.hid (B0.out.trans (B1.out.mono B0.out.size)); have R1 : Hid (w1.heap[w.heap.size]? = some (.cells Z 33 (0, 0))) := (B1.out.block _ (lt_of_block R0.out)).trans R0.out; have d0 := HC.out _ BB.out; have d1 : w1.cell? ⟨q, i * 35 + 1, none⟩ = some (.bool true) := (by obtain ⟨q', e', hr, _⟩ := HM.out _ BB.out; cases e'; exact hr))
        | ((with_reducible refine row_build0 _ _ HBL.out ?_))
        | ((with_reducible refine row_store _ _ _ _ _ _ _ ?_ ?_ R1.out hsz ?_ HZ1.out ?_); (exact rfl); (exact rfl); (exact rfl); intro w9 G9 ch9))
      refine bodyPost_ret (results_ct rfl _ _ w.heap.size 33 Z (0, 0) _ rfl G9.out Try.underlying33 rfl hsz) rfl ⟨rfl, Lib.hid (ch9.below BB.out (Nat.le_refl _))⟩
    | false =>
      rw [hd] at hnb
      have hx : t.n N.toNat = some (some (L.getD i ⟨0, false, Pg.zr⟩).r) := by
        rw [h3]
        unfold Tr.Nn.nd
        rw [hd]
        rfl
      have hr : Tr.nodeR t N = (L.getD i ⟨0, false, Pg.zr⟩).r := by unfold Tr.nodeR; rw [hnb, hx]; rfl
      obtain ⟨A, Z', eA, hA⟩ := rfk (h.ok.2 _ _ hx)
      have HAS := Lib.hid hA.size
      have HA1 := Lib.hid hA.one
      have e5 : A.toList = cl (L.getD i ⟨0, false, Pg.zr⟩).r := by
        have e6 : R33 (L.getD i ⟨0, false, Pg.zr⟩).r = .agg (cl (L.getD i ⟨0, false, Pg.zr⟩).r).toArray := rfl
        rw [e6] at eA
        injection eA with eA
        rw [← eA]
      rw [hd, ← e5] at HM
      rw [hr, hnb]
      unfold RbSay
      rw [eA]
      have hsA := row_size Try.sizeRef33 HAS
      obtain ⟨n, hn⟩ : ∃ n, L.length = n := ⟨_, rfl⟩
      rw [hn] at HC hi hl
      have hi1 : (i : Int) < (n : Int) := by omega
      clear h h1 h2 h3 hk no hnb hn hd hx hr hA eA e5
      go_enter Try.func35, Try.ntmps35
      go_wp2_with (first
        | (go_at_call 56; rw [← hw0]; clear hw0; refine (HA.out _ B0.out).mono ?_; rintro e1 w1 ⟨rfl, B1⟩; have BB := Lib.hid (B0.out.trans (B1.out.mono B0.out.size)); have R1 : Hid (w1.heap[w.heap.size]? = some (.cells Z 33 (0, 0))) := (B1.out.block _ (lt_of_block R0.out)).trans R0.out; have d0 := HC.out _ BB.out; have d1 : w1.cell? ⟨q, i * 35 + 1, none⟩ = some (.bool false) := (by obtain ⟨q', e', hr, _⟩ := HM.out _ BB.out; cases e'; exact hr); have HR : Hid (w1.rangeAt q (i * 35 + 2) A.toList) := (by obtain ⟨q', e', _, hr⟩ := HM.out _ BB.out; cases e'; exact hr))
        | ((with_reducible refine rng_load _ _ _ _ _ _ ?_ HR.out Try.underlying33 ?_ hsA ?_); (exact rfl); (exact rfl))
        | ((with_reducible refine row_store _ _ _ _ _ _ _ ?_ ?_ R1.out hsA ?_ HA1.out ?_); (exact rfl); (exact rfl); (rw [HAS.out, HZS.out]); intro w9 G9 ch9))
      refine bodyPost_ret (results_ct rfl _ _ w.heap.size 33 A (0, 0) _ rfl G9.out Try.underlying33 rfl hsA) rfl ⟨rfl, Lib.hid (ch9.below BB.out (Nat.le_refl _))⟩
end Go.Proofs.Ytfeemeddhhgigaa

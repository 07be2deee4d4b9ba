/-
  CountSpends walked.
-/
import Derived.Test.YtglfjjmbadffmaaCoC
import Derived.BigQuiet
import Derived.Deep.QuietTactic
namespace Go.Proofs.Ytglfjjmbadffmaa
open Go.RowKit

namespace Cn
/-- Behind k operations of N. -/
structure Inv (m : Dk.M) (N k : Nat) : Prop where
  left : m.left = (N : Int) - k
  le : k ≤ N
  down : m.down = true → k = N
theorem Inv.gone {m : Dk.M} {N k : Nat} (h : Inv m N k) : Dk.gone m = decide (N ≤ k) := by
  have h1 := h.left
  have h2 := h.le
  unfold Dk.gone
  by_cases e : N ≤ k
  · rw [decide_eq_true e, decide_eq_true (show m.left = 0 by omega)]
    simp
  · rw [decide_eq_false e, decide_eq_false (show ¬ m.left = 0 by omega)]
    cases hd : m.down with
    | false => rfl
    | true => have := h.down hd; omega
theorem Inv.no {m : Dk.M} {N k : Nat} (h : Inv m N k) (e : N ≤ k) : Inv (Dk.spend m) N k := by
  have hg : Dk.gone m = true := by rw [h.gone, decide_eq_true e]
  have es : Dk.spend m = { m with down := true } := by unfold Dk.spend; rw [if_pos hg]
  rw [es]
  exact ⟨h.left, h.le, fun _ => by have := h.le; omega⟩
theorem Inv.yes {m : Dk.M} {N k : Nat} (h : Inv m N k) (e : k < N) : Inv (Dk.spend m) N (k + 1) := by
  have hg : Dk.gone m = false := by rw [h.gone, decide_eq_false (by omega)]
  have hl := h.left
  have es : Dk.spend m = { m with left := m.left - 1 } := by
    have hp : 0 < m.left := by omega
    unfold Dk.spend
    rw [hg, if_pos hp]
    rfl
  rw [es]
  exact ⟨by show m.left - 1 = _; omega, by omega, fun hd => by have := h.down hd; omega⟩
theorem ok_yes {v q : Int} (h1 : v < q) (h2 : q ≤ 1152921504606846976) : ok v q = true := by unfold ok; simp [h1, h2]
theorem ok_no1 {v q : Int} (h1 : q ≤ v) : ok v q = false := by unfold ok; rw [decide_eq_false (by omega)]; rfl
theorem ok_no2 {v q : Int} (h2 : 1152921504606846976 < q) : ok v q = false := by unfold ok; rw [decide_eq_false (show ¬ q ≤ 1152921504606846976 by omega)]; simp
end Cn
theorem Cs.drewN {x y : World} {d c : Nat} {m : Dk.M} {v : Int} (h : Cs x y d c m v) (n : Nat) : Cs x (y.drewN n) d c m v := h.next (below_dn (Below.refl _ _) n)
theorem IAt.old {w y : World} {p : Option Addr} {L : List Int} (h : IAt w p L) (hb : Below w.heap.size w y) : IAt y p L := fun h0 => by
  obtain ⟨ab, ao, e, hf⟩ := h h0
  exact ⟨ab, ao, e, fun j hj => (hb.cell (World.block_lt_of_cell? _ _ (hf j hj))).trans (hf j hj)⟩
set_option maxHeartbeats 4000000 in
set_option maxRecDepth 100000 in
theorem spends_any (n : Int) (L : List Int) (tp : Option Addr) (cap : Nat) (w : World) (hl : IAt w tp L) :
    Calls Try.prog 8 #[.int .i64 n, .slice tp L.length cap] w (YesSay w) := by
  have HL : Hid (∀ y, Below w.heap.size w y → IAt y tp L) := fun y hy => hl.old hy
  clear hl
  by_cases hlen : 200 < L.length
  · have hlen' : (200 : Int) < (L.length : Int) := by omega
    go_enter Try.func8, Try.ntmps8
    go_wp2_with (go_at_call 9; refine (works_any _).mono ?_; rintro e1 w1 ⟨rfl, hb1⟩)
    go_ret
    exact ⟨rfl, hb1⟩
  · have hlen' : (L.length : Int) ≤ 200 := by omega
    have hlen2 : L.length ≤ 200 := by omega
    clear hlen
    obtain ⟨N, HN⟩ : ∃ N, Hid (pk n 200 = N) := ⟨_, rfl⟩
    have HNL : Hid (N < 200) := by show N < _; rw [← HN.out]; have := pk_lt n 200 (by omega); omega
    go_enter Try.func8, Try.ntmps8
    go_upto_region 9 with (first
      | (go_at_call 10; refine (sd_new 4 (by omega) (by omega) w _ (Below.refl _ _)).mono ?_; rintro e0 q0 ⟨d, rfl, H0⟩)
      | (go_at_call 12; refine (cs_new H0.out).mono ?_; rintro e1 q1 ⟨c, rfl, H1⟩; clear H0)
      | (go_at_call 29; refine (pick_at n 200 (by omega) (by omega) _).mono ?_; rw [HN.out]; rintro ep qp ⟨rfl, rfl⟩)
      | (go_at_call 25; refine (cs_arm (N : Int) (by have := HNL.out; unfold In64; omega) H1.out).mono ?_; rintro e2 q2 ⟨rfl, H2⟩; clear H1))
    go_loopw [8, 9, 10, 11] (fun v8 v9 _ _ wr => ∃ (i k : Nat) (m : Dk.M) (v : Int), i ≤ L.length ∧ k ≤ i ∧ v8 = .int .i64 k ∧ v9 = .int .i64 i ∧ Hid (Cn.Inv m N k) ∧ Hid (Cs w wr d c m v)) (fun _ v9 _ _ _ => L.length - (intOf v9).toNat)
    case atStart => exact ⟨0, 0, _, _, by omega, by omega, rfl, rfl, Lib.hid ⟨by show (N : Int) = _; omega, by omega, fun h => by cases h⟩, H2⟩
    case round =>
      obtain ⟨i, k, m, v, hi, hk, rfl, rfl, HI, HS⟩ := hrel
      by_cases hlt : i < L.length
      · obtain ⟨ab, ao, rfl, hcl⟩ := HL.out _ HS.out.old (by omega)
        have cl := hcl i hlt
        obtain ⟨x, hx⟩ : ∃ x, L.getD i 0 = x := ⟨_, rfl⟩
        rw [hx] at cl
        have HCL : Hid (∀ y, Below w.heap.size w y → y.cell? ⟨ab, ao + i, none⟩ = some (.int .i64 x)) := fun y hy => by
          obtain ⟨ab', ao', h1, h2⟩ := HL.out y hy (by omega)
          cases h1
          rw [h2 i hlt, hx]
        clear hcl hx
        have hi0 : (0 : Int) ≤ (i : Int) := by omega
        have hil : (i : Int) < (L.length : Int) := by omega
        by_cases h1 : v < x
        · by_cases h2 : x ≤ 1152921504606846976
          · have ho := Cn.ok_yes h1 h2
            by_cases hN : N ≤ k
            · have hN' : (N : Int) ≤ (k : Int) := by omega
              have hg : Dk.gone m = true := by rw [HI.out.gone, decide_eq_true hN]
              obtain ⟨r1, r2, r3⟩ := Cn.rE_gone (m := m) ho hg
              have KR : Hid (∀ y, Cs w y d c m v → Calls Try.prog 23 #[.pointer (some ⟨c, 0, none⟩), .int .i64 x] y (Say (.int .i64 12) fun z => Cs w z d c (Dk.spend m) v)) := fun y h => by
                have q := cs_raise x h
                rw [r1, r2, r3] at q
                exact q
              clear r1 r2 r3 hg ho
              go_upto_region 11 with (fail)
              go_quiet ((go_at_call 15; exact Calls.quiet_of_same (cs_value (HS.out.drewN _))))
              obtain ⟨y0, HY0⟩ : ∃ y, Hid (wr.drewN nq = y) := ⟨_, rfl⟩
              have HS0 := Lib.hid (HS.out.drewN nq)
              rw [HY0.out] at HS0 ⊢
              clear HY0 HS
              have cl0 := HCL.out _ HS0.out.old
              go_wp2_with (go_at_call 23; refine (KR.out _ HS0.out).mono ?_; rintro e3 w3 ⟨rfl, HS3⟩; clear HS0)
              exact ⟨⟨i + 1, k, _, _, by omega, by omega, rfl, by go_num, Lib.hid (HI.out.no hN), HS3⟩, by simp [intOf]; omega⟩
            · have hN' : (k : Int) < (N : Int) := by omega
              have hg : Dk.gone m = false := by rw [HI.out.gone, decide_eq_false hN]
              obtain ⟨r1, r2, r3⟩ := Cn.rE_done (m := m) ho hg
              have KR : Hid (∀ y, Cs w y d c m v → Calls Try.prog 23 #[.pointer (some ⟨c, 0, none⟩), .int .i64 x] y (Say (.int .i64 0) fun z => Cs w z d c (Dk.spend m) x)) := fun y h => by
                have q := cs_raise x h
                rw [r1, r2, r3] at q
                exact q
              clear r1 r2 r3 hg ho
              go_upto_region 11 with (fail)
              go_quiet ((go_at_call 15; exact Calls.quiet_of_same (cs_value (HS.out.drewN _))))
              obtain ⟨y0, HY0⟩ : ∃ y, Hid (wr.drewN nq = y) := ⟨_, rfl⟩
              have HS0 := Lib.hid (HS.out.drewN nq)
              rw [HY0.out] at HS0 ⊢
              clear HY0 HS
              have cl0 := HCL.out _ HS0.out.old
              go_wp2_with (go_at_call 23; refine (KR.out _ HS0.out).mono ?_; rintro e3 w3 ⟨rfl, HS3⟩; clear HS0)
              exact ⟨⟨i + 1, k + 1, _, _, by omega, by omega, by go_num, by go_num, Lib.hid (HI.out.yes (by omega)), HS3⟩, by simp [intOf]; omega⟩
          · have h2' : 1152921504606846976 < x := by omega
            have hd2 : decide (x ≤ 1152921504606846976) = false := decide_eq_false h2
            obtain ⟨r1, r2, r3⟩ := Cn.rE_no (m := m) (Cn.ok_no2 (v := v) h2')
            have KR : Hid (∀ y, Cs w y d c m v → Calls Try.prog 23 #[.pointer (some ⟨c, 0, none⟩), .int .i64 x] y (Say (.int .i64 8) fun z => Cs w z d c m v)) := fun y h => by
              have q := cs_raise x h
              rw [r1, r2, r3] at q
              exact q
            clear r1 r2 r3
            go_upto_region 11 with (fail)
            go_quiet ((go_at_call 15; exact Calls.quiet_of_same (cs_value (HS.out.drewN _))))
            obtain ⟨y0, HY0⟩ : ∃ y, Hid (wr.drewN nq = y) := ⟨_, rfl⟩
            have HS0 := Lib.hid (HS.out.drewN nq)
            rw [HY0.out] at HS0 ⊢
            clear HY0 HS
            have cl0 := HCL.out _ HS0.out.old
            go_wp2_with (go_at_call 23; refine (KR.out _ HS0.out).mono ?_; rintro e3 w3 ⟨rfl, HS3⟩; clear HS0)
            exact ⟨⟨i + 1, k, _, _, by omega, by omega, rfl, by go_num, HI, HS3⟩, by simp [intOf]; omega⟩
        · have h1' : x ≤ v := by omega
          have hd1 : decide (v < x) = false := decide_eq_false h1
          obtain ⟨r1, r2, r3⟩ := Cn.rE_no (m := m) (Cn.ok_no1 h1')
          have KR : Hid (∀ y, Cs w y d c m v → Calls Try.prog 23 #[.pointer (some ⟨c, 0, none⟩), .int .i64 x] y (Say (.int .i64 8) fun z => Cs w z d c m v)) := fun y h => by
            have q := cs_raise x h
            rw [r1, r2, r3] at q
            exact q
          clear r1 r2 r3
          go_upto_region 11 with (fail)
          go_quiet ((go_at_call 15; exact Calls.quiet_of_same (cs_value (HS.out.drewN _))))
          obtain ⟨y0, HY0⟩ : ∃ y, Hid (wr.drewN nq = y) := ⟨_, rfl⟩
          have HS0 := Lib.hid (HS.out.drewN nq)
          rw [HY0.out] at HS0 ⊢
          clear HY0 HS
          have cl0 := HCL.out _ HS0.out.old
          go_wp2_with (go_at_call 23; refine (KR.out _ HS0.out).mono ?_; rintro e3 w3 ⟨rfl, HS3⟩; clear HS0)
          exact ⟨⟨i + 1, k, _, _, by omega, by omega, rfl, by go_num, HI, HS3⟩, by simp [intOf]; omega⟩
      · have hge : (L.length : Int) ≤ (i : Int) := by omega
        have hkn : (k : Int) ≤ (N : Int) := by have := HI.out.le; omega
        go_wp2_with (go_at_call 9; refine (works_any _).mono ?_; rintro e9 w9 ⟨rfl, hb9⟩)
        go_ret
        exact ⟨rfl, HS.out.old.trans (hb9.mono HS.out.old.size)⟩
end Go.Proofs.Ytglfjjmbadffmaa

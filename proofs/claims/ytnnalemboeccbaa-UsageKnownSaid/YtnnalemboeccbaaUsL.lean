/-
  UsageOne walked.
-/
import Derived.Test.YtnnalemboeccbaaUsJ
namespace Go.Proofs.Ytnnalemboeccbaa
open Go.RowKit

namespace Us
theorem ixn_parts {T : List S} (h : ∀ i, i < T.length → 0 ≤ (at_ T i).s ∧ (at_ T i).s ≤ 3) : ∀ m, m ≤ T.length → (ixn 0 T m).length + (ixn 1 T m).length + (ixn 2 T m).length + (ixn 3 T m).length = m
  | 0, _ => rfl
  | m + 1, hm => by
    have ih := ixn_parts h m (by omega)
    have hk := h m (by omega)
    have key : (at_ T m).s = 0 ∨ (at_ T m).s = 1 ∨ (at_ T m).s = 2 ∨ (at_ T m).s = 3 := by omega
    rcases key with e | e | e | e
    · rw [ixn_yes e, ixn_no (k := 1) (by omega), ixn_no (k := 2) (by omega), ixn_no (k := 3) (by omega), List.length_append]
      show _ + 1 + _ + _ + _ = _
      omega
    · rw [ixn_yes e, ixn_no (k := 0) (by omega), ixn_no (k := 2) (by omega), ixn_no (k := 3) (by omega), List.length_append]
      show _ + (_ + 1) + _ + _ = _
      omega
    · rw [ixn_yes e, ixn_no (k := 1) (by omega), ixn_no (k := 0) (by omega), ixn_no (k := 3) (by omega), List.length_append]
      show _ + _ + (_ + 1) + _ = _
      omega
    · rw [ixn_yes e, ixn_no (k := 1) (by omega), ixn_no (k := 2) (by omega), ixn_no (k := 0) (by omega), List.length_append]
      show _ + _ + _ + (_ + 1) = _
      omega
theorem ix_parts {T : List S} (h : Inv T) : (ix 0 T).length + (ix 1 T).length + (ix 2 T).length + (ix 3 T).length = T.length := ixn_parts (fun i hi => (h.ok i hi).1) _ (Nat.le_refl _)
theorem ix_one {T : List S} (h : Inv T) : ((ix 1 T).length = 0 ∧ open_ T = -1) ∨ ((ix 1 T).length = 1 ∧ 0 ≤ open_ T) := by
  cases q : ix 1 T with
  | nil =>
    refine Or.inl ⟨rfl, ?_⟩
    unfold open_ fx
    rw [q]
    rfl
  | cons i r =>
    refine Or.inr ⟨?_, ?_⟩
    · cases r with
      | nil => rfl
      | cons j r =>
        have h1 : i ∈ ix 1 T := by rw [q]; simp
        have h2 : j ∈ ix 1 T := by rw [q]; simp
        have h3 := h.one i j (mem_ix.1 h1).1 (mem_ix.1 h2).1 (mem_ix.1 h1).2 (mem_ix.1 h2).2
        have hn : (ix 1 T).Nodup := by unfold ix ixn; exact List.Pairwise.filter _ List.nodup_range
        rw [q, h3] at hn
        simp at hn
    · unfold open_ fx
      rw [q]
      show (0 : Int) ≤ (i : Int)
      omega
theorem new_ix (n : Int) : (ix 0 (new n)).length = (new n).length := by
  have h := ix_parts (new_inv n)
  have key : ∀ k : Int, k ≠ 0 → (ix k (new n)).length = 0 := fun k hk => by
    have : ix k (new n) = [] := by
      apply List.eq_nil_iff_forall_not_mem.2
      intro j hj
      have := (mem_ix.1 hj).2
      unfold new at this
      rw [at_rep] at this
      exact hk this.symm
    rw [this]; rfl
  rw [key 1 (by omega), key 2 (by omega), key 3 (by omega)] at h
  omega
end Us
theorem yes_of {w y z : World} (hb : Below w.heap.size w y) (h : YesSay y (.returned (.bool true)) z) : YesSay w (.returned (.bool true)) z := ⟨rfl, hb.trans (h.2.mono hb.size)⟩
set_option maxHeartbeats 8000000 in
set_option maxRecDepth 100000 in
theorem one_any (n : Int) (L : List Us.O) (p : Option Addr) (m c : Nat) (hm : L.length = m) (w : World) (hp : OpS w p L) : Calls Try.prog 4 #[.int .i64 n, .slice p m c] w (YesSay w) := by
  have HW : Hid (∀ y, Calls Try.prog 8 #[] y (YesSay y)) := fun y => works_any y
  have HP : Hid (∀ y, Below w.heap.size w y → OpS y p L) := fun y hy => hp.old hy
  have HM := Lib.hid hm
  clear hp hm
  by_cases h300 : 300 < m
  · have h300' : (m : Int) > 300 := by omega
    clear h300
    go_enter Try.func4, Try.ntmps4
    go_wp2_with (go_at_call 8; refine (HW.out _).mono ?_; rintro e1 w1 ⟨rfl, hb1⟩)
    go_ret
    exact ⟨rfl, hb1⟩
  have h300' : ¬ (m : Int) > 300 := by omega
  have hc := Us.cut_le n 32 (by omega)
  obtain ⟨l, hl⟩ : ∃ l : Nat, (Us.new n).length = l := ⟨_, rfl⟩
  have HL := Lib.hid hl
  have HL2 : Hid ((l : Int) = Us.cut n 32) := by show _ = _; rw [← hl, Us.new_len]; omega
  have HCN : Hid (∀ y b v, Tp w y b v (Us.new n) → Calls Try.prog 18 #[.pointer (some ⟨b, 0, none⟩), .int .i64 0] y (TpSay w b v (Us.new n) (.int .i64 (l : Int)) y)) := fun y b v h => by
    have := tp_count 0 h
    rw [Us.new_ix, hl] at this
    exact this
  have HSN : Hid (∀ y b v, Tp w y b v (Us.new n) → Calls Try.prog 14 #[.pointer (some ⟨b, 0, none⟩)] y (SnSay w b v (Us.new n) y)) := fun y b v h => tp_segs h
  unfold SnSay at HSN
  rw [hl] at HSN
  clear hl h300 hc
  go_enter Try.func4, Try.ntmps4
  go_upto_region 5 with (first
    | (go_at_call 9; refine (tp_new n w w (Below.refl _ _)).mono ?_; rintro e0 w0 ⟨b, v, rfl, H0⟩)
    | (go_at_call 14; refine (HSN.out _ _ _ H0.out).mono ?_; rintro e1 w1 ⟨p1, c1, rfl, H1, _, _, _⟩; clear H0))
  go_cut [31] from 21 to 31 (fun v31 y => v31 = .bool false ∧ Hid (Tp w y b v (Us.new n)))
  case first =>
    as_aux_lemma =>
      by_cases h0 : n < 0
      · have e : Us.cut n 32 = 0 := by unfold Us.cut; rw [if_pos h0]
        obtain rfl : l = 0 := by have := HL2.out; omega
        clear e HL2
        go_wp2_with (go_at_call 18; refine (HCN.out _ _ _ H1.out).mono ?_; rintro e2 w2 ⟨rfl, H2, _⟩)
        all_goals first | (exfalso; split at * <;> omega) | (go_meet; case rel => exact ⟨rfl, H2⟩)
      · by_cases h1 : 32 < n
        · have e : Us.cut n 32 = 32 := by unfold Us.cut; rw [if_neg h0, if_pos h1]
          obtain rfl : l = 32 := by have := HL2.out; omega
          clear e HL2
          go_wp2_with (go_at_call 18; refine (HCN.out _ _ _ H1.out).mono ?_; rintro e2 w2 ⟨rfl, H2, _⟩)
          all_goals first | (exfalso; split at * <;> omega) | (go_meet; case rel => exact ⟨rfl, H2⟩)
        · have e : Us.cut n 32 = n := by unfold Us.cut; rw [if_neg h0, if_neg h1]
          obtain rfl : n = (l : Int) := by have := HL2.out; omega
          clear e HL2
          go_wp2_with (go_at_call 18; refine (HCN.out _ _ _ H1.out).mono ?_; rintro e2 w2 ⟨rfl, H2, _⟩)
          all_goals first | (exfalso; split at * <;> omega) | (go_meet; case rel => exact ⟨rfl, H2⟩)
  case rest =>
    obtain ⟨rfl, H3⟩ := hcut
    have HL32 : Hid (l ≤ 32) := by have := (Us.new_inv n).len; show _ ≤ _; rw [← HL.out]; exact this
    clear HL2 HCN HSN
    go_wp2
    go_loopw [7, 8, 9, 10, 11] (fun v7 _ _ _ _ wr => ∃ (i : Nat) (T : List Us.S), i ≤ m ∧ v7 = .int .i64 i ∧ Hid (T.length = l) ∧ Hid (Tp w wr b v T)) (fun v7 _ _ _ _ _ => m - (intOf v7).toNat)
    case atStart => exact ⟨0, _, Nat.zero_le _, rfl, HL.out, H3⟩
    case round =>
      as_aux_lemma =>
        obtain ⟨i, T, hi, rfl, HT, HS⟩ := hrel
        by_cases hlt : i < m
        · obtain ⟨o, ho⟩ : ∃ o, L.getD i Us.o0 = o := ⟨_, rfl⟩
          obtain ⟨ab, ao, rfl, hcl⟩ := HP.out _ HS.out.old (by rw [HM.out]; omega)
          have HR : Hid (∀ y, Below w.heap.size w y → y.rangeAt ab (ao + i * 7) (OpA o).toList) := fun y hy => by
            obtain ⟨ab', ao', h1, h2⟩ := HP.out y hy (by rw [HM.out]; omega)
            cases h1
            have := h2 i (by rw [HM.out]; exact hlt)
            rw [ho] at this
            exact this
          clear hcl ho
          have hi0 : (0 : Int) ≤ (i : Int) := by omega
          have hil : (i : Int) < (m : Int) := by omega
          have HSN : Hid (∀ y, Tp w y b v T → Calls Try.prog 14 #[.pointer (some ⟨b, 0, none⟩)] y (SnSay w b v T y)) := fun y h => tp_segs h
          have HDO : Hid (∀ y, Tp w y b v T → Calls Try.prog 20 #[.pointer (some ⟨b, 0, none⟩), .agg (OpA o)] y (TpSay w b v (Us.dT T o) (.int .i64 (Us.dE T o)) y)) := fun y h => does_any o y h
          have hT2 : (Us.dT T o).length = l := by rw [Us.dT_len]; exact HT.out
          have HSN2 : Hid (∀ y, Tp w y b v (Us.dT T o) → Calls Try.prog 14 #[.pointer (some ⟨b, 0, none⟩)] y (SnSay w b v (Us.dT T o) y)) := fun y h => tp_segs h
          have HEQ : Hid (Us.dE T o ≠ 0 → Us.dT T o = T) := Us.dT_same
          have HI2 : Hid (Us.Inv (Us.dT T o)) := HS.out.inv.does o
          have HOI := Lib.hid (op_info o)
          obtain ⟨E, hE⟩ : ∃ E, Us.dE T o = E := ⟨_, rfl⟩
          obtain ⟨U, hU⟩ : ∃ U, Us.dT T o = U := ⟨_, rfl⟩
          rw [hE, hU] at HDO HEQ
          rw [hU] at hT2 HSN2 HI2
          clear hE hU
          have HU := Lib.hid hT2
          unfold SnSay at HSN HSN2
          rw [HT.out] at HSN
          rw [hT2] at HSN2
          clear hT2
          generalize OpA o = X at *
          go_upto_region 13 with (first
            | (go_at_call 14; refine (HSN.out _ HS.out).mono ?_; rintro e4 w4 ⟨p4, c4, rfl, H4, S4, A4, _⟩)
            | ((with_reducible refine rng_load _ _ _ _ _ _ ?_ (HR.out _ H4.out.old) Try.underlying32 ?_ HOI.out ?_); (exact rfl); (exact rfl))
            | (go_at_call 20; refine (HDO.out _ H4.out).mono ?_; rintro e5 w5 ⟨rfl, H5, M5⟩)
            | (go_at_call 14; refine (HSN2.out _ H5.out).mono ?_; rintro e6 w6 ⟨p6, c6, rfl, H6, S6, A6, M6⟩))
          have S46 : Hid (SgO wr.heap.size w6 (.slice p4 l c4) T) := (S4.out.tn M5.out A4.out).tn M6.out A4.out
          clear S4 A4 M5 M6 H4 H5 HR HDO HSN HSN2 HOI
          go_cut [69] from 48 to 69 (fun v69 y => v69 = .bool false ∧ Hid (Tp w y b v U) ∧ Hid (Tn v w6 y))
          case first =>
            as_aux_lemma =>
              have HSA : Hid (E ≠ 0 → Calls Try.prog 15 #[.slice p4 l c4, .slice p6 l c6] w6 (BoSay true w6)) := fun hE => by
                have := sames_any T U _ _ p4 p6 l l c4 c6 HT.out HU.out (by have := HL32.out; omega) w6 S46.out S6.out
                rw [decide_eq_true (HEQ.out hE).symm] at this
                exact this
              have HC : Hid (∀ y, Tp w y b v U → Calls Try.prog 18 #[.pointer (some ⟨b, 0, none⟩), .int .i64 1] y (TpSay w b v U (.int .i64 ((Us.ix 1 U).length : Int)) y)) := fun y h => tp_count 1 h
              have HO : Hid (∀ y, Tp w y b v U → Calls Try.prog 12 #[.pointer (some ⟨b, 0, none⟩)] y (TpSay w b v U (.int .i64 (Us.open_ U)) y)) := fun y h => tp_open h
              have hone := Us.ix_one HI2.out
              clear HI2 HU HT HEQ
              generalize (Us.ix 1 U).length = c1 at *
              generalize Us.open_ U = q at *
              by_cases hE : E = 0
              · have hE' : (E != 0) = false := by simp [hE]
                clear hE HSA
                rcases hone with ⟨rfl, rfl⟩ | ⟨rfl, hq⟩
                · skip
                  go_wp2_with (first
                    | (go_at_call 18; first | (refine (HC.out _ H6.out).mono ?_; rintro e7 w7 ⟨rfl, H7, M7⟩; clear H6) | (refine (HC.out _ H8.out).mono ?_; rintro e9 w9 ⟨rfl, H9, M9⟩))
                    | (go_at_call 12; refine (HO.out _ H7.out).mono ?_; rintro e8 w8 ⟨rfl, H8, M8⟩))
                  go_meet
                  case rel => exact ⟨rfl, H9, Lib.hid (M7.out.trans (M8.out.trans M9.out))⟩
                · have hqd : decide (q < 0) = false := decide_eq_false (by omega)
                  go_wp2_with (first
                    | (go_at_call 18; first | (refine (HC.out _ H6.out).mono ?_; rintro e7 w7 ⟨rfl, H7, M7⟩; clear H6) | (refine (HC.out _ H8.out).mono ?_; rintro e9 w9 ⟨rfl, H9, M9⟩))
                    | (go_at_call 12; refine (HO.out _ H7.out).mono ?_; rintro e8 w8 ⟨rfl, H8, M8⟩))
                  go_meet
                  case rel => exact ⟨rfl, H9, Lib.hid (M7.out.trans (M8.out.trans M9.out))⟩
              · have hE' : (E != 0) = true := by simp [hE]
                have HSA := Lib.hid (HSA.out hE)
                have HSA := HSA.out
                have H6' := H6
                clear hE H6
                rcases hone with ⟨rfl, rfl⟩ | ⟨rfl, hq⟩
                · skip
                  go_wp2_with (first
                    | (go_at_call 15; refine HSA.mono ?_; rintro e6 w6' ⟨rfl, hb6⟩; have H6 := Lib.hid (H6'.out.next hb6); have M6 := Lib.hid hb6; clear H6')
                    | (go_at_call 18; first | (refine (HC.out _ H6.out).mono ?_; rintro e7 w7 ⟨rfl, H7, M7⟩; clear H6) | (refine (HC.out _ H8.out).mono ?_; rintro e9 w9 ⟨rfl, H9, M9⟩))
                    | (go_at_call 12; refine (HO.out _ H7.out).mono ?_; rintro e8 w8 ⟨rfl, H8, M8⟩))
                  go_meet
                  case rel => exact ⟨rfl, H9, Lib.hid ((Tn.of M6.out).trans (M7.out.trans (M8.out.trans M9.out)))⟩
                · have hqd : decide (q < 0) = false := decide_eq_false (by omega)
                  go_wp2_with (first
                    | (go_at_call 15; refine HSA.mono ?_; rintro e6 w6' ⟨rfl, hb6⟩; have H6 := Lib.hid (H6'.out.next hb6); have M6 := Lib.hid hb6; clear H6')
                    | (go_at_call 18; first | (refine (HC.out _ H6.out).mono ?_; rintro e7 w7 ⟨rfl, H7, M7⟩; clear H6) | (refine (HC.out _ H8.out).mono ?_; rintro e9 w9 ⟨rfl, H9, M9⟩))
                    | (go_at_call 12; refine (HO.out _ H7.out).mono ?_; rintro e8 w8 ⟨rfl, H8, M8⟩))
                  go_meet
                  case rel => exact ⟨rfl, H9, Lib.hid ((Tn.of M6.out).trans (M7.out.trans (M8.out.trans M9.out)))⟩
          case rest =>
            as_aux_lemma =>
              obtain ⟨rfl, H10, M10⟩ := hcut
              have S10 : Hid (SgO w5.heap.size wc (.slice p6 l c6) U) := S6.out.tn M10.out A6.out
              have HP4 : Hid ((Us.ix 0 U).length + (Us.ix 1 U).length + (Us.ix 2 U).length + (Us.ix 3 U).length = l) := by show _ = _; rw [Us.ix_parts HI2.out, HU.out]
              have K0 : Hid (∀ y, Tp w y b v U → Calls Try.prog 18 #[.pointer (some ⟨b, 0, none⟩), .int .i64 0] y (TpSay w b v U (.int .i64 ((Us.ix 0 U).length : Int)) y)) := fun y h => tp_count 0 h
              have K1 : Hid (∀ y, Tp w y b v U → Calls Try.prog 18 #[.pointer (some ⟨b, 0, none⟩), .int .i64 1] y (TpSay w b v U (.int .i64 ((Us.ix 1 U).length : Int)) y)) := fun y h => tp_count 1 h
              have K2 : Hid (∀ y, Tp w y b v U → Calls Try.prog 18 #[.pointer (some ⟨b, 0, none⟩), .int .i64 2] y (TpSay w b v U (.int .i64 ((Us.ix 2 U).length : Int)) y)) := fun y h => tp_count 2 h
              have K3 : Hid (∀ y, Tp w y b v U → Calls Try.prog 18 #[.pointer (some ⟨b, 0, none⟩), .int .i64 3] y (TpSay w b v U (.int .i64 ((Us.ix 3 U).length : Int)) y)) := fun y h => tp_count 3 h
              have HLU : Hid (l ≤ 32) := HL32.out
              generalize (Us.ix 0 U).length = c0 at *
              generalize (Us.ix 1 U).length = c1 at *
              generalize (Us.ix 2 U).length = c2 at *
              generalize (Us.ix 3 U).length = c3 at *
              have hb1 : IntKind.i64.wrap ((c0 : Int) + (c1 : Int)) = (c0 : Int) + (c1 : Int) := IntWalk.i64_in _ (by have := HP4.out; have := HLU.out; constructor <;> omega)
              have hb2 : IntKind.i64.wrap ((c0 : Int) + (c1 : Int) + (c2 : Int)) = (c0 : Int) + (c1 : Int) + (c2 : Int) := IntWalk.i64_in _ (by have := HP4.out; have := HLU.out; constructor <;> omega)
              have hb3 : IntKind.i64.wrap ((c0 : Int) + (c1 : Int) + (c2 : Int) + (c3 : Int)) = (l : Int) := by rw [IntWalk.i64_in _ (by have := HP4.out; have := HLU.out; constructor <;> omega)]; have := HP4.out; omega
              go_upto_region 17 with (first
                | (go_at_call 18; refine (K0.out _ H10.out).mono ?_; rintro e11 w11 ⟨rfl, H11, M11⟩; clear K0 H10)
                | (go_at_call 18; refine (K1.out _ H11.out).mono ?_; rintro e12 w12 ⟨rfl, H12, M12⟩; clear K1 H11)
                | (go_at_call 18; refine (K2.out _ H12.out).mono ?_; rintro e13 w13 ⟨rfl, H13, M13⟩; clear K2 H12)
                | (go_at_call 18; refine (K3.out _ H13.out).mono ?_; rintro e14 w14 ⟨rfl, H14, M14⟩; clear K3 H13))
              have S14 : Hid (SgO w5.heap.size w14 (.slice p6 l c6) U) := S10.out.tn (M11.out.trans (M12.out.trans (M13.out.trans M14.out))) A6.out
              clear S10 M10 M11 M12 M13 M14 hb1 hb2 hb3 HP4
              go_wp2
              go_loopw [11] (fun v11 y => ∃ k : Nat, k ≤ l ∧ v11 = .int .i64 k ∧ Hid (Tp w y b v U) ∧ Hid (SgO w5.heap.size y (.slice p6 l c6) U)) (fun v11 _ => l - (intOf v11).toNat)
              case atStart => exact ⟨0, Nat.zero_le _, rfl, H14, S14⟩
              case round =>
                as_aux_lemma =>
                  obtain ⟨k, hk, rfl, H15, S15⟩ := hrel
                  by_cases hkl : k < l
                  · have hkU : k < U.length := by rw [HU.out]; exact hkl
                    obtain ⟨g6, c6', hv6⟩ := S15.out.isb k hkU
                    injection hv6 with q1 q2 q3
                    subst q1
                    clear q2 q3
                    obtain ⟨_, d1, d2⟩ := S15.out.cells k hkU
                    obtain ⟨_, ⟨b1, b2⟩, b3, b4⟩ := HI2.out.ok k hkU
                    generalize (Us.at_ U k).l = x1 at *
                    generalize (Us.at_ U k).a = x2 at *
                    have n1 : decide (x1 < 0) = false := decide_eq_false (by omega)
                    have n2 : decide (x1 > 64) = false := decide_eq_false (by omega)
                    have n3 : decide (x2 < 0) = false := decide_eq_false (by omega)
                    have n4 : decide (x2 > 1099511627776) = false := decide_eq_false (by omega)
                    have m1 : ¬ x1 < 0 := by omega
                    have m2 : ¬ x1 > 64 := by omega
                    have m3 : ¬ x2 < 0 := by omega
                    have m4 : ¬ x2 > 1099511627776 := by omega
                    clear b1 b2 b3 b4 hkU
                    have hl32 : l ≤ 32 := HL32.out
                    have hk0 : (0 : Int) ≤ (k : Int) := by omega
                    have hk1 : (k : Int) < (l : Int) := by omega
                    go_wp2
                    exact ⟨⟨k + 1, by omega, by go_num, H15, S15⟩, by simp [intOf]; omega⟩
                  · have hge : (l : Int) ≤ (k : Int) := by omega
                    clear hkl
                    go_wp2
                    exact ⟨⟨i + 1, U, by omega, by go_num, HU, H15⟩, by simp [intOf]; omega⟩
        · have hge : (m : Int) ≤ (i : Int) := by omega
          go_wp2_with (go_at_call 8; refine (HW.out _).mono ?_; rintro e9 w9 ⟨rfl, hb9⟩)
          go_ret
          exact ⟨rfl, HS.out.old.trans (hb9.mono HS.out.old.size)⟩
end Go.Proofs.Ytnnalemboeccbaa

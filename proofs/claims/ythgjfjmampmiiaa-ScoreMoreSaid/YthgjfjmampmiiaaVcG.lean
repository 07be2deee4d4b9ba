/-
  Contracts: known, KeptSegs; the laws ScoreOf, ScoreBends walked.
-/
import Derived.Test.YthgjfjmampmiiaaVcF
namespace Go.Proofs.Ythgjfjmampmiiaa
open Go.RowKit

theorem sized_sc (L : List Us.S) : (Us.sc L).toArray.size = L.length * 3 := by rw [List.size_toArray, Us.sc_len]
theorem own_sc (L : List Us.S) (w : World) (hl : L.length ≤ 1000) : SgO w.heap.size (w.alloc (.cells (Us.sc L).toArray 36)) (.slice (some ⟨w.heap.size, 0, none⟩) L.length L.length) L :=
  ⟨Us.sc_len L, Or.inr ⟨w.heap.size, L.length, _, rfl, Nat.le_refl _, heap_alloc_new w _, Nat.le_refl _, by unfold maxLen; omega, sized_sc L, by rw [List.take_of_length_le (by rw [Us.sc_len]; exact Nat.le_refl _)]⟩⟩
theorem run_bsg4 (w : World) (a b c d : Us.S) :
    (Instr.buildSlice 25 4 #[(0, .agg (SgA a)), (1, .agg (SgA b)), (2, .agg (SgA c)), (3, .agg (SgA d))]).run Try.prog w = .ok (.slice (some ⟨w.heap.size, 0, none⟩) 4 4) (w.alloc (.cells (Us.sc [a, b, c, d]).toArray 36)) := by
  obtain ⟨i, hi1, hi2, hi3, hi4⟩ := info_parts Try.infoSg
  refine run_buildSlice w _ _ 4 _ _ i _ Try.underlying25 hi1 hi2 (by rw [hi3]; omega) (by rw [hi3]; omega) ?_
  rw [hi3]
  have e1 := made_sg 4
  unfold madeCells at e1
  have e2 : (Value.agg (SgA Us.z)).cells = SgA Us.z := rfl
  rw [e2, e1]
  show Instr.fill _ _ [(0, .agg (SgA a)), (1, .agg (SgA b)), (2, .agg (SgA c)), (3, .agg (SgA d))] = _
  rw [fill_step (fun i => some (i * 3, 3)) 0 (.agg (SgA a)) (0 * 3) 3 _ _ rfl rfl (by rw [List.size_toArray, Us.sc_len, List.length_replicate]; omega)]
  rw [fill_step (fun i => some (i * 3, 3)) 1 (.agg (SgA b)) (1 * 3) 3 _ _ rfl rfl (by exact of_decide_eq_true rfl)]
  rw [fill_step (fun i => some (i * 3, 3)) 2 (.agg (SgA c)) (2 * 3) 3 _ _ rfl rfl (by exact of_decide_eq_true rfl)]
  rw [fill_step (fun i => some (i * 3, 3)) 3 (.agg (SgA d)) (3 * 3) 3 _ [] rfl rfl (by exact of_decide_eq_true rfl)]
  rfl
theorem run_bsg2 (w : World) (a b : Us.S) :
    (Instr.buildSlice 25 2 #[(0, .agg (SgA a)), (1, .agg (SgA b))]).run Try.prog w = .ok (.slice (some ⟨w.heap.size, 0, none⟩) 2 2) (w.alloc (.cells (Us.sc [a, b]).toArray 36)) := by
  obtain ⟨i, hi1, hi2, hi3, hi4⟩ := info_parts Try.infoSg
  refine run_buildSlice w _ _ 2 _ _ i _ Try.underlying25 hi1 hi2 (by rw [hi3]; omega) (by rw [hi3]; omega) ?_
  rw [hi3]
  have e1 := made_sg 2
  unfold madeCells at e1
  have e2 : (Value.agg (SgA Us.z)).cells = SgA Us.z := rfl
  rw [e2, e1]
  show Instr.fill _ _ [(0, .agg (SgA a)), (1, .agg (SgA b))] = _
  rw [fill_step (fun i => some (i * 3, 3)) 0 (.agg (SgA a)) (0 * 3) 3 _ _ rfl rfl (by rw [List.size_toArray, Us.sc_len, List.length_replicate]; omega)]
  rw [fill_step (fun i => some (i * 3, 3)) 1 (.agg (SgA b)) (1 * 3) 3 _ [] rfl rfl (by exact of_decide_eq_true rfl)]
  rfl
section
variable {ops : Array Oper} {rest : List Oper} {a : Act} {w : World} {Q : Exit → Act → World → Prop} {D : Option Tmp} {T : TypeId} {ps : String} {af : Array Edge}
theorem bs_sg4 (x0 x1 x2 x3 : Operand) (e0 e1 e2 e3 : Us.S) (h0 : a.eval x0 = .agg (SgA e0)) (h1 : a.eval x1 = .agg (SgA e1)) (h2 : a.eval x2 = .agg (SgA e2)) (h3 : a.eval x3 = .agg (SgA e3))
    (h : wpList Try.prog ops Q rest (a.put D (.slice (some ⟨w.heap.size, 0, none⟩) 4 4)) (w.alloc (.cells (Us.sc [e0, e1, e2, e3]).toArray 36))) :
    wpList Try.prog ops Q ({ dst := D, op := .buildSlice 25 4 #[(0, x0), (1, x1), (2, x2), (3, x3)], type := T, pos := ps, after := af, guard := none } :: rest) a w :=
  wpList_plain rfl fun K hK => by
    have hrun := run_bsg4 w e0 e1 e2 e3
    unfold Oper.wp execOp
    simp only [h0, h1, h2, h3, List.map_toArray, List.map_cons, List.map_nil, hrun, Sem.run_bind, Sem.run_pure, Result.andThen_ok]
    exact hK _ _ h
theorem row_b3 (t : TypeId) (i j k : Nat) (x y z : Operand) (v u s : Value) (R : Array Value) (hx : a.eval x = v) (hy : a.eval y = u) (hz : a.eval z = s) (hr : Try.prog.built t [(i, v), (j, u), (k, s)] = some R) (h : wpList Try.prog ops Q rest (a.put D (.agg R)) w) :
    wpList Try.prog ops Q ({ dst := D, op := .build t #[(i, x), (j, y), (k, z)], type := T, pos := ps, after := af, guard := none } :: rest) a w :=
  wpList_plain rfl fun K hK => by
    have hrun := run_build (P := Try.prog) w t #[(i, v), (j, u), (k, s)] R hr
    unfold Oper.wp execOp
    simp only [hx, hy, hz, List.map_toArray, List.map_cons, List.map_nil, hrun, Sem.run_bind, Sem.run_pure, Result.andThen_ok]
    exact hK _ _ h
end
namespace Vc
def k4 : List Us.S := [⟨2, 6, 5⟩, ⟨2, 0, 5⟩, ⟨1, 0, 0⟩, ⟨2, 0, 4⟩]
theorem k4_yes : pl (vic 32 6 9 k4) = 3 ∧ (vic 32 6 9 k4).isSome = true := by decide +kernel
theorem k4_no : (vic 32 (-1) 9 k4).isSome = false := by decide +kernel
theorem k_of : of 32 0 0 = 1000 ∧ of 32 6 9 = 6842 := by decide +kernel
theorem k4_in : ∀ i, i < 4 → In64 (Us.at_ k4 i).a := by
  intro i hi
  unfold In64
  rcases i with _ | _ | _ | _ | i
  · exact ⟨by decide, by decide⟩
  · exact ⟨by decide, by decide⟩
  · exact ⟨by decide, by decide⟩
  · exact ⟨by decide, by decide⟩
  · omega
end Vc
set_option maxHeartbeats 2000000 in
set_option maxRecDepth 100000 in
theorem known_any (w : World) : Calls Try.prog 10 #[] w (BoSay true w) := by
  have HO : Hid (SgO w.heap.size (w.alloc (.cells (Us.sc Vc.k4).toArray 36)) (.slice (some ⟨w.heap.size, 0, none⟩) 4 4) Vc.k4) := own_sc Vc.k4 w (by decide)
  have HB : Hid (Below w.heap.size w (w.alloc (.cells (Us.sc Vc.k4).toArray 36))) := (Below.refl _ w).alloc (Nat.le_refl _) _
  have HV1 : Hid (∀ y, Below (w.alloc (.cells (Us.sc Vc.k4).toArray 36)).heap.size (w.alloc (.cells (Us.sc Vc.k4).toArray 36)) y → Calls Try.prog 12 #[.slice (some ⟨w.heap.size, 0, none⟩) 4 4, .int .i64 32, .int .i64 6, .int .i64 9] y fun e w' => e = .returned (.tuple #[.int .i64 3, .bool true]) ∧ Hid (Below y.heap.size y w')) := fun y hy => by
    have h := victim_any Vc.k4 (some ⟨w.heap.size, 0, none⟩) 4 4 rfl (by omega) 32 6 9 (by unfold In64; omega) Vc.k4_in y (HO.out.reads.old hy)
    unfold ViSay at h
    rw [Vc.k4_yes.1, Vc.k4_yes.2] at h
    exact h
  have HV2 : Hid (∀ y, Below (w.alloc (.cells (Us.sc Vc.k4).toArray 36)).heap.size (w.alloc (.cells (Us.sc Vc.k4).toArray 36)) y → Calls Try.prog 12 #[.slice (some ⟨w.heap.size, 0, none⟩) 4 4, .int .i64 32, .int .i64 (-1), .int .i64 9] y fun e w' => (∃ q, e = .returned (.tuple #[.int .i64 q, .bool false])) ∧ Hid (Below y.heap.size y w')) := fun y hy => by
    have h := victim_any Vc.k4 (some ⟨w.heap.size, 0, none⟩) 4 4 rfl (by omega) 32 (-1) 9 (by unfold In64; omega) Vc.k4_in y (HO.out.reads.old hy)
    unfold ViSay at h
    rw [Vc.k4_no] at h
    exact h.mono (fun e w' h => ⟨⟨_, h.1⟩, h.2⟩)
  have HO1 : Hid (∀ y, Calls Try.prog 8 #[.int .i64 32, .int .i64 0, .int .i64 0] y fun e w' => e = .returned (.int .i64 1000) ∧ w' = y) := fun y => by have h := of_any 32 0 0 y; rw [Vc.k_of.1] at h; exact h
  have HO2 : Hid (∀ y, Calls Try.prog 8 #[.int .i64 32, .int .i64 6, .int .i64 9] y fun e w' => e = .returned (.int .i64 6842) ∧ w' = y) := fun y => by have h := of_any 32 6 9 y; rw [Vc.k_of.2] at h; exact h
  have HK : Hid (Us.sc [⟨2, 6, 5⟩, ⟨2, 0, 5⟩, ⟨1, 0, 0⟩, ⟨2, 0, 4⟩] = Us.sc Vc.k4) := rfl
  clear HO
  obtain ⟨w1, hw1⟩ : ∃ w1, w.alloc (.cells (Us.sc Vc.k4).toArray 36) = w1 := ⟨_, rfl⟩
  rw [hw1] at HB HV1 HV2
  go_enter Try.func10, Try.ntmps10
  go_wp2_with (first
    | ((with_reducible refine row_b3 _ _ _ _ _ _ _ _ _ _ _ ?_ ?_ ?_ (build_sgl 2 6 5) ?_); (exact rfl); (exact rfl); (exact rfl))
    | ((with_reducible refine row_b3 _ _ _ _ _ _ _ _ _ _ _ ?_ ?_ ?_ (build_sgl 2 0 5) ?_); (exact rfl); (exact rfl); (exact rfl))
    | ((with_reducible refine row_b3 _ _ _ _ _ _ _ _ _ _ _ ?_ ?_ ?_ (build_sgl 2 0 4) ?_); (exact rfl); (exact rfl); (exact rfl))
    | ((with_reducible refine row_b1 _ _ _ _ ?_ (build_sg1 1) ?_); (exact rfl))
    | ((with_reducible refine bs_sg4 _ _ _ _ ⟨2, 6, 5⟩ ⟨2, 0, 5⟩ ⟨1, 0, 0⟩ ⟨2, 0, 4⟩ ?_ ?_ ?_ ?_ ?_); (exact rfl); (exact rfl); (exact rfl); (exact rfl); rw [HK.out, hw1])
    | (go_at_call 12; with_reducible refine (HV1.out _ (Below.refl _ _)).mono ?_; rintro e2 w2 ⟨rfl, B2⟩)
    | (go_at_call 12; with_reducible refine (HV2.out _ B2.out).mono ?_; rintro e3 w3 ⟨⟨q3, rfl⟩, B3⟩)
    | (go_at_call 8; with_reducible refine (HO1.out _).mono ?_; rintro e4 w4 ⟨rfl, rfl⟩)
    | (go_at_call 8; with_reducible refine (HO2.out _).mono ?_; rintro e5 w5 ⟨rfl, rfl⟩))
  go_ret
  exact ⟨rfl, (HB.out.trans (B2.out.mono HB.out.size)).trans (B3.out.mono (Nat.le_trans HB.out.size B2.out.size))⟩
set_option maxHeartbeats 2000000 in
set_option maxRecDepth 100000 in
theorem kp_any (L : List Us.S) (B g n : Nat) (p : Option Addr) (c : Nat) (hn : L.length = n) (hL : n ≤ 9000) (w : World) (hO : SgO B w (.slice (some ⟨g, 0, none⟩) (n + 5) (n + 5)) (Vc.ln L n (n + 5))) (hp : SgS w p L) :
    Calls Try.prog 14 #[.slice (some ⟨g, 0, none⟩) (n + 5) (n + 5), .slice p n c] w (BoSay true w) := by
  have hr : SgS w (some ⟨g, 0, none⟩) L := fun h0 => ⟨g, 0, rfl, fun i hi => by
    have h := hO.rng i (by rw [Vc.ln_len]; omega)
    rw [Vc.ln_at _ _ _ _ (by omega), if_pos (by omega), if_pos (by omega)] at h
    rw [Nat.zero_add]
    exact h⟩
  have HS : Hid (∀ y, Below w.heap.size w y → Calls Try.prog 19 #[.slice (some ⟨g, 0, none⟩) n (n + 5), .slice p n c] y (BoSay true y)) := fun y hy => by
    have h := same_any L L (some ⟨g, 0, none⟩) p n n (n + 5) c hn hn (by omega) y (hr.old hy) (hp.old hy)
    rw [decide_eq_true rfl] at h
    exact h
  have HR0 : Hid (∀ y k, n ≤ k → k < n + 5 → Below w.heap.size w y → y.rangeAt g (k * 3) (SgA ⟨-77, 0, 0⟩).toList) := fun y k h1 h2 hy => by
    have h := hO.rng k (by rw [Vc.ln_len]; omega)
    rw [Vc.ln_at _ _ _ _ (by omega), if_pos (by omega), if_neg (by omega)] at h
    exact rng_old h hy
  have heq : ∀ y, (Op.equalIn 10000 36 (.agg (SgA ⟨-77, 0, 0⟩)) (.agg (SgA ⟨-77, 0, 0⟩))).run Try.prog y = .ok true y := fun y => by have h := seg_eq ⟨-77, 0, 0⟩ ⟨-77, 0, 0⟩ y; rw [decide_eq_true rfl] at h; exact h
  clear hr hO hp hn
  go_enter Try.func14, Try.ntmps14
  go_wp2_with (first
    | (go_at_call 19; refine (HS.out _ (Below.refl _ _)).mono ?_; rintro e1 w1 ⟨rfl, hb1⟩; have B1 := Lib.hid hb1))
  go_loopw [5] (fun v5 wr => ∃ k : Nat, n ≤ k ∧ k ≤ n + 5 ∧ v5 = .int .i64 k ∧ Hid (Below w.heap.size w wr)) (fun v5 _ => n + 5 - (intOf v5).toNat)
  case atStart => exact ⟨n, Nat.le_refl _, by omega, rfl, B1⟩
  case round =>
    obtain ⟨k, hk0, hk, rfl, HB⟩ := hrel
    by_cases hlt : k < n + 5
    · have HR := Lib.hid (HR0.out wr k hk0 hlt HB.out)
      have hi0 : 0 ≤ (k : Int) := by omega
      have hi1 : (k : Int) < ((n : Int) + 5) := by omega
      go_wp2_with (first
        | ((with_reducible refine rng_load _ _ _ _ _ _ ?_ HR.out Try.underlying36 ?_ (sg_info _) ?_); (exact rfl); (exact rfl))
        | ((with_reducible refine row_b1 _ _ _ _ ?_ (build_sg1 (-77)) ?_); (exact rfl)))
      exact ⟨⟨k + 1, by omega, by omega, by go_num, HB⟩, by simp [intOf]; omega⟩
    · have E : k = n + 5 := by omega
      subst E
      clear hlt
      go_wp2
      go_ret
      exact ⟨rfl, HB.out⟩
set_option maxHeartbeats 1000000 in
set_option maxRecDepth 100000 in
theorem sof_any (s l a : Int) (w : World) : Calls Try.prog 3 #[.int .i64 s, .int .i64 l, .int .i64 a] w (BoSay true w) := by
  have H1 := Lib.hid (of_any s l a)
  have H2 := Lib.hid (rof_any s l a)
  have HK := Lib.hid known_any
  generalize Vc.of s l a = x at *
  go_enter Try.func3, Try.ntmps3
  go_wp2_with (first
    | (go_at_call 8; refine (H1.out _).mono ?_; rintro e1 w1 ⟨rfl, rfl⟩)
    | (go_at_call 9; refine (H2.out _).mono ?_; rintro e2 w2 ⟨rfl, rfl⟩)
    | (go_at_call 10; refine (HK.out _).mono ?_; rintro e3 w3 ⟨rfl, B3⟩))
  go_ret
  exact ⟨rfl, B3⟩
set_option maxHeartbeats 4000000 in
set_option maxRecDepth 100000 in
theorem bends_any (s l a more : Int) (hm : In64 more) (w : World) : Calls Try.prog 5 #[.int .i64 s, .int .i64 l, .int .i64 a, .int .i64 more] w (BoSay true w) := by
  unfold In64 at hm
  have HO : Hid (∀ s l a w, Calls Try.prog 8 #[.int .i64 s, .int .i64 l, .int .i64 a] w fun e w' => e = .returned (.int .i64 (Vc.of s l a)) ∧ w' = w) := of_any
  have H1 : Hid (∀ w, Calls Try.prog 8 #[.int .i64 s, .int .i64 l, .int .i64 a] w fun e w' => e = .returned (.int .i64 (Vc.of s l a)) ∧ w' = w) := of_any s l a
  have HK := Lib.hid known_any
  have hx := Vc.of_in s l a
  have hx0 := hx.1
  have hx1 := hx.2
  clear hx
  by_cases h0 : s < 1
  · by_cases h8 : l < s
    · generalize Vc.of s l a = x at *
      go_enter Try.func5, Try.ntmps5
      go_wp2_with (first
        | (go_at_call 8; with_reducible refine (H1.out _).mono ?_; rintro e1 w1 ⟨rfl, rfl⟩)
        | (go_at_call 8; with_reducible refine (HO.out _ _ _ _).mono ?_; rintro e1 w1 ⟨rfl, rfl⟩)
        | (go_at_call 10; refine (HK.out _).mono ?_; rintro e3 w3 ⟨rfl, B3⟩))
      all_goals (go_ret; exact ⟨rfl, B3⟩)
    · have h9 := Vc.of_out (show s ≤ l by omega) a
      generalize Vc.of s l a = x at *
      subst h9
      go_enter Try.func5, Try.ntmps5
      go_wp2_with (first
        | (go_at_call 8; with_reducible refine (H1.out _).mono ?_; rintro e1 w1 ⟨rfl, rfl⟩)
        | (go_at_call 8; with_reducible refine (HO.out _ _ _ _).mono ?_; rintro e1 w1 ⟨rfl, rfl⟩)
        | (go_at_call 10; refine (HK.out _).mono ?_; rintro e3 w3 ⟨rfl, B3⟩))
      all_goals (go_ret; exact ⟨rfl, B3⟩)
  by_cases h1 : 64 < s
  · by_cases h8 : l < s
    · generalize Vc.of s l a = x at *
      go_enter Try.func5, Try.ntmps5
      go_wp2_with (first
        | (go_at_call 8; with_reducible refine (H1.out _).mono ?_; rintro e1 w1 ⟨rfl, rfl⟩)
        | (go_at_call 8; with_reducible refine (HO.out _ _ _ _).mono ?_; rintro e1 w1 ⟨rfl, rfl⟩)
        | (go_at_call 10; refine (HK.out _).mono ?_; rintro e3 w3 ⟨rfl, B3⟩))
      all_goals (go_ret; exact ⟨rfl, B3⟩)
    · have h9 := Vc.of_out (show s ≤ l by omega) a
      generalize Vc.of s l a = x at *
      subst h9
      go_enter Try.func5, Try.ntmps5
      go_wp2_with (first
        | (go_at_call 8; with_reducible refine (H1.out _).mono ?_; rintro e1 w1 ⟨rfl, rfl⟩)
        | (go_at_call 8; with_reducible refine (HO.out _ _ _ _).mono ?_; rintro e1 w1 ⟨rfl, rfl⟩)
        | (go_at_call 10; refine (HK.out _).mono ?_; rintro e3 w3 ⟨rfl, B3⟩))
      all_goals (go_ret; exact ⟨rfl, B3⟩)
  by_cases h2 : l < 0
  · by_cases h8 : l < s
    · generalize Vc.of s l a = x at *
      go_enter Try.func5, Try.ntmps5
      go_wp2_with (first
        | (go_at_call 8; with_reducible refine (H1.out _).mono ?_; rintro e1 w1 ⟨rfl, rfl⟩)
        | (go_at_call 8; with_reducible refine (HO.out _ _ _ _).mono ?_; rintro e1 w1 ⟨rfl, rfl⟩)
        | (go_at_call 10; refine (HK.out _).mono ?_; rintro e3 w3 ⟨rfl, B3⟩))
      all_goals (go_ret; exact ⟨rfl, B3⟩)
    · have h9 := Vc.of_out (show s ≤ l by omega) a
      generalize Vc.of s l a = x at *
      subst h9
      go_enter Try.func5, Try.ntmps5
      go_wp2_with (first
        | (go_at_call 8; with_reducible refine (H1.out _).mono ?_; rintro e1 w1 ⟨rfl, rfl⟩)
        | (go_at_call 8; with_reducible refine (HO.out _ _ _ _).mono ?_; rintro e1 w1 ⟨rfl, rfl⟩)
        | (go_at_call 10; refine (HK.out _).mono ?_; rintro e3 w3 ⟨rfl, B3⟩))
      all_goals (go_ret; exact ⟨rfl, B3⟩)
  by_cases h3 : s ≤ l
  · have h8 := Vc.of_out h3 a
    generalize Vc.of s l a = x at *
    subst h8
    go_enter Try.func5, Try.ntmps5
    go_wp2_with (first
      | (go_at_call 8; with_reducible refine (H1.out _).mono ?_; rintro e1 w1 ⟨rfl, rfl⟩)
      | (go_at_call 8; with_reducible refine (HO.out _ _ _ _).mono ?_; rintro e1 w1 ⟨rfl, rfl⟩)
      | (go_at_call 10; refine (HK.out _).mono ?_; rintro e3 w3 ⟨rfl, B3⟩))
    all_goals (go_ret; exact ⟨rfl, B3⟩)
  by_cases h4 : a < 0
  · generalize Vc.of s l a = x at *
    go_enter Try.func5, Try.ntmps5
    go_wp2_with (first
      | (go_at_call 8; with_reducible refine (H1.out _).mono ?_; rintro e1 w1 ⟨rfl, rfl⟩)
      | (go_at_call 8; with_reducible refine (HO.out _ _ _ _).mono ?_; rintro e1 w1 ⟨rfl, rfl⟩)
      | (go_at_call 10; refine (HK.out _).mono ?_; rintro e3 w3 ⟨rfl, B3⟩))
    all_goals (go_ret; exact ⟨rfl, B3⟩)
  by_cases h5 : 1099511627776 ≤ a
  · generalize Vc.of s l a = x at *
    go_enter Try.func5, Try.ntmps5
    go_wp2_with (first
      | (go_at_call 8; with_reducible refine (H1.out _).mono ?_; rintro e1 w1 ⟨rfl, rfl⟩)
      | (go_at_call 8; with_reducible refine (HO.out _ _ _ _).mono ?_; rintro e1 w1 ⟨rfl, rfl⟩)
      | (go_at_call 10; refine (HK.out _).mono ?_; rintro e3 w3 ⟨rfl, B3⟩))
    all_goals (go_ret; exact ⟨rfl, B3⟩)
  have hin : 1 ≤ s ∧ s ≤ 64 ∧ 0 ≤ l ∧ l < s ∧ 0 ≤ a ∧ a ≤ 1099511627776 := by omega
  have HP := Vc.of_pos hin
  have HL := Vc.of_live hin
  have HF := Vc.of_full s a
  have HG : Hid (∀ o, a + 1 ≤ o → o ≤ 1099511627776 → Vc.of s l a ≤ Vc.of s l o) := fun o h1 h2 => Vc.of_old (by omega) (by omega) h2
  clear hin
  generalize Vc.of s l a = x at *
  by_cases k0 : more ≤ 0
  · have g1 := HG.out (a + 1) (by omega) (by omega)
    go_enter Try.func5, Try.ntmps5
    go_wp2_with (first
      | (go_at_call 8; with_reducible refine (H1.out _).mono ?_; rintro e1 w1 ⟨rfl, rfl⟩)
      | (go_at_call 8; with_reducible refine (HO.out _ _ _ _).mono ?_; rintro e1 w1 ⟨rfl, rfl⟩)
      | (go_at_call 10; refine (HK.out _).mono ?_; rintro e3 w3 ⟨rfl, B3⟩))
    all_goals (go_ret; exact ⟨rfl, B3⟩)
  by_cases k1 : more ≤ 1099511627776 - a - 1
  · have g1 := HG.out (a + 1 + more) (by omega) (by omega)
    go_enter Try.func5, Try.ntmps5
    go_wp2_with (first
      | (go_at_call 8; with_reducible refine (H1.out _).mono ?_; rintro e1 w1 ⟨rfl, rfl⟩)
      | (go_at_call 8; with_reducible refine (HO.out _ _ _ _).mono ?_; rintro e1 w1 ⟨rfl, rfl⟩)
      | (go_at_call 10; refine (HK.out _).mono ?_; rintro e3 w3 ⟨rfl, B3⟩))
    all_goals (go_ret; exact ⟨rfl, B3⟩)
  · have g1 := HG.out (a + 1 + (1099511627776 - a - 1)) (by omega) (by omega)
    have g2 := HG.out (a + 1) (by omega) (by omega)
    go_enter Try.func5, Try.ntmps5
    go_wp2_with (first
      | (go_at_call 8; with_reducible refine (H1.out _).mono ?_; rintro e1 w1 ⟨rfl, rfl⟩)
      | (go_at_call 8; with_reducible refine (HO.out _ _ _ _).mono ?_; rintro e1 w1 ⟨rfl, rfl⟩)
      | (go_at_call 10; refine (HK.out _).mono ?_; rintro e3 w3 ⟨rfl, B3⟩))
    all_goals (go_ret; exact ⟨rfl, B3⟩)
end Go.Proofs.Ythgjfjmampmiiaa

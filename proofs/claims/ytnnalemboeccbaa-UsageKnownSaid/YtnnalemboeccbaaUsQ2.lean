/-
  The reference: contracts: Set, Take, Add.
-/
import Derived.Test.YtnnalemboeccbaaUsQ
namespace Go.Proofs.Ytnnalemboeccbaa
open Go.RowKit

section
variable {P : Program} {a : Act} {w : World} {D : Option Tmp} {T : TypeId} {ps : String} {af : Array Edge} {gd : Option (Nat × Bool)}
theorem exec_b3 (t : TypeId) (i j k : Nat) (x y z : Operand) (v u s : Value) (R : Array Value) (hx : a.eval x = v) (hy : a.eval y = u) (hz : a.eval z = s) (hr : P.built t [(i, v), (j, u), (k, s)] = some R) :
    (execOp a.eval { dst := D, op := .build t #[(i, x), (j, y), (k, z)], type := T, pos := ps, after := af, guard := gd }).run P w = .ok (.value (.agg R)) w := by
  have hrun := run_build (P := P) w t #[(i, v), (j, u), (k, s)] R hr
  unfold execOp
  simp only [hx, hy, hz, List.map_toArray, List.map_cons, List.map_nil, hrun, Sem.run_bind, Sem.run_pure, Result.andThen_ok]
end
set_option maxHeartbeats 4000000 in
set_option maxRecDepth 100000 in
theorem rset_no {B b : Nat} {v : Value} {T : List Us.S} (i : Int) (x : Us.S) (w : World) (h : TAt 52 B w b v T) (hno : ¬ (Us.has T i ∧ Us.ok x)) :
    Calls Try.prog 28 #[.pointer (some ⟨b, 0, none⟩), .int .i64 i, .agg (SgA x)] w (TbSay 52 B b v T (.int .i64 7) w) := by
  obtain ⟨w0, hw0⟩ : ∃ y, y = w.alloc (.cells (SgA x) 30) := ⟨_, rfl⟩
  have B0 : Hid (Below w.heap.size w w0) := by rw [hw0]; exact (Below.refl _ w).alloc (Nat.le_refl _) _
  have G0 : Hid (w0.heap[w.heap.size]? = some (.cells (SgA x) 30 (0, 0))) := by rw [hw0]; exact heap_alloc_new w _
  have T0 : Hid (TAt 52 B w0 b v T) := h.old B0.out
  have HH : Hid (Calls Try.prog 41 #[.pointer (some ⟨b, 0, none⟩), .int .i64 i] w0 fun e w' => e = .returned (.bool (decide (Us.has T i))) ∧ w' = w0) := there_any i w0 T0.out
  have c0 : w0.cell? ⟨w.heap.size, 0, none⟩ = some (.int .i64 x.s) := by rw [cell_of_row _ _ _ _ _ _ G0.out]; rfl
  have c1 : w0.cell? ⟨w.heap.size, 1, none⟩ = some (.int .i64 x.l) := by rw [cell_of_row _ _ _ _ _ _ G0.out]; rfl
  have c2 : w0.cell? ⟨w.heap.size, 2, none⟩ = some (.int .i64 x.a) := by rw [cell_of_row _ _ _ _ _ _ G0.out]; rfl
  have KEY : Hid (TbSay 52 B b v T (.int .i64 7) w (.returned (.int .i64 7)) w0) := ⟨rfl, T0, Lib.hid (Tn.of B0.out)⟩
  obtain ⟨X, hX⟩ : ∃ X, SgA x = X := ⟨_, rfl⟩
  rw [hX] at hw0 ⊢
  clear hX h
  by_cases h1 : Us.has T i
  · rw [decide_eq_true h1] at HH
    have hx : ¬ Us.ok x := fun q => hno ⟨h1, q⟩
    unfold Us.ok at hx
    generalize x.s = s at *
    generalize x.l = l at *
    generalize x.a = a at *
    clear h1 hno
    by_cases k1 : s < 0
    · clear hx
      go_enter Try.func28, Try.ntmps28
      go_upto_region 1 with (fail)
      rw [← hw0]
      clear hw0
      go_wp2_with (go_at_call 41; refine HH.out.mono ?_; rintro e1 w1 ⟨rfl, rfl⟩)
      go_ret
      exact KEY.out
    by_cases k2 : s > 3
    · clear hx
      go_enter Try.func28, Try.ntmps28
      go_upto_region 1 with (fail)
      rw [← hw0]
      clear hw0
      go_wp2_with (go_at_call 41; refine HH.out.mono ?_; rintro e1 w1 ⟨rfl, rfl⟩)
      go_ret
      exact KEY.out
    by_cases k3 : l < 0
    · clear hx
      go_enter Try.func28, Try.ntmps28
      go_upto_region 1 with (fail)
      rw [← hw0]
      clear hw0
      go_wp2_with (go_at_call 41; refine HH.out.mono ?_; rintro e1 w1 ⟨rfl, rfl⟩)
      go_ret
      exact KEY.out
    by_cases k4 : l > 64
    · clear hx
      go_enter Try.func28, Try.ntmps28
      go_upto_region 1 with (fail)
      rw [← hw0]
      clear hw0
      go_wp2_with (go_at_call 41; refine HH.out.mono ?_; rintro e1 w1 ⟨rfl, rfl⟩)
      go_ret
      exact KEY.out
    by_cases k5 : a < 0
    · clear hx
      go_enter Try.func28, Try.ntmps28
      go_upto_region 1 with (fail)
      rw [← hw0]
      clear hw0
      go_wp2_with (go_at_call 41; refine HH.out.mono ?_; rintro e1 w1 ⟨rfl, rfl⟩)
      go_ret
      exact KEY.out
    have k6 : a > 1099511627776 := by omega
    clear hx
    go_enter Try.func28, Try.ntmps28
    go_upto_region 1 with (fail)
    rw [← hw0]
    clear hw0
    go_wp2_with (go_at_call 41; refine HH.out.mono ?_; rintro e1 w1 ⟨rfl, rfl⟩)
    go_ret
    exact KEY.out
  · rw [decide_eq_false h1] at HH
    clear h1 hno
    go_enter Try.func28, Try.ntmps28
    go_upto_region 1 with (fail)
    rw [← hw0]
    clear hw0
    go_wp2_with (go_at_call 41; refine HH.out.mono ?_; rintro e1 w1 ⟨rfl, rfl⟩)
    go_ret
    exact KEY.out
set_option maxHeartbeats 4000000 in
set_option maxRecDepth 100000 in
theorem rset_twice {B b : Nat} {v : Value} {T : List Us.S} (i : Int) (x : Us.S) (w : World) (h : TAt 52 B w b v T) (hl : T.length ≤ 32) (h1 : Us.has T i) (h2 : Us.ok x) (h3 : x.s = 1 ∧ Us.other T i.toNat) :
    Calls Try.prog 28 #[.pointer (some ⟨b, 0, none⟩), .int .i64 i, .agg (SgA x)] w (TbSay 52 B b v T (.int .i64 10) w) := by
  obtain ⟨w0, hw0⟩ : ∃ y, y = w.alloc (.cells (SgA x) 30) := ⟨_, rfl⟩
  have B0 : Hid (Below w.heap.size w w0) := by rw [hw0]; exact (Below.refl _ w).alloc (Nat.le_refl _) _
  have G0 : Hid (w0.heap[w.heap.size]? = some (.cells (SgA x) 30 (0, 0))) := by rw [hw0]; exact heap_alloc_new w _
  have T0 : Hid (TAt 52 B w0 b v T) := h.old B0.out
  have HH : Hid (Calls Try.prog 41 #[.pointer (some ⟨b, 0, none⟩), .int .i64 i] w0 fun e w' => e = .returned (.bool true) ∧ w' = w0) := by
    have := there_any i w0 T0.out
    rw [decide_eq_true h1] at this
    exact this
  obtain ⟨hn1, hn2⟩ := Us.has_nat h1
  obtain ⟨j, hj⟩ : ∃ j : Nat, i.toNat = j := ⟨_, rfl⟩
  rw [hj] at hn1 hn2 h3
  have c0 : w0.cell? ⟨w.heap.size, 0, none⟩ = some (.int .i64 x.s) := by rw [cell_of_row _ _ _ _ _ _ G0.out]; rfl
  have c1 : w0.cell? ⟨w.heap.size, 1, none⟩ = some (.int .i64 x.l) := by rw [cell_of_row _ _ _ _ _ _ G0.out]; rfl
  have c2 : w0.cell? ⟨w.heap.size, 2, none⟩ = some (.int .i64 x.a) := by rw [cell_of_row _ _ _ _ _ _ G0.out]; rfl
  obtain ⟨⟨k1, k2⟩, ⟨k3, k4⟩, k5, k6⟩ := h2
  have m1 : ¬ x.s < 0 := by omega
  have m2 : ¬ x.s > 3 := by omega
  have m3 : ¬ x.l < 0 := by omega
  have m4 : ¬ x.l > 64 := by omega
  have m5 : ¬ x.a < 0 := by omega
  have m6 : ¬ x.a > 1099511627776 := by omega
  obtain ⟨g, c, rfl, hgw⟩ := h.gsome j hn1
  have HGL := Lib.hid hgw
  subst hn2
  have HSX := Lib.hid (sg_info x)
  have HJT : Hid (j < T.length) := hn1
  obtain ⟨n, hn⟩ : ∃ n, T.length = n := ⟨_, rfl⟩
  have HN := Lib.hid hn
  rw [hn] at hn1 T0 ⊢
  have HL32 : Hid (n ≤ 32) := by show _ ≤ _; rw [← hn]; exact hl
  obtain ⟨X, hX⟩ : ∃ X, SgA x = X := ⟨_, rfl⟩
  have HX : Hid (SgA x = X) := hX
  rw [hX] at hw0 HSX G0 ⊢
  generalize hxs : x.s = s at c0 m1 m2 h3 k1 k2
  generalize x.l = l at *
  generalize x.a = a at *
  clear h h1 hj k1 k2 k3 k4 k5 k6 hn hX hxs hgw
  have hj0 : (0 : Int) ≤ (j : Int) := by omega
  have hjn : (j : Int) < (n : Int) := by omega
  go_enter Try.func28, Try.ntmps28
  go_upto_region 1 with (fail)
  rw [← hw0]
  clear hw0
  go_upto_region 3 with (go_at_call 41; refine HH.out.mono ?_; rintro e1 w1 ⟨rfl, rfl⟩)
  clear HH m1 m2 m3 m4 m5 m6 c1 c2
  have b0 := T0.out.cell
  go_wp2
  obtain ⟨rfl, o, ho1, ho2, ho3⟩ := h3
  have HO1 : Hid (o < n) := by show _ < _; rw [← HN.out]; exact ho1
  have HO2 := Lib.hid ho2
  have HO3 := Lib.hid ho3
  clear ho1 ho2 ho3
  go_loopw [7] (fun v7 y => ∃ k : Nat, k ≤ n ∧ v7 = .int .i64 k ∧ Hid (∀ q, q < k → q ≠ j → (Us.at_ T q).s ≠ 1) ∧ y = w1) (fun v7 _ => n - (intOf v7).toNat)
  case atStart => exact ⟨0, Nat.zero_le _, rfl, fun q hq => by omega, rfl⟩
  case round =>
    obtain ⟨k, hk, rfl, HF, rfl⟩ := hrel
    by_cases hlt : k < n
    · have HK : Hid (k < T.length) := by show _ < _; rw [HN.out]; exact hlt
      have d0 := (T0.out.own.cells k HK.out).1
      have hk0 : (0 : Int) ≤ (k : Int) := by omega
      have hk1 : (k : Int) < (n : Int) := by omega
      have hl32 : n ≤ 32 := HL32.out
      by_cases hkj : k = j
      · have hkj' : ((k : Int) != (j : Int)) = false := by simp [hkj]
        have HF2 : Hid (∀ q, q < k + 1 → q ≠ j → (Us.at_ T q).s ≠ 1) := fun q h1 h2 => HF.out q (by omega) h2
        clear hkj HF
        generalize (Us.at_ T k).s = sk at d0
        go_wp2
        exact ⟨⟨k + 1, by omega, by go_num, HF2, trivial⟩, by simp [intOf]; omega⟩
      · have hkj' : ((k : Int) != (j : Int)) = true := by simp; omega
        by_cases hs : (Us.at_ T k).s = 1
        · rw [hs] at d0
          clear hkj HF hs
          go_wp2
          go_ret
          exact ⟨rfl, T0, Lib.hid (Tn.of B0.out)⟩
        · have hs' : ((Us.at_ T k).s == 1) = false := by simp [hs]
          have HF2 : Hid (∀ q, q < k + 1 → q ≠ j → (Us.at_ T q).s ≠ 1) := fun q h1 h2 => by
            by_cases e : q = k
            · rw [e]; exact hs
            · exact HF.out q (by omega) h2
          clear hkj HF hs
          generalize (Us.at_ T k).s = sk at d0 hs'
          go_wp2
          exact ⟨⟨k + 1, by omega, by go_num, HF2, trivial⟩, by simp [intOf]; omega⟩
    · exact absurd HO3.out (HF.out o (by have := HO1.out; omega) HO2.out)
set_option maxHeartbeats 4000000 in
set_option maxRecDepth 100000 in
theorem rset_yes {B b : Nat} {v : Value} {T : List Us.S} (i : Int) (x : Us.S) (w : World) (h : TAt 52 B w b v T) (hl : T.length ≤ 32) (h1 : Us.has T i) (h2 : Us.ok x) (h3 : x.s = 1 → ¬ Us.other T i.toNat) :
    Calls Try.prog 28 #[.pointer (some ⟨b, 0, none⟩), .int .i64 i, .agg (SgA x)] w (TbSay 52 B b v (T.set i.toNat x) (.int .i64 0) w) := by
  obtain ⟨w0, hw0⟩ : ∃ y, y = w.alloc (.cells (SgA x) 30) := ⟨_, rfl⟩
  have B0 : Hid (Below w.heap.size w w0) := by rw [hw0]; exact (Below.refl _ w).alloc (Nat.le_refl _) _
  have G0 : Hid (w0.heap[w.heap.size]? = some (.cells (SgA x) 30 (0, 0))) := by rw [hw0]; exact heap_alloc_new w _
  have T0 : Hid (TAt 52 B w0 b v T) := h.old B0.out
  have HH : Hid (Calls Try.prog 41 #[.pointer (some ⟨b, 0, none⟩), .int .i64 i] w0 fun e w' => e = .returned (.bool true) ∧ w' = w0) := by
    have := there_any i w0 T0.out
    rw [decide_eq_true h1] at this
    exact this
  obtain ⟨hn1, hn2⟩ := Us.has_nat h1
  obtain ⟨j, hj⟩ : ∃ j : Nat, i.toNat = j := ⟨_, rfl⟩
  rw [hj] at hn1 hn2 h3 ⊢
  have c0 : w0.cell? ⟨w.heap.size, 0, none⟩ = some (.int .i64 x.s) := by rw [cell_of_row _ _ _ _ _ _ G0.out]; rfl
  have c1 : w0.cell? ⟨w.heap.size, 1, none⟩ = some (.int .i64 x.l) := by rw [cell_of_row _ _ _ _ _ _ G0.out]; rfl
  have c2 : w0.cell? ⟨w.heap.size, 2, none⟩ = some (.int .i64 x.a) := by rw [cell_of_row _ _ _ _ _ _ G0.out]; rfl
  have H3 : Hid (x.s = 1 → ∀ q, q < T.length → q ≠ j → (Us.at_ T q).s ≠ 1) := fun e q q1 q2 q3 => h3 e ⟨q, q1, q2, q3⟩
  clear h3
  obtain ⟨⟨k1, k2⟩, ⟨k3, k4⟩, k5, k6⟩ := h2
  have m1 : ¬ x.s < 0 := by omega
  have m2 : ¬ x.s > 3 := by omega
  have m3 : ¬ x.l < 0 := by omega
  have m4 : ¬ x.l > 64 := by omega
  have m5 : ¬ x.a < 0 := by omega
  have m6 : ¬ x.a > 1099511627776 := by omega
  obtain ⟨g, c, rfl, hgw⟩ := h.gsome j hn1
  have HGL := Lib.hid hgw
  subst hn2
  have HSX := Lib.hid (sg_info x)
  have HJT : Hid (j < T.length) := hn1
  obtain ⟨n, hn⟩ : ∃ n, T.length = n := ⟨_, rfl⟩
  have HN := Lib.hid hn
  rw [hn] at hn1 T0 ⊢
  have HL32 : Hid (n ≤ 32) := by show _ ≤ _; rw [← hn]; exact hl
  obtain ⟨X, hX⟩ : ∃ X, SgA x = X := ⟨_, rfl⟩
  have HX : Hid (SgA x = X) := hX
  rw [hX] at hw0 HSX G0 ⊢
  generalize hxs : x.s = s at c0 m1 m2 H3 k1 k2
  generalize x.l = l at *
  generalize x.a = a at *
  clear h h1 hj k1 k2 k3 k4 k5 k6 hn hX hxs hgw
  have hj0 : (0 : Int) ≤ (j : Int) := by omega
  have hjn : (j : Int) < (n : Int) := by omega
  go_enter Try.func28, Try.ntmps28
  go_upto_region 1 with (fail)
  rw [← hw0]
  clear hw0
  go_upto_region 3 with (go_at_call 41; refine HH.out.mono ?_; rintro e1 w1 ⟨rfl, rfl⟩)
  clear HH m1 m2 m3 m4 m5 m6 c1 c2
  have b0 := T0.out.cell
  go_wp2
  go_loopw [7] (fun v7 y => ∃ k : Nat, k ≤ n ∧ v7 = .int .i64 k ∧ y = w1) (fun v7 _ => n - (intOf v7).toNat)
  case atStart => exact ⟨0, Nat.zero_le _, rfl, rfl⟩
  case round =>
    obtain ⟨k, hk, rfl, rfl⟩ := hrel
    by_cases hlt : k < n
    · have HK : Hid (k < T.length) := by show _ < _; rw [HN.out]; exact hlt
      have d0 := (T0.out.own.cells k HK.out).1
      have hk0 : (0 : Int) ≤ (k : Int) := by omega
      have hk1 : (k : Int) < (n : Int) := by omega
      have hl32 : n ≤ 32 := HL32.out
      by_cases hkj : k = j
      · have hkj' : ((k : Int) != (j : Int)) = false := by simp [hkj]
        clear hkj
        generalize (Us.at_ T k).s = sk at d0
        go_wp2
        exact ⟨⟨k + 1, by omega, by go_num, trivial⟩, by simp [intOf]; omega⟩
      · have hkj' : ((k : Int) != (j : Int)) = true := by simp; omega
        by_cases hs : (Us.at_ T k).s = 1
        · rw [hs] at d0
          have hs1 : (s == 1) = false := by
            by_cases e : s = 1
            · exact absurd hs (H3.out e k HK.out hkj)
            · simp [e]
          clear hkj hs
          go_wp2
          exact ⟨⟨k + 1, by omega, by go_num, trivial⟩, by simp [intOf]; omega⟩
        · have hs' : ((Us.at_ T k).s == 1) = false := by simp [hs]
          clear hkj hs
          generalize (Us.at_ T k).s = sk at d0 hs'
          go_wp2
          exact ⟨⟨k + 1, by omega, by go_num, trivial⟩, by simp [intOf]; omega⟩
    · have hge : ¬ (k : Int) < (n : Int) := by omega
      clear hlt
      go_upto_region 8 with (fail)
      refine wp_region_any (by kernel_rfl) ?_
      change wpAny _ _ _ _ _ _ _ (World.drew _)
      have B4 : Hid (Below w.heap.size w wr.drew) := B0.out.drew
      have G4 : Hid (wr.drew.heap[w.heap.size]? = some (.cells X 30 (0, 0))) := G0.out
      have T4 : Hid (TAt 52 B wr.drew b (.slice (some ⟨g, 0, none⟩) n c) T) := T0.out.old (Below.refl _ _).drew
      obtain ⟨z, hz⟩ : ∃ y, y = wr.drew := ⟨_, rfl⟩
      rw [← hz] at B4 G4 T4 ⊢
      clear hz c0 b0
      refine wpAny_of_held (S := fun y => y.cell? ⟨b, 0, none⟩ = some (.slice (some ⟨g, 0, none⟩) n c) ∧ y.heap[w.heap.size]? = some (.cells X 30 (0, 0))) _ _ _ _ ?_
      have SD : z.cell? ⟨b, 0, none⟩ = some (.slice (some ⟨g, 0, none⟩) n c) ∧ z.heap[w.heap.size]? = some (.cells X 30 (0, 0)) := ⟨T4.out.cell, G4.out⟩
      refine anyH_take 0 70 (.pointer (some ⟨b, 0, none⟩)) SD rfl (by kernel_rfl) (by kernel_rfl) (by kernel_rfl) (fun _ _ _ h => h) (by rfl) (by intro x hx; obtain ⟨y0, y1⟩ := hx; go_simp) ?_
      try simp only [Act.put, List.setIfInBounds_toArray, List.set_cons_zero, List.set_cons_succ]
      refine anyH_take 1 71 (.pointer (some ⟨b, 0, none⟩)) SD rfl (by kernel_rfl) (by kernel_rfl) (by kernel_rfl) (fun _ _ _ h => h) (by rfl) (by intro x hx; obtain ⟨y0, y1⟩ := hx; go_simp) ?_
      try simp only [Act.put, List.setIfInBounds_toArray, List.set_cons_zero, List.set_cons_succ]
      refine anyH_take 2 72 (.pointer (some ⟨b, 0, none⟩)) SD rfl (by kernel_rfl) (by kernel_rfl) (by kernel_rfl) (fun _ _ _ h => h) (by rfl) (by intro x hx; obtain ⟨y0, y1⟩ := hx; go_simp) ?_
      try simp only [Act.put, List.setIfInBounds_toArray, List.set_cons_zero, List.set_cons_succ]
      refine anyH_take 3 73 (.slice (some ⟨g, 0, none⟩) n c) SD rfl (by kernel_rfl) (by kernel_rfl) (by kernel_rfl) (fun _ _ _ h => h) (by rfl) (by intro x hx; obtain ⟨y0, y1⟩ := hx; go_simp) ?_
      try simp only [Act.put, List.setIfInBounds_toArray, List.set_cons_zero, List.set_cons_succ]
      refine anyH_take 4 74 (.int .i64 (j : Int)) SD rfl (by kernel_rfl) (by kernel_rfl) (by kernel_rfl) (fun _ _ _ h => h) (by rfl) (by intro x hx; obtain ⟨y0, y1⟩ := hx; go_simp) ?_
      try simp only [Act.put, List.setIfInBounds_toArray, List.set_cons_zero, List.set_cons_succ]
      refine anyH_take 5 75 (.agg X) SD rfl (by kernel_rfl) (by kernel_rfl) (by kernel_rfl) (fun _ _ _ h => h) (by rfl) (fun y hy => exec_arr _ _ w.heap.size 0 _ _ rfl (rng_whole hy.2) Try.underlying30 rfl HSX.out) ?_
      try simp only [Act.put, List.setIfInBounds_toArray, List.set_cons_zero, List.set_cons_succ]
      refine anyH_take 6 76 (.pointer (some ⟨g, j * 3, none⟩)) SD rfl (by kernel_rfl) (by kernel_rfl) (by kernel_rfl) (fun _ _ _ h => h) (by rfl) (by intro x hx; obtain ⟨y0, y1⟩ := hx; go_simp) ?_
      try simp only [Act.put, List.setIfInBounds_toArray, List.set_cons_zero, List.set_cons_succ]
      refine anyH_one 7 (by kernel_rfl) ?_
      refine wpOp_step rfl (fun Kc hKc => ?_)
      rw [if_pos (by rfl)]
      refine st_sg_op _ _ B g n c j _ rfl T x HJT.out rfl (by rw [← HX.out]; rfl) T4.out.own (fun w5 O5 C5 => ?_)
      have hgz : g < w.heap.size := HGL.out
      have T5 : Hid (TAt 52 B w5 b (.slice (some ⟨g, 0, none⟩) n c) (T.set j x)) := T4.out.put tne2 rfl C5.out O5.out
      refine hKc _ _ ⟨⟨T5.out.cell, (C5.out.block _ (by omega)).trans G4.out⟩, ?_⟩
      clear hKc Kc
      refine wpAnyH_done (by kernel_rfl) ?_ _
      go_wp2
      go_ret
      exact ⟨rfl, T5, Lib.hid ((Tn.of B4.out).trans (Tn.chg C5.out rfl))⟩
end Go.Proofs.Ytnnalemboeccbaa

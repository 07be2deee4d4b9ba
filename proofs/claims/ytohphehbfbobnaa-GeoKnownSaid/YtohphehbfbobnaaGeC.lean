/-
  Package geo walked: Check.
-/
import Derived.Test.YtohphehbfbobnaaGeB
namespace Go.Proofs.Ytohphehbfbobnaa
open Go.RowKit

/-- A geometry's box in any later world. -/
abbrev Bx (y : World) (g : Nat) (a b c : Int) : Prop := y.cell? ⟨g, 0, none⟩ = some (.int .i64 a) ∧ y.cell? ⟨g, 1, none⟩ = some (.int .i64 b) ∧ y.cell? ⟨g, 2, none⟩ = some (.int .i64 c)
theorem bx_of {y : World} {g : Nat} {a b c : Int} (h : y.heap[g]? = some (GBox a b c)) : Bx y g a b c :=
  ⟨by rw [cell_of_row _ _ _ _ _ _ h]; rfl, by rw [cell_of_row _ _ _ _ _ _ h]; rfl, by rw [cell_of_row _ _ _ _ _ _ h]; rfl⟩
theorem Bx.old {w y : World} {g : Nat} {a b c : Int} (h : Bx w g a b c) (hb : Below w.heap.size w y) : Bx y g a b c := by
  have hl := World.block_lt_of_cell? w _ h.1
  have q := fun o => World.cell?_of_block (a := ⟨g, o, none⟩) (hb.block g hl)
  exact ⟨(q 0).trans h.1, (q 1).trans h.2.1, (q 2).trans h.2.2⟩
theorem inn_eq (x : Sp3) : inn x = decide (x.2.1 ≤ x.1 ∧ x.1 ≤ x.2.2) := by
  unfold inn
  by_cases h1 : x.1 < x.2.1
  · rw [decide_eq_true h1, Bool.true_or, decide_eq_false (by omega)]; rfl
  · by_cases h2 : x.1 > x.2.2
    · rw [decide_eq_false h1, decide_eq_true h2, decide_eq_false (by omega)]; rfl
    · rw [decide_eq_false h1, decide_eq_false h2, decide_eq_true (by omega)]; rfl
theorem sz_all (a b c : Int) : ([(a, 16, 32), (b, 32, 64), (c, 1, 64)] : List Sp3).all inn = decide (Ge.sz a b c) := by
  simp only [List.all_cons, List.all_nil, inn_eq, Bool.and_true, ← Bool.decide_and]
  exact decide_eq_decide.2 Iff.rfl
set_option maxHeartbeats 4000000 in
set_option maxRecDepth 100000 in
theorem check_any (a b c : Int) (w : World) : Calls Try.prog 11 #[.agg #[.int .i64 a, .int .i64 b, .int .i64 c]] w (Num (Ge.ck a b c) w) := by
  obtain ⟨w0, hw0⟩ : ∃ x, x = w.alloc (GBox a b c) := ⟨_, rfl⟩
  have B0 : Hid (Below w.heap.size w w0) := by show Below _ _ _; rw [hw0]; exact (Below.refl _ w).alloc (Nat.le_refl _) _
  have X0 : Hid (Bx w0 w.heap.size a b c) := by show Bx _ _ _ _ _; rw [hw0]; exact bx_of (heap_alloc_new w _)
  have KW : ∀ y g, y.heap[g]? = some (SBox [(a, 16, 32), (b, 32, 64), (c, 1, 64)]) → Calls Try.prog 25 #[.slice (some ⟨g, 0, none⟩) 3 3] y fun e w' => e = .returned (.bool (decide (Ge.sz a b c))) ∧ Below y.heap.size y w' := fun y g hg => by
    have h := within_any [(a, 16, 32), (b, 32, 64), (c, 1, 64)] 3 rfl (by omega) g y hg
    rw [sz_all] at h
    exact h
  obtain ⟨R, hR⟩ : ∃ R, Hid (Ge.ck a b c = R) := ⟨_, rfl⟩
  rw [hR.out]
  go_enter Try.func11, Try.ntmps11
  go_upto_region 1 with (fail)
  unfold GBox at hw0
  rw [← hw0]
  clear hw0
  obtain ⟨x00, x01, x02⟩ := X0.out
  go_upto_region 2 with (go_at_call 25; refine (KW _ _ (heap_alloc_new _ _)).mono ?_; rintro e1 w1 ⟨rfl, hb1⟩; have B1 : Hid (Below w0.heap.size w0 w1) := Lib.hid (((Below.refl _ w0).alloc (Nat.le_refl _) _).trans (hb1.mono (by simp))); clear hb1)
  have hL : ∀ y, Below w0.heap.size w0 y → Bx y w.heap.size a b c := fun y hy => X0.out.old hy
  have HX := Lib.hid hL
  clear hL X0 x00 x01 x02
  by_cases hs : Ge.sz a b c
  · have HS := Lib.hid hs
    obtain ⟨⟨ha0, ha1⟩, ⟨hb0, hb1⟩, hc0, hc1⟩ := hs
    have h1 := Ge.nd_in b c hb0 (by omega) hc1
    have h2 := Ge.ln_in b hb0 hb1
    have h3 := Ge.room_in a b c HS.out
    obtain ⟨N, hN⟩ : ∃ N, Hid (Ge.nd b c = N) := ⟨_, rfl⟩
    obtain ⟨M, hM⟩ : ∃ N, Hid (Ge.ln b = N) := ⟨_, rfl⟩
    have hR2 : Hid (R = if c + 9 < (a - N - 14) * (M + 1) then 0 else 15) := by
      show _ = _
      rw [← hR.out, ← hN.out, ← hM.out]
      by_cases h : c + 9 < Ge.room a b c
      · have ho : Ge.ok a b c := ⟨HS.out, h⟩
        have h' : c + 9 < (a - Ge.nd b c - 14) * (Ge.ln b + 1) := h
        unfold Ge.ck
        rw [if_pos ho, if_pos h']
      · have ho : ¬ Ge.ok a b c := fun q => h q.2
        have h' : ¬ c + 9 < (a - Ge.nd b c - 14) * (Ge.ln b + 1) := h
        unfold Ge.ck
        rw [if_neg ho, if_neg h']
    have KN : ∀ y, Below w0.heap.size w0 y → Calls Try.prog 26 #[.agg #[.int .i64 a, .int .i64 b, .int .i64 c], .int .i64 c] y fun e w' => e = .returned (.int .i64 N) ∧ Hid (Below w0.heap.size w0 w') := fun y hy => by
      rw [← hN.out]
      refine (need_in a b c c ⟨hb0, hb1⟩ ⟨by omega, hc1⟩ y).mono ?_
      rintro e w' ⟨rfl, hb⟩
      exact ⟨rfl, hy.trans (hb.mono hy.size)⟩
    have KL : ∀ y, Below w0.heap.size w0 y → Calls Try.prog 27 #[.agg #[.int .i64 a, .int .i64 b, .int .i64 c]] y fun e w' => e = .returned (.int .i64 M) ∧ Hid (Below w0.heap.size w0 w') := fun y hy => by
      rw [← hM.out]
      refine (lean_any a b c ⟨hb0, hb1⟩ y).mono ?_
      rintro e w' ⟨rfl, hb⟩
      exact ⟨rfl, hy.trans (hb.mono hy.size)⟩
    rw [hN.out] at h1
    rw [hM.out] at h2
    have h4 := h3
    unfold Ge.room at h4
    rw [hN.out, hM.out] at h4
    have hw1 : IntKind.i64.wrap (c + 9) = c + 9 := IntWalk.i64_in _ ⟨by omega, by omega⟩
    have hw2 : IntKind.i64.wrap (a - N) = a - N := IntWalk.i64_in _ ⟨by omega, by omega⟩
    have hw3 : IntKind.i64.wrap (a - N - 14) = a - N - 14 := IntWalk.i64_in _ ⟨by omega, by omega⟩
    have hw4 : IntKind.i64.wrap (M + 1) = M + 1 := IntWalk.i64_in _ ⟨by omega, by omega⟩
    have hw5 : IntKind.i64.wrap ((a - N - 14) * (M + 1)) = (a - N - 14) * (M + 1) := IntWalk.i64_in _ ⟨by omega, by omega⟩
    obtain ⟨X, hX⟩ : ∃ X, (a - N - 14) * (M + 1) = X := ⟨_, rfl⟩
    rw [hX] at hw5
    have hR3 : Hid (R = if c + 9 < X then 0 else 15) := by show _ = _; rw [← hX]; exact hR2.out
    clear h3 h4 hR2
    have hd : decide (Ge.sz a b c) = true := decide_eq_true HS.out
    rw [hd]
    have BB : Hid (Below w0.heap.size w0 w1.drew) := Lib.hid B1.out.drew
    go_region_held3 (fun y => y.cell? ⟨w.heap.size, 0, none⟩ = some (.int .i64 a) ∧ y.cell? ⟨w.heap.size, 1, none⟩ = some (.int .i64 b) ∧ y.cell? ⟨w.heap.size, 2, none⟩ = some (.int .i64 c))
      (exact HX.out _ (Hid.out (by assumption)))
      ((first
        | (go_at_call 26; refine (KN _ (Hid.out (by assumption))).mono ?_; rintro e1 w1 ⟨rfl, hb1⟩; clear BB; have BB := hb1; clear hb1)
        | (go_at_call 27; refine (KL _ (Hid.out (by assumption))).mono ?_; rintro e1 w1 ⟨rfl, hb1⟩; clear BB; have BB := hb1; clear hb1)))
    by_cases hx : c + 9 < X
    · have hx' : ¬ X ≤ c + 9 := by omega
      have hR0 : R = 0 := by rw [hR3.out, if_pos hx]
      go_wp2
      go_ret
      exact ⟨by first | rfl | (rw [hR0]; rfl), B0.out.trans (BB.out.mono B0.out.size)⟩
    · have hx' : X ≤ c + 9 := by omega
      have hR0 : R = 15 := by rw [hR3.out, if_neg hx]
      go_wp2
      go_ret
      exact ⟨by first | rfl | (rw [hR0]; rfl), B0.out.trans (BB.out.mono B0.out.size)⟩
  · have hd : decide (Ge.sz a b c) = false := decide_eq_false hs
    have hR0 : R = 15 := by rw [← hR.out]; unfold Ge.ck; exact if_neg (fun q => hs q.1)
    rw [hd]
    go_quiet ((fail))
    go_wp2
    go_ret
    exact ⟨by rw [hR0]; rfl, B0.out.trans ((below_dn B1.out nq).mono B0.out.size)⟩
end Go.Proofs.Ytohphehbfbobnaa

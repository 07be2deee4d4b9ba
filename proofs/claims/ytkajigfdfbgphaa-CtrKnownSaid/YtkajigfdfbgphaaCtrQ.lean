/-
  rilllaw04.CtrKnown walked.
-/
import Derived.Test.YtkajigfdfbgphaaCtrL
import Derived.Test.YtkajigfdfbgphaaCtrK
namespace Go.Proofs.Ytkajigfdfbgphaa
open Go.RowKit

def lsv : List Int := [0, 1, 15, 16, 17, 31, 32, 33, 255, 256, 257, 4096, 4100]
def nsv : List Int := [-9223372036854775808, -1, 0, 1, 255, 256, 1099511627776, 281474976710655, 281474976710656, 9223372036854775807]
/-- The two rows of numbers stand. -/
def Two (A : Nat) (x : World) : Prop := x.heap[A]? = some (.cells (lsv.map (Value.int .i64)).toArray 3 (0, 0)) ∧ x.heap[A + 1]? = some (.cells (nsv.map (Value.int .i64)).toArray 3 (0, 0))
theorem Two.stays {A : Nat} {x y : World} (h : Two A x) (hb : Below x.heap.size x y) : Two A y := ⟨(hb.block _ (lt_of_block h.1)).trans h.1, (hb.block _ (lt_of_block h.2)).trans h.2⟩
theorem i64_cell {w : World} {g : Nat} {l : List Int} {t : TypeId} {fr : Nat × Nat} (h : w.heap[g]? = some (.cells (l.map (Value.int .i64)).toArray t fr)) (j : Nat) (hj : j < l.length) : w.cell? ⟨g, j, none⟩ = some (.int .i64 (l.getD j 0)) := by
  rw [cell_of_row w g j _ _ _ h]
  simp [List.getD_eq_getElem?_getD, hj]
theorem lsv_nat (i : Nat) (h : i < 13) : ∃ k : Nat, lsv.getD i 0 = (k : Int) ∧ k ≤ 5000 := by
  refine ⟨(lsv.getD i 0).toNat, ?_, ?_⟩
  all_goals
    rcases (by omega : i = 0 ∨ i = 1 ∨ i = 2 ∨ i = 3 ∨ i = 4 ∨ i = 5 ∨ i = 6 ∨ i = 7 ∨ i = 8 ∨ i = 9 ∨ i = 10 ∨ i = 11 ∨ i = 12) with rfl | rfl | rfl | rfl | rfl | rfl | rfl | rfl | rfl | rfl | rfl | rfl | rfl <;> decide
theorem turns4_row (g k n : Nat) (_hn : n ≤ 8192) (e f : Int) (x : World) (hk : k ≤ 100) (h1 : BAt x (some ⟨g, 0, none⟩) (rowl k)) (g2 : Nat) (h2 : BAt x (some ⟨g2, 0, none⟩) (rowl n)) :
    Calls Try.prog 4 #[.slice (some ⟨g, 0, none⟩) k k, .int .i64 e, .int .i64 f, .slice (some ⟨g2, 0, none⟩) n n] x (YesSay x) := by
  have h := turns4_any (rowl k) (some ⟨g, 0, none⟩) k (by rw [rowl_len]; exact Nat.le_refl _) (by omega) e f (rowl n) (some ⟨g2, 0, none⟩) n x h1 h2
  rw [rowl_len, rowl_len] at h
  exact h
theorem back_row (g k n : Nat) (_hn : n ≤ 8192) (e f : Int) (x : World) (hk : k ≤ 100) (h1 : BAt x (some ⟨g, 0, none⟩) (rowl k)) (g2 : Nat) (h2 : BAt x (some ⟨g2, 0, none⟩) (rowl n)) :
    Calls Try.prog 5 #[.slice (some ⟨g, 0, none⟩) k k, .int .i64 e, .int .i64 f, .slice (some ⟨g2, 0, none⟩) n n] x (YesSay x) := by
  have h := back_any (rowl k) (some ⟨g, 0, none⟩) k (by rw [rowl_len]; exact Nat.le_refl _) (by omega) e f (rowl n) (some ⟨g2, 0, none⟩) n x h1 h2 (fun h => by cases h)
  rw [rowl_len, rowl_len] at h
  exact h
theorem cut_row (g k n : Nat) (_hn : n ≤ 8192) (e f m : Int) (x : World) (hk : k ≤ 100) (h1 : BAt x (some ⟨g, 0, none⟩) (rowl k)) (g2 : Nat) (h2 : BAt x (some ⟨g2, 0, none⟩) (rowl n)) :
    Calls Try.prog 6 #[.slice (some ⟨g, 0, none⟩) k k, .int .i64 e, .int .i64 f, .slice (some ⟨g2, 0, none⟩) n n, .int .i64 m] x (YesSay x) := by
  have h := cut_any (rowl k) (some ⟨g, 0, none⟩) k (by rw [rowl_len]; exact Nat.le_refl _) (by omega) e f (rowl n) (some ⟨g2, 0, none⟩) n m x h1 h2 (fun h => by cases h) (by rw [rowl_len]; exact Nat.le_refl _)
  rw [rowl_len, rowl_len] at h
  exact h
attribute [irreducible] lsv nsv

set_option maxHeartbeats 4000000 in
set_option maxRecDepth 100000 in
theorem ctrknown_any (w : World) : Calls Try.prog 7 #[] w (YesSay w) := by
  have HLL : Hid (lsv.length = 13) := by unfold lsv; rfl
  have HNL : Hid (nsv.length = 10) := by unfold nsv; rfl
  go_enter Try.func7, Try.ntmps7
  go_upto_region 3 with fail
  have H0 : Hid (Two w.heap.size ((w.alloc (.cells #[.int .i64 0, .int .i64 1, .int .i64 15, .int .i64 16, .int .i64 17, .int .i64 31, .int .i64 32, .int .i64 33, .int .i64 255, .int .i64 256, .int .i64 257, .int .i64 4096, .int .i64 4100] 3)).alloc (.cells #[.int .i64 (-9223372036854775808), .int .i64 (-1), .int .i64 0, .int .i64 1, .int .i64 255, .int .i64 256, .int .i64 1099511627776, .int .i64 281474976710655, .int .i64 281474976710656, .int .i64 9223372036854775807] 3))) := by
    unfold Two lsv nsv
    exact ⟨heap_alloc2_old w _ _, heap_alloc2_new w _ _⟩
  have B0 : Hid (Below w.heap.size w ((w.alloc (.cells #[.int .i64 0, .int .i64 1, .int .i64 15, .int .i64 16, .int .i64 17, .int .i64 31, .int .i64 32, .int .i64 33, .int .i64 255, .int .i64 256, .int .i64 257, .int .i64 4096, .int .i64 4100] 3)).alloc (.cells #[.int .i64 (-9223372036854775808), .int .i64 (-1), .int .i64 0, .int .i64 1, .int .i64 255, .int .i64 256, .int .i64 1099511627776, .int .i64 281474976710655, .int .i64 281474976710656, .int .i64 9223372036854775807] 3))) := ((Below.refl _ w).alloc (Nat.le_refl _) _).alloc (by simp) _
  generalize (w.alloc (.cells #[.int .i64 0, .int .i64 1, .int .i64 15, .int .i64 16, .int .i64 17, .int .i64 31, .int .i64 32, .int .i64 33, .int .i64 255, .int .i64 256, .int .i64 257, .int .i64 4096, .int .i64 4100] 3)).alloc (.cells #[.int .i64 (-9223372036854775808), .int .i64 (-1), .int .i64 0, .int .i64 1, .int .i64 255, .int .i64 256, .int .i64 1099511627776, .int .i64 281474976710655, .int .i64 281474976710656, .int .i64 9223372036854775807] 3) = w0 at *
  go_wp2
  go_loopw [3] (fun v3 wr => ∃ i : Nat, i ≤ 13 ∧ v3 = .int .i64 i ∧ Hid (Two w.heap.size wr) ∧ Hid (Below w.heap.size w wr)) (fun v3 _ => 13 - (intOf v3).toNat)
  case atStart => exact ⟨0, by omega, rfl, H0.out, B0.out⟩
  case round =>
    clear H0 B0
    obtain ⟨i, hi, rfl, H1, B1⟩ := hrel
    by_cases hlt : i < 13
    · have hii : (i : Int) < 13 := by omega
      obtain ⟨L, hL, hL2⟩ := lsv_nat i hlt
      have HL := Lib.hid hL
      clear hL
      go_wp2
      obtain ⟨wo, rfl⟩ : ∃ wo : World, wo = wr := ⟨_, rfl⟩
      go_loopw [4] (fun v4 wr => ∃ j : Nat, j ≤ 10 ∧ v4 = .int .i64 j ∧ Hid (Two w.heap.size wr) ∧ Hid (Below w.heap.size w wr)) (fun v4 _ => 10 - (intOf v4).toNat)
      case atStart => exact ⟨0, by omega, rfl, H1.out, B1.out⟩
      case round =>
        clear H1 B1
        obtain ⟨j, hj, rfl, H2, B2⟩ := hrel
        by_cases hjl : j < 10
        · have hji : (j : Int) < 10 := by omega
          go_upto_region 9 with fail
          refine wp_region_any (by kernel_rfl) ?_
          change wpAny _ _ _ _ _ _ _ (World.drew _)
          have T0 : Hid (Two w.heap.size wr.drew) := H2.out
          have R0 : Hid (Below w.heap.size w wr.drew) := B2.out.drew
          clear H2 B2
          generalize wr.drew = y0 at *
          obtain ⟨e, he⟩ : ∃ e, Hid (nsv.getD j 0 = e) := ⟨_, rfl⟩
          obtain ⟨f, hf⟩ : ∃ e, Hid (nsv.getD (9 - j) 0 = e) := ⟨_, rfl⟩
          have CL : Hid (∀ x, Two w.heap.size x → x.cell? ⟨w.heap.size, i, none⟩ = some (.int .i64 (L : Int))) := fun x h => by
            rw [i64_cell h.1 i (by rw [HLL.out]; exact hlt), HL.out]
          have CE : Hid (∀ x, Two w.heap.size x → x.cell? ⟨w.heap.size + 1, j, none⟩ = some (.int .i64 e)) := fun x h => by
            rw [i64_cell h.2 j (by rw [HNL.out]; exact hjl), he.out]
          have CF : Hid (∀ x, Two w.heap.size x → x.cell? ⟨w.heap.size + 1, 9 - j, none⟩ = some (.int .i64 f)) := fun x h => by
            rw [i64_cell h.2 (9 - j) (by rw [HNL.out]; omega), hf.out]
          have hw : IntKind.i64.wrap (9 - (j : Int)) = 9 - (j : Int) := IntWalk.i64_in _ ⟨by omega, by omega⟩
          have hx1 : 0 ≤ 9 - (j : Int) := by omega
          have hw9 : IntKind.i64.wrap 9 = 9 := by decide
          have hx2 : 9 - (j : Int) < 10 := by omega
          have hx3 : (9 - (j : Int)).toNat = 9 - j := by omega
          have hw2 : IntKind.i64.wrap ((j : Int) * 7) = (j : Int) * 7 := IntWalk.i64_in _ ⟨by omega, by omega⟩
          refine wpAny_of_held (S := Two w.heap.size) _ _ _ _ ?_
          refine anyH_take 1 20 (.slice (some ⟨w.heap.size + 1, 0, none⟩) 10 10) T0.out rfl (by kernel_rfl) (by kernel_rfl) (by kernel_rfl) (fun _ _ _ h => h) (by rfl) (by intro x hx; go_simp; try (intro h; omega)) ?_
          try simp only [Act.put, List.setIfInBounds_toArray, List.set_cons_zero, List.set_cons_succ]
          refine anyH_take 2 21 (.int .i64 j) T0.out rfl (by kernel_rfl) (by kernel_rfl) (by kernel_rfl) (fun _ _ _ h => h) (by rfl) (by intro x hx; go_simp; try (intro h; omega)) ?_
          try simp only [Act.put, List.setIfInBounds_toArray, List.set_cons_zero, List.set_cons_succ]
          refine anyH_take 3 22 (.pointer (some ⟨w.heap.size + 1, j, none⟩)) T0.out rfl (by kernel_rfl) (by kernel_rfl) (by kernel_rfl) (fun _ _ _ h => h) (by rfl) (by intro x hx; go_simp; try (intro h; omega)) ?_
          try simp only [Act.put, List.setIfInBounds_toArray, List.set_cons_zero, List.set_cons_succ]
          refine anyH_take 4 23 (.int .i64 e) T0.out rfl (by kernel_rfl) (by kernel_rfl) (by kernel_rfl) (fun _ _ _ h => h) (by rfl) (by intro x hx; have c := CE.out x hx; go_simp; try (intro h; omega)) ?_
          try simp only [Act.put, List.setIfInBounds_toArray, List.set_cons_zero, List.set_cons_succ]
          refine anyH_take 5 24 (.slice (some ⟨w.heap.size + 1, 0, none⟩) 10 10) T0.out rfl (by kernel_rfl) (by kernel_rfl) (by kernel_rfl) (fun _ _ _ h => h) (by rfl) (by intro x hx; go_simp; try (intro h; omega)) ?_
          try simp only [Act.put, List.setIfInBounds_toArray, List.set_cons_zero, List.set_cons_succ]
          refine anyH_take 6 25 (.slice (some ⟨w.heap.size + 1, 0, none⟩) 10 10) T0.out rfl (by kernel_rfl) (by kernel_rfl) (by kernel_rfl) (fun _ _ _ h => h) (by rfl) (by intro x hx; go_simp; try (intro h; omega)) ?_
          try simp only [Act.put, List.setIfInBounds_toArray, List.set_cons_zero, List.set_cons_succ]
          refine anyH_take 7 26 (.int .i64 10) T0.out rfl (by kernel_rfl) (by kernel_rfl) (by kernel_rfl) (fun _ _ _ h => h) (by rfl) (by intro x hx; go_simp; try (intro h; omega)) ?_
          try simp only [Act.put, List.setIfInBounds_toArray, List.set_cons_zero, List.set_cons_succ]
          refine anyH_take 8 27 (.int .i64 9) T0.out rfl (by kernel_rfl) (by kernel_rfl) (by kernel_rfl) (fun _ _ _ h => h) (by rfl) (by intro x hx; go_simp; try (intro h; omega)) ?_
          try simp only [Act.put, List.setIfInBounds_toArray, List.set_cons_zero, List.set_cons_succ]
          refine anyH_take 9 28 (.int .i64 j) T0.out rfl (by kernel_rfl) (by kernel_rfl) (by kernel_rfl) (fun _ _ _ h => h) (by rfl) (by intro x hx; go_simp; try (intro h; omega)) ?_
          try simp only [Act.put, List.setIfInBounds_toArray, List.set_cons_zero, List.set_cons_succ]
          refine anyH_take 10 29 (.int .i64 (9 - (j : Int))) T0.out rfl (by kernel_rfl) (by kernel_rfl) (by kernel_rfl) (fun _ _ _ h => h) (by rfl) (by intro x hx; go_simp; try (intro h; omega)) ?_
          try simp only [Act.put, List.setIfInBounds_toArray, List.set_cons_zero, List.set_cons_succ]
          refine anyH_take 11 30 (.pointer (some ⟨w.heap.size + 1, 9 - j, none⟩)) T0.out rfl (by kernel_rfl) (by kernel_rfl) (by kernel_rfl) (fun _ _ _ h => h) (by rfl) (by intro x hx; go_simp; try (intro h; omega)) ?_
          try simp only [Act.put, List.setIfInBounds_toArray, List.set_cons_zero, List.set_cons_succ]
          refine anyH_take 12 31 (.int .i64 f) T0.out rfl (by kernel_rfl) (by kernel_rfl) (by kernel_rfl) (fun _ _ _ h => h) (by rfl) (by intro x hx; have c := CF.out x hx; go_simp; try (intro h; omega)) ?_
          try simp only [Act.put, List.setIfInBounds_toArray, List.set_cons_zero, List.set_cons_succ]
          refine anyH_take 13 32 (.slice (some ⟨w.heap.size, 0, none⟩) 13 13) T0.out rfl (by kernel_rfl) (by kernel_rfl) (by kernel_rfl) (fun _ _ _ h => h) (by rfl) (by intro x hx; go_simp; try (intro h; omega)) ?_
          try simp only [Act.put, List.setIfInBounds_toArray, List.set_cons_zero, List.set_cons_succ]
          refine anyH_take 14 33 (.int .i64 i) T0.out rfl (by kernel_rfl) (by kernel_rfl) (by kernel_rfl) (fun _ _ _ h => h) (by rfl) (by intro x hx; go_simp; try (intro h; omega)) ?_
          try simp only [Act.put, List.setIfInBounds_toArray, List.set_cons_zero, List.set_cons_succ]
          refine anyH_take 15 34 (.pointer (some ⟨w.heap.size, i, none⟩)) T0.out rfl (by kernel_rfl) (by kernel_rfl) (by kernel_rfl) (fun _ _ _ h => h) (by rfl) (by intro x hx; go_simp; try (intro h; omega)) ?_
          try simp only [Act.put, List.setIfInBounds_toArray, List.set_cons_zero, List.set_cons_succ]
          refine anyH_take 16 35 (.int .i64 L) T0.out rfl (by kernel_rfl) (by kernel_rfl) (by kernel_rfl) (fun _ _ _ h => h) (by rfl) (by intro x hx; have c := CL.out x hx; go_simp; try (intro h; omega)) ?_
          try simp only [Act.put, List.setIfInBounds_toArray, List.set_cons_zero, List.set_cons_succ]
          refine anyH_one 0 (by kernel_rfl) ?_
          refine wpOp_step rfl (fun Kc hKc => ?_)
          go_simp
          refine (row_any 16 (by omega) _).mono ?_
          rintro r y1 ⟨g1, rfl, G1, hb⟩
          have T1 : Hid (Two w.heap.size y1) := T0.out.stays hb
          have R1 : Hid (Below w.heap.size w y1) := R0.out.trans (hb.mono R0.out.size)
          clear hb
          dsimp only
          refine hKc _ _ ⟨T1.out, ?_⟩
          clear hKc Kc
          try simp only [Act.put, List.setIfInBounds_toArray, List.set_cons_zero, List.set_cons_succ]
          refine anyH_one 17 (by kernel_rfl) ?_
          refine wpOp_step rfl (fun Kc hKc => ?_)
          go_simp
          refine (row_any L (by omega) _).mono ?_
          rintro r y2 ⟨g2, rfl, G2, hb⟩
          have T2 : Hid (Two w.heap.size y2) := T1.out.stays hb
          have R2 : Hid (Below w.heap.size w y2) := R1.out.trans (hb.mono R1.out.size)
          have G12 : Hid (BAt y2 (some ⟨g1, 0, none⟩) (rowl 16)) := G1.out.old hb
          clear hb
          dsimp only
          refine hKc _ _ ⟨T2.out, ?_⟩
          clear hKc Kc
          try simp only [Act.put, List.setIfInBounds_toArray, List.set_cons_zero, List.set_cons_succ]
          refine anyH_one 18 (by kernel_rfl) ?_
          refine wpOp_step rfl (fun Kc hKc => ?_)
          go_simp
          refine (turns4_row g1 16 L (by omega) e f _ (by omega) G12.out g2 G2.out).mono ?_
          rintro r y3 ⟨rfl, hb⟩
          have T3 : Hid (Two w.heap.size y3) := T2.out.stays hb
          have R3 : Hid (Below w.heap.size w y3) := R2.out.trans (hb.mono R2.out.size)
          clear hb
          dsimp only
          refine hKc _ _ ⟨T3.out, ?_⟩
          clear hKc Kc
          try simp only [Act.put, List.setIfInBounds_toArray, List.set_cons_zero, List.set_cons_succ]
          clear G1 G2 G12
          refine anyH_take 19 38 (.bool false) T3.out rfl (by kernel_rfl) (by kernel_rfl) (by kernel_rfl) (fun _ _ _ h => h) (by rfl) (by intro x hx; go_simp; try (intro h; omega)) ?_
          try simp only [Act.put, List.setIfInBounds_toArray, List.set_cons_zero, List.set_cons_succ]
          refine anyH_take 20 39 (.bool false) T3.out rfl (by kernel_rfl) (by kernel_rfl) (by kernel_rfl) (fun _ _ _ h => h) (by rfl) (by intro x hx; go_simp; try (intro h; omega)) ?_
          try simp only [Act.put, List.setIfInBounds_toArray, List.set_cons_zero, List.set_cons_succ]
          refine anyH_take 22 41 (.slice (some ⟨w.heap.size + 1, 0, none⟩) 10 10) T3.out rfl (by kernel_rfl) (by kernel_rfl) (by kernel_rfl) (fun _ _ _ h => h) (by rfl) (by intro x hx; go_simp; try (intro h; omega)) ?_
          try simp only [Act.put, List.setIfInBounds_toArray, List.set_cons_zero, List.set_cons_succ]
          refine anyH_take 23 42 (.int .i64 j) T3.out rfl (by kernel_rfl) (by kernel_rfl) (by kernel_rfl) (fun _ _ _ h => h) (by rfl) (by intro x hx; go_simp; try (intro h; omega)) ?_
          try simp only [Act.put, List.setIfInBounds_toArray, List.set_cons_zero, List.set_cons_succ]
          refine anyH_take 24 43 (.pointer (some ⟨w.heap.size + 1, j, none⟩)) T3.out rfl (by kernel_rfl) (by kernel_rfl) (by kernel_rfl) (fun _ _ _ h => h) (by rfl) (by intro x hx; go_simp; try (intro h; omega)) ?_
          try simp only [Act.put, List.setIfInBounds_toArray, List.set_cons_zero, List.set_cons_succ]
          refine anyH_take 25 44 (.int .i64 e) T3.out rfl (by kernel_rfl) (by kernel_rfl) (by kernel_rfl) (fun _ _ _ h => h) (by rfl) (by intro x hx; have c := CE.out x hx; go_simp; try (intro h; omega)) ?_
          try simp only [Act.put, List.setIfInBounds_toArray, List.set_cons_zero, List.set_cons_succ]
          refine anyH_take 26 45 (.slice (some ⟨w.heap.size, 0, none⟩) 13 13) T3.out rfl (by kernel_rfl) (by kernel_rfl) (by kernel_rfl) (fun _ _ _ h => h) (by rfl) (by intro x hx; go_simp; try (intro h; omega)) ?_
          try simp only [Act.put, List.setIfInBounds_toArray, List.set_cons_zero, List.set_cons_succ]
          refine anyH_take 27 46 (.int .i64 i) T3.out rfl (by kernel_rfl) (by kernel_rfl) (by kernel_rfl) (fun _ _ _ h => h) (by rfl) (by intro x hx; go_simp; try (intro h; omega)) ?_
          try simp only [Act.put, List.setIfInBounds_toArray, List.set_cons_zero, List.set_cons_succ]
          refine anyH_take 28 47 (.pointer (some ⟨w.heap.size, i, none⟩)) T3.out rfl (by kernel_rfl) (by kernel_rfl) (by kernel_rfl) (fun _ _ _ h => h) (by rfl) (by intro x hx; go_simp; try (intro h; omega)) ?_
          try simp only [Act.put, List.setIfInBounds_toArray, List.set_cons_zero, List.set_cons_succ]
          refine anyH_take 29 48 (.int .i64 L) T3.out rfl (by kernel_rfl) (by kernel_rfl) (by kernel_rfl) (fun _ _ _ h => h) (by rfl) (by intro x hx; have c := CL.out x hx; go_simp; try (intro h; omega)) ?_
          try simp only [Act.put, List.setIfInBounds_toArray, List.set_cons_zero, List.set_cons_succ]
          refine anyH_take 30 49 (.slice (some ⟨w.heap.size, 0, none⟩) 13 13) T3.out rfl (by kernel_rfl) (by kernel_rfl) (by kernel_rfl) (fun _ _ _ h => h) (by rfl) (by intro x hx; go_simp; try (intro h; omega)) ?_
          try simp only [Act.put, List.setIfInBounds_toArray, List.set_cons_zero, List.set_cons_succ]
          refine anyH_take 31 50 (.int .i64 i) T3.out rfl (by kernel_rfl) (by kernel_rfl) (by kernel_rfl) (fun _ _ _ h => h) (by rfl) (by intro x hx; go_simp; try (intro h; omega)) ?_
          try simp only [Act.put, List.setIfInBounds_toArray, List.set_cons_zero, List.set_cons_succ]
          refine anyH_take 32 51 (.pointer (some ⟨w.heap.size, i, none⟩)) T3.out rfl (by kernel_rfl) (by kernel_rfl) (by kernel_rfl) (fun _ _ _ h => h) (by rfl) (by intro x hx; go_simp; try (intro h; omega)) ?_
          try simp only [Act.put, List.setIfInBounds_toArray, List.set_cons_zero, List.set_cons_succ]
          refine anyH_take 33 52 (.int .i64 L) T3.out rfl (by kernel_rfl) (by kernel_rfl) (by kernel_rfl) (fun _ _ _ h => h) (by rfl) (by intro x hx; have c := CL.out x hx; go_simp; try (intro h; omega)) ?_
          try simp only [Act.put, List.setIfInBounds_toArray, List.set_cons_zero, List.set_cons_succ]
          refine anyH_one 21 (by kernel_rfl) ?_
          refine wpOp_step rfl (fun Kc hKc => ?_)
          go_simp
          refine (row_any 32 (by omega) _).mono ?_
          rintro r y4 ⟨g3, rfl, G3, hb⟩
          have T4 : Hid (Two w.heap.size y4) := T3.out.stays hb
          have R4 : Hid (Below w.heap.size w y4) := R3.out.trans (hb.mono R3.out.size)
          clear hb
          dsimp only
          refine hKc _ _ ⟨T4.out, ?_⟩
          clear hKc Kc
          try simp only [Act.put, List.setIfInBounds_toArray, List.set_cons_zero, List.set_cons_succ]
          refine anyH_one 34 (by kernel_rfl) ?_
          refine wpOp_step rfl (fun Kc hKc => ?_)
          go_simp
          refine (row_any L (by omega) _).mono ?_
          rintro r y5 ⟨g4, rfl, G4, hb⟩
          have T5 : Hid (Two w.heap.size y5) := T4.out.stays hb
          have R5 : Hid (Below w.heap.size w y5) := R4.out.trans (hb.mono R4.out.size)
          have G34 : Hid (BAt y5 (some ⟨g3, 0, none⟩) (rowl 32)) := G3.out.old hb
          clear hb
          dsimp only
          refine hKc _ _ ⟨T5.out, ?_⟩
          clear hKc Kc
          try simp only [Act.put, List.setIfInBounds_toArray, List.set_cons_zero, List.set_cons_succ]
          refine anyH_one 35 (by kernel_rfl) ?_
          refine wpOp_step rfl (fun Kc hKc => ?_)
          go_simp
          refine (back_row g3 32 L (by omega) e L _ (by omega) G34.out g4 G4.out).mono ?_
          rintro r y6 ⟨rfl, hb⟩
          have T6 : Hid (Two w.heap.size y6) := T5.out.stays hb
          have R6 : Hid (Below w.heap.size w y6) := R5.out.trans (hb.mono R5.out.size)
          clear hb
          dsimp only
          refine hKc _ _ ⟨T6.out, ?_⟩
          clear hKc Kc
          try simp only [Act.put, List.setIfInBounds_toArray, List.set_cons_zero, List.set_cons_succ]
          clear G3 G4 G34
          refine anyH_take 36 55 (.bool false) T6.out rfl (by kernel_rfl) (by kernel_rfl) (by kernel_rfl) (fun _ _ _ h => h) (by rfl) (by intro x hx; go_simp; try (intro h; omega)) ?_
          try simp only [Act.put, List.setIfInBounds_toArray, List.set_cons_zero, List.set_cons_succ]
          refine anyH_take 37 56 (.bool false) T6.out rfl (by kernel_rfl) (by kernel_rfl) (by kernel_rfl) (fun _ _ _ h => h) (by rfl) (by intro x hx; go_simp; try (intro h; omega)) ?_
          try simp only [Act.put, List.setIfInBounds_toArray, List.set_cons_zero, List.set_cons_succ]
          refine anyH_take 38 57 (.bool false) T6.out rfl (by kernel_rfl) (by kernel_rfl) (by kernel_rfl) (fun _ _ _ h => h) (by rfl) (by intro x hx; go_simp; try (intro h; omega)) ?_
          try simp only [Act.put, List.setIfInBounds_toArray, List.set_cons_zero, List.set_cons_succ]
          refine anyH_take 40 59 (.slice (some ⟨w.heap.size + 1, 0, none⟩) 10 10) T6.out rfl (by kernel_rfl) (by kernel_rfl) (by kernel_rfl) (fun _ _ _ h => h) (by rfl) (by intro x hx; go_simp; try (intro h; omega)) ?_
          try simp only [Act.put, List.setIfInBounds_toArray, List.set_cons_zero, List.set_cons_succ]
          refine anyH_take 41 60 (.int .i64 j) T6.out rfl (by kernel_rfl) (by kernel_rfl) (by kernel_rfl) (fun _ _ _ h => h) (by rfl) (by intro x hx; go_simp; try (intro h; omega)) ?_
          try simp only [Act.put, List.setIfInBounds_toArray, List.set_cons_zero, List.set_cons_succ]
          refine anyH_take 42 61 (.pointer (some ⟨w.heap.size + 1, j, none⟩)) T6.out rfl (by kernel_rfl) (by kernel_rfl) (by kernel_rfl) (fun _ _ _ h => h) (by rfl) (by intro x hx; go_simp; try (intro h; omega)) ?_
          try simp only [Act.put, List.setIfInBounds_toArray, List.set_cons_zero, List.set_cons_succ]
          refine anyH_take 43 62 (.int .i64 e) T6.out rfl (by kernel_rfl) (by kernel_rfl) (by kernel_rfl) (fun _ _ _ h => h) (by rfl) (by intro x hx; have c := CE.out x hx; go_simp; try (intro h; omega)) ?_
          try simp only [Act.put, List.setIfInBounds_toArray, List.set_cons_zero, List.set_cons_succ]
          refine anyH_take 44 63 (.slice (some ⟨w.heap.size + 1, 0, none⟩) 10 10) T6.out rfl (by kernel_rfl) (by kernel_rfl) (by kernel_rfl) (fun _ _ _ h => h) (by rfl) (by intro x hx; go_simp; try (intro h; omega)) ?_
          try simp only [Act.put, List.setIfInBounds_toArray, List.set_cons_zero, List.set_cons_succ]
          refine anyH_take 45 64 (.int .i64 j) T6.out rfl (by kernel_rfl) (by kernel_rfl) (by kernel_rfl) (fun _ _ _ h => h) (by rfl) (by intro x hx; go_simp; try (intro h; omega)) ?_
          try simp only [Act.put, List.setIfInBounds_toArray, List.set_cons_zero, List.set_cons_succ]
          refine anyH_take 46 65 (.pointer (some ⟨w.heap.size + 1, j, none⟩)) T6.out rfl (by kernel_rfl) (by kernel_rfl) (by kernel_rfl) (fun _ _ _ h => h) (by rfl) (by intro x hx; go_simp; try (intro h; omega)) ?_
          try simp only [Act.put, List.setIfInBounds_toArray, List.set_cons_zero, List.set_cons_succ]
          refine anyH_take 47 66 (.int .i64 e) T6.out rfl (by kernel_rfl) (by kernel_rfl) (by kernel_rfl) (fun _ _ _ h => h) (by rfl) (by intro x hx; have c := CE.out x hx; go_simp; try (intro h; omega)) ?_
          try simp only [Act.put, List.setIfInBounds_toArray, List.set_cons_zero, List.set_cons_succ]
          refine anyH_take 48 67 (.slice (some ⟨w.heap.size, 0, none⟩) 13 13) T6.out rfl (by kernel_rfl) (by kernel_rfl) (by kernel_rfl) (fun _ _ _ h => h) (by rfl) (by intro x hx; go_simp; try (intro h; omega)) ?_
          try simp only [Act.put, List.setIfInBounds_toArray, List.set_cons_zero, List.set_cons_succ]
          refine anyH_take 49 68 (.int .i64 i) T6.out rfl (by kernel_rfl) (by kernel_rfl) (by kernel_rfl) (fun _ _ _ h => h) (by rfl) (by intro x hx; go_simp; try (intro h; omega)) ?_
          try simp only [Act.put, List.setIfInBounds_toArray, List.set_cons_zero, List.set_cons_succ]
          refine anyH_take 50 69 (.pointer (some ⟨w.heap.size, i, none⟩)) T6.out rfl (by kernel_rfl) (by kernel_rfl) (by kernel_rfl) (fun _ _ _ h => h) (by rfl) (by intro x hx; go_simp; try (intro h; omega)) ?_
          try simp only [Act.put, List.setIfInBounds_toArray, List.set_cons_zero, List.set_cons_succ]
          refine anyH_take 51 70 (.int .i64 L) T6.out rfl (by kernel_rfl) (by kernel_rfl) (by kernel_rfl) (fun _ _ _ h => h) (by rfl) (by intro x hx; have c := CL.out x hx; go_simp; try (intro h; omega)) ?_
          try simp only [Act.put, List.setIfInBounds_toArray, List.set_cons_zero, List.set_cons_succ]
          refine anyH_take 53 72 (.int .i64 j) T6.out rfl (by kernel_rfl) (by kernel_rfl) (by kernel_rfl) (fun _ _ _ h => h) (by rfl) (by intro x hx; go_simp; try (intro h; omega)) ?_
          try simp only [Act.put, List.setIfInBounds_toArray, List.set_cons_zero, List.set_cons_succ]
          refine anyH_take 54 73 (.int .i64 ((j : Int) * 7)) T6.out rfl (by kernel_rfl) (by kernel_rfl) (by kernel_rfl) (fun _ _ _ h => h) (by rfl) (by intro x hx; go_simp; try (intro h; omega)) ?_
          try simp only [Act.put, List.setIfInBounds_toArray, List.set_cons_zero, List.set_cons_succ]
          refine anyH_one 39 (by kernel_rfl) ?_
          refine wpOp_step rfl (fun Kc hKc => ?_)
          go_simp
          refine (row_any 24 (by omega) _).mono ?_
          rintro r y7 ⟨g5, rfl, G5, hb⟩
          have T7 : Hid (Two w.heap.size y7) := T6.out.stays hb
          have R7 : Hid (Below w.heap.size w y7) := R6.out.trans (hb.mono R6.out.size)
          clear hb
          dsimp only
          refine hKc _ _ ⟨T7.out, ?_⟩
          clear hKc Kc
          try simp only [Act.put, List.setIfInBounds_toArray, List.set_cons_zero, List.set_cons_succ]
          refine anyH_one 52 (by kernel_rfl) ?_
          refine wpOp_step rfl (fun Kc hKc => ?_)
          go_simp
          refine (row_any L (by omega) _).mono ?_
          rintro r y8 ⟨g6, rfl, G6, hb⟩
          have T8 : Hid (Two w.heap.size y8) := T7.out.stays hb
          have R8 : Hid (Below w.heap.size w y8) := R7.out.trans (hb.mono R7.out.size)
          have G56 : Hid (BAt y8 (some ⟨g5, 0, none⟩) (rowl 24)) := G5.out.old hb
          clear hb
          dsimp only
          refine hKc _ _ ⟨T8.out, ?_⟩
          clear hKc Kc
          try simp only [Act.put, List.setIfInBounds_toArray, List.set_cons_zero, List.set_cons_succ]
          refine anyH_one 55 (by kernel_rfl) ?_
          refine wpOp_step rfl (fun Kc hKc => ?_)
          go_simp
          refine (cut_row g5 24 L (by omega) e e ((j : Int) * 7) _ (by omega) G56.out g6 G6.out).mono ?_
          rintro r y9 ⟨rfl, hb⟩
          have T9 : Hid (Two w.heap.size y9) := T8.out.stays hb
          have R9 : Hid (Below w.heap.size w y9) := R8.out.trans (hb.mono R8.out.size)
          clear hb
          dsimp only
          refine hKc _ _ ⟨T9.out, ?_⟩
          clear hKc Kc
          try simp only [Act.put, List.setIfInBounds_toArray, List.set_cons_zero, List.set_cons_succ]
          refine anyH_take 56 75 (.bool false) T9.out rfl (by kernel_rfl) (by kernel_rfl) (by kernel_rfl) (fun _ _ _ h => h) (by rfl) (by intro x hx; go_simp; try (intro h; omega)) ?_
          try simp only [Act.put, List.setIfInBounds_toArray, List.set_cons_zero, List.set_cons_succ]
          refine anyH_take 57 76 (.bool false) T9.out rfl (by kernel_rfl) (by kernel_rfl) (by kernel_rfl) (fun _ _ _ h => h) (by rfl) (by intro x hx; go_simp; try (intro h; omega)) ?_
          try simp only [Act.put, List.setIfInBounds_toArray, List.set_cons_zero, List.set_cons_succ]
          refine anyH_done (by kernel_rfl) ?_ _
          clear CL CE CF hf he HL
          go_wp2
          exact ⟨⟨j + 1, by omega, by go_num, T9.out, R9.out⟩, by simp [intOf]; omega⟩
        · have hji : (10 : Int) ≤ (j : Int) := by omega
          go_wp2
          exact ⟨⟨i + 1, by omega, by go_num, H2.out, B2.out⟩, by simp [intOf]; omega⟩
    · have hii : (13 : Int) ≤ (i : Int) := by omega
      go_wp2_with (go_at_call 17; refine (works_any _).mono ?_; rintro r w9 ⟨rfl, hb⟩; have R9 : Hid (Below w.heap.size w w9) := B1.out.trans (hb.mono B1.out.size); clear hb)
      go_ret
      exact ⟨rfl, R9.out⟩
end Go.Proofs.Ytkajigfdfbgphaa

/-
  GeoGrows walked.
-/
import Derived.Test.YtohphehbfbobnaaGeL
namespace Go.Proofs.Ytohphehbfbobnaa
open Go.RowKit

namespace Ge
theorem ok_less {a b c : Int} (h : ok a b c) (hc : 1 < c) : ok a b (c - 1) := by
  obtain ⟨⟨ha, hb, hc0, hc1⟩, hr⟩ := h
  refine ⟨⟨ha, hb, by omega, by omega⟩, ?_⟩
  have h1 := nd_mono b (c - 1) c hb (by omega)
  have h2 := ln_in b hb.1 hb.2
  have h3 : room a b c ≤ room a b (c - 1) := by
    unfold room
    exact Int.mul_le_mul_of_nonneg_right (by omega) (by omega)
  omega
theorem ok_more {a b c : Int} (h : ok a b c) (ha : a < 32) : ok (a + 1) b c := by
  obtain ⟨⟨ha0, hb, hc⟩, hr⟩ := h
  refine ⟨⟨by omega, hb, hc⟩, ?_⟩
  have h2 := ln_in b hb.1 hb.2
  have h3 : room a b c ≤ room (a + 1) b c := by
    unfold room
    exact Int.mul_le_mul_of_nonneg_right (by omega) (by omega)
  omega
end Ge
theorem at_more {a b c p q : Int} (h : Ge.ok a b c) (h' : Ge.ok (a + 1) b c) (hn : ¬ Ge.at_ a b c p q = 0) : Ge.at_ (a + 1) b c p q = Ge.at_ a b c p q := by
  have ht : Ge.there a b p q := by
    by_cases k : Ge.there a b p q
    · exact k
    · exact absurd (at_no (fun x => k x.2)) hn
  have ht' : Ge.there (a + 1) b p q := ⟨⟨ht.1.1, by have := ht.1.2; omega⟩, ht.2⟩
  rw [at_ok h ht, at_ok h' ht']
set_option maxHeartbeats 2000000 in
set_option maxRecDepth 100000 in
theorem grows_no (a b c p q m : Int) (ho : ¬ Ge.ok a b c) (w : World) : Calls Try.prog 8 #[.agg #[.int .i64 a, .int .i64 b, .int .i64 c], .agg #[.int .i64 p, .int .i64 q], .int .i64 m] w (YesSay w) := by
  obtain ⟨B0, HX⟩ := gpbox a b c p q w
  obtain ⟨w0, hw0⟩ : ∃ x, x = (w.alloc (GBox a b c)).alloc (PBox p q) := ⟨_, rfl⟩
  rw [← hw0] at B0 HX
  go_enter Try.func8, Try.ntmps8
  go_upto_region 1 with (fail)
  unfold GBox PBox at hw0
  rw [← hw0]
  clear hw0
  obtain ⟨⟨x00, x01, x02⟩, y00, y01⟩ := HX.out _ (Below.refl _ _)
  go_wp2_with (first
    | (go_at_call 11; refine (numB (check_no ho _) (Below.refl _ _)).mono ?_; rintro e1 w1 ⟨rfl, B1⟩)
    | (go_at_call 23; refine (worksB B1.out).mono ?_; rintro e1 w2 ⟨rfl, B2⟩))
  go_ret
  exact ⟨rfl, B0.out.trans (B2.out.mono B0.out.size)⟩
/-- All that is held: the geometry, the place, the one with a segment more, the one with a block less. -/
structure Gx (y : World) (g h1 h2 : Nat) (a b c p q : Int) : Prop where
  gg : Bx y g a b c
  pp : Px y (g + 1) p q
  m : Bx y h1 (a + 1) b c
  l : Bx y h2 a b (c - 1)
set_option maxHeartbeats 8000000 in
set_option maxRecDepth 100000 in
theorem grows_ok (a b c p q m : Int) (ho : Ge.ok a b c) (w : World) : Calls Try.prog 8 #[.agg #[.int .i64 a, .int .i64 b, .int .i64 c], .agg #[.int .i64 p, .int .i64 q], .int .i64 m] w (YesSay w) := by
  obtain ⟨B0, HX⟩ := gpbox a b c p q w
  obtain ⟨w0, hw0⟩ : ∃ x, x = (w.alloc (GBox a b c)).alloc (PBox p q) := ⟨_, rfl⟩
  rw [← hw0] at B0 HX
  have G0 : Hid (w.heap.size ≤ w0.heap.size) := B0.out.size
  have hw1 : IntKind.i64.wrap (a + 1) = a + 1 := IntWalk.i64_in _ ⟨by have := ho.1.1; omega, by have := ho.1.1; omega⟩
  have hw2 : IntKind.i64.wrap (c - 1) = c - 1 := IntWalk.i64_in _ ⟨by have := ho.1.2.2; omega, by have := ho.1.2.2; omega⟩
  have HO := Lib.hid ho
  clear ho
  go_enter Try.func8, Try.ntmps8
  go_upto_region 1 with (fail)
  unfold GBox PBox at hw0
  rw [← hw0]
  clear hw0
  obtain ⟨⟨x00, x01, x02⟩, y00, y01⟩ := HX.out _ (Below.refl _ _)
  go_upto_region 3 with (go_at_call 11; refine (numB (check_ok HO.out _) (Below.refl _ _)).mono ?_; rintro e1 w1 ⟨rfl, B1⟩; obtain ⟨⟨x10, x11, x12⟩, y10, y11⟩ := HX.out _ B1.out)
  clear x00 x01 x02 y00 y01
  go_upto_region 4 with (fail)
  have R1 : Hid ((w1.alloc (.cells #[.int .i64 a, .int .i64 b, .int .i64 c] 23)).heap[w1.heap.size]? = some (GBox a b c)) := heap_alloc_new w1 _
  have C1 : Hid (Below w0.heap.size w0 (w1.alloc (.cells #[.int .i64 a, .int .i64 b, .int .i64 c] 23))) := Lib.hid (B1.out.alloc B1.out.size _)
  have G7 : Hid (w0.heap.size ≤ w1.heap.size) := B1.out.size
  obtain ⟨z1, hz1⟩ : ∃ x, x = w1.alloc (.cells #[.int .i64 a, .int .i64 b, .int .i64 c] 23) := ⟨_, rfl⟩
  obtain ⟨g7, hg7⟩ : ∃ x, x = w1.heap.size := ⟨_, rfl⟩
  rw [← hz1] at R1 C1 ⊢
  rw [← hg7] at R1 G7 ⊢
  clear hz1 hg7 x10 x11 x12 y10 y11
  obtain ⟨x00, x01, x02⟩ := bx_of R1.out
  have f0 := frozen_of_row z1 g7 0 _ _ R1.out
  go_upto_region 5 with (fail)
  clear x00 x01 x02 f0
  have R2 : Hid ((z1.setCell ⟨g7, 0, none⟩ (.int .i64 (a + 1))).heap[g7]? = some (GBox (a + 1) b c)) := heap_setCell_same z1 g7 0 _ _ _ R1.out
  have C2 : Hid (Below w0.heap.size w0 (z1.setCell ⟨g7, 0, none⟩ (.int .i64 (a + 1)))) := Lib.hid ((Chg.setCell z1 ⟨g7, 0, none⟩ _).below C1.out G7.out)
  obtain ⟨z2, hz2⟩ : ∃ x, x = z1.setCell ⟨g7, 0, none⟩ (.int .i64 (a + 1)) := ⟨_, rfl⟩
  rw [← hz2] at R2 C2 ⊢
  clear hz2 R1 C1
  obtain ⟨⟨x00, x01, x02⟩, y00, y01⟩ := HX.out _ C2.out
  go_upto_region 6 with (fail)
  clear x00 x01 x02 y00 y01
  have R3 : Hid ((z2.alloc (.cells #[.int .i64 a, .int .i64 b, .int .i64 c] 23)).heap[z2.heap.size]? = some (GBox a b c)) := heap_alloc_new z2 _
  have S3 : Hid ((z2.alloc (.cells #[.int .i64 a, .int .i64 b, .int .i64 c] 23)).heap[g7]? = some (GBox (a + 1) b c)) := (heap_alloc_old z2 _ (lt_of_block R2.out)).trans R2.out
  have C3 : Hid (Below w0.heap.size w0 (z2.alloc (.cells #[.int .i64 a, .int .i64 b, .int .i64 c] 23))) := Lib.hid (C2.out.alloc C2.out.size _)
  have G8 : Hid (w0.heap.size ≤ z2.heap.size) := C2.out.size
  have N8 : Hid (g7 ≠ z2.heap.size) := Nat.ne_of_lt (lt_of_block R2.out)
  obtain ⟨z3, hz3⟩ : ∃ x, x = z2.alloc (.cells #[.int .i64 a, .int .i64 b, .int .i64 c] 23) := ⟨_, rfl⟩
  obtain ⟨g8, hg8⟩ : ∃ x, x = z2.heap.size := ⟨_, rfl⟩
  rw [← hz3] at R3 S3 C3 ⊢
  rw [← hg8] at R3 G8 N8 ⊢
  clear hz3 hg8 R2 C2
  obtain ⟨x00, x01, x02⟩ := bx_of R3.out
  have f2 := frozen_of_row z3 g8 2 _ _ R3.out
  go_upto_region 7 with (fail)
  clear x00 x01 x02 f2
  have R4 : Hid ((z3.setCell ⟨g8, 2, none⟩ (.int .i64 (c - 1))).heap[g8]? = some (GBox a b (c - 1))) := heap_setCell_same z3 g8 2 _ _ _ R3.out
  have S4 : Hid ((z3.setCell ⟨g8, 2, none⟩ (.int .i64 (c - 1))).heap[g7]? = some (GBox (a + 1) b c)) := ((Chg.setCell z3 ⟨g8, 2, none⟩ _).block _ N8.out).trans S3.out
  have C4 : Hid (Below w0.heap.size w0 (z3.setCell ⟨g8, 2, none⟩ (.int .i64 (c - 1)))) := Lib.hid ((Chg.setCell z3 ⟨g8, 2, none⟩ _).below C3.out G8.out)
  obtain ⟨z4, hz4⟩ : ∃ x, x = z3.setCell ⟨g8, 2, none⟩ (.int .i64 (c - 1)) := ⟨_, rfl⟩
  rw [← hz4] at R4 S4 C4 ⊢
  clear hz4 R3 S3 C3
  have HG : Hid (∀ y, Below z4.heap.size z4 y → Gx y w.heap.size g7 g8 a b c p q) := fun y hy => by
    have h := HX.out _ (C4.out.trans (hy.mono C4.out.size))
    exact ⟨h.1, h.2, (bx_of S4.out).old hy, (bx_of R4.out).old hy⟩
  clear R4 S4 HX G7 G8 N8
  obtain ⟨⟨x00, x01, x02⟩, ⟨y00, y01⟩, ⟨m00, m01, m02⟩, l00, l01, l02⟩ := HG.out _ (Below.refl _ _)
  go_cut [31] from 24 to 31 (fun v31 y => v31 = .bool false ∧ Hid (Below z4.heap.size z4 y))
  case first =>
    by_cases hc : c > 1
    · go_wp2_with (go_at_call 11; refine (numB (check_ok (Ge.ok_less HO.out hc) _) (Below.refl _ z4)).mono ?_; rintro e1 w2 ⟨rfl, B2⟩)
      go_meet
      case rel => exact ⟨rfl, B2⟩
    · go_wp2
      go_meet
      case rel => exact ⟨rfl, Below.refl _ _⟩
  case rest =>
    obtain ⟨rfl, B2⟩ := hcut
    clear x00 x01 x02 y00 y01 m00 m01 m02 l00 l01 l02
    obtain ⟨⟨x00, x01, x02⟩, ⟨y00, y01⟩, ⟨m00, m01, m02⟩, _⟩ := HG.out _ B2.out
    have hC : Hid (Below w.heap.size w z4) := B0.out.trans (C4.out.mono B0.out.size)
    by_cases ha : a = 32
    · have hno : ¬ Ge.ok (a + 1) b c := fun h => by have := h.1.1; omega
      have hd : (a == 32) = true := by rw [ha]; rfl
      clear ha
      go_wp2_with (first
        | (go_at_call 11; refine (numB (check_no hno _) B2.out).mono ?_; rintro e1 w3 ⟨rfl, B3⟩)
        | (go_at_call 23; refine (worksB B3.out).mono ?_; rintro e1 w4 ⟨rfl, B4⟩))
      go_ret
      exact ⟨rfl, hC.out.trans (B4.out.mono hC.out.size)⟩
    · have hok : Ge.ok (a + 1) b c := Ge.ok_more HO.out (by have := HO.out.1.1; omega)
      have HK := Lib.hid hok
      obtain ⟨A, HA⟩ : ∃ n, Hid (Ge.at_ a b c p q = n) := ⟨_, rfl⟩
      obtain ⟨N, HN⟩ : ∃ n, Hid (Ge.nd b (Ge.cut m) = n) := ⟨_, rfl⟩
      obtain ⟨L, HL⟩ : ∃ n, Hid (Ge.ln b = n) := ⟨_, rfl⟩
      obtain ⟨S, HS⟩ : ∃ n, Hid (3 + a * b = n) := ⟨_, rfl⟩
      have HS1 : Hid (3 + (a + 1) * b = S + b) := by show _ = _; rw [Int.add_mul, Int.one_mul, ← HS.out]; omega
      have hw3 : IntKind.i64.wrap (S + b) = S + b := by
        have h := Ge.area a b (by have := HO.out.1.1; omega) (by have := HO.out.1.2.1; omega)
        rw [← HS.out]
        exact IntWalk.i64_in _ ⟨by have := HO.out.1.2.1; omega, by have := HO.out.1.2.1; omega⟩
      have K1 : Hid (∀ y, Below z4.heap.size z4 y → Calls Try.prog 11 #[.agg #[.int .i64 (a + 1), .int .i64 b, .int .i64 c]] y (NumB 0 z4)) := fun y hy => numB (check_ok HK.out y) hy
      have K2 : Hid (∀ y, Below z4.heap.size z4 y → Calls Try.prog 13 #[.agg #[.int .i64 (a + 1), .int .i64 b, .int .i64 c]] y (NumB (S + b) z4)) := fun y hy => by
        have h := sec_ok HK.out y
        rw [HS1.out] at h
        exact numB h hy
      have K3 : Hid (∀ y, Below z4.heap.size z4 y → Calls Try.prog 13 #[.agg #[.int .i64 a, .int .i64 b, .int .i64 c]] y (NumB S z4)) := fun y hy => by
        have h := sec_ok HO.out y
        rw [HS.out] at h
        exact numB h hy
      have K4 : Hid (∀ y, Below z4.heap.size z4 y → Calls Try.prog 17 #[.agg #[.int .i64 (a + 1), .int .i64 b, .int .i64 c], .int .i64 m] y (NumB N z4)) := fun y hy => by
        have h := need_any (a + 1) b c m y
        rw [need_ok HK.out, HN.out] at h
        exact numB h hy
      have K5 : Hid (∀ y, Below z4.heap.size z4 y → Calls Try.prog 17 #[.agg #[.int .i64 a, .int .i64 b, .int .i64 c], .int .i64 m] y (NumB N z4)) := fun y hy => by
        have h := need_any a b c m y
        rw [need_ok HO.out, HN.out] at h
        exact numB h hy
      have K6 : Hid (∀ y, Below z4.heap.size z4 y → Calls Try.prog 21 #[.agg #[.int .i64 (a + 1), .int .i64 b, .int .i64 c]] y (NumB L z4)) := fun y hy => by
        have h := leans_any (a + 1) b c y
        rw [show Ge.lean (a + 1) b c = Ge.ln b by unfold Ge.lean; exact if_pos HK.out, HL.out] at h
        exact numB h hy
      have K7 : Hid (∀ y, Below z4.heap.size z4 y → Calls Try.prog 21 #[.agg #[.int .i64 a, .int .i64 b, .int .i64 c]] y (NumB L z4)) := fun y hy => by
        have h := leans_any a b c y
        rw [show Ge.lean a b c = Ge.ln b by unfold Ge.lean; exact if_pos HO.out, HL.out] at h
        exact numB h hy
      have K8 : Hid (∀ y, Below z4.heap.size z4 y → Calls Try.prog 15 #[.agg #[.int .i64 a, .int .i64 b, .int .i64 c], .agg #[.int .i64 p, .int .i64 q]] y (NumB A z4)) := fun y hy => by
        have h := at_any a b c p q y
        rw [HA.out] at h
        exact numB h hy
      have K9 : Hid (¬ A = 0 → ∀ y, Below z4.heap.size z4 y → Calls Try.prog 15 #[.agg #[.int .i64 (a + 1), .int .i64 b, .int .i64 c], .agg #[.int .i64 p, .int .i64 q]] y (NumB A z4)) := fun hn y hy => by
        have h := at_any (a + 1) b c p q y
        rw [at_more HO.out HK.out (by rw [HA.out]; exact hn), HA.out] at h
        exact numB h hy
      have KW : Hid (∀ y, Below z4.heap.size z4 y → Calls Try.prog 23 #[] y (YesB z4)) := fun y hy => worksB hy
      clear hok HN HL HS HS1 HA
      go_upto_region 12 with (go_at_call 15; refine (K8.out _ B2.out).mono ?_; rintro e1 w3 ⟨rfl, B3⟩)
      clear x00 x01 x02 y00 y01 m00 m01 m02 B2
      by_cases hA : A = 0
      · subst hA
        have HSD : Hid (∀ y, Below z4.heap.size z4 y → (fun y => (y.cell? ⟨w.heap.size, 0, none⟩ = some (.int .i64 a) ∧ y.cell? ⟨w.heap.size, 1, none⟩ = some (.int .i64 b) ∧ y.cell? ⟨w.heap.size, 2, none⟩ = some (.int .i64 c)) ∧ (y.cell? ⟨w.heap.size + 1, 0, none⟩ = some (.int .i64 p) ∧ y.cell? ⟨w.heap.size + 1, 1, none⟩ = some (.int .i64 q)) ∧ y.cell? ⟨g7, 0, none⟩ = some (.int .i64 (a + 1)) ∧ y.cell? ⟨g7, 1, none⟩ = some (.int .i64 b) ∧ y.cell? ⟨g7, 2, none⟩ = some (.int .i64 c)) y) := fun y hy => (fun k => ⟨k.gg, k.pp, k.m⟩) (HG.out _ hy)
        refine wp_region_any (by kernel_rfl) ?_
        change wpAny _ _ _ _ _ _ _ (World.drew _)
        have D0 : Hid (Below z4.heap.size z4 w3.drew) := Lib.hid B3.out.drew
        generalize w3.drew = y0 at *
        refine wpAny_of_held (S := (fun y => (y.cell? ⟨w.heap.size, 0, none⟩ = some (.int .i64 a) ∧ y.cell? ⟨w.heap.size, 1, none⟩ = some (.int .i64 b) ∧ y.cell? ⟨w.heap.size, 2, none⟩ = some (.int .i64 c)) ∧ (y.cell? ⟨w.heap.size + 1, 0, none⟩ = some (.int .i64 p) ∧ y.cell? ⟨w.heap.size + 1, 1, none⟩ = some (.int .i64 q)) ∧ y.cell? ⟨g7, 0, none⟩ = some (.int .i64 (a + 1)) ∧ y.cell? ⟨g7, 1, none⟩ = some (.int .i64 b) ∧ y.cell? ⟨g7, 2, none⟩ = some (.int .i64 c))) _ _ _ _ ?_
        have SD0 := Lib.hid (HSD.out _ D0.out)
        refine anyH_take 0 44 (.agg #[.int .i64 (a + 1), .int .i64 b, .int .i64 c]) SD0.out rfl (by kernel_rfl) (by kernel_rfl) (by kernel_rfl) (fun _ _ _ h => h) (by rfl) (by intro x hx; obtain ⟨⟨k0, k1, k2⟩, ⟨k3, k4⟩, k5, k6, k7⟩ := hx; go_simp; try (intro h; omega)) ?_
        try simp only [Act.put, List.setIfInBounds_toArray, List.set_cons_zero, List.set_cons_succ]
        refine anyH_one 1 (by kernel_rfl) ?_
        refine wpOp_step rfl (fun Kc hKc => ?_)
        go_simp
        refine (K1.out _ D0.out).mono ?_
        rintro e1 y1 ⟨rfl, D1⟩
        have SD1 := Lib.hid (HSD.out _ D1.out)
        clear SD0
        dsimp only
        refine hKc _ _ ⟨SD1.out, ?_⟩
        clear hKc Kc
        try simp only [Act.put, List.setIfInBounds_toArray, List.set_cons_zero, List.set_cons_succ]
        refine anyH_take 2 46 (.bool true) SD1.out rfl (by kernel_rfl) (by kernel_rfl) (by kernel_rfl) (fun _ _ _ h => h) (by rfl) (by intro x hx; obtain ⟨⟨k0, k1, k2⟩, ⟨k3, k4⟩, k5, k6, k7⟩ := hx; go_simp; try (intro h; omega)) ?_
        try simp only [Act.put, List.setIfInBounds_toArray, List.set_cons_zero, List.set_cons_succ]
        refine anyH_take 3 47 (.bool true) SD1.out rfl (by kernel_rfl) (by kernel_rfl) (by kernel_rfl) (fun _ _ _ h => h) (by rfl) (by intro x hx; obtain ⟨⟨k0, k1, k2⟩, ⟨k3, k4⟩, k5, k6, k7⟩ := hx; go_simp; try (intro h; omega)) ?_
        try simp only [Act.put, List.setIfInBounds_toArray, List.set_cons_zero, List.set_cons_succ]
        refine anyH_take 4 48 (.agg #[.int .i64 (a + 1), .int .i64 b, .int .i64 c]) SD1.out rfl (by kernel_rfl) (by kernel_rfl) (by kernel_rfl) (fun _ _ _ h => h) (by rfl) (by intro x hx; obtain ⟨⟨k0, k1, k2⟩, ⟨k3, k4⟩, k5, k6, k7⟩ := hx; go_simp; try (intro h; omega)) ?_
        try simp only [Act.put, List.setIfInBounds_toArray, List.set_cons_zero, List.set_cons_succ]
        refine anyH_take 6 50 (.agg #[.int .i64 a, .int .i64 b, .int .i64 c]) SD1.out rfl (by kernel_rfl) (by kernel_rfl) (by kernel_rfl) (fun _ _ _ h => h) (by rfl) (by intro x hx; obtain ⟨⟨k0, k1, k2⟩, ⟨k3, k4⟩, k5, k6, k7⟩ := hx; go_simp; try (intro h; omega)) ?_
        try simp only [Act.put, List.setIfInBounds_toArray, List.set_cons_zero, List.set_cons_succ]
        refine anyH_take 8 52 (.pointer (some ⟨w.heap.size, 1, none⟩)) SD1.out rfl (by kernel_rfl) (by kernel_rfl) (by kernel_rfl) (fun _ _ _ h => h) (by rfl) (by intro x hx; obtain ⟨⟨k0, k1, k2⟩, ⟨k3, k4⟩, k5, k6, k7⟩ := hx; go_simp; try (intro h; omega)) ?_
        try simp only [Act.put, List.setIfInBounds_toArray, List.set_cons_zero, List.set_cons_succ]
        refine anyH_take 9 53 (.int .i64 b) SD1.out rfl (by kernel_rfl) (by kernel_rfl) (by kernel_rfl) (fun _ _ _ h => h) (by rfl) (by intro x hx; obtain ⟨⟨k0, k1, k2⟩, ⟨k3, k4⟩, k5, k6, k7⟩ := hx; go_simp; try (intro h; omega)) ?_
        try simp only [Act.put, List.setIfInBounds_toArray, List.set_cons_zero, List.set_cons_succ]
        refine anyH_one 5 (by kernel_rfl) ?_
        refine wpOp_step rfl (fun Kc hKc => ?_)
        go_simp
        refine (K2.out _ D1.out).mono ?_
        rintro e2 y2 ⟨rfl, D2⟩
        have SD2 := Lib.hid (HSD.out _ D2.out)
        clear SD1
        dsimp only
        refine hKc _ _ ⟨SD2.out, ?_⟩
        clear hKc Kc
        try simp only [Act.put, List.setIfInBounds_toArray, List.set_cons_zero, List.set_cons_succ]
        refine anyH_one 7 (by kernel_rfl) ?_
        refine wpOp_step rfl (fun Kc hKc => ?_)
        go_simp
        refine (K3.out _ D2.out).mono ?_
        rintro e3 y3 ⟨rfl, D3⟩
        have SD3 := Lib.hid (HSD.out _ D3.out)
        clear SD2
        dsimp only
        refine hKc _ _ ⟨SD3.out, ?_⟩
        clear hKc Kc
        try simp only [Act.put, List.setIfInBounds_toArray, List.set_cons_zero, List.set_cons_succ]
        refine anyH_take 10 54 (.int .i64 (S + b)) SD3.out rfl (by kernel_rfl) (by kernel_rfl) (by kernel_rfl) (fun _ _ _ h => h) (by rfl) (by intro x hx; obtain ⟨⟨k0, k1, k2⟩, ⟨k3, k4⟩, k5, k6, k7⟩ := hx; go_simp; try (intro h; omega)) ?_
        try simp only [Act.put, List.setIfInBounds_toArray, List.set_cons_zero, List.set_cons_succ]
        refine anyH_take 11 55 (.bool true) SD3.out rfl (by kernel_rfl) (by kernel_rfl) (by kernel_rfl) (fun _ _ _ h => h) (by rfl) (by intro x hx; obtain ⟨⟨k0, k1, k2⟩, ⟨k3, k4⟩, k5, k6, k7⟩ := hx; go_simp; try (intro h; omega)) ?_
        try simp only [Act.put, List.setIfInBounds_toArray, List.set_cons_zero, List.set_cons_succ]
        refine anyH_take 12 56 (.bool true) SD3.out rfl (by kernel_rfl) (by kernel_rfl) (by kernel_rfl) (fun _ _ _ h => h) (by rfl) (by intro x hx; obtain ⟨⟨k0, k1, k2⟩, ⟨k3, k4⟩, k5, k6, k7⟩ := hx; go_simp; try (intro h; omega)) ?_
        try simp only [Act.put, List.setIfInBounds_toArray, List.set_cons_zero, List.set_cons_succ]
        refine anyH_take 13 57 (.bool true) SD3.out rfl (by kernel_rfl) (by kernel_rfl) (by kernel_rfl) (fun _ _ _ h => h) (by rfl) (by intro x hx; obtain ⟨⟨k0, k1, k2⟩, ⟨k3, k4⟩, k5, k6, k7⟩ := hx; go_simp; try (intro h; omega)) ?_
        try simp only [Act.put, List.setIfInBounds_toArray, List.set_cons_zero, List.set_cons_succ]
        refine anyH_take 14 58 (.agg #[.int .i64 (a + 1), .int .i64 b, .int .i64 c]) SD3.out rfl (by kernel_rfl) (by kernel_rfl) (by kernel_rfl) (fun _ _ _ h => h) (by rfl) (by intro x hx; obtain ⟨⟨k0, k1, k2⟩, ⟨k3, k4⟩, k5, k6, k7⟩ := hx; go_simp; try (intro h; omega)) ?_
        try simp only [Act.put, List.setIfInBounds_toArray, List.set_cons_zero, List.set_cons_succ]
        refine anyH_take 15 59 (.int .i64 m) SD3.out rfl (by kernel_rfl) (by kernel_rfl) (by kernel_rfl) (fun _ _ _ h => h) (by rfl) (by intro x hx; obtain ⟨⟨k0, k1, k2⟩, ⟨k3, k4⟩, k5, k6, k7⟩ := hx; go_simp; try (intro h; omega)) ?_
        try simp only [Act.put, List.setIfInBounds_toArray, List.set_cons_zero, List.set_cons_succ]
        refine anyH_take 17 61 (.agg #[.int .i64 a, .int .i64 b, .int .i64 c]) SD3.out rfl (by kernel_rfl) (by kernel_rfl) (by kernel_rfl) (fun _ _ _ h => h) (by rfl) (by intro x hx; obtain ⟨⟨k0, k1, k2⟩, ⟨k3, k4⟩, k5, k6, k7⟩ := hx; go_simp; try (intro h; omega)) ?_
        try simp only [Act.put, List.setIfInBounds_toArray, List.set_cons_zero, List.set_cons_succ]
        refine anyH_take 18 62 (.int .i64 m) SD3.out rfl (by kernel_rfl) (by kernel_rfl) (by kernel_rfl) (fun _ _ _ h => h) (by rfl) (by intro x hx; obtain ⟨⟨k0, k1, k2⟩, ⟨k3, k4⟩, k5, k6, k7⟩ := hx; go_simp; try (intro h; omega)) ?_
        try simp only [Act.put, List.setIfInBounds_toArray, List.set_cons_zero, List.set_cons_succ]
        refine anyH_one 16 (by kernel_rfl) ?_
        refine wpOp_step rfl (fun Kc hKc => ?_)
        go_simp
        refine (K4.out _ D3.out).mono ?_
        rintro e4 y4 ⟨rfl, D4⟩
        have SD4 := Lib.hid (HSD.out _ D4.out)
        clear SD3
        dsimp only
        refine hKc _ _ ⟨SD4.out, ?_⟩
        clear hKc Kc
        try simp only [Act.put, List.setIfInBounds_toArray, List.set_cons_zero, List.set_cons_succ]
        refine anyH_one 19 (by kernel_rfl) ?_
        refine wpOp_step rfl (fun Kc hKc => ?_)
        go_simp
        refine (K5.out _ D4.out).mono ?_
        rintro e5 y5 ⟨rfl, D5⟩
        have SD5 := Lib.hid (HSD.out _ D5.out)
        clear SD4
        dsimp only
        refine hKc _ _ ⟨SD5.out, ?_⟩
        clear hKc Kc
        try simp only [Act.put, List.setIfInBounds_toArray, List.set_cons_zero, List.set_cons_succ]
        refine anyH_take 20 64 (.bool true) SD5.out rfl (by kernel_rfl) (by kernel_rfl) (by kernel_rfl) (fun _ _ _ h => h) (by rfl) (by intro x hx; obtain ⟨⟨k0, k1, k2⟩, ⟨k3, k4⟩, k5, k6, k7⟩ := hx; go_simp; try (intro h; omega)) ?_
        try simp only [Act.put, List.setIfInBounds_toArray, List.set_cons_zero, List.set_cons_succ]
        refine anyH_take 21 65 (.bool true) SD5.out rfl (by kernel_rfl) (by kernel_rfl) (by kernel_rfl) (fun _ _ _ h => h) (by rfl) (by intro x hx; obtain ⟨⟨k0, k1, k2⟩, ⟨k3, k4⟩, k5, k6, k7⟩ := hx; go_simp; try (intro h; omega)) ?_
        try simp only [Act.put, List.setIfInBounds_toArray, List.set_cons_zero, List.set_cons_succ]
        refine anyH_take 22 66 (.bool true) SD5.out rfl (by kernel_rfl) (by kernel_rfl) (by kernel_rfl) (fun _ _ _ h => h) (by rfl) (by intro x hx; obtain ⟨⟨k0, k1, k2⟩, ⟨k3, k4⟩, k5, k6, k7⟩ := hx; go_simp; try (intro h; omega)) ?_
        try simp only [Act.put, List.setIfInBounds_toArray, List.set_cons_zero, List.set_cons_succ]
        refine anyH_take 23 67 (.agg #[.int .i64 (a + 1), .int .i64 b, .int .i64 c]) SD5.out rfl (by kernel_rfl) (by kernel_rfl) (by kernel_rfl) (fun _ _ _ h => h) (by rfl) (by intro x hx; obtain ⟨⟨k0, k1, k2⟩, ⟨k3, k4⟩, k5, k6, k7⟩ := hx; go_simp; try (intro h; omega)) ?_
        try simp only [Act.put, List.setIfInBounds_toArray, List.set_cons_zero, List.set_cons_succ]
        refine anyH_take 25 69 (.agg #[.int .i64 a, .int .i64 b, .int .i64 c]) SD5.out rfl (by kernel_rfl) (by kernel_rfl) (by kernel_rfl) (fun _ _ _ h => h) (by rfl) (by intro x hx; obtain ⟨⟨k0, k1, k2⟩, ⟨k3, k4⟩, k5, k6, k7⟩ := hx; go_simp; try (intro h; omega)) ?_
        try simp only [Act.put, List.setIfInBounds_toArray, List.set_cons_zero, List.set_cons_succ]
        refine anyH_one 24 (by kernel_rfl) ?_
        refine wpOp_step rfl (fun Kc hKc => ?_)
        go_simp
        refine (K6.out _ D5.out).mono ?_
        rintro e6 y6 ⟨rfl, D6⟩
        have SD6 := Lib.hid (HSD.out _ D6.out)
        clear SD5
        dsimp only
        refine hKc _ _ ⟨SD6.out, ?_⟩
        clear hKc Kc
        try simp only [Act.put, List.setIfInBounds_toArray, List.set_cons_zero, List.set_cons_succ]
        refine anyH_one 26 (by kernel_rfl) ?_
        refine wpOp_step rfl (fun Kc hKc => ?_)
        go_simp
        refine (K7.out _ D6.out).mono ?_
        rintro e7 y7 ⟨rfl, D7⟩
        have SD7 := Lib.hid (HSD.out _ D7.out)
        clear SD6
        dsimp only
        refine hKc _ _ ⟨SD7.out, ?_⟩
        clear hKc Kc
        try simp only [Act.put, List.setIfInBounds_toArray, List.set_cons_zero, List.set_cons_succ]
        refine anyH_take 27 71 (.bool true) SD7.out rfl (by kernel_rfl) (by kernel_rfl) (by kernel_rfl) (fun _ _ _ h => h) (by rfl) (by intro x hx; obtain ⟨⟨k0, k1, k2⟩, ⟨k3, k4⟩, k5, k6, k7⟩ := hx; go_simp; try (intro h; omega)) ?_
        try simp only [Act.put, List.setIfInBounds_toArray, List.set_cons_zero, List.set_cons_succ]
        refine anyH_take 28 72 (.bool true) SD7.out rfl (by kernel_rfl) (by kernel_rfl) (by kernel_rfl) (fun _ _ _ h => h) (by rfl) (by intro x hx; obtain ⟨⟨k0, k1, k2⟩, ⟨k3, k4⟩, k5, k6, k7⟩ := hx; go_simp; try (intro h; omega)) ?_
        try simp only [Act.put, List.setIfInBounds_toArray, List.set_cons_zero, List.set_cons_succ]
        refine anyH_take 29 73 (.bool true) SD7.out rfl (by kernel_rfl) (by kernel_rfl) (by kernel_rfl) (fun _ _ _ h => h) (by rfl) (by intro x hx; obtain ⟨⟨k0, k1, k2⟩, ⟨k3, k4⟩, k5, k6, k7⟩ := hx; go_simp; try (intro h; omega)) ?_
        try simp only [Act.put, List.setIfInBounds_toArray, List.set_cons_zero, List.set_cons_succ]
        refine anyH_take 30 74 (.int .i64 0) SD7.out rfl (by kernel_rfl) (by kernel_rfl) (by kernel_rfl) (fun _ _ _ h => h) (by rfl) (by intro x hx; obtain ⟨⟨k0, k1, k2⟩, ⟨k3, k4⟩, k5, k6, k7⟩ := hx; go_simp; try (intro h; omega)) ?_
        try simp only [Act.put, List.setIfInBounds_toArray, List.set_cons_zero, List.set_cons_succ]
        refine anyH_take 31 75 (.bool true) SD7.out rfl (by kernel_rfl) (by kernel_rfl) (by kernel_rfl) (fun _ _ _ h => h) (by rfl) (by intro x hx; obtain ⟨⟨k0, k1, k2⟩, ⟨k3, k4⟩, k5, k6, k7⟩ := hx; go_simp; try (intro h; omega)) ?_
        try simp only [Act.put, List.setIfInBounds_toArray, List.set_cons_zero, List.set_cons_succ]
        refine anyH_take 32 76 (.bool true) SD7.out rfl (by kernel_rfl) (by kernel_rfl) (by kernel_rfl) (fun _ _ _ h => h) (by rfl) (by intro x hx; obtain ⟨⟨k0, k1, k2⟩, ⟨k3, k4⟩, k5, k6, k7⟩ := hx; go_simp; try (intro h; omega)) ?_
        try simp only [Act.put, List.setIfInBounds_toArray, List.set_cons_zero, List.set_cons_succ]
        refine anyH_skip 33 77 SD7.out rfl (by kernel_rfl) (by kernel_rfl) (by kernel_rfl) (fun _ _ _ h => h) (by rfl) ?_
        try simp only [Act.put, List.setIfInBounds_toArray, List.set_cons_zero, List.set_cons_succ]
        refine anyH_skip 34 78 SD7.out rfl (by kernel_rfl) (by kernel_rfl) (by kernel_rfl) (fun _ _ _ h => h) (by rfl) ?_
        try simp only [Act.put, List.setIfInBounds_toArray, List.set_cons_zero, List.set_cons_succ]
        refine anyH_skip 35 79 SD7.out rfl (by kernel_rfl) (by kernel_rfl) (by kernel_rfl) (fun _ _ _ h => h) (by rfl) ?_
        try simp only [Act.put, List.setIfInBounds_toArray, List.set_cons_zero, List.set_cons_succ]
        refine anyH_skip 36 80 SD7.out rfl (by kernel_rfl) (by kernel_rfl) (by kernel_rfl) (fun _ _ _ h => h) (by rfl) ?_
        try simp only [Act.put, List.setIfInBounds_toArray, List.set_cons_zero, List.set_cons_succ]
        refine anyH_skip 37 81 SD7.out rfl (by kernel_rfl) (by kernel_rfl) (by kernel_rfl) (fun _ _ _ h => h) (by rfl) ?_
        try simp only [Act.put, List.setIfInBounds_toArray, List.set_cons_zero, List.set_cons_succ]
        refine anyH_take 38 82 (.bool true) SD7.out rfl (by kernel_rfl) (by kernel_rfl) (by kernel_rfl) (fun _ _ _ h => h) (by rfl) (by intro x hx; obtain ⟨⟨k0, k1, k2⟩, ⟨k3, k4⟩, k5, k6, k7⟩ := hx; go_simp; try (intro h; omega)) ?_
        try simp only [Act.put, List.setIfInBounds_toArray, List.set_cons_zero, List.set_cons_succ]
        refine anyH_take 39 83 (.bool true) SD7.out rfl (by kernel_rfl) (by kernel_rfl) (by kernel_rfl) (fun _ _ _ h => h) (by rfl) (by intro x hx; obtain ⟨⟨k0, k1, k2⟩, ⟨k3, k4⟩, k5, k6, k7⟩ := hx; go_simp; try (intro h; omega)) ?_
        try simp only [Act.put, List.setIfInBounds_toArray, List.set_cons_zero, List.set_cons_succ]
        refine anyH_take 40 84 (.bool true) SD7.out rfl (by kernel_rfl) (by kernel_rfl) (by kernel_rfl) (fun _ _ _ h => h) (by rfl) (by intro x hx; obtain ⟨⟨k0, k1, k2⟩, ⟨k3, k4⟩, k5, k6, k7⟩ := hx; go_simp; try (intro h; omega)) ?_
        try simp only [Act.put, List.setIfInBounds_toArray, List.set_cons_zero, List.set_cons_succ]
        refine anyH_one 41 (by kernel_rfl) ?_
        refine wpOp_step rfl (fun Kc hKc => ?_)
        go_simp
        refine (KW.out _ D7.out).mono ?_
        rintro e8 y8 ⟨rfl, D8⟩
        have SD8 := Lib.hid (HSD.out _ D8.out)
        clear SD7
        dsimp only
        refine hKc _ _ ⟨SD8.out, ?_⟩
        clear hKc Kc
        try simp only [Act.put, List.setIfInBounds_toArray, List.set_cons_zero, List.set_cons_succ]
        refine anyH_take 42 86 (.bool true) SD8.out rfl (by kernel_rfl) (by kernel_rfl) (by kernel_rfl) (fun _ _ _ h => h) (by rfl) (by intro x hx; obtain ⟨⟨k0, k1, k2⟩, ⟨k3, k4⟩, k5, k6, k7⟩ := hx; go_simp; try (intro h; omega)) ?_
        try simp only [Act.put, List.setIfInBounds_toArray, List.set_cons_zero, List.set_cons_succ]
        refine anyH_take 43 6 (.bool true) SD8.out rfl (by kernel_rfl) (by kernel_rfl) (by kernel_rfl) (fun _ _ _ h => h) (by rfl) (by intro x hx; obtain ⟨⟨k0, k1, k2⟩, ⟨k3, k4⟩, k5, k6, k7⟩ := hx; go_simp; try (intro h; omega)) ?_
        try simp only [Act.put, List.setIfInBounds_toArray, List.set_cons_zero, List.set_cons_succ]
        refine wpAnyH_done (by kernel_rfl) ?_ _
        go_wp2
        go_ret
        exact ⟨rfl, hC.out.trans (D8.out.mono hC.out.size)⟩
      · have HNA := Lib.hid hA
        have hAb : (A == 0) = false := by rw [beq_eq_false_iff_ne]; exact hA
        have BB : Hid (Below z4.heap.size z4 w3.drew) := Lib.hid B3.out.drew
        have T1 : Hid (0 = 0) := rfl
        have T2 : Hid (0 = 0) := rfl
        have T3 : Hid (0 = 0) := rfl
        go_region_held3 (fun y => (y.cell? ⟨w.heap.size, 0, none⟩ = some (.int .i64 a) ∧ y.cell? ⟨w.heap.size, 1, none⟩ = some (.int .i64 b) ∧ y.cell? ⟨w.heap.size, 2, none⟩ = some (.int .i64 c)) ∧ (y.cell? ⟨w.heap.size + 1, 0, none⟩ = some (.int .i64 p) ∧ y.cell? ⟨w.heap.size + 1, 1, none⟩ = some (.int .i64 q)) ∧ y.cell? ⟨g7, 0, none⟩ = some (.int .i64 (a + 1)) ∧ y.cell? ⟨g7, 1, none⟩ = some (.int .i64 b) ∧ y.cell? ⟨g7, 2, none⟩ = some (.int .i64 c))
          (exact (fun k => ⟨k.gg, k.pp, k.m⟩) (HG.out _ (Hid.out (by assumption))))
          ((first
            | (go_at_call 11; refine (K1.out _ (Hid.out (by assumption))).mono ?_; rintro e1 q1 ⟨rfl, hb1⟩; clear BB; have BB := hb1; clear hb1)
            | (go_at_call 13; have R := T1.out; clear R T1; refine (K2.out _ (Hid.out (by assumption))).mono ?_; rintro e1 q1 ⟨rfl, hb1⟩; clear BB; have BB := hb1; clear hb1)
            | (go_at_call 13; refine (K3.out _ (Hid.out (by assumption))).mono ?_; rintro e1 q1 ⟨rfl, hb1⟩; clear BB; have BB := hb1; clear hb1)
            | (go_at_call 17; have R := T2.out; clear R T2; refine (K4.out _ (Hid.out (by assumption))).mono ?_; rintro e1 q1 ⟨rfl, hb1⟩; clear BB; have BB := hb1; clear hb1)
            | (go_at_call 17; refine (K5.out _ (Hid.out (by assumption))).mono ?_; rintro e1 q1 ⟨rfl, hb1⟩; clear BB; have BB := hb1; clear hb1)
            | (go_at_call 21; have R := T3.out; clear R T3; refine (K6.out _ (Hid.out (by assumption))).mono ?_; rintro e1 q1 ⟨rfl, hb1⟩; clear BB; have BB := hb1; clear hb1)
            | (go_at_call 21; refine (K7.out _ (Hid.out (by assumption))).mono ?_; rintro e1 q1 ⟨rfl, hb1⟩; clear BB; have BB := hb1; clear hb1)
            | (go_at_call 15; refine (K9.out HNA.out _ (Hid.out (by assumption))).mono ?_; rintro e1 q1 ⟨rfl, hb1⟩; clear BB; have BB := hb1; clear hb1)
            | (go_at_call 23; refine (KW.out _ (Hid.out (by assumption))).mono ?_; rintro e1 q1 ⟨rfl, hb1⟩; clear BB; have BB := hb1; clear hb1)))
        go_wp2
        go_ret
        exact ⟨rfl, hC.out.trans (BB.out.mono hC.out.size)⟩
theorem grows_law (a b c p q m : Int) (w : World) : Calls Try.prog 8 #[.agg #[.int .i64 a, .int .i64 b, .int .i64 c], .agg #[.int .i64 p, .int .i64 q], .int .i64 m] w (YesSay w) := by
  by_cases ho : Ge.ok a b c
  · exact grows_ok a b c p q m ho w
  · exact grows_no a b c p q m ho w
end Go.Proofs.Ytohphehbfbobnaa

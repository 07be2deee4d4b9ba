/-
  GeoTells walked.
-/
import Derived.Test.YtohphehbfbobnaaGeL
namespace Go.Proofs.Ytohphehbfbobnaa
open Go.RowKit

/-- All that is held in the law: the geometry, the place, and the two places that are told. -/
abbrev Tx (y : World) (g h1 h2 : Nat) (a b c p q P Q : Int) : Prop :=
  (y.cell? ⟨g, 0, none⟩ = some (.int .i64 a) ∧ y.cell? ⟨g, 1, none⟩ = some (.int .i64 b) ∧ y.cell? ⟨g, 2, none⟩ = some (.int .i64 c)) ∧ (y.cell? ⟨g + 1, 0, none⟩ = some (.int .i64 p) ∧ y.cell? ⟨g + 1, 1, none⟩ = some (.int .i64 q)) ∧
    (y.cell? ⟨h1, 0, none⟩ = some (.int .i64 P) ∧ y.cell? ⟨h1, 1, none⟩ = some (.int .i64 Q)) ∧ y.cell? ⟨h2, 0, none⟩ = some (.int .i64 P) ∧ y.cell? ⟨h2, 1, none⟩ = some (.int .i64 Q)
set_option maxHeartbeats 8000000 in
set_option maxRecDepth 100000 in
theorem tells_law (a b c p q t m : Int) (w : World) : Calls Try.prog 3 #[.agg #[.int .i64 a, .int .i64 b, .int .i64 c], .agg #[.int .i64 p, .int .i64 q], .int .i64 t, .int .i64 m] w (YesSay w) := by
  obtain ⟨B0, HX⟩ := gpbox a b c p q w
  obtain ⟨w0, hw0⟩ : ∃ x, x = (w.alloc (GBox a b c)).alloc (PBox p q) := ⟨_, rfl⟩
  rw [← hw0] at B0 HX
  obtain ⟨C, HC⟩ : ∃ n, Hid (Ge.ck a b c = n) := ⟨_, rfl⟩
  obtain ⟨S, HS⟩ : ∃ n, Hid (Ge.sec a b c = n) := ⟨_, rfl⟩
  obtain ⟨A, HA⟩ : ∃ n, Hid (Ge.at_ a b c p q = n) := ⟨_, rfl⟩
  obtain ⟨I, HI⟩ : ∃ T, Hid (decide (Ge.isin a b c t) = T) := ⟨_, rfl⟩
  obtain ⟨P, HP⟩ : ∃ T, Hid (Ge.ps a b c t = T) := ⟨_, rfl⟩
  obtain ⟨Q, HQ⟩ : ∃ T, Hid (Ge.pt a b c t = T) := ⟨_, rfl⟩
  obtain ⟨N, HN⟩ : ∃ T, Hid (Ge.need a b c m = T) := ⟨_, rfl⟩
  obtain ⟨R, HR⟩ : ∃ T, Hid (Ge.rsv a b c m = T) := ⟨_, rfl⟩
  obtain ⟨L, HL⟩ : ∃ T, Hid (Ge.lean a b c = T) := ⟨_, rfl⟩
  have K1 : ∀ z y, Below z.heap.size z y → Calls Try.prog 11 #[.agg #[.int .i64 a, .int .i64 b, .int .i64 c]] y (NumB C z) := fun z y hy => by have h := check_any a b c y; rw [HC.out] at h; exact numB h hy
  have K2 : ∀ z y, Below z.heap.size z y → Calls Try.prog 12 #[.agg #[.int .i64 a, .int .i64 b, .int .i64 c]] y (NumB C z) := fun z y hy => by have h := rcheck_any a b c y; rw [HC.out] at h; exact numB h hy
  have K3 : ∀ z y, Below z.heap.size z y → Calls Try.prog 13 #[.agg #[.int .i64 a, .int .i64 b, .int .i64 c]] y (NumB S z) := fun z y hy => by have h := sectors_any a b c y; rw [HS.out] at h; exact numB h hy
  have K4 : ∀ z y, Below z.heap.size z y → Calls Try.prog 14 #[.agg #[.int .i64 a, .int .i64 b, .int .i64 c]] y (NumB S z) := fun z y hy => by have h := rsectors_any a b c y; rw [HS.out] at h; exact numB h hy
  have K5 : ∀ z y, Below z.heap.size z y → Calls Try.prog 15 #[.agg #[.int .i64 a, .int .i64 b, .int .i64 c], .agg #[.int .i64 p, .int .i64 q]] y (NumB A z) := fun z y hy => by have h := at_any a b c p q y; rw [HA.out] at h; exact numB h hy
  have K6 : ∀ z y, Below z.heap.size z y → Calls Try.prog 16 #[.agg #[.int .i64 a, .int .i64 b, .int .i64 c], .agg #[.int .i64 p, .int .i64 q]] y (NumB A z) := fun z y hy => by have h := rat_any a b c p q y; rw [HA.out] at h; exact numB h hy
  have K7 : ∀ z y, Below z.heap.size z y → Calls Try.prog 9 #[.agg #[.int .i64 a, .int .i64 b, .int .i64 c], .int .i64 t] y (PB P Q I z) := fun z y hy => by have h := place_any a b c t y; rw [HP.out, HQ.out, HI.out] at h; exact pB h hy
  have K8 : ∀ z y, Below z.heap.size z y → Calls Try.prog 10 #[.agg #[.int .i64 a, .int .i64 b, .int .i64 c], .int .i64 t] y (PB P Q I z) := fun z y hy => by have h := rplace_any a b c t y; rw [HP.out, HQ.out, HI.out] at h; exact pB h hy
  have K9 : ∀ z y, Below z.heap.size z y → Calls Try.prog 17 #[.agg #[.int .i64 a, .int .i64 b, .int .i64 c], .int .i64 m] y (NumB N z) := fun z y hy => by have h := need_any a b c m y; rw [HN.out] at h; exact numB h hy
  have K10 : ∀ z y, Below z.heap.size z y → Calls Try.prog 18 #[.agg #[.int .i64 a, .int .i64 b, .int .i64 c], .int .i64 m] y (NumB N z) := fun z y hy => by have h := rneed_any a b c m y; rw [HN.out] at h; exact numB h hy
  have K11 : ∀ z y, Below z.heap.size z y → Calls Try.prog 19 #[.agg #[.int .i64 a, .int .i64 b, .int .i64 c], .int .i64 m] y (NumB R z) := fun z y hy => by have h := reserve_any a b c m y; rw [HR.out] at h; exact numB h hy
  have K12 : ∀ z y, Below z.heap.size z y → Calls Try.prog 20 #[.agg #[.int .i64 a, .int .i64 b, .int .i64 c], .int .i64 m] y (NumB R z) := fun z y hy => by have h := rreserve_any a b c m y; rw [HR.out] at h; exact numB h hy
  have K13 : ∀ z y, Below z.heap.size z y → Calls Try.prog 21 #[.agg #[.int .i64 a, .int .i64 b, .int .i64 c]] y (NumB L z) := fun z y hy => by have h := leans_any a b c y; rw [HL.out] at h; exact numB h hy
  have K14 : ∀ z y, Below z.heap.size z y → Calls Try.prog 22 #[.agg #[.int .i64 a, .int .i64 b, .int .i64 c]] y (NumB L z) := fun z y hy => by have h := rlean_any a b c y; rw [HL.out] at h; exact numB h hy
  clear HC HS HA HI HP HQ HN HR HL
  go_enter Try.func3, Try.ntmps3
  go_upto_region 1 with (fail)
  unfold GBox PBox at hw0
  rw [← hw0]
  clear hw0
  obtain ⟨⟨x00, x01, x02⟩, y00, y01⟩ := HX.out _ (Below.refl _ _)
  go_upto_region 2 with (go_at_call 9; refine (K7 _ _ (Below.refl _ _)).mono ?_; rintro e1 w1 ⟨rfl, B1⟩)
  have C1 : Hid (Below w0.heap.size w0 (w1.alloc (.cells #[.int .i64 P, .int .i64 Q] 25))) := Lib.hid (B1.out.alloc B1.out.size _)
  have Q1 : Hid (∀ y, Below (w1.alloc (.cells #[.int .i64 P, .int .i64 Q] 25)).heap.size (w1.alloc (.cells #[.int .i64 P, .int .i64 Q] 25)) y → Px y w1.heap.size P Q) := fun y hy => (px_of (heap_alloc_new w1 _)).old hy
  obtain ⟨z1, hz1⟩ : ∃ x, x = w1.alloc (.cells #[.int .i64 P, .int .i64 Q] 25) := ⟨_, rfl⟩
  obtain ⟨g1, hg1⟩ : ∃ x, x = w1.heap.size := ⟨_, rfl⟩
  rw [← hz1] at C1 Q1 ⊢
  rw [← hg1] at Q1 ⊢
  clear hz1 hg1 B1 x00 x01 x02 y00 y01
  obtain ⟨⟨x00, x01, x02⟩, y00, y01⟩ := HX.out _ C1.out
  go_upto_region 3 with (go_at_call 10; refine (K8 _ _ (Below.refl _ _)).mono ?_; rintro e1 w2 ⟨rfl, B2⟩)
  have C2 : Hid (Below w0.heap.size w0 (w2.alloc (.cells #[.int .i64 P, .int .i64 Q] 25))) := Lib.hid ((C1.out.trans (B2.out.mono C1.out.size)).alloc (Nat.le_trans C1.out.size B2.out.size) _)
  have Q2 : Hid (∀ y, Below (w2.alloc (.cells #[.int .i64 P, .int .i64 Q] 25)).heap.size (w2.alloc (.cells #[.int .i64 P, .int .i64 Q] 25)) y → Px y g1 P Q ∧ Px y w2.heap.size P Q) := fun y hy => ⟨(Q1.out _ (B2.out.alloc B2.out.size _)).old hy, (px_of (heap_alloc_new w2 _)).old hy⟩
  obtain ⟨z2, hz2⟩ : ∃ x, x = w2.alloc (.cells #[.int .i64 P, .int .i64 Q] 25) := ⟨_, rfl⟩
  obtain ⟨g2, hg2⟩ : ∃ x, x = w2.heap.size := ⟨_, rfl⟩
  rw [← hz2] at C2 Q2 ⊢
  rw [← hg2] at Q2 ⊢
  clear hz2 hg2 B2 C1 Q1 x00 x01 x02 y00 y01
  have HT : Hid (∀ y, Below z2.heap.size z2 y → Tx y w.heap.size g1 g2 a b c p q P Q) := fun y hy => by
    have h := HX.out _ (C2.out.trans (hy.mono C2.out.size))
    have k := Q2.out y hy
    exact ⟨h.1, h.2, k.1, k.2⟩
  have BB : Hid (Below z2.heap.size z2 z2.drew) := (Below.refl _ z2).drew
  clear HX Q2
  go_region_held3 (fun y => (y.cell? ⟨w.heap.size, 0, none⟩ = some (.int .i64 a) ∧ y.cell? ⟨w.heap.size, 1, none⟩ = some (.int .i64 b) ∧ y.cell? ⟨w.heap.size, 2, none⟩ = some (.int .i64 c)) ∧ (y.cell? ⟨w.heap.size + 1, 0, none⟩ = some (.int .i64 p) ∧ y.cell? ⟨w.heap.size + 1, 1, none⟩ = some (.int .i64 q)) ∧ (y.cell? ⟨g1, 0, none⟩ = some (.int .i64 P) ∧ y.cell? ⟨g1, 1, none⟩ = some (.int .i64 Q)) ∧ y.cell? ⟨g2, 0, none⟩ = some (.int .i64 P) ∧ y.cell? ⟨g2, 1, none⟩ = some (.int .i64 Q))
    (exact HT.out _ (Hid.out (by assumption)))
    ((first
      | (go_at_call 11; refine (K1 z2 _ (Hid.out (by assumption))).mono ?_; rintro e1 q1 ⟨rfl, hb1⟩; clear BB; have BB := hb1; clear hb1)
      | (go_at_call 12; refine (K2 z2 _ (Hid.out (by assumption))).mono ?_; rintro e1 q1 ⟨rfl, hb1⟩; clear BB; have BB := hb1; clear hb1)
      | (go_at_call 13; refine (K3 z2 _ (Hid.out (by assumption))).mono ?_; rintro e1 q1 ⟨rfl, hb1⟩; clear BB; have BB := hb1; clear hb1)
      | (go_at_call 14; refine (K4 z2 _ (Hid.out (by assumption))).mono ?_; rintro e1 q1 ⟨rfl, hb1⟩; clear BB; have BB := hb1; clear hb1)
      | (go_at_call 15; refine (K5 z2 _ (Hid.out (by assumption))).mono ?_; rintro e1 q1 ⟨rfl, hb1⟩; clear BB; have BB := hb1; clear hb1)
      | (go_at_call 16; refine (K6 z2 _ (Hid.out (by assumption))).mono ?_; rintro e1 q1 ⟨rfl, hb1⟩; clear BB; have BB := hb1; clear hb1)))
  go_upto_region 5 with (fail)
  have BC : Hid (Below z2.heap.size z2 q1.drew) := Lib.hid BB.out.drew
  clear BB
  have BB := BC
  clear BC
  go_region_held3 (fun y => (y.cell? ⟨w.heap.size, 0, none⟩ = some (.int .i64 a) ∧ y.cell? ⟨w.heap.size, 1, none⟩ = some (.int .i64 b) ∧ y.cell? ⟨w.heap.size, 2, none⟩ = some (.int .i64 c)))
    (exact (HT.out _ (Hid.out (by assumption))).1)
    ((first
      | (go_at_call 17; refine (K9 z2 _ (Hid.out (by assumption))).mono ?_; rintro e1 q1 ⟨rfl, hb1⟩; clear BB; have BB := hb1; clear hb1)
      | (go_at_call 18; refine (K10 z2 _ (Hid.out (by assumption))).mono ?_; rintro e1 q1 ⟨rfl, hb1⟩; clear BB; have BB := hb1; clear hb1)
      | (go_at_call 19; refine (K11 z2 _ (Hid.out (by assumption))).mono ?_; rintro e1 q1 ⟨rfl, hb1⟩; clear BB; have BB := hb1; clear hb1)
      | (go_at_call 20; refine (K12 z2 _ (Hid.out (by assumption))).mono ?_; rintro e1 q1 ⟨rfl, hb1⟩; clear BB; have BB := hb1; clear hb1)
      | (go_at_call 21; refine (K13 z2 _ (Hid.out (by assumption))).mono ?_; rintro e1 q1 ⟨rfl, hb1⟩; clear BB; have BB := hb1; clear hb1)
      | (go_at_call 22; refine (K14 z2 _ (Hid.out (by assumption))).mono ?_; rintro e1 q1 ⟨rfl, hb1⟩; clear BB; have BB := hb1; clear hb1)
      | (go_at_call 23; refine (worksB (Hid.out (by assumption))).mono ?_; rintro e1 q1 ⟨rfl, hb1⟩; clear BB; have BB := hb1; clear hb1)))
  go_wp2
  go_ret
  have hC : Below w.heap.size w z2 := B0.out.trans (C2.out.mono B0.out.size)
  exact ⟨rfl, hC.trans (BB.out.mono hC.size)⟩
end Go.Proofs.Ytohphehbfbobnaa

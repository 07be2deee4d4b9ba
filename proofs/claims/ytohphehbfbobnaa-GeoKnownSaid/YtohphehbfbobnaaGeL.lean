/-
  GeoPlaces walked.
-/
import Derived.Test.YtohphehbfbobnaaGeI
namespace Go.Proofs.Ytohphehbfbobnaa
open Go.RowKit

/-- What Place answers, behind a world. -/
def PB (p q : Int) (t : Bool) (w0 : World) (e : Ending) (w' : World) : Prop := e = .returned (.tuple #[.agg #[.int .i64 p, .int .i64 q], .bool t]) ∧ Hid (Below w0.heap.size w0 w')
theorem pB {P : Program} {f : FuncId} {args : Array Value} {p q : Int} {t : Bool} {w0 y : World} (h : Calls P f args y (PSay p q t y)) (hy : Below w0.heap.size w0 y) : Calls P f args y (PB p q t w0) := by
  refine h.mono ?_
  rintro e w' ⟨rfl, hb⟩
  exact ⟨rfl, hy.trans (hb.mono hy.size)⟩
theorem sec_no {a b c : Int} (ho : ¬ Ge.ok a b c) : Ge.sec a b c = 0 := by unfold Ge.sec; exact if_neg ho
set_option maxHeartbeats 4000000 in
set_option maxRecDepth 100000 in
theorem places_no (a b c p q t : Int) (ho : ¬ Ge.ok a b c) (w : World) : Calls Try.prog 4 #[.agg #[.int .i64 a, .int .i64 b, .int .i64 c], .agg #[.int .i64 p, .int .i64 q], .int .i64 t] w (YesSay w) := by
  obtain ⟨B0, HX⟩ := gpbox a b c p q w
  obtain ⟨w0, hw0⟩ : ∃ x, x = (w.alloc (GBox a b c)).alloc (PBox p q) := ⟨_, rfl⟩
  rw [← hw0] at B0 HX
  have KC : ∀ y, Below w0.heap.size w0 y → Calls Try.prog 11 #[.agg #[.int .i64 a, .int .i64 b, .int .i64 c]] y (NumB 15 w0) := fun y hy => numB (check_no ho y) hy
  have KS : ∀ y, Below w0.heap.size w0 y → Calls Try.prog 13 #[.agg #[.int .i64 a, .int .i64 b, .int .i64 c]] y (NumB 0 w0) := fun y hy => by
    have h := sectors_any a b c y
    rw [sec_no ho] at h
    exact numB h hy
  have KA : ∀ y, Below w0.heap.size w0 y → Calls Try.prog 15 #[.agg #[.int .i64 a, .int .i64 b, .int .i64 c], .agg #[.int .i64 p, .int .i64 q]] y (NumB 0 w0) := fun y hy => by
    have h := at_any a b c p q y
    rw [at_no (fun k => ho k.1)] at h
    exact numB h hy
  go_enter Try.func4, Try.ntmps4
  go_upto_region 1 with (fail)
  unfold GBox PBox at hw0
  rw [← hw0]
  clear hw0
  obtain ⟨⟨x00, x01, x02⟩, y00, y01⟩ := HX.out _ (Below.refl _ _)
  go_wp2_with (first
    | (go_at_call 11; refine (KC _ (Below.refl _ _)).mono ?_; rintro e1 w1 ⟨rfl, B1⟩; obtain ⟨⟨x10, x11, x12⟩, y10, y11⟩ := HX.out _ B1.out)
    | (go_at_call 13; refine (KS _ B1.out).mono ?_; rintro e1 w2 ⟨rfl, B2⟩; obtain ⟨⟨x20, x21, x22⟩, y20, y21⟩ := HX.out _ B2.out)
    | (go_at_call 15; refine (KA _ B2.out).mono ?_; rintro e1 w3 ⟨rfl, B3⟩; obtain ⟨⟨x30, x31, x32⟩, y30, y31⟩ := HX.out _ B3.out)
    | (go_at_call 23; refine (worksB B3.out).mono ?_; rintro e1 w4 ⟨rfl, B4⟩))
  go_ret
  exact ⟨rfl, B0.out.trans (B4.out.mono B0.out.size)⟩
set_option maxHeartbeats 8000000 in
set_option maxRecDepth 100000 in
theorem places_ok (a b c p q t : Int) (ho : Ge.ok a b c) (w : World) : Calls Try.prog 4 #[.agg #[.int .i64 a, .int .i64 b, .int .i64 c], .agg #[.int .i64 p, .int .i64 q], .int .i64 t] w (YesSay w) := by
  obtain ⟨B0, HX⟩ := gpbox a b c p q w
  obtain ⟨w0, hw0⟩ : ∃ x, x = (w.alloc (GBox a b c)).alloc (PBox p q) := ⟨_, rfl⟩
  rw [← hw0] at B0 HX
  have G0 : Hid (w.heap.size ≤ w0.heap.size) := B0.out.size
  have hA := Ge.area a b (by have := ho.1.1; omega) (by have := ho.1.2.1; omega)
  have hw1 : IntKind.i64.wrap (a * b) = a * b := IntWalk.i64_in _ ⟨by omega, by omega⟩
  have hw2 : IntKind.i64.wrap (3 + a * b) = 3 + a * b := IntWalk.i64_in _ ⟨by omega, by omega⟩
  obtain ⟨S, hS⟩ : ∃ S, a * b = S := ⟨_, rfl⟩
  rw [hS] at hA hw1 hw2
  obtain ⟨n, HN⟩ : ∃ n, Hid (Ge.at_ a b c p q = n) := ⟨_, rfl⟩
  obtain ⟨T, HT⟩ : ∃ T, Hid (decide (Ge.there a b p q) = T) := ⟨_, rfl⟩
  obtain ⟨J, HJ⟩ : ∃ T, Hid (decide (Ge.isin a b c n) = T) := ⟨_, rfl⟩
  obtain ⟨P, HP⟩ : ∃ T, Hid (Ge.ps a b c n = T) := ⟨_, rfl⟩
  obtain ⟨Q, HQ⟩ : ∃ T, Hid (Ge.pt a b c n = T) := ⟨_, rfl⟩
  obtain ⟨I, HI⟩ : ∃ T, Hid (decide (Ge.isin a b c t) = T) := ⟨_, rfl⟩
  obtain ⟨U, HU⟩ : ∃ T, Hid (Ge.ps a b c t = T) := ⟨_, rfl⟩
  obtain ⟨V, HV⟩ : ∃ T, Hid (Ge.pt a b c t = T) := ⟨_, rfl⟩
  have HTn : Hid (T = true → 3 ≤ n ∧ n < 3 + S ∧ J = true ∧ P = p ∧ Q = q) := fun h => by
    have ht : Ge.there a b p q := of_decide_eq_true (HT.out.trans h)
    have h1 := at_ok ho ht
    have h2 := Ge.at_lt a b p q (by have := ho.1.2.1; omega) ht
    have h3 := ps_at ho ht
    rw [HN.out] at h1
    rw [← h1, HP.out, HQ.out] at h3
    exact ⟨by omega, by omega, by rw [← HJ.out]; exact decide_eq_true h3.1, h3.2.1, h3.2.2⟩
  have HTf : Hid (T = false → n = 0) := fun h => by
    have ht : ¬ Ge.there a b p q := of_decide_eq_false (HT.out.trans h)
    rw [← HN.out]
    exact at_no (fun k => ht k.2)
  have HIt : Hid (I = true → 3 ≤ t ∧ t < 3 + S ∧ Ge.at_ a b c U V = t) := fun h => by
    have hi : Ge.isin a b c t := of_decide_eq_true (HI.out.trans h)
    have h1 := at_ps hi
    rw [HU.out, HV.out] at h1
    exact ⟨hi.2.1, by have := hi.2.2; omega, h1.2⟩
  have HIf : Hid (I = false → t < 3 ∨ 3 + S ≤ t) := fun h => by
    have hi : ¬ Ge.isin a b c t := of_decide_eq_false (HI.out.trans h)
    by_cases h3 : t < 3
    · exact Or.inl h3
    · by_cases h4 : 3 + S ≤ t
      · exact Or.inr h4
      · exact absurd ⟨ho, by omega, by omega⟩ hi
  have KC : ∀ y, Below w0.heap.size w0 y → Calls Try.prog 11 #[.agg #[.int .i64 a, .int .i64 b, .int .i64 c]] y (NumB 0 w0) := fun y hy => numB (check_ok ho y) hy
  have KS : ∀ y, Below w0.heap.size w0 y → Calls Try.prog 13 #[.agg #[.int .i64 a, .int .i64 b, .int .i64 c]] y (NumB (3 + S) w0) := fun y hy => by
    have h := sec_ok ho y
    rw [hS] at h
    exact numB h hy
  have KSr : ∀ y, Calls Try.prog 13 #[.agg #[.int .i64 a, .int .i64 b, .int .i64 c]] y (NumB (3 + S) y) := fun y => by
    have h := sec_ok ho y
    rw [hS] at h
    exact numB h (Below.refl _ y)
  have KA : ∀ y, Below w0.heap.size w0 y → Calls Try.prog 15 #[.agg #[.int .i64 a, .int .i64 b, .int .i64 c], .agg #[.int .i64 p, .int .i64 q]] y (NumB n w0) := fun y hy => by
    have h := at_any a b c p q y
    rw [HN.out] at h
    exact numB h hy
  have KA2 : I = true → ∀ y, Below w0.heap.size w0 y → Calls Try.prog 15 #[.agg #[.int .i64 a, .int .i64 b, .int .i64 c], .agg #[.int .i64 U, .int .i64 V]] y (NumB t w0) := fun h y hy => by
    have k := at_any a b c U V y
    rw [(HIt.out h).2.2] at k
    exact numB k hy
  have KP : ∀ y, Below w0.heap.size w0 y → Calls Try.prog 9 #[.agg #[.int .i64 a, .int .i64 b, .int .i64 c], .int .i64 n] y (PB P Q J w0) := fun y hy => by
    have h := place_any a b c n y
    rw [HP.out, HQ.out, HJ.out] at h
    exact pB h hy
  have KP2 : ∀ y, Calls Try.prog 9 #[.agg #[.int .i64 a, .int .i64 b, .int .i64 c], .int .i64 t] y (PB U V I y) := fun y => by
    have h := place_any a b c t y
    rw [HU.out, HV.out, HI.out] at h
    exact pB h (Below.refl _ y)
  clear HP HQ HU HV HJ HI HN ho
  go_enter Try.func4, Try.ntmps4
  go_upto_region 1 with (fail)
  unfold GBox PBox at hw0
  rw [← hw0]
  clear hw0
  obtain ⟨⟨x00, x01, x02⟩, y00, y01⟩ := HX.out _ (Below.refl _ _)
  go_upto_region 3 with (go_at_call 11; refine (KC _ (Below.refl _ _)).mono ?_; rintro e1 w1 ⟨rfl, B1⟩; obtain ⟨⟨x10, x11, x12⟩, y10, y11⟩ := HX.out _ B1.out)
  go_cut [7] from 26 to 47 (fun v7 y => v7 = .bool T ∧ y = w1)
  case first =>
    have e := HT.out
    by_cases h0 : p ≥ 0
    · by_cases h1 : p < a
      · by_cases h2 : q ≥ 0
        · by_cases h3 : q < b
          · have hT : T = true := by rw [← e]; exact decide_eq_true ⟨⟨h0, by omega⟩, h2, by omega⟩
            go_wp2
            go_meet
            case rel => exact ⟨by rw [hT], rfl⟩
          · have hT : T = false := by rw [← e]; exact decide_eq_false (fun k => by have := k.2.2; omega)
            go_wp2
            go_meet
            case rel => exact ⟨by rw [hT], rfl⟩
        · have hT : T = false := by rw [← e]; exact decide_eq_false (fun k => h2 k.2.1)
          go_wp2
          go_meet
          case rel => exact ⟨by rw [hT], rfl⟩
      · have hT : T = false := by rw [← e]; exact decide_eq_false (fun k => by have := k.1.2; omega)
        go_wp2
        go_meet
        case rel => exact ⟨by rw [hT], rfl⟩
    · have hT : T = false := by rw [← e]; exact decide_eq_false (fun k => h0 k.1.1)
      go_wp2
      go_meet
      case rel => exact ⟨by rw [hT], rfl⟩
  case rest =>
    obtain ⟨rfl, rfl⟩ := hcut
    go_upto_region 5 with (go_at_call 15; refine (KA _ B1.out).mono ?_; rintro e1 w2 ⟨rfl, B2⟩; obtain ⟨⟨x20, x21, x22⟩, y20, y21⟩ := HX.out _ B2.out)
    clear B1 x10 x11 x12 y10 y11 x00 x01 x02 y00 y01
    go_cut [7, 8, 67] from 51 to 67 (fun v7 v8 v67 y => v7 = .bool T ∧ v8 = .int .i64 n ∧ v67 = .bool false ∧ Hid (Below w0.heap.size w0 y))
    case first =>
      cases hT : T with
      | true =>
        obtain ⟨h1, h2, _⟩ := HTn.out hT
        have h3 : ¬ n = 0 := by omega
        have h4 : ¬ n < 3 := by omega
        have h5 : ¬ n ≥ 3 + S := by omega
        go_wp2_with (go_at_call 13; refine (KS _ B2.out).mono ?_; rintro e1 w3 ⟨rfl, B3⟩)
        go_meet
        case rel => exact ⟨by rw [hT], rfl, by congr 1; simp; omega, B3⟩
      | false =>
        have h1 := HTf.out hT
        go_wp2
        go_meet
        case rel => exact ⟨by rw [hT], by rw [h1], rfl, B2⟩
    case rest =>
      obtain ⟨rfl, rfl, rfl, B3⟩ := hcut
      obtain ⟨⟨x30, x31, x32⟩, y30, y31⟩ := HX.out _ B3.out
      go_upto_region 8 with (go_at_call 9; refine (KP _ B3.out).mono ?_; rintro e1 w4 ⟨rfl, B4⟩)
      have B5 : Hid (Below w0.heap.size w0 (w4.alloc (.cells #[.int .i64 P, .int .i64 Q] 25))) := Lib.hid (B4.out.alloc B4.out.size _)
      have HB5 : Hid (∀ y, Below (w4.alloc (.cells #[.int .i64 P, .int .i64 Q] 25)).heap.size (w4.alloc (.cells #[.int .i64 P, .int .i64 Q] 25)) y → y.heap[w4.heap.size]? = some (PBox P Q)) := fun y hy => (hy.block _ (by simp)).trans (heap_alloc_new w4 _)
      have G4 : Hid (w0.heap.size ≤ w4.heap.size) := B4.out.size
      obtain ⟨w5, h5⟩ : ∃ x, x = w4.alloc (.cells #[.int .i64 P, .int .i64 Q] 25) := ⟨_, rfl⟩
      obtain ⟨g, hg⟩ : ∃ x, x = w4.heap.size := ⟨_, rfl⟩
      rw [← h5] at B5 HB5 ⊢
      rw [← hg] at HB5 G4 ⊢
      clear h5 hg B4 x30 x31 x32 y30 y31 B3 B2 x20 x21 x22 y20 y21
      obtain ⟨⟨x50, x51, x52⟩, y50, y51⟩ := HX.out _ B5.out
      have q50 := px_of (HB5.out _ (Below.refl _ _))
      obtain ⟨q50, q51⟩ := q50
      go_cut [7, 10, 83] from 74 to 83 (fun v7 v10 v83 y => v7 = .bool T ∧ v10 = .bool J ∧ v83 = .bool false ∧ y = w5)
      case first =>
        cases hT : T with
        | true =>
          obtain ⟨_, _, hJ, hP, hQ⟩ := HTn.out hT
          go_wp2
          go_meet
          case rel => exact ⟨by rw [hT], by rw [hJ], rfl, rfl⟩
        | false =>
          go_wp2
          go_meet
          case rel => exact ⟨by rw [hT], rfl, rfl, rfl⟩
      case rest =>
        obtain ⟨rfl, rfl, rfl, rfl⟩ := hcut
        clear q50 q51
        go_upto_region 11 with (go_at_call 9; refine (KP2 _).mono ?_; rintro e1 w6 ⟨rfl, B6⟩; have f0 := frozen_of_row w6 g 0 _ _ (HB5.out _ B6.out); have f1 := frozen_of_row w6 g 1 _ _ (HB5.out _ B6.out); obtain ⟨q60, q61⟩ := px_of (HB5.out _ B6.out))
        have C7 : Hid (Below w0.heap.size w0 ((w6.setCell ⟨g, 0, none⟩ (.int .i64 U)).setCell ⟨g, 1, none⟩ (.int .i64 V))) := Lib.hid ((pset_chg w6 g _ _).below (B5.out.trans (B6.out.mono B5.out.size)) G4.out)
        have HB7 : Hid (∀ y, Below ((w6.setCell ⟨g, 0, none⟩ (.int .i64 U)).setCell ⟨g, 1, none⟩ (.int .i64 V)).heap.size ((w6.setCell ⟨g, 0, none⟩ (.int .i64 U)).setCell ⟨g, 1, none⟩ (.int .i64 V)) y → Px y g U V) := fun y hy => (px_of (pset (HB5.out _ B6.out))).old hy
        obtain ⟨w7, h7⟩ : ∃ x, x = (w6.setCell ⟨g, 0, none⟩ (.int .i64 U)).setCell ⟨g, 1, none⟩ (.int .i64 V) := ⟨_, rfl⟩
        rw [← h7] at C7 HB7 ⊢
        clear h7 f0 f1 q60 q61 B6 HB5 x50 x51 x52 y50 y51
        obtain ⟨⟨x70, x71, x72⟩, y70, y71⟩ := HX.out _ C7.out
        obtain ⟨q70, q71⟩ := HB7.out _ (Below.refl _ _)
        go_cut [10, 109] from 84 to 109 (fun v10 v109 y => v10 = .bool I ∧ v109 = .bool false ∧ Hid (Below w0.heap.size w0 y))
        case first =>
          cases hI : I with
          | true =>
            obtain ⟨h1, h2, _⟩ := HIt.out hI
            have h3 : t ≥ 3 := h1
            go_wp2_with (first
              | (go_at_call 13; refine (KSr _).mono ?_; rintro e1 w8 ⟨rfl, B8⟩; obtain ⟨q80, q81⟩ := HB7.out _ B8.out; have C8 := Lib.hid (C7.out.trans (B8.out.mono C7.out.size)); obtain ⟨⟨x80, x81, x82⟩, y80, y81⟩ := HX.out _ C8.out)
              | (go_at_call 15; refine (KA2 hI _ C8.out).mono ?_; rintro e1 w9 ⟨rfl, B9⟩))
            go_meet
            case rel => exact ⟨by rw [hI], rfl, B9⟩
          | false =>
            rcases HIf.out hI with h1 | h1
            · go_wp2
              go_meet
              case rel => exact ⟨by rw [hI], rfl, C7⟩
            · have h3 : t ≥ 3 := by omega
              go_wp2_with (go_at_call 13; refine (KS _ C7.out).mono ?_; rintro e1 w8 ⟨rfl, B8⟩)
              go_meet
              case rel => exact ⟨by rw [hI], by congr 1; simp; omega, B8⟩
        case rest =>
          obtain ⟨rfl, rfl, B9⟩ := hcut
          clear x70 x71 x72 y70 y71 q70 q71
          go_upto_region 13 with (fail)
          have BB : Hid (Below w0.heap.size w0 wc.drew) := Lib.hid B9.out.drew
          have hle : 3 + S ≤ 4096 := by omega
          go_region_held3 (fun y => y.cell? ⟨w.heap.size, 0, none⟩ = some (.int .i64 a) ∧ y.cell? ⟨w.heap.size, 1, none⟩ = some (.int .i64 b) ∧ y.cell? ⟨w.heap.size, 2, none⟩ = some (.int .i64 c))
            (exact (HX.out _ (Hid.out (by assumption))).1)
            ((first
              | (go_at_call 13; refine (KS _ (Hid.out (by assumption))).mono ?_; rintro e1 q1 ⟨rfl, hb1⟩; clear BB; have BB := hb1; clear hb1)
              | (go_at_call 23; refine (worksB (Hid.out (by assumption))).mono ?_; rintro e1 q1 ⟨rfl, hb1⟩; clear BB; have BB := hb1; clear hb1)))
          go_wp2
          go_ret
          exact ⟨rfl, B0.out.trans (BB.out.mono B0.out.size)⟩
theorem places_law (a b c p q t : Int) (w : World) : Calls Try.prog 4 #[.agg #[.int .i64 a, .int .i64 b, .int .i64 c], .agg #[.int .i64 p, .int .i64 q], .int .i64 t] w (YesSay w) := by
  by_cases ho : Ge.ok a b c
  · exact places_ok a b c p q t ho w
  · exact places_no a b c p q t ho w
end Go.Proofs.Ytohphehbfbobnaa

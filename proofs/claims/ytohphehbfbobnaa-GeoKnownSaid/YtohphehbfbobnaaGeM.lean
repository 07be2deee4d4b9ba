/-
  GeoLean walked.
-/
import Derived.Test.YtohphehbfbobnaaGeI
import Derived.Deep.CutRange
namespace Go.Proofs.Ytohphehbfbobnaa
open Go.RowKit

def IAt (y : World) (p : Option Addr) (L : List Int) : Prop := 0 < L.length → ∃ ab ao, p = some ⟨ab, ao, none⟩ ∧ ∀ j, j < L.length → y.cell? ⟨ab, ao + j, none⟩ = some (.int .i64 (L.getD j 0))
theorem IAt.old {w y : World} {p : Option Addr} {L : List Int} (h : IAt w p L) (hb : Below w.heap.size w y) : IAt y p L := fun h0 => by
  obtain ⟨ab, ao, e, hf⟩ := h h0
  exact ⟨ab, ao, e, fun j hj => (hb.cell (World.block_lt_of_cell? _ _ (hf j hj))).trans (hf j hj)⟩
set_option maxHeartbeats 2000000 in
set_option maxRecDepth 100000 in
theorem lean_no (a b c m o : Int) (p : Option Addr) (n cap : Nat) (h : ¬ Ge.ok a b c ∨ (Ge.ok a b c ∧ 1000 < n)) (w : World) : Calls Try.prog 5 #[.agg #[.int .i64 a, .int .i64 b, .int .i64 c], .int .i64 m, .int .i64 o, .slice p n cap] w (YesSay w) := by
  obtain ⟨B0, HX⟩ := gbox a b c w
  obtain ⟨w0, hw0⟩ : ∃ x, x = w.alloc (GBox a b c) := ⟨_, rfl⟩
  rw [← hw0] at B0 HX
  rcases h with ho | ⟨ho, hn⟩
  · go_enter Try.func5, Try.ntmps5
    go_upto_region 1 with (fail)
    unfold GBox at hw0
    rw [← hw0]
    clear hw0
    obtain ⟨x00, x01, x02⟩ := HX.out _ (Below.refl _ _)
    go_wp2_with (first
      | (go_at_call 11; refine (numB (check_no ho _) (Below.refl _ _)).mono ?_; rintro e1 w1 ⟨rfl, B1⟩)
      | (go_at_call 23; refine (worksB B1.out).mono ?_; rintro e1 w2 ⟨rfl, B2⟩))
    go_ret
    exact ⟨rfl, B0.out.trans (B2.out.mono B0.out.size)⟩
  · have hn' : (n : Int) > 1000 := by omega
    go_enter Try.func5, Try.ntmps5
    go_upto_region 1 with (fail)
    unfold GBox at hw0
    rw [← hw0]
    clear hw0
    obtain ⟨x00, x01, x02⟩ := HX.out _ (Below.refl _ _)
    go_wp2_with (first
      | (go_at_call 11; refine (numB (check_ok ho _) (Below.refl _ _)).mono ?_; rintro e1 w1 ⟨rfl, B1⟩)
      | (go_at_call 23; refine (worksB B1.out).mono ?_; rintro e1 w2 ⟨rfl, B2⟩))
    go_ret
    exact ⟨rfl, B0.out.trans (B2.out.mono B0.out.size)⟩
set_option maxHeartbeats 8000000 in
set_option maxRecDepth 100000 in
theorem lean_yes (a b c m o : Int) (L : List Int) (p : Option Addr) (cap : Nat) (ho : Ge.ok a b c) (hL : L.length ≤ 1000) (w : World) (hp : IAt w p L) : Calls Try.prog 5 #[.agg #[.int .i64 a, .int .i64 b, .int .i64 c], .int .i64 m, .int .i64 o, .slice p L.length cap] w (YesSay w) := by
  obtain ⟨B0, HX⟩ := gbox a b c w
  obtain ⟨w0, hw0⟩ : ∃ x, x = w.alloc (GBox a b c) := ⟨_, rfl⟩
  rw [← hw0] at B0 HX
  have HI : Hid (IAt w0 p L) := hp.old B0.out
  have ha := ho.1.1
  have hb := ho.1.2.1
  have hc := ho.1.2.2
  obtain ⟨M, HM⟩ : ∃ M : Nat, Hid (pk m (c + 1) = M) := ⟨_, rfl⟩
  have hM : (M : Int) ≤ c := by
    have h := pk_lt m (c + 1) (by omega)
    rw [HM.out] at h
    omega
  have hrv := Ge.nd_in b M hb.1 (by omega) (by omega)
  have hmo := Ge.nd_mono b M c hb hM
  have hln := Ge.ln_in b hb.1 hb.2
  have hok : c + 9 < (a - Ge.nd b c - 14) * (Ge.ln b + 1) := ho.2
  have hpos : 1 ≤ a - Ge.nd b c - 14 := by
    by_cases h : 1 ≤ a - Ge.nd b c - 14
    · exact h
    · have h2 : (a - Ge.nd b c - 14) * (Ge.ln b + 1) ≤ 0 := Int.mul_nonpos_of_nonpos_of_nonneg (by omega) (by omega)
      omega
  obtain ⟨N, HN⟩ : ∃ N, Hid (Ge.nd b M = N) := ⟨_, rfl⟩
  have KR : ∀ y, Below w0.heap.size w0 y → Calls Try.prog 19 #[.agg #[.int .i64 a, .int .i64 b, .int .i64 c], .int .i64 (M : Int)] y (NumB (N + 8) w0) := fun y hy => by
    have h := reserve_any a b c M y
    rw [rsv_ok ho, Ge.cut_id M ⟨by omega, by omega⟩, HN.out] at h
    exact numB h hy
  rw [HN.out] at hrv hmo
  obtain ⟨O, HO⟩ : ∃ O : Nat, Hid (pk o (N + 8 + 6) = O) := ⟨_, rfl⟩
  have hO : (O : Int) < N + 8 + 6 := by
    have h := pk_lt o (N + 8 + 6) (by omega)
    rw [HO.out] at h
    exact h
  have hOa : (O : Int) < a := by omega
  obtain ⟨e, HE⟩ : ∃ e, Hid (Ge.ln b = e) := ⟨_, rfl⟩
  have KL : ∀ y, Below w0.heap.size w0 y → Calls Try.prog 21 #[.agg #[.int .i64 a, .int .i64 b, .int .i64 c]] y (NumB e w0) := fun y hy => by
    have h := leans_any a b c y
    rw [show Ge.lean a b c = Ge.ln b by unfold Ge.lean; exact if_pos ho, HE.out] at h
    exact numB h hy
  rw [HE.out] at hln hok
  have HEnd : Hid (∀ l : Int, 0 ≤ l → ¬ l + (a - (O : Int)) * (e + 1) ≤ c + 9) := fun l hl h => by
    have h2 : (a - Ge.nd b c - 14) * (e + 1) ≤ (a - (O : Int)) * (e + 1) := Int.mul_le_mul_of_nonneg_right (by omega) (by omega)
    omega
  have KC : ∀ y, Below w0.heap.size w0 y → Calls Try.prog 11 #[.agg #[.int .i64 a, .int .i64 b, .int .i64 c]] y (NumB 0 w0) := fun y hy => numB (check_ok ho y) hy
  have KM : ∀ y, Calls Try.prog 24 #[.int .i64 m, .int .i64 (c + 1)] y fun e w' => w' = y ∧ e = .returned (.int .i64 (M : Int)) := fun y => by
    have q := pick_at m (c + 1) (by omega) (by omega) y
    rw [HM.out] at q
    exact q
  have KO : ∀ y, Calls Try.prog 24 #[.int .i64 o, .int .i64 (N + 8 + 6)] y fun e w' => w' = y ∧ e = .returned (.int .i64 (O : Int)) := fun y => by
    have q := pick_at o (N + 8 + 6) (by omega) (by omega) y
    rw [HO.out] at q
    exact q
  have KQ : ∀ (x l : Int), 0 ≤ l ∧ l ≤ 100 → ∀ y, Calls Try.prog 24 #[.int .i64 x, .int .i64 (l + 1)] y fun e w' => w' = y ∧ ∃ n : Int, e = .returned (.int .i64 n) ∧ Hid (0 ≤ n ∧ n ≤ l) := fun x l hl y => by
    refine (pick_at x (l + 1) (by omega) (by omega) y).mono ?_
    rintro e w' ⟨rfl, rfl⟩
    have h := pk_lt x (l + 1) (by omega)
    exact ⟨rfl, _, rfl, Lib.hid ⟨by omega, by omega⟩⟩
  have hw1 : IntKind.i64.wrap (c + 1) = c + 1 := IntWalk.i64_in _ ⟨by omega, by omega⟩
  have hw2 : IntKind.i64.wrap (N + 8 + 6) = N + 8 + 6 := IntWalk.i64_in _ ⟨by omega, by omega⟩
  have hw3 : IntKind.i64.wrap (c + 9) = c + 9 := IntWalk.i64_in _ ⟨by omega, by omega⟩
  have hw4 : IntKind.i64.wrap (a - 1) = a - 1 := IntWalk.i64_in _ ⟨by omega, by omega⟩
  have hLL : ¬ (L.length : Int) > 1000 := by omega
  obtain ⟨n, hn⟩ : ∃ n, L.length = n := ⟨_, rfl⟩
  have HLn := Lib.hid hn
  rw [hn] at hLL hL ⊢
  clear hn hp ho hok hpos hmo hO
  go_enter Try.func5, Try.ntmps5
  go_upto_region 1 with (fail)
  unfold GBox at hw0
  rw [← hw0]
  clear hw0
  obtain ⟨x00, x01, x02⟩ := HX.out _ (Below.refl _ _)
  have T1 : Hid (0 = 0) := rfl
  go_upto_region 8 with (first
    | (go_at_call 11; refine (KC _ (Below.refl _ _)).mono ?_; rintro e1 w1 ⟨rfl, B1⟩; obtain ⟨x10, x11, x12⟩ := HX.out _ B1.out)
    | (go_at_call 24; have R := T1.out; clear R T1; refine (KM _).mono ?_; rintro e1 w2 ⟨rfl, rfl⟩)
    | (go_at_call 19; refine (KR _ B1.out).mono ?_; rintro e1 w2 ⟨rfl, B2⟩; obtain ⟨x20, x21, x22⟩ := HX.out _ B2.out)
    | (go_at_call 24; refine (KO _).mono ?_; rintro e1 w3 ⟨rfl, rfl⟩))
  clear x00 x01 x02 x10 x11 x12 x20 x21 x22 KC KM KO KR HM HO B1
  go_loopw [9, 10, 11] (fun v9 v10 v11 wr => ∃ (k : Nat) (l : Int) (B : Bool), v9 = .int .i64 l ∧ v10 = .bool B ∧ v11 = .int .i64 ((O : Int) + (k : Int)) ∧ (O : Int) + (k : Int) ≤ a ∧ (0 ≤ l ∧ l ≤ 73) ∧ Hid (B = false → l + (k : Int) * (e + 1) ≤ c + 9) ∧ Hid (Below w0.heap.size w0 wr)) (fun _ _ v11 _ => (a - intOf v11).toNat)
  case atStart => exact ⟨0, c + 9, false, rfl, rfl, by simp, by simp; omega, by omega, fun _ => by simp, B2⟩
  case round =>
    obtain ⟨k, l, B, rfl, rfl, rfl, hka, hl, HB, HW⟩ := hrel
    obtain ⟨x30, x31, x32⟩ := HX.out _ HW.out
    have hw5 : IntKind.i64.wrap ((O : Int) + (k : Int) - (O : Int)) = (k : Int) := by
      rw [show (O : Int) + (k : Int) - (O : Int) = (k : Int) by omega]
      exact IntWalk.i64_in _ ⟨by omega, by omega⟩
    have hw6 : IntKind.i64.wrap (l + 1) = l + 1 := IntWalk.i64_in _ ⟨by omega, by omega⟩
    by_cases hlt : (O : Int) + (k : Int) < a
    · go_upto_if 48 with (fail)
      go_cut [12] from 37 to 77 (fun v12 y => ∃ x : Int, v12 = .int .i64 x ∧ Hid (0 ≤ x ∧ x ≤ l) ∧ Hid (Below w0.heap.size w0 y))
      case first =>
        by_cases hkn : k < n
        · have hk1 : (k : Int) < (n : Int) := by omega
          have hk0 : (0 : Int) ≤ (k : Int) := by omega
          obtain ⟨ab, ao, hpp, hce⟩ := (HI.out.old HW.out) (by have := HLn.out; omega)
          have c0 := hce k (by have := HLn.out; omega)
          subst hpp
          clear hce
          go_wp2_with (go_at_call 24; refine (KQ _ l ⟨hl.1, by omega⟩ _).mono ?_; rintro e1 w4 ⟨rfl, x, rfl, HXX⟩)
          go_meet
          case rel => exact ⟨x, rfl, HXX, HW⟩
        · have hk1 : ¬ (k : Int) < (n : Int) := by omega
          go_wp2
          go_meet
          case rel => exact ⟨0, rfl, Lib.hid ⟨by omega, hl.1⟩, HW⟩
      case rest =>
        obtain ⟨x, rfl, HXX, HW2⟩ := hcut
        clear x30 x31 x32 HW
        obtain ⟨x30, x31, x32⟩ := HX.out _ HW2.out
        have hw8 : IntKind.i64.wrap (l - l) = l - l := IntWalk.i64_in _ ⟨by omega, by omega⟩
        cases B with
        | true =>
          have hw7 : IntKind.i64.wrap (l - x) = l - x := IntWalk.i64_in _ ⟨by have := HXX.out; omega, by have := HXX.out; omega⟩
          by_cases hq : (O : Int) + (k : Int) = a - 1
          · go_wp2
            exact ⟨⟨k + 1, l - x, true, by first | rfl | (congr 1; omega), by first | rfl | (congr 1; simp; omega), by go_num, by omega, by have := HXX.out; omega, fun h => (by cases h), HW2⟩, by simp [intOf]; omega⟩
          · go_wp2
            exact ⟨⟨k + 1, l - x, true, by first | rfl | (congr 1; omega), by first | rfl | (congr 1; simp; omega), by go_num, by omega, by have := HXX.out; omega, fun h => (by cases h), HW2⟩, by simp [intOf]; omega⟩
        | false =>
          by_cases hq : (O : Int) + (k : Int) = a - 1
          · have HXX : Hid (0 ≤ l ∧ l ≤ l) := Lib.hid ⟨hl.1, Int.le_refl _⟩
            have hw7 : IntKind.i64.wrap (l - l) = l - l := IntWalk.i64_in _ ⟨by have := HXX.out; omega, by have := HXX.out; omega⟩
            by_cases hle : l ≤ e
            · go_wp2_with (go_at_call 21; refine (KL _ HW2.out).mono ?_; rintro e1 w5 ⟨rfl, HW3⟩)
              exact ⟨⟨k + 1, l - l, true, by first | rfl | (congr 1; omega), by first | rfl | (congr 1; simp; omega), by go_num, by omega, by have := HXX.out; omega, fun h => (by cases h), HW3⟩, by simp [intOf]; omega⟩
            · have HBB : Hid (l - l + ((k + 1 : Nat) : Int) * (e + 1) ≤ c + 9) := by
                have h := HB.out rfl
                rw [Int.natCast_add, Int.add_mul]
                simp only [Int.natCast_one, Int.one_mul]
                show _ ≤ _
                omega
              go_wp2_with (go_at_call 21; refine (KL _ HW2.out).mono ?_; rintro e1 w5 ⟨rfl, HW3⟩)
              exact ⟨⟨k + 1, l - l, false, by first | rfl | (congr 1; omega), by first | rfl | (congr 1; simp; omega), by go_num, by omega, by have := HXX.out; omega, fun _ => HBB.out, HW3⟩, by simp [intOf]; omega⟩
          · skip
            have hw7 : IntKind.i64.wrap (l - x) = l - x := IntWalk.i64_in _ ⟨by have := HXX.out; omega, by have := HXX.out; omega⟩
            by_cases hle : x ≤ e
            · go_wp2_with (go_at_call 21; refine (KL _ HW2.out).mono ?_; rintro e1 w5 ⟨rfl, HW3⟩)
              exact ⟨⟨k + 1, l - x, true, by first | rfl | (congr 1; omega), by first | rfl | (congr 1; simp; omega), by go_num, by omega, by have := HXX.out; omega, fun h => (by cases h), HW3⟩, by simp [intOf]; omega⟩
            · have HBB : Hid (l - x + ((k + 1 : Nat) : Int) * (e + 1) ≤ c + 9) := by
                have h := HB.out rfl
                rw [Int.natCast_add, Int.add_mul]
                simp only [Int.natCast_one, Int.one_mul]
                show _ ≤ _
                omega
              go_wp2_with (go_at_call 21; refine (KL _ HW2.out).mono ?_; rintro e1 w5 ⟨rfl, HW3⟩)
              exact ⟨⟨k + 1, l - x, false, by first | rfl | (congr 1; omega), by first | rfl | (congr 1; simp; omega), by go_num, by omega, by have := HXX.out; omega, fun _ => HBB.out, HW3⟩, by simp [intOf]; omega⟩
    · have e1 : (O : Int) + (k : Int) = a := by omega
      have hB : B = true := by
        cases hb : B with
        | true => rfl
        | false =>
          have h1 := HB.out hb
          have h2 : (k : Int) = a - (O : Int) := by omega
          rw [h2] at h1
          exact absurd h1 (by have h3 := HEnd.out l hl.1; omega)
      subst hB
      go_wp2_with (go_at_call 23; refine (worksB HW.out).mono ?_; rintro e1 w9 ⟨rfl, B9⟩)
      go_ret
      exact ⟨rfl, B0.out.trans (B9.out.mono B0.out.size)⟩
theorem lean_law (a b c m o : Int) (L : List Int) (p : Option Addr) (cap : Nat) (w : World) (hp : IAt w p L) : Calls Try.prog 5 #[.agg #[.int .i64 a, .int .i64 b, .int .i64 c], .int .i64 m, .int .i64 o, .slice p L.length cap] w (YesSay w) := by
  by_cases ho : Ge.ok a b c
  · by_cases hL : L.length ≤ 1000
    · exact lean_yes a b c m o L p cap ho hL w hp
    · exact lean_no a b c m o p L.length cap (Or.inr ⟨ho, by omega⟩) w
  · exact lean_no a b c m o p L.length cap (Or.inl ho) w
end Go.Proofs.Ytohphehbfbobnaa

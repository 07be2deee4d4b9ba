/-
  CountRises walked.
-/
import Derived.Test.YtglfjjmbadffmaaCoF
namespace Go.Proofs.Ytglfjjmbadffmaa
open Go.RowKit

/-- Calls in memory: each a kind and a number. -/
structure OpAt (y : World) (ab o : Nat) (x : Int × Int) : Prop where
  k : y.cell? ⟨ab, o, none⟩ = some (.int .i64 x.1)
  n : y.cell? ⟨ab, o + 1, none⟩ = some (.int .i64 x.2)
  wk : In64 x.1
  wn : In64 x.2
def ORows (y : World) (tp : Option Addr) (L : List (Int × Int)) : Prop := 0 < L.length → ∃ ab ao, tp = some ⟨ab, ao, none⟩ ∧ ∀ (r : Nat) (x : Int × Int), L[r]? = some x → OpAt y ab (ao + r * 2) x
theorem OpAt.old {w y : World} {ab o : Nat} {x : Int × Int} (h : OpAt w ab o x) (hb : Below w.heap.size w y) : OpAt y ab o x :=
  ⟨(hb.cell (World.block_lt_of_cell? _ _ h.k)).trans h.k, (hb.cell (World.block_lt_of_cell? _ _ h.n)).trans h.n, h.wk, h.wn⟩
theorem ORows.old {w y : World} {p : Option Addr} {L : List (Int × Int)} (h : ORows w p L) (hb : Below w.heap.size w y) : ORows y p L := fun h0 => by
  obtain ⟨ab, ao, e, hf⟩ := h h0
  exact ⟨ab, ao, e, fun r x hx => (hf r x hx).old hb⟩
namespace Cn
theorem rM_wr (m : Dk.M) (v q : Int) : (rM m v q).wr = m.wr := by
  unfold rM
  split
  · exact Dk.spend_wr m
  · rfl
theorem syM_wr (m : Dk.M) : (Dk.syM m).wr = m.wr := by
  unfold Dk.syM
  split
  · exact Dk.spend_wr m
  · exact Dk.spend_wr m
theorem wrM_wr (m : Dk.M) (i : Int) (L : List Int) : (Dk.wrM m i L).wr ≤ m.wr + 1 := by
  unfold Dk.wrM
  split
  · omega
  · split
    · omega
    · split
      · rw [Dk.spend_wr]; omega
      · exact Nat.le_refl _
theorem spend_down {m : Dk.M} (h : Dk.gone m = true) : (Dk.spend m).down = true := by
  unfold Dk.spend
  rw [if_pos h]
theorem kind_of (K : Int) : K = 0 ∨ K = 1 ∨ K = 2 ∨ K = 3 ∨ K = 4 ∨ ((K == 0) = false ∧ (K == 1) = false ∧ (K == 2) = false ∧ (K == 3) = false ∧ (K == 4) = false) := by
  by_cases h0 : K = 0
  · exact Or.inl h0
  by_cases h1 : K = 1
  · exact Or.inr (Or.inl h1)
  by_cases h2 : K = 2
  · exact Or.inr (Or.inr (Or.inl h2))
  by_cases h3 : K = 3
  · exact Or.inr (Or.inr (Or.inr (Or.inl h3)))
  by_cases h4 : K = 4
  · exact Or.inr (Or.inr (Or.inr (Or.inr (Or.inl h4))))
  exact Or.inr (Or.inr (Or.inr (Or.inr (Or.inr (by simp [h0, h1, h2, h3, h4])))))
end Cn
set_option maxHeartbeats 8000000 in
set_option maxRecDepth 100000 in
theorem rises_any (L : List (Int × Int)) (tp : Option Addr) (cap : Nat) (w : World) (hl : ORows w tp L) :
    Calls Try.prog 5 #[.slice tp L.length cap] w (YesSay w) := by
  have HL : Hid (∀ y, Below w.heap.size w y → ORows y tp L) := fun y hy => hl.old hy
  clear hl
  by_cases hlen : 200 < L.length
  · have hlen' : (200 : Int) < (L.length : Int) := by omega
    go_enter Try.func5, Try.ntmps5
    go_wp2_with (go_at_call 9; refine (works_any _).mono ?_; rintro e1 w1 ⟨rfl, hb1⟩)
    go_ret
    exact ⟨rfl, hb1⟩
  · have hlen' : (L.length : Int) ≤ 200 := by omega
    have hlen2 : L.length ≤ 200 := by omega
    clear hlen
    go_enter Try.func5, Try.ntmps5
    go_upto_region 7 with (first
      | (go_at_call 10; refine (sd_new 8 (by omega) (by omega) w _ (Below.refl _ _)).mono ?_; rintro e0 q0 ⟨d, rfl, H0⟩)
      | (go_at_call 12; refine (cs_new H0.out).mono ?_; rintro e1 q1 ⟨c, rfl, H1⟩; clear H0))
    go_loopw [6, 7, 8] (fun v6 v7 _ wr => ∃ (i : Nat) (m : Dk.M) (v : Int), i ≤ L.length ∧ v6 = .int .i64 v ∧ v7 = .int .i64 i ∧ Hid (m.wr ≤ i) ∧ Hid (Cs w wr d c m v)) (fun _ v7 _ _ => L.length - (intOf v7).toNat)
    case atStart => exact ⟨0, _, _, by omega, rfl, rfl, Lib.hid (Nat.le_refl _), H1⟩
    case round =>
      obtain ⟨i, m, v, hi, rfl, rfl, HW, HS⟩ := hrel
      by_cases hlt : i < L.length
      · obtain ⟨⟨K, x⟩, hx⟩ : ∃ x, L[i]? = some x := ⟨_, List.getElem?_eq_getElem hlt⟩
        obtain ⟨ab, ao, rfl, hcl⟩ := HL.out _ HS.out.old (by omega)
        obtain ⟨ck, cn, _, hwn⟩ := hcl i _ hx
        have HCL : Hid (∀ y, Below w.heap.size w y → y.cell? ⟨ab, ao + i * 2 + 1, none⟩ = some (.int .i64 x)) := fun y hy => by
          obtain ⟨ab', ao', h1, h2⟩ := HL.out y hy (by omega)
          cases h1
          exact (h2 i _ hx).n
        have HWN := Lib.hid hwn
        dsimp only at ck cn
        clear hcl hx hwn
        have hi0 : (0 : Int) ≤ (i : Int) := by omega
        have hil : (i : Int) < (L.length : Int) := by omega
        have HWR : Hid (m.wr ≤ 1000000000) := by have := HW.out; show _ ≤ _; omega
        rcases Cn.kind_of K with rfl | rfl | rfl | rfl | rfl | ⟨k0, k1, k2, k3, k4⟩
        · by_cases h1 : v < x
          · by_cases h2 : x ≤ 1152921504606846976
            · have ho := Cn.ok_yes h1 h2
              cases hg : Dk.gone m with
              | true =>
                obtain ⟨r1, r2, r3⟩ := Cn.rE_gone (m := m) ho hg
                have HD : Hid ((Dk.spend m).down = true) := Cn.spend_down hg
                have KR : Hid (∀ y, Cs w y d c m v → Calls Try.prog 23 #[.pointer (some ⟨c, 0, none⟩), .int .i64 x] y (Say (.int .i64 12) fun z => Cs w z d c (Dk.spend m) v)) := fun y h => by
                  have q := cs_raise x h
                  rw [r1, r2, r3] at q
                  exact q
                clear r1 r2 r3 ho
                go_wp2_with (first
                  | (go_at_call 23; refine (KR.out _ HS.out).mono ?_; rintro e3 w3 ⟨rfl, HS3⟩; have cn3 := HCL.out _ HS3.out.old)
                  | (go_at_call 24; refine (cs_down HS3.out).mono ?_; rw [HD.out]; rintro e4 w4 ⟨rfl, rfl⟩)
                  | (go_at_call 15; refine (cs_value HS3.out).mono ?_; rintro e5 w5 ⟨rfl, rfl⟩))
                exact ⟨⟨i + 1, _, _, by omega, rfl, by go_num, Lib.hid (by rw [Dk.spend_wr]; have := HW.out; omega), HS3⟩, by simp [intOf]; omega⟩
              | false =>
                obtain ⟨r1, r2, r3⟩ := Cn.rE_done (m := m) ho hg
                have KR : Hid (∀ y, Cs w y d c m v → Calls Try.prog 23 #[.pointer (some ⟨c, 0, none⟩), .int .i64 x] y (Say (.int .i64 0) fun z => Cs w z d c (Dk.spend m) x)) := fun y h => by
                  have q := cs_raise x h
                  rw [r1, r2, r3] at q
                  exact q
                clear r1 r2 r3 ho
                go_wp2_with (first
                  | (go_at_call 23; refine (KR.out _ HS.out).mono ?_; rintro e3 w3 ⟨rfl, HS3⟩; have cn3 := HCL.out _ HS3.out.old)
                  | (go_at_call 15; refine (cs_value HS3.out).mono ?_; rintro e5 w5 ⟨rfl, rfl⟩))
                exact ⟨⟨i + 1, _, _, by omega, rfl, by go_num, Lib.hid (by rw [Dk.spend_wr]; have := HW.out; omega), HS3⟩, by simp [intOf]; omega⟩
            · have h2' : 1152921504606846976 < x := by omega
              obtain ⟨r1, r2, r3⟩ := Cn.rE_no (m := m) (Cn.ok_no2 (v := v) h2')
              have KR : Hid (∀ y, Cs w y d c m v → Calls Try.prog 23 #[.pointer (some ⟨c, 0, none⟩), .int .i64 x] y (Say (.int .i64 8) fun z => Cs w z d c m v)) := fun y h => by
                have q := cs_raise x h
                rw [r1, r2, r3] at q
                exact q
              clear r1 r2 r3
              go_wp2_with (first
                | (go_at_call 23; refine (KR.out _ HS.out).mono ?_; rintro e3 w3 ⟨rfl, HS3⟩; have cn3 := HCL.out _ HS3.out.old)
                | (go_at_call 15; refine (cs_value HS3.out).mono ?_; rintro e5 w5 ⟨rfl, rfl⟩))
              exact ⟨⟨i + 1, _, _, by omega, rfl, by go_num, Lib.hid (by have := HW.out; omega), HS3⟩, by simp [intOf]; omega⟩
          · have h1' : x ≤ v := by omega
            obtain ⟨r1, r2, r3⟩ := Cn.rE_no (m := m) (Cn.ok_no1 h1')
            have KR : Hid (∀ y, Cs w y d c m v → Calls Try.prog 23 #[.pointer (some ⟨c, 0, none⟩), .int .i64 x] y (Say (.int .i64 8) fun z => Cs w z d c m v)) := fun y h => by
              have q := cs_raise x h
              rw [r1, r2, r3] at q
              exact q
            clear r1 r2 r3
            go_wp2_with (first
              | (go_at_call 23; refine (KR.out _ HS.out).mono ?_; rintro e3 w3 ⟨rfl, HS3⟩; have cn3 := HCL.out _ HS3.out.old)
              | (go_at_call 15; refine (cs_value HS3.out).mono ?_; rintro e5 w5 ⟨rfl, rfl⟩))
            exact ⟨⟨i + 1, _, _, by omega, rfl, by go_num, Lib.hid (by have := HW.out; omega), HS3⟩, by simp [intOf]; omega⟩
        · go_wp2_with (first
            | (go_at_call 25; refine (cs_arm x HWN.out HS.out).mono ?_; rintro e3 w3 ⟨rfl, HS3⟩)
            | (go_at_call 15; refine (cs_value HS3.out).mono ?_; rintro e5 w5 ⟨rfl, rfl⟩))
          exact ⟨⟨i + 1, _, _, by omega, rfl, by go_num, Lib.hid (by have := HW.out; show m.wr ≤ _; omega), HS3⟩, by simp [intOf]; omega⟩
        · go_wp2_with (first
            | (go_at_call 26; refine (cs_crash HWR.out HS.out).mono ?_; rintro e3 w3 ⟨rfl, HS3⟩)
            | (go_at_call 15; refine (cs_value HS3.out).mono ?_; rintro e5 w5 ⟨rfl, rfl⟩))
          exact ⟨⟨i + 1, _, _, by omega, rfl, by go_num, Lib.hid (by rw [(Cn.cra_n m).2.1]; have := HW.out; omega), HS3⟩, by simp [intOf]; omega⟩
        · go_wp2_with (first
            | (go_at_call 27; refine (cs_write x HWR.out HS.out).mono ?_; rintro e3 w3 ⟨rfl, HS3⟩)
            | (go_at_call 15; refine (cs_value HS3.out).mono ?_; rintro e5 w5 ⟨rfl, rfl⟩))
          exact ⟨⟨i + 1, _, _, by omega, rfl, by go_num, Lib.hid (by have := HW.out; have := Cn.wrM_wr m x []; omega), HS3⟩, by simp [intOf]; omega⟩
        · go_wp2_with (first
            | (go_at_call 28; refine (cs_sync HS.out).mono ?_; rintro e3 w3 ⟨rfl, HS3⟩)
            | (go_at_call 15; refine (cs_value HS3.out).mono ?_; rintro e5 w5 ⟨rfl, rfl⟩))
          exact ⟨⟨i + 1, _, _, by omega, rfl, by go_num, Lib.hid (by rw [Cn.syM_wr]; have := HW.out; omega), HS3⟩, by simp [intOf]; omega⟩
        · go_wp2_with (go_at_call 15; refine (cs_value HS.out).mono ?_; rintro e5 w5 ⟨rfl, rfl⟩)
          exact ⟨⟨i + 1, _, _, by omega, rfl, by go_num, Lib.hid (by have := HW.out; omega), HS⟩, by simp [intOf]; omega⟩
      · have hge : (L.length : Int) ≤ (i : Int) := by omega
        go_wp2_with (go_at_call 9; refine (works_any _).mono ?_; rintro e9 w9 ⟨rfl, hb9⟩)
        go_ret
        exact ⟨rfl, HS.out.old.trans (hb9.mono HS.out.old.size)⟩
end Go.Proofs.Ytglfjjmbadffmaa

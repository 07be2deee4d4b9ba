/-
  Contract: rillref12.entry.
-/
import Derived.Test.YtkgefogkdmbciaaBaL
namespace Go.Proofs.Ytkgefogkdmbciaa
open Go.RowKit

theorem Bt.er_of {last : Int} {x : Bt.En} (h : Bt.al x = 0) (h2 : x.k ≠ 2) (h3 : 0 ≤ last → x.s - last = 1) : Bt.er last x = 0 := by
  by_cases h0 : 0 ≤ last
  · rw [Bt.er_next h h2 h0, if_pos (by have := h3 h0; omega)]
  · unfold Bt.er
    rw [h, if_neg (by omega), if_neg h2, if_neg (by omega)]
theorem Bt.er_ord {last : Int} {x : Bt.En} (h : Bt.al x = 0) (h2 : x.k ≠ 2) (h0 : 0 ≤ last) (h3 : x.s - last ≠ 1) : Bt.er last x = 8 := by
  rw [Bt.er_next h h2 h0, if_neg (by omega)]
theorem Bt.al_sd {x : Bt.En} {N : Int} (h : (x.k = 1 ∧ N = 64) ∨ (x.k = 3 ∧ N = 9)) : Bt.al x = if 0 ≤ x.b ∧ x.b < N ∧ 0 ≤ x.s ∧ x.s < 64 then 0 else 7 := by
  unfold Bt.al
  rcases h with ⟨h, rfl⟩ | ⟨h, rfl⟩
  · rw [if_pos h]
    by_cases c : 0 ≤ x.b ∧ x.b ≤ 63 ∧ 0 ≤ x.s ∧ x.s ≤ 63
    · rw [if_pos c, if_pos (by omega)]
    · rw [if_neg c, if_neg (by omega)]
  · rw [if_neg (by omega), if_pos h]
    by_cases c : 0 ≤ x.b ∧ x.b ≤ 8 ∧ 0 ≤ x.s ∧ x.s ≤ 63
    · rw [if_pos c, if_pos (by omega)]
    · rw [if_neg c, if_neg (by omega)]
theorem Bt.al_tr {x : Bt.En} (h : x.k = 2) : Bt.al x = if 0 ≤ x.b ∧ x.b ≤ 63 ∧ x.s = 0 ∧ x.u = Bt.Z then 0 else 7 := by
  unfold Bt.al
  rw [if_neg (by omega), if_neg (by omega), if_pos h]
theorem z_get (i : Nat) : Bt.Z.getD i 0 = 0 := by
  unfold Bt.Z
  rw [List.getD_eq_getElem?_getD, List.getElem?_replicate]
  split <;> rfl
theorem z_of {u : List Int} (hl : u.length = 32) (h : ∀ i, i < 32 → u.getD i 0 = 0) : u = Bt.Z := by
  apply List.ext_getElem (by rw [hl, Bt.z_len])
  intro i h1 h2
  have := h i (by omega)
  rw [List.getD_eq_getElem?_getD, List.getElem?_eq_getElem h1] at this
  have e : Bt.Z[i] = 0 := by
    have h3 := z_get i
    rw [List.getD_eq_getElem?_getD, List.getElem?_eq_getElem h2] at h3
    simpa using h3
  rw [e]
  simpa using this
/-- A byte of an entry's digest. -/
theorem en_byte {y : World} {g : Nat} {x : Bt.En} (h : y.rangeAt g 0 (Bt.cells x)) (hl : x.u.length = 32) {i : Nat} (hi : i < 32) : y.cell? ⟨g, 3 + i, none⟩ = some (.int .u8 (x.u.getD i 0)) := by
  have h1 := h (3 + i) (.int .u8 (x.u.getD i 0)) (by
    unfold Bt.cells
    rw [Nat.add_comm 3 i]
    simp [List.getD_eq_getElem?_getD, hl, hi])
  rw [Nat.zero_add] at h1
  exact h1
set_option maxHeartbeats 4000000 in
set_option maxRecDepth 100000 in
theorem refentry_any (x : Bt.En) (hx : x.ok) (last : Int) (hl : -1 ≤ last ∧ last ≤ 63) (w : World) : Calls Try.prog 37 #[.agg (EnA x), .int .i64 last] w (InSay (Bt.er last x) w) := by
  have hsz := en_info hx
  have HR : Hid ((w.alloc (.cells (EnA x) 50)).rangeAt w.heap.size 0 (Bt.cells x)) := box_rng (heap_alloc_new w (.cells (EnA x) 50))
  have B0 : Hid (Below w.heap.size w (w.alloc (.cells (EnA x) 50))) := (Below.refl _ w).alloc (Nat.le_refl _) _
  have HUL := Lib.hid hx.2.2.2.1
  have HBY : Hid (∀ y : World, y.rangeAt w.heap.size 0 (Bt.cells x) → ∀ i, i < 32 → y.cell? ⟨w.heap.size, 3 + i, none⟩ = some (.int .u8 (x.u.getD i 0))) := fun y hy i hi => en_byte hy HUL.out hi
  have HEN : Hid (∀ y : World, y.rangeAt w.heap.size 0 (Bt.cells x) → EnAt y w.heap.size 0 x) := fun y hy => en_at hy
  obtain ⟨res, hres⟩ : ∃ res, Bt.er last x = res := ⟨_, rfl⟩
  rw [hres]
  have HAL1 : Hid (∀ N, (x.k = 1 ∧ N = 64) ∨ (x.k = 3 ∧ N = 9) → ¬ (0 ≤ x.b ∧ x.b < N ∧ 0 ≤ x.s ∧ x.s < 64) → res = 7) := fun N h h2 => by
    rw [← hres]
    exact Bt.er_bad (by rw [Bt.al_sd h, if_neg h2]) (by omega)
  have HAL2 : Hid (∀ N, (x.k = 1 ∧ N = 64) ∨ (x.k = 3 ∧ N = 9) → (0 ≤ x.b ∧ x.b < N ∧ 0 ≤ x.s ∧ x.s < 64) → (0 ≤ last → x.s - last = 1) → res = 0) := fun N h h2 h3 => by
    rw [← hres]
    exact Bt.er_of (by rw [Bt.al_sd h, if_pos h2]) (by omega) h3
  have HAL3 : Hid (∀ N, (x.k = 1 ∧ N = 64) ∨ (x.k = 3 ∧ N = 9) → (0 ≤ x.b ∧ x.b < N ∧ 0 ≤ x.s ∧ x.s < 64) → 0 ≤ last → x.s - last ≠ 1 → res = 8) := fun N h h2 h3 h4 => by
    rw [← hres]
    exact Bt.er_ord (by rw [Bt.al_sd h, if_pos h2]) (by omega) h3 h4
  have HT0 : Hid (x.k = 2 → (0 ≤ x.b ∧ x.b ≤ 63 ∧ x.s = 0 ∧ x.u = Bt.Z) → res = 0) := fun h h2 => by
    rw [← hres]
    exact Bt.er_skip (by rw [Bt.al_tr h, if_pos h2]) h
  have HT7 : Hid (x.k = 2 → ¬ (0 ≤ x.b ∧ x.b ≤ 63 ∧ x.s = 0 ∧ x.u = Bt.Z) → res = 7) := fun h h2 => by
    rw [← hres]
    exact Bt.er_bad (by rw [Bt.al_tr h, if_neg h2]) (by omega)
  have HK5 : Hid (¬ x.k = 1 → ¬ x.k = 2 → ¬ x.k = 3 → res = 5) := fun h h' h'' => by
    rw [← hres]
    exact Bt.er_bad (Bt.al0 h h' h'') (by omega)
  have HZU : Hid ((∀ i, i < 32 → x.u.getD i 0 = 0) → x.u = Bt.Z) := fun h => z_of HUL.out h
  have HUZ : Hid (∀ i, i < 32 → x.u.getD i 0 ≠ 0 → x.u ≠ Bt.Z) := fun i _ h e => h (by rw [e]; exact z_get i)
  clear hres hx
  generalize EnA x = X at *
  go_enter Try.func37, Try.ntmps37
  go_upto_region 1 with (fail)
  change Code.wp _ _ _ _ (w.alloc (.cells X 50))
  obtain ⟨w0, hw0⟩ : ∃ y, y = w.alloc (.cells X 50) := ⟨_, rfl⟩
  rw [← hw0] at B0 HR ⊢
  clear hw0
  obtain ⟨c0, c1, c2, _⟩ := HEN.out _ HR.out
  rw [Nat.zero_add] at c1 c2
  obtain ⟨k, hk⟩ : ∃ k, x.k = k := ⟨_, rfl⟩
  obtain ⟨b, hb⟩ : ∃ b, x.b = b := ⟨_, rfl⟩
  obtain ⟨s, hs⟩ : ∃ s, x.s = s := ⟨_, rfl⟩
  rw [hk] at c0 HAL1 HAL2 HAL3 HT0 HT7 HK5
  rw [hb] at c1 HAL1 HAL2 HAL3 HT0 HT7
  rw [hs] at c2 HAL1 HAL2 HAL3 HT0 HT7
  clear hk hb hs HEN
  by_cases k1 : k = 1
  · have q1 : (k == 1) = true := by simp [k1]
    have q2 : (k == 2) = false := by simp [k1]
    have q3 : (k == 3) = false := by simp [k1]
    have HA1 := Lib.hid (HAL1.out 64 (.inl ⟨k1, rfl⟩)); have HA2 := Lib.hid (HAL2.out 64 (.inl ⟨k1, rfl⟩)); have HA3 := Lib.hid (HAL3.out 64 (.inl ⟨k1, rfl⟩))
    clear HAL1 HAL2 HAL3 HT0 HT7 HK5 HBY HZU HUZ
    subst k1
    by_cases hr : b < 0 ∨ b ≥ 64 ∨ s < 0 ∨ s ≥ 64
    · have h7 := HA1.out (by omega)
      subst h7
      by_cases r1 : b < 0
      · clear hr
        go_wp2
        go_ret
        exact ⟨rfl, B0.out⟩
      by_cases r2 : b ≥ 64
      · clear hr
        go_wp2
        go_ret
        exact ⟨rfl, B0.out⟩
      by_cases r3 : s < 0
      · clear hr
        go_wp2
        go_ret
        exact ⟨rfl, B0.out⟩
      have r4 : s ≥ 64 := by omega
      clear hr
      go_wp2
      go_ret
      exact ⟨rfl, B0.out⟩
    · have r1 : ¬ b < 0 := by omega
      have r2 : ¬ b ≥ 64 := by omega
      have r3 : ¬ s < 0 := by omega
      have r4 : ¬ s ≥ 64 := by omega
      have HA2 := Lib.hid (HA2.out (by omega)); have HA3 := Lib.hid (HA3.out (by omega))
      clear hr HA1
      have hws : IntKind.i64.wrap (s - last) = s - last := IntWalk.i64_in _ ⟨by omega, by omega⟩
      by_cases l0 : last ≥ 0
      · by_cases l1 : s - last = 1
        · have hb1 : (s - last == 1) = true := by simp [l1]
          have h0 := HA2.out (fun _ => l1)
          subst h0
          clear HA2 HA3
          go_wp2
          go_ret
          exact ⟨rfl, B0.out⟩
        · have hb1 : (s - last == 1) = false := by simp [l1]
          have h0 := HA3.out l0 l1
          subst h0
          clear HA2 HA3
          go_wp2
          go_ret
          exact ⟨rfl, B0.out⟩
      · have h0 := HA2.out (fun h => absurd h l0)
        subst h0
        clear HA2 HA3
        go_wp2
        go_ret
        exact ⟨rfl, B0.out⟩
  by_cases k3 : k = 3
  · have q1 : (k == 1) = false := by simp [k3]
    have q2 : (k == 2) = false := by simp [k3]
    have q3 : (k == 3) = true := by simp [k3]
    have HA1 := Lib.hid (HAL1.out 9 (.inr ⟨k3, rfl⟩)); have HA2 := Lib.hid (HAL2.out 9 (.inr ⟨k3, rfl⟩)); have HA3 := Lib.hid (HAL3.out 9 (.inr ⟨k3, rfl⟩))
    clear HAL1 HAL2 HAL3 HT0 HT7 HK5 k1 HBY HZU HUZ
    subst k3
    by_cases hr : b < 0 ∨ b ≥ 9 ∨ s < 0 ∨ s ≥ 64
    · have h7 := HA1.out (by omega)
      subst h7
      by_cases r1 : b < 0
      · clear hr
        go_wp2
        go_ret
        exact ⟨rfl, B0.out⟩
      by_cases r2 : b ≥ 9
      · clear hr
        go_wp2
        go_ret
        exact ⟨rfl, B0.out⟩
      by_cases r3 : s < 0
      · clear hr
        go_wp2
        go_ret
        exact ⟨rfl, B0.out⟩
      have r4 : s ≥ 64 := by omega
      clear hr
      go_wp2
      go_ret
      exact ⟨rfl, B0.out⟩
    · have r1 : ¬ b < 0 := by omega
      have r2 : ¬ b ≥ 9 := by omega
      have r3 : ¬ s < 0 := by omega
      have r4 : ¬ s ≥ 64 := by omega
      have HA2 := Lib.hid (HA2.out (by omega)); have HA3 := Lib.hid (HA3.out (by omega))
      clear hr HA1
      have hws : IntKind.i64.wrap (s - last) = s - last := IntWalk.i64_in _ ⟨by omega, by omega⟩
      by_cases l0 : last ≥ 0
      · by_cases l1 : s - last = 1
        · have hb1 : (s - last == 1) = true := by simp [l1]
          have h0 := HA2.out (fun _ => l1)
          subst h0
          clear HA2 HA3
          go_wp2
          go_ret
          exact ⟨rfl, B0.out⟩
        · have hb1 : (s - last == 1) = false := by simp [l1]
          have h0 := HA3.out l0 l1
          subst h0
          clear HA2 HA3
          go_wp2
          go_ret
          exact ⟨rfl, B0.out⟩
      · have h0 := HA2.out (fun h => absurd h l0)
        subst h0
        clear HA2 HA3
        go_wp2
        go_ret
        exact ⟨rfl, B0.out⟩
  by_cases k2 : k = 2
  · have HU0 := Lib.hid (HT0.out k2); have HU7 := Lib.hid (HT7.out k2)
    clear HT0 HT7 HAL1 HAL2 HAL3 HK5 k1 k3
    subst k2
    by_cases hr : b < 0 ∨ b ≥ 64 ∨ s < 0 ∨ s ≥ 64
    · have h7 := HU7.out (by omega)
      subst h7
      by_cases r1 : b < 0
      · clear hr
        go_wp2
        go_ret
        exact ⟨rfl, B0.out⟩
      by_cases r2 : b ≥ 64
      · clear hr
        go_wp2
        go_ret
        exact ⟨rfl, B0.out⟩
      by_cases r3 : s < 0
      · clear hr
        go_wp2
        go_ret
        exact ⟨rfl, B0.out⟩
      have r4 : s ≥ 64 := by omega
      clear hr
      go_wp2
      go_ret
      exact ⟨rfl, B0.out⟩
    · have r1 : ¬ b < 0 := by omega
      have r2 : ¬ b ≥ 64 := by omega
      have r3 : ¬ s < 0 := by omega
      have r4 : ¬ s ≥ 64 := by omega
      clear hr
      go_wp2
      go_loopw [6] (fun v6 wr => ∃ i : Nat, i ≤ 32 ∧ v6 = .int .i64 i ∧ Hid (∀ j, j < i → x.u.getD j 0 = 0) ∧ wr = w0) (fun v6 _ => 32 - (intOf v6).toNat)
      case atStart => exact ⟨0, by omega, rfl, fun j hj => by omega, rfl⟩
      case round =>
        obtain ⟨i, hi, rfl, HZ, hwr⟩ := hrel
        subst wr
        by_cases hlt : i < 32
        · have cu := HBY.out _ HR.out i hlt
          have HUI := Lib.hid (HUZ.out i hlt)
          have HZI : Hid (x.u.getD i 0 = 0 → ∀ j, j < i + 1 → x.u.getD j 0 = 0) := fun h j hj => by
            by_cases e : j = i
            · rw [e]; exact h
            · exact HZ.out j (by omega)
          generalize x.u.getD i 0 = z at *
          have hi0 : 0 ≤ (i : Int) := by omega
          have hi1 : (i : Int) < 32 := by omega
          by_cases hz : z = 0
          · have hb0 : (z == 0) = true := by simp [hz]
            have HZJ := Lib.hid (HZI.out hz)
            clear HZI hb0
            subst hz
            go_wp2
            exact ⟨⟨i + 1, by omega, by go_num, HZJ.out, trivial⟩, by simp [intOf]; omega⟩
          · have hb0 : (z == 0) = false := by simp [hz]
            have h7 := HU7.out (fun h => HUI.out hz h.2.2.2)
            subst h7
            clear HZI HUI
            go_wp2
            go_ret
            exact ⟨rfl, B0.out⟩
        · obtain rfl : i = 32 := by omega
          have HUE := Lib.hid (HZU.out (fun j hj => HZ.out j hj))
          clear hlt
          by_cases hs0 : s = 0
          · have hb0 : (s == 0) = true := by simp [hs0]
            have h0 := HU0.out ⟨by omega, by omega, hs0, HUE.out⟩
            subst h0
            clear hb0
            subst hs0
            go_wp2
            go_ret
            exact ⟨rfl, B0.out⟩
          · have hb0 : (s == 0) = false := by simp [hs0]
            have h7 := HU7.out (fun h => hs0 h.2.2.1)
            subst h7
            go_wp2
            go_ret
            exact ⟨rfl, B0.out⟩
  · have n1 : (k != 1) = true := by simp [k1]
    have n2 : (k != 2) = true := by simp [k2]
    have n3 : (k != 3) = true := by simp [k3]
    have h5 := HK5.out k1 k2 k3
    subst h5
    clear HAL1 HAL2 HAL3 HT0 HT7 HK5
    go_wp2
    go_ret
    exact ⟨rfl, B0.out⟩
end Go.Proofs.Ytkgefogkdmbciaa

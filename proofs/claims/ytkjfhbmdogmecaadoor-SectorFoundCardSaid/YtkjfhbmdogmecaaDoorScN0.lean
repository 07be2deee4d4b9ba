/-
  Contract: may.
-/
import Derived.Test.YtkjfhbmdogmecaaDoorScM
import Derived.Lib.MinMax
namespace Go.Proofs.YtkjfhbmdogmecaaDoor
open Go.RowKit

theorem ers_iff {s : Sc.S} {m : Nat} (hm : s.L.length = m) : Sc.ers s = 0 ↔ (1 ≤ s.k ∧ s.k ≤ 5) ∧ 0 ≤ min (min s.e s.n) s.a ∧ max s.e s.n ≤ 1099511627776 ∧ s.a < 4096 ∧ m ≤ 975 := by
  rw [show Sc.ers s = Sc.er s.k s.e s.n s.a s.L.length from rfl, Sc.er_zero, Sc.isK_iff, Sc.inP_iff, hm]
  omega
set_option maxHeartbeats 4000000 in
set_option maxRecDepth 100000 in
theorem may_any (s : Sc.S) (p : Option Addr) (m c : Nat) (hm : s.L.length = m) (w : World) : Calls Tryd.prog 12 #[Sv s p m c] w fun r w' => r = .returned (.bool (decide (Sc.ers s = 0))) ∧ Below w.heap.size w w' := by
  have hi := ers_iff hm
  have HT : Hid ((1 ≤ s.k ∧ s.k ≤ 5) ∧ 0 ≤ min (min s.e s.n) s.a ∧ max s.e s.n ≤ 1099511627776 ∧ s.a < 4096 ∧ m ≤ 975 → decide (Sc.ers s = 0) = true) := fun h => decide_eq_true (hi.2 h)
  have HF : Hid (¬ ((1 ≤ s.k ∧ s.k ≤ 5) ∧ 0 ≤ min (min s.e s.n) s.a ∧ max s.e s.n ≤ 1099511627776 ∧ s.a < 4096 ∧ m ≤ 975) → decide (Sc.ers s = 0) = false) := fun h => decide_eq_false (fun q => h (hi.1 q))
  clear hi hm
  generalize decide (Sc.ers s = 0) = D at *
  obtain ⟨k, e, n, a, L⟩ := s
  simp only at HT HF
  have B0 : Hid (Below w.heap.size w (w.alloc (SO k e n a p m c))) := (Below.refl _ w).alloc (Nat.le_refl _) _
  have S0 : Hid (SAt (w.alloc (SO k e n a p m c)) w.heap.size k e n a p m c) := SAt.new w _ _ _ _ _ _ _
  obtain ⟨Z, hZ⟩ : ∃ Z, min (min e n) a = Z := ⟨_, rfl⟩
  obtain ⟨Y, hY⟩ : ∃ Z, max e n = Z := ⟨_, rfl⟩
  rw [hZ, hY] at HT HF
  obtain ⟨w0, hw0⟩ : ∃ x, x = w.alloc (SO k e n a p m c) := ⟨_, rfl⟩
  rw [← hw0] at B0 S0
  obtain ⟨x0, x1, x2, x3, x4⟩ := S0.out.all
  by_cases h1 : k ≥ 1
  · by_cases h2 : k ≤ 5
    · by_cases h3 : Z ≥ 0
      · by_cases h4 : Y ≤ 1099511627776
        · by_cases h5 : a < 4096
          · by_cases h6 : (m : Int) ≤ 975
            · rw [HT.out ⟨⟨h1, h2⟩, h3, h4, h5, by omega⟩]
              go_enter Tryd.func12, Tryd.ntmps12
              go_upto_region 1 with (fail)
              change Code.wp _ _ _ _ (w.alloc (SO k e n a p m c))
              rw [← hw0]
              clear hw0
              go_wp2
              all_goals (first | (exfalso; omega) | (go_ret; exact ⟨rfl, B0.out⟩))
            · rw [HF.out (fun q => by omega)]
              go_enter Tryd.func12, Tryd.ntmps12
              go_upto_region 1 with (fail)
              change Code.wp _ _ _ _ (w.alloc (SO k e n a p m c))
              rw [← hw0]
              clear hw0
              go_wp2
              all_goals (first | (exfalso; omega) | (go_ret; exact ⟨rfl, B0.out⟩))
          · rw [HF.out (fun q => by omega)]
            go_enter Tryd.func12, Tryd.ntmps12
            go_upto_region 1 with (fail)
            change Code.wp _ _ _ _ (w.alloc (SO k e n a p m c))
            rw [← hw0]
            clear hw0
            go_wp2
            all_goals (first | (exfalso; omega) | (go_ret; exact ⟨rfl, B0.out⟩))
        · rw [HF.out (fun q => by omega)]
          go_enter Tryd.func12, Tryd.ntmps12
          go_upto_region 1 with (fail)
          change Code.wp _ _ _ _ (w.alloc (SO k e n a p m c))
          rw [← hw0]
          clear hw0
          go_wp2
          all_goals (first | (exfalso; omega) | (go_ret; exact ⟨rfl, B0.out⟩))
      · rw [HF.out (fun q => by omega)]
        go_enter Tryd.func12, Tryd.ntmps12
        go_upto_region 1 with (fail)
        change Code.wp _ _ _ _ (w.alloc (SO k e n a p m c))
        rw [← hw0]
        clear hw0
        go_wp2
        all_goals (first | (exfalso; omega) | (go_ret; exact ⟨rfl, B0.out⟩))
    · rw [HF.out (fun q => by omega)]
      go_enter Tryd.func12, Tryd.ntmps12
      go_upto_region 1 with (fail)
      change Code.wp _ _ _ _ (w.alloc (SO k e n a p m c))
      rw [← hw0]
      clear hw0
      go_wp2
      all_goals (first | (exfalso; omega) | (go_ret; exact ⟨rfl, B0.out⟩))
  · rw [HF.out (fun q => by omega)]
    go_enter Tryd.func12, Tryd.ntmps12
    go_upto_region 1 with (fail)
    change Code.wp _ _ _ _ (w.alloc (SO k e n a p m c))
    rw [← hw0]
    clear hw0
    go_wp2
    all_goals (first | (exfalso; omega) | (go_ret; exact ⟨rfl, B0.out⟩))
end Go.Proofs.YtkjfhbmdogmecaaDoor

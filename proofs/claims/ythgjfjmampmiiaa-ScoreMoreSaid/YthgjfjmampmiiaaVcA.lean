/-
  What cleaning is worth, and the victim of rows, in plain lists (namespace Vc).
-/
import Derived.Test.YthgjfjmampmiiaaUsB
namespace Go.Proofs.Ythgjfjmampmiiaa
namespace Vc
open Us (S at_)
/-- What cleaning a segment is worth. -/
def of (s l a : Int) : Int := if 1 ≤ s ∧ s ≤ 64 ∧ 0 ≤ l ∧ l ≤ s ∧ 0 ≤ a ∧ a ≤ 1099511627776 then (s - l) * (a + 1) * 1000 / (s + l) else 0
/-- How long ago that was. -/
def age (now t : Int) : Int := if now ≤ t then 0 else if now - t ≤ 1099511627776 then now - t else 1099511627776
theorem age_in (now t : Int) : 0 ≤ age now t ∧ age now t ≤ 1099511627776 := by unfold age; split <;> (try split) <;> omega
theorem top_in {s l a : Int} (h : 1 ≤ s ∧ s ≤ 64 ∧ 0 ≤ l ∧ l ≤ s ∧ 0 ≤ a ∧ a ≤ 1099511627776) : 0 ≤ (s - l) * (a + 1) ∧ (s - l) * (a + 1) ≤ 64 * 1099511627777 := by
  obtain ⟨h1, h2, h3, h4, h5, h6⟩ := h
  exact ⟨Int.mul_nonneg (by omega) (by omega), Int.mul_le_mul (by omega) (by omega) (by omega) (by omega)⟩
theorem of_in (s l a : Int) : 0 ≤ of s l a ∧ of s l a ≤ 70368744177728000 := by
  unfold of
  split
  · rename_i h
    have ht := top_in h
    generalize (s - l) * (a + 1) = t at *
    have hp : 0 < s + l := by omega
    refine ⟨Int.ediv_nonneg (by omega) (by omega), ?_⟩
    have h1 : t * 1000 / (s + l) ≤ t * 1000 := Int.ediv_le_self _ (by omega)
    omega
  · omega
theorem of_full (s a : Int) : of s s a = 0 := by
  unfold of
  split
  · rw [Int.sub_self, Int.zero_mul, Int.zero_mul, Int.zero_ediv]
  · rfl
theorem of_out {s l : Int} (h : s ≤ l) (a : Int) : of s l a = 0 := by
  by_cases e : s = l
  · rw [e, of_full]
  · unfold of
    rw [if_neg (by omega)]
theorem of_old {s l a b : Int} (h : 1 ≤ s ∧ s ≤ 64 ∧ 0 ≤ l ∧ l < s ∧ 0 ≤ a) (hb : a ≤ b) (h2 : b ≤ 1099511627776) : of s l a ≤ of s l b := by
  unfold of
  rw [if_pos (by omega), if_pos (by omega)]
  have hp : 0 < s + l := by omega
  refine Int.ediv_le_ediv hp ?_
  have h3 : (s - l) * (a + 1) ≤ (s - l) * (b + 1) := Int.mul_le_mul_of_nonneg_left (by omega) (by omega)
  omega
theorem of_live {s l a : Int} (h : 1 ≤ s ∧ s ≤ 64 ∧ 0 ≤ l ∧ l < s ∧ 0 ≤ a ∧ a ≤ 1099511627776) : of s (l + 1) a ≤ of s l a := by
  unfold of
  rw [if_pos (by omega), if_pos (by omega)]
  have h1 := top_in (s := s) (l := l + 1) (a := a) (by omega)
  have h3 : (s - (l + 1)) * (a + 1) ≤ (s - l) * (a + 1) := Int.mul_le_mul_of_nonneg_right (by omega) (by omega)
  generalize (s - (l + 1)) * (a + 1) = t at *
  generalize (s - l) * (a + 1) = u at *
  have hp : 0 < s + l := by omega
  have hq : 0 < s + (l + 1) := by omega
  refine Int.le_trans ?_ (Int.ediv_le_ediv hp (show t * 1000 ≤ u * 1000 by omega))
  rw [Int.le_ediv_iff_mul_le hp]
  have h4 : t * 1000 / (s + (l + 1)) * (s + (l + 1)) ≤ t * 1000 := Int.ediv_mul_le _ (by omega)
  have h5 : 0 ≤ t * 1000 / (s + (l + 1)) := Int.ediv_nonneg (by omega) (by omega)
  have h6 : t * 1000 / (s + (l + 1)) * (s + l) ≤ t * 1000 / (s + (l + 1)) * (s + (l + 1)) := Int.mul_le_mul_of_nonneg_left (by omega) h5
  omega
theorem of_pos {s l a : Int} (h : 1 ≤ s ∧ s ≤ 64 ∧ 0 ≤ l ∧ l < s ∧ 0 ≤ a ∧ a ≤ 1099511627776) : 0 < of s l a := by
  unfold of
  rw [if_pos (by omega)]
  have hp : 0 < s + l := by omega
  have h3 : 1 * 1 ≤ (s - l) * (a + 1) := Int.mul_le_mul (by omega) (by omega) (by omega) (by omega)
  generalize (s - l) * (a + 1) = u at *
  have h4 : 1 ≤ u * 1000 / (s + l) := by
    rw [Int.le_ediv_iff_mul_le hp]
    omega
  omega
/-- May this row be a victim? -/
def may (lean : Int) (x : S) : Prop := x.s = 2 ∧ 0 ≤ x.l ∧ x.l ≤ lean
instance (lean : Int) (x : S) : Decidable (may lean x) := by unfold may; exact inferInstance
def worth (s now : Int) (x : S) : Int := of s x.l (age now x.a)
theorem worth_in (s now : Int) (x : S) : 0 ≤ worth s now x ∧ worth s now x ≤ 70368744177728000 := of_in _ _ _
/-- One more row is offered: what is kept, the place and the worth. -/
def offer (i : Nat) (n : Int) : Option (Nat × Int) → Option (Nat × Int)
  | none => some (i, n)
  | some (p, m) => if m < n then some (i, n) else some (p, m)
def vicn (s lean now : Int) (T : List S) : Nat → Option (Nat × Int)
  | 0 => none
  | m + 1 => if may lean (at_ T m) then offer m (worth s now (at_ T m)) (vicn s lean now T m) else vicn s lean now T m
def vic (s lean now : Int) (T : List S) : Option (Nat × Int) := vicn s lean now T T.length
/-- The three variables of what is kept. -/
def pl : Option (Nat × Int) → Int
  | none => 0
  | some (p, _) => p
def mo : Option (Nat × Int) → Int
  | none => 0
  | some (_, m) => m
def rb : Option (Nat × Int) → Int
  | none => -1
  | some (_, m) => m
theorem vicn_is {s lean now : Int} {T : List S} : ∀ {m i : Nat} {n : Int}, vicn s lean now T m = some (i, n) → i < m ∧ may lean (at_ T i) ∧ n = worth s now (at_ T i)
  | 0, i, n, h => by cases h
  | m + 1, i, n, h => by
    rw [vicn] at h
    by_cases hm : may lean (at_ T m)
    · rw [if_pos hm] at h
      cases hv : vicn s lean now T m with
      | none =>
        rw [hv] at h
        cases h
        exact ⟨by omega, hm, rfl⟩
      | some x =>
        obtain ⟨p, q⟩ := x
        rw [hv] at h
        have h' : (if q < worth s now (at_ T m) then some (m, worth s now (at_ T m)) else some (p, q)) = some (i, n) := h
        by_cases h1 : q < worth s now (at_ T m)
        · rw [if_pos h1] at h'
          cases h'
          exact ⟨by omega, hm, rfl⟩
        · rw [if_neg h1] at h'
          cases h'
          have := vicn_is hv
          exact ⟨by omega, this.2⟩
    · rw [if_neg hm] at h
      have := vicn_is h
      exact ⟨by omega, this.2⟩
theorem vic_is {s lean now : Int} {T : List S} {i : Nat} {n : Int} (h : vic s lean now T = some (i, n)) : i < T.length ∧ may lean (at_ T i) ∧ n = worth s now (at_ T i) := vicn_is h
/-- What is kept of some rows, then of others behind them. -/
def both (k : Nat) : Option (Nat × Int) → Option (Nat × Int) → Option (Nat × Int)
  | x, none => x
  | none, some (i, n) => some (k + i, n)
  | some (p, m), some (i, n) => if m < n then some (k + i, n) else some (p, m)
theorem at_left {L M : List S} {i : Nat} (h : i < L.length) : at_ (L ++ M) i = at_ L i := by
  unfold at_; rw [List.getD_eq_getElem?_getD, List.getD_eq_getElem?_getD, List.getElem?_append_left h]
theorem at_right {L M : List S} {i : Nat} : at_ (L ++ M) (L.length + i) = at_ M i := by
  unfold at_; rw [List.getD_eq_getElem?_getD, List.getD_eq_getElem?_getD, List.getElem?_append_right (by omega)]; congr 2; omega
theorem vicn_left {s lean now : Int} {L M : List S} : ∀ m, m ≤ L.length → vicn s lean now (L ++ M) m = vicn s lean now L m
  | 0, _ => rfl
  | m + 1, h => by rw [vicn, vicn, at_left (by omega), vicn_left m (by omega)]
theorem vicn_both {s lean now : Int} {L M : List S} : ∀ m, vicn s lean now (L ++ M) (L.length + m) = both L.length (vic s lean now L) (vicn s lean now M m)
  | 0 => by
    rw [Nat.add_zero, vicn_left _ (Nat.le_refl _)]
    unfold vic
    rw [vicn]
    cases vicn s lean now L L.length <;> rfl
  | m + 1 => by
    rw [← Nat.add_assoc, vicn, at_right, vicn_both m, vicn]
    by_cases hm : may lean (at_ M m)
    · rw [if_pos hm, if_pos hm]
      generalize worth s now (at_ M m) = n
      generalize vicn s lean now M m = y
      generalize vic s lean now L = x
      rcases x with _ | ⟨p, q⟩ <;> rcases y with _ | ⟨i, k⟩ <;> simp only [both, offer]
      · split <;> rfl
      · by_cases h1 : q < k
        · rw [if_pos h1]
          by_cases h2 : k < n
          · simp only [h2, if_true]
            rw [if_pos (by omega)]
          · simp only [h2, if_false]
            rw [if_pos h1]
        · rw [if_neg h1]
          by_cases h2 : k < n
          · simp only [h2, if_true]
          · simp only [h2, if_false]
            rw [if_neg (by omega), if_neg h1]
    · rw [if_neg hm, if_neg hm]
theorem vic_both (s lean now : Int) (L M : List S) : vic s lean now (L ++ M) = both L.length (vic s lean now L) (vic s lean now M) := by
  rw [vic, List.length_append, vicn_both]; rfl
theorem vic_two {s lean now : Int} {x y : S} (hx : may lean x) (hy : may lean y) : vic s lean now [x, y] = if worth s now x < worth s now y then some (1, worth s now y) else some (0, worth s now x) := by
  show vicn s lean now [x, y] 2 = _
  rw [vicn, vicn, vicn]
  have e1 : at_ [x, y] 1 = y := rfl
  have e0 : at_ [x, y] 0 = x := rfl
  rw [e1, e0, if_pos hx, if_pos hy]
  rfl
end Vc
end Go.Proofs.Ythgjfjmampmiiaa

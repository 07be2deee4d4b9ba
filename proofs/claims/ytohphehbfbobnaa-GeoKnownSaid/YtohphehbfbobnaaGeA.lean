/-
  Package geo in plain numbers: the need, what is lean, what may be.
-/
import Derived.Test.YtohphehbfbobnaaPaK
namespace Go.Proofs.Ytohphehbfbobnaa
open Go.RowKit

namespace Ge
/-- The need of m blocks, where a segment has b slots. -/
def nd (b m : Int) : Int := (4 * m + (b - 1) - 1) / (b - 1)
def ln (b : Int) : Int := (b - 1) / 5
def sz (a b c : Int) : Prop := (16 ≤ a ∧ a ≤ 32) ∧ (32 ≤ b ∧ b ≤ 64) ∧ 1 ≤ c ∧ c ≤ 64
def room (a b c : Int) : Int := (a - nd b c - 14) * (ln b + 1)
/-- A geometry that may be. -/
def ok (a b c : Int) : Prop := sz a b c ∧ c + 9 < room a b c
instance (a b c : Int) : Decidable (sz a b c) := by unfold sz; infer_instance
instance (a b c : Int) : Decidable (ok a b c) := by unfold ok; infer_instance
def ck (a b c : Int) : Int := if ok a b c then 0 else 15
def sec (a b c : Int) : Int := if ok a b c then 3 + a * b else 0
def there (a b p q : Int) : Prop := (0 ≤ p ∧ p ≤ a - 1) ∧ 0 ≤ q ∧ q ≤ b - 1
instance (a b p q : Int) : Decidable (there a b p q) := by unfold there; infer_instance
def at_ (a b c p q : Int) : Int := if ok a b c ∧ there a b p q then 3 + p * b + q else 0
def isin (a b c t : Int) : Prop := ok a b c ∧ 3 ≤ t ∧ t ≤ 3 + a * b - 1
instance (a b c t : Int) : Decidable (isin a b c t) := by unfold isin; infer_instance
def ps (a b c t : Int) : Int := if isin a b c t then (t - 3) / b else 0
def pt (a b c t : Int) : Int := if isin a b c t then (t - 3) % b else 0
def cut (m : Int) : Int := if m < 0 then 0 else if 64 < m then 64 else m
def need (a b c m : Int) : Int := if ok a b c then nd b (cut m) else 0
def rsv (a b c m : Int) : Int := if ok a b c then nd b (cut m) + 8 else 0
def lean (a b c : Int) : Int := if ok a b c then ln b else 0
theorem nd_le (b m k : Int) (hb : 2 ≤ b) : nd b m ≤ k ↔ 4 * m ≤ k * (b - 1) := by
  have h := Int.ediv_lt_iff_lt_mul (a := 4 * m + (b - 1) - 1) (b := k + 1) (c := b - 1) (by omega)
  have e : (k + 1) * (b - 1) = k * (b - 1) + (b - 1) := by rw [Int.add_mul, Int.one_mul]
  rw [e] at h
  unfold nd
  generalize k * (b - 1) = X at *
  generalize (4 * m + (b - 1) - 1) / (b - 1) = Y at *
  omega
theorem nd_in (b m : Int) (hb : 32 ≤ b) (h0 : 0 ≤ m) (h1 : m ≤ 64) : 0 ≤ nd b m ∧ nd b m ≤ 9 := by
  refine ⟨Int.ediv_nonneg (by omega) (by omega), (nd_le b m 9 (by omega)).2 (by omega)⟩
theorem ln_in (b : Int) (h0 : 32 ≤ b) (h1 : b ≤ 64) : 6 ≤ ln b ∧ ln b ≤ 12 := by unfold ln; omega
theorem mul_in (x y : Int) (hx : -7 ≤ x ∧ x ≤ 18) (hy : 7 ≤ y ∧ y ≤ 13) : -91 ≤ x * y ∧ x * y ≤ 234 := by
  have h : y = 7 ∨ y = 8 ∨ y = 9 ∨ y = 10 ∨ y = 11 ∨ y = 12 ∨ y = 13 := by omega
  rcases h with rfl | rfl | rfl | rfl | rfl | rfl | rfl <;> omega
theorem room_in (a b c : Int) (h : sz a b c) : -91 ≤ room a b c ∧ room a b c ≤ 234 := by
  obtain ⟨ha, hb, hc⟩ := h
  have h1 := nd_in b c hb.1 (by omega) hc.2
  have h2 := ln_in b hb.1 hb.2
  exact mul_in _ _ (by omega) (by omega)
theorem cut_in (m : Int) : 0 ≤ cut m ∧ cut m ≤ 64 := by
  unfold cut
  split
  · omega
  · split <;> omega
theorem cut_id (m : Int) (h : 0 ≤ m ∧ m ≤ 64) : cut m = m := by
  unfold cut
  rw [if_neg (by omega), if_neg (by omega)]
theorem area (a b : Int) (ha : 0 ≤ a ∧ a ≤ 32) (hb : 0 ≤ b ∧ b ≤ 64) : 0 ≤ a * b ∧ a * b ≤ 2048 :=
  ⟨Int.mul_nonneg ha.1 hb.1, by have h := Int.mul_le_mul ha.2 hb.2 hb.1 (by omega : (0 : Int) ≤ 32); omega⟩
end Ge
end Go.Proofs.Ytohphehbfbobnaa

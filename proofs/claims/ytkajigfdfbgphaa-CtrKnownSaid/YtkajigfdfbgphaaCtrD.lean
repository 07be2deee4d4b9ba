/-
  What counter mode makes of bytes, part by part, in plain lists.
-/
import Derived.Test.YtkajigfdfbgphaaCtrC
namespace Go.Proofs.Ytkajigfdfbgphaa
open Go.RowKit

namespace Ctr
/-- k bytes of a row from place o on, xored with a block's. -/
def xr (L B : List Int) (o : Nat) : Nat → List Int
  | 0 => L
  | k + 1 => (xr L B o k).set (o + k) (bits .xor .u8 ((xr L B o k).getD (o + k) 0) (B.getD k 0))
theorem xr_len (L B : List Int) (o k : Nat) : (xr L B o k).length = L.length := by
  induction k with
  | zero => rfl
  | succ k ih => rw [xr, List.length_set, ih]
theorem getD_set (l : List Int) (i j : Nat) (x : Int) (hi : i < l.length) : (l.set i x).getD j 0 = if i = j then x else l.getD j 0 := by
  rw [List.getD_eq_getElem?_getD, List.getElem?_set]
  by_cases h : i = j
  · subst h; simp [hi]
  · simp [h, List.getD_eq_getElem?_getD]
theorem xr_get (L B : List Int) (o : Nat) : ∀ k, o + k ≤ L.length → ∀ j, (xr L B o k).getD j 0 = if o ≤ j ∧ j < o + k then bits .xor .u8 (L.getD j 0) (B.getD (j - o) 0) else L.getD j 0
  | 0, _, j => by rw [xr, if_neg (by omega)]
  | k + 1, h, j => by
    rw [xr, getD_set _ _ _ _ (by rw [xr_len]; omega)]
    by_cases e : o + k = j
    · subst e
      rw [if_pos rfl, if_pos (by omega), xr_get L B o k (by omega), if_neg (by omega), show o + k - o = k by omega]
    · rw [if_neg e, xr_get L B o k (by omega)]
      by_cases c : o ≤ j ∧ j < o + k
      · rw [if_pos c, if_pos (by omega)]
      · rw [if_neg c, if_neg (by omega)]
/-- The parts that have come, one behind the other: the row, and the block's number. -/
def step (S : Nat → List Int) (len : Nat) (s : List Int × Nat) (x : Nat) : List Int × Nat := (xr s.1 (S s.2) (16 * x) (min 16 (len - 16 * x)), s.2 + 1)
def st (S : Nat → List Int) (L : List Int) (pre : List Nat) : List Int × Nat := pre.foldl (step S L.length) (L, 0)
theorem st_nil (S : Nat → List Int) (L : List Int) : st S L [] = (L, 0) := rfl
theorem st_snoc (S : Nat → List Int) (L : List Int) (pre : List Nat) (x : Nat) : st S L (pre ++ [x]) = step S L.length (st S L pre) x := by
  unfold st
  rw [List.foldl_append]
  rfl
theorem fold_two (S : Nat → List Int) (len : Nat) : ∀ (pre : List Nat) (s : List Int × Nat), (pre.foldl (step S len) s).2 = s.2 + pre.length
  | [], s => rfl
  | x :: r, s => by
    rw [List.foldl_cons, fold_two S len r]
    simp only [step, List.length_cons]
    omega
theorem fold_len (S : Nat → List Int) (len : Nat) : ∀ (pre : List Nat) (s : List Int × Nat), (pre.foldl (step S len) s).1.length = s.1.length
  | [], s => rfl
  | x :: r, s => by
    rw [List.foldl_cons, fold_len S len r]
    simp only [step, xr_len]
theorem st_two (S : Nat → List Int) (L : List Int) (pre : List Nat) : (st S L pre).2 = pre.length := by
  unfold st
  rw [fold_two]
  simp
theorem st_len (S : Nat → List Int) (L : List Int) (pre : List Nat) : (st S L pre).1.length = L.length := by
  unfold st
  rw [fold_len]
theorem st_range (S : Nat → List Int) (L : List Int) : ∀ k, ∀ j, (st S L (List.range k)).1.getD j 0 = if j < 16 * k ∧ j < L.length then bits .xor .u8 (L.getD j 0) ((S (j / 16)).getD (j % 16) 0) else L.getD j 0
  | 0, j => by rw [List.range_zero, st_nil, if_neg (by omega)]
  | k + 1, j => by
    rw [List.range_succ, st_snoc, step, st_two, List.length_range]
    by_cases hk : 16 * k ≤ L.length
    · rw [xr_get _ _ _ _ (by rw [st_len]; omega), st_range S L k j]
      by_cases c : 16 * k ≤ j ∧ j < 16 * k + min 16 (L.length - 16 * k)
      · rw [if_pos c, if_neg (show ¬ (j < 16 * k ∧ j < L.length) by omega), if_pos (show j < 16 * (k + 1) ∧ j < L.length by omega), show j / 16 = k by omega, show j % 16 = j - 16 * k by omega]
      · rw [if_neg c]
        by_cases d : j < 16 * k ∧ j < L.length
        · rw [if_pos d, if_pos (by omega)]
        · rw [if_neg d, if_neg (by omega)]
    · rw [show min 16 (L.length - 16 * k) = 0 by omega, xr, st_range S L k j]
      by_cases d : j < 16 * k ∧ j < L.length
      · rw [if_pos d, if_pos (by omega)]
      · rw [if_neg d, if_neg (by omega)]
/-- Bytes xored with a stream. -/
def xs (S : Nat → List Int) (L : List Int) : List Int := (List.range L.length).map fun j => bits .xor .u8 (L.getD j 0) ((S (j / 16)).getD (j % 16) 0)
theorem xs_len (S : Nat → List Int) (L : List Int) : (xs S L).length = L.length := by simp [xs]
theorem xs_get (S : Nat → List Int) (L : List Int) (j : Nat) (hj : j < L.length) : (xs S L).getD j 0 = bits .xor .u8 (L.getD j 0) ((S (j / 16)).getD (j % 16) 0) := by
  rw [List.getD_eq_getElem?_getD, List.getElem?_eq_getElem (by rw [xs_len]; exact hj)]
  simp [xs]
theorem ext_getD (a b : List Int) (hl : a.length = b.length) (h : ∀ j, j < a.length → a.getD j 0 = b.getD j 0) : a = b := by
  apply List.ext_getElem hl
  intro i h1 h2
  have := h i h1
  rw [List.getD_eq_getElem?_getD, List.getElem?_eq_getElem h1, List.getD_eq_getElem?_getD, List.getElem?_eq_getElem h2] at this
  simpa using this
theorem st_all (S : Nat → List Int) (L : List Int) : (st S L (List.range (nch L.length))).1 = xs S L := by
  apply ext_getD
  · rw [st_len, xs_len]
  · intro j hj
    rw [st_len] at hj
    rw [st_range, xs_get _ _ _ hj, if_pos (by unfold nch; omega)]
theorem xs_byt (S : Nat → List Int) (L : List Int) : Sha.Byt (xs S L) := fun x hx => by
  unfold xs at hx
  rw [List.mem_map] at hx
  obtain ⟨j, _, rfl⟩ := hx
  exact Aes.xor8_byt _ _
attribute [irreducible] xr st xs
end Ctr
end Go.Proofs.Ytkajigfdfbgphaa

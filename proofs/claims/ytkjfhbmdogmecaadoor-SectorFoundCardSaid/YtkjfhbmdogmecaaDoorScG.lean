/-
  Sectors put and read, in plain lists.
-/
import Derived.Test.YtkjfhbmdogmecaaDoorScD
namespace Go.Proofs.YtkjfhbmdogmecaaDoor
open Go.RowKit

namespace Sc
/-- A sector. -/
structure S where
  k : Int
  e : Int
  n : Int
  a : Int
  L : List Int
deriving DecidableEq
def S.zero : S := ⟨0, 0, 0, 0, []⟩
abbrev ers (s : S) : Int := er s.k s.e s.n s.a s.L.length
/-- What Put answers: the error, the bytes. -/
def pt (f : Int → Int → List Int → List Int → List Int) (s : S) : Int × List Int := if ers s = 0 then (0, fr s.k s.e s.n ++ f s.e s.n (mk s.k s.a) s.L) else (ers s, [])
/-- What Get answers. -/
def gt (f : Int → Int → List Int → List Int → Option (List Int)) (k a : Int) (b : List Int) : Int × S :=
  if ger k a b = 0 then
    match f (ep (b.take 17)) (nu (b.take 17)) (mk k a) (b.drop 17) with
    | none => (19, S.zero)
    | some R => (0, ⟨k, ep (b.take 17), nu (b.take 17), a, R⟩)
  else (ger k a b, S.zero)
theorem er_zero {k e n a : Int} {m : Nat} : er k e n a m = 0 ↔ isK k = true ∧ inP e n a = true ∧ m ≤ 975 := by
  unfold er
  constructor
  · intro h
    by_cases h1 : isK k = true
    · rw [if_pos h1] at h
      by_cases h2 : inP e n a = true
      · rw [if_pos h2] at h
        by_cases h3 : 975 < m
        · rw [if_pos h3] at h; omega
        · exact ⟨h1, h2, by omega⟩
      · rw [if_neg h2] at h; omega
    · rw [if_neg h1] at h; omega
  · rintro ⟨h1, h2, h3⟩
    rw [if_pos h1, if_pos h2, if_neg (by omega)]
theorem ger_zero {k a : Int} {b : List Int} : ger k a b = 0 ↔ (17 ≤ b.length ∧ b.length ≤ 1024) ∧ (isK k = true ∧ kd b = k) ∧ inP (ep (b.take 17)) (nu (b.take 17)) a = true := by
  unfold ger
  constructor
  · intro h
    by_cases h0 : b.length < 17
    · rw [if_pos h0] at h; omega
    · rw [if_neg h0] at h
      by_cases h1 : 1024 < b.length
      · rw [if_pos h1] at h; omega
      · rw [if_neg h1] at h
        by_cases h2 : isK k = true ∧ kd b = k
        · rw [if_pos h2] at h
          by_cases h3 : inP (ep (b.take 17)) (nu (b.take 17)) a = true
          · exact ⟨⟨by omega, by omega⟩, h2, h3⟩
          · rw [if_neg h3] at h; omega
        · rw [if_neg h2] at h; omega
  · rintro ⟨⟨h0, h1⟩, h2, h3⟩
    rw [if_neg (by omega), if_neg (by omega), if_pos h2, if_pos h3]
theorem pt_ok {f : Int → Int → List Int → List Int → List Int} {s : S} (h : ers s = 0) : pt f s = (0, fr s.k s.e s.n ++ f s.e s.n (mk s.k s.a) s.L) := by unfold pt; rw [if_pos h]
theorem pt_no {f : Int → Int → List Int → List Int → List Int} {s : S} (h : ers s ≠ 0) : pt f s = (ers s, []) := by unfold pt; rw [if_neg h]
theorem pt_fst (f : Int → Int → List Int → List Int → List Int) (s : S) : (pt f s).1 = ers s := by
  by_cases h : ers s = 0
  · rw [pt_ok h, h]
  · rw [pt_no h]
theorem gt_no {f : Int → Int → List Int → List Int → Option (List Int)} {k a : Int} {b : List Int} (h : ger k a b ≠ 0) : gt f k a b = (ger k a b, S.zero) := by unfold gt; rw [if_neg h]
theorem gt_none {f : Int → Int → List Int → List Int → Option (List Int)} {k a : Int} {b : List Int} (h : ger k a b = 0) (h2 : f (ep (b.take 17)) (nu (b.take 17)) (mk k a) (b.drop 17) = none) : gt f k a b = (19, S.zero) := by unfold gt; rw [if_pos h, h2]
theorem gt_some {f : Int → Int → List Int → List Int → Option (List Int)} {k a : Int} {b R : List Int} (h : ger k a b = 0) (h2 : f (ep (b.take 17)) (nu (b.take 17)) (mk k a) (b.drop 17) = some R) : gt f k a b = (0, ⟨k, ep (b.take 17), nu (b.take 17), a, R⟩) := by unfold gt; rw [if_pos h, h2]
theorem gt_zero {f : Int → Int → List Int → List Int → Option (List Int)} {k a : Int} {b : List Int} (h : (gt f k a b).1 ≠ 0) : (gt f k a b).2 = S.zero := by
  unfold gt at h ⊢
  by_cases h0 : ger k a b = 0
  · rw [if_pos h0] at h ⊢
    cases q : f (ep (b.take 17)) (nu (b.take 17)) (mk k a) (b.drop 17) with
    | none => rfl
    | some R => rw [q] at h; exact absurd rfl h
  · rw [if_neg h0]
theorem gt_good {f : Int → Int → List Int → List Int → Option (List Int)} {k a : Int} {b : List Int} (h : (gt f k a b).1 = 0) : ger k a b = 0 ∧ ∃ R, f (ep (b.take 17)) (nu (b.take 17)) (mk k a) (b.drop 17) = some R ∧ gt f k a b = (0, ⟨k, ep (b.take 17), nu (b.take 17), a, R⟩) := by
  by_cases h0 : ger k a b = 0
  · refine ⟨h0, ?_⟩
    cases q : f (ep (b.take 17)) (nu (b.take 17)) (mk k a) (b.drop 17) with
    | none => rw [gt_none h0 q] at h; cases h
    | some R => exact ⟨R, rfl, gt_some h0 q⟩
  · rw [gt_no h0] at h; exact absurd h h0
/-! what stands ahead, and back -/
theorem in64_of (n : Int) (h : 0 ≤ n ∧ n ≤ 1099511627776) : Pk.In64 n := by unfold Pk.In64; omega
theorem fr_split (k e n : Int) : fr k e n = k :: (Pk.e8 e 8 ++ Pk.e8 n 8) := by unfold fr mk; rfl
theorem nx_drop {k : Nat} {l : List Int} (h : k ≤ l.length) : Pk.nx k l = l.drop k := by unfold Pk.nx; rw [if_neg (by omega)]
theorem vi_of {l : List Int} (h : 8 ≤ l.length) : Pk.vi l = Pk.in8 (l.take 8) := by unfold Pk.vi; rw [if_neg (by omega)]
theorem ep_of {c : List Int} (h : c.length = 17) : ep c = Pk.in8 ((c.drop 1).take 8) := by
  unfold ep
  rw [nx_drop (by omega), vi_of (by rw [List.length_drop]; omega)]
theorem nu_of {c : List Int} (h : c.length = 17) : nu c = Pk.in8 ((c.drop 1).drop 8) := by
  unfold nu
  rw [nx_drop (k := 1) (by omega), nx_drop (by rw [List.length_drop]; omega), vi_of (by rw [List.length_drop, List.length_drop]; omega), List.take_of_length_le (by rw [List.length_drop, List.length_drop]; omega)]
theorem drop1_fr (k e n : Int) : (fr k e n).drop 1 = Pk.e8 e 8 ++ Pk.e8 n 8 := by rw [fr_split]; rfl
theorem ep_fr (k e n : Int) (h : 0 ≤ e ∧ e ≤ 1099511627776) : ep (fr k e n) = e := by
  rw [ep_of (fr_len _ _ _), drop1_fr, List.take_append_of_le_length (by rw [Pk.e8_len]; omega), List.take_of_length_le (by rw [Pk.e8_len]; omega)]
  exact Pk.in8_e8 (in64_of e h)
theorem nu_fr (k e n : Int) (h : 0 ≤ n ∧ n ≤ 1099511627776) : nu (fr k e n) = n := by
  rw [nu_of (fr_len _ _ _), drop1_fr, List.drop_append_of_le_length (by rw [Pk.e8_len]; omega), List.drop_of_length_le (by rw [Pk.e8_len]; omega), List.nil_append]
  exact Pk.in8_e8 (in64_of n h)
theorem take_fr (k e n : Int) (X : List Int) : (fr k e n ++ X).take 17 = fr k e n := by
  rw [List.take_append_of_le_length (by rw [fr_len]; omega), List.take_of_length_le (by rw [fr_len]; omega)]
theorem drop_fr (k e n : Int) (X : List Int) : (fr k e n ++ X).drop 17 = X := by
  rw [List.drop_append_of_le_length (by rw [fr_len]; omega), List.drop_of_length_le (by rw [fr_len]; omega)]; rfl
theorem kd_fr (k e n : Int) (hk : isK k = true) (X : List Int) : kd (fr k e n ++ X) = k := by
  unfold kd
  rw [if_neg (by rw [List.length_append, fr_len]; omega)]
  have h : (fr k e n ++ X).getD 0 0 = k := by rw [fr_split]; rfl
  rw [h, if_pos hk]
/-- The front that bytes have is that of what they say. -/
theorem fr_of {b : List Int} (hb : Sha.Byt b) (h17 : 17 ≤ b.length) (k : Int) (hk : kd b = k) (hk2 : isK k = true) : fr k (ep (b.take 17)) (nu (b.take 17)) = b.take 17 := by
  have hl : (b.take 17).length = 17 := by rw [List.length_take]; omega
  have hbt : Sha.Byt (b.take 17) := fun x hx => hb x (List.mem_of_mem_take hx)
  have hk0 : b.getD 0 0 = k := by
    unfold kd at hk
    rw [if_neg (by omega)] at hk
    by_cases q : isK (b.getD 0 0) = true
    · rw [if_pos q] at hk; exact hk
    · rw [if_neg q] at hk
      have := isK_iff.1 hk2
      omega
  have hc : b.take 17 = k :: (b.take 17).drop 1 := by
    cases b with
    | nil => simp at h17
    | cons x l =>
      simp only [List.getD_cons_zero] at hk0
      subst hk0
      rfl
  generalize b.take 17 = c at *
  have hd : (c.drop 1).length = 16 := by rw [List.length_drop]; omega
  have he : Pk.e8 (ep c) 8 = (c.drop 1).take 8 := by
    rw [ep_of hl]
    exact Pk.e8_in8 (by rw [List.length_take]; omega) (fun x hx => hbt x (List.mem_of_mem_drop (List.mem_of_mem_take hx)))
  have hn : Pk.e8 (nu c) 8 = (c.drop 1).drop 8 := by
    rw [nu_of hl]
    exact Pk.e8_in8 (by rw [List.length_drop]; omega) (fun x hx => hbt x (List.mem_of_mem_drop (List.mem_of_mem_drop hx)))
  rw [fr_split, he, hn, List.take_append_drop]
  exact hc.symm
theorem ers_parts {s : S} (h : ers s = 0) : isK s.k = true ∧ inP s.e s.n s.a = true ∧ s.L.length ≤ 975 := er_zero.1 h
/-- Of what Put makes Get has no error ahead of opening, and asks just what was sealed. -/
theorem ger_pt {s : S} (h : ers s = 0) (X : List Int) (hX : X.length = s.L.length + 32) : ger s.k s.a (fr s.k s.e s.n ++ X) = 0 := by
  obtain ⟨h1, h2, h3⟩ := ers_parts h
  have h4 := inP_iff.1 h2
  refine ger_zero.2 ⟨by rw [List.length_append, fr_len]; omega, ⟨h1, kd_fr _ _ _ h1 _⟩, ?_⟩
  rw [take_fr, ep_fr _ _ _ h4.1, nu_fr _ _ _ h4.2.1]
  exact h2
theorem gt_pt {s : S} (h : ers s = 0) (f : Int → Int → List Int → List Int → Option (List Int)) (X : List Int) (hX : X.length = s.L.length + 32) (ho : f s.e s.n (mk s.k s.a) X = some s.L) : gt f s.k s.a (fr s.k s.e s.n ++ X) = (0, s) := by
  have h4 := inP_iff.1 (ers_parts h).2.1
  have h5 := gt_some (f := f) (k := s.k) (a := s.a) (b := fr s.k s.e s.n ++ X) (R := s.L) (ger_pt h X hX) (by rw [take_fr, drop_fr, ep_fr _ _ _ h4.1, nu_fr _ _ _ h4.2.1]; exact ho)
  rw [h5, take_fr, ep_fr _ _ _ h4.1, nu_fr _ _ _ h4.2.1]
attribute [irreducible] pt gt
end Sc
end Go.Proofs.YtkjfhbmdogmecaaDoor

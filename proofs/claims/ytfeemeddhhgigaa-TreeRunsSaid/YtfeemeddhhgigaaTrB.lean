/-
  What always holds of a tree; two blocks that turn do so in either order.
-/
import Derived.Test.YtfeemeddhhgigaaTrA
namespace Go.Proofs.Ytfeemeddhhgigaa
namespace Tr
open Pg (Rf zr)
theorem has_iff (t : T) (i : Nat) (hi : 1 ≤ i) : has t i = true ↔ ∃ k, lf k = i ∧ 0 < (t.b k).1 := by
  unfold has lf
  rw [List.any_eq_true]
  constructor
  · rintro ⟨j, hj, h⟩
    rw [List.mem_range] at hj
    exact ⟨8 * (i - 1) + j, by omega, of_decide_eq_true h⟩
  · rintro ⟨k, hk, h⟩
    refine ⟨k - 8 * (i - 1), by rw [List.mem_range]; omega, decide_eq_true ?_⟩
    rw [show 8 * (i - 1) + (k - 8 * (i - 1)) = k by omega]
    exact h
theorem has_congr (t u : T) (i : Nat) (hi : 1 ≤ i) (h : ∀ k, lf k = i → t.b k = u.b k) : has t i = has u i := by
  rw [Bool.eq_iff_iff, has_iff t i hi, has_iff u i hi]
  constructor
  · rintro ⟨k, h1, h2⟩; exact ⟨k, h1, by rw [← h k h1]; exact h2⟩
  · rintro ⟨k, h1, h2⟩; exact ⟨k, h1, by rw [h k h1]; exact h2⟩
/-- What always holds of a tree. -/
structure Inv (t : T) : Prop where
  z : ∀ k, 0 < (t.b k).1 ∨ t.b k = zr
  far : ∀ k, 64 ≤ k → t.b k = zr
  there : ∀ i, 1 ≤ i → i < 9 → (t.n i).isSome = has t i
  root : (t.n 0).isSome = true
  dirt : ∀ i, 1 ≤ i → t.n i = some none → t.n 0 = some none
  cl : ∀ i r, 1 ≤ i → t.n i = some (some r) → 0 < r.1
  cl0 : ∀ r, t.n 0 = some (some r) → 0 < r.1 ∨ r = zr
  off : ∀ i, 9 ≤ i → t.n i = none
theorem zr_no : ¬ 0 < zr.1 := by unfold zr; simp
theorem new_inv : Inv new := by
  refine ⟨fun k => Or.inr rfl, fun k _ => rfl, fun i h1 _ => ?_, rfl, fun i h1 h => ?_, fun i r h1 h => ?_, fun r h => ?_, fun i h => ?_⟩
  · have e : new.n i = none := if_neg (by omega)
    rw [e]
    symm
    rw [Option.isSome_none, ← Bool.not_eq_true, has_iff new i h1]
    rintro ⟨k, _, h⟩
    exact zr_no h
  · have e : new.n i = none := if_neg (by omega)
    rw [e] at h; cases h
  · have e : new.n i = none := if_neg (by omega)
    rw [e] at h; cases h
  · have e : new.n 0 = some (some zr) := rfl
    rw [e] at h
    injection h with h
    injection h with h
    exact Or.inr h.symm
  · exact if_neg (by omega)
/-- A block turns: its leaf, if it is there then, and the root are dirty. -/
def act (t : T) (k : Nat) (r : Rf) : T := ⟨up t.b k r, up (up t.n (lf k) (if has ⟨up t.b k r, t.n⟩ (lf k) then some none else none)) 0 (some none)⟩
theorem lf_pos (k : Nat) : 1 ≤ lf k := by unfold lf; omega
theorem set_act (t : T) (k : Nat) (r : Rf) (h : 0 < r.1) : setT t k r = act t k r := by
  unfold setT put act
  rw [if_pos ((has_iff _ _ (lf_pos k)).2 ⟨k, rfl, by show 0 < (up t.b k r k).1; rw [up_same]; exact h⟩)]
theorem del_act (t : T) (k : Nat) : delT t k = act t k zr := by
  unfold delT act put
  have e : has ⟨up t.b k zr, up (up t.n (lf k) (some none)) 0 (some none)⟩ (lf k) = has ⟨up t.b k zr, t.n⟩ (lf k) := rfl
  rw [e]
  split
  · rfl
  · have hl := lf_pos k
    show (⟨up t.b k zr, up (up (up t.n (lf k) (some none)) 0 (some none)) (lf k) none⟩ : T) = _
    rw [up_comm _ 0 (lf k) _ _ (by omega), up_up]
theorem act_inv (t : T) (k : Nat) (r : Rf) (h : Inv t) (hk : k < 64) (hr : 0 < r.1 ∨ r = zr) : Inv (act t k r) := by
  have hl := lf_in hk
  have h0 : (act t k r).n 0 = some none := by
    exact up_same (up t.n (lf k) (if has ⟨up t.b k r, t.n⟩ (lf k) then some none else none)) 0 (some none)
  have hne : ∀ i, i ≠ 0 → i ≠ lf k → (act t k r).n i = t.n i := fun i h1 h2 => by
    show up (up t.n (lf k) (if has ⟨up t.b k r, t.n⟩ (lf k) then some none else none)) 0 (some none) i = _
    rw [up_other _ _ _ _ h1, up_other _ _ _ _ h2]
  have hlf : (act t k r).n (lf k) = if has ⟨up t.b k r, t.n⟩ (lf k) then some none else none := by
    show up (up t.n (lf k) (if has ⟨up t.b k r, t.n⟩ (lf k) then some none else none)) 0 (some none) (lf k) = _
    rw [up_other _ _ _ _ (by omega), up_same]
  refine ⟨fun j => ?_, fun j hj => ?_, fun i h1 h2 => ?_, by rw [h0]; rfl, fun i _ _ => h0, fun i r' h1 h2 => ?_, fun r' h2 => ?_, fun i hi => ?_⟩
  · show 0 < (up t.b k r j).1 ∨ up t.b k r j = zr
    by_cases e : j = k
    · rw [e, up_same]; exact hr
    · rw [up_other _ _ _ _ e]; exact h.z j
  · show up t.b k r j = zr
    rw [up_other _ _ _ _ (by omega)]; exact h.far j hj
  · by_cases e : i = lf k
    · subst e
      have e2 : has (act t k r) (lf k) = has ⟨up t.b k r, t.n⟩ (lf k) := rfl
      rw [hlf, e2]
      split
      · rename_i h3; rw [h3]; rfl
      · rename_i h3; rw [Bool.not_eq_true] at h3; rw [h3]; rfl
    · rw [hne i (by omega) e, h.there i h1 h2]
      exact has_congr _ _ i h1 (fun j hj => by
        show t.b j = up t.b k r j
        rw [up_other _ _ _ _ (fun e3 => e (by rw [← hj, e3]))])
  · by_cases e : i = lf k
    · subst e
      rw [hlf] at h2
      split at h2 <;> cases h2
    · rw [hne i (by omega) e] at h2
      exact h.cl i r' h1 h2
  · rw [h0] at h2; cases h2
  · rw [hne i (by omega) (by omega)]; exact h.off i hi
theorem touch_inv (t : T) (i : Nat) (h : Inv t) (hi : i < 9) (hc : (t.n i).isSome = true) : Inv (touchT t i) := by
  have h0 : (touchT t i).n 0 = some none := by
    exact up_same (up t.n i (some none)) 0 (some none)
  have hb : (touchT t i).b = t.b := rfl
  have hn : ∀ j, j ≠ 0 → (touchT t i).n j = if j = i then some none else t.n j := fun j hj => by
    show up (up t.n i (some none)) 0 (some none) j = _
    rw [up_other _ _ _ _ hj]; rfl
  refine ⟨h.z, h.far, fun j h1 h2 => ?_, by rw [h0]; rfl, fun _ _ _ => h0, fun j r h1 h2 => ?_, fun r h2 => ?_, fun j hj => ?_⟩
  · have e : has (touchT t i) j = has t j := rfl
    rw [hn j (by omega), e, ← h.there j h1 h2]
    split
    · rename_i e2; subst e2; rw [hc]; rfl
    · rfl
  · rw [hn j (by omega)] at h2
    split at h2
    · cases h2
    · exact h.cl j r h1 h2
  · rw [h0] at h2; cases h2
  · rw [hn j (by omega), if_neg (by omega)]; exact h.off j hj
/-- Is a leaf dirty? -/
def dl (t : T) : Bool := (List.range 8).any fun j => dty (t.n (j + 1))
theorem dty_iff (x : Nd) : dty x = true ↔ x = some none := by
  cases x with
  | none => simp [dty]
  | some y => cases y <;> simp [dty]
theorem dl_no {t : T} (h : dl t = false) (i : Nat) (h1 : 1 ≤ i) (h2 : i < 9) : t.n i ≠ some none := fun e => by
  have : dl t = true := by
    unfold dl
    rw [List.any_eq_true]
    exact ⟨i - 1, by rw [List.mem_range]; omega, by rw [show i - 1 + 1 = i by omega, e]; rfl⟩
  rw [h] at this; cases this
theorem save_inv (t : T) (i : Nat) (r : Rf) (h : Inv t) (hi : i < 9) (hd : t.n i = some none) (h0 : i = 0 → dl t = false ∧ (0 < r.1 ∨ r = zr)) (h1 : i ≠ 0 → 0 < r.1) : Inv (saveT t i r) := by
  have hs : (saveT t i r).n i = some (some r) := by
    exact up_same t.n i (some (some r))
  have hn : ∀ j, j ≠ i → (saveT t i r).n j = t.n j := fun j hj => up_other _ _ _ _ hj
  refine ⟨h.z, h.far, fun j h2 h3 => ?_, ?_, fun j h2 h3 => ?_, fun j r' h2 h3 => ?_, fun r' h3 => ?_, fun j hj => ?_⟩
  · have e : has (saveT t i r) j = has t j := rfl
    rw [e, ← h.there j h2 h3]
    by_cases e2 : j = i
    · subst e2; rw [hs, hd]; rfl
    · rw [hn j e2]
  · by_cases e : 0 = i
    · subst e; rw [hs]; rfl
    · rw [hn 0 e]; exact h.root
  · by_cases e2 : j = i
    · subst e2; rw [hs] at h3; cases h3
    · rw [hn j e2] at h3
      by_cases e : 0 = i
      · subst e
        by_cases h9 : j < 9
        · exact absurd h3 (dl_no (h0 rfl).1 j h2 h9)
        · rw [h.off j (by omega)] at h3; cases h3
      · rw [hn 0 e]; exact h.dirt j h2 h3
  · by_cases e2 : j = i
    · subst e2
      rw [hs] at h3
      injection h3 with h3
      injection h3 with h3
      rw [← h3]
      exact h1 (by omega)
    · rw [hn j e2] at h3; exact h.cl j r' h2 h3
  · by_cases e : 0 = i
    · subst e
      rw [hs] at h3
      injection h3 with h3
      injection h3 with h3
      rw [← h3]
      exact (h0 rfl).2
    · rw [hn 0 e] at h3; exact h.cl0 r' h3
  · rw [hn j (by omega)]; exact h.off j hj
/-- Two blocks turn, in either order. -/
theorem act_comm (t : T) (a b : Nat) (x y : Rf) (hab : a ≠ b) : act (act t a x) b y = act (act t b y) a x := by
  have hb : up (up t.b a x) b y = up (up t.b b y) a x := up_comm _ _ _ _ _ hab
  have la := lf_pos a
  have lb := lf_pos b
  have e1 : (act (act t a x) b y).b = (act (act t b y) a x).b := hb
  have k1 : (act (act t a x) b y).n = up (up (up (up t.n (lf a) (if has ⟨up t.b a x, t.n⟩ (lf a) then some none else none)) 0 (some none)) (lf b) (if has ⟨up (up t.b a x) b y, t.n⟩ (lf b) then some none else none)) 0 (some none) := rfl
  have k2 : (act (act t b y) a x).n = up (up (up (up t.n (lf b) (if has ⟨up t.b b y, t.n⟩ (lf b) then some none else none)) 0 (some none)) (lf a) (if has ⟨up (up t.b b y) a x, t.n⟩ (lf a) then some none else none)) 0 (some none) := rfl
  have e2 : (act (act t a x) b y).n = (act (act t b y) a x).n := by
    rw [k1, k2, ← hb]
    rw [up_comm _ 0 (lf b) _ _ (by omega), up_up, up_comm _ 0 (lf a) _ _ (by omega), up_up]
    by_cases hl : lf a = lf b
    · rw [← hl, up_up, up_up]
    · have c1 : has ⟨up t.b a x, t.n⟩ (lf a) = has ⟨up (up t.b a x) b y, t.n⟩ (lf a) := has_congr _ _ _ la (fun k hk => by
        show up t.b a x k = up (up t.b a x) b y k
        rw [up_other (up t.b a x) b k y (fun e => hl (by rw [← hk, e]))])
      have c2 : has ⟨up t.b b y, t.n⟩ (lf b) = has ⟨up (up t.b a x) b y, t.n⟩ (lf b) := has_congr _ _ _ lb (fun k hk => by
        show up t.b b y k = up (up t.b a x) b y k
        rw [hb, up_other (up t.b b y) a k x (fun e => hl (by rw [← hk, e]))])
      rw [c1, c2, up_comm _ (lf a) (lf b) _ _ hl]
  have ext : ∀ (p q : T), p.b = q.b → p.n = q.n → p = q := fun p q h1 h2 => by cases p; cases q; cases h1; cases h2; rfl
  exact ext _ _ e1 e2
end Tr
end Go.Proofs.Ytfeemeddhhgigaa

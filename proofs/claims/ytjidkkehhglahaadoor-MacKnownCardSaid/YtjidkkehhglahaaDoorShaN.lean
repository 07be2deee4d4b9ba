/-
  SHA-256 over a text: rows, the state behind so many rows; what a hash under way holds. Plain lists.
-/
import Derived.Test.YtjidkkehhglahaaDoorShaM
import Derived.Laws.CopyOwn
namespace Go.Proofs.YtjidkkehhglahaaDoor
open Go.RowKit
namespace Sha

section
theorem wl_congr (r r' : Nat → Int) (h : ∀ i, i < 64 → r i = r' i) (k : Nat) : wl r k = wl r' k := by
  induction k with
  | zero => rw [wl, wl]
  | succ k ih =>
    rw [wl, wl, ih]
    by_cases hk : k < 16
    · rw [if_pos hk, if_pos hk, h _ (by omega), h _ (by omega), h _ (by omega), h _ (by omega)]
    · rw [if_neg hk, if_neg hk]
theorem wd_congr (r r' : Nat → Int) (h : ∀ i, i < 64 → r i = r' i) (t : Nat) : wd r t = wd r' t := by
  unfold wd; rw [wl_congr r r' h]
theorem rs_congr (s : St) (r r' : Nat → Int) (h : ∀ i, i < 64 → r i = r' i) (t : Nat) : rs s r t = rs s r' t := by
  induction t with
  | zero => rw [rs_zero, rs_zero]
  | succ t ih => rw [rs_succ, rs_succ, ih, wd_congr r r' h]
theorem tk_congr (s : St) (r r' : Nat → Int) (h : ∀ i, i < 64 → r i = r' i) : tk s r = tk s r' := by
  rw [tk_eq, tk_eq, rs_congr s r r' h]
end

def init : St := ⟨1779033703, 3144134277, 1013904242, 2773480762, 1359893119, 2600822924, 528734635, 1541459225⟩
/-- Row q of a text. -/
def row (L : List Int) (q : Nat) : Nat → Int := fun i => L.getD (64 * q + i) 0
/-- The state behind q rows. -/
def stN (L : List Int) : Nat → St
  | 0 => init
  | q + 1 => tk (stN L q) (row L q)
theorem stN_pre (L X : List Int) (q : Nat) (h : 64 * q ≤ L.length) : stN (L ++ X) q = stN L q := by
  induction q with
  | zero => rfl
  | succ q ih =>
    rw [stN, stN, ih (by omega)]
    refine tk_congr _ _ _ (fun i hi => ?_)
    unfold row
    simp only [List.getD_eq_getElem?_getD, List.getElem?_append]
    rw [if_pos (by omega)]
/-- The cells of a hash under way. -/
def HC (s : St) (R : List Int) (n : Int) : List Value := s.l ++ (R.map (Value.int .u8) ++ [.int .u64 n])
theorem HC_len (s : St) (R : List Int) (n : Int) : (HC s R n).length = R.length + 9 := by simp [HC, St.l]
def Byt (l : List Int) : Prop := ∀ x ∈ l, 0 ≤ x ∧ x ≤ 255
/-- What the row under way holds, when M went by. -/
def Rest (M R : List Int) : Prop := R.length = 64 ∧ Byt R ∧ R.take (M.length % 64) = M.drop (64 * (M.length / 64))

theorem HC_splice (s : St) (R : List Int) (n : Int) (k : Nat) (c : List Int) (h : k + c.length ≤ R.length) : splice (HC s R n) (8 + k) (c.map (Value.int .u8)) = HC s (splice R k c) n := by
  unfold splice HC
  have e : s.l.length = 8 := rfl
  rw [List.take_append, List.drop_append, e]
  simp only [List.length_map]
  rw [List.take_of_length_le (by omega), List.drop_eq_nil_of_le (by omega : s.l.length ≤ 8 + k + c.length)]
  rw [show 8 + k - 8 = k by omega, show 8 + k + c.length - 8 = k + c.length by omega]
  rw [List.take_append_of_le_length (by simp; omega), List.drop_append_of_le_length (by simp; omega)]
  simp
theorem HC_state (s s' : St) (R : List Int) (n : Int) : splice (HC s R n) 0 s'.l = HC s' R n := by
  unfold splice HC
  have e : s.l.length = 8 := rfl
  have e' : s'.l.length = 8 := rfl
  simp [e']
  rw [← e, List.drop_left]
theorem byt_take {l : List Int} (h : Byt l) (n : Nat) : Byt (l.take n) := fun x hx => h x (List.mem_of_mem_take hx)
theorem byt_drop {l : List Int} (h : Byt l) (n : Nat) : Byt (l.drop n) := fun x hx => h x (List.mem_of_mem_drop hx)
theorem byt_append {l m : List Int} (h : Byt l) (k : Byt m) : Byt (l ++ m) := fun x hx => (List.mem_append.1 hx).elim (h x) (k x)
theorem byt_getD {l : List Int} (h : Byt l) (i : Nat) : 0 ≤ l.getD i 0 ∧ l.getD i 0 ≤ 255 := by
  by_cases hi : i < l.length
  · rw [List.getD_eq_getElem?_getD, List.getElem?_eq_getElem hi]; exact h _ (List.getElem_mem hi)
  · rw [List.getD_eq_getElem?_getD, List.getElem?_eq_none (by omega)]; simp
theorem splice_len {α : Type} (R : List α) (k : Nat) (c : List α) (h : k + c.length ≤ R.length) : (splice R k c).length = R.length := length_splice R k c h
theorem splice_take {α : Type} (R : List α) (k : Nat) (c : List α) (h : k + c.length ≤ R.length) : (splice R k c).take (k + c.length) = R.take k ++ c := by
  unfold splice
  rw [← List.append_assoc, List.take_append_of_le_length (by simp; omega), List.take_of_length_le (by simp; omega)]
theorem splice_byt {R c : List Int} (k : Nat) (hR : Byt R) (hc : Byt c) : Byt (splice R k c) := byt_append (byt_take hR _) (byt_append hc (byt_drop hR _))

/-- A piece goes by that does not fill the row. -/
theorem rest_some {M R c : List Int} (h : Rest M R) (hc : Byt c) (hl : M.length % 64 + c.length < 64) :
    Rest (M ++ c) (splice R (M.length % 64) c) ∧ (M ++ c).length / 64 = M.length / 64 ∧ (M ++ c).length % 64 = M.length % 64 + c.length ∧ stN (M ++ c) ((M ++ c).length / 64) = stN M (M.length / 64) := by
  obtain ⟨h1, h2, h3⟩ := h
  have e1 : (M ++ c).length / 64 = M.length / 64 := by rw [List.length_append]; omega
  have e2 : (M ++ c).length % 64 = M.length % 64 + c.length := by rw [List.length_append]; omega
  refine ⟨⟨by rw [splice_len _ _ _ (by omega), h1], splice_byt _ h2 hc, ?_⟩, e1, e2, ?_⟩
  · rw [e1, e2, splice_take _ _ _ (by omega), h3, List.drop_append_of_le_length (by omega)]
  · rw [e1]; exact stN_pre M c _ (by omega)
/-- A piece goes by that fills it. -/
theorem rest_full {M R c : List Int} (h : Rest M R) (hc : Byt c) (hl : M.length % 64 + c.length = 64) :
    Rest (M ++ c) (splice R (M.length % 64) c) ∧ (M ++ c).length % 64 = 0 ∧ stN (M ++ c) ((M ++ c).length / 64) = tk (stN M (M.length / 64)) (fun i => (splice R (M.length % 64) c).getD i 0) := by
  obtain ⟨h1, h2, h3⟩ := h
  have e1 : (M ++ c).length / 64 = M.length / 64 + 1 := by rw [List.length_append]; omega
  have e2 : (M ++ c).length % 64 = 0 := by rw [List.length_append]; omega
  have hs : splice R (M.length % 64) c = (M ++ c).drop (64 * (M.length / 64)) := by
    have := splice_take R (M.length % 64) c (by omega)
    rw [hl, List.take_of_length_le (by rw [splice_len _ _ _ (by omega)]; omega)] at this
    rw [this, h3, List.drop_append_of_le_length (by omega)]
  refine ⟨⟨by rw [splice_len _ _ _ (by omega), h1], splice_byt _ h2 hc, ?_⟩, e2, ?_⟩
  · rw [e2, e1, List.take_zero, List.drop_eq_nil_of_le (by rw [List.length_append]; omega)]
  · rw [e1, stN, stN_pre M c _ (by omega)]
    refine tk_congr _ _ _ (fun i hi => ?_)
    unfold row
    rw [hs]
    simp [List.getD_eq_getElem?_getD]
theorem rest_nil (R : List Int) (h : R.length = 64) (hb : Byt R) : Rest [] R := ⟨h, hb, by simp⟩
attribute [irreducible] stN HC
end Sha
end Go.Proofs.YtjidkkehhglahaaDoor

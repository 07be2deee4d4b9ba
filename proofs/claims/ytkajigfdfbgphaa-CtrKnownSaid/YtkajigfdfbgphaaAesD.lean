/-
  Contract: (*aes.Cipher).words: a key's words.
-/
import Derived.Test.YtkajigfdfbgphaaAesK
import Derived.BigRegion
import Derived.Deep.Cut
namespace Go.Proofs.Ytkajigfdfbgphaa
open Go.RowKit

namespace Aes
/-- The first words of a key. -/
def fw (K : List Int) (k : Nat) : List Int := (List.range k).map fun i => be4 (K.getD (4 * i) 0) (K.getD (4 * i + 1) 0) (K.getD (4 * i + 2) 0) (K.getD (4 * i + 3) 0)
theorem fw_len (K : List Int) (k : Nat) : (fw K k).length = k := by simp [fw]
theorem fw_succ (K : List Int) (k : Nat) : fw K (k + 1) = fw K k ++ [be4 (K.getD (4 * k) 0) (K.getD (4 * k + 1) 0) (K.getD (4 * k + 2) 0) (K.getD (4 * k + 3) 0)] := by simp [fw, List.range_succ]
structure Kx where
  l : List Int
  r : Int
def nt (T : List Int) (n i : Nat) (t r : Int) : Int :=
  if i % n = 0 then bits .xor .u32 (col T (rl 8 t) (rl 8 t) (rl 8 t) (rl 8 t)) (r * 16777216)
  else if n = 8 ∧ i % 8 = 4 then col T t t t t else t
def kx (T K : List Int) (n : Nat) : Nat → Kx
  | 0 => ⟨fw K n, 1⟩
  | j + 1 => ⟨(kx T K n j).l ++ [bits .xor .u32 ((kx T K n j).l.getD j 0) (nt T n (n + j) ((kx T K n j).l.getD (n + j - 1) 0) (kx T K n j).r)], if (n + j) % n = 0 then pr (kx T K n j).r 2 else (kx T K n j).r⟩
theorem kx_len (T K : List Int) (n j : Nat) : (kx T K n j).l.length = n + j := by
  induction j with
  | zero => simp [kx, fw_len]
  | succ j ih => simp [kx, ih]; omega
theorem kx_r (T K : List Int) (n j : Nat) : 0 ≤ (kx T K n j).r ∧ (kx T K n j).r ≤ 255 := by
  induction j with
  | zero => simp [kx]
  | succ j ih =>
    simp only [kx]
    split
    · exact pr_byt _ _
    · exact ih
/-- All of a key's words. -/
def kws (T K : List Int) : List Int := (kx T K (K.length / 4) (3 * (K.length / 4) + 28)).l
/-- The words' array while it is filled. -/
def wa (m : Nat) (l : List Int) : List Int := l ++ List.replicate (m - l.length) 0
theorem wa_len (m : Nat) (l : List Int) (h : l.length ≤ m) : (wa m l).length = m := by simp [wa]; omega
theorem wa_get (m : Nat) (l : List Int) (j : Nat) (h : j < l.length) : (wa m l).getD j 0 = l.getD j 0 := by
  unfold wa
  rw [List.getD_eq_getElem?_getD, List.getElem?_append_left h, List.getD_eq_getElem?_getD]
theorem wa_set (m : Nat) (l : List Int) (x : Int) (h : l.length < m) : (wa m l).set l.length x = wa m (l ++ [x]) := by
  unfold wa
  rw [List.set_append_right _ _ (Nat.le_refl _), Nat.sub_self, show m - l.length = (m - (l.length + 1)) + 1 by omega, List.replicate_succ, List.set_cons_zero, List.length_append, List.append_assoc]
  rfl
theorem wa_all (m : Nat) (l : List Int) (h : l.length = m) : wa m l = l := by unfold wa; rw [h, Nat.sub_self]; simp
theorem wa_nil (m : Nat) : (wa m []).map (Value.int .u32) = List.replicate m (Value.int .u32 0) := by simp [wa]
theorem fw_nil (K : List Int) : fw K 0 = [] := rfl
theorem kx_zero (T K : List Int) (n : Nat) : kx T K n 0 = ⟨fw K n, 1⟩ := rfl
theorem kx_succ_l (T K : List Int) (n j : Nat) : (kx T K n (j + 1)).l = (kx T K n j).l ++ [bits .xor .u32 ((kx T K n j).l.getD j 0) (nt T n (n + j) ((kx T K n j).l.getD (n + j - 1) 0) (kx T K n j).r)] := rfl
theorem kx_succ_r (T K : List Int) (n j : Nat) : (kx T K n (j + 1)).r = if (n + j) % n = 0 then pr (kx T K n j).r 2 else (kx T K n j).r := rfl
attribute [irreducible] fw kx nt wa kws
end Aes

theorem u32_cell {w : World} {g : Nat} {l : List Int} {t : TypeId} {fr : Nat × Nat} (h : w.heap[g]? = some (.cells (l.map (Value.int .u32)).toArray t fr)) (j : Nat) (hj : j < l.length) : w.cell? ⟨g, j, none⟩ = some (.int .u32 (l.getD j 0)) := by
  rw [cell_of_row w g j _ _ _ h]
  simp [List.getD_eq_getElem?_getD, hj]
theorem u32_set {w : World} {g i : Nat} {l : List Int} {x : Int} {t : TypeId} (h : w.heap[g]? = some (.cells (l.map (Value.int .u32)).toArray t (0, 0))) :
    (w.setCell ⟨g, i, none⟩ (.int .u32 x)).heap[g]? = some (.cells ((l.set i x).map (Value.int .u32)).toArray t (0, 0)) := by
  rw [heap_setCell_same w g i _ _ _ h]
  congr 2
  apply Array.ext'
  simp
theorem Tbl.below {w w' : World} {g : Nat} {T : List Int} (h : Tbl w g T) {B : Nat} (hb : Below B w w') (hg : g < B) : Tbl w' g T := fun j hj => by
  obtain ⟨h1, h2⟩ := h j hj
  exact ⟨(hb.cell hg).trans h1, h2⟩

/-- What 'words' says: a new row. -/
def WdsSay (T K : List Int) (w : World) (e : Ending) (w' : World) : Prop :=
  ∃ g, e = .returned (.slice (some ⟨g, 0, none⟩) (Aes.kws T K).length (Aes.kws T K).length) ∧ w.heap.size ≤ g ∧ Hid (w'.heap[g]? = some (.cells ((Aes.kws T K).map (Value.int .u32)).toArray 54 (0, 0))) ∧ Below w.heap.size w w'

end Go.Proofs.Ytkajigfdfbgphaa

/-
  What stands behind a text (plain lists).
-/
import Derived.Test.YtjidkkehhglahaaDoorShaN
namespace Go.Proofs.YtjidkkehhglahaaDoor
open Go.RowKit
namespace Sha
/-- How many noughts. -/
def zs (n : Nat) : Nat := (119 - n % 64) % 64
/-- Byte i of the length. -/
def lb (n i : Nat) : Int := 8 * (n : Int) / 2 ^ (56 - 8 * i) % 256
theorem lb_eq (n i : Nat) : lb n i = 8 * (n : Int) / 2 ^ (56 - 8 * i) % 256 := rfl
def lens (n : Nat) : List Int := [lb n 0, lb n 1, lb n 2, lb n 3, lb n 4, lb n 5, lb n 6, lb n 7]
def padK (n z k : Nat) : List Int := (128 :: List.replicate z 0) ++ ((lens n).take k ++ List.replicate (8 - k) 0)
def pad (n : Nat) : List Int := padK n (zs n) 8
theorem pad_eq (n : Nat) : pad n = padK n (zs n) 8 := rfl
theorem lens_get (n k : Nat) (h : k < 8) : (lens n)[k]? = some (lb n k) := by
  rcases k with _ | _ | _ | _ | _ | _ | _ | _ | k <;> first | rfl | omega
theorem padK_len (n z k : Nat) (h : k ≤ 8) : (padK n z k).length = 1 + z + 8 := by simp [padK, lens]; omega
theorem padK_step (n z k : Nat) (h : k < 8) : splice ((padK n z k).map (Value.int .u8)) (1 + z + k) [.int .u8 (lb n k)] = (padK n z (k + 1)).map (Value.int .u8) := by
  rw [show [Value.int .u8 (lb n k)] = [lb n k].map (Value.int .u8) from rfl]
  unfold splice
  rw [← List.map_take, ← List.map_drop, ← List.map_append, ← List.map_append]
  congr 1
  unfold padK
  have e1 : (128 :: List.replicate z (0 : Int)).length = 1 + z := by simp; omega
  have e2 : ((lens n).take k).length = k := by simp [lens]; omega
  have e3 : (lens n).take (k + 1) = (lens n).take k ++ [lb n k] := by rw [List.take_add_one, lens_get n k h]; rfl
  have e4 : 8 - k = (8 - (k + 1)) + 1 := by omega
  simp only [List.map_cons, List.map_nil, List.length_cons, List.length_nil]
  rw [List.take_append, List.drop_append, e1, List.take_append, List.drop_append, e2, List.take_of_length_le (by omega), List.drop_eq_nil_of_le (by omega),
    show 1 + z + k - (1 + z) = k by omega, show 1 + z + k + (0 + 1) - (1 + z) = k + 1 by omega, List.take_of_length_le (by omega), List.drop_eq_nil_of_le (by omega : ((lens n).take k).length ≤ k + 1), e3, e4]
  simp [List.replicate_succ]
theorem lb_byt (n i : Nat) : 0 ≤ lb n i ∧ lb n i ≤ 255 := by unfold lb; omega
theorem pad_byt (n : Nat) : Byt (pad n) := by
  intro x hx
  simp only [pad, padK, lens, List.mem_append, List.mem_cons, List.mem_replicate, List.take_succ_cons, List.take_nil] at hx
  have q : ∀ i, 0 ≤ lb n i ∧ lb n i ≤ 255 := lb_byt n
  rcases hx with (rfl | ⟨_, rfl⟩) | (rfl | rfl | rfl | rfl | rfl | rfl | rfl | rfl | h) | ⟨_, rfl⟩
  all_goals first | exact q _ | omega | (cases h)
theorem pad_len (n : Nat) : (pad n).length = zs n + 9 := by unfold pad; rw [padK_len _ _ _ (by omega)]; omega
theorem pad_rows (n : Nat) : (n + (pad n).length) % 64 = 0 := by rw [pad_len]; unfold zs; omega
/-- The words of a state as numbers, and as bytes. -/
def St.ints (s : St) : List Int := [s.a, s.b, s.c, s.d, s.e, s.f, s.g, s.h]
theorem St.l_get (s : St) (k : Nat) (h : k < 8) : s.l[k]? = some (.int .u32 (s.ints.getD k 0)) := by
  rcases k with _ | _ | _ | _ | _ | _ | _ | _ | k <;> first | rfl | omega
def b4 (x : Int) : List Int := [x / 16777216 % 256, x / 65536 % 256, x / 256 % 256, x % 256]
/-- The first k words as bytes, and noughts up to 32. -/
def dgK (s : St) (k : Nat) : List Int := (s.ints.take k).flatMap b4 ++ List.replicate (32 - 4 * k) 0
theorem flat_len (l : List Int) : (l.flatMap b4).length = 4 * l.length := by
  induction l with
  | nil => rfl
  | cons x r ih => simp [List.flatMap_cons, ih, b4]; omega
theorem dgK_len (s : St) (k : Nat) (h : k ≤ 8) : (dgK s k).length = 32 := by
  unfold dgK
  rw [List.length_append, flat_len, List.length_take, List.length_replicate]
  simp [St.ints]
  omega
theorem dgK_step (s : St) (k : Nat) (h : k < 8) : ((((dgK s k).set (4 * k) (s.ints.getD k 0 / 16777216 % 256)).set (4 * k + 1) (s.ints.getD k 0 / 65536 % 256)).set (4 * k + 2) (s.ints.getD k 0 / 256 % 256)).set (4 * k + 3) (s.ints.getD k 0 % 256) = dgK s (k + 1) := by
  rcases k with _ | _ | _ | _ | _ | _ | _ | _ | k
  iterate 8 (· simp [dgK, St.ints, b4, List.replicate_succ])
  omega
/-- The digest's bytes. -/
def dg (L : List Int) : List Int := dgK (stN (L ++ pad L.length) ((L ++ pad L.length).length / 64)) 8
theorem dgK_zero (s : St) : dgK s 0 = List.replicate 32 0 := by simp [dgK]
theorem dg_eq (L : List Int) : dg L = dgK (stN (L ++ pad L.length) ((L ++ pad L.length).length / 64)) 8 := rfl
attribute [irreducible] padK pad lb dgK dg
end Sha
end Go.Proofs.YtjidkkehhglahaaDoor

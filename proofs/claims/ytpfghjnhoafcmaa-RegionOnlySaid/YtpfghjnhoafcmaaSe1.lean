/-
  SeA, SeB, SeC, SeD (merged)
-/
import Derived.Test.YtpfghjnhoafcmaaNa1
import Derived.Lib.AppendZeros
import Derived.Laws.AppendOwnNone
namespace Go.Proofs.Ytpfghjnhoafcmaa

/-! SeA: Contracts: seal.toBytes, slices.Grow of nothing. -/
section
open Go.RowKit

namespace Seal
/-- A number's eight bytes, the highest first. -/
def be8 (n : Int) : List Int := [n / 72057594037927936 % 256, n / 281474976710656 % 256, n / 1099511627776 % 256, n / 4294967296 % 256, n / 16777216 % 256, n / 65536 % 256, n / 256 % 256, n % 256]
def tb (n : Int) : Nat → List Int
  | 0 => List.replicate 8 0
  | k + 1 => (tb n k).set (7 - k) (n / 256 ^ k % 256)
theorem tb_len (n : Int) (k : Nat) : (tb n k).length = 8 := by
  induction k with
  | zero => rfl
  | succ k ih => rw [tb, List.length_set, ih]
theorem tb_all (n : Int) : tb n 8 = be8 n := by simp [tb, be8]
theorem be8_len (n : Int) : (be8 n).length = 8 := rfl
theorem be8_byt (n : Int) : Sha.Byt (be8 n) := fun x hx => by
  unfold be8 at hx
  simp only [List.mem_cons, List.not_mem_nil, or_false] at hx
  rcases hx with rfl | rfl | rfl | rfl | rfl | rfl | rfl | rfl <;> omega
theorem tb_zero (n : Int) : (tb n 0).map (Value.int .u8) = List.replicate 8 (Value.int .u8 0) := by simp [tb]
attribute [irreducible] be8 tb
end Seal

def TbSay (n : Int) (w : World) (e : Ending) (w' : World) : Prop :=
  ∃ g, e = .returned (.slice (some ⟨g, 0, none⟩) 8 8) ∧ Hid (BAt w' (some ⟨g, 0, none⟩) (Seal.be8 n)) ∧ Below w.heap.size w w'
end

/-! SeB: Contract: slices.Concat of rows of bytes: one behind the other. -/
section
open Go.RowKit

theorem Bs.byt {w : World} {p : Option Addr} {c : Nat} {L : List Int} (h : Bs w p c L) : Sha.Byt L := h.bat.1
namespace Seal
theorem cat_byt (L : Nat → List Int) : ∀ k, (∀ j, j < k → Sha.Byt (L j)) → Sha.Byt (cat L k)
  | 0, _ => fun x hx => by unfold cat at hx; simp at hx
  | k + 1, h => by unfold cat; exact Sha.byt_append (cat_byt L k fun j hj => h j (by omega)) (h k (by omega))
end Seal
end

/-! SeC: A box in memory; contracts: sumOf, tag. -/
section
open Go.RowKit

namespace Seal
/-- What a tag is the sum of. -/
def tin (h : List Int) (e n : Int) (t : List Int) : List Int := be8 h.length ++ (h ++ (be8 e ++ (be8 n ++ t)))
def five (a b c d e : List Int) : Nat → List Int
  | 0 => a | 1 => b | 2 => c | 3 => d | _ => e
theorem cat_five (h : List Int) (e n : Int) (t : List Int) : cat (five (be8 h.length) h (be8 e) (be8 n) t) 5 = tin h e n t := by
  unfold tin
  simp [cat, five]
theorem tin_len (h : List Int) (e n : Int) (t : List Int) : (tin h e n t).length = h.length + t.length + 24 := by
  unfold tin
  simp only [List.length_append, be8_len]
  omega
theorem tin_byt {h : List Int} {e n : Int} {t : List Int} (hh : Sha.Byt h) (ht : Sha.Byt t) : Sha.Byt (tin h e n t) :=
  Sha.byt_append (be8_byt _) (Sha.byt_append hh (Sha.byt_append (be8_byt _) (Sha.byt_append (be8_byt _) ht)))
attribute [irreducible] tin
end Seal
end

/-! SeD: Contracts: inRange, tag; a box built. -/
section
open Go.RowKit

/-- May an epoch, or a number, be? -/
def inR (n : Int) : Bool := decide (0 ≤ n ∧ n ≤ 1099511627776)
end
end Go.Proofs.Ytpfghjnhoafcmaa

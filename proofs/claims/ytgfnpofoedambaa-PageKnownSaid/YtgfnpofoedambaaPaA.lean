/-
  Numbers as bytes, in plain lists; readers in plain lists.
-/
import Derived.Test.YtgfnpofoedambaaPaK
import Derived.Laws.BitsLemmas
import Derived.Maps.AppendAt
namespace Go.Proofs.Ytgfnpofoedambaa
open Go.RowKit

namespace Pk
def In64 (n : Int) : Prop := -9223372036854775808 ≤ n ∧ n ≤ 9223372036854775807
/-- A number's bytes, the highest first: the first j of them. -/
def e8 (k : Int) (j : Nat) : List Int := (List.range j).map fun i => k / 256 ^ (7 - i) % 256
theorem e8_len (k : Int) (j : Nat) : (e8 k j).length = j := by simp [e8]
theorem e8_succ (k : Int) (j : Nat) : e8 k (j + 1) = e8 k j ++ [k / 256 ^ (7 - j) % 256] := by simp [e8, List.range_succ]
theorem e8_at (k : Int) (j i : Nat) (h : i < j) : (e8 k j).getD i 0 = k / 256 ^ (7 - i) % 256 := by simp [e8, List.getD_eq_getElem?_getD, h]
theorem e8_byt (k : Int) (j : Nat) : Sha.Byt (e8 k j) := fun x hx => by
  simp only [e8, List.mem_map] at hx
  obtain ⟨i, _, rfl⟩ := hx
  omega
theorem e8_eight (k : Int) : e8 k 8 = [k / 72057594037927936 % 256, k / 281474976710656 % 256, k / 1099511627776 % 256, k / 4294967296 % 256, k / 16777216 % 256, k / 65536 % 256, k / 256 % 256, k % 256] := by
  simp [e8, List.range_succ]
/-- What bytes are as a number, the highest first. -/
def be (L : List Int) : Int := L.foldl (fun v x => v * 256 + x) 0
theorem be_nil : be [] = 0 := rfl
theorem be_snoc (L : List Int) (x : Int) : be (L ++ [x]) = be L * 256 + x := by simp [be]
def in8 (L : List Int) : Int := (be L + 9223372036854775808) % 18446744073709551616 - 9223372036854775808
theorem in8_in (L : List Int) : In64 (in8 L) := by
  have h := Int.emod_nonneg (be L + 9223372036854775808) (b := 18446744073709551616) (by decide)
  have h2 := Int.emod_lt_of_pos (be L + 9223372036854775808) (b := 18446744073709551616) (by decide)
  unfold in8 In64
  omega
theorem in8_e8 {k : Int} (h : In64 k) : in8 (e8 k 8) = k := by
  unfold In64 at h
  rw [in8, e8_eight]
  simp only [be, List.foldl_cons, List.foldl_nil]
  obtain ⟨q1, h1⟩ : ∃ q, k / 256 = q := ⟨_, rfl⟩
  obtain ⟨q2, h2⟩ : ∃ q, k / 65536 = q := ⟨_, rfl⟩
  obtain ⟨q3, h3⟩ : ∃ q, k / 16777216 = q := ⟨_, rfl⟩
  obtain ⟨q4, h4⟩ : ∃ q, k / 4294967296 = q := ⟨_, rfl⟩
  obtain ⟨q5, h5⟩ : ∃ q, k / 1099511627776 = q := ⟨_, rfl⟩
  obtain ⟨q6, h6⟩ : ∃ q, k / 281474976710656 = q := ⟨_, rfl⟩
  obtain ⟨q7, h7⟩ : ∃ q, k / 72057594037927936 = q := ⟨_, rfl⟩
  have e2 : q1 / 256 = q2 := by omega
  have e3 : q2 / 256 = q3 := by omega
  have e4 : q3 / 256 = q4 := by omega
  have e5 : q4 / 256 = q5 := by omega
  have e6 : q5 / 256 = q6 := by omega
  have e7 : q6 / 256 = q7 := by omega
  rw [h1, h2, h3, h4, h5, h6, h7]
  clear h2 h3 h4 h5 h6 h7
  have f7 : ((((((((0 * 256 + q7 % 256) * 256 + q6 % 256) * 256 + q5 % 256) * 256 + q4 % 256) * 256 + q3 % 256) * 256 + q2 % 256) * 256 + q1 % 256) * 256 + k % 256) = k - (q7 - q7 % 256) * 72057594037927936 := by omega
  rw [f7]
  have g7 : q7 - q7 % 256 = 256 * (q7 / 256) := by omega
  rw [g7]
  clear f7 e2 e3 e4 e5 e6 e7
  omega
theorem list8 (L : List Int) (h : L.length = 8) : ∃ a b c d e f g i, L = [a, b, c, d, e, f, g, i] := by
  match L, h with
  | [a, b, c, d, e, f, g, i], _ => exact ⟨a, b, c, d, e, f, g, i, rfl⟩
theorem e8_in8 {L : List Int} (h : L.length = 8) (hb : Sha.Byt L) : e8 (in8 L) 8 = L := by
  obtain ⟨a, b, c, d, e, f, g, i, rfl⟩ := list8 L h
  have ha := hb a (by simp)
  have hb' := hb b (by simp)
  have hc := hb c (by simp)
  have hd := hb d (by simp)
  have he := hb e (by simp)
  have hf := hb f (by simp)
  have hg := hb g (by simp)
  have hi := hb i (by simp)
  rw [e8_eight]
  simp only [in8, be, List.foldl_cons, List.foldl_nil]
  obtain ⟨n, hn⟩ : ∃ n, ((((((((0 * 256 + a) * 256 + b) * 256 + c) * 256 + d) * 256 + e) * 256 + f) * 256 + g) * 256 + i) = n := ⟨_, rfl⟩
  rw [hn]
  obtain ⟨m, hm⟩ : ∃ m, (n + 9223372036854775808) % 18446744073709551616 - 9223372036854775808 = m := ⟨_, rfl⟩
  have hm2 : m = n ∨ m = n - 18446744073709551616 := by omega
  rw [hm]
  clear hm
  congr 1
  · rcases hm2 with rfl | rfl <;> omega
  congr 1
  · rcases hm2 with rfl | rfl <;> omega
  congr 1
  · rcases hm2 with rfl | rfl <;> omega
  congr 1
  · rcases hm2 with rfl | rfl <;> omega
  congr 1
  · rcases hm2 with rfl | rfl <;> omega
  congr 1
  · rcases hm2 with rfl | rfl <;> omega
  congr 1
  · rcases hm2 with rfl | rfl <;> omega
  congr 1
  rcases hm2 with rfl | rfl <;> omega
theorem be_bound {L : List Int} (hb : Sha.Byt L) : ∀ k, k ≤ L.length → 0 ≤ be (L.take k) ∧ be (L.take k) < 256 ^ k
  | 0, _ => by simp [be]
  | k + 1, h => by
    have hi := be_bound hb k (by omega)
    have hx : 0 ≤ L.getD k 0 ∧ L.getD k 0 ≤ 255 := by
      rw [List.getD_eq_getElem?_getD, List.getElem?_eq_getElem (by omega)]
      exact hb _ (List.getElem_mem _)
    rw [← take_snoc L k (by omega), be_snoc, Int.pow_succ]
    omega
/-- The low eight bits are free: an or with a byte is a sum. -/
theorem or8 (y x : Int) (h0 : 0 ≤ x) (h1 : x ≤ 255) : bits .or .i64 ((y * 256 + 9223372036854775808) % 18446744073709551616 - 9223372036854775808) x = (y * 256 + x + 9223372036854775808) % 18446744073709551616 - 9223372036854775808 := by
  obtain ⟨b, rfl⟩ := Int.eq_ofNat_of_zero_le h0
  have hb : b < 256 := by omega
  obtain ⟨A, hA⟩ : ∃ A : Nat, (A : Int) = y * 256 % 18446744073709551616 := ⟨(y * 256 % 18446744073709551616).toNat, by omega⟩
  have hA1 : A < 18446744073709551616 := by omega
  have hA2 : A = 2 ^ 8 * (A / 256) := by omega
  have ea : BitVec.ofInt 64 ((y * 256 + 9223372036854775808) % 18446744073709551616 - 9223372036854775808) = BitVec.ofNat 64 A := by
    rw [← BitVec.ofInt_natCast]
    apply BitVec.eq_of_toInt_eq
    rw [BitVec.toInt_ofInt, BitVec.toInt_ofInt]
    simp only [Int.bmod_def]
    omega
  have eo : (BitVec.ofNat 64 A ||| BitVec.ofInt 64 (b : Int)).toNat = A + b := by
    rw [BitVec.ofInt_natCast, BitVec.toNat_or, BitVec.toNat_ofNat, BitVec.toNat_ofNat, Nat.mod_eq_of_lt (by omega), Nat.mod_eq_of_lt (by omega)]
    conv => lhs; rw [hA2]
    rw [← Nat.two_pow_add_eq_or_of_lt (by omega)]
    omega
  have : bits .or .i64 ((y * 256 + 9223372036854775808) % 18446744073709551616 - 9223372036854775808) (b : Int) = IntKind.i64.wrap ((A + b : Nat) : Int) := by
    rw [← eo, ← ea]
    rfl
  rw [this, IntKind.wrap_i64]
  omega

/-! ### readers -/
/-- What is left, and whether it is bad, behind a call that asks for n. -/
def nx (n : Nat) (L : List Int) : List Int := if L.length < n then [] else L.drop n
def nb (n : Nat) (L : List Int) (b : Bool) : Bool := if L.length < n then true else b
def vb (L : List Int) : Int := L.getD 0 0
def vi (L : List Int) : Int := if L.length < 8 then 0 else in8 (L.take 8)
def vs (L : List Int) : List Int := if L.length < 32 then List.replicate 32 0 else L.take 32
def vr (L : List Int) : Int × List Int := if L.length < 40 then (0, List.replicate 32 0) else (in8 (L.take 8), (L.drop 8).take 32)
theorem nx_le (n : Nat) (L : List Int) : (nx n L).length ≤ L.length := by unfold nx; split <;> simp
theorem nx_byt {n : Nat} {L : List Int} (h : Sha.Byt L) : Sha.Byt (nx n L) := by
  unfold nx
  split
  · intro x hx; simp at hx
  · exact fun x hx => h x (List.mem_of_mem_drop hx)
theorem vs_len (L : List Int) : (vs L).length = 32 := by
  unfold vs
  split
  · simp
  · simp; omega
theorem vr_len (L : List Int) : (vr L).2.length = 32 := by
  unfold vr
  split
  · simp
  · simp; omega
theorem vr_eq (L : List Int) (h : 40 ≤ L.length) : vr L = (vi L, vs (nx 8 L)) := by
  unfold vr vi vs nx
  have h2 : ¬ (L.drop 8).length < 32 := by simp; omega
  simp only [if_neg (show ¬ L.length < 40 by omega), if_neg (show ¬ L.length < 8 by omega), if_neg h2]
theorem nx_eq (L : List Int) (h : 40 ≤ L.length) : nx 40 L = nx 32 (nx 8 L) := by
  unfold nx
  have h2 : ¬ (L.drop 8).length < 32 := by simp; omega
  simp only [if_neg (show ¬ L.length < 40 by omega), if_neg (show ¬ L.length < 8 by omega), if_neg h2, List.drop_drop]
theorem nb_eq (L : List Int) (b : Bool) (h : 40 ≤ L.length) : nb 40 L b = nb 32 (nx 8 L) (nb 8 L b) := by
  unfold nb nx
  have h2 : ¬ (L.drop 8).length < 32 := by simp; omega
  simp only [if_neg (show ¬ L.length < 40 by omega), if_neg (show ¬ L.length < 8 by omega), if_neg h2]
attribute [irreducible] be in8 e8 nx nb vb vi vs vr
end Pk
end Go.Proofs.Ytgfnpofoedambaa

/-
  PaK, PaA, PaL, PaB, PaC, PaD (merged)
-/
import Derived.Test.YtpfghjnhoafcmaaNa1
import Derived.WalkKit
import Derived.Laws.CopyOwn
import Derived.OwnWalk
import Derived.BigRegion
import Derived.WalkSpells
import Derived.Lib.Hide
import Derived.Deep.MidRow
import Derived.RegionTactic
import Derived.Deep.RegionHeld3
import Derived.OneCell
import Derived.StillTailTactics
import Derived.Laws.MakeOwn
import Derived.Laws.OwnMore
import Derived.BigQuiet
import Derived.Laws.AppendOwnNone
import Derived.OrdersHeld
import Derived.Lib.AppendZeros
import Derived.Laws.Tables
import Derived.Deep.Matrix
import Derived.RangeFuncNested
import Derived.RangeFuncBound
import Derived.RangeFuncCalls
import Derived.RangeFuncLeaves
import Derived.Shelf.Abstract
import Derived.Shelf.RegionOpen
import Derived.OwnWalkIn
import Derived.TacticsInMore
import Derived.LoopNIn
import Derived.LoopIn
import Derived.Test.YtpfghjnhoafcmaaChecked
import Derived.WalkLawsBesides
import Derived.Deep.QuietTactic
import Derived.Deep.WholeRow
import Derived.Deep.Cut
import Derived.StillTail
import Derived.Laws.StructEq
import Derived.ChangeKeysEq
import Derived.Laws.Closers25b
import Derived.OrdersIn
import Derived.OpenShut
import Derived.Deep.Slices
import Derived.RangeFuncWrites
import Derived.Laws.EntriesVeiled
import Derived.Deep.RegionLawGrows
import Derived.Deep.CutRange
import Derived.Deep.RegionLaw
import Derived.ArgAppend
import Derived.Lib.SlBytesConst
import Derived.Laws.Cover3
import Derived.Laws.BitsLemmas
import Derived.Maps.AppendAt
import Derived.Test.YtpfghjnhoafcmaaNa2
import Derived.Maps.OwnSet
import Derived.Laws.IdiomMaps
namespace Go.Proofs.Ytpfghjnhoafcmaa

/-! PaK: What the texts of this layer share (picked out of elder texts by wip/pick.py). -/
section
open Go.ChangeShapes Go.WideShapes Go.RowKit
namespace Sha
end Sha
section
variable {P : Program} {ops : Array Oper} {rest : List Oper} {a : Act} {w : World} {Q : Exit → Act → World → Prop} {D : Option Tmp} {T : TypeId} {ps : String} {af : Array Edge}
end
/-! ### Regions that draw their order, by hand -/
section
variable {P : Program} {md : Region.Mode} {ops : Array Oper} {Q : Exit → Act → World → Prop} {fuel : Nat} {listed : Array Bool} {a : Act} {w : World}
end
/-! ShaO -/
section
variable {P : Program} {ops : Array Oper} {rest : List Oper} {a : Act} {w : World} {Q : Exit → Act → World → Prop} {D : Option Tmp} {T : TypeId} {ps : String} {af : Array Edge}
end
/-! AnyH -/
section
variable {P : Program} {md : Region.Mode} {ops : Array Oper} {Q : Exit → Act → World → Prop} {S : World → Prop}
end
namespace Seal
end Seal
/-! SeE -/
section
variable {P : Program} {ops : Array Oper} {rest : List Oper} {a : Act} {w : World} {Q : Exit → Act → World → Prop} {D : Option Tmp} {T : TypeId} {ps : String} {af : Array Edge}
end
/-! SeM -/
section
variable {P : Program} {md : Region.Mode} {ops : Array Oper} {Q : Exit → Act → World → Prop} {S : World → Prop}
end
end

/-! PaA: Numbers as bytes, in plain lists; readers in plain lists. -/
section
open Go.RowKit

namespace Pk
def In64 (n : Int) : Prop := -9223372036854775808 ≤ n ∧ n ≤ 9223372036854775807
/-- A number's bytes, the highest first: the first j of them. -/
def e8 (k : Int) (j : Nat) : List Int := (List.range j).map fun i => k / 256 ^ (7 - i) % 256
theorem e8_len (k : Int) (j : Nat) : (e8 k j).length = j := by simp [e8]
theorem e8_succ (k : Int) (j : Nat) : e8 k (j + 1) = e8 k j ++ [k / 256 ^ (7 - j) % 256] := by simp [e8, List.range_succ]
theorem e8_at (k : Int) (j i : Nat) (h : i < j) : (e8 k j).getD i 0 = k / 256 ^ (7 - i) % 256 := by simp [e8, List.getD_eq_getElem?_getD, h]
theorem e8_byt (k : Int) (j : Nat) : Sha.Byt (e8 k j) := fun x hx => by
  simp only [e8, List.mem_map] at hx
  obtain ⟨i, _, rfl⟩ := hx
  omega
theorem e8_eight (k : Int) : e8 k 8 = [k / 72057594037927936 % 256, k / 281474976710656 % 256, k / 1099511627776 % 256, k / 4294967296 % 256, k / 16777216 % 256, k / 65536 % 256, k / 256 % 256, k % 256] := by
  simp [e8, List.range_succ]
/-- What bytes are as a number, the highest first. -/
def be (L : List Int) : Int := L.foldl (fun v x => v * 256 + x) 0
theorem be_nil : be [] = 0 := rfl
theorem be_snoc (L : List Int) (x : Int) : be (L ++ [x]) = be L * 256 + x := by simp [be]
def in8 (L : List Int) : Int := (be L + 9223372036854775808) % 18446744073709551616 - 9223372036854775808
theorem in8_in (L : List Int) : In64 (in8 L) := by
  have h := Int.emod_nonneg (be L + 9223372036854775808) (b := 18446744073709551616) (by decide)
  have h2 := Int.emod_lt_of_pos (be L + 9223372036854775808) (b := 18446744073709551616) (by decide)
  unfold in8 In64
  omega
theorem in8_e8 {k : Int} (h : In64 k) : in8 (e8 k 8) = k := by
  unfold In64 at h
  rw [in8, e8_eight]
  simp only [be, List.foldl_cons, List.foldl_nil]
  obtain ⟨q1, h1⟩ : ∃ q, k / 256 = q := ⟨_, rfl⟩
  obtain ⟨q2, h2⟩ : ∃ q, k / 65536 = q := ⟨_, rfl⟩
  obtain ⟨q3, h3⟩ : ∃ q, k / 16777216 = q := ⟨_, rfl⟩
  obtain ⟨q4, h4⟩ : ∃ q, k / 4294967296 = q := ⟨_, rfl⟩
  obtain ⟨q5, h5⟩ : ∃ q, k / 1099511627776 = q := ⟨_, rfl⟩
  obtain ⟨q6, h6⟩ : ∃ q, k / 281474976710656 = q := ⟨_, rfl⟩
  obtain ⟨q7, h7⟩ : ∃ q, k / 72057594037927936 = q := ⟨_, rfl⟩
  have e2 : q1 / 256 = q2 := by omega
  have e3 : q2 / 256 = q3 := by omega
  have e4 : q3 / 256 = q4 := by omega
  have e5 : q4 / 256 = q5 := by omega
  have e6 : q5 / 256 = q6 := by omega
  have e7 : q6 / 256 = q7 := by omega
  rw [h1, h2, h3, h4, h5, h6, h7]
  clear h2 h3 h4 h5 h6 h7
  have f7 : ((((((((0 * 256 + q7 % 256) * 256 + q6 % 256) * 256 + q5 % 256) * 256 + q4 % 256) * 256 + q3 % 256) * 256 + q2 % 256) * 256 + q1 % 256) * 256 + k % 256) = k - (q7 - q7 % 256) * 72057594037927936 := by omega
  rw [f7]
  have g7 : q7 - q7 % 256 = 256 * (q7 / 256) := by omega
  rw [g7]
  clear f7 e2 e3 e4 e5 e6 e7
  omega
theorem list8 (L : List Int) (h : L.length = 8) : ∃ a b c d e f g i, L = [a, b, c, d, e, f, g, i] := by
  match L, h with
  | [a, b, c, d, e, f, g, i], _ => exact ⟨a, b, c, d, e, f, g, i, rfl⟩
theorem e8_in8 {L : List Int} (h : L.length = 8) (hb : Sha.Byt L) : e8 (in8 L) 8 = L := by
  obtain ⟨a, b, c, d, e, f, g, i, rfl⟩ := list8 L h
  have ha := hb a (by simp)
  have hb' := hb b (by simp)
  have hc := hb c (by simp)
  have hd := hb d (by simp)
  have he := hb e (by simp)
  have hf := hb f (by simp)
  have hg := hb g (by simp)
  have hi := hb i (by simp)
  rw [e8_eight]
  simp only [in8, be, List.foldl_cons, List.foldl_nil]
  obtain ⟨n, hn⟩ : ∃ n, ((((((((0 * 256 + a) * 256 + b) * 256 + c) * 256 + d) * 256 + e) * 256 + f) * 256 + g) * 256 + i) = n := ⟨_, rfl⟩
  rw [hn]
  obtain ⟨m, hm⟩ : ∃ m, (n + 9223372036854775808) % 18446744073709551616 - 9223372036854775808 = m := ⟨_, rfl⟩
  have hm2 : m = n ∨ m = n - 18446744073709551616 := by omega
  rw [hm]
  clear hm
  congr 1
  · rcases hm2 with rfl | rfl <;> omega
  congr 1
  · rcases hm2 with rfl | rfl <;> omega
  congr 1
  · rcases hm2 with rfl | rfl <;> omega
  congr 1
  · rcases hm2 with rfl | rfl <;> omega
  congr 1
  · rcases hm2 with rfl | rfl <;> omega
  congr 1
  · rcases hm2 with rfl | rfl <;> omega
  congr 1
  · rcases hm2 with rfl | rfl <;> omega
  congr 1
  rcases hm2 with rfl | rfl <;> omega
theorem be_bound {L : List Int} (hb : Sha.Byt L) : ∀ k, k ≤ L.length → 0 ≤ be (L.take k) ∧ be (L.take k) < 256 ^ k
  | 0, _ => by simp [be]
  | k + 1, h => by
    have hi := be_bound hb k (by omega)
    have hx : 0 ≤ L.getD k 0 ∧ L.getD k 0 ≤ 255 := by
      rw [List.getD_eq_getElem?_getD, List.getElem?_eq_getElem (by omega)]
      exact hb _ (List.getElem_mem _)
    rw [← take_snoc L k (by omega), be_snoc, Int.pow_succ]
    omega
/-- The low eight bits are free: an or with a byte is a sum. -/
theorem or8 (y x : Int) (h0 : 0 ≤ x) (h1 : x ≤ 255) : bits .or .i64 ((y * 256 + 9223372036854775808) % 18446744073709551616 - 9223372036854775808) x = (y * 256 + x + 9223372036854775808) % 18446744073709551616 - 9223372036854775808 := by
  obtain ⟨b, rfl⟩ := Int.eq_ofNat_of_zero_le h0
  have hb : b < 256 := by omega
  obtain ⟨A, hA⟩ : ∃ A : Nat, (A : Int) = y * 256 % 18446744073709551616 := ⟨(y * 256 % 18446744073709551616).toNat, by omega⟩
  have hA1 : A < 18446744073709551616 := by omega
  have hA2 : A = 2 ^ 8 * (A / 256) := by omega
  have ea : BitVec.ofInt 64 ((y * 256 + 9223372036854775808) % 18446744073709551616 - 9223372036854775808) = BitVec.ofNat 64 A := by
    rw [← BitVec.ofInt_natCast]
    apply BitVec.eq_of_toInt_eq
    rw [BitVec.toInt_ofInt, BitVec.toInt_ofInt]
    simp only [Int.bmod_def]
    omega
  have eo : (BitVec.ofNat 64 A ||| BitVec.ofInt 64 (b : Int)).toNat = A + b := by
    rw [BitVec.ofInt_natCast, BitVec.toNat_or, BitVec.toNat_ofNat, BitVec.toNat_ofNat, Nat.mod_eq_of_lt (by omega), Nat.mod_eq_of_lt (by omega)]
    conv => lhs; rw [hA2]
    rw [← Nat.two_pow_add_eq_or_of_lt (by omega)]
    omega
  have : bits .or .i64 ((y * 256 + 9223372036854775808) % 18446744073709551616 - 9223372036854775808) (b : Int) = IntKind.i64.wrap ((A + b : Nat) : Int) := by
    rw [← eo, ← ea]
    rfl
  rw [this, IntKind.wrap_i64]
  omega

/-! ### readers -/
/-- What is left, and whether it is bad, behind a call that asks for n. -/
def nx (n : Nat) (L : List Int) : List Int := if L.length < n then [] else L.drop n
def nb (n : Nat) (L : List Int) (b : Bool) : Bool := if L.length < n then true else b
def vb (L : List Int) : Int := L.getD 0 0
def vi (L : List Int) : Int := if L.length < 8 then 0 else in8 (L.take 8)
def vs (L : List Int) : List Int := if L.length < 32 then List.replicate 32 0 else L.take 32
def vr (L : List Int) : Int × List Int := if L.length < 40 then (0, List.replicate 32 0) else (in8 (L.take 8), (L.drop 8).take 32)
theorem nx_le (n : Nat) (L : List Int) : (nx n L).length ≤ L.length := by unfold nx; split <;> simp
theorem nx_byt {n : Nat} {L : List Int} (h : Sha.Byt L) : Sha.Byt (nx n L) := by
  unfold nx
  split
  · intro x hx; simp at hx
  · exact fun x hx => h x (List.mem_of_mem_drop hx)
theorem vs_len (L : List Int) : (vs L).length = 32 := by
  unfold vs
  split
  · simp
  · simp; omega
theorem vr_len (L : List Int) : (vr L).2.length = 32 := by
  unfold vr
  split
  · simp
  · simp; omega
theorem vr_eq (L : List Int) (h : 40 ≤ L.length) : vr L = (vi L, vs (nx 8 L)) := by
  unfold vr vi vs nx
  have h2 : ¬ (L.drop 8).length < 32 := by simp; omega
  simp only [if_neg (show ¬ L.length < 40 by omega), if_neg (show ¬ L.length < 8 by omega), if_neg h2]
theorem nx_eq (L : List Int) (h : 40 ≤ L.length) : nx 40 L = nx 32 (nx 8 L) := by
  unfold nx
  have h2 : ¬ (L.drop 8).length < 32 := by simp; omega
  simp only [if_neg (show ¬ L.length < 40 by omega), if_neg (show ¬ L.length < 8 by omega), if_neg h2, List.drop_drop]
theorem nb_eq (L : List Int) (b : Bool) (h : 40 ≤ L.length) : nb 40 L b = nb 32 (nx 8 L) (nb 8 L b) := by
  unfold nb nx
  have h2 : ¬ (L.drop 8).length < 32 := by simp; omega
  simp only [if_neg (show ¬ L.length < 40 by omega), if_neg (show ¬ L.length < 8 by omega), if_neg h2]
attribute [irreducible] be in8 e8 nx nb vb vi vs vr
end Pk
end

/-! PaL: What is general, picked out of elder texts (wip/pickd.py). -/
section
open Go.ChangeShapes Go.WideShapes Go.RowKit

/-- A row of the call's own stays where its block stays. -/
theorem own_keepB {w y : World} {B e s n : Nat} {v : Value} {xs : List Value} (h : w.ownsRow B e s v n xs) (hk : ∀ g, v.ownBlock = some g → y.heap[g]? = w.heap[g]?) : y.ownsRow B e s v n xs := by
  refine ⟨h.1, ?_⟩
  rcases h.2 with h1 | ⟨g, cap, cur, h1, h2, h3, h4⟩
  · exact Or.inl h1
  · exact Or.inr ⟨g, cap, cur, h1, h2, (hk g (by rw [h1]; rfl)).trans h3, h4⟩
theorem own_type {w : World} {B e s n : Nat} {v : Value} {xs : List Value} (h : w.ownsRow B e s v n xs) : ∀ g, v.ownBlock = some g → B ≤ g ∧ ∃ cur, w.heap[g]? = some (.cells cur e (0, 0)) := by
  intro g hg
  rcases h.2 with ⟨h1, _⟩ | ⟨q, cap, cur, h1, h2, h3, h4⟩
  · rw [h1] at hg; cases hg
  · rw [h1] at hg; cases hg; exact ⟨h2, cur, h3⟩
theorem own_one {w : World} {B e s n : Nat} {v : Value} {xs ys : List Value} (h : w.ownsRow B e s v n xs) (k : w.ownsRow B e s v n ys) : xs = ys := by
  rcases h.2 with ⟨h1, h2⟩ | ⟨g, cap, cur, h1, _, h3, _, _, _, h4⟩
  · have a := h.1
    have b := k.1
    rw [h2, Nat.zero_mul] at a b
    rw [List.eq_nil_of_length_eq_zero a, List.eq_nil_of_length_eq_zero b]
  · rcases k.2 with ⟨k1, k2⟩ | ⟨g', cap', cur', k1, _, k3, _, _, _, k4⟩
    · rw [h1] at k1; cases k1
    · rw [h1] at k1
      cases k1
      rw [h3] at k3
      cases k3
      rw [← h4, ← k4]
theorem own_onlyX {w y : World} {B e s n k : Nat} {v : Value} {xs : List Value} (h : w.ownsRow B e s v n xs) (ho : Only k w y) (hk : k < B) : y.ownsRow B e s v n xs := by
  refine ⟨h.1, ?_⟩
  rcases h.2 with h1 | ⟨g, cap, cur, h1, h2, h3, h4⟩
  · exact Or.inl h1
  · exact Or.inr ⟨g, cap, cur, h1, h2, (ho.block g (lt_of_block h3) (by omega)).trans h3, h4⟩
theorem own_grown {w y : World} {B e s n : Nat} {v : Value} {xs : List Value} {row : Option Nat} (h : w.ownsRow B e s v n xs) (hg : w.grownBy y row) (hne : ∀ g, v.ownBlock = some g → some g ≠ row) : y.ownsRow B e s v n xs := by
  refine ⟨h.1, ?_⟩
  rcases h.2 with h1 | ⟨g, cap, cur, h1, h2, h3, h4⟩
  · exact Or.inl h1
  · exact Or.inr ⟨g, cap, cur, h1, h2, (hg.block g (lt_of_block h3) (hne g (by rw [h1]; rfl))).trans h3, h4⟩
theorem own_apart {w : World} {B B' e e' s s' n n' : Nat} {v v' : Value} {xs xs' : List Value} (h : w.ownsRow B e s v n xs) (h' : w.ownsRow B' e' s' v' n' xs') (he : e ≠ e') : ∀ g, v.ownBlock = some g → some g ≠ v'.ownBlock := by
  intro g hg hg'
  rcases h.2 with ⟨h1, _⟩ | ⟨q, cap, cur, h1, _, h3, _⟩
  · rw [h1] at hg; cases hg
  · rcases h'.2 with ⟨h1', _⟩ | ⟨q', cap', cur', h1', _, h3', _⟩
    · rw [h1'] at hg'; cases hg'
    · rw [h1] at hg
      rw [h1'] at hg'
      cases hg
      cases hg'
      rw [h3] at h3'
      cases h3'
      exact he rfl
def EqSay (b : Bool) (w : World) (e : Ending) (w' : World) : Prop := e = .returned (.bool b) ∧ Below w.heap.size w w'
set_option maxRecDepth 100000 in
theorem same_ne (p q : Option Addr) (n m c d : Nat) (h : n ≠ m) (w : World) : Calls Try.prog 24 #[.slice p n c, .slice q m d] w (EqSay false w) := by
  have h1 : ((n : Int) == (m : Int)) = false := by rw [beq_eq_false_iff_ne]; omega
  have h2 : ¬ ((n : Int) = (m : Int)) := by omega
  go_enter Try.func24, Try.ntmps24
  go_wp2
  go_ret
  exact ⟨rfl, Below.refl _ _⟩
theorem same_all (L M : List Int) (p q : Option Addr) (n m c d : Nat) (hn : L.length = n) (hm : M.length = m) (w : World) (hp : BAt w p L) (hq : BAt w q M) (hL : n ≤ 10000000) :
    Calls Try.prog 24 #[.slice p n c, .slice q m d] w (EqSay (decide (L = M)) w) := by
  by_cases h : n = m
  · subst h
    exact (same_gen L M p q n c d hn hm w hp hq hL).mono fun _ _ h => h
  · have hd : decide (L = M) = false := decide_eq_false (fun e => h (by rw [← hn, ← hm, e]))
    rw [hd]
    exact same_ne p q n m c d h w

theorem bs_own {w : World} {B m c : Nat} {p : Option Addr} {l : List Int} (h : w.ownsRow B 5 1 (.slice p m c) m (U8s l)) (hb : Sha.Byt l) : Bs w p c l := by
  obtain ⟨p', c', h1, h2, _⟩ := own_bs h hb
  cases h1
  exact h2

theorem list_of {α : Type} {Q : Nat → α → Prop} : ∀ n : Nat, (∀ i, i < n → ∃ x, Q i x) → ∃ L : List α, L.length = n ∧ ∀ (r : Nat) (x : α), L[r]? = some x → Q r x
  | 0, _ => ⟨[], rfl, fun r x h => by simp at h⟩
  | n + 1, h => by
    obtain ⟨L, hl, hq⟩ := list_of n (fun i hi => h i (by omega))
    obtain ⟨x, hx⟩ := h n (by omega)
    refine ⟨L ++ [x], by simp [hl], fun r y hy => ?_⟩
    by_cases hr : r < L.length
    · rw [List.getElem?_append_left hr] at hy
      exact hq r y hy
    · rw [List.getElem?_append_right (by omega)] at hy
      have h0 : r - L.length = 0 := by
        by_cases q : r - L.length = 0
        · exact q
        · rw [List.getElem?_eq_none (by simp; omega)] at hy; cases hy
      rw [h0] at hy
      obtain rfl : x = y := by simpa using hy
      have : r = n := by omega
      rw [this]
      exact hx
theorem BAt.dropk {w : World} {ab ao k : Nat} {l : List Int} (h : BAt w (some ⟨ab, ao, none⟩) l) (hk : k < l.length) : BAt w (some ⟨ab, ao + k, none⟩) (l.drop k) := by
  refine ⟨fun x hx => h.1 x (List.mem_of_mem_drop hx), fun _ => ?_⟩
  obtain ⟨b', o', h1, h2⟩ := h.2 (by omega)
  cases h1
  refine ⟨ab, ao + k, rfl, fun j hj => ?_⟩
  rw [List.length_drop] at hj
  rw [Nat.add_assoc, h2 (k + j) (by omega)]
  simp [List.getD_eq_getElem?_getD]
theorem Bs.take {w : World} {p : Option Addr} {c : Nat} {l : List Int} (h : Bs w p c l) (k : Nat) : Bs w p c (l.take k) :=
  ⟨h.bat.take k, by have := h.cap; rw [List.length_take]; omega, fun e => by have h1 := h.nil e; exact ⟨by rw [h1.1, List.take_nil], h1.2⟩⟩
theorem Bs.dropk {w : World} {ab ao c k : Nat} {l : List Int} (h : Bs w (some ⟨ab, ao, none⟩) c l) (hk : k < l.length) : Bs w (some ⟨ab, ao + k, none⟩) (c - k) (l.drop k) :=
  ⟨h.bat.dropk hk, by have := h.cap; rw [List.length_drop]; omega, fun e => by cases e⟩
end

/-! PaB: Contracts: pack.Int, Sum, Ref. -/
section
open Go.RowKit

theorem Try.sizeRef : (Try.prog.info? 36).map (·.size) = some 33 := by kernel_rfl
def R33 (r : Int × List Int) : Value := .agg (Value.int .i64 r.1 :: r.2.map (Value.int .u8)).toArray

/-- What makes a row of bytes of the call's own. -/
def RowOf (R : List Int) (m : Nat) (w : World) (e : Ending) (w' : World) : Prop :=
  ∃ p c, e = .returned (.slice p m c) ∧ Hid (w'.ownsRow w.heap.size 5 1 (.slice p m c) m (U8s R)) ∧ Hid (Bs w' p c R) ∧ Hid (Below w.heap.size w w')
theorem concat2_any (q : Nat) (p0 p1 : Option Addr) (n0 n1 c0 c1 : Nat) (l0 l1 : List Int) (m : Nat) (e0 : l0.length = n0) (e1 : l1.length = n1) (em : n0 + n1 = m) (x : World) (hq : x.heap[q]? = some (.cells #[.slice p0 n0 c0, .slice p1 n1 c1] 41 (0, 0))) (h0 : Bs x p0 c0 l0) (h1 : Bs x p1 c1 l1) (hl : m ≤ 1000000000) :
    Calls Try.prog 62 #[.slice (some ⟨q, 0, none⟩) 2 2] x (RowOf (l0 ++ l1) m x) := by
  have e : Seal.cat (fun k => match k with | 0 => l0 | _ => l1) 2 = l0 ++ l1 := by unfold Seal.cat Seal.cat Seal.cat; simp
  have h := concat_any (fun k => match k with | 0 => p0 | _ => p1) (fun k => match k with | 0 => c0 | _ => c1) (fun k => match k with | 0 => l0 | _ => l1) 2 q (by omega) x
    (fun k hk => by
      rw [cell_of_row x q k _ _ _ hq]
      rcases k with _ | _ | k
      · simp [e0]
      · simp [e1]
      · omega)
    (fun k hk => by
      rcases k with _ | _ | k
      · exact h0
      · exact h1
      · omega)
    (by rw [e]; simp only [List.length_append]; omega)
  rw [e] at h
  refine h.mono ?_
  rintro e2 w' ⟨v, rfl, ho, hb⟩
  obtain ⟨p, c, rfl, hbs, hlen⟩ := own_bs ho (Sha.byt_append h0.bat.1 h1.bat.1)
  have hm : (l0 ++ l1).length = m := by simp only [List.length_append]; omega
  rw [hm] at ho ⊢
  exact ⟨p, c, rfl, ho, hbs, hb⟩

namespace Pk
def tb (n : Int) : Nat → List Int
  | 0 => List.replicate 8 0
  | k + 1 => (tb n k).set (7 - k) (n / 256 ^ k % 256)
theorem tb_len (n : Int) (k : Nat) : (tb n k).length = 8 := by
  induction k with
  | zero => rfl
  | succ k ih => rw [tb, List.length_set, ih]
theorem tb_all (n : Int) : tb n 8 = e8 n 8 := by rw [e8_eight]; simp [tb]
theorem tb_zero (n : Int) : (tb n 0).map (Value.int .u8) = List.replicate 8 (Value.int .u8 0) := by simp [tb]
theorem tb_step (n : Int) (k : Nat) : (tb n k).set (7 - k) (n / 256 ^ k % 256) = tb n (k + 1) := rfl
attribute [irreducible] tb
end Pk

set_option maxHeartbeats 1000000 in
set_option maxRecDepth 100000 in
theorem int_any (L : List Int) (v : Int) (p : Option Addr) (n c m : Nat) (hn : L.length = n) (hm : n + 8 = m) (hL : n ≤ 1000000) (w : World) (hp : Bs w p c L) :
    Calls Try.prog 44 #[.slice p n c, .int .i64 v] w (RowOf (L ++ Pk.e8 v 8) m w) := by
  have HP := Lib.hid hp; clear hp
  have HN := Lib.hid hn; clear hn
  have G0 : Hid ((w.alloc (.cells (List.replicate 8 (Value.int .u8 0)).toArray 120)).heap[w.heap.size]? = some (.cells ((Pk.tb v 0).map (Value.int .u8)).toArray 120 (0, 0))) := by
    show _ = _; rw [Pk.tb_zero]; exact heap_alloc_new w _
  have B0 : Hid (Below w.heap.size w (w.alloc (.cells (List.replicate 8 (Value.int .u8 0)).toArray 120))) := (Below.refl _ w).alloc (Nat.le_refl _) _
  go_enter Try.func44, Try.ntmps44
  go_wp2
  go_loopw [7] (fun v7 wr => ∃ k : Nat, k ≤ 8 ∧ v7 = .int .i64 k ∧ Hid (wr.heap[w.heap.size]? = some (.cells ((Pk.tb v k).map (Value.int .u8)).toArray 120 (0, 0))) ∧ Hid (Below w.heap.size w wr)) (fun v7 _ => 8 - (intOf v7).toNat)
  case atStart => exact ⟨0, by omega, rfl, G0.out, B0.out⟩
  case round =>
    clear G0 B0
    obtain ⟨k, hk, rfl, HG, HB⟩ := hrel
    by_cases hlt : k < 8
    · have hw2 : IntKind.i64.wrap (7 - (k : Int)) = 7 - (k : Int) := IntWalk.i64_in _ ⟨by omega, by omega⟩
      have hw3 : IntKind.i64.wrap (8 * (k : Int)) = 8 * (k : Int) := IntWalk.i64_in _ ⟨by omega, by omega⟩
      have hx0 : 0 ≤ 7 - (k : Int) := by omega
      have hx1 : 7 - (k : Int) < 8 := by omega
      have hx2 : (7 - (k : Int)).toNat = 7 - k := by omega
      have hx3 : (k : Int) < 8 := by omega
      have hx4 : 0 ≤ 8 * (k : Int) := by omega
      have hx5 : 8 * (k : Int) ≤ 64 := by omega
      have hx6 : (2 : Int) ^ (8 * (k : Int)).toNat = 256 ^ k := by
        rw [show (8 * (k : Int)).toNat = 8 * k by omega, Int.pow_mul]
        rfl
      have c0 := row_cell HG.out (7 - k) (by rw [Pk.tb_len]; omega)
      have f0 := frozen_of_row wr w.heap.size (7 - k) _ _ HG.out
      generalize (Pk.tb v k).getD (7 - k) 0 = y0 at c0
      go_wp2
      refine ⟨⟨k + 1, by omega, by go_num, ?_, HB.out.setCell (by simp) _⟩, by simp [intOf]; omega⟩
      have h2 := set_u8' (i := 7 - k) (x := v / 256 ^ k % 256) HG.out
      rw [Pk.tb_step] at h2
      exact h2
    · obtain rfl : k = 8 := by omega
      have HA : Hid (Bs wr (some ⟨w.heap.size, 0, none⟩) 8 (Pk.e8 v 8)) := by
        have h := HG.out
        rw [Pk.tb_all] at h
        exact bs_row (bat_row h (Pk.e8_byt _ _)) ⟨by rw [Pk.e8_len]; omega, by omega⟩
      have HPR : Hid (Bs wr p c L) := HP.out.old HB.out
      clear hlt
      have B2 : Hid (Below wr.heap.size wr (wr.alloc (.cells #[.slice p n c, .slice (some ⟨w.heap.size, 0, none⟩) 8 8] 41))) := (Below.refl _ wr).alloc (Nat.le_refl _) _
      have HC : Hid (Calls Try.prog 62 #[.slice (some ⟨wr.heap.size, 0, none⟩) 2 2] (wr.alloc (.cells #[.slice p n c, .slice (some ⟨w.heap.size, 0, none⟩) 8 8] 41)) (RowOf (L ++ Pk.e8 v 8) m (wr.alloc (.cells #[.slice p n c, .slice (some ⟨w.heap.size, 0, none⟩) 8 8] 41)))) :=
        concat2_any wr.heap.size p (some ⟨w.heap.size, 0, none⟩) n 8 c 8 L (Pk.e8 v 8) m HN.out (Pk.e8_len _ _) hm _ (heap_alloc_new wr _) (HPR.out.old B2.out) (HA.out.old B2.out) (by omega)
      have hb1 : Hid (Below w.heap.size w (wr.alloc (.cells #[.slice p n c, .slice (some ⟨w.heap.size, 0, none⟩) 8 8] 41))) := HB.out.trans (B2.out.mono HB.out.size)
      go_wp2_with (go_at_call 62; refine HC.out.mono ?_; rintro e1 w1 ⟨p1, c1, rfl, HO1, HB1, HL1⟩)
      go_ret
      refine ⟨p1, c1, rfl, ?_, HB1.out, ?_⟩
      · have h := own_base HO1.out hb1.out.size
        exact h
      · have h := hb1.out.trans (HL1.out.mono hb1.out.size)
        exact h
end

/-! PaC: Contracts: pack.Sum, pack.Ref. -/
section
open Go.RowKit

set_option maxHeartbeats 1000000 in
set_option maxRecDepth 100000 in
theorem sum_any (L S : List Int) (hS : S.length = 32) (hb : Sha.Byt S) (p : Option Addr) (n c m : Nat) (hn : L.length = n) (hm : n + 32 = m) (hL : n ≤ 1000000) (w : World) (hp : Bs w p c L) :
    Calls Try.prog 56 #[.slice p n c, A32 S] w (RowOf (L ++ S) m w) := by
  have HP := Lib.hid hp; clear hp
  have HN := Lib.hid hn; clear hn
  obtain ⟨A, hA⟩ : ∃ A, (S.map (Value.int .u8)).toArray = A := ⟨_, rfl⟩
  have HAS : Hid (A.size = 32) := by show _ = _; rw [← hA]; simp [hS]
  have hsz := row_size Try.sizeSum HAS
  have h1 : A.all (·.oneCell') = true := by
    rw [← hA, Array.all_eq_true_iff_forall_mem]
    intro v hv
    exact bytes_one S v (by simpa using hv)
  have B0 : Hid (Below w.heap.size w (w.alloc (.cells A 34))) := (Below.refl _ w).alloc (Nat.le_refl _) _
  have HB1 : Hid (Bs (w.alloc (.cells A 34)) (some ⟨w.heap.size, 0, none⟩) 32 S) := by
    have h := heap_alloc_new w (.cells A 34)
    rw [← hA] at h ⊢
    exact bs_row (bat_row h hb) ⟨by omega, by omega⟩
  have HP1 : Hid (Bs (w.alloc (.cells A 34)) p c L) := HP.out.old B0.out
  unfold A32
  rw [hA]
  clear hA
  go_enter Try.func56, Try.ntmps56
  have B2 : Hid (Below (w.alloc (.cells A 34)).heap.size (w.alloc (.cells A 34)) ((w.alloc (.cells A 34)).alloc (.cells #[.slice p n c, .slice (some ⟨w.heap.size, 0, none⟩) 32 32] 41))) := (Below.refl _ _).alloc (Nat.le_refl _) _
  have HC : Hid (Calls Try.prog 62 #[.slice (some ⟨w.heap.size + 1, 0, none⟩) 2 2] ((w.alloc (.cells A 34)).alloc (.cells #[.slice p n c, .slice (some ⟨w.heap.size, 0, none⟩) 32 32] 41)) (RowOf (L ++ S) m ((w.alloc (.cells A 34)).alloc (.cells #[.slice p n c, .slice (some ⟨w.heap.size, 0, none⟩) 32 32] 41)))) :=
    concat2_any (w.heap.size + 1) p (some ⟨w.heap.size, 0, none⟩) n 32 c 32 L S m HN.out hS hm _ (heap_alloc2_new w _ _) (HP1.out.old B2.out) (HB1.out.old B2.out) (by omega)
  have hb1 : Hid (Below w.heap.size w ((w.alloc (.cells A 34)).alloc (.cells #[.slice p n c, .slice (some ⟨w.heap.size, 0, none⟩) 32 32] 41))) := B0.out.trans (B2.out.mono B0.out.size)
  go_wp2_with (go_at_call 62; refine HC.out.mono ?_; rintro e1 w1 ⟨p1, c1, rfl, HO1, HB1, HL1⟩)
  go_ret
  refine ⟨p1, c1, rfl, ?_, HB1.out, ?_⟩
  · have h := own_base HO1.out hb1.out.size
    exact h
  · have h := hb1.out.trans (HL1.out.mono hb1.out.size)
    exact h
end

/-! PaD: Contract: pack.Ref. -/
section
open Go.RowKit

theorem all_oneCell_toArray {l : List Value} (h : ∀ v ∈ l, v.oneCell' = true) : l.toArray.all (·.oneCell') = true := by
  rw [Array.all_eq_true_iff_forall_mem]
  intro v hv
  exact h v (by simpa using hv)
/-- A ref, as bytes. -/
def Pk.ref (r : Int × List Int) : List Int := Pk.e8 r.1 8 ++ r.2
set_option maxHeartbeats 1000000 in
set_option maxRecDepth 100000 in
theorem ref_any (L : List Int) (r : Int × List Int) (hS : r.2.length = 32) (hb : Sha.Byt r.2) (p : Option Addr) (n c m : Nat) (hn : L.length = n) (hm : n + 40 = m) (hL : n ≤ 900000) (w : World) (hp : Bs w p c L) :
    Calls Try.prog 55 #[.slice p n c, R33 r] w (RowOf (L ++ Pk.ref r) m w) := by
  have HP := Lib.hid hp; clear hp
  have HN := Lib.hid hn; clear hn
  obtain ⟨k, S⟩ := r
  have HS32 : Hid (S.length = 32) := hS
  have HSB : Hid (Sha.Byt S) := hb
  clear hS hb
  obtain ⟨A, HA1⟩ : ∃ A, Hid (A = (S.map (Value.int .u8)).toArray) := ⟨_, rfl⟩
  have HA2 : Hid (A.size = 32) := by show _ = _; rw [HA1.out]; simp [HS32.out]
  obtain ⟨B, HB1⟩ : ∃ B, Hid (B = (Value.int .i64 k :: S.map (Value.int .u8)).toArray) := ⟨_, rfl⟩
  have HB2 : Hid (B.size = 33) := by show _ = _; rw [HB1.out]; simp [HS32.out]
  have hsz := row_size Try.sizeRef HB2
  have h1 : B.all (·.oneCell') = true := by
    rw [HB1.out]
    apply all_oneCell_toArray
    intro v hv
    simp at hv
    rcases hv with rfl | ⟨x, _, rfl⟩ <;> rfl
  have R0 : Hid ((w.alloc (.cells B 36)).heap[w.heap.size]? = some (.cells B 36 (0, 0))) := heap_alloc_new w _
  have B0 : Hid (Below w.heap.size w (w.alloc (.cells B 36))) := (Below.refl _ w).alloc (Nat.le_refl _) _
  have HK : Hid (∀ y, Below (w.alloc (.cells B 36)).heap.size (w.alloc (.cells B 36)) y → y.cell? ⟨w.heap.size, 0, none⟩ = some (.int .i64 k) ∧ y.rangeAt w.heap.size 1 A.toList) := fun y hy => by
    have h := (hy.block w.heap.size (by simp)).trans R0.out
    rw [HB1.out] at h
    constructor
    · rw [cell_of_row y w.heap.size 0 _ _ _ h]; rfl
    · intro j v hv
      rw [cell_of_row y w.heap.size (1 + j) _ _ _ h, Nat.add_comm]
      rw [HA1.out] at hv
      simpa using hv
  have e33 : R33 (k, S) = .agg B := by unfold R33; rw [HB1.out]
  have e32 : A32 S = .agg A := by unfold A32; rw [HA1.out]
  have HC1 : Hid (∀ y, Below w.heap.size w y → Calls Try.prog 44 #[.slice p n c, .int .i64 k] y (RowOf (L ++ Pk.e8 k 8) (n + 8) y)) := fun y hy => int_any L k p n c (n + 8) HN.out rfl (by omega) y (HP.out.old hy)
  have HC2 : Hid (∀ y p1 c1, Bs y p1 c1 (L ++ Pk.e8 k 8) → Calls Try.prog 56 #[.slice p1 (n + 8) c1, .agg A] y (RowOf (L ++ Pk.ref (k, S)) m y)) := fun y p1 c1 hy => by
    rw [← e32, Pk.ref, ← List.append_assoc]
    exact sum_any (L ++ Pk.e8 k 8) S HS32.out HSB.out p1 (n + 8) c1 m (by simp only [List.length_append, Pk.e8_len]; rw [HN.out]) (by omega) (by omega) y hy
  clear HB1 HA1
  rw [e33]
  go_enter Try.func55, Try.ntmps55
  go_upto_region 1 with (fail)
  refine wp_region_any (by kernel_rfl) ?_
  change wpAny _ _ _ _ _ _ _ (World.drew _)
  obtain ⟨w1, hw1e⟩ : ∃ x, x = (w.alloc (.cells B 36)).drew := ⟨_, rfl⟩
  have B1 : Hid (Below w.heap.size w w1) := by rw [hw1e]; exact B0.out.drew
  have B1' : Hid (Below (w.alloc (.cells B 36)).heap.size (w.alloc (.cells B 36)) w1) := by rw [hw1e]; exact (Below.refl _ _).drew
  rw [← hw1e]
  clear hw1e
  refine wpAny_of_held (S := fun y => y.cell? ⟨w.heap.size, 0, none⟩ = some (.int .i64 k) ∧ y.rangeAt w.heap.size 1 A.toList) _ _ _ _ ?_
  have SD := HK.out _ B1'.out
  refine anyH_take 0 5 (.slice p n c) SD rfl (by kernel_rfl) (by kernel_rfl) (by kernel_rfl) (fun _ _ _ h => h) (by rfl) (by intro x hx; go_simp) ?_
  try simp only [Act.put, List.setIfInBounds_toArray, List.set_cons_zero, List.set_cons_succ]
  refine anyH_take 1 6 (.pointer (some ⟨w.heap.size, 0, none⟩)) SD rfl (by kernel_rfl) (by kernel_rfl) (by kernel_rfl) (fun _ _ _ h => h) (by rfl) (by intro x hx; go_simp) ?_
  try simp only [Act.put, List.setIfInBounds_toArray, List.set_cons_zero, List.set_cons_succ]
  refine anyH_take 2 7 (.int .i64 k) SD rfl (by kernel_rfl) (by kernel_rfl) (by kernel_rfl) (fun _ _ _ h => h) (by rfl) (by intro x hx; have h0 := hx.1; go_simp) ?_
  try simp only [Act.put, List.setIfInBounds_toArray, List.set_cons_zero, List.set_cons_succ]
  refine anyH_take 4 9 (.pointer (some ⟨w.heap.size, 1, none⟩)) SD rfl (by kernel_rfl) (by kernel_rfl) (by kernel_rfl) (fun _ _ _ h => h) (by rfl) (by intro x hx; go_simp) ?_
  try simp only [Act.put, List.setIfInBounds_toArray, List.set_cons_zero, List.set_cons_succ]
  refine anyH_take 5 10 (.agg A) SD rfl (by kernel_rfl) (by kernel_rfl) (by kernel_rfl) (fun _ _ _ h => h) (by rfl) (fun x hx => exec_arr 34 (.tmp 9) w.heap.size 1 A _ rfl hx.2 Try.underlying34 rfl (row_size Try.sizeSum HA2)) ?_
  try simp only [Act.put, List.setIfInBounds_toArray, List.set_cons_zero, List.set_cons_succ]
  refine anyH_one 3 (by kernel_rfl) ?_
  refine wpOp_step rfl (fun Kc hKc => ?_)
  go_simp
  refine (HC1.out _ B1.out).mono ?_
  rintro e2 w2 ⟨p2, c2, rfl, HO2, HB2, HL2⟩
  dsimp only
  have B2' : Hid (Below (w.alloc (.cells B 36)).heap.size (w.alloc (.cells B 36)) w2) := B1'.out.trans (HL2.out.mono B1'.out.size)
  have B2 : Hid (Below w.heap.size w w2) := B1.out.trans (HL2.out.mono B1.out.size)
  refine hKc _ _ ⟨HK.out _ B2'.out, ?_⟩
  clear hKc Kc SD
  try simp only [Act.put, List.setIfInBounds_toArray, List.set_cons_zero, List.set_cons_succ]
  refine anyH_one 6 (by kernel_rfl) ?_
  refine wpOp_step rfl (fun Kc hKc => ?_)
  go_simp
  refine (HC2.out _ _ _ HB2.out).mono ?_
  rintro e3 w3 ⟨p3, c3, rfl, HO3, HB3, HL3⟩
  dsimp only
  have B3' : Hid (Below (w.alloc (.cells B 36)).heap.size (w.alloc (.cells B 36)) w3) := B2'.out.trans (HL3.out.mono B2'.out.size)
  have B3 : Hid (Below w.heap.size w w3) := B2.out.trans (HL3.out.mono B2.out.size)
  refine hKc _ _ ⟨HK.out _ B3'.out, ?_⟩
  clear hKc Kc
  try simp only [Act.put, List.setIfInBounds_toArray, List.set_cons_zero, List.set_cons_succ]
  have SD := HK.out _ B3'.out
  refine anyH_one 7 (by kernel_rfl) ?_
  refine wpOp_step rfl (fun Kc hKc => ?_)
  go_simp
  refine hKc _ _ ⟨SD, ?_⟩
  clear hKc Kc
  refine wpAnyH_done (by kernel_rfl) ?_ _
  go_wp2
  go_ret
  refine ⟨p3, c3, rfl, ?_, HB3.out, B3.out⟩
  have h := own_base HO3.out B2.out.size
  exact h
end
end Go.Proofs.Ytpfghjnhoafcmaa

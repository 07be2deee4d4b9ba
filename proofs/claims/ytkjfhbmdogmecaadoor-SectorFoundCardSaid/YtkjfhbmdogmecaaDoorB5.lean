/-
  AesV, AesU, AesW, AesX (merged)
-/
import Derived.Test.YtkjfhbmdogmecaaDoorB3
import Derived.Test.YtkjfhbmdogmecaaDoorB2
import Derived.Test.YtkjfhbmdogmecaaDoorAesT
import Derived.Test.YtkjfhbmdogmecaaDoorA3
import Derived.Laws.StructEq
import Derived.ChangeKeysEq
namespace Go.Proofs.YtkjfhbmdogmecaaDoor

/-! AesV: The published blocks, by the plain functions. -/
section
open Go.RowKit
namespace Aes
/-- The bytes 0, 1, 2 ..; the standard's block. -/
def cnt (n : Nat) : List Int := (List.range n).map fun (i : Nat) => (i : Int)
def pl : List Int := (List.range 16).map fun (i : Nat) => 17 * (i : Int)
set_option maxRecDepth 100000 in
theorem kn16 : blk TB (kws TB (cnt 16)) 9 pl = [105, 196, 224, 216, 106, 123, 4, 48, 216, 205, 183, 128, 112, 180, 197, 90] := by decide +kernel
set_option maxRecDepth 100000 in
theorem kn24 : blk TB (kws TB (cnt 24)) 11 pl = [221, 169, 124, 164, 134, 76, 223, 224, 110, 175, 112, 160, 236, 13, 113, 145] := by decide +kernel
set_option maxRecDepth 100000 in
theorem kn32 : blk TB (kws TB (cnt 32)) 13 pl = [142, 162, 183, 202, 81, 103, 69, 191, 234, 252, 73, 144, 75, 73, 96, 137] := by decide +kernel
end Aes
end

/-! AesU: Contracts: aes.New and Block as the laws meet them; rilllaw03.count, plain, known. -/
section
open Go.RowKit

theorem block_anyB (ks l : List Int) (N g : Nat) (w : World) (hC : Ciph w g Aes.TB ks) (hn : ks.length = 4 * (N + 2)) (hN : N ≤ 100) (hl : l.length = 16) (hlb : Sha.Byt l) :
    Calls Tryd.prog 85 #[.pointer (some ⟨g, 0, none⟩), Bk l] w (BkSay (Aes.blk Aes.TB ks N l) w) := by
  obtain ⟨kb, n, cap, base, hg, hlen, hown⟩ := hC
  obtain rfl : n = N + 2 := by omega
  have hs : (Aes.TB.map (Value.int .u8)).toArray.size = 256 := by simp [Aes.TB_len]
  obtain ⟨h1, h2, h3⟩ : N + 2 ≤ cap ∧ cap ≤ 9223372036854775807 ∧ True := by
    rcases hown.2 with ⟨h, _⟩ | ⟨g', cap', cur, hv, _, _, q1, q2, _⟩
    · cases h
    · cases hv
      unfold maxLen at q2
      exact ⟨q1, by omega, trivial⟩
  refine block_core Aes.TB ks l N g kb cap hl hlb hN w (tbl_of_cells rfl hg) ?_ h1 h2 ?_
  · rw [cell_of_row w g 256 _ _ _ hg, Array.getElem?_push, if_pos hs.symm]
  · intro j hj
    have h := hown.cells (g := kb) rfl j (.int .u32 (ks.getD j 0)) (by
      rw [W32s_eq, List.getElem?_map, List.getElem?_eq_getElem (by omega), List.getD_eq_getElem?_getD, List.getElem?_eq_getElem (by omega)]
      rfl)
    rw [Addr.add_mid, Nat.zero_add] at h
    exact h
theorem Ciph.below {w w' : World} {g : Nat} {T ks : List Int} {B : Nat} (h : Ciph w g T ks) (hb : Below B w w') (hB : w.heap.size ≤ B) : Ciph w' g T ks := by
  obtain ⟨kb, n, cap, base, hg, hlen, hown⟩ := h
  refine ⟨kb, n, cap, base, (hb.block _ (Nat.lt_of_lt_of_le (lt_of_block hg) hB)).trans hg, hlen, hown.1, ?_⟩
  rcases hown.2 with ⟨h, _⟩ | ⟨g', cap', cur, hv, q0, q1, q2⟩
  · cases h
  · exact Or.inr ⟨g', cap', cur, hv, q0, (hb.block _ (Nat.lt_of_lt_of_le (lt_of_block q1) hB)).trans q1, q2⟩
theorem Ciph.lt {w : World} {g : Nat} {T ks : List Int} (h : Ciph w g T ks) : g < w.heap.size := by
  obtain ⟨kb, n, cap, base, hg, _⟩ := h
  exact lt_of_block hg

set_option maxHeartbeats 1000000 in
theorem new_bad (p : Option Addr) (n cap : Nat) (h1 : n ≠ 16) (h2 : n ≠ 24) (h3 : n ≠ 32) (w : World) :
    Calls Tryd.prog 19 #[.slice p n cap] w fun e w' => e = .returned (.tuple #[.pointer none, .int .i64 1]) ∧ w' = w := by
  have e1 : ((n : Int) == 16) = false := by simp; omega
  have e2 : ((n : Int) == 24) = false := by simp; omega
  have e3 : ((n : Int) == 32) = false := by simp; omega
  have f1 : ¬ (n : Int) = 16 := by omega
  have f2 : ¬ (n : Int) = 24 := by omega
  have f3 : ¬ (n : Int) = 32 := by omega
  go_enter Tryd.func19, Tryd.ntmps19
  go_wp2
  go_ret2
  exact ⟨rfl, rfl⟩

/-- So many bytes filled. -/
def cnf (n k : Nat) : List Int := (List.range n).map fun (i : Nat) => if i < k then (i : Int) else 0
theorem cnf_len (n k : Nat) : (cnf n k).length = n := by simp [cnf]
theorem cnf_zero (n : Nat) : (cnf n 0).map (Value.int .u8) = List.replicate n (Value.int .u8 0) := by
  apply List.ext_getElem
  · simp [cnf]
  · intro i h1 h2
    simp [cnf]
theorem cnf_step (n k : Nat) : (cnf n k).set k k = cnf n (k + 1) := by
  apply List.ext_getElem
  · simp [cnf]
  · intro i h1 h2
    rw [List.getElem_set]
    simp only [cnf, List.getElem_map, List.getElem_range]
    by_cases h : k = i
    · subst h; simp
    · rw [if_neg h]
      by_cases h' : i < k
      · rw [if_pos h', if_pos (by omega)]
      · rw [if_neg h', if_neg (by omega)]
theorem cnf_all (n : Nat) : cnf n n = Aes.cnt n := by
  apply List.ext_getElem
  · simp [cnf, Aes.cnt]
  · intro i h1 h2
    have : i < n := by simpa [cnf] using h1
    simp [cnf, Aes.cnt, this]
theorem cnt_len (n : Nat) : (Aes.cnt n).length = n := by simp [Aes.cnt]
theorem cnt_byt (n : Nat) (h : n ≤ 256) : Sha.Byt (Aes.cnt n) := fun x hx => by
  unfold Aes.cnt at hx
  rw [List.mem_map] at hx
  obtain ⟨i, hi, rfl⟩ := hx
  rw [List.mem_range] at hi
  omega
attribute [irreducible] cnf
def CntSay (n : Nat) (w : World) (e : Ending) (w' : World) : Prop :=
  ∃ g, e = .returned (.slice (some ⟨g, 0, none⟩) n n) ∧ BAt w' (some ⟨g, 0, none⟩) (Aes.cnt n) ∧ Below w.heap.size w w'
end

/-! AesW: Blocks held against one another; contracts: rilllaw03.plain, rilllaw03.known. -/
section
open Go.RowKit

theorem items_eq (d : Nat) (c : Nat) (hc : c = 1) (a b : List Int) (w : World) : ∀ is : List Nat, (∀ i ∈ is, i < a.length) → (∀ i ∈ is, i < b.length) →
    (Op.eqItems (d + 1) 5 c (a.map (Value.int .u8)).toArray (b.map (Value.int .u8)).toArray is).run Tryd.prog w = .ok (is.all fun i => a.getD i 0 == b.getD i 0) w
  | [], _, _ => by simp [Op.eqItems]
  | i :: is, h, h' => by
    subst hc
    have hi := h i (by simp)
    have hi' := h' i (by simp)
    have hv : (a.map (Value.int .u8)).toArray[i * 1]? = some (.int .u8 (a.getD i 0)) := by simp [hi, List.getD_eq_getElem?_getD]
    have hv' : (b.map (Value.int .u8)).toArray[i * 1]? = some (.int .u8 (b.getD i 0)) := by simp [hi', List.getD_eq_getElem?_getD]
    have hp : (part 5 (a.map (Value.int .u8)).toArray (i * 1)).run Tryd.prog w = .ok (.int .u8 (a.getD i 0)) w := by
      unfold part
      rw [Sem.run_bind, Tryd.agg5 w]
      simp only [Result.andThen_ok, hv]
      rfl
    have hp' : (part 5 (b.map (Value.int .u8)).toArray (i * 1)).run Tryd.prog w = .ok (.int .u8 (b.getD i 0)) w := by
      unfold part
      rw [Sem.run_bind, Tryd.agg5 w]
      simp only [Result.andThen_ok, hv']
      rfl
    have he := run_equalIn_int (P := Tryd.prog) w d 5 .u8 .u8 (a.getD i 0) (b.getD i 0) Tryd.underlying5
    rw [Op.eqItems]
    simp only [Sem.run_bind, hp, hp', Result.andThen_ok, he, List.all_cons]
    cases hq : a.getD i 0 == b.getD i 0
    · simp
    · simp only [Bool.not_true, Bool.false_eq_true, if_false, Bool.true_and]
      exact items_eq d 1 rfl a b w is (fun j hj => h j (by simp [hj])) (fun j hj => h' j (by simp [hj]))
theorem all_eq (a b : List Int) (ha : a.length = 16) (hb : b.length = 16) : ((List.range 16).all fun i => a.getD i 0 == b.getD i 0) = decide (a = b) := by
  by_cases h : a = b
  · subst h; simp
  · rw [decide_eq_false h, ← Bool.not_eq_true, List.all_eq_true]
    intro hall
    apply h
    apply List.ext_getElem (by omega)
    intro i h1 h2
    have := hall i (List.mem_range.2 (by omega))
    simpa [List.getD_eq_getElem?_getD, h1, h2] using this
theorem blk_eq (a b : List Int) (ha : a.length = 16) (hb : b.length = 16) (w : World) :
    (Op.equalIn 10000 142 (.agg (a.map (Value.int .u8)).toArray) (.agg (b.map (Value.int .u8)).toArray)).run Tryd.prog w = .ok (decide (a = b)) w := by
  cases hq : Tryd.prog.info? 5 with
  | none => have := Tryd.size5; rw [hq] at this; cases this
  | some i =>
    rw [show (10000 : Nat) = (9998 + 1) + 1 from rfl, run_equalIn_array w _ _ _ Tryd.underlying142 hq, ← all_eq a b ha hb]
    exact items_eq 9998 _ (by kernel_rfl) a b w _ (fun j hj => by rw [ha]; exact List.mem_range.1 hj) (fun j hj => by rw [hb]; exact List.mem_range.1 hj)
theorem Tryd.noGuardB : Tryd.prog.eqGuardType Tryd.prog.depth 142 = false := by kernel_rfl

def plf (k : Nat) : List Int := (List.range 16).map fun (i : Nat) => if i < k then 17 * (i : Int) else 0
theorem plf_len (k : Nat) : (plf k).length = 16 := by simp [plf]
theorem plf_step (k : Nat) : (plf k).set k (17 * k) = plf (k + 1) := by
  apply List.ext_getElem
  · simp [plf]
  · intro i h1 h2
    rw [List.getElem_set]
    simp only [plf, List.getElem_map, List.getElem_range]
    by_cases h : k = i
    · subst h; simp
    · rw [if_neg h]
      by_cases h' : i < k
      · rw [if_pos h', if_pos (by omega)]
      · rw [if_neg h', if_neg (by omega)]
theorem plf_zero : ((plf 0).map (Value.int .u8)).toArray = #[.int .u8 0, .int .u8 0, .int .u8 0, .int .u8 0, .int .u8 0, .int .u8 0, .int .u8 0, .int .u8 0, .int .u8 0, .int .u8 0, .int .u8 0, .int .u8 0, .int .u8 0, .int .u8 0, .int .u8 0, .int .u8 0] := rfl
theorem plf_all : plf 16 = Aes.pl := rfl
theorem pl_len : Aes.pl.length = 16 := rfl
theorem pl_byt : Sha.Byt Aes.pl := fun x hx => by
  unfold Aes.pl at hx
  rw [List.mem_map] at hx
  obtain ⟨i, hi, rfl⟩ := hx
  rw [List.mem_range] at hi
  omega
attribute [irreducible] plf
end

/-! AesX: Contract: rilllaw03.known; AesKnown walked. -/
section
open Go.RowKit

theorem kws_len (K : List Int) (n : Nat) (h : K.length = 4 * n) : (Aes.kws Aes.TB K).length = 4 * (n + 7) := by
  rw [Aes.kws, show K.length / 4 = n by omega, Aes.kx_len]
  omega
theorem lit_eq (a b : List Int) (A : Array Value) (hA : A = (a.map (Value.int .u8)).toArray) (ha : a = b) (hl : b.length = 16) : ∀ w, (Op.equalIn 10000 142 (.agg A) (.agg (b.map (Value.int .u8)).toArray)).run Tryd.prog w = .ok true w := fun w => by
  subst ha
  rw [hA, blk_eq a a hl hl w]
  simp
theorem new_anyB (K : List Int) (n : Nat) (hn : n = 4 ∨ n = 6 ∨ n = 8) (hK : K.length = 4 * n) (p : Option Addr) (cap : Nat) (hcap : 4 * n ≤ cap) (hcm : cap ≤ 9223372036854775807) (w : World) (hp : BAt w p K) :
    Calls Tryd.prog 19 #[.slice p (4 * n) cap] w (NewSayB K w) := by
  rcases hn with rfl | rfl | rfl
  · exact new_4 K hK p cap hcap hcm w hp
  · exact new_6 K hK p cap hcap hcm w hp
  · exact new_8 K hK p cap hcap hcm w hp
end

end Go.Proofs.YtkjfhbmdogmecaaDoor

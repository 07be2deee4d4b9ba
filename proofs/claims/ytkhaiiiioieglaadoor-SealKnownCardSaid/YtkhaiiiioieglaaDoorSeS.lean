/-
  Contract: mac.Same: two sums are the same just if all their bytes are.
-/
import Derived.Test.YtkhaiiiioieglaaDoorSeB
import Derived.BigQuiet
namespace Go.Proofs.YtkhaiiiioieglaaDoor
open Go.RowKit

namespace Same

theorem ofInt_u8 (u : Int) (h : 0 ≤ u ∧ u ≤ 255) : (BitVec.ofInt 8 u).toNat = u.toNat := by
  rw [BitVec.toNat_ofInt]
  omega
theorem wrap_u8 (n : Nat) (h : n < 256) : IntKind.u8.wrap (n : Int) = n := IntWalk.u8_in _ (by omega)
theorem or_zero (u v : Int) (hu : 0 ≤ u ∧ u ≤ 255) (hv : 0 ≤ v ∧ v ≤ 255) : bits .or .u8 u v = 0 ↔ u = 0 ∧ v = 0 := by
  have e : bits .or .u8 u v = (((BitVec.ofInt 8 u ||| BitVec.ofInt 8 v).toNat : Nat) : Int) := by
    show IntKind.u8.wrap (((BitVec.ofInt 8 u ||| BitVec.ofInt 8 v).toNat : Nat) : Int) = _
    exact wrap_u8 _ (BitVec.isLt _)
  rw [e]
  constructor
  · intro h
    have h0 : BitVec.ofInt 8 u ||| BitVec.ofInt 8 v = 0#8 := BitVec.eq_of_toNat_eq (by simpa using h)
    obtain ⟨h1, h2⟩ := BitVec.or_eq_zero_iff.1 h0
    have h3 := congrArg BitVec.toNat h1
    have h4 := congrArg BitVec.toNat h2
    rw [ofInt_u8 u hu] at h3
    rw [ofInt_u8 v hv] at h4
    simp at h3 h4
    omega
  · rintro ⟨rfl, rfl⟩
    rfl
theorem xor_zero (u v : Int) (hu : 0 ≤ u ∧ u ≤ 255) (hv : 0 ≤ v ∧ v ≤ 255) : bits .xor .u8 u v = 0 ↔ u = v := by
  have e : bits .xor .u8 u v = (((BitVec.ofInt 8 u ^^^ BitVec.ofInt 8 v).toNat : Nat) : Int) := by
    show IntKind.u8.wrap (((BitVec.ofInt 8 u ^^^ BitVec.ofInt 8 v).toNat : Nat) : Int) = _
    exact wrap_u8 _ (BitVec.isLt _)
  rw [e]
  constructor
  · intro h
    have h0 : BitVec.ofInt 8 u ^^^ BitVec.ofInt 8 v = 0#8 := BitVec.eq_of_toNat_eq (by simpa using h)
    have h1 := BitVec.xor_eq_zero_iff.1 h0
    have h3 := congrArg BitVec.toNat h1
    rw [ofInt_u8 u hu, ofInt_u8 v hv] at h3
    omega
  · rintro rfl
    simp
theorem or_byt (u v : Int) : 0 ≤ bits .or .u8 u v ∧ bits .or .u8 u v ≤ 255 := by
  have h : ∀ x : Int, 0 ≤ IntKind.u8.wrap x ∧ IntKind.u8.wrap x ≤ 255 := fun x => by
    simp [IntKind.wrap, IntKind.signed, IntKind.bits]
    omega
  exact h _
/-- What is unlike up to k. -/
def un (a b : List Int) : Nat → Int
  | 0 => 0
  | k + 1 => bits .or .u8 (un a b k) (bits .xor .u8 (a.getD k 0) (b.getD k 0))
theorem un_succ (a b : List Int) (k : Nat) : un a b (k + 1) = bits .or .u8 (un a b k) (bits .xor .u8 (a.getD k 0) (b.getD k 0)) := rfl
theorem un_byt (a b : List Int) (k : Nat) : 0 ≤ un a b k ∧ un a b k ≤ 255 := by
  cases k with
  | zero => simp [un]
  | succ k => exact or_byt _ _
theorem un_zero (a b : List Int) (ha : Sha.Byt a) (hb : Sha.Byt b) (k : Nat) : un a b k = 0 ↔ ∀ j, j < k → a.getD j 0 = b.getD j 0 := by
  induction k with
  | zero => simp [un]
  | succ k ih =>
    rw [un_succ, or_zero _ _ (un_byt a b k) (xor_byt _ _), xor_zero _ _ (Sha.byt_getD ha k) (Sha.byt_getD hb k), ih]
    constructor
    · rintro ⟨h1, h2⟩ j hj
      by_cases h : j = k
      · subst h; exact h2
      · exact h1 j (by omega)
    · intro h
      exact ⟨fun j hj => h j (by omega), h k (by omega)⟩
attribute [irreducible] un

def SameSay (a b : List Int) (w : World) (e : Ending) (w' : World) : Prop := e = .returned (.bool (un a b 32 == 0)) ∧ Below w.heap.size w w'
set_option maxHeartbeats 1000000 in
set_option maxRecDepth 100000 in
theorem msame_any (a b : List Int) (ha : a.length = 32) (hb : b.length = 32) (w : World) :
    Calls Tryd.prog 29 #[.agg (a.map (Value.int .u8)).toArray, .agg (b.map (Value.int .u8)).toArray] w (SameSay a b w) := by
  have Ha := Lib.hid ha; clear ha
  have Hb := Lib.hid hb; clear hb
  go_enter Tryd.func29, Tryd.ntmps29
  go_wp2
  go_loopw [5, 7] (fun v5 v7 wr => ∃ k : Nat, k ≤ 32 ∧ v7 = .int .i64 k ∧ v5 = .int .u8 (un a b k) ∧ Hid (wr.heap[w.heap.size]? = some (.cells (a.map (Value.int .u8)).toArray 37 (0, 0))) ∧ Hid (wr.heap[w.heap.size + 1]? = some (.cells (b.map (Value.int .u8)).toArray 37 (0, 0))) ∧ Hid (Below w.heap.size w wr)) (fun _ v7 _ => 32 - (intOf v7).toNat)
  case atStart =>
    refine ⟨0, by omega, rfl, by rw [un], heap_alloc2_old w _ _, heap_alloc2_new w _ _, ?_⟩
    exact ((Below.refl _ w).alloc (Nat.le_refl _) _).alloc (by simp) _
  case round =>
    obtain ⟨k, hk, rfl, rfl, HGA, HGB, HB⟩ := hrel
    by_cases hlt : k < 32
    · have c0 := row_cell HGA.out k (by rw [Ha.out]; exact hlt)
      have c1 := row_cell HGB.out k (by rw [Hb.out]; exact hlt)
      have HU : Hid (bits .or .u8 (un a b k) (bits .xor .u8 (a.getD k 0) (b.getD k 0)) = un a b (k + 1)) := (un_succ a b k).symm
      have hn : 0 ≤ (k : Int) := by omega
      have hm : (k : Int) < 32 := by omega
      generalize a.getD k 0 = x at *
      generalize b.getD k 0 = y at *
      generalize hu : un a b k = u at *
      go_wp2
      go_quiet (fail)
      go_wp2
      refine ⟨⟨k + 1, by omega, by go_num, by rw [HU.out], ?_, ?_, ?_⟩, by simp [intOf]; omega⟩
      · exact HGA.out
      · exact HGB.out
      · exact below_dn HB.out _
    · have E : k = 32 := by omega
      subst E
      go_wp2
      go_ret
      exact ⟨rfl, HB.out⟩

theorem un_eq (a b : List Int) (ha : a.length = 32) (hb : b.length = 32) (hba : Sha.Byt a) (hbb : Sha.Byt b) : (un a b 32 == 0) = decide (a = b) := by
  rw [Bool.eq_iff_iff, beq_iff_eq, un_zero a b hba hbb, decide_eq_true_iff]
  constructor
  · intro h
    apply List.ext_getElem (by omega)
    intro i h1 h2
    have := h i (by omega)
    rw [List.getD_eq_getElem?_getD, List.getElem?_eq_getElem h1, List.getD_eq_getElem?_getD, List.getElem?_eq_getElem h2] at this
    simpa using this
  · rintro rfl
    exact fun _ _ => rfl
/-- Are two sums the same? -/
theorem same_sums (a b : List Int) (ha : a.length = 32) (hb : b.length = 32) (hba : Sha.Byt a) (hbb : Sha.Byt b) (w : World) :
    Calls Tryd.prog 29 #[.agg (a.map (Value.int .u8)).toArray, .agg (b.map (Value.int .u8)).toArray] w fun e w' => e = .returned (.bool (decide (a = b))) ∧ Below w.heap.size w w' :=
  (msame_any a b ha hb w).mono fun e w' h => ⟨by rw [← un_eq a b ha hb hba hbb]; exact h.1, h.2⟩
end Same
end Go.Proofs.YtkhaiiiioieglaaDoor

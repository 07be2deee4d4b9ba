/-
  Blocks held against one another; contracts: rilllaw03.plain, rilllaw03.known.
-/
import Derived.Test.YtkajigfdfbgphaaAesU
namespace Go.Proofs.Ytkajigfdfbgphaa
open Go.RowKit

theorem Try.agg5 (w : World) : (isAgg 5).run Try.prog w = .ok false w := by
  unfold isAgg
  rw [Sem.run_bind, run_underlying Try.underlying5 w]
  rfl
theorem items_eq (d : Nat) (c : Nat) (hc : c = 1) (a b : List Int) (w : World) : ∀ is : List Nat, (∀ i ∈ is, i < a.length) → (∀ i ∈ is, i < b.length) →
    (Op.eqItems (d + 1) 5 c (a.map (Value.int .u8)).toArray (b.map (Value.int .u8)).toArray is).run Try.prog w = .ok (is.all fun i => a.getD i 0 == b.getD i 0) w
  | [], _, _ => by simp [Op.eqItems]
  | i :: is, h, h' => by
    subst hc
    have hi := h i (by simp)
    have hi' := h' i (by simp)
    have hv : (a.map (Value.int .u8)).toArray[i * 1]? = some (.int .u8 (a.getD i 0)) := by simp [hi, List.getD_eq_getElem?_getD]
    have hv' : (b.map (Value.int .u8)).toArray[i * 1]? = some (.int .u8 (b.getD i 0)) := by simp [hi', List.getD_eq_getElem?_getD]
    have hp : (part 5 (a.map (Value.int .u8)).toArray (i * 1)).run Try.prog w = .ok (.int .u8 (a.getD i 0)) w := by
      unfold part
      rw [Sem.run_bind, Try.agg5 w]
      simp only [Result.andThen_ok, hv]
      rfl
    have hp' : (part 5 (b.map (Value.int .u8)).toArray (i * 1)).run Try.prog w = .ok (.int .u8 (b.getD i 0)) w := by
      unfold part
      rw [Sem.run_bind, Try.agg5 w]
      simp only [Result.andThen_ok, hv']
      rfl
    have he := run_equalIn_int (P := Try.prog) w d 5 .u8 .u8 (a.getD i 0) (b.getD i 0) Try.underlying5
    rw [Op.eqItems]
    simp only [Sem.run_bind, hp, hp', Result.andThen_ok, he, List.all_cons]
    cases hq : a.getD i 0 == b.getD i 0
    · simp
    · simp only [Bool.not_true, Bool.false_eq_true, if_false, Bool.true_and]
      exact items_eq d 1 rfl a b w is (fun j hj => h j (by simp [hj])) (fun j hj => h' j (by simp [hj]))
theorem all_eq (a b : List Int) (ha : a.length = 16) (hb : b.length = 16) : ((List.range 16).all fun i => a.getD i 0 == b.getD i 0) = decide (a = b) := by
  by_cases h : a = b
  · subst h; simp
  · rw [decide_eq_false h, ← Bool.not_eq_true, List.all_eq_true]
    intro hall
    apply h
    apply List.ext_getElem (by omega)
    intro i h1 h2
    have := hall i (List.mem_range.2 (by omega))
    simpa [List.getD_eq_getElem?_getD, h1, h2] using this
theorem blk_eq (a b : List Int) (ha : a.length = 16) (hb : b.length = 16) (w : World) :
    (Op.equalIn 10000 35 (.agg (a.map (Value.int .u8)).toArray) (.agg (b.map (Value.int .u8)).toArray)).run Try.prog w = .ok (decide (a = b)) w := by
  cases hq : Try.prog.info? 5 with
  | none => have := Try.size5; rw [hq] at this; cases this
  | some i =>
    rw [show (10000 : Nat) = (9998 + 1) + 1 from rfl, run_equalIn_array w _ _ _ Try.underlying35 hq, ← all_eq a b ha hb]
    exact items_eq 9998 _ (by kernel_rfl) a b w _ (fun j hj => by rw [ha]; exact List.mem_range.1 hj) (fun j hj => by rw [hb]; exact List.mem_range.1 hj)
theorem Try.noGuard : Try.prog.eqGuardType Try.prog.depth 35 = false := by kernel_rfl

def plf (k : Nat) : List Int := (List.range 16).map fun (i : Nat) => if i < k then 17 * (i : Int) else 0
theorem plf_len (k : Nat) : (plf k).length = 16 := by simp [plf]
theorem plf_step (k : Nat) : (plf k).set k (17 * k) = plf (k + 1) := by
  apply List.ext_getElem
  · simp [plf]
  · intro i h1 h2
    rw [List.getElem_set]
    simp only [plf, List.getElem_map, List.getElem_range]
    by_cases h : k = i
    · subst h; simp
    · rw [if_neg h]
      by_cases h' : i < k
      · rw [if_pos h', if_pos (by omega)]
      · rw [if_neg h', if_neg (by omega)]
theorem plf_zero : ((plf 0).map (Value.int .u8)).toArray = #[.int .u8 0, .int .u8 0, .int .u8 0, .int .u8 0, .int .u8 0, .int .u8 0, .int .u8 0, .int .u8 0, .int .u8 0, .int .u8 0, .int .u8 0, .int .u8 0, .int .u8 0, .int .u8 0, .int .u8 0, .int .u8 0] := rfl
theorem plf_all : plf 16 = Aes.pl := rfl
theorem pl_len : Aes.pl.length = 16 := rfl
theorem pl_byt : Sha.Byt Aes.pl := fun x hx => by
  unfold Aes.pl at hx
  rw [List.mem_map] at hx
  obtain ⟨i, hi, rfl⟩ := hx
  rw [List.mem_range] at hi
  omega
attribute [irreducible] plf
set_option maxHeartbeats 1000000 in
set_option maxRecDepth 100000 in
theorem plain_any (w : World) : Calls Try.prog 24 #[] w (BkSay Aes.pl w) := by
  go_enter Try.func24, Try.ntmps24
  go_upto_region 2 with fail
  have HR0 : Hid (((w.alloc (.cells #[.int .u8 0, .int .u8 0, .int .u8 0, .int .u8 0, .int .u8 0, .int .u8 0, .int .u8 0, .int .u8 0, .int .u8 0, .int .u8 0, .int .u8 0, .int .u8 0, .int .u8 0, .int .u8 0, .int .u8 0, .int .u8 0] 35)).alloc (.cells #[.int .u8 0, .int .u8 0, .int .u8 0, .int .u8 0, .int .u8 0, .int .u8 0, .int .u8 0, .int .u8 0, .int .u8 0, .int .u8 0, .int .u8 0, .int .u8 0, .int .u8 0, .int .u8 0, .int .u8 0, .int .u8 0] 35)).heap[w.heap.size]? = some (.cells ((plf 0).map (Value.int .u8)).toArray 35 (0, 0))) := by show _ = _; rw [plf_zero]; exact heap_alloc2_old w _ _
  have HG0 : Hid (((w.alloc (.cells #[.int .u8 0, .int .u8 0, .int .u8 0, .int .u8 0, .int .u8 0, .int .u8 0, .int .u8 0, .int .u8 0, .int .u8 0, .int .u8 0, .int .u8 0, .int .u8 0, .int .u8 0, .int .u8 0, .int .u8 0, .int .u8 0] 35)).alloc (.cells #[.int .u8 0, .int .u8 0, .int .u8 0, .int .u8 0, .int .u8 0, .int .u8 0, .int .u8 0, .int .u8 0, .int .u8 0, .int .u8 0, .int .u8 0, .int .u8 0, .int .u8 0, .int .u8 0, .int .u8 0, .int .u8 0] 35)).heap[w.heap.size + 1]? = some (.cells ((plf 0).map (Value.int .u8)).toArray 35 (0, 0))) := by show _ = _; rw [plf_zero]; exact heap_alloc2_new w _ _
  have HB0 : Hid (Below w.heap.size w ((w.alloc (.cells #[.int .u8 0, .int .u8 0, .int .u8 0, .int .u8 0, .int .u8 0, .int .u8 0, .int .u8 0, .int .u8 0, .int .u8 0, .int .u8 0, .int .u8 0, .int .u8 0, .int .u8 0, .int .u8 0, .int .u8 0, .int .u8 0] 35)).alloc (.cells #[.int .u8 0, .int .u8 0, .int .u8 0, .int .u8 0, .int .u8 0, .int .u8 0, .int .u8 0, .int .u8 0, .int .u8 0, .int .u8 0, .int .u8 0, .int .u8 0, .int .u8 0, .int .u8 0, .int .u8 0, .int .u8 0] 35))) := ((Below.refl _ w).alloc (Nat.le_refl _) _).alloc (by simp) _
  generalize (w.alloc (.cells #[.int .u8 0, .int .u8 0, .int .u8 0, .int .u8 0, .int .u8 0, .int .u8 0, .int .u8 0, .int .u8 0, .int .u8 0, .int .u8 0, .int .u8 0, .int .u8 0, .int .u8 0, .int .u8 0, .int .u8 0, .int .u8 0] 35)).alloc (.cells #[.int .u8 0, .int .u8 0, .int .u8 0, .int .u8 0, .int .u8 0, .int .u8 0, .int .u8 0, .int .u8 0, .int .u8 0, .int .u8 0, .int .u8 0, .int .u8 0, .int .u8 0, .int .u8 0, .int .u8 0, .int .u8 0] 35) = w1 at *
  go_wp2
  go_loopw [2] (fun v wr => ∃ k : Nat, k ≤ 16 ∧ v = .int .i64 k ∧ Hid (wr.heap[w.heap.size + 1]? = some (.cells ((plf k).map (Value.int .u8)).toArray 35 (0, 0))) ∧ Hid (wr.heap[w.heap.size]? = some (.cells ((plf 0).map (Value.int .u8)).toArray 35 (0, 0))) ∧ Hid (Below w.heap.size w wr)) (fun v _ => 16 - (intOf v).toNat)
  case atStart => exact ⟨0, by omega, rfl, HG0.out, HR0.out, HB0.out⟩
  case round =>
    clear HG0 HR0 HB0
    obtain ⟨k, hk, rfl, HG, HR, HB⟩ := hrel
    by_cases hlt : k < 16
    · have c0 := u8_cell HG.out k (by rw [plf_len]; exact hlt)
      have f0 := frozen_of_row wr (w.heap.size + 1) k _ _ HG.out
      have hm : 17 * (k : Int) % 256 = 17 * k := by omega
      generalize (plf k).getD k 0 = y0 at c0
      go_wp2
      refine ⟨⟨k + 1, by omega, by go_num, ?_, ?_, ?_⟩, by simp [intOf]; omega⟩
      · have h2 := u8_set (i := k) (x := 17 * k) HG.out
        rw [plf_step] at h2
        exact h2
      · show _ = _; rw [heap_setCell_other _ _ _ _ (by simp)]; exact HR.out
      · exact HB.out.setCell (by simp) _
    · have hge : 16 ≤ k := by omega
      obtain ⟨A, HA1, HA2, HA3⟩ : ∃ A : Array Value, Hid (A = (Aes.pl.map (Value.int .u8)).toArray) ∧ Hid (A.size = 16) ∧ Hid (A.all (·.oneCell') = true) := ⟨_, rfl, by show _ = _; simp [pl_len], u8_all _⟩
      have HG8 : Hid (wr.heap[w.heap.size + 1]? = some (.cells A 35 (0, 0))) := by
        have h := HG.out
        rw [show k = 16 by omega, plf_all, ← HA1.out] at h
        exact h
      have HZS : Hid (((plf 0).map (Value.int .u8)).toArray.size = 16) := by show _ = _; simp [plf_len]
      clear hlt HG
      go_wp2_with (first
        | ((with_reducible refine row_load _ _ _ _ _ _ _ ?_ HG8.out Try.underlying35 ?_ (row_size Try.size16 HA2) ?_); (exact rfl); (exact rfl))
        | ((with_reducible refine row_store _ _ _ _ _ _ _ ?_ ?_ HR.out (row_size Try.size16 HA2) ?_ HA3.out ?_); (exact rfl); (exact rfl); (rw [HA2.out]; exact HZS.out.symm); intro w6 G6 ch6))
      refine bodyPost_ret (results_cell_row rfl _ _ w.heap.size 35 A (0, 0) _ rfl G6.out Try.underlying35 rfl (row_size Try.size16 HA2)) rfl ⟨?_, ch6.below HB.out (Nat.le_refl _)⟩
      rw [HA1.out]
      rfl
end Go.Proofs.Ytkajigfdfbgphaa

/-
  A number's end: names.ending.
-/
import Derived.Test.YtdmnlooghamngaaNaP
namespace Go.Proofs.Ytdmnlooghamngaa
open Go.RowKit

namespace Nm
/-- 32 bytes: f, and the lowest i of a number's bytes behind. -/
def tk (f k : Int) (i : Nat) : List Int := (List.range 32).map fun j => if 32 - i ≤ j then k / 256 ^ (31 - j) % 256 else f
def tg (f k : Int) : List Int := tk f k 8
/-- The first i bytes are f. -/
def fl (f : Int) (i : Nat) : List Int := List.replicate i f ++ List.replicate (32 - i) 0
theorem fl_len (f : Int) (i : Nat) (h : i ≤ 32) : (fl f i).length = 32 := by simp [fl]; omega
theorem fl_step (f : Int) (i : Nat) (h : i < 32) : (fl f i).set i f = fl f (i + 1) := by
  unfold fl
  rw [List.set_append_right _ _ (by simp), List.length_replicate, Nat.sub_self, show 32 - i = (32 - (i + 1)) + 1 by omega, List.replicate_succ, List.set_cons_zero, List.replicate_succ' (n := i), List.append_assoc]
  rfl
theorem tk_len (f k : Int) (i : Nat) : (tk f k i).length = 32 := by simp [tk]
theorem fl_all (f k : Int) : fl f 32 = tk f k 0 := by
  apply List.ext_getElem (by rw [fl_len f 32 (by omega), tk_len])
  intro j h1 h2
  rw [tk_len] at h2
  simp only [fl, tk, Nat.sub_self, List.replicate_zero, List.append_nil, List.getElem_replicate, List.getElem_map, List.getElem_range]
  rw [if_neg (by omega)]
theorem tk_step (f k : Int) (i : Nat) (h : i < 32) : (tk f k i).set (31 - i) (k / 256 ^ i % 256) = tk f k (i + 1) := by
  apply List.ext_getElem (by rw [List.length_set, tk_len, tk_len])
  intro j h1 h2
  rw [tk_len] at h2
  rw [List.getElem_set]
  by_cases e : 31 - i = j
  · rw [if_pos e]
    have : 31 - j = i := by omega
    simp [tk, this]
    omega
  · rw [if_neg e]
    simp only [tk, List.getElem_map, List.getElem_range]
    by_cases h3 : 32 - i ≤ j
    · rw [if_pos h3, if_pos (by omega)]
    · rw [if_neg h3, if_neg (by omega)]
theorem tk_byt (f k : Int) (i : Nat) (hf : 0 ≤ f ∧ f ≤ 255) : Sha.Byt (tk f k i) := fun x hx => by
  simp only [tk, List.mem_map, List.mem_range] at hx
  obtain ⟨j, _, rfl⟩ := hx
  split <;> omega
theorem tg_len (f k : Int) : (tg f k).length = 32 := tk_len f k 8
theorem tg_byt (f k : Int) (hf : 0 ≤ f ∧ f ≤ 255) : Sha.Byt (tg f k) := tk_byt f k 8 hf
theorem tg_at (f k : Int) (j : Nat) (h : j < 32) : (tg f k)[j]? = some (if 24 ≤ j then k / 256 ^ (31 - j) % 256 else f) := by
  simp [tg, tk, h]
theorem tg_inj (f k m : Int) (hk : 0 ≤ k ∧ k < 1000000000000) (hm : 0 ≤ m ∧ m < 1000000000000) (h : tg f k = tg f m) : k = m := by
  have e : ∀ j, j < 8 → k / 256 ^ j % 256 = m / 256 ^ j % 256 := fun j hj => by
    have h1 := congrArg (fun l : List Int => l[31 - j]?) h
    simp only [tg_at _ _ _ (show 31 - j < 32 by omega), Option.some.injEq] at h1
    rw [if_pos (by omega), if_pos (by omega), show 31 - (31 - j) = j by omega] at h1
    exact h1
  have e0 := e 0 (by omega)
  have e1 := e 1 (by omega)
  have e2 := e 2 (by omega)
  have e3 := e 3 (by omega)
  have e4 := e 4 (by omega)
  simp at e0 e1 e2 e3 e4
  omega
theorem tg_apart (f g k m : Int) (h : f ≠ g) : tg f k ≠ tg g m := fun e => by
  have h1 := congrArg (fun l : List Int => l[0]?) e
  simp only [tg_at _ _ 0 (by omega), Option.some.injEq] at h1
  rw [if_neg (by omega), if_neg (by omega)] at h1
  exact h h1
attribute [irreducible] tk tg fl
end Nm

theorem Try.sizeSum : (Try.prog.info? 42).map (·.size) = some 32 := by kernel_rfl
theorem row_size {P : Program} {ty : TypeId} {n : Nat} (h : (P.info? ty).map (·.size) = some n) {A : Array Value} (hA : Hid (A.size = n)) : (P.info? ty).map (·.size) = some A.size := by
  rw [h, hA.out]
theorem row_cell {w : World} {g : Nat} {l : List Int} {t : TypeId} {fr : Nat × Nat} (h : w.heap[g]? = some (.cells (l.map (Value.int .u8)).toArray t fr)) (j : Nat) (hj : j < l.length) : w.cell? ⟨g, j, none⟩ = some (.int .u8 (l.getD j 0)) := by
  rw [cell_of_row w g j _ _ _ h]
  simp [List.getD_eq_getElem?_getD, hj]
/-- An array of 32 bytes, as a value. -/
def A32 (l : List Int) : Value := .agg (l.map (Value.int .u8)).toArray
def EndSay (f k : Int) (w : World) (e : Ending) (w' : World) : Prop := e = .returned (A32 (Nm.tg f k)) ∧ Below w.heap.size w w'

set_option maxHeartbeats 1000000 in
set_option maxRecDepth 100000 in
theorem ending_any (f k : Int) (w : World) :
    Calls Try.prog 32 #[.int .u8 f, .int .i64 k] w (EndSay f k w) := by
  have G0 : Hid (((w.alloc (.cells (List.replicate 32 (Value.int .u8 0)).toArray 42)).alloc (.cells (List.replicate 32 (Value.int .u8 0)).toArray 42)).heap[w.heap.size + 1]? = some (.cells ((Nm.fl f 0).map (Value.int .u8)).toArray 42 (0, 0))) := by
    show _ = _
    have h := heap_alloc2_new w (.cells (List.replicate 32 (Value.int .u8 0)).toArray 42) (.cells (List.replicate 32 (Value.int .u8 0)).toArray 42)
    rw [h]
    unfold Nm.fl
    simp
  have R0 : Hid (((w.alloc (.cells (List.replicate 32 (Value.int .u8 0)).toArray 42)).alloc (.cells (List.replicate 32 (Value.int .u8 0)).toArray 42)).heap[w.heap.size]? = some (.cells (List.replicate 32 (Value.int .u8 0)).toArray 42 (0, 0))) := heap_alloc2_old w _ _
  have B0 : Hid (Below w.heap.size w ((w.alloc (.cells (List.replicate 32 (Value.int .u8 0)).toArray 42)).alloc (.cells (List.replicate 32 (Value.int .u8 0)).toArray 42))) := ((Below.refl _ w).alloc (Nat.le_refl _) _).alloc (by simp) _
  go_enter Try.func32, Try.ntmps32
  go_wp2
  go_loopw [8] (fun v8 wr => ∃ i : Nat, i ≤ 32 ∧ v8 = .int .i64 i ∧ Hid (wr.heap[w.heap.size + 1]? = some (.cells ((Nm.fl f i).map (Value.int .u8)).toArray 42 (0, 0))) ∧ Hid (wr.heap[w.heap.size]? = some (.cells (List.replicate 32 (Value.int .u8 0)).toArray 42 (0, 0))) ∧ Hid (Below w.heap.size w wr)) (fun v8 _ => 32 - (intOf v8).toNat)
  case atStart => exact ⟨0, by omega, rfl, G0.out, R0.out, B0.out⟩
  case round =>
    clear G0 R0 B0
    obtain ⟨i, hi, rfl, HG, HR, HB⟩ := hrel
    by_cases hlt : i < 32
    · have c0 := row_cell HG.out i (by rw [Nm.fl_len f i hi]; omega)
      have f0 := frozen_of_row wr (w.heap.size + 1) i _ _ HG.out
      generalize (Nm.fl f i).getD i 0 = y0 at c0
      go_wp2
      refine ⟨⟨i + 1, by omega, by go_num, ?_, ?_, HB.out.setCell (by simp) _⟩, by simp [intOf]; omega⟩
      · have h2 := set_u8' (i := i) (x := f) HG.out
        rw [Nm.fl_step f i hlt] at h2
        exact h2
      · show _ = _
        rw [heap_setCell_other _ _ _ _ (by simp)]
        exact HR.out
    · obtain rfl : i = 32 := by omega
      clear hlt
      have HG0 : Hid (wr.heap[w.heap.size + 1]? = some (.cells ((Nm.tk f k 0).map (Value.int .u8)).toArray 42 (0, 0))) := by
        have h := HG.out
        rw [Nm.fl_all f k] at h
        exact h
      clear HG
      generalize hwL : wr = wL at *
      clear hwL
      go_wp2
      go_loopw [15] (fun v15 wr => ∃ i : Nat, i ≤ 8 ∧ v15 = .int .i64 i ∧ Hid (wr.heap[w.heap.size + 1]? = some (.cells ((Nm.tk f k i).map (Value.int .u8)).toArray 42 (0, 0))) ∧ Hid (wr.heap[w.heap.size]? = some (.cells (List.replicate 32 (Value.int .u8 0)).toArray 42 (0, 0))) ∧ Hid (Below w.heap.size w wr)) (fun v15 _ => 8 - (intOf v15).toNat)
      case atStart => exact ⟨0, by omega, rfl, HG0.out, HR.out, HB.out⟩
      case round =>
        clear HG0 HR HB
        obtain ⟨i, hi, rfl, HG, HR, HB⟩ := hrel
        by_cases hlt : i < 8
        · have c0 := row_cell HG.out (31 - i) (by rw [Nm.tk_len]; omega)
          have f0 := frozen_of_row wr (w.heap.size + 1) (31 - i) _ _ HG.out
          have hw1 : IntKind.i64.wrap (31 - (i : Int)) = 31 - (i : Int) := IntWalk.i64_in _ ⟨by omega, by omega⟩
          have hw2 : IntKind.i64.wrap (8 * (i : Int)) = 8 * (i : Int) := IntWalk.i64_in _ ⟨by omega, by omega⟩
          have hx1 : 0 ≤ 31 - (i : Int) := by omega
          have hx2 : 31 - (i : Int) < 32 := by omega
          have hx3 : (31 - (i : Int)).toNat = 31 - i := by omega
          have hx4 : 0 ≤ 8 * (i : Int) := by omega
          have hx5 : 8 * (i : Int) ≤ 64 := by omega
          have hx6 : (2 : Int) ^ (8 * (i : Int)).toNat = 256 ^ i := by
            rw [show (8 * (i : Int)).toNat = 8 * i by omega, Int.pow_mul]
            rfl
          generalize (Nm.tk f k i).getD (31 - i) 0 = y0 at c0
          go_wp2
          refine ⟨⟨i + 1, by omega, by go_num, ?_, ?_, HB.out.setCell (by simp) _⟩, by simp [intOf]; omega⟩
          · have h2 := set_u8' (i := 31 - i) (x := k / 256 ^ i % 256) HG.out
            rw [Nm.tk_step f k i (by omega)] at h2
            exact h2
          · show _ = _
            rw [heap_setCell_other _ _ _ _ (by simp)]
            exact HR.out
        · obtain rfl : i = 8 := by omega
          clear hlt
          obtain ⟨A, HA1, HA2, HA3⟩ : ∃ A : Array Value, Hid (A = ((Nm.tg f k).map (Value.int .u8)).toArray) ∧ Hid (A.size = 32) ∧ Hid (A.all (·.oneCell') = true) :=
            ⟨_, rfl, by show _ = _; simp [Nm.tg_len], all_oneCell_toArray (bytes_one _)⟩
          have HG8 : Hid (wr.heap[w.heap.size + 1]? = some (.cells A 42 (0, 0))) := by
            show _ = _
            rw [HA1.out]
            unfold Nm.tg
            exact HG.out
          clear HG
          go_wp2_with (first
            | ((with_reducible refine row_load _ _ _ _ _ _ _ ?_ HG8.out Try.underlying42 ?_ (row_size Try.sizeSum HA2) ?_); (exact rfl); (exact rfl))
            | ((with_reducible refine row_store _ _ _ _ _ _ _ ?_ ?_ HR.out (row_size Try.sizeSum HA2) ?_ HA3.out ?_); (exact rfl); (exact rfl); (rw [HA2.out]; rfl); intro w6 G6 ch6))
          refine bodyPost_ret (results_cell_row rfl _ _ w.heap.size 42 A (0, 0) _ rfl G6.out Try.underlying42 rfl (row_size Try.sizeSum HA2)) rfl ⟨?_, ch6.below HB.out (Nat.le_refl _)⟩
          rw [HA1.out]
          rfl
end Go.Proofs.Ytdmnlooghamngaa

/-
  Digests and refs held against one another.
-/
import Derived.Test.YtgfnpofoedambaaPaT
namespace Go.Proofs.Ytgfnpofoedambaa
open Go.RowKit

theorem Try.agg5 (w : World) : (isAgg 5).run Try.prog w = .ok false w := by
  unfold isAgg
  rw [Sem.run_bind, run_underlying Try.underlying5 w]
  rfl
theorem items_eq (d : Nat) (c : Nat) (hc : c = 1) (a b : List Int) (w : World) : ∀ is : List Nat, (∀ i ∈ is, i < a.length) → (∀ i ∈ is, i < b.length) →
    (Op.eqItems (d + 1) 5 c (a.map (Value.int .u8)).toArray (b.map (Value.int .u8)).toArray is).run Try.prog w = .ok (is.all fun i => a.getD i 0 == b.getD i 0) w
  | [], _, _ => by simp [Op.eqItems]
  | i :: is, h, h' => by
    subst hc
    have hi := h i (by simp)
    have hi' := h' i (by simp)
    have hv : (a.map (Value.int .u8)).toArray[i * 1]? = some (.int .u8 (a.getD i 0)) := by simp [hi, List.getD_eq_getElem?_getD]
    have hv' : (b.map (Value.int .u8)).toArray[i * 1]? = some (.int .u8 (b.getD i 0)) := by simp [hi', List.getD_eq_getElem?_getD]
    have hp : (part 5 (a.map (Value.int .u8)).toArray (i * 1)).run Try.prog w = .ok (.int .u8 (a.getD i 0)) w := by
      unfold part
      rw [Sem.run_bind, Try.agg5 w]
      simp only [Result.andThen_ok, hv]
      rfl
    have hp' : (part 5 (b.map (Value.int .u8)).toArray (i * 1)).run Try.prog w = .ok (.int .u8 (b.getD i 0)) w := by
      unfold part
      rw [Sem.run_bind, Try.agg5 w]
      simp only [Result.andThen_ok, hv']
      rfl
    have he := run_equalIn_int (P := Try.prog) w d 5 .u8 .u8 (a.getD i 0) (b.getD i 0) Try.underlying5
    rw [Op.eqItems]
    simp only [Sem.run_bind, hp, hp', Result.andThen_ok, he, List.all_cons]
    cases hq : a.getD i 0 == b.getD i 0
    · simp
    · simp only [Bool.not_true, Bool.false_eq_true, if_false, Bool.true_and]
      exact items_eq d 1 rfl a b w is (fun j hj => h j (by simp [hj])) (fun j hj => h' j (by simp [hj]))
theorem all_eq (a b : List Int) (ha : a.length = 32) (hb : b.length = 32) : ((List.range 32).all fun i => a.getD i 0 == b.getD i 0) = decide (a = b) := by
  by_cases h : a = b
  · subst h; simp
  · rw [decide_eq_false h, ← Bool.not_eq_true, List.all_eq_true]
    intro hall
    apply h
    apply List.ext_getElem (by omega)
    intro i h1 h2
    have := hall i (List.mem_range.2 (by omega))
    simpa [List.getD_eq_getElem?_getD, h1, h2] using this
theorem sums_at (d : Nat) (a b : List Int) (ha : a.length = 32) (hb : b.length = 32) (w : World) :
    (Op.equalIn (d + 2) 23 (.agg (a.map (Value.int .u8)).toArray) (.agg (b.map (Value.int .u8)).toArray)).run Try.prog w = .ok (decide (a = b)) w := by
  cases hq : Try.prog.info? 5 with
  | none => have := Try.info_u8; rw [hq] at this; cases this
  | some i =>
    rw [run_equalIn_array w _ _ _ Try.underlying23 hq, ← all_eq a b ha hb]
    exact items_eq d _ (by kernel_rfl) a b w _ (fun j hj => by rw [ha]; exact List.mem_range.1 hj) (fun j hj => by rw [hb]; exact List.mem_range.1 hj)
theorem a32_eq (a b : List Int) (ha : a.length = 32) (hb : b.length = 32) (w : World) : (Op.equalIn 10000 23 (A32 a) (A32 b)).run Try.prog w = .ok (decide (a = b)) w := sums_at 9998 a b ha hb w
theorem Try.fieldsRef : (Try.prog.fieldsOf 25).toList.map (fun f => (f.name, f.type, f.offset)) = [("At", 3, 0), ("Sum", 23, 1)] := by kernel_rfl
theorem Try.cellsSum : Try.prog.cellsOf 23 = 32 := by kernel_rfl
theorem agg_sum (w : World) : (isAgg 23).run Try.prog w = .ok true w := by
  unfold isAgg
  rw [Sem.run_bind, run_underlying Try.underlying23 w]
  rfl
theorem agg_int (w : World) : (isAgg 3).run Try.prog w = .ok false w := by
  unfold isAgg
  rw [Sem.run_bind, run_underlying Try.underlying3 w]
  rfl
theorem part_sum (r : Int × List Int) (h : r.2.length = 32) (w : World) : (part 23 (Value.int .i64 r.1 :: r.2.map (Value.int .u8)).toArray 1).run Try.prog w = .ok (A32 r.2) w := by
  obtain ⟨i, hi⟩ := info_of_underlying Try.underlying23
  unfold part
  rw [Sem.run_bind, agg_sum]
  simp only [Result.andThen_ok, if_true, Sem.run_bind, run_sizeOf w hi, Try.cellsSum, Sem.run_pure]
  unfold A32
  congr 2
  apply Array.ext'
  simp only [Array.toList_extract, List.extract_eq_take_drop, Nat.add_sub_cancel_left, List.drop_succ_cons, List.drop_zero]
  exact List.take_of_length_le (by simp [h])
theorem part_at (r : Int × List Int) (w : World) : (part 3 (Value.int .i64 r.1 :: r.2.map (Value.int .u8)).toArray 0).run Try.prog w = .ok (.int .i64 r.1) w := by
  unfold part
  rw [Sem.run_bind, agg_int]
  rfl
theorem ref_fields (fs : List Field) (hf : fs.map (fun f => (f.name, f.type, f.offset)) = [("At", 3, 0), ("Sum", 23, 1)]) (r s : Int × List Int) (hr : r.2.length = 32) (hs : s.2.length = 32) (w : World) :
    (Op.eqFields 9999 (Value.int .i64 r.1 :: r.2.map (Value.int .u8)).toArray (Value.int .i64 s.1 :: s.2.map (Value.int .u8)).toArray fs).run Try.prog w = .ok (decide (r = s)) w := by
  rcases fs with _ | ⟨f1, _ | ⟨f2, _ | ⟨f3, q⟩⟩⟩
  · simp at hf
  · simp at hf
  · simp only [List.map_cons, List.map_nil, List.cons.injEq, Prod.mk.injEq, and_true] at hf
    obtain ⟨⟨n1, t1, o1⟩, n2, t2, o2⟩ := hf
    have he := run_equalIn_int (P := Try.prog) w 9998 3 .i64 .i64 r.1 s.1 Try.underlying3
    have he2 := sums_at 9997 r.2 s.2 hr hs w
    have p1 := part_at r w
    have p2 := part_at s w
    have p3 := part_sum r hr w
    have p4 := part_sum s hs w
    unfold A32 at p3 p4
    have hA : ("At" : String) ≠ "_" := by decide
    have hS : ("Sum" : String) ≠ "_" := by decide
    rw [Op.eqFields, n1, t1, o1, if_pos hA, Sem.run_bind, p1, Result.andThen_ok, Sem.run_bind, p2, Result.andThen_ok, Sem.run_bind, he, Result.andThen_ok]
    by_cases h1 : r.1 = s.1
    · rw [if_neg (by simp [h1]), Op.eqFields, n2, t2, o2, if_pos hS, Sem.run_bind, p3, Result.andThen_ok, Sem.run_bind, p4, Result.andThen_ok, Sem.run_bind, he2, Result.andThen_ok]
      by_cases h2 : r.2 = s.2
      · rw [if_neg (by simp [h2]), Op.eqFields, decide_eq_true (Prod.ext h1 h2)]
        rfl
      · rw [if_pos (by simp [h2]), decide_eq_false (fun e => h2 (by rw [e]))]
        rfl
    · rw [if_pos (by simp [h1]), decide_eq_false (fun e => h1 (by rw [e]))]
      rfl
  · simp at hf
theorem r33_eqs (r s : Int × List Int) (hr : r.2.length = 32) (hs : s.2.length = 32) (w : World) : (Op.equalIn 10000 25 (R33 r) (R33 s)).run Try.prog w = .ok (decide (r = s)) w := by
  unfold R33
  rw [show (10000 : Nat) = 9999 + 1 from rfl, run_equalIn_struct w _ _ _ _ Try.underlying25 Try.stoodInHeld25]
  exact ref_fields _ Try.fieldsRef r s hr hs w
end Go.Proofs.Ytgfnpofoedambaa

/-
  Nodes as values: their cells; held against one another.
-/
import Derived.Test.YtgfnpofoedambaaPgA
namespace Go.Proofs.Ytgfnpofoedambaa
open Go.RowKit

/-- A ref's cells, a node's cells; a node, as a value. -/
def cl (r : Pg.Rf) : List Value := Value.int .i64 r.1 :: r.2.map (Value.int .u8)
def cs (R : List Pg.Rf) : List Value := (R.map cl).flatten
def PV (R : List Pg.Rf) : Value := .agg (cs R).toArray
theorem cl_len {r : Pg.Rf} (h : Pg.Ok r) : (cl r).length = 33 := by unfold cl; rw [List.length_cons, List.length_map, h.1]
theorem cl_one (r : Pg.Rf) : ∀ v ∈ cl r, v.oneCell' = true := fun v hv => by
  unfold cl at hv
  rw [List.mem_cons] at hv
  rcases hv with rfl | hv
  · rfl
  · exact bytes_one _ v hv
theorem cs_lenN : ∀ R : List Pg.Rf, (∀ r ∈ R, Pg.Ok r) → (cs R).length = 33 * R.length
  | [], _ => rfl
  | r :: R, h => by
    have ih := cs_lenN R (fun x hx => h x (by simp [hx]))
    unfold cs at ih ⊢
    rw [List.map_cons, List.flatten_cons, List.length_append, cl_len (h r (by simp)), ih, List.length_cons]
    omega
theorem cs_len {R : List Pg.Rf} (h : Pg.OkA R) : (cs R).length = 264 := by rw [cs_lenN R h.2, h.1]
theorem cs_one (R : List Pg.Rf) : ∀ v ∈ cs R, v.oneCell' = true := fun v hv => by
  unfold cs at hv
  rw [List.mem_flatten] at hv
  obtain ⟨l, hl, hv⟩ := hv
  rw [List.mem_map] at hl
  obtain ⟨r, _, rfl⟩ := hl
  exact cl_one r v hv
theorem cs_cons (r : Pg.Rf) (R : List Pg.Rf) : cs (r :: R) = cl r ++ cs R := by unfold cs; rw [List.map_cons, List.flatten_cons]
theorem cs_append (R S : List Pg.Rf) : cs (R ++ S) = cs R ++ cs S := by unfold cs; rw [List.map_append, List.flatten_append]
theorem cs_parts {R : List Pg.Rf} (k : Nat) (hk : k < R.length) : cs R = cs (R.take k) ++ (cl (R.getD k Pg.zr) ++ cs (R.drop (k + 1))) := by
  have e : R = R.take k ++ (R.getD k Pg.zr :: R.drop (k + 1)) := by
    rw [List.getD_eq_getElem?_getD, List.getElem?_eq_getElem hk]
    show R = R.take k ++ (R[k] :: R.drop (k + 1))
    rw [← List.drop_eq_getElem_cons hk, List.take_append_drop]
  conv => lhs; rw [e]
  rw [cs_append, cs_cons]
theorem cs_sub {R : List Pg.Rf} (h : ∀ r ∈ R, Pg.Ok r) (k : Nat) (hk : k < R.length) : ((cs R).drop (33 * k)).take 33 = cl (R.getD k Pg.zr) := by
  have hl : (cs (R.take k)).length = 33 * k := by rw [cs_lenN _ (fun r hr => h r (List.mem_of_mem_take hr)), List.length_take, Nat.min_eq_left (by omega)]
  have hc : (cl (R.getD k Pg.zr)).length = 33 := by
    rw [List.getD_eq_getElem?_getD, List.getElem?_eq_getElem hk]
    exact cl_len (h _ (List.getElem_mem hk))
  rw [cs_parts k hk, List.drop_append_of_le_length (by omega), List.drop_of_length_le (by omega), List.nil_append, List.take_append_of_le_length (by omega), List.take_of_length_le (by omega)]
theorem cs_at {R : List Pg.Rf} (h : ∀ r ∈ R, Pg.Ok r) (k : Nat) (hk : k < R.length) : ∀ j v, (cl (R.getD k Pg.zr))[j]? = some v → (cs R)[33 * k + j]? = some v := fun j v hv => by
  rw [← cs_sub h k hk, List.getElem?_take, List.getElem?_drop] at hv
  split at hv
  · exact hv
  · cases hv
theorem cs_set {R : List Pg.Rf} (h : ∀ r ∈ R, Pg.Ok r) (k : Nat) (hk : k < R.length) (r : Pg.Rf) : (cs R).take (33 * k) ++ cl r ++ (cs R).drop (33 * k + 33) = cs (R.set k r) := by
  have hl : (cs (R.take k)).length = 33 * k := by rw [cs_lenN _ (fun r hr => h r (List.mem_of_mem_take hr)), List.length_take, Nat.min_eq_left (by omega)]
  have hc : (cl (R.getD k Pg.zr)).length = 33 := by
    rw [List.getD_eq_getElem?_getD, List.getElem?_eq_getElem hk]
    exact cl_len (h _ (List.getElem_mem hk))
  have e1 : (cs R).take (33 * k) = cs (R.take k) := by
    rw [cs_parts k hk, List.take_append_of_le_length (by omega), List.take_of_length_le (by omega)]
  have e2 : (cs R).drop (33 * k + 33) = cs (R.drop (k + 1)) := by
    rw [cs_parts k hk, ← List.append_assoc, List.drop_append_of_le_length (by rw [List.length_append]; omega), List.drop_of_length_le (by rw [List.length_append]; omega), List.nil_append]
  rw [e1, e2, List.set_eq_take_append_cons_drop, if_pos hk, cs_append, cs_cons, List.append_assoc]
theorem cs_ext {R S : List Pg.Rf} : ∀ k, R.take k = S.take k → R.getD k Pg.zr = S.getD k Pg.zr → k < R.length → k < S.length → R.take (k + 1) = S.take (k + 1) := fun k h1 h2 hR hS => by
  have e : ∀ T : List Pg.Rf, k < T.length → T.take (k + 1) = T.take k ++ [T.getD k Pg.zr] := fun T hT => by
    rw [List.take_add_one, List.getElem?_eq_getElem hT, List.getD_eq_getElem?_getD, List.getElem?_eq_getElem hT]; rfl
  rw [e R hR, e S hS, h1, h2]

theorem Try.zeroPage : (Try.prog.info? 28).map (fun i => (i.zero, i.size)) = some (some (.agg (cs Pg.zp).toArray), 264) := by kernel_rfl
theorem Try.builtPage : Try.prog.built 28 [] = some (cs Pg.zp).toArray := by kernel_rfl
theorem Try.builtRef : Try.prog.built 25 [] = some (cl Pg.zr).toArray := by kernel_rfl
theorem Try.builtRefs : Try.prog.built 26 [] = some (cs Pg.zp).toArray := by kernel_rfl
theorem Try.sizePage : (Try.prog.info? 28).map (·.size) = some 264 := by kernel_rfl
theorem Try.sizeRefs : (Try.prog.info? 26).map (·.size) = some 264 := by kernel_rfl
theorem Try.fieldsPage : (Try.prog.fieldsOf 28).toList.map (fun f => (f.name, f.type, f.offset)) = [("Refs", 26, 0)] := by kernel_rfl
theorem Try.cellsRef : Try.prog.cellsOf 25 = 33 := by kernel_rfl
theorem Try.cellsRefs : Try.prog.cellsOf 26 = 264 := by kernel_rfl

/-! ### equality -/
theorem ref_fieldsd (d : Nat) (fs : List Field) (hf : fs.map (fun f => (f.name, f.type, f.offset)) = [("At", 3, 0), ("Sum", 23, 1)]) (r s : Int × List Int) (hr : r.2.length = 32) (hs : s.2.length = 32) (w : World) :
    (Op.eqFields (d + 2) (cl r).toArray (cl s).toArray fs).run Try.prog w = .ok (decide (r = s)) w := by
  unfold cl
  rcases fs with _ | ⟨f1, _ | ⟨f2, _ | ⟨f3, q⟩⟩⟩
  · simp at hf
  · simp at hf
  · simp only [List.map_cons, List.map_nil, List.cons.injEq, Prod.mk.injEq, and_true] at hf
    obtain ⟨⟨n1, t1, o1⟩, n2, t2, o2⟩ := hf
    have he := run_equalIn_int (P := Try.prog) w (d + 1) 3 .i64 .i64 r.1 s.1 Try.underlying3
    have he2 := sums_at d r.2 s.2 hr hs w
    have p1 := part_at r w
    have p2 := part_at s w
    have p3 := part_sum r hr w
    have p4 := part_sum s hs w
    unfold A32 at p3 p4
    have hA : ("At" : String) ≠ "_" := by decide
    have hS : ("Sum" : String) ≠ "_" := by decide
    rw [Op.eqFields, n1, t1, o1, if_pos hA, Sem.run_bind, p1, Result.andThen_ok, Sem.run_bind, p2, Result.andThen_ok, Sem.run_bind, he, Result.andThen_ok]
    by_cases h1 : r.1 = s.1
    · rw [if_neg (by simp [h1]), Op.eqFields, n2, t2, o2, if_pos hS, Sem.run_bind, p3, Result.andThen_ok, Sem.run_bind, p4, Result.andThen_ok, Sem.run_bind, he2, Result.andThen_ok]
      by_cases h2 : r.2 = s.2
      · rw [if_neg (by simp [h2]), Op.eqFields, decide_eq_true (Prod.ext h1 h2)]
        rfl
      · rw [if_pos (by simp [h2]), decide_eq_false (fun e => h2 (by rw [e]))]
        rfl
    · rw [if_pos (by simp [h1]), decide_eq_false (fun e => h1 (by rw [e]))]
      rfl
  · simp at hf
theorem refs_at (d : Nat) (r s : Pg.Rf) (hr : Pg.Ok r) (hs : Pg.Ok s) (w : World) : (Op.equalIn (d + 3) 25 (.agg (cl r).toArray) (.agg (cl s).toArray)).run Try.prog w = .ok (decide (r = s)) w := by
  rw [show d + 3 = (d + 2) + 1 from rfl, run_equalIn_struct w _ _ _ _ Try.underlying25 Try.stoodInHeld25]
  exact ref_fieldsd d _ Try.fieldsRef r s hr.1 hs.1 w
theorem agg_ref (w : World) : (isAgg 25).run Try.prog w = .ok true w := by
  unfold isAgg
  rw [Sem.run_bind, run_underlying Try.underlying25 w]
  rfl
theorem agg_refs (w : World) : (isAgg 26).run Try.prog w = .ok true w := by
  unfold isAgg
  rw [Sem.run_bind, run_underlying Try.underlying26 w]
  rfl
theorem part_ref {R : List Pg.Rf} (h : ∀ r ∈ R, Pg.Ok r) (k : Nat) (hk : k < R.length) (w : World) : (part 25 (cs R).toArray (k * 33)).run Try.prog w = .ok (.agg (cl (R.getD k Pg.zr)).toArray) w := by
  obtain ⟨i, hi⟩ := info_of_underlying Try.underlying25
  unfold part
  rw [Sem.run_bind, agg_ref]
  simp only [Result.andThen_ok, if_true, Sem.run_bind, run_sizeOf w hi, Try.cellsRef, Sem.run_pure]
  congr 2
  apply Array.ext'
  simp only [Array.toList_extract, List.extract_eq_take_drop, Nat.add_sub_cancel_left]
  rw [← cs_sub h k hk, Nat.mul_comm]
theorem items8 (d : Nat) (c : Nat) (hc : c = 33) (R S : List Pg.Rf) (hR : Pg.OkA R) (hS : Pg.OkA S) (w : World) : ∀ is : List Nat, (∀ i ∈ is, i < 8) →
    (Op.eqItems (d + 3) 25 c (cs R).toArray (cs S).toArray is).run Try.prog w = .ok (is.all fun i => decide (R.getD i Pg.zr = S.getD i Pg.zr)) w
  | [], _ => by simp [Op.eqItems]
  | i :: is, h => by
    subst hc
    have hi := h i (by simp)
    have hp := part_ref hR.2 i (by rw [hR.1]; exact hi) w
    have hp' := part_ref hS.2 i (by rw [hS.1]; exact hi) w
    have he := refs_at d (R.getD i Pg.zr) (S.getD i Pg.zr) (Pg.ok_at hR i) (Pg.ok_at hS i) w
    rw [Op.eqItems]
    simp only [Sem.run_bind, hp, hp', Result.andThen_ok, he, List.all_cons]
    cases hq : decide (R.getD i Pg.zr = S.getD i Pg.zr)
    · simp
    · simp only [Bool.not_true, Bool.false_eq_true, if_false, Bool.true_and]
      exact items8 d 33 rfl R S hR hS w is (fun j hj => h j (by simp [hj]))
theorem all8 {R S : List Pg.Rf} (hR : Pg.OkA R) (hS : Pg.OkA S) : ((List.range 8).all fun i => decide (R.getD i Pg.zr = S.getD i Pg.zr)) = decide (R = S) := by
  by_cases h : R = S
  · subst h; simp
  · rw [decide_eq_false h, ← Bool.not_eq_true, List.all_eq_true]
    intro hall
    apply h
    apply List.ext_getElem (by rw [hR.1, hS.1])
    intro i h1 h2
    have := hall i (List.mem_range.2 (by rw [hR.1] at h1; exact h1))
    simpa [List.getD_eq_getElem?_getD, h1, h2] using this
theorem arr_at (d : Nat) {R S : List Pg.Rf} (hR : Pg.OkA R) (hS : Pg.OkA S) (w : World) : (Op.equalIn (d + 4) 26 (.agg (cs R).toArray) (.agg (cs S).toArray)).run Try.prog w = .ok (decide (R = S)) w := by
  cases hq : Try.prog.info? 25 with
  | none => have := Try.sizeRef; rw [hq] at this; cases this
  | some i =>
    rw [run_equalIn_array w _ _ _ Try.underlying26 hq, ← all8 hR hS]
    exact items8 d _ (by kernel_rfl) R S hR hS w _ (fun j hj => List.mem_range.1 hj)
theorem part_refs {R : List Pg.Rf} (h : Pg.OkA R) (w : World) : (part 26 (cs R).toArray 0).run Try.prog w = .ok (.agg (cs R).toArray) w := by
  obtain ⟨i, hi⟩ := info_of_underlying Try.underlying26
  unfold part
  rw [Sem.run_bind, agg_refs]
  simp only [Result.andThen_ok, if_true, Sem.run_bind, run_sizeOf w hi, Try.cellsRefs, Sem.run_pure]
  congr 2
  apply Array.ext'
  simp only [Array.toList_extract, List.extract_eq_take_drop, List.drop_zero, Nat.zero_add, Nat.sub_zero]
  exact List.take_of_length_le (by rw [cs_len h]; omega)
theorem page_fields (fs : List Field) (hf : fs.map (fun f => (f.name, f.type, f.offset)) = [("Refs", 26, 0)]) {R S : List Pg.Rf} (hR : Pg.OkA R) (hS : Pg.OkA S) (w : World) :
    (Op.eqFields 9999 (cs R).toArray (cs S).toArray fs).run Try.prog w = .ok (decide (R = S)) w := by
  rcases fs with _ | ⟨f1, _ | ⟨f2, q⟩⟩
  · simp at hf
  · simp only [List.map_cons, List.map_nil, List.cons.injEq, Prod.mk.injEq, and_true] at hf
    obtain ⟨n1, t1, o1⟩ := hf
    have he := arr_at 9995 hR hS w
    have p1 := part_refs hR w
    have p2 := part_refs hS w
    have hA : ("Refs" : String) ≠ "_" := by decide
    rw [Op.eqFields, n1, t1, o1, if_pos hA, Sem.run_bind, p1, Result.andThen_ok, Sem.run_bind, p2, Result.andThen_ok, Sem.run_bind, he, Result.andThen_ok]
    by_cases h1 : R = S
    · rw [if_neg (by simp [h1]), Op.eqFields, decide_eq_true h1]
      rfl
    · rw [if_pos (by simp [h1]), decide_eq_false h1]
      rfl
  · simp at hf
theorem page_eq {R S : List Pg.Rf} (hR : Pg.OkA R) (hS : Pg.OkA S) (w : World) : (Op.equalIn 10000 28 (PV R) (PV S)).run Try.prog w = .ok (decide (R = S)) w := by
  unfold PV
  rw [show (10000 : Nat) = 9999 + 1 from rfl, run_equalIn_struct w _ _ _ _ Try.underlying28 Try.stoodInHeld28]
  exact page_fields _ Try.fieldsPage hR hS w
theorem arr_eq {R S : List Pg.Rf} (hR : Pg.OkA R) (hS : Pg.OkA S) (w : World) : (Op.equalIn 10000 26 (PV R) (PV S)).run Try.prog w = .ok (decide (R = S)) w := arr_at 9996 hR hS w
theorem ref_eq {r s : Pg.Rf} (hr : Pg.Ok r) (hs : Pg.Ok s) (w : World) : (Op.equalIn 10000 25 (R33 r) (R33 s)).run Try.prog w = .ok (decide (r = s)) w := refs_at 9997 r s hr hs w

/-! ### in memory, and opaque -/
theorem pv_agg {R : List Pg.Rf} (h : Pg.OkA R) : ∃ A : Array Value, PV R = .agg A ∧ A.size = 264 ∧ A.all (·.oneCell') = true := ⟨_, rfl, by rw [List.size_toArray, cs_len h], all_oneCell_toArray (cs_one R)⟩
theorem rv_agg {r : Pg.Rf} (h : Pg.Ok r) : ∃ A : Array Value, R33 r = .agg A ∧ A.size = 33 ∧ A.all (·.oneCell') = true := ⟨(cl r).toArray, rfl, by rw [List.size_toArray, cl_len h], all_oneCell_toArray (cl_one r)⟩
/-- A node at block g. -/
def PAt (w : World) (g : Nat) (R : List Pg.Rf) : Prop := w.heap[g]? = some (.cells (cs R).toArray 28 (0, 0))
theorem PAt.lt {w : World} {g : Nat} {R : List Pg.Rf} (h : PAt w g R) : g < w.heap.size := lt_of_block h
theorem PAt.old {w x : World} {g : Nat} {R : List Pg.Rf} (h : PAt w g R) (hb : Below w.heap.size w x) : PAt x g R := (hb.block g (lt_of_block h)).trans h
theorem PAt.only {w x : World} {g k : Nat} {R : List Pg.Rf} (h : PAt w g R) (ho : Only k w x) (hk : g ≠ k) : PAt x g R := (ho.block g (lt_of_block h) hk).trans h
theorem PAt.range {w : World} {g : Nat} {R : List Pg.Rf} (h : PAt w g R) : w.rangeAt g 0 (cs R) := fun j v hv => by
  rw [cell_of_row w g (0 + j) _ _ _ h, Nat.zero_add]
  simpa using hv
theorem PAt.ref {w : World} {g : Nat} {R : List Pg.Rf} (h : PAt w g R) (hR : Pg.OkA R) (k : Nat) (hk : k < 8) : w.rangeAt g (33 * k) (cl (R.getD k Pg.zr)) := fun j v hv => by
  rw [cell_of_row w g (33 * k + j) _ _ _ h]
  have := cs_at hR.2 k (by rw [hR.1]; exact hk) j v hv
  simpa using this
attribute [irreducible] cl cs PV
end Go.Proofs.Ytgfnpofoedambaa

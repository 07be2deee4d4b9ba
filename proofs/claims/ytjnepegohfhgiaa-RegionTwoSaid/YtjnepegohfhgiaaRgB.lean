/-
  Records as values: their cells; held against one another; in memory.
-/
import Derived.Test.YtjnepegohfhgiaaRgA
namespace Go.Proofs.Ytjnepegohfhgiaa
open Go.RowKit

abbrev u8v (l : List Int) : List Value := l.map (Value.int .u8)
/-- A record's cells; a record, a place, as a value. -/
def cv (r : Rg.R) : List Value := [.int .i64 r.gen, .int .i64 r.st, .int .i64 r.ep] ++ (u8v r.su ++ ((Value.int .i64 r.rt.1 :: u8v r.rt.2) ++ ([.int .i64 r.bs, .int .i64 r.bl] ++ ([.int .i64 r.ts, .int .i64 r.tl] ++ (u8v r.b1 ++ u8v r.b2)))))
def RV (r : Rg.R) : Value := .agg (cv r).toArray
abbrev Pv (s l : Int) : Value := .agg #[.int .i64 s, .int .i64 l]
theorem cv_len {r : Rg.R} (h : Rg.Ok r) : (cv r).length = 136 := by
  unfold cv
  simp only [List.length_append, List.length_cons, List.length_nil, List.length_map, h.su.1, h.rt.2.1, h.b1.1, h.b2.1]
theorem cv_one (r : Rg.R) : ∀ v ∈ cv r, v.oneCell' = true := fun v hv => by
  unfold cv at hv
  simp only [List.mem_append, List.mem_cons, List.not_mem_nil, or_false] at hv
  rcases hv with (rfl | rfl | rfl) | hv | (rfl | hv) | (rfl | rfl) | (rfl | rfl) | hv | hv
  · rfl
  · rfl
  · rfl
  · exact bytes_one _ v hv
  · rfl
  · exact bytes_one _ v hv
  · rfl
  · rfl
  · rfl
  · rfl
  · exact bytes_one _ v hv
  · exact bytes_one _ v hv
theorem sub_mid {X Y Z : List Value} {o n : Nat} (hX : X.length = o) (hY : Y.length = n) : ((X ++ (Y ++ Z)).drop o).take n = Y := by
  rw [List.drop_append_of_le_length (by omega), List.drop_of_length_le (by omega), List.nil_append, List.take_append_of_le_length (by omega), List.take_of_length_le (by omega)]
section
variable {r : Rg.R}
theorem sub_su (h : Rg.Ok r) : ((cv r).drop 3).take 32 = u8v r.su := by
  unfold cv
  exact sub_mid rfl (by rw [List.length_map, h.su.1])
theorem sub_rt (h : Rg.Ok r) : ((cv r).drop 35).take 33 = Value.int .i64 r.rt.1 :: u8v r.rt.2 := by
  unfold cv
  rw [← List.append_assoc]
  exact sub_mid (by simp [h.su.1]) (by simp [h.rt.2.1])
theorem sub_bp (h : Rg.Ok r) : ((cv r).drop 68).take 2 = [.int .i64 r.bs, .int .i64 r.bl] := by
  unfold cv
  rw [← List.append_assoc, ← List.append_assoc]
  exact sub_mid (by simp [h.su.1, h.rt.2.1]) rfl
theorem sub_tp (h : Rg.Ok r) : ((cv r).drop 70).take 2 = [.int .i64 r.ts, .int .i64 r.tl] := by
  unfold cv
  rw [← List.append_assoc, ← List.append_assoc, ← List.append_assoc]
  exact sub_mid (by simp [h.su.1, h.rt.2.1]) rfl
theorem sub_b1 (h : Rg.Ok r) : ((cv r).drop 72).take 32 = u8v r.b1 := by
  unfold cv
  rw [← List.append_assoc, ← List.append_assoc, ← List.append_assoc, ← List.append_assoc]
  exact sub_mid (by simp [h.su.1, h.rt.2.1]) (by simp [h.b1.1])
theorem sub_b2 (h : Rg.Ok r) : ((cv r).drop 104).take 32 = u8v r.b2 := by
  unfold cv
  rw [← List.append_assoc, ← List.append_assoc, ← List.append_assoc, ← List.append_assoc, ← List.append_assoc]
  have := sub_mid (X := [Value.int .i64 r.gen, .int .i64 r.st, .int .i64 r.ep] ++ u8v r.su ++ (Value.int .i64 r.rt.1 :: u8v r.rt.2) ++ [.int .i64 r.bs, .int .i64 r.bl] ++ [.int .i64 r.ts, .int .i64 r.tl] ++ u8v r.b1) (Y := u8v r.b2) (Z := []) (o := 104) (n := 32) (by simp [h.su.1, h.rt.2.1, h.b1.1]) (by simp [h.b2.1])
  rw [List.append_nil] at this
  exact this
theorem at_sub {l s : List Value} {o n j : Nat} {v : Value} (h : (l.drop o).take n = s) (hv : s[j]? = some v) : l[o + j]? = some v := by
  rw [← h, List.getElem?_take, List.getElem?_drop] at hv
  split at hv
  · exact hv
  · cases hv
end
theorem Try.sizeRec : (Try.prog.info? 29).map (·.size) = some 136 := by kernel_rfl
theorem Try.sizePl : (Try.prog.info? 27).map (·.size) = some 2 := by kernel_rfl
theorem Try.zeroRec : (Try.prog.info? 29).map (fun i => (i.zero, i.size)) = some (some (.agg (cv Rg.zero).toArray), 136) := by kernel_rfl
theorem Try.builtRec : Try.prog.built 29 [] = some (cv Rg.zero).toArray := by kernel_rfl
theorem Try.builtRef : Try.prog.built 25 [] = some (Value.int .i64 Rg.zr.1 :: u8v Rg.zr.2).toArray := by kernel_rfl
theorem Try.fieldsRec : (Try.prog.fieldsOf 29).toList.map (fun f => (f.name, f.type, f.offset)) = [("Gen", 3, 0), ("Stamp", 3, 1), ("Epoch", 3, 2), ("Super", 23, 3), ("Root", 25, 35), ("Base", 27, 68), ("Tail", 27, 70), ("BaseSum", 23, 72), ("TailSum", 23, 104)] := by kernel_rfl
theorem Try.fieldsPl : (Try.prog.fieldsOf 27).toList.map (fun f => (f.name, f.type, f.offset)) = [("Seg", 3, 0), ("Slot", 3, 1)] := by kernel_rfl
theorem Try.cellsRef : Try.prog.cellsOf 25 = 33 := by kernel_rfl
theorem Try.cellsPl : Try.prog.cellsOf 27 = 2 := by kernel_rfl

/-! ### equality -/
theorem eqf_cons (d : Nat) (A B : Array Value) (f : Field) (fs : List Field) (a b : Value) (q p : Bool) (w : World) (n : String) (t : TypeId) (o : Nat) (hf : (f.name, f.type, f.offset) = (n, t, o)) (hn : n ≠ "_")
    (pa : (part t A o).run Try.prog w = .ok a w) (pb : (part t B o).run Try.prog w = .ok b w) (he : (Op.equalIn d t a b).run Try.prog w = .ok q w) (hr : (Op.eqFields d A B fs).run Try.prog w = .ok p w) :
    (Op.eqFields d A B (f :: fs)).run Try.prog w = .ok (q && p) w := by
  simp only [Prod.mk.injEq] at hf
  obtain ⟨h1, h2, h3⟩ := hf
  rw [Op.eqFields, h1, h2, h3, if_pos hn, Sem.run_bind, pa, Result.andThen_ok, Sem.run_bind, pb, Result.andThen_ok, Sem.run_bind, he, Result.andThen_ok]
  cases q with
  | false => rw [if_pos (by rfl)]; rfl
  | true => rw [if_neg (by decide), hr]; rfl
theorem eqf_nil (d : Nat) (A B : Array Value) (w : World) : (Op.eqFields d A B []).run Try.prog w = .ok true w := by rw [Op.eqFields]; rfl
theorem agg_ref (w : World) : (isAgg 25).run Try.prog w = .ok true w := by
  unfold isAgg
  rw [Sem.run_bind, run_underlying Try.underlying25 w]
  rfl
theorem agg_pl (w : World) : (isAgg 27).run Try.prog w = .ok true w := by
  unfold isAgg
  rw [Sem.run_bind, run_underlying Try.underlying27 w]
  rfl
theorem part_one {l : List Value} {o : Nat} {k : Int} (h : l[o]? = some (.int .i64 k)) (w : World) : (part 3 l.toArray o).run Try.prog w = .ok (.int .i64 k) w := by
  have hv : l.toArray[o]? = some (.int .i64 k) := by simpa using h
  unfold part
  rw [Sem.run_bind, agg_int]
  simp only [Result.andThen_ok, hv]
  rfl
set_option maxRecDepth 100000 in
theorem part_many (t : TypeId) (i : TypeInfo) (ti : Try.prog.info? t = some i) (n : Nat) (hn : Try.prog.cellsOf t = n) {l s : List Value} {o : Nat} (hg : ∀ w, (isAgg t).run Try.prog w = .ok true w) (h : (l.drop o).take n = s) (w : World) : (part t l.toArray o).run Try.prog w = .ok (.agg s.toArray) w := by
  unfold part
  rw [Sem.run_bind, hg w]
  simp only [Result.andThen_ok, if_true, Sem.run_bind, run_sizeOf w ti, hn, Sem.run_pure]
  congr 2
  apply Array.ext'
  simp only [Array.toList_extract, List.extract_eq_take_drop, Nat.add_sub_cancel_left]
  exact h
theorem part_sumo {l s : List Value} {o : Nat} (h : (l.drop o).take 32 = s) (w : World) : (part 23 l.toArray o).run Try.prog w = .ok (.agg s.toArray) w := by
  obtain ⟨i, hi⟩ := info_of_underlying Try.underlying23
  exact part_many _ i hi 32 Try.cellsSum agg_sum h w
theorem part_refo {l s : List Value} {o : Nat} (h : (l.drop o).take 33 = s) (w : World) : (part 25 l.toArray o).run Try.prog w = .ok (.agg s.toArray) w := by
  obtain ⟨i, hi⟩ := info_of_underlying Try.underlying25
  exact part_many _ i hi 33 Try.cellsRef agg_ref h w
theorem part_plo {l s : List Value} {o : Nat} (h : (l.drop o).take 2 = s) (w : World) : (part 27 l.toArray o).run Try.prog w = .ok (.agg s.toArray) w := by
  obtain ⟨i, hi⟩ := info_of_underlying Try.underlying27
  exact part_many _ i hi 2 Try.cellsPl agg_pl h w
set_option maxRecDepth 100000 in
theorem int_eqd (d : Nat) (a b : Int) (w : World) : (Op.equalIn (d + 1) 3 (.int .i64 a) (.int .i64 b)).run Try.prog w = .ok (decide (a = b)) w := by
  have h := run_equalIn_int (P := Try.prog) w d 3 .i64 .i64 a b Try.underlying3
  rw [h]
  congr 1
set_option maxRecDepth 100000 in
theorem refs_at (d : Nat) (r s : Int × List Int) (hr : r.2.length = 32) (hs : s.2.length = 32) (w : World) : (Op.equalIn (d + 3) 25 (.agg (Value.int .i64 r.1 :: u8v r.2).toArray) (.agg (Value.int .i64 s.1 :: u8v s.2).toArray)).run Try.prog w = .ok (decide (r = s)) w := by
  rw [show d + 3 = (d + 2) + 1 from rfl, run_equalIn_struct w _ _ _ _ Try.underlying25 Try.stoodInHeld25]
  have hf := Try.fieldsRef
  revert hf
  generalize (Try.prog.fieldsOf 25).toList = fs
  intro hf
  rcases fs with _ | ⟨f1, _ | ⟨f2, _ | ⟨f3, q⟩⟩⟩
  · simp at hf
  · simp at hf
  · simp only [List.map_cons, List.map_nil, List.cons.injEq, and_true] at hf
    obtain ⟨h1, h2⟩ := hf
    have p3 := part_sum r hr w
    have p4 := part_sum s hs w
    unfold A32 at p3 p4
    rw [eqf_cons _ _ _ _ _ _ _ _ _ _ _ _ _ h1 (by decide) (part_at r w) (part_at s w) (int_eqd (d + 1) _ _ w) (eqf_cons _ _ _ _ _ _ _ _ _ _ _ _ _ h2 (by decide) p3 p4 (sums_at d r.2 s.2 hr hs w) (eqf_nil _ _ _ w))]
    congr 1
    by_cases e : r = s
    · rw [decide_eq_true e, e]; simp
    · rw [decide_eq_false e, Bool.and_true]
      by_cases e1 : r.1 = s.1
      · rw [decide_eq_false (fun e2 => e (Prod.ext e1 e2)), Bool.and_false]
      · rw [decide_eq_false e1, Bool.false_and]
  · simp at hf
set_option maxRecDepth 100000 in
theorem pls_at (d : Nat) (a b a' b' : Int) (w : World) : (Op.equalIn (d + 2) 27 (Pv a b) (Pv a' b')).run Try.prog w = .ok (decide (a = a') && decide (b = b')) w := by
  rw [show d + 2 = (d + 1) + 1 from rfl, run_equalIn_struct w _ _ _ _ Try.underlying27 Try.stoodInHeld27]
  have hf := Try.fieldsPl
  revert hf
  generalize (Try.prog.fieldsOf 27).toList = fs
  intro hf
  rcases fs with _ | ⟨f1, _ | ⟨f2, _ | ⟨f3, q⟩⟩⟩
  · simp at hf
  · simp at hf
  · simp only [List.map_cons, List.map_nil, List.cons.injEq, and_true] at hf
    obtain ⟨h1, h2⟩ := hf
    rw [eqf_cons _ _ _ _ _ _ _ _ _ _ _ _ _ h1 (by decide) (part_one (l := [.int .i64 a, .int .i64 b]) rfl w) (part_one (l := [.int .i64 a', .int .i64 b']) rfl w) (int_eqd d _ _ w) (eqf_cons _ _ _ _ _ _ _ _ _ _ _ _ _ h2 (by decide) (part_one (l := [.int .i64 a, .int .i64 b]) rfl w) (part_one (l := [.int .i64 a', .int .i64 b']) rfl w) (int_eqd d _ _ w) (eqf_nil _ _ _ w)), Bool.and_true]
  · simp at hf
theorem rec_dec (r s : Rg.R) : (decide (r.gen = s.gen) && (decide (r.st = s.st) && (decide (r.ep = s.ep) && (decide (r.su = s.su) && (decide (r.rt = s.rt) && ((decide (r.bs = s.bs) && decide (r.bl = s.bl)) && ((decide (r.ts = s.ts) && decide (r.tl = s.tl)) && (decide (r.b1 = s.b1) && (decide (r.b2 = s.b2) && true))))))))) = decide (r = s) := by
  obtain ⟨a1, a2, a3, a4, a5, a6, a7, a8, a9, a10, a11⟩ := r
  obtain ⟨c1, c2, c3, c4, c5, c6, c7, c8, c9, c10, c11⟩ := s
  simp only [Rg.R.mk.injEq, Bool.decide_and, Bool.and_true, Bool.and_assoc]
set_option maxRecDepth 100000 in
theorem rec_eq {r s : Rg.R} (hr : Rg.Ok r) (hs : Rg.Ok s) (w : World) : (Op.equalIn 10000 29 (RV r) (RV s)).run Try.prog w = .ok (decide (r = s)) w := by
  unfold RV
  rw [show (10000 : Nat) = 9999 + 1 from rfl, run_equalIn_struct w _ _ _ _ Try.underlying29 Try.stoodInHeld29]
  have hf := Try.fieldsRec
  revert hf
  generalize (Try.prog.fieldsOf 29).toList = fs
  intro hf
  rcases fs with _ | ⟨f1, _ | ⟨f2, _ | ⟨f3, _ | ⟨f4, _ | ⟨f5, _ | ⟨f6, _ | ⟨f7, _ | ⟨f8, _ | ⟨f9, _ | ⟨f10, q⟩⟩⟩⟩⟩⟩⟩⟩⟩⟩
  any_goals (simp at hf; done)
  simp only [List.map_cons, List.map_nil, List.cons.injEq, and_true] at hf
  obtain ⟨h1, h2, h3, h4, h5, h6, h7, h8, h9⟩ := hf
  have e : ∀ (x : Rg.R) (j : Nat) (k : Int), (cv x)[j]? = some (.int .i64 k) → (part 3 (cv x).toArray j).run Try.prog w = .ok (.int .i64 k) w := fun x j k hj => part_one hj w
  rw [eqf_cons _ _ _ _ _ _ _ _ _ _ _ _ _ h1 (by decide) (e r 0 _ rfl) (e s 0 _ rfl) (int_eqd 9998 _ _ w)
    (eqf_cons _ _ _ _ _ _ _ _ _ _ _ _ _ h2 (by decide) (e r 1 _ rfl) (e s 1 _ rfl) (int_eqd 9998 _ _ w)
    (eqf_cons _ _ _ _ _ _ _ _ _ _ _ _ _ h3 (by decide) (e r 2 _ rfl) (e s 2 _ rfl) (int_eqd 9998 _ _ w)
    (eqf_cons _ _ _ _ _ _ _ _ _ _ _ _ _ h4 (by decide) (part_sumo (sub_su hr) w) (part_sumo (sub_su hs) w) (sums_at 9997 _ _ hr.su.1 hs.su.1 w)
    (eqf_cons _ _ _ _ _ _ _ _ _ _ _ _ _ h5 (by decide) (part_refo (sub_rt hr) w) (part_refo (sub_rt hs) w) (refs_at 9996 _ _ hr.rt.2.1 hs.rt.2.1 w)
    (eqf_cons _ _ _ _ _ _ _ _ _ _ _ _ _ h6 (by decide) (part_plo (sub_bp hr) w) (part_plo (sub_bp hs) w) (pls_at 9997 _ _ _ _ w)
    (eqf_cons _ _ _ _ _ _ _ _ _ _ _ _ _ h7 (by decide) (part_plo (sub_tp hr) w) (part_plo (sub_tp hs) w) (pls_at 9997 _ _ _ _ w)
    (eqf_cons _ _ _ _ _ _ _ _ _ _ _ _ _ h8 (by decide) (part_sumo (sub_b1 hr) w) (part_sumo (sub_b1 hs) w) (sums_at 9997 _ _ hr.b1.1 hs.b1.1 w)
    (eqf_cons _ _ _ _ _ _ _ _ _ _ _ _ _ h9 (by decide) (part_sumo (sub_b2 hr) w) (part_sumo (sub_b2 hs) w) (sums_at 9997 _ _ hr.b2.1 hs.b2.1 w) (eqf_nil _ _ _ w)))))))))]
  rw [rec_dec]
theorem ref_eqz {r : Int × List Int} (hr : Rg.OkS r.2) (w : World) : (Op.equalIn 10000 25 (R33 r) (.agg (Value.int .i64 Rg.zr.1 :: u8v Rg.zr.2).toArray)).run Try.prog w = .ok (decide (r = Rg.zr)) w := by
  have h : Rg.zr.2.length = 32 := by unfold Rg.zr; exact Rg.oks_z.1
  unfold R33
  exact refs_at 9997 r Rg.zr hr.1 h w

/-! ### in memory, and opaque -/
/-- A record at block g. -/
def RAt (w : World) (g : Nat) (r : Rg.R) : Prop := w.heap[g]? = some (.cells (cv r).toArray 29 (0, 0))
theorem RAt.lt {w : World} {g : Nat} {r : Rg.R} (h : RAt w g r) : g < w.heap.size := lt_of_block h
theorem RAt.old {w x : World} {g : Nat} {r : Rg.R} (h : RAt w g r) (hb : Below w.heap.size w x) : RAt x g r := (hb.block g (lt_of_block h)).trans h
/-- A record as the calls meet it: an opaque row, and the rows of its parts. -/
structure RcK (r : Rg.R) (A SU RT B1 B2 : Array Value) : Prop where
  size : A.size = 136
  one : A.all (·.oneCell') = true
  ints : ∀ (z : World) (g : Nat) (t : TypeId), z.heap[g]? = some (.cells A t (0, 0)) → z.cell? ⟨g, 0, none⟩ = some (.int .i64 r.gen) ∧ z.cell? ⟨g, 1, none⟩ = some (.int .i64 r.st) ∧ z.cell? ⟨g, 2, none⟩ = some (.int .i64 r.ep) ∧ z.cell? ⟨g, 35, none⟩ = some (.int .i64 r.rt.1) ∧ z.cell? ⟨g, 68, none⟩ = some (.int .i64 r.bs) ∧ z.cell? ⟨g, 69, none⟩ = some (.int .i64 r.bl) ∧ z.cell? ⟨g, 70, none⟩ = some (.int .i64 r.ts) ∧ z.cell? ⟨g, 71, none⟩ = some (.int .i64 r.tl)
  rngs : ∀ (z : World) (g : Nat) (t : TypeId), z.heap[g]? = some (.cells A t (0, 0)) → z.rangeAt g 3 SU.toList ∧ z.rangeAt g 35 RT.toList ∧ z.rangeAt g 72 B1.toList ∧ z.rangeAt g 104 B2.toList
  root : ∀ (z : World) (g : Nat) (t : TypeId), z.heap[g]? = some (.cells A t (0, 0)) → ∀ k, k < 32 → z.cell? ⟨g, 36 + k, none⟩ = some (.int .u8 (r.rt.2.getD k 0))
  sizes : SU.size = 32 ∧ RT.size = 33 ∧ B1.size = 32 ∧ B2.size = 32
  vals : A32 r.su = .agg SU ∧ R33 r.rt = .agg RT ∧ A32 r.b1 = .agg B1 ∧ A32 r.b2 = .agg B2
theorem rck {r : Rg.R} (h : Rg.Ok r) : ∃ A SU RT B1 B2, RV r = .agg A ∧ RcK r A SU RT B1 B2 := by
  refine ⟨(cv r).toArray, (u8v r.su).toArray, (Value.int .i64 r.rt.1 :: u8v r.rt.2).toArray, (u8v r.b1).toArray, (u8v r.b2).toArray, by unfold RV; rfl, by rw [List.size_toArray, cv_len h], all_oneCell_toArray (cv_one r), ?_, ?_, ?_, ?_, ?_⟩
  · intro z g t hz
    have e : ∀ (j : Nat) (v : Value), (cv r)[j]? = some v → z.cell? ⟨g, j, none⟩ = some v := fun j v hj => by
      rw [cell_of_row z g j _ _ _ hz]
      simpa using hj
    exact ⟨e 0 _ rfl, e 1 _ rfl, e 2 _ rfl, e 35 _ (at_sub (j := 0) (sub_rt h) rfl), e 68 _ (at_sub (j := 0) (sub_bp h) rfl), e 69 _ (at_sub (j := 1) (sub_bp h) rfl), e 70 _ (at_sub (j := 0) (sub_tp h) rfl), e 71 _ (at_sub (j := 1) (sub_tp h) rfl)⟩
  · intro z g t hz
    have e : ∀ (o n : Nat) (s : List Value), ((cv r).drop o).take n = s → z.rangeAt g o s.toArray.toList := fun o n s hs j v hj => by
      rw [cell_of_row z g (o + j) _ _ _ hz]
      simpa using at_sub hs hj
    exact ⟨e 3 32 _ (sub_su h), e 35 33 _ (sub_rt h), e 72 32 _ (sub_b1 h), e 104 32 _ (sub_b2 h)⟩
  · intro z g t hz k hk
    rw [cell_of_row z g (36 + k) _ _ _ hz]
    have h2 : (Value.int .i64 r.rt.1 :: u8v r.rt.2)[1 + k]? = some (.int .u8 (r.rt.2.getD k 0)) := by
      rw [Nat.add_comm 1 k, List.getElem?_cons_succ, List.getElem?_map, List.getD_eq_getElem?_getD, List.getElem?_eq_getElem (by rw [h.rt.2.1]; exact hk)]
      rfl
    have h3 := at_sub (sub_rt h) h2
    rw [show 35 + (1 + k) = 36 + k by omega] at h3
    simpa using h3
  · exact ⟨by rw [List.size_toArray, List.length_map, h.su.1], by rw [List.size_toArray, List.length_cons, List.length_map, h.rt.2.1], by rw [List.size_toArray, List.length_map, h.b1.1], by rw [List.size_toArray, List.length_map, h.b2.1]⟩
  · unfold A32 R33
    exact ⟨rfl, rfl, rfl, rfl⟩
attribute [irreducible] cv RV
end Go.Proofs.Ytjnepegohfhgiaa

/-
  Entries and summaries as values: built, held against one another.
-/
import Derived.Test.YtkgefogkdmbciaaBaA
import Derived.Test.YtkgefogkdmbciaaPaE2
namespace Go.Proofs.Ytkgefogkdmbciaa
open Go.RowKit

theorem Try.sizeEn : (Try.prog.info? 50).map (·.size) = some 35 := by kernel_rfl
theorem Try.sizeSm : (Try.prog.info? 26).map (·.size) = some 35 := by kernel_rfl
/-- An entry, a summary, as values. -/
def EnA (x : Bt.En) : Array Value := (Bt.cells x).toArray
def SmC (t : Int) (P : List Int) (n : Int) (v : Value) : List Value := .int .i64 t :: (P.map (Value.int .u8) ++ [.int .i64 n, v])
def SmA (t : Int) (P : List Int) (n : Int) (v : Value) : Array Value := (SmC t P n v).toArray
theorem enA_size {x : Bt.En} (h : x.ok) : (EnA x).size = 35 := by unfold EnA; rw [List.size_toArray, Bt.cells_len h]
theorem cells_one (x : Bt.En) : ∀ v ∈ Bt.cells x, v.oneCell' = true := by
  intro v hv
  unfold Bt.cells at hv
  rw [List.mem_cons, List.mem_cons, List.mem_cons] at hv
  rcases hv with rfl | rfl | rfl | hv
  · rfl
  · rfl
  · rfl
  · exact bytes_one _ v hv
theorem enA_one (x : Bt.En) : (EnA x).all (·.oneCell') = true := all_oneCell_toArray (cells_one x)
theorem smA_size (t : Int) {P : List Int} (n : Int) (v : Value) (hP : P.length = 32) : (SmA t P n v).size = 35 := by simp [SmA, SmC, hP]
theorem smA_one (t : Int) (P : List Int) (n : Int) (q : Option Addr) (m c : Nat) : (SmA t P n (.slice q m c)).all (·.oneCell') = true := all_oneCell_toArray (fun v hv => by
  unfold SmC at hv
  rw [List.mem_cons, List.mem_append] at hv
  rcases hv with rfl | hv | hv
  · rfl
  · exact bytes_one _ v hv
  · simp at hv
    rcases hv with rfl | rfl <;> rfl)
/-! built -/
theorem fill_step (place : Nat → Option (Nat × Nat)) (i : Nat) (v : Value) (off size : Nat) (Z : Array Value) (rest : List (Nat × Value)) (h : place i = some (off, size)) (hs : v.cells.size = size) (hz : off + size ≤ Z.size) :
    Instr.fill place Z ((i, v) :: rest) = Instr.fill place (Z.toList.take off ++ v.cells.toList ++ Z.toList.drop (off + size)).toArray rest := by
  have h1 := fill_off off v.cells.toList 0 Z (by simpa [hs] using hz)
  conv => lhs; unfold Instr.fill
  rw [h]
  dsimp only
  split
  · rename_i hh
    simp [hs] at hh
    omega
  · congr 1
    show Array.foldl (fun (cs : Array Value) (x : Value × Nat) => cs.setIfInBounds (off + x.2) x.1) Z v.cells.zipIdx = _
    rw [← Array.foldl_toList, Array.toList_zipIdx, h1]
    simp [hs]
def ZEn : List Value := .int .i64 0 :: .int .i64 0 :: .int .i64 0 :: List.replicate 32 (.int .u8 0)
def ZSm : List Value := .int .i64 0 :: (List.replicate 32 (.int .u8 0) ++ [.int .i64 0, .slice none 0 0])
theorem Try.zeroEn : (Try.prog.info? 50).map (fun i => (i.zero, i.size)) = some (some (.agg ZEn.toArray), 35) := by kernel_rfl
theorem Try.zeroSm : (Try.prog.info? 26).map (fun i => (i.zero, i.size)) = some (some (.agg ZSm.toArray), 35) := by kernel_rfl
theorem Try.placesEn : (match Try.prog.underlying 50 with
    | some (.struct fields) => fields.toList.mapM (fun f => (Try.prog.info? f.type).map fun i => (f.offset, i.size))
    | _ => none) = some [(0, 1), (1, 1), (2, 1), (3, 32)] := by kernel_rfl
theorem Try.placesSm : (match Try.prog.underlying 26 with
    | some (.struct fields) => fields.toList.mapM (fun f => (Try.prog.info? f.type).map fun i => (f.offset, i.size))
    | _ => none) = some [(0, 1), (1, 32), (33, 1), (34, 1)] := by kernel_rfl
theorem built_of {ty : TypeId} {Z : Array Value} {n : Nat} {ps : List (Nat × Nat)} (hz : (Try.prog.info? ty).map (fun i => (i.zero, i.size)) = some (some (.agg Z), n)) (hp : (match Try.prog.underlying ty with
    | some (.struct fields) => fields.toList.mapM (fun f => (Try.prog.info? f.type).map fun i => (f.offset, i.size))
    | _ => none) = some ps) (parts : List (Nat × Value)) : Try.prog.built ty parts = Instr.fill (ps.toArray[·]?) Z parts := by
  unfold Program.built
  cases hi : Try.prog.info? ty with
  | none => rw [hi] at hz; cases hz
  | some i =>
    rw [hi] at hz
    simp only [Option.map_some, Option.some.injEq, Prod.mk.injEq] at hz
    cases hu : Try.prog.underlying ty with
    | none => rw [hu] at hp; cases hp
    | some d =>
      rw [hu] at hp
      cases d <;> try (exact absurd hp (fun h => by cases h))
      case struct fields =>
        dsimp only at hp ⊢
        rw [hz.1, hp]
        rfl
def kE (k : Int) : List Value := .int .i64 k :: .int .i64 0 :: .int .i64 0 :: List.replicate 32 (.int .u8 0)
theorem build_k (k : Int) : Try.prog.built 50 [(0, .int .i64 k)] = some (kE k).toArray := by
  rw [built_of Try.zeroEn Try.placesEn, fill_step _ 0 _ 0 1 _ _ rfl rfl (by simp [ZEn])]
  rfl
theorem build_en (x : Bt.En) (h : x.ok) : Try.prog.built 50 [(0, .int .i64 x.k), (1, .int .i64 x.b), (2, .int .i64 x.s), (3, A32 x.u)] = some (EnA x) := by
  rw [built_of Try.zeroEn Try.placesEn, fill_step _ 0 _ 0 1 _ _ rfl rfl (by simp [ZEn]), fill_step _ 1 _ 1 1 _ _ rfl rfl (by simp [ZEn]), fill_step _ 2 _ 2 1 _ _ rfl rfl (by simp [ZEn, Value.cells]), fill_step _ 3 _ 3 32 _ _ rfl (by simp [A32, Value.cells, h.2.2.2.1]) (by simp [ZEn, Value.cells])]
  unfold Instr.fill EnA Bt.cells
  simp [ZEn, A32, Value.cells]
theorem build_en0 : Try.prog.built 50 [] = some ZEn.toArray := by
  rw [built_of Try.zeroEn Try.placesEn]
  rfl
theorem zen_eq : ZEn.toArray = EnA Bt.en0 := by
  unfold EnA Bt.cells Bt.en0 Bt.Z ZEn
  simp
theorem build_sm (t n : Int) (P : List Int) (hP : P.length = 32) : Try.prog.built 26 [(0, .int .i64 t), (1, A32 P), (2, .int .i64 n)] = some (SmA t P n (.slice none 0 0)) := by
  rw [built_of Try.zeroSm Try.placesSm, fill_step _ 0 _ 0 1 _ _ rfl rfl (by simp [ZSm]), fill_step _ 1 _ 1 32 _ _ rfl (by simp [A32, Value.cells, hP]) (by simp [ZSm, Value.cells]), fill_step _ 2 _ 33 1 _ _ rfl rfl (by simp [ZSm, A32, Value.cells, hP])]
  unfold Instr.fill SmA SmC
  simp [ZSm, A32, Value.cells, hP, List.drop_append]
theorem build_sm0 : Try.prog.built 26 [] = some ZSm.toArray := by
  rw [built_of Try.zeroSm Try.placesSm]
  rfl
theorem zsm_eq : ZSm.toArray = SmA 0 Bt.Z 0 (.slice none 0 0) := by
  unfold SmA SmC Bt.Z ZSm
  simp
/-! held against one another -/
theorem Try.fieldsEn : (Try.prog.fieldsOf 50).toList.map (fun f => (f.name, f.type, f.offset)) = [("Kind", 3, 0), ("Block", 3, 1), ("Slot", 3, 2), ("Sum", 23, 3)] := by kernel_rfl
theorem part_int {A : Array Value} {i : Nat} {k : Int} (h : A[i]? = some (.int .i64 k)) (w : World) : (part 3 A i).run Try.prog w = .ok (.int .i64 k) w := by
  unfold part
  rw [Sem.run_bind, agg_int]
  simp [h]
theorem part_digest (x : Bt.En) (h : x.ok) (w : World) : (part 23 (EnA x) 3).run Try.prog w = .ok (A32 x.u) w := by
  obtain ⟨i, hi⟩ := info_of_underlying Try.underlying23
  unfold part
  rw [Sem.run_bind, agg_sum]
  simp only [Result.andThen_ok, if_true, Sem.run_bind, run_sizeOf w hi, Try.cellsSum, Sem.run_pure]
  unfold A32 EnA Bt.cells
  congr 2
  apply Array.ext'
  simp only [Array.toList_extract, List.extract_eq_take_drop, Nat.add_sub_cancel_left, List.drop_succ_cons, List.drop_zero]
  exact List.take_of_length_le (by simp [h.2.2.2.1])
instance : DecidableEq Bt.En := fun x y => decidable_of_iff (x.k = y.k ∧ x.b = y.b ∧ x.s = y.s ∧ x.u = y.u) (by
  cases x; cases y; simp)
theorem en_fields (fs : List Field) (hf : fs.map (fun f => (f.name, f.type, f.offset)) = [("Kind", 3, 0), ("Block", 3, 1), ("Slot", 3, 2), ("Sum", 23, 3)]) (x y : Bt.En) (hx : x.ok) (hy : y.ok) (w : World) :
    (Op.eqFields 9999 (EnA x) (EnA y) fs).run Try.prog w = .ok (decide (x = y)) w := by
  rcases fs with _ | ⟨f1, _ | ⟨f2, _ | ⟨f3, _ | ⟨f4, _ | ⟨f5, q⟩⟩⟩⟩⟩
  · simp at hf
  · simp at hf
  · simp at hf
  · simp at hf
  · simp only [List.map_cons, List.map_nil, List.cons.injEq, Prod.mk.injEq, and_true] at hf
    obtain ⟨⟨n1, t1, o1⟩, ⟨n2, t2, o2⟩, ⟨n3, t3, o3⟩, n4, t4, o4⟩ := hf
    have a0 : ∀ z : Bt.En, (EnA z)[0]? = some (.int .i64 z.k) := fun z => by unfold EnA Bt.cells; rfl
    have a1 : ∀ z : Bt.En, (EnA z)[1]? = some (.int .i64 z.b) := fun z => by unfold EnA Bt.cells; rfl
    have a2 : ∀ z : Bt.En, (EnA z)[2]? = some (.int .i64 z.s) := fun z => by unfold EnA Bt.cells; rfl
    have e1 := run_equalIn_int (P := Try.prog) w 9998 3 .i64 .i64 x.k y.k Try.underlying3
    have e2 := run_equalIn_int (P := Try.prog) w 9998 3 .i64 .i64 x.b y.b Try.underlying3
    have e3 := run_equalIn_int (P := Try.prog) w 9998 3 .i64 .i64 x.s y.s Try.underlying3
    have e4 := sums_at 9997 x.u y.u hx.2.2.2.1 hy.2.2.2.1 w
    have p4 := part_digest x hx w
    have p4' := part_digest y hy w
    unfold A32 at p4 p4'
    have h1 : ("Kind" : String) ≠ "_" := by decide
    have h2 : ("Block" : String) ≠ "_" := by decide
    have h3 : ("Slot" : String) ≠ "_" := by decide
    have h4 : ("Sum" : String) ≠ "_" := by decide
    rw [Op.eqFields, n1, t1, o1, if_pos h1, Sem.run_bind, part_int (a0 x), Result.andThen_ok, Sem.run_bind, part_int (a0 y), Result.andThen_ok, Sem.run_bind, e1, Result.andThen_ok]
    by_cases c1 : x.k = y.k
    · rw [if_neg (by simp [c1]), Op.eqFields, n2, t2, o2, if_pos h2, Sem.run_bind, part_int (a1 x), Result.andThen_ok, Sem.run_bind, part_int (a1 y), Result.andThen_ok, Sem.run_bind, e2, Result.andThen_ok]
      by_cases c2 : x.b = y.b
      · rw [if_neg (by simp [c2]), Op.eqFields, n3, t3, o3, if_pos h3, Sem.run_bind, part_int (a2 x), Result.andThen_ok, Sem.run_bind, part_int (a2 y), Result.andThen_ok, Sem.run_bind, e3, Result.andThen_ok]
        by_cases c3 : x.s = y.s
        · rw [if_neg (by simp [c3]), Op.eqFields, n4, t4, o4, if_pos h4, Sem.run_bind, p4, Result.andThen_ok, Sem.run_bind, p4', Result.andThen_ok, Sem.run_bind, e4, Result.andThen_ok]
          by_cases c4 : x.u = y.u
          · rw [if_neg (by simp [c4]), Op.eqFields, decide_eq_true (by cases x; cases y; simp_all)]
            rfl
          · rw [if_pos (by simp [c4]), decide_eq_false (fun e => c4 (by rw [e]))]
            rfl
        · rw [if_pos (by simp [c3]), decide_eq_false (fun e => c3 (by rw [e]))]
          rfl
      · rw [if_pos (by simp [c2]), decide_eq_false (fun e => c2 (by rw [e]))]
        rfl
    · rw [if_pos (by simp [c1]), decide_eq_false (fun e => c1 (by rw [e]))]
      rfl
  · simp at hf
theorem en_eqs (x y : Bt.En) (hx : x.ok) (hy : y.ok) (w : World) : (Op.equalIn 10000 50 (.agg (EnA x)) (.agg (EnA y))).run Try.prog w = .ok (decide (x = y)) w := by
  rw [show (10000 : Nat) = 9999 + 1 from rfl, run_equalIn_struct w _ _ _ _ Try.underlying50 Try.stoodInHeld50]
  exact en_fields _ Try.fieldsEn x y hx hy w
end Go.Proofs.Ytkgefogkdmbciaa

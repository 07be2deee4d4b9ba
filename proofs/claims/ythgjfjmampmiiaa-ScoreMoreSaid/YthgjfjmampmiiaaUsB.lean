/-
  Rows of segments in memory: cells and values, held against one another; a row of them of the call's own: made, read, written, appended to.
-/
import Derived.Test.YthgjfjmampmiiaaUsA
import Derived.Great.BuildSlice
namespace Go.Proofs.Ythgjfjmampmiiaa
open Go.RowKit

def SgC (x : Us.S) : List Value := [.int .i64 x.s, .int .i64 x.l, .int .i64 x.a]
def SgA (x : Us.S) : Array Value := #[.int .i64 x.s, .int .i64 x.l, .int .i64 x.a]
theorem sga_one (x : Us.S) : (SgA x).all (·.oneCell') = true := by simp [SgA, Value.oneCell']
theorem Try.sizeSg : (Try.prog.info? 36).map (·.size) = some 3 := by kernel_rfl
theorem sg_info (x : Us.S) : (Try.prog.info? 36).map (·.size) = some (SgA x).size := Try.sizeSg
theorem Try.infoSg : (Try.prog.info? 36).map (fun i => (i.zero, i.size, i.bytes)) = some (some (.agg (SgA Us.z)), 3, 24) := by kernel_rfl
theorem Try.fieldsSg : (Try.prog.fieldsOf 36).toList.map (fun f => (f.name, f.type, f.offset)) = [("State", 3, 0), ("Live", 3, 1), ("Age", 3, 2)] := by kernel_rfl
theorem build_sg0 : Try.prog.built 36 [(0, .int .i64 0)] = some (SgA Us.z) := by kernel_rfl
theorem build_sgn : Try.prog.built 36 [] = some (SgA Us.z) := by kernel_rfl
theorem build_sg1 (k : Int) : Try.prog.built 36 [(0, .int .i64 k)] = some (SgA ⟨k, 0, 0⟩) := by kernel_rfl
theorem build_sga (k n : Int) : Try.prog.built 36 [(0, .int .i64 k), (2, .int .i64 n)] = some (SgA ⟨k, 0, n⟩) := by kernel_rfl
theorem build_sgl (k l n : Int) : Try.prog.built 36 [(0, .int .i64 k), (1, .int .i64 l), (2, .int .i64 n)] = some (SgA ⟨k, l, n⟩) := by kernel_rfl
set_option maxRecDepth 100000 in
theorem seg_eq (x y : Us.S) (w : World) : (Op.equalIn 10000 36 (.agg (SgA x)) (.agg (SgA y))).run Try.prog w = .ok (decide (x = y)) w := by
  rw [show (10000 : Nat) = 9999 + 1 from rfl, run_equalIn_struct w _ _ _ _ Try.underlying36 Try.stoodInHeld36]
  have hf := Try.fieldsSg
  revert hf
  generalize (Try.prog.fieldsOf 36).toList = fs
  intro hf
  rcases fs with _ | ⟨f1, _ | ⟨f2, _ | ⟨f3, _ | ⟨f4, q⟩⟩⟩⟩
  any_goals (simp at hf; done)
  simp only [List.map_cons, List.map_nil, List.cons.injEq, and_true] at hf
  obtain ⟨h1, h2, h3⟩ := hf
  have e : ∀ (x : Us.S) (j : Nat) (k : Int), ([.int .i64 x.s, .int .i64 x.l, .int .i64 x.a] : List Value)[j]? = some (.int .i64 k) → (part 3 (SgA x) j).run Try.prog w = .ok (.int .i64 k) w := fun x j k hj => part_one hj w
  rw [eqf_cons _ _ _ _ _ _ _ _ _ _ _ _ _ h1 (by decide) (e x 0 _ rfl) (e y 0 _ rfl) (int_eqd 9998 _ _ w)
    (eqf_cons _ _ _ _ _ _ _ _ _ _ _ _ _ h2 (by decide) (e x 1 _ rfl) (e y 1 _ rfl) (int_eqd 9998 _ _ w)
    (eqf_cons _ _ _ _ _ _ _ _ _ _ _ _ _ h3 (by decide) (e x 2 _ rfl) (e y 2 _ rfl) (int_eqd 9998 _ _ w) (eqf_nil _ _ _ w)))]
  congr 1
  obtain ⟨a, b, c⟩ := x
  obtain ⟨a', b', c'⟩ := y
  simp only [Us.S.mk.injEq, Bool.decide_and, Bool.and_true]
namespace Us
/-- The cells of a list of rows. -/
def sc : List S → List Value
  | [] => []
  | x :: r => SgC x ++ sc r
theorem sc_append (A B : List S) : sc (A ++ B) = sc A ++ sc B := by
  induction A with
  | nil => rfl
  | cons x r ih => rw [List.cons_append, sc, sc, ih, List.append_assoc]
theorem sc_len : ∀ (L : List S), (sc L).length = L.length * 3
  | [] => rfl
  | x :: r => by
    rw [sc, List.length_append, sc_len r, List.length_cons]
    show 3 + _ = _
    omega
theorem sc_at : ∀ (L : List S) (i j : Nat), i < L.length → j < 3 → (sc L)[i * 3 + j]? = (SgC (at_ L i))[j]?
  | [], i, j, hi, _ => by simp at hi
  | x :: r, i, j, hi, hj => by
    have hx : (SgC x).length = 3 := rfl
    cases i with
    | zero =>
      rw [sc, Nat.zero_mul, Nat.zero_add, List.getElem?_append_left (by omega)]
      rfl
    | succ i =>
      rw [sc, List.getElem?_append_right (by omega), hx, show (i + 1) * 3 + j - 3 = i * 3 + j by omega, sc_at r i j (by simpa using hi) hj]
      rfl
theorem sc_one (L : List S) : ∀ v ∈ sc L, v.oneCell' = true := by
  induction L with
  | nil => intro v hv; cases hv
  | cons x r ih =>
    intro v hv
    rw [sc, List.mem_append] at hv
    rcases hv with hv | hv
    · unfold SgC at hv
      simp only [List.mem_cons, List.not_mem_nil, or_false] at hv
      rcases hv with rfl | rfl | rfl <;> rfl
    · exact ih v hv
theorem cut_at {L : List S} {k : Nat} (hk : k < L.length) : L = L.take k ++ at_ L k :: L.drop (k + 1) := by
  unfold at_
  rw [List.getD_eq_getElem?_getD, List.getElem?_eq_getElem hk]
  simp
theorem sc_put {L : List S} (k : Nat) (hk : k < L.length) (y : S) : (sc L).take (k * 3) ++ SgC y ++ (sc L).drop (k * 3 + 3) = sc (L.set k y) := by
  have l1 : (sc (L.take k)).length = k * 3 := by rw [sc_len, List.length_take]; congr 1; omega
  have hx : (SgC (at_ L k)).length = 3 := rfl
  have e2 : sc L = sc (L.take k) ++ (SgC (at_ L k) ++ sc (L.drop (k + 1))) := by
    conv => lhs; rw [cut_at hk]
    rw [sc_append, sc]
  have e3 : L.set k y = L.take k ++ y :: L.drop (k + 1) := by
    rw [List.set_eq_take_append_cons_drop, if_pos hk]
  rw [e3, sc_append, sc, e2, List.take_left' l1, show k * 3 + 3 = (sc (L.take k)).length + (SgC (at_ L k)).length by omega, ← List.drop_drop, List.drop_left, List.drop_left, List.append_assoc]
theorem sc_set {L : List S} (k j : Nat) (hk : k < L.length) (hj : j < 3) (u : Value) (y : S) (he : (SgC (at_ L k)).set j u = SgC y) : (sc L).set (k * 3 + j) u = sc (L.set k y) := by
  have l1 : (sc (L.take k)).length = k * 3 := by rw [sc_len, List.length_take]; congr 1; omega
  have hx : (SgC (at_ L k)).length = 3 := rfl
  have e2 : sc L = sc (L.take k) ++ (SgC (at_ L k) ++ sc (L.drop (k + 1))) := by
    conv => lhs; rw [cut_at hk]
    rw [sc_append, sc]
  have e3 : L.set k y = L.take k ++ y :: L.drop (k + 1) := by
    rw [List.set_eq_take_append_cons_drop, if_pos hk]
  rw [e3, sc_append, sc, e2, List.set_append_right _ _ (by omega), l1, Nat.add_sub_cancel_left, List.set_append_left _ _ (by omega), he]
end Us
theorem made_sg (c : Nat) : madeCells (SgA Us.z) (c * 3) = (Us.sc (List.replicate c Us.z)).toArray := by
  apply Array.ext
  · rw [size_madeCells, List.size_toArray, Us.sc_len, List.length_replicate]
  · intro i h1 h2
    rw [size_madeCells] at h1
    have hi : i = i / 3 * 3 + i % 3 := by omega
    have h3 := Us.sc_at (List.replicate c Us.z) (i / 3) (i % 3) (by rw [List.length_replicate]; omega) (by omega)
    rw [← hi, Us.at_rep] at h3
    unfold madeCells
    rw [List.getElem_toArray]
    have h5 : (SgA Us.z)[i % (SgA Us.z).size]! = (Us.sc (List.replicate c Us.z))[i] := by
      have e1 : (SgA Us.z).size = 3 := rfl
      rw [e1, getElem!_def]
      have e2 : (SgA Us.z)[i % 3]? = (SgC Us.z)[i % 3]? := by unfold SgA SgC; rw [List.getElem?_toArray]
      rw [e2, ← h3, List.getElem?_eq_getElem (by simpa using h2)]
    have h6 : (Array.map (fun x => (SgA Us.z)[x % (SgA Us.z).size]!) (Array.range (c * 3)))[i]'(by simpa using h1) = (SgA Us.z)[i % (SgA Us.z).size]! := by
      rw [Array.getElem_map, Array.getElem_range]
    exact h6.trans h5
/-- A row of segments of the call's own. -/
def SgO (B : Nat) (y : World) (v : Value) (L : List Us.S) : Prop := y.ownsRow B 36 3 v L.length (Us.sc L)
theorem sgo_nil (B : Nat) (y : World) : SgO B y (.slice none 0 0) [] := World.ownsRow_nil _ _ _ _
section
variable {B : Nat} {w y : World} {v : Value} {L : List Us.S}
theorem SgO.old (h : SgO B w v L) (hb : Below w.heap.size w y) : SgO B y v L := own_keepX h hb
theorem SgO.only {k : Nat} (h : SgO B w v L) (ho : Only k w y) (hk : v.ownBlock ≠ some k) : SgO B y v L := by
  refine ⟨h.1, ?_⟩
  rcases h.2 with h' | ⟨g, cap, cur, rfl, q0, q1, q2⟩
  · exact Or.inl h'
  · exact Or.inr ⟨g, cap, cur, rfl, q0, (ho.block g (lt_of_block q1) (fun e => hk (by rw [← e]; rfl))).trans q1, q2⟩
theorem SgO.mono {A : Nat} (h : SgO B y v L) (hA : A ≤ B) : SgO A y v L := by
  refine ⟨h.1, ?_⟩
  rcases h.2 with h' | ⟨g, cap, cur, hv, q0, q1⟩
  · exact Or.inl h'
  · exact Or.inr ⟨g, cap, cur, hv, Nat.le_trans hA q0, q1⟩
theorem SgO.len (h : SgO B y v L) : ∃ p c, v = .slice p L.length c := by
  rcases h.2 with ⟨h2, h3⟩ | ⟨g, cap, cur, h2, _⟩
  · exact ⟨none, 0, by rw [h2, h3]⟩
  · exact ⟨_, cap, h2⟩
/-- Its block, where it has one. -/
theorem SgO.isb (h : SgO B y v L) (i : Nat) (hi : i < L.length) : ∃ g c, v = .slice (some ⟨g, 0, none⟩) L.length c := by
  rcases h.2 with ⟨_, h3⟩ | ⟨g, cap, cur, h2, _⟩
  · omega
  · exact ⟨g, cap, h2⟩
theorem SgO.blk (h : SgO B y v L) {g : Nat} (hg : v.ownBlock = some g) : B ≤ g ∧ ∃ cur, y.heap[g]? = some (.cells cur 36 (0, 0)) := by
  rcases h.2 with ⟨rfl, _⟩ | ⟨g', cap, cur, rfl, q0, q1, _⟩
  · cases hg
  · injection hg with hg
    subst hg
    exact ⟨q0, cur, q1⟩
theorem SgO.rng {g c n : Nat} (h : SgO B y (.slice (some ⟨g, 0, none⟩) n c) L) (i : Nat) (hi : i < L.length) : y.rangeAt g (i * 3) (SgA (Us.at_ L i)).toList := by
  rcases h.2 with ⟨h2, _⟩ | ⟨g', cap, cur, h2, hb, hg, hn, hm, hs, ht⟩
  · cases h2
  · injection h2 with h2 _ _
    injection h2 with h2
    injection h2 with h2
    subst h2
    intro j u hu
    have hj : j < 3 := (List.getElem?_eq_some_iff.1 hu).1
    have e1 := Us.sc_at L i j hi hj
    rw [← ht, List.getElem?_take, if_pos (by omega)] at e1
    rw [cell_of_row y g _ _ _ _ hg]
    have e2 : (SgC (Us.at_ L i))[j]? = some u := hu
    rw [e2] at e1
    simpa using e1
theorem SgO.cells {g c n : Nat} (h : SgO B y (.slice (some ⟨g, 0, none⟩) n c) L) (i : Nat) (hi : i < L.length) :
    y.cell? ⟨g, i * 3, none⟩ = some (.int .i64 (Us.at_ L i).s) ∧ y.cell? ⟨g, i * 3 + 1, none⟩ = some (.int .i64 (Us.at_ L i).l) ∧ y.cell? ⟨g, i * 3 + 2, none⟩ = some (.int .i64 (Us.at_ L i).a) :=
  ⟨h.rng i hi 0 _ rfl, h.rng i hi 1 _ rfl, h.rng i hi 2 _ rfl⟩
theorem SgO.frozen {g c n : Nat} (h : SgO B y (.slice (some ⟨g, 0, none⟩) n c) L) (j : Nat) : y.frozen? ⟨g, j, none⟩ = false := by
  obtain ⟨_, cur, hc⟩ := h.blk (g := g) rfl
  exact frozen_of_row y g j _ _ hc
/-- A cell of one is written. -/
theorem SgO.setc {g c n : Nat} (h : SgO B y (.slice (some ⟨g, 0, none⟩) n c) L) (k j : Nat) (hk : k < L.length) (hj : j < 3) (u : Value) (x : Us.S) (he : (SgC (Us.at_ L k)).set j u = SgC x) :
    SgO B (y.setCell ⟨g, k * 3 + j, none⟩ u) (.slice (some ⟨g, 0, none⟩) n c) (L.set k x) := by
  obtain ⟨h1, h2⟩ := h
  show World.ownsRow _ _ _ _ _ _ _
  rw [List.length_set, ← Us.sc_set k j hk hj u x he]
  rcases h2 with ⟨h3, _⟩ | ⟨g', cap, cur, h3, q0, hg, hn, hx, hs, ht⟩
  · cases h3
  · have h3' := h3
    injection h3 with h3 _ h4
    injection h3 with h3
    injection h3 with h3
    subst h3
    refine ⟨by rw [List.length_set]; exact h1, Or.inr ⟨g, cap, cur.setIfInBounds (k * 3 + j) u, h3', q0, heap_setCell_same y g _ _ _ _ hg, hn, hx, by rw [Array.size_setIfInBounds]; exact hs, ?_⟩⟩
    rw [Array.toList_setIfInBounds, List.take_set, ht]
end
section
variable {ops : Array Oper} {rest : List Oper} {a : Act} {w : World} {Q : Exit → Act → World → Prop} {D : Option Tmp} {T : TypeId} {ps : String} {af : Array Edge}
theorem make_sg (x y : Operand) (l : Nat) (hx : a.eval x = .int .i64 (l : Int)) (hy : a.eval y = .int .i64 (l : Int)) (hl : l ≤ 1000000)
    (h : ∀ w', Hid (SgO w.heap.size w' (.slice (some ⟨w.heap.size, 0, none⟩) l l) (List.replicate l Us.z)) → Hid (Below w.heap.size w w') → Hid (w'.heap.size = w.heap.size + 1) → wpList Try.prog ops Q rest (a.put D (.slice (some ⟨w.heap.size, 0, none⟩) l l)) w') :
    wpList Try.prog ops Q ({ dst := D, op := .makeSlice 25 x y, type := T, pos := ps, after := af, guard := none } :: rest) a w :=
  wpList_plain rfl fun K hK => by
    obtain ⟨i, hi1, hi2, hi3, hi4⟩ := info_parts Try.infoSg
    have hrun := run_make (P := Try.prog) w 25 36 i _ Try.underlying25 hi1 hi2 .i64 .i64 l l (by omega) (by omega) (by rw [hi4]; omega) (by omega)
    rw [hi3] at hrun
    have e : madeCells (Value.agg (SgA Us.z)).cells (l * 3) = (Us.sc (List.replicate l Us.z)).toArray := made_sg l
    rw [Int.toNat_natCast, e] at hrun
    unfold Oper.wp execOp
    simp only [hx, hy, hrun, Sem.run_bind, Sem.run_pure, Result.andThen_ok]
    refine hK _ _ (h _ ?_ ((Below.refl _ w).alloc (Nat.le_refl _) _) (by show _ = _; simp))
    show World.ownsRow _ _ _ _ _ _ _
    rw [List.length_replicate]
    exact ⟨by rw [Us.sc_len, List.length_replicate], Or.inr ⟨w.heap.size, l, _, rfl, Nat.le_refl _, heap_alloc_new w _, Nat.le_refl _, by unfold maxLen; omega, by rw [List.size_toArray, Us.sc_len, List.length_replicate], by rw [List.take_of_length_le (by rw [Us.sc_len, List.length_replicate]; exact Nat.le_refl _)]⟩⟩
theorem mid_store_op {K : Act → World → Prop} {gd : Option (Nat × Bool)} (ty : TypeId) (x y : Operand) (g o : Nat) (t : TypeId) (old cells : Array Value) (hx : a.eval x = .pointer (some ⟨g, o, none⟩)) (hy : a.eval y = .agg cells) (hg : w.heap[g]? = some (.cells old t (0, 0)))
    (hi : (Try.prog.info? ty).map (·.size) = some cells.size) (hs : o + cells.size ≤ old.size) (h1 : cells.all (·.oneCell') = true)
    (h : ∀ w', Hid (w'.heap[g]? = some (.cells (old.toList.take o ++ cells.toList ++ old.toList.drop (o + cells.size)).toArray t (0, 0))) → Chg g w w' → K a w') :
    Oper.wp Try.prog { dst := none, op := .store ty x y, type := T, pos := ps, after := af, guard := gd } a w K Q := by
  have hst := run_storeCells_at Try.prog g o t cells.toList 0 old w hg (by simpa using hs) (fun v hv => (Array.all_eq_true_iff_forall_mem.1 h1) v (by simpa using hv))
  have hsv : (storeVar ty ⟨g, o, none⟩ (.agg cells)).run Try.prog w = .ok () (w.setRow g (old.toList.take o ++ cells.toList ++ old.toList.drop (o + cells.size)).toArray) := by
    cases hq : Try.prog.info? ty with
    | none => simp [hq] at hi
    | some i =>
      have hs : cells.size = i.size := by simp [hq] at hi; omega
      simp only [Nat.add_zero, Array.length_toList] at hst
      simp [storeVar, sizeOf, typeInfo, hq, Value.cells, hs] at hst ⊢
      rw [hst]
  unfold Oper.wp execOp
  simp only [hx, hy, Instr.storeAt, Instr.sureAddr, Sem.run_bind, Sem.run_pure, Result.andThen_ok, hsv]
  exact h _ (setRow_heap w g old _ t (0, 0) hg) (Chg.setRow w g _)
theorem st_sg_op {K : Act → World → Prop} {gd : Option (Nat × Bool)} (x y : Operand) (B g n c k o : Nat) (ho : o = k * 3) (L : List Us.S) (e : Us.S) (hk : k < L.length) (hx : a.eval x = .pointer (some ⟨g, o, none⟩)) (hy : a.eval y = .agg (SgA e)) (hg : SgO B w (.slice (some ⟨g, 0, none⟩) n c) L)
    (h : ∀ w', Hid (SgO B w' (.slice (some ⟨g, 0, none⟩) n c) (L.set k e)) → Hid (Chg g w w') → K a w') :
    Oper.wp Try.prog { dst := none, op := .store 36 x y, type := T, pos := ps, after := af, guard := gd } a w K Q := by
  subst ho
  obtain ⟨h1, h2⟩ := hg
  rcases h2 with ⟨h3, _⟩ | ⟨g', cap, cur, h3, q0, hg, hn, hm, hs, ht⟩
  · cases h3
  · have h3' := h3
    injection h3 with h3 _ h4
    injection h3 with h3
    injection h3 with h3
    subst h3
    have hle : k * 3 + 3 ≤ L.length * 3 := by omega
    refine mid_store_op 36 x y g (k * 3) 36 _ (SgA e) hx hy hg Try.sizeSg (by show _ + 3 ≤ _; rw [hs]; omega) (sga_one e) (fun w' k1 k2 => h w' ?_ k2)
    have hl : (SgA e).size = 3 := rfl
    rw [hl] at k1
    show World.ownsRow _ _ _ _ _ _ _
    rw [List.length_set, ← Us.sc_put k hk e]
    refine ⟨?_, Or.inr ⟨g, cap, _, h3', q0, k1.out, hn, hm, ?_, ?_⟩⟩
    · have e3 : (SgC e).length = 3 := rfl
      rw [List.length_append, List.length_append, List.length_take, List.length_drop, h1, e3]
      omega
    · have e3 : (SgA e).toList.length = 3 := rfl
      rw [List.size_toArray, List.length_append, List.length_append, List.length_take, List.length_drop, e3, Array.length_toList, hs]
      omega
    · have e3 : (SgA e).toList = SgC e := rfl
      have hcl : cur.toList.length = cap * 3 := by rw [Array.length_toList, hs]
      rw [← ht, e3]
      have e5 : (SgC e).length = 3 := rfl
      rw [List.take_take, show min (k * 3) (L.length * 3) = k * 3 by omega, List.take_append, List.take_of_length_le (l := List.take (k * 3) cur.toList ++ SgC e) (by rw [List.length_append, List.length_take, e5]; omega), List.length_append, List.length_take, e5, show min (k * 3) cur.toList.length + 3 = k * 3 + 3 by omega, List.drop_take]
theorem st_sg (x y : Operand) (B g n c k o : Nat) (ho : o = k * 3) (L : List Us.S) (e : Us.S) (hk : k < L.length) (hx : a.eval x = .pointer (some ⟨g, o, none⟩)) (hy : a.eval y = .agg (SgA e)) (hg : SgO B w (.slice (some ⟨g, 0, none⟩) n c) L)
    (h : ∀ w', Hid (SgO B w' (.slice (some ⟨g, 0, none⟩) n c) (L.set k e)) → Hid (Chg g w w') → wpList Try.prog ops Q rest a w') :
    wpList Try.prog ops Q ({ dst := none, op := .store 36 x y, type := T, pos := ps, after := af, guard := none } :: rest) a w :=
  wpList_plain rfl fun _ hK => st_sg_op x y B g n c k o ho L e hk hx hy hg (fun w' h1 h2 => hK _ _ (h w' h1 h2))
theorem run_bsg (w : World) (e : Us.S) :
    (Instr.buildSlice 25 1 #[(0, .agg (SgA e))]).run Try.prog w = .ok (.slice (some ⟨w.heap.size, 0, none⟩) 1 1) (w.alloc (.cells (Us.sc [e]).toArray 36)) := by
  obtain ⟨i, hi1, hi2, hi3, hi4⟩ := info_parts Try.infoSg
  refine run_buildSlice w _ _ 1 _ _ i _ Try.underlying25 hi1 hi2 (by rw [hi3]; omega) (by rw [hi3]; omega) ?_
  rw [hi3]
  have e1 := made_sg 1
  unfold madeCells at e1
  have e2 : (Value.agg (SgA Us.z)).cells = SgA Us.z := rfl
  rw [e2, e1]
  show Instr.fill _ _ [(0, .agg (SgA e))] = _
  rw [fill_step (fun i => some (i * 3, 3)) 0 (.agg (SgA e)) (0 * 3) 3 _ [] rfl rfl (by rw [List.size_toArray, Us.sc_len, List.length_replicate]; omega)]
  rfl
theorem bs_sg (x : Operand) (e : Us.S) (hx : a.eval x = .agg (SgA e)) (h : wpList Try.prog ops Q rest (a.put D (.slice (some ⟨w.heap.size, 0, none⟩) 1 1)) (w.alloc (.cells (Us.sc [e]).toArray 36))) :
    wpList Try.prog ops Q ({ dst := D, op := .buildSlice 25 1 #[(0, x)], type := T, pos := ps, after := af, guard := none } :: rest) a w :=
  wpList_plain rfl fun K hK => by
    have hrun := run_bsg w e
    unfold Oper.wp execOp
    simp only [hx, List.map_toArray, List.map_cons, List.map_nil, hrun, Sem.run_bind, Sem.run_pure, Result.andThen_ok]
    exact hK _ _ h
/-- A row is appended to one of the call's own. -/
theorem app_sg (s xo : Operand) (B : Nat) (v : Value) (L M : List Us.S) (ad : Addr) (m c : Nat) (hs : a.eval s = v) (hx : a.eval xo = .slice (some ad) m c) (hO : SgO B w v L) (hm : M.length = m) (hc : ∀ j u, (Us.sc M)[j]? = some u → w.cell? (ad.add j) = some u) (N : Nat) (hN : L.length = N) (hl : N ≤ 10000) (hml : m ≤ 10000) (hB : B ≤ w.heap.size)
    (h : ∀ q d w', Hid (SgO B w' (.slice q (N + m) d) (L ++ M)) → Hid (w.grownBy w' v.ownBlock) → wpList Try.prog ops Q rest (a.put D (.slice q (N + m) d)) w') :
    wpList Try.prog ops Q ({ dst := D, op := .call { callee := .builtin .append, args := #[s, xo], argTypes := #[25, 25] }, type := T, pos := ps, after := af, guard := none } :: rest) a w :=
  wpList_plain rfl fun R hR => by
    obtain ⟨i0, hi1, hz0, hz1, hz2⟩ := info_parts Try.infoSg
    subst hN
    subst hm
    refine wp_append_own _ s xo 25 rfl B 36 i0 (.agg (SgA Us.z)) 3 24 Try.underlying25 hi1 hz0 hz1 hz2 rfl (by decide) v L.length (Us.sc L) hs hO ad M.length c (Us.sc M) hx (Us.sc_len M)
      hc (Us.sc_one M) (by unfold maxLen; omega) (by omega) hB (fun v' w' ho hg _ => ?_)
    rw [← Us.sc_append] at ho
    have ho' : SgO B w' v' (L ++ M) := by
      show World.ownsRow _ _ _ _ _ _ _
      rw [List.length_append]
      exact ho
    obtain ⟨q, d, rfl⟩ := ho'.len
    rw [List.length_append] at ho' ⊢
    exact hR _ _ (h q d w' ho' hg)
end
end Go.Proofs.Ythgjfjmampmiiaa

/-
  What the texts of this layer share (picked out of elder texts by wip/prunek.py).
-/
import Derived.WalkKit
import Derived.Laws.CopyOwn
import Derived.OwnWalk
import Derived.BigRegion
import Derived.WalkSpells
import Derived.Lib.Hide
import Derived.Deep.MidRow
import Derived.RegionTactic
import Derived.Deep.RegionHeld3
import Derived.OneCell
import Derived.StillTailTactics
import Derived.Laws.MakeOwn
import Derived.Laws.OwnMore
import Derived.BigQuiet
import Derived.Laws.AppendOwnNone
import Derived.OrdersHeld
import Derived.Lib.AppendZeros
import Derived.Laws.Tables
import Derived.Deep.Matrix
import Derived.RangeFuncNested
import Derived.RangeFuncBound
import Derived.RangeFuncCalls
import Derived.RangeFuncLeaves
import Derived.Shelf.Abstract
import Derived.Shelf.RegionOpen
import Derived.OwnWalkIn
import Derived.TacticsInMore
import Derived.LoopNIn
import Derived.LoopIn
import Derived.WalkLawsBesides
import Derived.Deep.QuietTactic
import Derived.Deep.WholeRow
import Derived.Deep.Cut
import Derived.StillTail
import Derived.Laws.StructEq
import Derived.ChangeKeysEq
import Derived.Laws.Closers25b
import Derived.OrdersIn
import Derived.OpenShut
import Derived.Deep.Slices
import Derived.RangeFuncWrites
import Derived.Laws.EntriesVeiled
import Derived.Deep.RegionLawGrows
import Derived.Deep.CutRange
import Derived.Deep.RegionLaw
import Derived.ArgAppend
import Derived.Lib.SlBytesConst
import Derived.Laws.Cover3
import Derived.Maps.OwnSet
import Derived.Laws.IdiomMaps
import Derived.DeepKeys4
import Derived.Laws.IdiomStrings
import Derived.Lib.BufferRead
import Derived.Maps.RangeWalk
import Derived.ChangeSame
import Derived.ChangeVars
import Derived.ChangeSlices
import Derived.JoinedOf
import Derived.JoinedAt
import Derived.RowKit
import Derived.RowKitTokens
import Derived.ProofKit
import Derived.SizedLaws
import Derived.Carry
import Derived.ChangeArms
import Derived.Test.YthgjfjmampmiiaaChecked
namespace Go.Proofs.Ythgjfjmampmiiaa
open Go.ChangeShapes Go.WideShapes Go.RowKit
namespace Sha
def Byt (l : List Int) : Prop := ∀ x ∈ l, 0 ≤ x ∧ x ≤ 255
theorem byt_append {l m : List Int} (h : Byt l) (k : Byt m) : Byt (l ++ m) := fun x hx => (List.mem_append.1 hx).elim (h x) (k x)
end Sha
theorem Try.info_u8 : (Try.prog.info? 5).map (fun i => (i.zero, i.size, i.bytes)) = some (some (.int .u8 0), 1, 1) := by kernel_rfl
/-- Behind an append of one element onto a row of the call's own. -/
theorem below_own {B : Nat} {w wr w1 : World} {v : Value} {n : Nat} {xs : List Value} {o : Obj} {e : TypeId} (hB : Below B w wr) (hs : B ≤ wr.heap.size) (hown : wr.ownsRow B e 1 v n xs) (hg : (wr.alloc o).grownBy w1 v.ownBlock) : Below B w w1 :=
  (hB.alloc hs o).grown hg (by simp; omega) (fun j hj => (hown.lt j hj).1)
/-- What has been put together so far. -/
def U8s (l : List Int) : List Value := l.map (Value.int .u8)
theorem U8s_snoc (l : List Int) (x : Int) : U8s l ++ [.int .u8 x] = U8s (l ++ [x]) := by simp [U8s]
theorem u8_cell (w : World) (x : Int) (e : TypeId) : ∀ j u, [Value.int .u8 x][j]? = some u → (w.alloc (.cells #[.int .u8 x] e)).cell? (Addr.add ⟨w.heap.size, 0, none⟩ j) = some u := by
  intro j u hj
  match j, hj with
  | 0, hj => simp at hj; subst hj; simp [Addr.add]
theorem u8_one (x : Int) : ∀ u ∈ [Value.int .u8 x], u.oneCell' = true := by
  intro u hu; simp at hu; subst hu; rfl
theorem take_snoc (L : List Int) (k : Nat) (hk : k < L.length) : L.take k ++ [L.getD k 0] = L.take (k + 1) := by
  rw [List.take_add_one, List.getElem?_eq_getElem hk, List.getD_eq_getElem?_getD, List.getElem?_eq_getElem hk]; rfl
/-- What turns block g alone. -/
structure Chg (g : Nat) (w w' : World) : Prop where
  os : w'.os = w.os
  tape : w'.tape = w.tape
  output : w'.output = w.output
  size : w'.heap.size = w.heap.size
  block : ∀ k, k ≠ g → w'.heap[k]? = w.heap[k]?
theorem Chg.setRow (w : World) (g : Nat) (cs : Array Value) : Chg g w (w.setRow g cs) := ⟨rfl, rfl, rfl, by simp, fun k hk => setRow_other w g k cs hk⟩
theorem Chg.setCell (w : World) (a : Addr) (v : Value) : Chg a.block w (w.setCell a v) := ⟨rfl, rfl, rfl, by simp, fun k hk => heap_setCell_other w a k v hk⟩
theorem Chg.drew {g : Nat} {w w' : World} (h : Chg g w w') : Chg g w w'.drew := ⟨h.os, h.tape, h.output, h.size, h.block⟩
theorem Chg.below {g B : Nat} {w0 w w' : World} (h : Chg g w w') (hb : Below B w0 w) (hg : B ≤ g) : Below B w0 w' :=
  hb.trans ⟨h.os, h.tape, h.output, by rw [h.size]; exact Nat.le_refl _, fun k hk => h.block k (by omega)⟩
section
variable {P : Program} {ops : Array Oper} {rest : List Oper} {a : Act} {w : World} {Q : Exit → Act → World → Prop} {D : Option Tmp} {T : TypeId} {ps : String} {af : Array Edge}
/-- A whole row out of a block that is known whole. -/
theorem row_load (ty : TypeId) (x : Operand) (g : Nat) (t : TypeId) (cs : Array Value) (fr : Nat × Nat) (d : TypeDesc) (hx : a.eval x = .pointer (some ⟨g, 0, none⟩)) (hg : w.heap[g]? = some (.cells cs t fr))
    (hu : P.underlying ty = some d) (hd : d.isRow = true) (hi : (P.info? ty).map (·.size) = some cs.size)
    (h : wpList P ops Q rest (a.put D (.agg cs)) w) : wpList P ops Q ({ dst := D, op := .load ty x, type := T, pos := ps, after := af, guard := none } :: rest) a w :=
  wpList_load_mid rfl ty x rfl g 0 hx cs.toList d (fun j v hv => by rw [cell_of_row w g (0 + j) cs t fr hg]; simpa using hv) hu hd (by simpa using hi) (by simpa using h)
/-- A part of a block that is known whole. -/
theorem mid_load (ty : TypeId) (x : Operand) (g o : Nat) (t : TypeId) (C : Array Value) (cs : List Value) (fr : Nat × Nat) (d : TypeDesc) (hx : a.eval x = .pointer (some ⟨g, o, none⟩)) (hg : w.heap[g]? = some (.cells C t fr))
    (hc : ∀ j v, cs[j]? = some v → C[o + j]? = some v) (hu : P.underlying ty = some d) (hd : d.isRow = true) (hi : (P.info? ty).map (·.size) = some cs.length)
    (h : wpList P ops Q rest (a.put D (.agg cs.toArray)) w) : wpList P ops Q ({ dst := D, op := .load ty x, type := T, pos := ps, after := af, guard := none } :: rest) a w :=
  wpList_load_mid rfl ty x rfl g o hx cs d (fun j v hv => by rw [cell_of_row w g (o + j) C t fr hg]; exact hc j v hv) hu hd hi h
/-- A row into a block that is known whole, from place o on. -/
theorem mid_store (ty : TypeId) (x y : Operand) (g o : Nat) (t : TypeId) (old cells : Array Value) (hx : a.eval x = .pointer (some ⟨g, o, none⟩)) (hy : a.eval y = .agg cells) (hg : w.heap[g]? = some (.cells old t (0, 0)))
    (hi : (P.info? ty).map (·.size) = some cells.size) (hs : o + cells.size ≤ old.size) (h1 : cells.all (·.oneCell') = true)
    (h : ∀ w', Hid (w'.heap[g]? = some (.cells (old.toList.take o ++ cells.toList ++ old.toList.drop (o + cells.size)).toArray t (0, 0))) → Chg g w w' → wpList P ops Q rest a w') :
    wpList P ops Q ({ dst := none, op := .store ty x y, type := T, pos := ps, after := af, guard := none } :: rest) a w :=
  wpList_plain rfl fun _ hK => by
    have hst := run_storeCells_at P g o t cells.toList 0 old w hg (by simpa using hs) (fun v hv => (Array.all_eq_true_iff_forall_mem.1 h1) v (by simpa using hv))
    have hsv : (storeVar ty ⟨g, o, none⟩ (.agg cells)).run P w = .ok () (w.setRow g (old.toList.take o ++ cells.toList ++ old.toList.drop (o + cells.size)).toArray) := by
      cases hq : P.info? ty with
      | none => simp [hq] at hi
      | some i =>
        have hs : cells.size = i.size := by simp [hq] at hi; omega
        simp only [Nat.add_zero, Array.length_toList] at hst
        simp [storeVar, sizeOf, typeInfo, hq, Value.cells, hs] at hst ⊢
        rw [hst]
    unfold Oper.wp execOp
    simp only [hx, hy, Instr.storeAt, Instr.sureAddr, Sem.run_bind, Sem.run_pure, Result.andThen_ok, hsv]
    exact hK _ _ (h _ (setRow_heap w g old _ t (0, 0) hg) (Chg.setRow w g _))
/-- A whole row into a block that is known whole. -/
theorem row_store (ty : TypeId) (x y : Operand) (g : Nat) (t : TypeId) (old cells : Array Value) (hx : a.eval x = .pointer (some ⟨g, 0, none⟩)) (hy : a.eval y = .agg cells) (hg : w.heap[g]? = some (.cells old t (0, 0)))
    (hi : (P.info? ty).map (·.size) = some cells.size) (hs : cells.size = old.size) (h1 : cells.all (·.oneCell') = true)
    (h : ∀ w', Hid (w'.heap[g]? = some (.cells cells t (0, 0))) → Chg g w w' → wpList P ops Q rest a w') :
    wpList P ops Q ({ dst := none, op := .store ty x y, type := T, pos := ps, after := af, guard := none } :: rest) a w :=
  mid_store ty x y g 0 t old cells hx hy hg hi (by omega) h1 (fun w' h1' h2' => h w' (show _ = _ by have := h1'.out; rw [this, hs]; congr 2; apply Array.ext'; simp) h2')
end
/-- Of what was there only block g may have turned. -/
structure Only (g : Nat) (w w' : World) : Prop where
  os : w'.os = w.os
  tape : w'.tape = w.tape
  output : w'.output = w.output
  size : w.heap.size ≤ w'.heap.size
  block : ∀ k, k < w.heap.size → k ≠ g → w'.heap[k]? = w.heap[k]?
theorem Only.refl (g : Nat) (w : World) : Only g w w := ⟨rfl, rfl, rfl, Nat.le_refl _, fun _ _ _ => rfl⟩
theorem Only.trans {g : Nat} {a b c : World} (h : Only g a b) (k : Only g b c) : Only g a c :=
  ⟨k.os.trans h.os, k.tape.trans h.tape, k.output.trans h.output, Nat.le_trans h.size k.size, fun i hi hg => (k.block i (Nat.lt_of_lt_of_le hi h.size) hg).trans (h.block i hi hg)⟩
theorem Only.drew {g : Nat} {w w' : World} (h : Only g w w') : Only g w w'.drew := ⟨h.os, h.tape, h.output, h.size, h.block⟩
theorem Chg.only {g : Nat} {w w' : World} (h : Chg g w w') : Only g w w' := ⟨h.os, h.tape, h.output, by rw [h.size]; exact Nat.le_refl _, fun k _ hk => h.block k hk⟩
theorem Only.alloc {g : Nat} {w w' : World} (h : Only g w w') (o : Obj) : Only g w (w'.alloc o) :=
  h.trans ⟨rfl, rfl, rfl, by simp, fun k hk _ => heap_alloc_old w' o hk⟩
/-- Where g is new, nothing that was there has turned. -/
theorem Only.below {g B : Nat} {w0 w w' : World} (h : Only g w w') (hb : Below B w0 w) (hg : B ≤ g) (hB : B ≤ w.heap.size) : Below B w0 w' :=
  hb.trans ⟨h.os, h.tape, h.output, h.size, fun k hk => h.block k (by omega) (by omega)⟩
theorem Only.cell {g : Nat} {w w' : World} (h : Only g w w') {b o : Nat} {v : Value} (hb : b ≠ g) (hc : w.cell? ⟨b, o, none⟩ = some v) : w'.cell? ⟨b, o, none⟩ = some v := by
  rw [World.cell?_of_block (h.block b (World.block_lt_of_cell? w _ hc) hb)]; exact hc
theorem Chg.trans {g : Nat} {a b c : World} (h : Chg g a b) (k : Chg g b c) : Chg g a c :=
  ⟨k.os.trans h.os, k.tape.trans h.tape, k.output.trans h.output, k.size.trans h.size, fun i hi => (k.block i hi).trans (h.block i hi)⟩
theorem Chg.refl (g : Nat) (w : World) : Chg g w w := ⟨rfl, rfl, rfl, rfl, fun _ _ => rfl⟩
theorem Chg.setCells (g : Nat) : ∀ (vs : List Value) (o : Nat) (w : World), Chg g w (w.setCells g o vs)
  | [], _, w => Chg.refl g w
  | v :: r, o, w => (Chg.setCell w ⟨g, o, none⟩ v).trans (Chg.setCells g r (o + 1) _)
theorem heap_setCells (g : Nat) (t : TypeId) : ∀ (vs : List Value) (o : Nat) (cur : List Value) (w : World), w.heap[g]? = some (.cells cur.toArray t (0, 0)) → o + vs.length ≤ cur.length →
    (w.setCells g o vs).heap[g]? = some (.cells (splice cur o vs).toArray t (0, 0))
  | [], o, cur, w, hg, _ => by simpa [World.setCells, splice] using hg
  | v :: r, o, cur, w, hg, hl => by
    have h1 := heap_setCell_same w g o cur.toArray t v hg
    have e : cur.toArray.setIfInBounds o v = (cur.set o v).toArray := by apply Array.ext'; simp
    rw [e] at h1
    have := heap_setCells g t r (o + 1) (cur.set o v) _ h1 (by simp at hl ⊢; omega)
    rw [World.setCells, this]
    have q := list_seg_step cur o v r (by simp at hl; omega)
    simp only [splice, List.length_cons]
    rw [← List.append_assoc, q]
    simp
section
variable {P : Program} {md : Region.Mode} {ops : Array Oper} {Q : Exit → Act → World → Prop} {fuel : Nat} {listed : Array Bool} {a : Act} {w : World}
theorem any_one (i : Nat) (hr : Region.ready md ops listed = [i]) (h : wpOp P ops Q i (wpAny P md ops Q fuel (listed.setIfInBounds i true)) a w) : wpAny P md ops Q (fuel + 1) listed a w :=
  wpAny_all hr (by simp) (fun j hj => by simp at hj; subst hj; exact h)
theorem any_two (i j : Nat) (hr : Region.ready md ops listed = [i, j]) (h : wpOp P ops Q i (wpAny P md ops Q fuel (listed.setIfInBounds i true)) a w)
    (h2 : wpOp P ops Q j (wpAny P md ops Q fuel (listed.setIfInBounds j true)) a w) : wpAny P md ops Q (fuel + 1) listed a w :=
  wpAny_all hr (by simp) (fun k hk => by simp at hk; rcases hk with rfl | rfl <;> assumption)
theorem any_take (i D : Nat) (v : Value) {op : Op} {T : TypeId} {ps : String} {af : Array Edge} (ho : ops[i]? = some { dst := some D, op := op, type := T, pos := ps, after := af, guard := none })
    (hs : Region.noSelect ops = true) (hf : Region.free md ops listed i = true) (hr : (Region.ready md ops listed).contains i = true)
    (hQ : ∀ c a w, Q (.panic c) (a.put (some D) v) w → Q (.panic c) a w) (hy : ∀ w, (execOp a.eval { dst := some D, op := op, type := T, pos := ps, after := af, guard := none }).run P w = .ok (.value v) w)
    (h : wpAny P md ops Q fuel (listed.setIfInBounds i true) (a.put (some D) v) w) : wpAny P md ops Q (fuel + 1) listed a w :=
  wpAny_take (oi := { dst := some D, op := op, type := T, pos := ps, after := af, guard := none }) ho hs hf hr hQ (Or.inl ⟨rfl, hy⟩) h
theorem op_plain {K : Act → World → Prop} (i : Nat) (o : Oper) (ho : ops[i]? = some o) (hg : o.guard = none) (h : Oper.wp P o a w K Q) : wpOp P ops Q i K a w := by
  unfold wpOp
  rw [ho]
  simp only [Region.wanted, hg, if_true]
  exact Or.inl h
theorem op_load {K : Act → World → Prop} (i : Nat) (ty : TypeId) (x : Operand) {D : Option Tmp} {T : TypeId} {ps : String} {af : Array Edge} (ho : ops[i]? = some { dst := D, op := .load ty x, type := T, pos := ps, after := af, guard := none })
    (b o : Nat) (cs : List Value) (d : TypeDesc) (hx : a.eval x = .pointer (some ⟨b, o, none⟩)) (hc : w.rangeAt b o cs)
    (hu : P.underlying ty = some d) (hd : d.isRow = true) (hi : (P.info? ty).map (·.size) = some cs.length) (h : K (a.put D (.agg cs.toArray)) w) : wpOp P ops Q i K a w :=
  op_plain i _ ho rfl (wp_load_mid ty x rfl b o hx cs d hc hu hd hi h)
theorem op_store {K : Act → World → Prop} (i : Nat) (ty : TypeId) (x y : Operand) {T : TypeId} {ps : String} {af : Array Edge} (ho : ops[i]? = some { dst := none, op := .store ty x y, type := T, pos := ps, after := af, guard := none })
    (g o : Nat) (t : TypeId) (cur : List Value) (cells : Array Value) (hx : a.eval x = .pointer (some ⟨g, o, none⟩)) (hy : a.eval y = .agg cells) (hg : w.heap[g]? = some (.cells cur.toArray t (0, 0)))
    (hi : (P.info? ty).map (·.size) = some cells.size) (hs : o + cells.size ≤ cur.length) (h1 : cells.all (·.oneCell') = true)
    (h : ∀ w', Hid (w'.heap[g]? = some (.cells (splice cur o cells.toList).toArray t (0, 0))) → Chg g w w' → K a w') : wpOp P ops Q i K a w :=
  op_plain i _ ho rfl (by
    have ht : w.there g o cells.size := fun j hj => by
      refine ⟨?_, frozen_of_row w g (o + j) _ _ hg⟩
      rw [cell_of_row w g (o + j) _ _ _ hg]
      simp
      omega
    refine wp_store_mid ty x y rfl g o cells hx hy ht hi h1 ?_
    exact h _ (heap_setCells g t cells.toList o cur w hg (by simpa using hs)) (Chg.setCells g _ _ _))
end
theorem bytes_one (l : List Int) : ∀ v ∈ l.map (Value.int .u8), v.oneCell' = true := fun v hv => by
  obtain ⟨x, _, rfl⟩ := List.mem_map.1 hv; rfl
section
variable {P : Program} {ops : Array Oper} {rest : List Oper} {a : Act} {w : World} {Q : Exit → Act → World → Prop} {D : Option Tmp} {T : TypeId} {ps : String} {af : Array Edge}
/-- make of one-cell elements: a new block, known whole. -/
theorem make_at (t e : TypeId) (x y : Operand) (z : Value) (bytes l c : Nat) (hx : a.eval x = .int .i64 (l : Int)) (hy : a.eval y = .int .i64 (c : Int)) (hu : P.underlying t = some (.slice e))
    (hi : (P.info? e).map (fun i => (i.zero, i.size, i.bytes)) = some (some z, 1, bytes)) (hz : z.cells = #[z]) (hlc : l ≤ c) (hb : bytes * c ≤ 281474976710656) (hc : c ≤ 9223372036854775807)
    (h : ∀ w', Hid (w'.heap[w.heap.size]? = some (.cells (List.replicate c z).toArray e (0, 0))) → Below w.heap.size w w' → Hid (w'.heap.size = w.heap.size + 1) → wpList P ops Q rest (a.put D (.slice (some ⟨w.heap.size, 0, none⟩) l c)) w') :
    wpList P ops Q ({ dst := D, op := .makeSlice t x y, type := T, pos := ps, after := af, guard := none } :: rest) a w :=
  wpList_plain rfl fun K hK => by
    obtain ⟨i, hi1, hi2, hi3, hi4⟩ := info_parts hi
    have hrun := run_make (P := P) w t e i z hu hi1 hi2 .i64 .i64 l c (by omega) (by omega) (by rw [hi4]; omega) (by omega)
    rw [hi3, hz, Nat.mul_one] at hrun
    have hl : (madeCells #[z] c).toList = List.replicate c z := toList_madeCells_one z c
    have e2 : madeCells #[z] c = (List.replicate c z).toArray := by rw [← hl, Array.toArray_toList]
    unfold Oper.wp execOp
    simp only [hx, hy, hrun, Sem.run_bind, Sem.run_pure, Result.andThen_ok, Int.toNat_natCast, e2]
    exact hK _ _ (h _ (heap_alloc_new w _) ((Below.refl _ w).alloc (Nat.le_refl _) _) (by show _ = _; simp))
/-- append of one element where there is room, in a block that is known whole. -/
theorem append_at (s x : Operand) (t e : TypeId) (g n cap : Nat) (cur : List Value) (ad : Addr) (m : Nat) (u : Value) (hs : a.eval s = .slice (some ⟨g, 0, none⟩) n cap) (hx : a.eval x = .slice (some ad) 1 m) (hg : w.heap[g]? = some (.cells cur.toArray e (0, 0)))
    (hu : P.underlying t = some (.slice e)) (hi : (P.info? e).map (·.size) = some 1) (hn : w.cell? ad = some u) (h1 : u.oneCell' = true) (hroom : n + 1 ≤ cap) (hfit : n + 1 ≤ cur.length)
    (h : ∀ w', Hid (w'.heap[g]? = some (.cells (splice cur n [u]).toArray e (0, 0))) → Chg g w w' → wpList P ops Q rest (a.put D (.slice (some ⟨g, 0, none⟩) (n + 1) cap)) w') :
    wpList P ops Q ({ dst := D, op := .call { callee := .builtin .append, args := #[s, x], argTypes := #[t, t] }, type := T, pos := ps, after := af, guard := none } :: rest) a w :=
  wpList_plain rfl fun K hK => by
    cases hq : P.info? e with
    | none => simp [hq] at hi
    | some i =>
      have hsz : i.size = 1 := by simpa [hq] using hi
      have hadd : ad.add 0 = ad := by simp [Addr.add]
      have hrun := run_append_room (P := P) w t T e i hu hq g n cap cur.toArray hg ad 1 m [u] (by simp [hsz]) (fun j v hv => by
        cases j with
        | zero => simp at hv; subst hv; rw [hadd]; exact hn
        | succ j => simp at hv) (by simpa using h1) hroom (by simp [hsz]; omega)
      unfold Oper.wp
      simp [execOp, resolve, invoke, builtin, hs, hx, hrun, Result.andThen]
      refine hK _ _ ?_
      have hcg := Chg.setRow w g (cur.toArray.toList.take (n * i.size) ++ [u] ++ cur.toArray.toList.drop (n * i.size + 1)).toArray
      have hh := setRow_heap w g cur.toArray (cur.toArray.toList.take (n * i.size) ++ [u] ++ cur.toArray.toList.drop (n * i.size + 1)).toArray e (0, 0) hg
      simp only [hsz, Nat.mul_one] at hcg hh ⊢
      refine h _ ?_ (by simpa using hcg)
      show _ = _
      simpa [splice] using hh
end
/-- The bytes l in memory, as a slice sees them. -/
def BAt (w : World) (p : Option Addr) (l : List Int) : Prop :=
  Sha.Byt l ∧ (0 < l.length → ∃ ab ao, p = some ⟨ab, ao, none⟩ ∧ ∀ j, j < l.length → w.cell? ⟨ab, ao + j, none⟩ = some (.int .u8 (l.getD j 0)))
theorem BAt.below {w w' : World} {B : Nat} {p : Option Addr} {l : List Int} (h : BAt w p l) (hb : Below B w w') (hB : w.heap.size ≤ B) : BAt w' p l :=
  ⟨h.1, fun h0 => by
    obtain ⟨ab, ao, h1, h2⟩ := h.2 h0
    have hlt : ab < w.heap.size := World.block_lt_of_cell? w _ (h2 0 h0)
    exact ⟨ab, ao, h1, fun j hj => (hb.cell (Nat.lt_of_lt_of_le hlt hB)).trans (h2 j hj)⟩⟩
/-- What came in lies beneath the first heap's end, and stays. -/
theorem BAt.old {w w1 : World} {p : Option Addr} {l : List Int} (h : BAt w p l) (hb : Below w.heap.size w w1) : BAt w1 p l := h.below hb (Nat.le_refl _)
theorem BAt.drew {w : World} {p : Option Addr} {l : List Int} (h : BAt w p l) : BAt w.drew p l := h
theorem BAt.drewN {w : World} {p : Option Addr} {l : List Int} (h : BAt w p l) (n : Nat) : BAt (w.drewN n) p l := h
theorem byt_rep (n : Nat) (x : Int) (h : 0 ≤ x ∧ x ≤ 255) : Sha.Byt (List.replicate n x) := fun y hy => by
  rw [List.mem_replicate] at hy
  omega
/-- A row that is known whole, read from its beginning. -/
theorem bat_row {w : World} {g : Nat} {l : List Int} {t : TypeId} {fr : Nat × Nat} (h : w.heap[g]? = some (.cells (l.map (Value.int .u8)).toArray t fr)) (hb : Sha.Byt l) : BAt w (some ⟨g, 0, none⟩) l :=
  ⟨hb, fun _ => ⟨g, 0, rfl, fun j hj => by
    rw [cell_of_row w g (0 + j) _ _ _ h]
    simp [List.getD_eq_getElem?_getD, hj]⟩⟩
theorem getD_append_left' (l m : List Int) (j : Nat) (hj : j < l.length) : (l ++ m).getD j 0 = l.getD j 0 := by
  rw [List.getD_eq_getElem?_getD, List.getD_eq_getElem?_getD, List.getElem?_append_left hj]
theorem BAt.pre {w : World} {p : Option Addr} {l m : List Int} (h : BAt w p (l ++ m)) : BAt w p l :=
  ⟨fun x hx => h.1 x (List.mem_append_left _ hx), fun h0 => by
    obtain ⟨ab, ao, h1, h2⟩ := h.2 (by rw [List.length_append]; omega)
    refine ⟨ab, ao, h1, fun j hj => ?_⟩
    rw [h2 j (by rw [List.length_append]; omega), getD_append_left' l m j hj]⟩
/-- Five marks behind a text. -/
def mk5 (L : List Int) : List Int := L ++ List.replicate 5 165
theorem mk5_len (L : List Int) : (mk5 L).length = L.length + 5 := by simp [mk5]
theorem mk5_byt {L : List Int} (h : Sha.Byt L) : Sha.Byt (mk5 L) := Sha.byt_append h (byt_rep 5 165 (by omega))
theorem mk5_lo (L : List Int) (j : Nat) (hj : j < L.length) : (mk5 L).getD j 0 = L.getD j 0 := getD_append_left' L _ j hj
theorem mk5_hi (L : List Int) (j : Nat) (h1 : L.length ≤ j) (h2 : j < L.length + 5) : (mk5 L).getD j 0 = 165 := by
  unfold mk5
  rw [List.getD_eq_getElem?_getD, List.getElem?_append_right h1, List.getElem?_replicate, if_pos (by omega)]
  rfl
def fl5 (L : List Int) (k : Nat) : List Int := (mk5 L).take k ++ List.replicate (L.length + 5 - k) 0
theorem fl5_len (L : List Int) (k : Nat) (hk : k ≤ L.length + 5) : (fl5 L k).length = L.length + 5 := by simp [fl5, mk5]; omega
theorem fl5_zero (L : List Int) : (fl5 L 0).map (Value.int .u8) = List.replicate (L.length + 5) (Value.int .u8 0) := by simp [fl5]
theorem fl5_all (L : List Int) : fl5 L (L.length + 5) = mk5 L := by
  unfold fl5
  rw [List.take_of_length_le (by rw [mk5_len]; omega), Nat.sub_self]
  simp
theorem fl5_step (L : List Int) (k : Nat) (hk : k < L.length + 5) : (fl5 L k).set k ((mk5 L).getD k 0) = fl5 L (k + 1) := by
  unfold fl5
  have hl : ((mk5 L).take k).length = k := by simp [mk5]; omega
  rw [List.set_append_right _ _ (by omega), hl, Nat.sub_self, show L.length + 5 - k = (L.length + 5 - (k + 1)) + 1 by omega, List.replicate_succ, List.set_cons_zero,
    ← take_snoc (mk5 L) k (by rw [mk5_len]; omega), List.append_assoc]
  rfl
theorem fl5_cell {w : World} {g : Nat} {L : List Int} {k : Nat} {t : TypeId} {fr : Nat × Nat} (h : w.heap[g]? = some (.cells ((fl5 L k).map (Value.int .u8)).toArray t fr)) (hk : k ≤ L.length + 5) (j : Nat) (hj : j < L.length + 5) : w.cell? ⟨g, j, none⟩ = some (.int .u8 ((fl5 L k).getD j 0)) := by
  rw [cell_of_row w g j _ _ _ h]
  have := fl5_len L k hk
  simp [List.getD_eq_getElem?_getD, this, hj]
theorem set_u8' {w : World} {g i : Nat} {l : List Int} {x : Int} {t : TypeId} (h : w.heap[g]? = some (.cells (l.map (Value.int .u8)).toArray t (0, 0))) :
    (w.setCell ⟨g, i, none⟩ (.int .u8 x)).heap[g]? = some (.cells ((l.set i x).map (Value.int .u8)).toArray t (0, 0)) := by
  rw [heap_setCell_same w g i _ _ _ h]
  congr 2
  apply Array.ext'
  simp
/-- What LentBytes says. -/
def LentSay (L : List Int) (w : World) (e : Ending) (w' : World) : Prop :=
  ∃ g, e = .returned (.slice (some ⟨g, 0, none⟩) (L.length + 5) (L.length + 5)) ∧ w.heap.size ≤ g ∧ w'.heap[g]? = some (.cells ((mk5 L).map (Value.int .u8)).toArray 5 (0, 0)) ∧ Below w.heap.size w w'
theorem below_dn {B : Nat} {w w' : World} (h : Below B w w') (n : Nat) : Below B w (w'.drewN n) := ⟨h.os, h.tape, h.output, h.size, h.block⟩
def YesSay (w : World) (e : Ending) (w' : World) : Prop := e = .returned (.bool true) ∧ Below w.heap.size w w'
theorem BAt.at {w : World} {g : Nat} {l : List Int} (h : BAt w (some ⟨g, 0, none⟩) l) (j : Nat) (hj : j < l.length) : w.cell? ⟨g, j, none⟩ = some (.int .u8 (l.getD j 0)) := by
  obtain ⟨ab, ao, h1, h2⟩ := h.2 (by omega)
  cases h1
  have := h2 j hj
  rwa [Nat.zero_add] at this
theorem own_keepX {w w' : World} {B n : Nat} {v : Value} {xs : List Value} {e : TypeId} {s : Nat} (h : w.ownsRow B e s v n xs) (hb : Below w.heap.size w w') : w'.ownsRow B e s v n xs := by
  refine ⟨h.1, ?_⟩
  rcases h.2 with h' | ⟨g, cap, cur, hv, q0, q1, q2⟩
  · exact Or.inl h'
  · exact Or.inr ⟨g, cap, cur, hv, q0, (hb.block _ (lt_of_block q1)).trans q1, q2⟩
theorem u8_at {w : World} {B n g c : Nat} {l : List Int} (h : w.ownsRow B 5 1 (.slice (some ⟨g, 0, none⟩) n c) n (U8s l)) (j : Nat) (hj : j < n) : w.cell? ⟨g, j, none⟩ = some (.int .u8 (l.getD j 0)) := by
  have hl : (U8s l).length = n := by have := h.1; simpa using this
  rw [h.cellAt j (by omega)]
  unfold U8s at *
  simp only [List.length_map] at hl
  rw [List.getElem?_map, List.getElem?_eq_getElem (by omega), List.getD_eq_getElem?_getD, List.getElem?_eq_getElem (by omega)]
  rfl
section
variable {P : Program} {md : Region.Mode} {ops : Array Oper} {Q : Exit → Act → World → Prop} {S : World → Prop}
theorem anyH_take (i D : Nat) (v : Value) {fuel : Nat} {listed : Array Bool} {a : Act} {w : World} {op : Op} {T : TypeId} {ps : String} {af : Array Edge} {gd : Option (Nat × Bool)} (hS : S w) (ho : ops[i]? = some { dst := some D, op := op, type := T, pos := ps, after := af, guard := gd })
    (hs : Region.noSelect ops = true) (hf : Region.free md ops listed i = true) (hr : (Region.ready md ops listed).contains i = true)
    (hQ : ∀ c a w, Q (.panic c) (a.put (some D) v) w → Q (.panic c) a w) (hw : Region.wanted { dst := some D, op := op, type := T, pos := ps, after := af, guard := gd } (yielded ops a.tmps) = true) (hy : ∀ w, S w → (execOp a.eval { dst := some D, op := op, type := T, pos := ps, after := af, guard := gd }).run P w = .ok (.value v) w)
    (h : wpAnyH P md ops Q S fuel (listed.setIfInBounds i true) (a.put (some D) v) w) : wpAnyH P md ops Q S (fuel + 1) listed a w :=
  wpAnyH_first ho (Region.noSelect_spec hs) hQ fuel listed a w (Region.free_spec ho hf) (by simpa using hr) (Or.inl ⟨hw, hy⟩) hS h
theorem anyH_one (i : Nat) {fuel : Nat} {listed : Array Bool} {a : Act} {w : World} (hr : Region.ready md ops listed = [i])
    (h : wpOp P ops Q i (fun a' w' => S w' ∧ wpAnyH P md ops Q S fuel (listed.setIfInBounds i true) a' w') a w) : wpAnyH P md ops Q S (fuel + 1) listed a w :=
  ⟨fun h0 => absurd (hr ▸ h0) (by simp), fun j hj => by
    rw [hr] at hj
    simp at hj
    subst hj
    exact h⟩
end
/-- What a call leaves that writes over a row of bytes alone. -/
def Sp (v : Value) (w w' : World) : Prop := w' = w ∨ ∃ g, v.ownBlock = some g ∧ Only g w w'
theorem Sp.bat {v : Value} {w w' : World} {p : Option Addr} {L : List Int} (h : Sp v w w') (hb : BAt w p L) (hn : 0 < L.length → ∀ g, v.ownBlock = some g → ∀ b o s, p = some ⟨b, o, s⟩ → b ≠ g) : BAt w' p L := by
  rcases h with rfl | ⟨g, hg, ho⟩
  · exact hb
  · refine ⟨hb.1, fun h0 => ?_⟩
    obtain ⟨b, o, rfl, hc⟩ := hb.2 h0
    exact ⟨b, o, rfl, fun j hj => ho.cell (hn h0 g hg b o none rfl) (hc j hj)⟩
theorem Sp.below {v : Value} {w0 w w' : World} {B : Nat} (h : Sp v w w') (hb : Below B w0 w) (hB : B ≤ w.heap.size) (hg : ∀ g, v.ownBlock = some g → B ≤ g) : Below B w0 w' := by
  rcases h with rfl | ⟨g, hv, ho⟩
  · exact hb
  · exact ho.below hb (hg g hv) hB
/-- Bytes that came in: what they are, where they lie, and how much room is behind them. -/
structure Bs (w : World) (p : Option Addr) (c : Nat) (L : List Int) : Prop where
  bat : BAt w p L
  cap : L.length ≤ c ∧ c ≤ 9223372036854775807
  nil : p = none → L = [] ∧ c = 0
theorem Bs.old {w x : World} {p : Option Addr} {c : Nat} {L : List Int} (h : Bs w p c L) (hb : Below w.heap.size w x) : Bs x p c L := ⟨h.bat.old hb, h.cap, h.nil⟩
theorem bs_none (w : World) : Bs w none 0 [] := ⟨⟨fun x hx => by simp at hx, fun h => by simp at h⟩, ⟨Nat.le_refl _, by omega⟩, fun _ => ⟨rfl, rfl⟩⟩
theorem bs_row {w : World} {g c : Nat} {L : List Int} (h : BAt w (some ⟨g, 0, none⟩) L) (hc : L.length ≤ c ∧ c ≤ 9223372036854775807) : Bs w (some ⟨g, 0, none⟩) c L := ⟨h, hc, fun e => by cases e⟩
/-- Bytes of the call's own, as they are read. -/
theorem own_bs {w : World} {B n : Nat} {v : Value} {l : List Int} (h : w.ownsRow B 5 1 v n (U8s l)) (hb : Sha.Byt l) : ∃ p c, v = .slice p l.length c ∧ Bs w p c l ∧ l.length = n := by
  have hl : l.length = n := by
    have := h.1
    unfold U8s at this
    simpa using this
  rcases h.2 with ⟨rfl, rfl⟩ | ⟨g, cap, cur, rfl, _, _, h1, h2, _⟩
  · obtain rfl : l = [] := List.eq_nil_of_length_eq_zero hl
    exact ⟨none, 0, rfl, bs_none w, rfl⟩
  · refine ⟨some ⟨g, 0, none⟩, cap, by rw [hl], bs_row ⟨hb, fun h0 => ⟨g, 0, rfl, fun j hj => ?_⟩⟩ ⟨by omega, by unfold maxLen at h2; omega⟩, hl⟩
    rw [Nat.zero_add]
    exact u8_at h j (by omega)
theorem bs_cells {w : World} {ad : Addr} {R : List Int} (h : BAt w (some ad) R) : ∀ j u, (R.map (Value.int .u8))[j]? = some u → w.cell? (ad.add j) = some u := fun j u hj => by
  have hjl : j < R.length := by have := (List.getElem?_eq_some_iff.1 hj).1; simpa using this
  obtain ⟨ab, ao, h1, h2⟩ := h.2 (by omega)
  cases h1
  rw [Addr.add_mid, h2 j hjl]
  rw [List.getElem?_map, List.getElem?_eq_getElem hjl] at hj
  rw [List.getD_eq_getElem?_getD, List.getElem?_eq_getElem hjl]
  simpa using hj
namespace Seal
/-- The first k rows, one behind the other. -/
def cat (L : Nat → List Int) : Nat → List Int
  | 0 => []
  | k + 1 => cat L k ++ L k
theorem cat_le (L : Nat → List Int) : ∀ m k, k ≤ m → (cat L k).length ≤ (cat L m).length
  | 0, k, h => by
    obtain rfl : k = 0 := (by omega)
    exact Nat.le_refl _
  | m + 1, k, h => by
    by_cases e : k = m + 1
    · subst e; exact Nat.le_refl _
    · have := cat_le L m k (by omega)
      rw [cat, List.length_append]
      omega
theorem cat_len (L : Nat → List Int) (k : Nat) : (cat L (k + 1)).length = (cat L k).length + (L k).length := by rw [cat, List.length_append]
theorem cat_snoc (L : Nat → List Int) (k : Nat) : cat L k ++ L k = cat L (k + 1) := rfl
end Seal
section
variable {P : Program} {ops : Array Oper} {rest : List Oper} {a : Act} {w : World} {Q : Exit → Act → World → Prop} {D : Option Tmp} {T : TypeId} {ps : String} {af : Array Edge}
/-- A value built of two parts. -/
theorem row_build2 (t : TypeId) (x y : Operand) (v u : Value) (R : Array Value) (hx : a.eval x = v) (hy : a.eval y = u) (hr : P.built t [(0, v), (1, u)] = some R) (h : wpList P ops Q rest (a.put D (.agg R)) w) :
    wpList P ops Q ({ dst := D, op := .build t #[(0, x), (1, y)], type := T, pos := ps, after := af, guard := none } :: rest) a w :=
  wpList_plain rfl fun K hK => by
    have hrun := run_build (P := P) w t #[(0, v), (1, u)] R hr
    unfold Oper.wp execOp
    simp only [hx, hy, List.map_toArray, List.map_cons, List.map_nil, hrun, Sem.run_bind, Sem.run_pure, Result.andThen_ok]
    exact hK _ _ h
end
/-- Rows of literals, as they are read. -/
theorem lit_one (x : World) (l : List Int) (n : Nat) (fr : Nat × Nat) (hl : l.length = n) (hn : n ≤ 1000) (hb : Sha.Byt l) : Bs (x.alloc (.cells (l.map (Value.int .u8)).toArray 5 fr)) (some ⟨x.heap.size, 0, none⟩) n l :=
  bs_row (bat_row (heap_alloc_new x _) hb) ⟨by omega, by omega⟩
theorem lit_two (x : World) (l : List Int) (n : Nat) (fr : Nat × Nat) (hl : l.length = n) (hn : n ≤ 1000) (hb : Sha.Byt l) (O : Obj) : Bs ((x.alloc O).alloc (.cells (l.map (Value.int .u8)).toArray 5 fr)) (some ⟨x.heap.size + 1, 0, none⟩) n l := by
  have h := lit_one (x.alloc O) l n fr hl hn hb
  rw [show (x.alloc O).heap.size = x.heap.size + 1 by simp] at h
  exact h
theorem below_two (x : World) (O O' : Obj) : Below x.heap.size x ((x.alloc O).alloc O') := ((Below.refl _ x).alloc (Nat.le_refl _) _).alloc (by simp) _
theorem Try.cells5 : Try.prog.cellsOf 5 = 1 := by kernel_rfl
/-- Rows of bytes that came in. -/
def BRows (w : World) (tp : Option Addr) (Rs : List (List Int)) : Prop :=
  0 < Rs.length → ∃ tb tf, tp = some ⟨tb, tf, none⟩ ∧ tb < w.heap.size ∧ ∀ r, r < Rs.length → ∃ p c, w.cell? ⟨tb, tf + r, none⟩ = some (.slice p (Rs.getD r []).length c) ∧ Bs w p c (Rs.getD r [])
section
variable {P : Program} {md : Region.Mode} {ops : Array Oper} {Q : Exit → Act → World → Prop} {S : World → Prop}
/-- What its guard leaves out may be taken first, too. -/
theorem anyH_skip (i D : Nat) {fuel : Nat} {listed : Array Bool} {a : Act} {w : World} {op : Op} {T : TypeId} {ps : String} {af : Array Edge} {gd : Option (Nat × Bool)} (hS : S w) (ho : ops[i]? = some { dst := some D, op := op, type := T, pos := ps, after := af, guard := gd })
    (hs : Region.noSelect ops = true) (hf : Region.free md ops listed i = true) (hr : (Region.ready md ops listed).contains i = true)
    (hQ : ∀ c a w, Q (.panic c) (a.put (some D) undef) w → Q (.panic c) a w) (hw : Region.wanted { dst := some D, op := op, type := T, pos := ps, after := af, guard := gd } (yielded ops a.tmps) = false)
    (h : wpAnyH P md ops Q S fuel (listed.setIfInBounds i true) (a.put (some D) undef) w) : wpAnyH P md ops Q S (fuel + 1) listed a w :=
  wpAnyH_first ho (Region.noSelect_spec hs) hQ fuel listed a w (Region.free_spec ho hf) (by simpa using hr) (Or.inr ⟨hw, rfl⟩) hS h
end
/-- Own bytes stay while others are written over. -/
theorem own_sp {w x : World} {B n : Nat} {v u : Value} {xs : List Value} (h : w.ownsRow B 5 1 v n xs) (hs : Sp u w x) (hne : ∀ g, v.ownBlock = some g → u.ownBlock ≠ some g) : x.ownsRow B 5 1 v n xs := by
  rcases hs with rfl | ⟨j, hj, ho⟩
  · exact h
  · refine ⟨h.1, ?_⟩
    rcases h.2 with h1 | ⟨g, cap, cur, h1, h2, h3, h4⟩
    · exact Or.inl h1
    · refine Or.inr ⟨g, cap, cur, h1, h2, (ho.block _ (lt_of_block h3) (fun e => ?_)).trans h3, h4⟩
      subst e
      exact hne g (by rw [h1]; rfl) hj
theorem sp_block {w x : World} {u : Value} {k : Nat} (hs : Sp u w x) (hk : k < w.heap.size) (hne : u.ownBlock ≠ some k) : x.heap[k]? = w.heap[k]? := by
  rcases hs with rfl | ⟨j, hj, ho⟩
  · rfl
  · exact ho.block _ hk (fun e => hne (by rw [hj, e]))
theorem sp_size {w x : World} {u : Value} (hs : Sp u w x) : w.heap.size ≤ x.heap.size := by
  rcases hs with rfl | ⟨j, _, ho⟩
  · exact Nat.le_refl _
  · exact ho.size
theorem lent_bs {w : World} {g : Nat} {L : List Int} (hL : L.length ≤ 100000) (h : w.heap[g]? = some (.cells ((mk5 L).map (Value.int .u8)).toArray 5 (0, 0))) (hb : Sha.Byt L) : Bs w (some ⟨g, 0, none⟩) (L.length + 5) L := by
  have h1 := bat_row h (mk5_byt hb)
  unfold mk5 at h1
  exact bs_row h1.pre ⟨by omega, by omega⟩
/-- A row of the call's own stays where its block stays. -/
theorem own_keepB {w y : World} {B e s n : Nat} {v : Value} {xs : List Value} (h : w.ownsRow B e s v n xs) (hk : ∀ g, v.ownBlock = some g → y.heap[g]? = w.heap[g]?) : y.ownsRow B e s v n xs := by
  refine ⟨h.1, ?_⟩
  rcases h.2 with h1 | ⟨g, cap, cur, h1, h2, h3, h4⟩
  · exact Or.inl h1
  · exact Or.inr ⟨g, cap, cur, h1, h2, (hk g (by rw [h1]; rfl)).trans h3, h4⟩
theorem own_type {w : World} {B e s n : Nat} {v : Value} {xs : List Value} (h : w.ownsRow B e s v n xs) : ∀ g, v.ownBlock = some g → B ≤ g ∧ ∃ cur, w.heap[g]? = some (.cells cur e (0, 0)) := by
  intro g hg
  rcases h.2 with ⟨h1, _⟩ | ⟨q, cap, cur, h1, h2, h3, h4⟩
  · rw [h1] at hg; cases hg
  · rw [h1] at hg; cases hg; exact ⟨h2, cur, h3⟩
theorem own_onlyX {w y : World} {B e s n k : Nat} {v : Value} {xs : List Value} (h : w.ownsRow B e s v n xs) (ho : Only k w y) (hk : k < B) : y.ownsRow B e s v n xs := by
  refine ⟨h.1, ?_⟩
  rcases h.2 with h1 | ⟨g, cap, cur, h1, h2, h3, h4⟩
  · exact Or.inl h1
  · exact Or.inr ⟨g, cap, cur, h1, h2, (ho.block g (lt_of_block h3) (by omega)).trans h3, h4⟩
theorem own_base {w : World} {B B' n : Nat} {e : TypeId} {v : Value} {xs : List Value} (h : w.ownsRow B e 1 v n xs) (hB : B' ≤ B) : w.ownsRow B' e 1 v n xs := by
  refine ⟨h.1, ?_⟩
  rcases h.2 with h1 | ⟨g, cap, cur, h1, h2, h3⟩
  · exact Or.inl h1
  · exact Or.inr ⟨g, cap, cur, h1, Nat.le_trans hB h2, h3⟩
theorem heap_oldX (w : World) (o : Obj) {r : Nat} (h : r < w.heap.size) : (w.alloc o).heap[r]? = w.heap[r]? := (MapKept.heap_alloc w o).2 r h
theorem list_of {α : Type} {Q : Nat → α → Prop} : ∀ n : Nat, (∀ i, i < n → ∃ x, Q i x) → ∃ L : List α, L.length = n ∧ ∀ (r : Nat) (x : α), L[r]? = some x → Q r x
  | 0, _ => ⟨[], rfl, fun r x h => by simp at h⟩
  | n + 1, h => by
    obtain ⟨L, hl, hq⟩ := list_of n (fun i hi => h i (by omega))
    obtain ⟨x, hx⟩ := h n (by omega)
    refine ⟨L ++ [x], by simp [hl], fun r y hy => ?_⟩
    by_cases hr : r < L.length
    · rw [List.getElem?_append_left hr] at hy
      exact hq r y hy
    · rw [List.getElem?_append_right (by omega)] at hy
      have h0 : r - L.length = 0 := by
        by_cases q : r - L.length = 0
        · exact q
        · rw [List.getElem?_eq_none (by simp; omega)] at hy; cases hy
      rw [h0] at hy
      obtain rfl : x = y := by simpa using hy
      have : r = n := by omega
      rw [this]
      exact hx
theorem cells_int : Try.prog.cellsOf 3 = 1 := by kernel_rfl
theorem fill_off (off : Nat) : ∀ (l : List Value) (k : Nat) (Z : Array Value), off + k + l.length ≤ Z.size →
    (l.zipIdx k).foldl (fun (cs : Array Value) (x : Value × Nat) => cs.setIfInBounds (off + x.2) x.1) Z = (Z.toList.take (off + k) ++ l ++ Z.toList.drop (off + k + l.length)).toArray
  | [], k, Z, _ => by simp
  | v :: l, k, Z, h => by
    simp only [List.length_cons] at h
    rw [List.zipIdx_cons, List.foldl_cons]
    rw [fill_off off l (k + 1) _ (by simp; omega)]
    apply Array.ext'
    have hk : off + k < Z.toList.length := by simp; omega
    simp only [Array.toList_setIfInBounds, List.length_cons]
    have e1 : (Z.toList.set (off + k) v).take (off + (k + 1)) = Z.toList.take (off + k) ++ [v] := by
      rw [show off + (k + 1) = off + k + 1 by omega, List.take_add_one, List.getElem?_set_self hk, List.take_set_of_le (Nat.le_refl _)]
      rfl
    have e2 : (Z.toList.set (off + k) v).drop (off + (k + 1) + l.length) = Z.toList.drop (off + k + (l.length + 1)) := by
      rw [List.drop_set_of_lt (by omega)]
      congr 1
      omega
    rw [e1, e2]
    simp
theorem fill_step (place : Nat → Option (Nat × Nat)) (i : Nat) (v : Value) (off size : Nat) (Z : Array Value) (rest : List (Nat × Value)) (h : place i = some (off, size)) (hs : v.cells.size = size) (hz : off + size ≤ Z.size) :
    Instr.fill place Z ((i, v) :: rest) = Instr.fill place (Z.toList.take off ++ v.cells.toList ++ Z.toList.drop (off + size)).toArray rest := by
  have h1 := fill_off off v.cells.toList 0 Z (by simpa [hs] using hz)
  conv => lhs; unfold Instr.fill
  rw [h]
  dsimp only
  split
  · rename_i hh
    simp [hs] at hh
    omega
  · congr 1
    show Array.foldl (fun (cs : Array Value) (x : Value × Nat) => cs.setIfInBounds (off + x.2) x.1) Z v.cells.zipIdx = _
    rw [← Array.foldl_toList, Array.toList_zipIdx, h1]
    simp [hs]
theorem built_of {ty : TypeId} {Z : Array Value} {n : Nat} {ps : List (Nat × Nat)} (hz : (Try.prog.info? ty).map (fun i => (i.zero, i.size)) = some (some (.agg Z), n)) (hp : (match Try.prog.underlying ty with
    | some (.struct fields) => fields.toList.mapM (fun f => (Try.prog.info? f.type).map fun i => (f.offset, i.size))
    | _ => none) = some ps) (parts : List (Nat × Value)) : Try.prog.built ty parts = Instr.fill (ps.toArray[·]?) Z parts := by
  unfold Program.built
  cases hi : Try.prog.info? ty with
  | none => rw [hi] at hz; cases hz
  | some i =>
    rw [hi] at hz
    simp only [Option.map_some, Option.some.injEq, Prod.mk.injEq] at hz
    cases hu : Try.prog.underlying ty with
    | none => rw [hu] at hp; cases hp
    | some d =>
      rw [hu] at hp
      cases d <;> try (exact absurd hp (fun h => by cases h))
      case struct fields =>
        dsimp only at hp ⊢
        rw [hz.1, hp]
        rfl
theorem agg_int (w : World) : (isAgg 3).run Try.prog w = .ok false w := by
  unfold isAgg
  rw [Sem.run_bind, run_underlying Try.underlying3 w]
  rfl
theorem eqf_cons (d : Nat) (A B : Array Value) (f : Field) (fs : List Field) (a b : Value) (q p : Bool) (w : World) (n : String) (t : TypeId) (o : Nat) (hf : (f.name, f.type, f.offset) = (n, t, o)) (hn : n ≠ "_")
    (pa : (part t A o).run Try.prog w = .ok a w) (pb : (part t B o).run Try.prog w = .ok b w) (he : (Op.equalIn d t a b).run Try.prog w = .ok q w) (hr : (Op.eqFields d A B fs).run Try.prog w = .ok p w) :
    (Op.eqFields d A B (f :: fs)).run Try.prog w = .ok (q && p) w := by
  simp only [Prod.mk.injEq] at hf
  obtain ⟨h1, h2, h3⟩ := hf
  rw [Op.eqFields, h1, h2, h3, if_pos hn, Sem.run_bind, pa, Result.andThen_ok, Sem.run_bind, pb, Result.andThen_ok, Sem.run_bind, he, Result.andThen_ok]
  cases q with
  | false => rw [if_pos (by rfl)]; rfl
  | true => rw [if_neg (by decide), hr]; rfl
theorem eqf_nil (d : Nat) (A B : Array Value) (w : World) : (Op.eqFields d A B []).run Try.prog w = .ok true w := by rw [Op.eqFields]; rfl
theorem part_one {l : List Value} {o : Nat} {k : Int} (h : l[o]? = some (.int .i64 k)) (w : World) : (part 3 l.toArray o).run Try.prog w = .ok (.int .i64 k) w := by
  have hv : l.toArray[o]? = some (.int .i64 k) := by simpa using h
  unfold part
  rw [Sem.run_bind, agg_int]
  simp only [Result.andThen_ok, hv]
  rfl
set_option maxRecDepth 100000 in
theorem int_eqd (d : Nat) (a b : Int) (w : World) : (Op.equalIn (d + 1) 3 (.int .i64 a) (.int .i64 b)).run Try.prog w = .ok (decide (a = b)) w := by
  have h := run_equalIn_int (P := Try.prog) w d 3 .i64 .i64 a b Try.underlying3
  rw [h]
  congr 1
section
variable {P : Program} {ops : Array Oper} {rest : List Oper} {a : Act} {w : World} {Q : Exit → Act → World → Prop} {D : Option Tmp} {T : TypeId} {ps : String} {af : Array Edge}
/-- A row out of cells that are known. -/
theorem rng_load (ty : TypeId) (x : Operand) (b o : Nat) (A : Array Value) (d : TypeDesc) (hx : a.eval x = .pointer (some ⟨b, o, none⟩)) (hc : w.rangeAt b o A.toList)
    (hu : P.underlying ty = some d) (hd : d.isRow = true) (hi : (P.info? ty).map (·.size) = some A.size)
    (h : wpList P ops Q rest (a.put D (.agg A)) w) : wpList P ops Q ({ dst := D, op := .load ty x, type := T, pos := ps, after := af, guard := none } :: rest) a w :=
  wpList_load_mid rfl ty x rfl b o hx A.toList d hc hu hd (by simpa using hi) (by simpa using h)
end
theorem rng_old {w y : World} {b o : Nat} {cs : List Value} (h : w.rangeAt b o cs) (hb : Below w.heap.size w y) : y.rangeAt b o cs := fun j v hv => by
  have h1 := h j v hv
  exact (hb.cell (World.block_lt_of_cell? w _ h1)).trans h1
theorem row_size {P : Program} {ty : TypeId} {n : Nat} (h : (P.info? ty).map (·.size) = some n) {A : Array Value} (hA : Hid (A.size = n)) : (P.info? ty).map (·.size) = some A.size := by
  rw [h, hA.out]
section
variable {P : Program}
theorem results_cell1 {fn : Func} {p : Tmp} {ty : TypeId} (h : fn.results = #[.cell p ty]) (tmps : Array Value) (w : World) (g : Nat) (t : TypeId) (cs : Array Value) (fr : Nat × Nat) (d : TypeDesc)
    (hp : tmps.getD p undef = .pointer (some ⟨g, 0, none⟩)) (hg : w.heap[g]? = some (.cells cs t fr))
    (hu : P.underlying ty = some d) (hd : (match d with | .struct _ | .array _ _ => true | _ => false) = true) (hi : (P.info? ty).map (·.size) = some cs.size) :
    (results fn tmps).run P w = .ok (.agg cs) w := by
  have hp' : tmps[p]?.getD undef = .pointer (some ⟨g, 0, none⟩) := by simpa using hp
  simp [results, h, hp', asAddr, run_loadVar_row w g t ty cs fr d hg hu hd hi]
end
section
variable {P : Program} {ops : Array Oper} {C : World → Prop} {Q : Act → Prop} {rest : List Oper} {a : Act} {D : Option Tmp} {T : TypeId} {ps : String} {af : Array Edge} {gd : Option (Nat × Bool)}
/-- A load of a row in a region that only reads. -/
theorem quiet_load (ty : TypeId) (x : Operand) (ad : Addr) (A : Array Value) (hw : Region.wanted { dst := D, op := .load ty x, type := T, pos := ps, after := af, guard := gd } (yielded ops a.tmps) = true)
    (hx : a.eval x = .pointer (some ad)) (hl : ∀ w, C w → (Instr.loadAt ty (.pointer (some ad))).run P w = .ok (.agg A) w) (h : wpQuiet P ops C Q rest (a.put D (.agg A))) :
    wpQuiet P ops C Q ({ dst := D, op := .load ty x, type := T, pos := ps, after := af, guard := gd } :: rest) a :=
  BigFrame.wpQuiet_want hw fun K hK => ⟨.agg A, fun w hC => by
    unfold Oper.quietAt execOp
    simp only [hx, hl w hC, Sem.run_bind, Sem.run_pure, Result.andThen_ok, Oper.quietUpon, and_self], hK _ h⟩
end
def BoSay (b : Bool) (w : World) (e : Ending) (w' : World) : Prop := e = .returned (.bool b) ∧ Below w.heap.size w w'
section
variable {P : Program} {ops : Array Oper} {C : World → Prop} {Qa : Act → Prop} {rest : List Oper} {a : Act} {w : World} {Q : Exit → Act → World → Prop} {D : Option Tmp} {T : TypeId} {ps : String} {af : Array Edge} {gd : Option (Nat × Bool)}
theorem exec_b1 (t : TypeId) (x : Operand) (v : Value) (R : Array Value) (hx : a.eval x = v) (hr : P.built t [(0, v)] = some R) :
    (execOp a.eval { dst := D, op := .build t #[(0, x)], type := T, pos := ps, after := af, guard := gd }).run P w = .ok (.value (.agg R)) w := by
  have hrun := run_build (P := P) w t #[(0, v)] R hr
  unfold execOp
  simp only [hx, List.map_toArray, List.map_cons, List.map_nil, hrun, Sem.run_bind, Sem.run_pure, Result.andThen_ok]
theorem row_b1 (t : TypeId) (x : Operand) (v : Value) (R : Array Value) (hx : a.eval x = v) (hr : P.built t [(0, v)] = some R) (h : wpList P ops Q rest (a.put D (.agg R)) w) :
    wpList P ops Q ({ dst := D, op := .build t #[(0, x)], type := T, pos := ps, after := af, guard := none } :: rest) a w :=
  wpList_plain rfl fun K hK => by
    unfold Oper.wp
    rw [exec_b1 t x v R hx hr]
    exact hK _ _ h
end
section
variable {P : Program} {ops : Array Oper} {rest : List Oper} {a : Act} {w : World} {Q : Exit → Act → World → Prop} {D : Option Tmp} {T : TypeId} {ps : String} {af : Array Edge} {gd : Option (Nat × Bool)}
theorem row_build0 (t : TypeId) (R : Array Value) (hr : P.built t [] = some R) (h : wpList P ops Q rest (a.put D (.agg R)) w) :
    wpList P ops Q ({ dst := D, op := .build t #[], type := T, pos := ps, after := af, guard := none } :: rest) a w :=
  wpList_plain rfl fun K hK => by
    have hrun := run_build (P := P) w t #[] R hr
    unfold Oper.wp execOp
    simp only [List.map_toArray, List.map_nil, hrun, Sem.run_bind, Sem.run_pure, Result.andThen_ok]
    exact hK _ _ h
theorem row_build0_g (t : TypeId) (R : Array Value) (hw : Region.wanted { dst := D, op := .build t #[], type := T, pos := ps, after := af, guard := gd } (yielded ops a.tmps) = true) (hr : P.built t [] = some R) (h : wpList P ops Q rest (a.put D (.agg R)) w) :
    wpList P ops Q ({ dst := D, op := .build t #[], type := T, pos := ps, after := af, guard := gd } :: rest) a w :=
  BigFrame.wpList_want hw fun K hK => by
    have hrun := run_build (P := P) w t #[] R hr
    unfold Oper.wp execOp
    simp only [List.map_toArray, List.map_nil, hrun, Sem.run_bind, Sem.run_pure, Result.andThen_ok]
    exact hK _ _ h
theorem rng_load_g (ty : TypeId) (x : Operand) (b o : Nat) (A : Array Value) (d : TypeDesc) (hw : Region.wanted { dst := D, op := .load ty x, type := T, pos := ps, after := af, guard := gd } (yielded ops a.tmps) = true)
    (hx : a.eval x = .pointer (some ⟨b, o, none⟩)) (hc : w.rangeAt b o A.toList)
    (hu : P.underlying ty = some d) (hd : d.isRow = true) (hi : (P.info? ty).map (·.size) = some A.size)
    (h : wpList P ops Q rest (a.put D (.agg A)) w) : wpList P ops Q ({ dst := D, op := .load ty x, type := T, pos := ps, after := af, guard := gd } :: rest) a w :=
  BigFrame.wpList_want hw fun K hK => wp_load_mid ty x rfl b o hx A.toList d hc hu hd (by simpa using hi) (hK _ _ (by simpa using h))
theorem row_load_g (ty : TypeId) (x : Operand) (g : Nat) (t : TypeId) (cs : Array Value) (fr : Nat × Nat) (d : TypeDesc) (hw : Region.wanted { dst := D, op := .load ty x, type := T, pos := ps, after := af, guard := gd } (yielded ops a.tmps) = true)
    (hx : a.eval x = .pointer (some ⟨g, 0, none⟩)) (hg : w.heap[g]? = some (.cells cs t fr))
    (hu : P.underlying ty = some d) (hd : d.isRow = true) (hi : (P.info? ty).map (·.size) = some cs.size)
    (h : wpList P ops Q rest (a.put D (.agg cs)) w) : wpList P ops Q ({ dst := D, op := .load ty x, type := T, pos := ps, after := af, guard := gd } :: rest) a w :=
  rng_load_g ty x g 0 cs d hw hx (fun j v hv => by rw [cell_of_row w g (0 + j) _ _ _ hg, Nat.zero_add]; simpa using hv) hu hd hi h
end
theorem exec_arr {P : Program} {a : Act} {w : World} {D : Option Tmp} {T : TypeId} {ps : String} {af : Array Edge} {gd : Option (Nat × Bool)} (ty : TypeId) (x : Operand) (b o : Nat) (A : Array Value) (d : TypeDesc) (hx : a.eval x = .pointer (some ⟨b, o, none⟩)) (hc : w.rangeAt b o A.toList)
    (hu : P.underlying ty = some d) (hd : d.isRow = true) (hi : (P.info? ty).map (·.size) = some A.size) :
    (execOp a.eval { dst := D, op := .load ty x, type := T, pos := ps, after := af, guard := gd }).run P w = .ok (.value (.agg A)) w := by
  have h := run_loadAt_mid (P := P) w b o ty A.toList d hc hu hd (by simpa using hi)
  unfold execOp
  simp only [hx, h, Sem.run_bind, Sem.run_pure, Result.andThen_ok, Array.toArray_toList]
def In64 (x : Int) : Prop := -9223372036854775808 ≤ x ∧ x ≤ 9223372036854775807
theorem in64_wf {n : Int} (h : (Lit.int .i64 n).wf = true) : In64 n := by
  simp [Lit.wf, IntKind.min, IntKind.max, IntKind.signed, IntKind.bits] at h
  unfold In64
  omega
namespace Dk
/-- A disk: how many sectors; what lasts; what the cache has; how often each was read; how many were written; how many operations are left (below 0: not armed); whether the power has failed. -/
structure M where
  n : Nat
  ls : Nat → List Int
  ca : Nat → Option (List Int)
  rd : Nat → Nat
  wr : Nat
  left : Int
  down : Bool
structure Ok (m : M) : Prop where
  n1 : 1 ≤ m.n
  n2 : m.n ≤ 4096
  out : ∀ i, m.n ≤ i → m.ca i = none
  left : In64 m.left
  lsb : ∀ i, (m.ls i).length ≤ 1024
  cab : ∀ i L, m.ca i = some L → L.length ≤ 1024
def here (m : M) (i : Int) : Bool := decide (0 ≤ i) && decide (i < (m.n : Int))
def fault (m : M) (i : Int) (L : List Int) : Int := if here m i = false then 7 else if 1024 < L.length then 3 else 0
def gone (m : M) : Bool := m.down || decide (m.left = 0)
def spend (m : M) : M := if gone m then { m with down := true } else { m with left := if 0 < m.left then m.left - 1 else m.left }
def spendE (m : M) : Int := if gone m then 12 else 0
end Dk
/-- Only these blocks turn. -/
structure Mv (ks : List Nat) (w y : World) : Prop where
  os : y.os = w.os
  tape : y.tape = w.tape
  output : y.output = w.output
  size : w.heap.size ≤ y.heap.size
  block : ∀ k, k < w.heap.size → k ∉ ks → y.heap[k]? = w.heap[k]?
section
variable {ks : List Nat} {w x y z : World} {B k : Nat}
theorem Mv.refl (ks : List Nat) (w : World) : Mv ks w w := ⟨rfl, rfl, rfl, Nat.le_refl _, fun _ _ _ => rfl⟩
theorem Mv.trans (h : Mv ks w y) (g : Mv ks y z) : Mv ks w z :=
  ⟨g.os.trans h.os, g.tape.trans h.tape, g.output.trans h.output, Nat.le_trans h.size g.size, fun k hk hn => (g.block k (Nat.lt_of_lt_of_le hk h.size) hn).trans (h.block k hk hn)⟩
theorem Mv.of_below (h : Below w.heap.size w y) : Mv ks w y := ⟨h.os, h.tape, h.output, h.size, fun k hk _ => h.block k hk⟩
theorem Mv.drew (h : Mv ks w y) : Mv ks w y.drew := ⟨h.os, h.tape, h.output, h.size, h.block⟩
theorem Mv.alloc (h : Mv ks w y) (o : Obj) : Mv ks w (y.alloc o) := h.trans (Mv.of_below ((Below.refl _ _).alloc (Nat.le_refl _) o))
theorem Mv.only (h : Only k w y) (hk : k ∈ ks) : Mv ks w y := ⟨h.os, h.tape, h.output, h.size, fun j hj hn => h.block j hj (fun e => hn (e ▸ hk))⟩
theorem Mv.setCell (h : Mv ks w y) (a : Addr) (v : Value) (ha : a.block ∈ ks) : Mv ks w (y.setCell a v) := h.trans (Mv.only (Chg.setCell y a v).only ha)
theorem Mv.grown {row : Option Nat} (h : w.grownBy y row) (hk : ∀ j, row = some j → j ∈ ks) : Mv ks w y :=
  ⟨h.os, h.tape, h.output, h.size, fun j hj hn => h.block j hj (fun e => hn (hk j e.symm))⟩
theorem Mv.turned (h : w.mapTurned y k) (hk : k ∈ ks) : Mv ks w y := Mv.grown h.grown (fun j e => by cases e; exact hk)
theorem Mv.below (h : Mv ks w y) (hb : Below B x w) (hk : ∀ k ∈ ks, B ≤ k) (hB : B ≤ w.heap.size) : Below B x y :=
  hb.trans ⟨h.os, h.tape, h.output, h.size, fun k hkB => h.block k (by omega) (fun hm => by have := hk k hm; omega)⟩
end
/-- A sector's bytes: a row of bytes of its own, in a block of T. -/
def Sec (y : World) (T : Nat → Prop) (v : Value) (L : List Int) : Prop := y.ownsRow 0 5 1 v L.length (U8s L) ∧ Sha.Byt L ∧ ∀ g, v.ownBlock = some g → T g
theorem sec_nil (y : World) (T : Nat → Prop) : Sec y T (.slice none 0 0) [] := ⟨by unfold U8s; exact World.ownsRow_nil _ _ _ _, fun x hx => by simp at hx, fun g h => by cases h⟩
section
variable {w y z : World} {T T' : Nat → Prop} {v : Value} {L : List Int}
theorem Sec.keep (h : Sec y T v L) (hk : ∀ (g : Nat) (cur : Array Value), T g → y.heap[g]? = some (.cells cur 5 (0, 0)) → z.heap[g]? = y.heap[g]?) : Sec z T v L :=
  ⟨own_keepB h.1 (fun g hg => by
    obtain ⟨_, cur, h2⟩ := own_type h.1 g hg
    exact hk g cur (h.2.2 g hg) h2), h.2.1, h.2.2⟩
theorem Sec.lift (h : Sec y T v L) (hT : ∀ g, T g → T' g) : Sec y T' v L := ⟨h.1, h.2.1, fun g hg => hT g (h.2.2 g hg)⟩
theorem Sec.bs (h : Sec y T v L) : ∃ p c, v = .slice p L.length c ∧ Bs y p c L := by
  obtain ⟨p, c, h1, h2, _⟩ := own_bs h.1 h.2.1
  exact ⟨p, c, h1, h2⟩
theorem sec_of {B : Nat} (h : y.ownsRow B 5 1 v L.length (U8s L)) (hb : Sha.Byt L) (hT : ∀ g, B ≤ g → g < y.heap.size → T g) : Sec y T v L :=
  ⟨⟨h.1, by
    rcases h.2 with h1 | ⟨g, cap, cur, h1, h2, h3⟩
    · exact Or.inl h1
    · exact Or.inr ⟨g, cap, cur, h1, Nat.zero_le _, h3⟩⟩, hb, fun g hg => hT g (h.lt g hg).1 (h.lt g hg).2⟩
end
/-- Numbers as a slice sees them. -/
def IAt (y : World) (p : Option Addr) (L : List Int) : Prop := 0 < L.length → ∃ ab ao, p = some ⟨ab, ao, none⟩ ∧ ∀ j, j < L.length → y.cell? ⟨ab, ao + j, none⟩ = some (.int .i64 (L.getD j 0))
section
variable {T : Nat → Prop} {d lb rb cb : Nat} {m : Dk.M}
theorem own_len {w : World} {B e n : Nat} {v : Value} {xs : List Value} (h : w.ownsRow B e 1 v n xs) : ∃ a c, v = .slice a n c := by
  rcases h.2 with ⟨h2, h3⟩ | ⟨g, cap, cur, h2, _⟩
  · exact ⟨none, 0, by rw [h2, h3]⟩
  · exact ⟨_, cap, h2⟩
end
end Go.Proofs.Ythgjfjmampmiiaa

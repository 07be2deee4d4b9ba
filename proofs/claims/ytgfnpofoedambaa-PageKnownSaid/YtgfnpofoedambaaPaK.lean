/-
  What the texts of this layer share (picked out of elder texts by wip/pick.py).
-/
import Derived.WalkKit
import Derived.Laws.CopyOwn
import Derived.OwnWalk
import Derived.BigRegion
import Derived.WalkSpells
import Derived.Lib.Hide
import Derived.Deep.MidRow
import Derived.RegionTactic
import Derived.Deep.RegionHeld3
import Derived.OneCell
import Derived.StillTailTactics
import Derived.Laws.MakeOwn
import Derived.Laws.OwnMore
import Derived.BigQuiet
import Derived.Laws.AppendOwnNone
import Derived.OrdersHeld
import Derived.Lib.AppendZeros
import Derived.Laws.Tables
import Derived.Deep.Matrix
import Derived.RangeFuncNested
import Derived.RangeFuncBound
import Derived.RangeFuncCalls
import Derived.RangeFuncLeaves
import Derived.Shelf.Abstract
import Derived.Shelf.RegionOpen
import Derived.OwnWalkIn
import Derived.TacticsInMore
import Derived.LoopNIn
import Derived.LoopIn
import Derived.Test.YtgfnpofoedambaaChecked
import Derived.WalkLawsBesides
import Derived.Deep.QuietTactic
import Derived.Deep.WholeRow
import Derived.Deep.Cut
import Derived.StillTail
import Derived.Laws.StructEq
import Derived.ChangeKeysEq
import Derived.Laws.Closers25b
import Derived.OrdersIn
import Derived.OpenShut
import Derived.Deep.Slices
import Derived.RangeFuncWrites
import Derived.Laws.EntriesVeiled
import Derived.Deep.RegionLawGrows
import Derived.Deep.CutRange
import Derived.Deep.RegionLaw
import Derived.ArgAppend
import Derived.Lib.SlBytesConst
import Derived.Laws.Cover3
namespace Go.Proofs.Ytgfnpofoedambaa
open Go.ChangeShapes Go.WideShapes Go.RowKit
namespace Sha
def Byt (l : List Int) : Prop := ∀ x ∈ l, 0 ≤ x ∧ x ≤ 255
theorem byt_append {l m : List Int} (h : Byt l) (k : Byt m) : Byt (l ++ m) := fun x hx => (List.mem_append.1 hx).elim (h x) (k x)
end Sha
/-! ShaU -/
theorem Try.info_u8 : (Try.prog.info? 5).map (fun i => (i.zero, i.size, i.bytes)) = some (some (.int .u8 0), 1, 1) := by kernel_rfl
/-- Behind an append of one element onto a row of the call's own. -/
theorem below_own {B : Nat} {w wr w1 : World} {v : Value} {n : Nat} {xs : List Value} {o : Obj} {e : TypeId} (hB : Below B w wr) (hs : B ≤ wr.heap.size) (hown : wr.ownsRow B e 1 v n xs) (hg : (wr.alloc o).grownBy w1 v.ownBlock) : Below B w w1 :=
  (hB.alloc hs o).grown hg (by simp; omega) (fun j hj => (hown.lt j hj).1)
/-- What has been put together so far. -/
def U8s (l : List Int) : List Value := l.map (Value.int .u8)
theorem U8s_snoc (l : List Int) (x : Int) : U8s l ++ [.int .u8 x] = U8s (l ++ [x]) := by simp [U8s]
theorem u8_cell (w : World) (x : Int) (e : TypeId) : ∀ j u, [Value.int .u8 x][j]? = some u → (w.alloc (.cells #[.int .u8 x] e)).cell? (Addr.add ⟨w.heap.size, 0, none⟩ j) = some u := by
  intro j u hj
  match j, hj with
  | 0, hj => simp at hj; subst hj; simp [Addr.add]
theorem u8_one (x : Int) : ∀ u ∈ [Value.int .u8 x], u.oneCell' = true := by
  intro u hu; simp at hu; subst hu; rfl
attribute [irreducible] U8s
theorem take_snoc (L : List Int) (k : Nat) (hk : k < L.length) : L.take k ++ [L.getD k 0] = L.take (k + 1) := by
  rw [List.take_add_one, List.getElem?_eq_getElem hk, List.getD_eq_getElem?_getD, List.getElem?_eq_getElem hk]; rfl
/-! ShaL -/
/-- What turns block g alone. -/
structure Chg (g : Nat) (w w' : World) : Prop where
  os : w'.os = w.os
  tape : w'.tape = w.tape
  output : w'.output = w.output
  size : w'.heap.size = w.heap.size
  block : ∀ k, k ≠ g → w'.heap[k]? = w.heap[k]?
theorem Chg.setRow (w : World) (g : Nat) (cs : Array Value) : Chg g w (w.setRow g cs) := ⟨rfl, rfl, rfl, by simp, fun k hk => setRow_other w g k cs hk⟩
theorem Chg.setCell (w : World) (a : Addr) (v : Value) : Chg a.block w (w.setCell a v) := ⟨rfl, rfl, rfl, by simp, fun k hk => heap_setCell_other w a k v hk⟩
theorem Chg.drew {g : Nat} {w w' : World} (h : Chg g w w') : Chg g w w'.drew := ⟨h.os, h.tape, h.output, h.size, h.block⟩
theorem Chg.below {g B : Nat} {w0 w w' : World} (h : Chg g w w') (hb : Below B w0 w) (hg : B ≤ g) : Below B w0 w' :=
  hb.trans ⟨h.os, h.tape, h.output, by rw [h.size]; exact Nat.le_refl _, fun k hk => h.block k (by omega)⟩
section
variable {P : Program} {ops : Array Oper} {rest : List Oper} {a : Act} {w : World} {Q : Exit → Act → World → Prop} {D : Option Tmp} {T : TypeId} {ps : String} {af : Array Edge}
/-- A whole row out of a block that is known whole. -/
theorem row_load (ty : TypeId) (x : Operand) (g : Nat) (t : TypeId) (cs : Array Value) (fr : Nat × Nat) (d : TypeDesc) (hx : a.eval x = .pointer (some ⟨g, 0, none⟩)) (hg : w.heap[g]? = some (.cells cs t fr))
    (hu : P.underlying ty = some d) (hd : d.isRow = true) (hi : (P.info? ty).map (·.size) = some cs.size)
    (h : wpList P ops Q rest (a.put D (.agg cs)) w) : wpList P ops Q ({ dst := D, op := .load ty x, type := T, pos := ps, after := af, guard := none } :: rest) a w :=
  wpList_load_mid rfl ty x rfl g 0 hx cs.toList d (fun j v hv => by rw [cell_of_row w g (0 + j) cs t fr hg]; simpa using hv) hu hd (by simpa using hi) (by simpa using h)
/-- A part of a block that is known whole. -/
theorem mid_load (ty : TypeId) (x : Operand) (g o : Nat) (t : TypeId) (C : Array Value) (cs : List Value) (fr : Nat × Nat) (d : TypeDesc) (hx : a.eval x = .pointer (some ⟨g, o, none⟩)) (hg : w.heap[g]? = some (.cells C t fr))
    (hc : ∀ j v, cs[j]? = some v → C[o + j]? = some v) (hu : P.underlying ty = some d) (hd : d.isRow = true) (hi : (P.info? ty).map (·.size) = some cs.length)
    (h : wpList P ops Q rest (a.put D (.agg cs.toArray)) w) : wpList P ops Q ({ dst := D, op := .load ty x, type := T, pos := ps, after := af, guard := none } :: rest) a w :=
  wpList_load_mid rfl ty x rfl g o hx cs d (fun j v hv => by rw [cell_of_row w g (o + j) C t fr hg]; exact hc j v hv) hu hd hi h
/-- A row into a block that is known whole, from place o on. -/
theorem mid_store (ty : TypeId) (x y : Operand) (g o : Nat) (t : TypeId) (old cells : Array Value) (hx : a.eval x = .pointer (some ⟨g, o, none⟩)) (hy : a.eval y = .agg cells) (hg : w.heap[g]? = some (.cells old t (0, 0)))
    (hi : (P.info? ty).map (·.size) = some cells.size) (hs : o + cells.size ≤ old.size) (h1 : cells.all (·.oneCell') = true)
    (h : ∀ w', Hid (w'.heap[g]? = some (.cells (old.toList.take o ++ cells.toList ++ old.toList.drop (o + cells.size)).toArray t (0, 0))) → Chg g w w' → wpList P ops Q rest a w') :
    wpList P ops Q ({ dst := none, op := .store ty x y, type := T, pos := ps, after := af, guard := none } :: rest) a w :=
  wpList_plain rfl fun _ hK => by
    have hst := run_storeCells_at P g o t cells.toList 0 old w hg (by simpa using hs) (fun v hv => (Array.all_eq_true_iff_forall_mem.1 h1) v (by simpa using hv))
    have hsv : (storeVar ty ⟨g, o, none⟩ (.agg cells)).run P w = .ok () (w.setRow g (old.toList.take o ++ cells.toList ++ old.toList.drop (o + cells.size)).toArray) := by
      cases hq : P.info? ty with
      | none => simp [hq] at hi
      | some i =>
        have hs : cells.size = i.size := by simp [hq] at hi; omega
        simp only [Nat.add_zero, Array.length_toList] at hst
        simp [storeVar, sizeOf, typeInfo, hq, Value.cells, hs] at hst ⊢
        rw [hst]
    unfold Oper.wp execOp
    simp only [hx, hy, Instr.storeAt, Instr.sureAddr, Sem.run_bind, Sem.run_pure, Result.andThen_ok, hsv]
    exact hK _ _ (h _ (setRow_heap w g old _ t (0, 0) hg) (Chg.setRow w g _))
/-- A whole row into a block that is known whole. -/
theorem row_store (ty : TypeId) (x y : Operand) (g : Nat) (t : TypeId) (old cells : Array Value) (hx : a.eval x = .pointer (some ⟨g, 0, none⟩)) (hy : a.eval y = .agg cells) (hg : w.heap[g]? = some (.cells old t (0, 0)))
    (hi : (P.info? ty).map (·.size) = some cells.size) (hs : cells.size = old.size) (h1 : cells.all (·.oneCell') = true)
    (h : ∀ w', Hid (w'.heap[g]? = some (.cells cells t (0, 0))) → Chg g w w' → wpList P ops Q rest a w') :
    wpList P ops Q ({ dst := none, op := .store ty x y, type := T, pos := ps, after := af, guard := none } :: rest) a w :=
  mid_store ty x y g 0 t old cells hx hy hg hi (by omega) h1 (fun w' h1' h2' => h w' (show _ = _ by have := h1'.out; rw [this, hs]; congr 2; apply Array.ext'; simp) h2')
end
/-- Of what was there only block g may have turned. -/
structure Only (g : Nat) (w w' : World) : Prop where
  os : w'.os = w.os
  tape : w'.tape = w.tape
  output : w'.output = w.output
  size : w.heap.size ≤ w'.heap.size
  block : ∀ k, k < w.heap.size → k ≠ g → w'.heap[k]? = w.heap[k]?
theorem Only.refl (g : Nat) (w : World) : Only g w w := ⟨rfl, rfl, rfl, Nat.le_refl _, fun _ _ _ => rfl⟩
theorem Only.trans {g : Nat} {a b c : World} (h : Only g a b) (k : Only g b c) : Only g a c :=
  ⟨k.os.trans h.os, k.tape.trans h.tape, k.output.trans h.output, Nat.le_trans h.size k.size, fun i hi hg => (k.block i (Nat.lt_of_lt_of_le hi h.size) hg).trans (h.block i hi hg)⟩
theorem Only.drew {g : Nat} {w w' : World} (h : Only g w w') : Only g w w'.drew := ⟨h.os, h.tape, h.output, h.size, h.block⟩
theorem Chg.only {g : Nat} {w w' : World} (h : Chg g w w') : Only g w w' := ⟨h.os, h.tape, h.output, by rw [h.size]; exact Nat.le_refl _, fun k _ hk => h.block k hk⟩
theorem Only.alloc {g : Nat} {w w' : World} (h : Only g w w') (o : Obj) : Only g w (w'.alloc o) :=
  h.trans ⟨rfl, rfl, rfl, by simp, fun k hk _ => heap_alloc_old w' o hk⟩
/-- Where g is new, nothing that was there has turned. -/
theorem Only.below {g B : Nat} {w0 w w' : World} (h : Only g w w') (hb : Below B w0 w) (hg : B ≤ g) (hB : B ≤ w.heap.size) : Below B w0 w' :=
  hb.trans ⟨h.os, h.tape, h.output, h.size, fun k hk => h.block k (by omega) (by omega)⟩
theorem Only.cell {g : Nat} {w w' : World} (h : Only g w w') {b o : Nat} {v : Value} (hb : b ≠ g) (hc : w.cell? ⟨b, o, none⟩ = some v) : w'.cell? ⟨b, o, none⟩ = some v := by
  rw [World.cell?_of_block (h.block b (World.block_lt_of_cell? w _ hc) hb)]; exact hc
theorem Chg.trans {g : Nat} {a b c : World} (h : Chg g a b) (k : Chg g b c) : Chg g a c :=
  ⟨k.os.trans h.os, k.tape.trans h.tape, k.output.trans h.output, k.size.trans h.size, fun i hi => (k.block i hi).trans (h.block i hi)⟩
theorem Chg.refl (g : Nat) (w : World) : Chg g w w := ⟨rfl, rfl, rfl, rfl, fun _ _ => rfl⟩
theorem Chg.setCells (g : Nat) : ∀ (vs : List Value) (o : Nat) (w : World), Chg g w (w.setCells g o vs)
  | [], _, w => Chg.refl g w
  | v :: r, o, w => (Chg.setCell w ⟨g, o, none⟩ v).trans (Chg.setCells g r (o + 1) _)
theorem heap_setCells (g : Nat) (t : TypeId) : ∀ (vs : List Value) (o : Nat) (cur : List Value) (w : World), w.heap[g]? = some (.cells cur.toArray t (0, 0)) → o + vs.length ≤ cur.length →
    (w.setCells g o vs).heap[g]? = some (.cells (splice cur o vs).toArray t (0, 0))
  | [], o, cur, w, hg, _ => by simpa [World.setCells, splice] using hg
  | v :: r, o, cur, w, hg, hl => by
    have h1 := heap_setCell_same w g o cur.toArray t v hg
    have e : cur.toArray.setIfInBounds o v = (cur.set o v).toArray := by apply Array.ext'; simp
    rw [e] at h1
    have := heap_setCells g t r (o + 1) (cur.set o v) _ h1 (by simp at hl ⊢; omega)
    rw [World.setCells, this]
    have q := list_seg_step cur o v r (by simp at hl; omega)
    simp only [splice, List.length_cons]
    rw [← List.append_assoc, q]
    simp
/-! ### Regions that draw their order, by hand -/
section
variable {P : Program} {md : Region.Mode} {ops : Array Oper} {Q : Exit → Act → World → Prop} {fuel : Nat} {listed : Array Bool} {a : Act} {w : World}
theorem any_one (i : Nat) (hr : Region.ready md ops listed = [i]) (h : wpOp P ops Q i (wpAny P md ops Q fuel (listed.setIfInBounds i true)) a w) : wpAny P md ops Q (fuel + 1) listed a w :=
  wpAny_all hr (by simp) (fun j hj => by simp at hj; subst hj; exact h)
theorem any_two (i j : Nat) (hr : Region.ready md ops listed = [i, j]) (h : wpOp P ops Q i (wpAny P md ops Q fuel (listed.setIfInBounds i true)) a w)
    (h2 : wpOp P ops Q j (wpAny P md ops Q fuel (listed.setIfInBounds j true)) a w) : wpAny P md ops Q (fuel + 1) listed a w :=
  wpAny_all hr (by simp) (fun k hk => by simp at hk; rcases hk with rfl | rfl <;> assumption)
theorem any_take (i D : Nat) (v : Value) {op : Op} {T : TypeId} {ps : String} {af : Array Edge} (ho : ops[i]? = some { dst := some D, op := op, type := T, pos := ps, after := af, guard := none })
    (hs : Region.noSelect ops = true) (hf : Region.free md ops listed i = true) (hr : (Region.ready md ops listed).contains i = true)
    (hQ : ∀ c a w, Q (.panic c) (a.put (some D) v) w → Q (.panic c) a w) (hy : ∀ w, (execOp a.eval { dst := some D, op := op, type := T, pos := ps, after := af, guard := none }).run P w = .ok (.value v) w)
    (h : wpAny P md ops Q fuel (listed.setIfInBounds i true) (a.put (some D) v) w) : wpAny P md ops Q (fuel + 1) listed a w :=
  wpAny_take (oi := { dst := some D, op := op, type := T, pos := ps, after := af, guard := none }) ho hs hf hr hQ (Or.inl ⟨rfl, hy⟩) h
theorem op_plain {K : Act → World → Prop} (i : Nat) (o : Oper) (ho : ops[i]? = some o) (hg : o.guard = none) (h : Oper.wp P o a w K Q) : wpOp P ops Q i K a w := by
  unfold wpOp
  rw [ho]
  simp only [Region.wanted, hg, if_true]
  exact Or.inl h
theorem op_load {K : Act → World → Prop} (i : Nat) (ty : TypeId) (x : Operand) {D : Option Tmp} {T : TypeId} {ps : String} {af : Array Edge} (ho : ops[i]? = some { dst := D, op := .load ty x, type := T, pos := ps, after := af, guard := none })
    (b o : Nat) (cs : List Value) (d : TypeDesc) (hx : a.eval x = .pointer (some ⟨b, o, none⟩)) (hc : w.rangeAt b o cs)
    (hu : P.underlying ty = some d) (hd : d.isRow = true) (hi : (P.info? ty).map (·.size) = some cs.length) (h : K (a.put D (.agg cs.toArray)) w) : wpOp P ops Q i K a w :=
  op_plain i _ ho rfl (wp_load_mid ty x rfl b o hx cs d hc hu hd hi h)
theorem op_store {K : Act → World → Prop} (i : Nat) (ty : TypeId) (x y : Operand) {T : TypeId} {ps : String} {af : Array Edge} (ho : ops[i]? = some { dst := none, op := .store ty x y, type := T, pos := ps, after := af, guard := none })
    (g o : Nat) (t : TypeId) (cur : List Value) (cells : Array Value) (hx : a.eval x = .pointer (some ⟨g, o, none⟩)) (hy : a.eval y = .agg cells) (hg : w.heap[g]? = some (.cells cur.toArray t (0, 0)))
    (hi : (P.info? ty).map (·.size) = some cells.size) (hs : o + cells.size ≤ cur.length) (h1 : cells.all (·.oneCell') = true)
    (h : ∀ w', Hid (w'.heap[g]? = some (.cells (splice cur o cells.toList).toArray t (0, 0))) → Chg g w w' → K a w') : wpOp P ops Q i K a w :=
  op_plain i _ ho rfl (by
    have ht : w.there g o cells.size := fun j hj => by
      refine ⟨?_, frozen_of_row w g (o + j) _ _ hg⟩
      rw [cell_of_row w g (o + j) _ _ _ hg]
      simp
      omega
    refine wp_store_mid ty x y rfl g o cells hx hy ht hi h1 ?_
    exact h _ (heap_setCells g t cells.toList o cur w hg (by simpa using hs)) (Chg.setCells g _ _ _))
end
/-! ShaE -/
theorem bytes_one (l : List Int) : ∀ v ∈ l.map (Value.int .u8), v.oneCell' = true := fun v hv => by
  obtain ⟨x, _, rfl⟩ := List.mem_map.1 hv; rfl
/-! ShaO -/
section
variable {P : Program} {ops : Array Oper} {rest : List Oper} {a : Act} {w : World} {Q : Exit → Act → World → Prop} {D : Option Tmp} {T : TypeId} {ps : String} {af : Array Edge}
/-- make of one-cell elements: a new block, known whole. -/
theorem make_at (t e : TypeId) (x y : Operand) (z : Value) (bytes l c : Nat) (hx : a.eval x = .int .i64 (l : Int)) (hy : a.eval y = .int .i64 (c : Int)) (hu : P.underlying t = some (.slice e))
    (hi : (P.info? e).map (fun i => (i.zero, i.size, i.bytes)) = some (some z, 1, bytes)) (hz : z.cells = #[z]) (hlc : l ≤ c) (hb : bytes * c ≤ 281474976710656) (hc : c ≤ 9223372036854775807)
    (h : ∀ w', Hid (w'.heap[w.heap.size]? = some (.cells (List.replicate c z).toArray e (0, 0))) → Below w.heap.size w w' → Hid (w'.heap.size = w.heap.size + 1) → wpList P ops Q rest (a.put D (.slice (some ⟨w.heap.size, 0, none⟩) l c)) w') :
    wpList P ops Q ({ dst := D, op := .makeSlice t x y, type := T, pos := ps, after := af, guard := none } :: rest) a w :=
  wpList_plain rfl fun K hK => by
    obtain ⟨i, hi1, hi2, hi3, hi4⟩ := info_parts hi
    have hrun := run_make (P := P) w t e i z hu hi1 hi2 .i64 .i64 l c (by omega) (by omega) (by rw [hi4]; omega) (by omega)
    rw [hi3, hz, Nat.mul_one] at hrun
    have hl : (madeCells #[z] c).toList = List.replicate c z := toList_madeCells_one z c
    have e2 : madeCells #[z] c = (List.replicate c z).toArray := by rw [← hl, Array.toArray_toList]
    unfold Oper.wp execOp
    simp only [hx, hy, hrun, Sem.run_bind, Sem.run_pure, Result.andThen_ok, Int.toNat_natCast, e2]
    exact hK _ _ (h _ (heap_alloc_new w _) ((Below.refl _ w).alloc (Nat.le_refl _) _) (by show _ = _; simp))
/-- append of one element where there is room, in a block that is known whole. -/
theorem append_at (s x : Operand) (t e : TypeId) (g n cap : Nat) (cur : List Value) (ad : Addr) (m : Nat) (u : Value) (hs : a.eval s = .slice (some ⟨g, 0, none⟩) n cap) (hx : a.eval x = .slice (some ad) 1 m) (hg : w.heap[g]? = some (.cells cur.toArray e (0, 0)))
    (hu : P.underlying t = some (.slice e)) (hi : (P.info? e).map (·.size) = some 1) (hn : w.cell? ad = some u) (h1 : u.oneCell' = true) (hroom : n + 1 ≤ cap) (hfit : n + 1 ≤ cur.length)
    (h : ∀ w', Hid (w'.heap[g]? = some (.cells (splice cur n [u]).toArray e (0, 0))) → Chg g w w' → wpList P ops Q rest (a.put D (.slice (some ⟨g, 0, none⟩) (n + 1) cap)) w') :
    wpList P ops Q ({ dst := D, op := .call { callee := .builtin .append, args := #[s, x], argTypes := #[t, t] }, type := T, pos := ps, after := af, guard := none } :: rest) a w :=
  wpList_plain rfl fun K hK => by
    cases hq : P.info? e with
    | none => simp [hq] at hi
    | some i =>
      have hsz : i.size = 1 := by simpa [hq] using hi
      have hadd : ad.add 0 = ad := by simp [Addr.add]
      have hrun := run_append_room (P := P) w t T e i hu hq g n cap cur.toArray hg ad 1 m [u] (by simp [hsz]) (fun j v hv => by
        cases j with
        | zero => simp at hv; subst hv; rw [hadd]; exact hn
        | succ j => simp at hv) (by simpa using h1) hroom (by simp [hsz]; omega)
      unfold Oper.wp
      simp [execOp, resolve, invoke, builtin, hs, hx, hrun, Result.andThen]
      refine hK _ _ ?_
      have hcg := Chg.setRow w g (cur.toArray.toList.take (n * i.size) ++ [u] ++ cur.toArray.toList.drop (n * i.size + 1)).toArray
      have hh := setRow_heap w g cur.toArray (cur.toArray.toList.take (n * i.size) ++ [u] ++ cur.toArray.toList.drop (n * i.size + 1)).toArray e (0, 0) hg
      simp only [hsz, Nat.mul_one] at hcg hh ⊢
      refine h _ ?_ (by simpa using hcg)
      show _ = _
      simpa [splice] using hh
end
/-! KitA -/
/-- The bytes l in memory, as a slice sees them. -/
def BAt (w : World) (p : Option Addr) (l : List Int) : Prop :=
  Sha.Byt l ∧ (0 < l.length → ∃ ab ao, p = some ⟨ab, ao, none⟩ ∧ ∀ j, j < l.length → w.cell? ⟨ab, ao + j, none⟩ = some (.int .u8 (l.getD j 0)))
theorem BAt.below {w w' : World} {B : Nat} {p : Option Addr} {l : List Int} (h : BAt w p l) (hb : Below B w w') (hB : w.heap.size ≤ B) : BAt w' p l :=
  ⟨h.1, fun h0 => by
    obtain ⟨ab, ao, h1, h2⟩ := h.2 h0
    have hlt : ab < w.heap.size := World.block_lt_of_cell? w _ (h2 0 h0)
    exact ⟨ab, ao, h1, fun j hj => (hb.cell (Nat.lt_of_lt_of_le hlt hB)).trans (h2 j hj)⟩⟩
/-- What came in lies beneath the first heap's end, and stays. -/
theorem BAt.old {w w1 : World} {p : Option Addr} {l : List Int} (h : BAt w p l) (hb : Below w.heap.size w w1) : BAt w1 p l := h.below hb (Nat.le_refl _)
theorem BAt.drew {w : World} {p : Option Addr} {l : List Int} (h : BAt w p l) : BAt w.drew p l := h
theorem BAt.drewN {w : World} {p : Option Addr} {l : List Int} (h : BAt w p l) (n : Nat) : BAt (w.drewN n) p l := h
theorem byt_rep (n : Nat) (x : Int) (h : 0 ≤ x ∧ x ≤ 255) : Sha.Byt (List.replicate n x) := fun y hy => by
  rw [List.mem_replicate] at hy
  omega
/-- A row that is known whole, read from its beginning. -/
theorem bat_row {w : World} {g : Nat} {l : List Int} {t : TypeId} {fr : Nat × Nat} (h : w.heap[g]? = some (.cells (l.map (Value.int .u8)).toArray t fr)) (hb : Sha.Byt l) : BAt w (some ⟨g, 0, none⟩) l :=
  ⟨hb, fun _ => ⟨g, 0, rfl, fun j hj => by
    rw [cell_of_row w g (0 + j) _ _ _ h]
    simp [List.getD_eq_getElem?_getD, hj]⟩⟩
theorem getD_append_left' (l m : List Int) (j : Nat) (hj : j < l.length) : (l ++ m).getD j 0 = l.getD j 0 := by
  rw [List.getD_eq_getElem?_getD, List.getD_eq_getElem?_getD, List.getElem?_append_left hj]
theorem BAt.pre {w : World} {p : Option Addr} {l m : List Int} (h : BAt w p (l ++ m)) : BAt w p l :=
  ⟨fun x hx => h.1 x (List.mem_append_left _ hx), fun h0 => by
    obtain ⟨ab, ao, h1, h2⟩ := h.2 (by rw [List.length_append]; omega)
    refine ⟨ab, ao, h1, fun j hj => ?_⟩
    rw [h2 j (by rw [List.length_append]; omega), getD_append_left' l m j hj]⟩
/-- Five marks behind a text. -/
def mk5 (L : List Int) : List Int := L ++ List.replicate 5 165
theorem mk5_len (L : List Int) : (mk5 L).length = L.length + 5 := by simp [mk5]
theorem mk5_byt {L : List Int} (h : Sha.Byt L) : Sha.Byt (mk5 L) := Sha.byt_append h (byt_rep 5 165 (by omega))
theorem mk5_lo (L : List Int) (j : Nat) (hj : j < L.length) : (mk5 L).getD j 0 = L.getD j 0 := getD_append_left' L _ j hj
theorem mk5_hi (L : List Int) (j : Nat) (h1 : L.length ≤ j) (h2 : j < L.length + 5) : (mk5 L).getD j 0 = 165 := by
  unfold mk5
  rw [List.getD_eq_getElem?_getD, List.getElem?_append_right h1, List.getElem?_replicate, if_pos (by omega)]
  rfl
def fl5 (L : List Int) (k : Nat) : List Int := (mk5 L).take k ++ List.replicate (L.length + 5 - k) 0
theorem fl5_len (L : List Int) (k : Nat) (hk : k ≤ L.length + 5) : (fl5 L k).length = L.length + 5 := by simp [fl5, mk5]; omega
theorem fl5_zero (L : List Int) : (fl5 L 0).map (Value.int .u8) = List.replicate (L.length + 5) (Value.int .u8 0) := by simp [fl5]
theorem fl5_all (L : List Int) : fl5 L (L.length + 5) = mk5 L := by
  unfold fl5
  rw [List.take_of_length_le (by rw [mk5_len]; omega), Nat.sub_self]
  simp
theorem fl5_step (L : List Int) (k : Nat) (hk : k < L.length + 5) : (fl5 L k).set k ((mk5 L).getD k 0) = fl5 L (k + 1) := by
  unfold fl5
  have hl : ((mk5 L).take k).length = k := by simp [mk5]; omega
  rw [List.set_append_right _ _ (by omega), hl, Nat.sub_self, show L.length + 5 - k = (L.length + 5 - (k + 1)) + 1 by omega, List.replicate_succ, List.set_cons_zero,
    ← take_snoc (mk5 L) k (by rw [mk5_len]; omega), List.append_assoc]
  rfl
theorem fl5_cell {w : World} {g : Nat} {L : List Int} {k : Nat} {t : TypeId} {fr : Nat × Nat} (h : w.heap[g]? = some (.cells ((fl5 L k).map (Value.int .u8)).toArray t fr)) (hk : k ≤ L.length + 5) (j : Nat) (hj : j < L.length + 5) : w.cell? ⟨g, j, none⟩ = some (.int .u8 ((fl5 L k).getD j 0)) := by
  rw [cell_of_row w g j _ _ _ h]
  have := fl5_len L k hk
  simp [List.getD_eq_getElem?_getD, this, hj]
attribute [irreducible] fl5 mk5
theorem set_u8' {w : World} {g i : Nat} {l : List Int} {x : Int} {t : TypeId} (h : w.heap[g]? = some (.cells (l.map (Value.int .u8)).toArray t (0, 0))) :
    (w.setCell ⟨g, i, none⟩ (.int .u8 x)).heap[g]? = some (.cells ((l.set i x).map (Value.int .u8)).toArray t (0, 0)) := by
  rw [heap_setCell_same w g i _ _ _ h]
  congr 2
  apply Array.ext'
  simp
/-- What LentBytes says. -/
def LentSay (L : List Int) (w : World) (e : Ending) (w' : World) : Prop :=
  ∃ g, e = .returned (.slice (some ⟨g, 0, none⟩) (L.length + 5) (L.length + 5)) ∧ w.heap.size ≤ g ∧ w'.heap[g]? = some (.cells ((mk5 L).map (Value.int .u8)).toArray 5 (0, 0)) ∧ Below w.heap.size w w'
set_option maxHeartbeats 1000000 in
set_option maxRecDepth 100000 in
theorem lent_any (L : List Int) (p : Option Addr) (cap : Nat) (w : World) (hp : BAt w p L) (hL : L.length ≤ 1000000) :
    Calls Try.prog 17 #[.slice p L.length cap] w (LentSay L w) := by
  have Hp := Lib.hid hp; clear hp
  have hcast : Hid (((L.length : Int) + 5) = ((L.length + 5 : Nat) : Int)) := by show _ = _; omega
  go_enter Try.func17, Try.ntmps17
  go_upto_region 2 with ((with_reducible refine make_at _ 5 _ _ (.int .u8 0) 1 (L.length + 5) (L.length + 5) ?_ ?_ ?_ ?_ rfl ?_ ?_ ?_ ?_); (exact congrArg (Value.int .i64) hcast.out); (exact congrArg (Value.int .i64) hcast.out); (exact Try.underlying29); (exact Try.info_u8); omega; omega; omega; intro w1 G1 hb1 hs1)
  have G1' : Hid (w1.heap[w.heap.size]? = some (.cells ((fl5 L 0).map (Value.int .u8)).toArray 5 (0, 0))) := by
    show _ = _; rw [fl5_zero]; exact G1.out
  have HB1 := Lib.hid hb1
  clear hb1 G1 hcast
  go_wp2
  go_loopw [4] (fun v4 wr => ∃ k : Nat, k ≤ L.length + 5 ∧ v4 = .int .i64 k ∧ Hid (wr.heap[w.heap.size]? = some (.cells ((fl5 L k).map (Value.int .u8)).toArray 5 (0, 0))) ∧ Hid (Below w.heap.size w wr)) (fun v4 _ => L.length + 5 - (intOf v4).toNat)
  case atStart => exact ⟨0, by omega, rfl, G1'.out, HB1.out⟩
  case round =>
    clear G1' HB1 hs1
    obtain ⟨k, hk, rfl, HG, HB⟩ := hrel
    by_cases hlt : k < L.length + 5
    · have c0 := fl5_cell HG.out hk k hlt
      have f0 := frozen_of_row wr w.heap.size k _ _ HG.out
      generalize (fl5 L k).getD k 0 = y0 at c0
      by_cases hin : k < L.length
      · obtain ⟨ab, ao, hpp, hcs⟩ := Hp.out.2 (by omega)
        subst hpp
        have hlt2 : ab < w.heap.size := World.block_lt_of_cell? w _ (hcs 0 (by omega))
        have c1 : wr.cell? ⟨ab, ao + k, none⟩ = some (.int .u8 (L.getD k 0)) := (HB.out.cell hlt2).trans (hcs k hin)
        have c2 : (wr.setCell ⟨w.heap.size, k, none⟩ (.int .u8 165)).cell? ⟨ab, ao + k, none⟩ = some (.int .u8 (L.getD k 0)) := by
          rw [World.cell?_of_block (w := wr) (heap_setCell_other _ _ _ _ (by simp; omega))]; exact c1
        have h1 := set_u8' (i := k) (x := 165) HG.out
        have c3 : (wr.setCell ⟨w.heap.size, k, none⟩ (.int .u8 165)).cell? ⟨w.heap.size, k, none⟩ = some (.int .u8 165) := by
          rw [cell_of_row _ _ k _ _ _ h1]
          have := fl5_len L k hk
          simp [this, hlt]
        have f3 := frozen_of_row _ w.heap.size k _ _ h1
        have HF : Hid ((fl5 L k).set k (L.getD k 0) = fl5 L (k + 1)) := by show _ = _; rw [← mk5_lo L k hin]; exact fl5_step L k hlt
        generalize L.getD k 0 = x at *
        have H1 := Lib.hid h1
        clear h1
        go_wp2
        refine ⟨⟨k + 1, by omega, by go_num, ?_, ?_⟩, by simp [intOf]; omega⟩
        · have h2 := set_u8' (i := k) (x := x) H1.out
          rw [List.set_set, HF.out] at h2
          exact h2
        · exact (HB.out.setCell (by simp) _).setCell (by simp) _
      · have HF : Hid ((fl5 L k).set k 165 = fl5 L (k + 1)) := by show _ = _; rw [← mk5_hi L k (by omega) hlt]; exact fl5_step L k hlt
        go_wp2
        refine ⟨⟨k + 1, by omega, by go_num, ?_, ?_⟩, by simp [intOf]; omega⟩
        · have h2 := set_u8' (i := k) (x := 165) HG.out
          rw [HF.out] at h2
          exact h2
        · exact HB.out.setCell (by simp) _
    · have E : k = L.length + 5 := by omega
      have HG2 : Hid (wr.heap[w.heap.size]? = some (.cells ((mk5 L).map (Value.int .u8)).toArray 5 (0, 0))) := by
        have := HG.out
        rw [E, fl5_all] at this
        exact this
      have hge : L.length + 5 ≤ k := by omega
      clear E hlt HG
      go_wp2
      go_ret
      exact ⟨w.heap.size, rfl, Nat.le_refl _, HG2.out, HB.out⟩
theorem below_dn {B : Nat} {w w' : World} (h : Below B w w') (n : Nat) : Below B w (w'.drewN n) := ⟨h.os, h.tape, h.output, h.size, h.block⟩
def YesSay (w : World) (e : Ending) (w' : World) : Prop := e = .returned (.bool true) ∧ Below w.heap.size w w'
set_option maxHeartbeats 1000000 in
set_option maxRecDepth 100000 in
theorem same_any (L : List Int) (p q : Option Addr) (n m c d : Nat) (hn : L.length = n) (hm : L.length = m) (w : World) (hp : BAt w p L) (hq : BAt w q L) (hL : L.length ≤ 10000000) :
    Calls Try.prog 13 #[.slice p n c, .slice q m d] w (YesSay w) := by
  subst hn
  subst hm
  have Hp := Lib.hid hp; clear hp
  have Hq := Lib.hid hq; clear hq
  go_enter Try.func13, Try.ntmps13
  go_wp2
  go_loopw [5] (fun v5 wr => ∃ k : Nat, k ≤ L.length ∧ v5 = .int .i64 k ∧ Hid (Below w.heap.size w wr)) (fun v5 _ => L.length - (intOf v5).toNat)
  case atStart => exact ⟨0, by omega, rfl, Below.refl _ _⟩
  case round =>
    obtain ⟨k, hk, rfl, HB⟩ := hrel
    by_cases hlt : k < L.length
    · obtain ⟨ab, ao, hpp, hcs⟩ := (Hp.out.old HB.out).2 (by omega)
      obtain ⟨bb, bo, hqq, hds⟩ := (Hq.out.old HB.out).2 (by omega)
      subst hpp
      subst hqq
      have c0 := hcs k hlt
      have c1 := hds k hlt
      have hn : 0 ≤ (k : Int) := by omega
      have hm : (k : Int) < (L.length : Int) := by omega
      generalize L.getD k 0 = x at *
      go_wp2
      go_quiet (fail)
      go_wp2
      exact ⟨⟨k + 1, by omega, by go_num, below_dn HB.out _⟩, by simp [intOf]; omega⟩
    · have E : k = L.length := by omega
      have hge : L.length ≤ k := by omega
      clear hlt E
      go_wp2
      go_ret
      exact ⟨rfl, HB.out⟩
theorem BAt.at {w : World} {g : Nat} {l : List Int} (h : BAt w (some ⟨g, 0, none⟩) l) (j : Nat) (hj : j < l.length) : w.cell? ⟨g, j, none⟩ = some (.int .u8 (l.getD j 0)) := by
  obtain ⟨ab, ao, h1, h2⟩ := h.2 (by omega)
  cases h1
  have := h2 j hj
  rwa [Nat.zero_add] at this
set_option maxHeartbeats 1000000 in
set_option maxRecDepth 100000 in
theorem kept_any (L : List Int) (g : Nat) (q : Option Addr) (c d : Nat) (w : World) (hp : BAt w (some ⟨g, 0, none⟩) (mk5 L)) (hq : BAt w q L) (hL : L.length ≤ 1000000) (hc : L.length + 5 ≤ c) :
    Calls Try.prog 20 #[.slice (some ⟨g, 0, none⟩) (L.length + 5) c, .slice q L.length d] w (YesSay w) := by
  have Hp := Lib.hid hp; clear hp
  have Hq := Lib.hid hq; clear hq
  have HPL : Hid (BAt w (some ⟨g, 0, none⟩) L) := by
    have h := Hp.out
    unfold mk5 at h
    exact h.pre
  go_enter Try.func20, Try.ntmps20
  go_wp2_with (go_at_call 13; refine (same_any L _ _ _ _ _ _ rfl rfl _ HPL.out Hq.out (by omega)).mono ?_; rintro e w1 ⟨rfl, hb1⟩)
  have HB1 := Lib.hid hb1
  clear hb1
  go_loopw [5] (fun v5 wr => ∃ k : Nat, k ≤ 5 ∧ v5 = .int .i64 ((L.length : Int) + k) ∧ Hid (Below w.heap.size w wr)) (fun v5 _ => L.length + 5 - (intOf v5).toNat)
  case atStart => exact ⟨0, by omega, by simp, HB1.out⟩
  case round =>
    clear HB1
    obtain ⟨k, hk, rfl, HB⟩ := hrel
    by_cases hlt : k < 5
    · have c0 := (Hp.out.old HB.out).at (L.length + k) (by rw [mk5_len]; omega)
      rw [mk5_hi L (L.length + k) (by omega) (by omega)] at c0
      go_wp2
      exact ⟨⟨k + 1, by omega, by congr 1, HB.out⟩, by simp [intOf]; omega⟩
    · have E : k = 5 := by omega
      subst E
      go_wp2
      go_ret
      exact ⟨rfl, HB.out⟩
/-! TurC -/
theorem own_keepX {w w' : World} {B n : Nat} {v : Value} {xs : List Value} {e : TypeId} {s : Nat} (h : w.ownsRow B e s v n xs) (hb : Below w.heap.size w w') : w'.ownsRow B e s v n xs := by
  refine ⟨h.1, ?_⟩
  rcases h.2 with h' | ⟨g, cap, cur, hv, q0, q1, q2⟩
  · exact Or.inl h'
  · exact Or.inr ⟨g, cap, cur, hv, q0, (hb.block _ (lt_of_block q1)).trans q1, q2⟩
theorem u8_at {w : World} {B n g c : Nat} {l : List Int} (h : w.ownsRow B 5 1 (.slice (some ⟨g, 0, none⟩) n c) n (U8s l)) (j : Nat) (hj : j < n) : w.cell? ⟨g, j, none⟩ = some (.int .u8 (l.getD j 0)) := by
  have hl : (U8s l).length = n := by have := h.1; simpa using this
  rw [h.cellAt j (by omega)]
  unfold U8s at *
  simp only [List.length_map] at hl
  rw [List.getElem?_map, List.getElem?_eq_getElem (by omega), List.getD_eq_getElem?_getD, List.getElem?_eq_getElem (by omega)]
  rfl
/-! AnyH -/
section
variable {P : Program} {md : Region.Mode} {ops : Array Oper} {Q : Exit → Act → World → Prop} {S : World → Prop}
theorem anyH_take (i D : Nat) (v : Value) {fuel : Nat} {listed : Array Bool} {a : Act} {w : World} {op : Op} {T : TypeId} {ps : String} {af : Array Edge} {gd : Option (Nat × Bool)} (hS : S w) (ho : ops[i]? = some { dst := some D, op := op, type := T, pos := ps, after := af, guard := gd })
    (hs : Region.noSelect ops = true) (hf : Region.free md ops listed i = true) (hr : (Region.ready md ops listed).contains i = true)
    (hQ : ∀ c a w, Q (.panic c) (a.put (some D) v) w → Q (.panic c) a w) (hw : Region.wanted { dst := some D, op := op, type := T, pos := ps, after := af, guard := gd } (yielded ops a.tmps) = true) (hy : ∀ w, S w → (execOp a.eval { dst := some D, op := op, type := T, pos := ps, after := af, guard := gd }).run P w = .ok (.value v) w)
    (h : wpAnyH P md ops Q S fuel (listed.setIfInBounds i true) (a.put (some D) v) w) : wpAnyH P md ops Q S (fuel + 1) listed a w :=
  wpAnyH_first ho (Region.noSelect_spec hs) hQ fuel listed a w (Region.free_spec ho hf) (by simpa using hr) (Or.inl ⟨hw, hy⟩) hS h
theorem anyH_one (i : Nat) {fuel : Nat} {listed : Array Bool} {a : Act} {w : World} (hr : Region.ready md ops listed = [i])
    (h : wpOp P ops Q i (fun a' w' => S w' ∧ wpAnyH P md ops Q S fuel (listed.setIfInBounds i true) a' w') a w) : wpAnyH P md ops Q S (fuel + 1) listed a w :=
  ⟨fun h0 => absurd (hr ▸ h0) (by simp), fun j hj => by
    rw [hr] at hj
    simp at hj
    subst hj
    exact h⟩
end
/-! CtrL -/
/-! Contracts: the reference's counter mode (rillref04.low, Block). -/
/-! Contract: SpoilBytes of bytes of the call's own. -/
/-- What a call leaves that writes over a row of bytes alone. -/
def Sp (v : Value) (w w' : World) : Prop := w' = w ∨ ∃ g, v.ownBlock = some g ∧ Only g w w'
theorem Sp.bat {v : Value} {w w' : World} {p : Option Addr} {L : List Int} (h : Sp v w w') (hb : BAt w p L) (hn : 0 < L.length → ∀ g, v.ownBlock = some g → ∀ b o s, p = some ⟨b, o, s⟩ → b ≠ g) : BAt w' p L := by
  rcases h with rfl | ⟨g, hg, ho⟩
  · exact hb
  · refine ⟨hb.1, fun h0 => ?_⟩
    obtain ⟨b, o, rfl, hc⟩ := hb.2 h0
    exact ⟨b, o, rfl, fun j hj => ho.cell (hn h0 g hg b o none rfl) (hc j hj)⟩
theorem Sp.below {v : Value} {w0 w w' : World} {B : Nat} (h : Sp v w w') (hb : Below B w0 w) (hB : B ≤ w.heap.size) (hg : ∀ g, v.ownBlock = some g → B ≤ g) : Below B w0 w' := by
  rcases h with rfl | ⟨g, hv, ho⟩
  · exact hb
  · exact ho.below hb (hg g hv) hB
/-! SeA -/
set_option maxHeartbeats 1000000 in
set_option maxRecDepth 100000 in
/-- Room for so many bytes, out of nothing. -/
theorem grow_nil (n : Nat) (hn : n ≤ 1000000000) (w : World) :
    Calls Try.prog 49 #[.slice none 0 0, .int .i64 n] w fun e w' => ∃ v, e = .returned v ∧ w'.ownsRow w.heap.size 5 1 v 0 (U8s []) ∧ Below w.heap.size w w' := by
  obtain ⟨i0, hi, hz0, hz1, hz2⟩ := info_parts Try.info_u8
  have h1 : ¬ ((n : Int) < 0) := by omega
  by_cases h0 : 0 < n
  · have h0' : (n : Int) > 0 := by omega
    have hcm := grownCap_le_maxLen w n 0 5 (by unfold maxLen; omega)
    have hcn : n ≤ grownCap w n 0 5 := grownCap_ge w _ _ _
    have hr : ∀ ty, (Builtin.append_ #[29, 3] ty #[.slice none 0 0, .int .i64 n]).run Try.prog w = _ := fun ty =>
      Lib.run_append_nil_zeros w 29 3 ty 5 i0 (.int .u8 0) .i64 .i64 Try.underlying29 Try.underlying3 hi hz0 n h0 (by omega) (by omega) (by rw [hz2]; omega)
    have hrow : ∀ c, c ≤ maxLen → n ≤ c → (w.drew.alloc (.cells (Builtin.zeroCells (Value.int .u8 0).cells n ++ Builtin.zeroCells (Value.int .u8 0).cells (c - n)) 5)).ownsRow w.heap.size 5 1 (.slice (some ⟨w.heap.size, 0, none⟩) 0 c) 0 (U8s []) := fun c hc hnc =>
      ⟨by unfold U8s; rfl, Or.inr ⟨w.heap.size, c, _, rfl, Nat.le_refl _, heap_alloc_new w.drew _, Nat.zero_le _, hc, by simp only [Array.size_append, size_zeroCells]; show n * 1 + (c - n) * 1 = c * 1; omega, by unfold U8s; simp⟩⟩
    have hbel : ∀ C, Below w.heap.size w (w.drew.alloc C) := fun C => (Below.refl _ w).drew.alloc (Nat.le_refl _) C
    generalize grownCap w n 0 5 = G at *
    go_enter Try.func49, Try.ntmps49
    go_wp2_with (first
      | (at_builtin; refine Lib.wpList_append_run _ rfl _ _ _ _ rfl _ _ rfl rfl _ _ (hr _) ?_)
      | go_in)
    go_ret
    exact ⟨_, rfl, hrow G hcm hcn, hbel _⟩
  · obtain rfl : n = 0 := by omega
    go_enter Try.func49, Try.ntmps49
    go_wp2
    go_ret
    exact ⟨_, rfl, by unfold U8s; exact World.ownsRow_nil _ _ _ _, Below.refl _ _⟩
/-! SeB -/
/-- Bytes that came in: what they are, where they lie, and how much room is behind them. -/
structure Bs (w : World) (p : Option Addr) (c : Nat) (L : List Int) : Prop where
  bat : BAt w p L
  cap : L.length ≤ c ∧ c ≤ 9223372036854775807
  nil : p = none → L = [] ∧ c = 0
theorem Bs.old {w x : World} {p : Option Addr} {c : Nat} {L : List Int} (h : Bs w p c L) (hb : Below w.heap.size w x) : Bs x p c L := ⟨h.bat.old hb, h.cap, h.nil⟩
theorem bs_none (w : World) : Bs w none 0 [] := ⟨⟨fun x hx => by simp at hx, fun h => by simp at h⟩, ⟨Nat.le_refl _, by omega⟩, fun _ => ⟨rfl, rfl⟩⟩
theorem bs_row {w : World} {g c : Nat} {L : List Int} (h : BAt w (some ⟨g, 0, none⟩) L) (hc : L.length ≤ c ∧ c ≤ 9223372036854775807) : Bs w (some ⟨g, 0, none⟩) c L := ⟨h, hc, fun e => by cases e⟩
/-- Bytes of the call's own, as they are read. -/
theorem own_bs {w : World} {B n : Nat} {v : Value} {l : List Int} (h : w.ownsRow B 5 1 v n (U8s l)) (hb : Sha.Byt l) : ∃ p c, v = .slice p l.length c ∧ Bs w p c l ∧ l.length = n := by
  have hl : l.length = n := by
    have := h.1
    unfold U8s at this
    simpa using this
  rcases h.2 with ⟨rfl, rfl⟩ | ⟨g, cap, cur, rfl, _, _, h1, h2, _⟩
  · obtain rfl : l = [] := List.eq_nil_of_length_eq_zero hl
    exact ⟨none, 0, rfl, bs_none w, rfl⟩
  · refine ⟨some ⟨g, 0, none⟩, cap, by rw [hl], bs_row ⟨hb, fun h0 => ⟨g, 0, rfl, fun j hj => ?_⟩⟩ ⟨by omega, by unfold maxLen at h2; omega⟩, hl⟩
    rw [Nat.zero_add]
    exact u8_at h j (by omega)
theorem bs_cells {w : World} {ad : Addr} {R : List Int} (h : BAt w (some ad) R) : ∀ j u, (R.map (Value.int .u8))[j]? = some u → w.cell? (ad.add j) = some u := fun j u hj => by
  have hjl : j < R.length := by have := (List.getElem?_eq_some_iff.1 hj).1; simpa using this
  obtain ⟨ab, ao, h1, h2⟩ := h.2 (by omega)
  cases h1
  rw [Addr.add_mid, h2 j hjl]
  rw [List.getElem?_map, List.getElem?_eq_getElem hjl] at hj
  rw [List.getD_eq_getElem?_getD, List.getElem?_eq_getElem hjl]
  simpa using hj
/-- append of bytes, wherever they lie, onto a row of the call's own. -/
theorem append_bts {ops : Array Oper} {rest : List Oper} {a : Act} {w : World} {Q : Exit → Act → World → Prop} {D : Option Tmp} {T : TypeId} {ps : String} {af : Array Edge} (s x : Operand) (ys : List Int) (base : Nat) (v : Value) (n : Nat) (l : List Int) (p : Option Addr) (m c : Nat) (hs : a.eval s = v)
    (hx : a.eval x = .slice p m c) (hm : ys.length = m) (hc : Bs w p c ys) (hown : w.ownsRow base 5 1 v n (U8s l)) (hn : n + m ≤ 1000000000000) (hb : base ≤ w.heap.size)
    (h : ∀ v' w', w'.ownsRow base 5 1 v' (n + m) (U8s (l ++ ys)) → w.grownBy w' v.ownBlock → wpList Try.prog ops Q rest (a.put D v') w') :
    wpList Try.prog ops Q ({ dst := D, op := .call { callee := .builtin .append, args := #[s, x], argTypes := #[29, 29] }, type := T, pos := ps, after := af, guard := none } :: rest) a w := by
  subst hm
  obtain ⟨i0, hi, hz0, hz1, hz2⟩ := info_parts Try.info_u8
  cases p with
  | none =>
    obtain ⟨rfl, rfl⟩ := hc.nil rfl
    refine wpList_append_own_none rfl s x 29 rfl base 5 i0 1 Try.underlying29 hi v n (U8s l) hs hown hx ?_
    refine h v w (by rw [List.append_nil]; exact hown) ⟨rfl, rfl, rfl, Nat.le_refl _, fun _ _ _ => rfl⟩
  | some ad =>
    refine wpList_append_own _ rfl s x 29 rfl base 5 i0 (.int .u8 0) 1 1 Try.underlying29 hi hz0 hz1 hz2 rfl (by decide) v n (U8s l) hs hown ad ys.length c (ys.map (Value.int .u8)) hx (by simp) (bs_cells hc.bat) (bytes_one _) (by unfold maxLen; omega) (by omega) hb ?_
    intro v' w' h1 h2 _
    refine h v' w' ?_ h2
    have e : U8s l ++ ys.map (Value.int .u8) = U8s (l ++ ys) := by unfold U8s; simp
    rw [← e]
    exact h1
namespace Seal
/-- The first k rows, one behind the other. -/
def cat (L : Nat → List Int) : Nat → List Int
  | 0 => []
  | k + 1 => cat L k ++ L k
theorem cat_le (L : Nat → List Int) : ∀ m k, k ≤ m → (cat L k).length ≤ (cat L m).length
  | 0, k, h => by
    obtain rfl : k = 0 := (by omega)
    exact Nat.le_refl _
  | m + 1, k, h => by
    by_cases e : k = m + 1
    · subst e; exact Nat.le_refl _
    · have := cat_le L m k (by omega)
      rw [cat, List.length_append]
      omega
theorem cat_len (L : Nat → List Int) (k : Nat) : (cat L (k + 1)).length = (cat L k).length + (L k).length := by rw [cat, List.length_append]
theorem cat_snoc (L : Nat → List Int) (k : Nat) : cat L k ++ L k = cat L (k + 1) := rfl
attribute [irreducible] cat
end Seal
set_option maxHeartbeats 1000000 in
set_option maxRecDepth 100000 in
theorem concat_any (P : Nat → Option Addr) (C : Nat → Nat) (L : Nat → List Int) (m g : Nat) (hm : m ≤ 1000) (w : World) (hc : ∀ k, k < m → w.cell? ⟨g, k, none⟩ = some (.slice (P k) (L k).length (C k))) (hb : ∀ k, k < m → Bs w (P k) (C k) (L k)) (hl : (Seal.cat L m).length ≤ 1000000000) :
    Calls Try.prog 37 #[.slice (some ⟨g, 0, none⟩) m m] w fun e w' => ∃ v, e = .returned v ∧ w'.ownsRow w.heap.size 5 1 v (Seal.cat L m).length (U8s (Seal.cat L m)) ∧ Below w.heap.size w w' := by
  have HC := Lib.hid hc; clear hc
  have HB := Lib.hid hb; clear hb
  have HL : Hid (∀ k, k ≤ m → (Seal.cat L k).length ≤ 1000000000) := fun k hk => Nat.le_trans (Seal.cat_le L m k hk) hl
  have HG : Hid (∀ n : Nat, n ≤ 1000000000 → ∀ w, Calls Try.prog 49 #[.slice none 0 0, .int .i64 n] w fun e w' => ∃ v, e = .returned v ∧ w'.ownsRow w.heap.size 5 1 v 0 (U8s []) ∧ Below w.heap.size w w') := fun n hn w => grow_nil n hn w
  go_enter Try.func37, Try.ntmps37
  go_wp2
  go_loopw [3, 11] (fun v3 v11 wr => ∃ k : Nat, k ≤ m ∧ v11 = .int .i64 k ∧ v3 = .int .i64 ((Seal.cat L k).length : Nat) ∧ w = wr) (fun _ v11 _ => m - (intOf v11).toNat)
  case atStart => exact ⟨0, Nat.zero_le _, rfl, by unfold Seal.cat; rfl, rfl⟩
  case round =>
    obtain ⟨k, hk, rfl, rfl, rfl⟩ := hrel
    have hlk := HL.out k hk
    by_cases hlt : k < m
    · have c0 := HC.out k hlt
      have hl1 := HL.out (k + 1) (by omega)
      have hle := Seal.cat_len L k
      have hn0 : 0 ≤ (k : Int) := by omega
      have hn1 : (k : Int) < (m : Int) := by omega
      have hlL : (L k).length ≤ 1000000000 := by omega
      generalize (Seal.cat L k).length = N0 at *
      generalize (L k).length = N2 at *
      have hx0 : ¬ ((N0 : Int) + (N2 : Int) < 0) := by omega
      go_wp2
      exact ⟨⟨k + 1, by omega, by go_num, by rw [hle, Int.natCast_add], trivial⟩, by simp [intOf]; omega⟩
    · obtain rfl : k = m := by omega
      clear hlt
      have hge : ¬ ((k : Int) < (k : Int)) := by omega
      obtain ⟨N, hN⟩ : ∃ N, (Seal.cat L k).length = N := ⟨_, rfl⟩
      have hN1 : N ≤ 1000000000 := by omega
      rw [hN]
      go_wp2_with (go_at_call 49; refine (HG.out N hN1 _).mono ?_; rintro e w1 ⟨v1, rfl, ho1, hb1⟩; have HO1 := Lib.hid ho1; have HB1 := Lib.hid hb1; clear ho1 hb1)
      go_loopw [6, 27] (fun v6 v27 wr => ∃ j : Nat, j ≤ k ∧ v27 = .int .i64 j ∧ Hid (wr.ownsRow w.heap.size 5 1 v6 (Seal.cat L j).length (U8s (Seal.cat L j))) ∧ Hid (Below w.heap.size w wr)) (fun _ v27 _ => k - (intOf v27).toNat)
      case atStart =>
        refine ⟨0, Nat.zero_le _, rfl, ?_, HB1.out⟩
        show World.ownsRow _ _ _ _ _ _ _
        unfold Seal.cat
        exact HO1.out
      case round =>
        clear HO1 HB1
        obtain ⟨j, hj, rfl, HO, HBl⟩ := hrel
        by_cases hlt : j < k
        · have c0 := (HBl.out.cell (World.block_lt_of_cell? w _ (HC.out j hlt))).trans (HC.out j hlt)
          have hl0 := HL.out j hj
          have hl1 := HL.out (j + 1) (by omega)
          have hle := Seal.cat_len L j
          have hn0 : 0 ≤ (j : Int) := by omega
          have hn1 : (j : Int) < (k : Int) := by omega
          have hsz := HBl.out.size
          have HBS : Hid (Bs wr (P j) (C j) (L j)) := (HB.out j hlt).old HBl.out
          go_wp2_with (first
            | (at_builtin; refine append_bts _ _ (L j) w.heap.size _ _ _ (P j) _ (C j) rfl rfl rfl HBS.out HO.out (by omega) hsz ?_; intro v5 w5 ho5 hg5; have HO5 := Lib.hid ho5; have HG5 := Lib.hid hg5; clear ho5 hg5)
            | go_in)
          refine ⟨⟨j + 1, by omega, by go_num, ?_, ?_⟩, by simp [intOf]; omega⟩
          · show World.ownsRow _ _ _ _ _ _ _
            have h := HO5.out
            rw [← hle, Seal.cat_snoc] at h
            exact h
          · exact HBl.out.grown HG5.out hsz (fun q hq => (HO.out.lt q hq).1)
        · obtain rfl : j = k := by omega
          have hge : ¬ ((j : Int) < (j : Int)) := by omega
          clear hlt
          go_wp2
          go_ret
          refine ⟨_, rfl, ?_, HBl.out⟩
          have h := HO.out
          rw [hN] at h
          exact h
/-! SeE -/
section
variable {P : Program} {ops : Array Oper} {rest : List Oper} {a : Act} {w : World} {Q : Exit → Act → World → Prop} {D : Option Tmp} {T : TypeId} {ps : String} {af : Array Edge}
/-- A value built of two parts. -/
theorem row_build2 (t : TypeId) (x y : Operand) (v u : Value) (R : Array Value) (hx : a.eval x = v) (hy : a.eval y = u) (hr : P.built t [(0, v), (1, u)] = some R) (h : wpList P ops Q rest (a.put D (.agg R)) w) :
    wpList P ops Q ({ dst := D, op := .build t #[(0, x), (1, y)], type := T, pos := ps, after := af, guard := none } :: rest) a w :=
  wpList_plain rfl fun K hK => by
    have hrun := run_build (P := P) w t #[(0, v), (1, u)] R hr
    unfold Oper.wp execOp
    simp only [hx, hy, List.map_toArray, List.map_cons, List.map_nil, hrun, Sem.run_bind, Sem.run_pure, Result.andThen_ok]
    exact hK _ _ h
end
/-! SeJ -/
/-- Rows of literals, as they are read. -/
theorem lit_one (x : World) (l : List Int) (n : Nat) (fr : Nat × Nat) (hl : l.length = n) (hn : n ≤ 1000) (hb : Sha.Byt l) : Bs (x.alloc (.cells (l.map (Value.int .u8)).toArray 5 fr)) (some ⟨x.heap.size, 0, none⟩) n l :=
  bs_row (bat_row (heap_alloc_new x _) hb) ⟨by omega, by omega⟩
theorem lit_two (x : World) (l : List Int) (n : Nat) (fr : Nat × Nat) (hl : l.length = n) (hn : n ≤ 1000) (hb : Sha.Byt l) (O : Obj) : Bs ((x.alloc O).alloc (.cells (l.map (Value.int .u8)).toArray 5 fr)) (some ⟨x.heap.size + 1, 0, none⟩) n l := by
  have h := lit_one (x.alloc O) l n fr hl hn hb
  rw [show (x.alloc O).heap.size = x.heap.size + 1 by simp] at h
  exact h
theorem below_two (x : World) (O O' : Obj) : Below x.heap.size x ((x.alloc O).alloc O') := ((Below.refl _ x).alloc (Nat.le_refl _) _).alloc (by simp) _
theorem Try.cells5 : Try.prog.cellsOf 5 = 1 := by kernel_rfl
/-- Rows of bytes that came in. -/
def BRows (w : World) (tp : Option Addr) (Rs : List (List Int)) : Prop :=
  0 < Rs.length → ∃ tb tf, tp = some ⟨tb, tf, none⟩ ∧ tb < w.heap.size ∧ ∀ r, r < Rs.length → ∃ p c, w.cell? ⟨tb, tf + r, none⟩ = some (.slice p (Rs.getD r []).length c) ∧ Bs w p c (Rs.getD r [])

/-! SeP -/
set_option maxRecDepth 100000 in
theorem open_bs_cells {H : Type} {enc : TypeId × Value → H} {W : World} {m : Nat} {c : Value} {x : DataW H × List MemPlace} (hf : DataW.trod enc Try.prog W 0 (fun _ => true) true m 29 [c] = some x) :
    ∃ (L : List Int) (p : Option Addr) (cap : Nat), c = .slice p L.length cap ∧ Bs W p cap L := by
  rcases open_ints Try.underlying29 Try.underlying5 Try.cells5 hf with ⟨hcs, _⟩ | ⟨a, len, cap, zs, hcs, _, hl, hm, hz, _, hcell, hwz⟩
  · obtain rfl : c = .slice none 0 0 := by simpa using hcs
    exact ⟨[], none, 0, rfl, bs_none W⟩
  · obtain rfl : c = .slice (some a) len cap := by simpa using hcs
    simp only [if_true] at hz
    have hll : (zs.take len).length = len := by simp; omega
    refine ⟨zs.take len, some a, cap, by rw [hll], ⟨fun x hx => ?_, fun h0 => ?_⟩, ⟨by omega, by unfold maxLen at hm; omega⟩, fun e => by cases e⟩
    · have h := hwz x (List.mem_of_mem_take hx)
      simp [Lit.wf, IntKind.min, IntKind.max, IntKind.signed, IntKind.bits] at h
      omega
    · rw [hll] at h0 ⊢
      obtain ⟨ab, ao, spot⟩ := a
      have hspot : spot = none := by simpa [Addr.add] using World.cell?_spot (hcell 0 (by omega))
      subst hspot
      refine ⟨ab, ao, rfl, fun j hj => ?_⟩
      have h := hcell j (by omega)
      rw [Addr.add_mid] at h
      rw [h]
      congr 2
      simp [List.getD_eq_getElem?_getD, hj]
set_option maxRecDepth 100000 in
/-- A slice of bytes that came in. -/
theorem open_bs {H : Type} {enc : TypeId × Value → H} {W : World} {base : Nat} {v : Value} {d : DataW H} {ps : List MemPlace} (hok : Value.okWide Try.prog W .any base 29 v)
    (h : DataW.Trod enc Try.prog W 0 (fun _ => true) true 29 v d ps) : ∃ (L : List Int) (p : Option Addr) (cap : Nat), v = .slice p L.length cap ∧ Bs W p cap L := by
  obtain ⟨a0, len, cap, rfl⟩ := okWide_slice Try.underlying29 hok
  obtain ⟨fuel, hf⟩ := h
  exact open_bs_cells hf
/-! SeM -/
section
variable {P : Program} {md : Region.Mode} {ops : Array Oper} {Q : Exit → Act → World → Prop} {S : World → Prop}
/-- What its guard leaves out may be taken first, too. -/
theorem anyH_skip (i D : Nat) {fuel : Nat} {listed : Array Bool} {a : Act} {w : World} {op : Op} {T : TypeId} {ps : String} {af : Array Edge} {gd : Option (Nat × Bool)} (hS : S w) (ho : ops[i]? = some { dst := some D, op := op, type := T, pos := ps, after := af, guard := gd })
    (hs : Region.noSelect ops = true) (hf : Region.free md ops listed i = true) (hr : (Region.ready md ops listed).contains i = true)
    (hQ : ∀ c a w, Q (.panic c) (a.put (some D) undef) w → Q (.panic c) a w) (hw : Region.wanted { dst := some D, op := op, type := T, pos := ps, after := af, guard := gd } (yielded ops a.tmps) = false)
    (h : wpAnyH P md ops Q S fuel (listed.setIfInBounds i true) (a.put (some D) undef) w) : wpAnyH P md ops Q S (fuel + 1) listed a w :=
  wpAnyH_first ho (Region.noSelect_spec hs) hQ fuel listed a w (Region.free_spec ho hf) (by simpa using hr) (Or.inr ⟨hw, rfl⟩) hS h
end
set_option maxHeartbeats 1000000 in
set_option maxRecDepth 100000 in
theorem copybytes_any (L : List Int) (p : Option Addr) (n cap : Nat) (hn : L.length = n) (hL : L.length ≤ 1000000) (w : World) (hp : BAt w p L) :
    Calls Try.prog 21 #[.slice p n cap] w fun e w' => ∃ v, e = .returned v ∧ w'.ownsRow w.heap.size 5 1 v n (U8s L) ∧ Below w.heap.size w w' := by
  subst hn
  obtain ⟨i0, hi, hz0, hz1, hz2⟩ := info_parts Try.info_u8
  have Hp := Lib.hid hp; clear hp
  go_enter Try.func21, Try.ntmps21
  go_wp2
  go_loopw [3, 4] (fun v i wr => ∃ k : Nat, k ≤ L.length ∧ i = .int .i64 k ∧ Hid (wr.ownsRow w.heap.size 5 1 v k (U8s (L.take k))) ∧ Hid (Below w.heap.size w wr)) (fun _ i _ => L.length - (intOf i).toNat)
  case atStart => exact ⟨0, Nat.zero_le _, rfl, by unfold U8s; exact World.ownsRow_nil _ _ _ _, Below.refl _ _⟩
  case round =>
    obtain ⟨k, hk, rfl, HO, HB⟩ := hrel
    by_cases hlt : k < L.length
    · obtain ⟨ab, ao, hpp, hcs⟩ := (Hp.out.old HB.out).2 (by omega)
      subst hpp
      have c0 := hcs k hlt
      clear hcs
      obtain ⟨x, hx⟩ : ∃ x, L.getD k 0 = x := ⟨_, rfl⟩
      rw [hx] at c0
      go_wp2_with (first
        | (at_builtin; refine wpList_append_own _ rfl _ _ 29 rfl w.heap.size 5 i0 (.int .u8 0) 1 1 Try.underlying29 hi hz0 hz1 hz2 rfl (by decide) _ _ _ rfl (HO.out.alloc _) ⟨wr.heap.size, 0, none⟩ 1 1 [.int .u8 x] rfl rfl (u8_cell _ _ _) (u8_one _) (by unfold maxLen; omega) (by omega) (by have := HB.out.size; simp; omega) ?_)
        | go_in)
      intro v' w1 hown' hgrow _
      have hb1 := below_own HB.out (HB.out.size) HO.out hgrow
      rw [U8s_snoc, ← hx, take_snoc L k hlt] at hown'
      clear hgrow HO HB
      go_wp2
      exact ⟨⟨k + 1, by omega, by go_num, hown', hb1⟩, by simp [intOf]; omega⟩
    · have E : k = L.length := by omega
      have HO2 : Hid (wr.ownsRow w.heap.size 5 1 u3 L.length (U8s L)) := by
        have := HO.out
        rw [E, List.take_length] at this
        exact this
      have hge : L.length ≤ k := by omega
      clear hlt HO E
      go_wp2
      go_ret
      exact ⟨_, rfl, HO2.out, HB.out⟩
/-! SeM2 -/
theorem Try.cells22 : Try.prog.cellsOf 29 = 1 := by kernel_rfl
set_option maxRecDepth 100000 in
theorem open_mat {H : Type} {enc : TypeId × Value → H} {W : World} {base : Nat} {v : Value} {d : DataW H} {ps : List MemPlace} (hok : Value.okWide Try.prog W .any base 75 v)
    (h : DataW.Trod enc Try.prog W 0 (fun _ => true) true 75 v d ps) : ∃ (Rs : List (List Int)) (tp : Option Addr) (cap : Nat), v = .slice tp Rs.length cap ∧ BRows W tp Rs := by
  obtain ⟨a0, len, cap, rfl⟩ := okWide_slice Try.underlying75 hok
  obtain ⟨fuel, hf⟩ := h
  rcases Go.Deep.open_int_rows Try.underlying75 Try.underlying29 Try.underlying5 Try.cells22 Try.cells5 hf with ⟨hcs, _⟩ | ⟨a, len', cap', A, L, C, Z, hcs, _, hl, hm, _, hrow⟩
  · simp [Value.cells] at hcs
    obtain ⟨rfl, rfl, rfl⟩ := hcs
    exact ⟨[], none, 0, rfl, fun h0 => by simp at h0⟩
  · simp [Value.cells] at hcs
    obtain ⟨rfl, rfl, rfl⟩ := hcs
    have hlen : ((List.range len).map fun r => (Z r).take (L r)).length = len := by simp
    refine ⟨(List.range len).map fun r => (Z r).take (L r), some a, cap, by rw [hlen], fun h0 => ?_⟩
    rw [hlen] at h0
    obtain ⟨ab, ao, spot⟩ := a
    have hspot : spot = none := by simpa [Addr.add] using World.cell?_spot (hrow 0 (by omega)).1
    subst hspot
    have h00 := (hrow 0 (by omega)).1
    rw [Addr.add_mid] at h00
    refine ⟨ab, ao, rfl, World.block_lt_of_cell? W ⟨ab, ao + 0, none⟩ h00, fun r hr => ?_⟩
    rw [hlen] at hr
    have hg : ((List.range len).map fun r => (Z r).take (L r)).getD r [] = (Z r).take (L r) := by simp [List.getD_eq_getElem?_getD, hr]
    obtain ⟨e1, e2, e3, e4, e5, e6, e7⟩ := hrow r (by omega)
    have hll : ((Z r).take (L r)).length = L r := by simp; omega
    rw [hg, hll]
    rw [Addr.add_mid] at e1
    refine ⟨A r, C r, e1, ⟨⟨fun x hx => ?_, fun h1 => ?_⟩, ⟨by rw [hll]; exact e2, by unfold maxLen at e3; omega⟩, fun h1 => ⟨List.eq_nil_of_length_eq_zero (by rw [hll]; have := e6 h1; omega), e6 h1⟩⟩⟩
    · have h := e5 x (List.mem_of_mem_take hx)
      simp [Lit.wf, IntKind.min, IntKind.max, IntKind.signed, IntKind.bits] at h
      omega
    · rw [hll] at h1 ⊢
      cases hA : A r with
      | none => have := e6 hA; omega
      | some a' =>
        obtain ⟨bb, bo, sp⟩ := a'
        obtain ⟨_, hc⟩ := e7 _ hA
        have hsp : sp = none := by simpa [Addr.add] using World.cell?_spot (hc 0 (by omega))
        subst hsp
        refine ⟨bb, bo, rfl, fun j hj => ?_⟩
        have h := hc j (by omega)
        rw [Addr.add_mid] at h
        rw [h]
        congr 2
        simp [List.getD_eq_getElem?_getD, hj]
/-! SeR -/
set_option maxHeartbeats 1000000 in
set_option maxRecDepth 100000 in
/-- Are two rows the same? -/
theorem same_gen (L M : List Int) (p q : Option Addr) (n c d : Nat) (hn : L.length = n) (hm : M.length = n) (w : World) (hp : BAt w p L) (hq : BAt w q M) (hL : n ≤ 10000000) :
    Calls Try.prog 13 #[.slice p n c, .slice q n d] w fun r w' => r = .returned (.bool (decide (L = M))) ∧ Below w.heap.size w w' := by
  have Hp := Lib.hid hp; clear hp
  have Hq := Lib.hid hq; clear hq
  have Hn := Lib.hid (And.intro hn hm); clear hn hm
  go_enter Try.func13, Try.ntmps13
  go_wp2
  go_loopw [5] (fun v5 wr => ∃ k : Nat, k ≤ n ∧ v5 = .int .i64 k ∧ Hid (∀ j, j < k → L.getD j 0 = M.getD j 0) ∧ Hid (Below w.heap.size w wr)) (fun v5 _ => n - (intOf v5).toNat)
  case atStart => exact ⟨0, by omega, rfl, fun j hj => by omega, Below.refl _ _⟩
  case round =>
    obtain ⟨k, hk, rfl, HE, HB⟩ := hrel
    by_cases hlt : k < n
    · obtain ⟨ab, ao, hpp, hcs⟩ := (Hp.out.old HB.out).2 (by have := Hn.out; omega)
      obtain ⟨bb, bo, hqq, hds⟩ := (Hq.out.old HB.out).2 (by have := Hn.out; omega)
      subst hpp
      subst hqq
      have c0 := hcs k (by have := Hn.out; omega)
      have c1 := hds k (by have := Hn.out; omega)
      have hn : 0 ≤ (k : Int) := by omega
      have hm : (k : Int) < (n : Int) := by omega
      by_cases hxy : L.getD k 0 = M.getD k 0
      · have HE2 : Hid (∀ j, j < k + 1 → L.getD j 0 = M.getD j 0) := fun j hj => by
          by_cases h : j = k
          · subst h; exact hxy
          · exact HE.out j (by omega)
        rw [← hxy] at c1
        clear hxy hcs hds
        generalize L.getD k 0 = x at *
        go_wp2
        go_quiet (fail)
        go_wp2
        exact ⟨⟨k + 1, by omega, by go_num, HE2.out, below_dn HB.out _⟩, by simp [intOf]; omega⟩
      · have HNE : Hid (decide (L = M) = false) := by
          show _ = _
          rw [decide_eq_false_iff_not]
          rintro rfl
          exact hxy rfl
        clear hcs hds
        have hxy2 := hxy
        generalize L.getD k 0 = x at *
        generalize M.getD k 0 = y at *
        go_wp2
        go_quiet (fail)
        go_wp2
        go_ret
        exact ⟨congrArg (fun z => Ending.returned (Value.bool z)) HNE.out.symm, below_dn HB.out _⟩
    · have E : k = n := by omega
      have HEQ : Hid (decide (L = M) = true) := by
        show _ = _
        rw [decide_eq_true_iff]
        have hh := Hn.out
        apply List.ext_getElem (by omega)
        intro i h1 h2
        have := HE.out i (by omega)
        rw [List.getD_eq_getElem?_getD, List.getElem?_eq_getElem h1, List.getD_eq_getElem?_getD, List.getElem?_eq_getElem h2] at this
        simpa using this
      have hge : n ≤ k := by omega
      clear hlt E
      go_wp2
      go_ret
      exact ⟨congrArg (fun z => Ending.returned (Value.bool z)) HEQ.out.symm, HB.out⟩
/-! SeQ -/
/-- Own bytes stay while others are written over. -/
theorem own_sp {w x : World} {B n : Nat} {v u : Value} {xs : List Value} (h : w.ownsRow B 5 1 v n xs) (hs : Sp u w x) (hne : ∀ g, v.ownBlock = some g → u.ownBlock ≠ some g) : x.ownsRow B 5 1 v n xs := by
  rcases hs with rfl | ⟨j, hj, ho⟩
  · exact h
  · refine ⟨h.1, ?_⟩
    rcases h.2 with h1 | ⟨g, cap, cur, h1, h2, h3, h4⟩
    · exact Or.inl h1
    · refine Or.inr ⟨g, cap, cur, h1, h2, (ho.block _ (lt_of_block h3) (fun e => ?_)).trans h3, h4⟩
      subst e
      exact hne g (by rw [h1]; rfl) hj
theorem sp_block {w x : World} {u : Value} {k : Nat} (hs : Sp u w x) (hk : k < w.heap.size) (hne : u.ownBlock ≠ some k) : x.heap[k]? = w.heap[k]? := by
  rcases hs with rfl | ⟨j, hj, ho⟩
  · rfl
  · exact ho.block _ hk (fun e => hne (by rw [hj, e]))
theorem sp_size {w x : World} {u : Value} (hs : Sp u w x) : w.heap.size ≤ x.heap.size := by
  rcases hs with rfl | ⟨j, _, ho⟩
  · exact Nat.le_refl _
  · exact ho.size
theorem lent_bs {w : World} {g : Nat} {L : List Int} (hL : L.length ≤ 100000) (h : w.heap[g]? = some (.cells ((mk5 L).map (Value.int .u8)).toArray 5 (0, 0))) (hb : Sha.Byt L) : Bs w (some ⟨g, 0, none⟩) (L.length + 5) L := by
  have h1 := bat_row h (mk5_byt hb)
  unfold mk5 at h1
  exact bs_row h1.pre ⟨by omega, by omega⟩
end Go.Proofs.Ytgfnpofoedambaa

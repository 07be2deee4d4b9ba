/-
  NaK, NaM, NaN, NaP, NaE (merged)
-/
import Derived.WalkKit
import Derived.Laws.CopyOwn
import Derived.OwnWalk
import Derived.BigRegion
import Derived.WalkSpells
import Derived.Lib.Hide
import Derived.Deep.MidRow
import Derived.RegionTactic
import Derived.Deep.RegionHeld3
import Derived.OneCell
import Derived.StillTailTactics
import Derived.Laws.MakeOwn
import Derived.Laws.OwnMore
import Derived.BigQuiet
import Derived.Laws.AppendOwnNone
import Derived.OrdersHeld
import Derived.Lib.AppendZeros
import Derived.Laws.Tables
import Derived.Deep.Matrix
import Derived.RangeFuncNested
import Derived.RangeFuncBound
import Derived.RangeFuncCalls
import Derived.RangeFuncLeaves
import Derived.Shelf.Abstract
import Derived.Shelf.RegionOpen
import Derived.OwnWalkIn
import Derived.TacticsInMore
import Derived.LoopNIn
import Derived.LoopIn
import Derived.Test.YtpfghjnhoafcmaaChecked
import Derived.WalkLawsBesides
import Derived.Deep.QuietTactic
import Derived.Deep.WholeRow
import Derived.Deep.Cut
import Derived.StillTail
import Derived.Laws.StructEq
import Derived.ChangeKeysEq
import Derived.Laws.Closers25b
import Derived.OrdersIn
import Derived.OpenShut
import Derived.Deep.Slices
import Derived.RangeFuncWrites
import Derived.Laws.EntriesVeiled
import Derived.Deep.RegionLawGrows
import Derived.Deep.CutRange
import Derived.Deep.RegionLaw
import Derived.ArgAppend
import Derived.Lib.SlBytesConst
import Derived.Laws.Cover3
import Derived.Maps.OwnSet
import Derived.DeepKeys4
import Derived.Laws.IdiomStrings
import Derived.Lib.BufferRead
namespace Go.Proofs.Ytpfghjnhoafcmaa

/-! NaK: What the texts of this layer share (picked out of elder texts by wip/pick.py). -/
section
open Go.ChangeShapes Go.WideShapes Go.RowKit
namespace Sha
def Byt (l : List Int) : Prop := ∀ x ∈ l, 0 ≤ x ∧ x ≤ 255
theorem byt_append {l m : List Int} (h : Byt l) (k : Byt m) : Byt (l ++ m) := fun x hx => (List.mem_append.1 hx).elim (h x) (k x)
end Sha
/-! ShaU -/
theorem Try.info_u8 : (Try.prog.info? 5).map (fun i => (i.zero, i.size, i.bytes)) = some (some (.int .u8 0), 1, 1) := by kernel_rfl
/-- Behind an append of one element onto a row of the call's own. -/
theorem below_own {B : Nat} {w wr w1 : World} {v : Value} {n : Nat} {xs : List Value} {o : Obj} {e : TypeId} (hB : Below B w wr) (hs : B ≤ wr.heap.size) (hown : wr.ownsRow B e 1 v n xs) (hg : (wr.alloc o).grownBy w1 v.ownBlock) : Below B w w1 :=
  (hB.alloc hs o).grown hg (by simp; omega) (fun j hj => (hown.lt j hj).1)
/-- What has been put together so far. -/
def U8s (l : List Int) : List Value := l.map (Value.int .u8)
theorem U8s_snoc (l : List Int) (x : Int) : U8s l ++ [.int .u8 x] = U8s (l ++ [x]) := by simp [U8s]
theorem u8_cell (w : World) (x : Int) (e : TypeId) : ∀ j u, [Value.int .u8 x][j]? = some u → (w.alloc (.cells #[.int .u8 x] e)).cell? (Addr.add ⟨w.heap.size, 0, none⟩ j) = some u := by
  intro j u hj
  match j, hj with
  | 0, hj => simp at hj; subst hj; simp [Addr.add]
theorem u8_one (x : Int) : ∀ u ∈ [Value.int .u8 x], u.oneCell' = true := by
  intro u hu; simp at hu; subst hu; rfl
attribute [irreducible] U8s
theorem take_snoc (L : List Int) (k : Nat) (hk : k < L.length) : L.take k ++ [L.getD k 0] = L.take (k + 1) := by
  rw [List.take_add_one, List.getElem?_eq_getElem hk, List.getD_eq_getElem?_getD, List.getElem?_eq_getElem hk]; rfl
/-! ShaL -/
/-- What turns block g alone. -/
structure Chg (g : Nat) (w w' : World) : Prop where
  os : w'.os = w.os
  tape : w'.tape = w.tape
  output : w'.output = w.output
  size : w'.heap.size = w.heap.size
  block : ∀ k, k ≠ g → w'.heap[k]? = w.heap[k]?
theorem Chg.setRow (w : World) (g : Nat) (cs : Array Value) : Chg g w (w.setRow g cs) := ⟨rfl, rfl, rfl, by simp, fun k hk => setRow_other w g k cs hk⟩
theorem Chg.setCell (w : World) (a : Addr) (v : Value) : Chg a.block w (w.setCell a v) := ⟨rfl, rfl, rfl, by simp, fun k hk => heap_setCell_other w a k v hk⟩
theorem Chg.drew {g : Nat} {w w' : World} (h : Chg g w w') : Chg g w w'.drew := ⟨h.os, h.tape, h.output, h.size, h.block⟩
theorem Chg.below {g B : Nat} {w0 w w' : World} (h : Chg g w w') (hb : Below B w0 w) (hg : B ≤ g) : Below B w0 w' :=
  hb.trans ⟨h.os, h.tape, h.output, by rw [h.size]; exact Nat.le_refl _, fun k hk => h.block k (by omega)⟩
section
variable {P : Program} {ops : Array Oper} {rest : List Oper} {a : Act} {w : World} {Q : Exit → Act → World → Prop} {D : Option Tmp} {T : TypeId} {ps : String} {af : Array Edge}
/-- A whole row out of a block that is known whole. -/
theorem row_load (ty : TypeId) (x : Operand) (g : Nat) (t : TypeId) (cs : Array Value) (fr : Nat × Nat) (d : TypeDesc) (hx : a.eval x = .pointer (some ⟨g, 0, none⟩)) (hg : w.heap[g]? = some (.cells cs t fr))
    (hu : P.underlying ty = some d) (hd : d.isRow = true) (hi : (P.info? ty).map (·.size) = some cs.size)
    (h : wpList P ops Q rest (a.put D (.agg cs)) w) : wpList P ops Q ({ dst := D, op := .load ty x, type := T, pos := ps, after := af, guard := none } :: rest) a w :=
  wpList_load_mid rfl ty x rfl g 0 hx cs.toList d (fun j v hv => by rw [cell_of_row w g (0 + j) cs t fr hg]; simpa using hv) hu hd (by simpa using hi) (by simpa using h)
/-- A part of a block that is known whole. -/
theorem mid_load (ty : TypeId) (x : Operand) (g o : Nat) (t : TypeId) (C : Array Value) (cs : List Value) (fr : Nat × Nat) (d : TypeDesc) (hx : a.eval x = .pointer (some ⟨g, o, none⟩)) (hg : w.heap[g]? = some (.cells C t fr))
    (hc : ∀ j v, cs[j]? = some v → C[o + j]? = some v) (hu : P.underlying ty = some d) (hd : d.isRow = true) (hi : (P.info? ty).map (·.size) = some cs.length)
    (h : wpList P ops Q rest (a.put D (.agg cs.toArray)) w) : wpList P ops Q ({ dst := D, op := .load ty x, type := T, pos := ps, after := af, guard := none } :: rest) a w :=
  wpList_load_mid rfl ty x rfl g o hx cs d (fun j v hv => by rw [cell_of_row w g (o + j) C t fr hg]; exact hc j v hv) hu hd hi h
/-- A row into a block that is known whole, from place o on. -/
theorem mid_store (ty : TypeId) (x y : Operand) (g o : Nat) (t : TypeId) (old cells : Array Value) (hx : a.eval x = .pointer (some ⟨g, o, none⟩)) (hy : a.eval y = .agg cells) (hg : w.heap[g]? = some (.cells old t (0, 0)))
    (hi : (P.info? ty).map (·.size) = some cells.size) (hs : o + cells.size ≤ old.size) (h1 : cells.all (·.oneCell') = true)
    (h : ∀ w', Hid (w'.heap[g]? = some (.cells (old.toList.take o ++ cells.toList ++ old.toList.drop (o + cells.size)).toArray t (0, 0))) → Chg g w w' → wpList P ops Q rest a w') :
    wpList P ops Q ({ dst := none, op := .store ty x y, type := T, pos := ps, after := af, guard := none } :: rest) a w :=
  wpList_plain rfl fun _ hK => by
    have hst := run_storeCells_at P g o t cells.toList 0 old w hg (by simpa using hs) (fun v hv => (Array.all_eq_true_iff_forall_mem.1 h1) v (by simpa using hv))
    have hsv : (storeVar ty ⟨g, o, none⟩ (.agg cells)).run P w = .ok () (w.setRow g (old.toList.take o ++ cells.toList ++ old.toList.drop (o + cells.size)).toArray) := by
      cases hq : P.info? ty with
      | none => simp [hq] at hi
      | some i =>
        have hs : cells.size = i.size := by simp [hq] at hi; omega
        simp only [Nat.add_zero, Array.length_toList] at hst
        simp [storeVar, sizeOf, typeInfo, hq, Value.cells, hs] at hst ⊢
        rw [hst]
    unfold Oper.wp execOp
    simp only [hx, hy, Instr.storeAt, Instr.sureAddr, Sem.run_bind, Sem.run_pure, Result.andThen_ok, hsv]
    exact hK _ _ (h _ (setRow_heap w g old _ t (0, 0) hg) (Chg.setRow w g _))
/-- A whole row into a block that is known whole. -/
theorem row_store (ty : TypeId) (x y : Operand) (g : Nat) (t : TypeId) (old cells : Array Value) (hx : a.eval x = .pointer (some ⟨g, 0, none⟩)) (hy : a.eval y = .agg cells) (hg : w.heap[g]? = some (.cells old t (0, 0)))
    (hi : (P.info? ty).map (·.size) = some cells.size) (hs : cells.size = old.size) (h1 : cells.all (·.oneCell') = true)
    (h : ∀ w', Hid (w'.heap[g]? = some (.cells cells t (0, 0))) → Chg g w w' → wpList P ops Q rest a w') :
    wpList P ops Q ({ dst := none, op := .store ty x y, type := T, pos := ps, after := af, guard := none } :: rest) a w :=
  mid_store ty x y g 0 t old cells hx hy hg hi (by omega) h1 (fun w' h1' h2' => h w' (show _ = _ by have := h1'.out; rw [this, hs]; congr 2; apply Array.ext'; simp) h2')
end
/-- Of what was there only block g may have turned. -/
structure Only (g : Nat) (w w' : World) : Prop where
  os : w'.os = w.os
  tape : w'.tape = w.tape
  output : w'.output = w.output
  size : w.heap.size ≤ w'.heap.size
  block : ∀ k, k < w.heap.size → k ≠ g → w'.heap[k]? = w.heap[k]?
theorem Only.refl (g : Nat) (w : World) : Only g w w := ⟨rfl, rfl, rfl, Nat.le_refl _, fun _ _ _ => rfl⟩
theorem Only.trans {g : Nat} {a b c : World} (h : Only g a b) (k : Only g b c) : Only g a c :=
  ⟨k.os.trans h.os, k.tape.trans h.tape, k.output.trans h.output, Nat.le_trans h.size k.size, fun i hi hg => (k.block i (Nat.lt_of_lt_of_le hi h.size) hg).trans (h.block i hi hg)⟩
theorem Only.drew {g : Nat} {w w' : World} (h : Only g w w') : Only g w w'.drew := ⟨h.os, h.tape, h.output, h.size, h.block⟩
theorem Chg.only {g : Nat} {w w' : World} (h : Chg g w w') : Only g w w' := ⟨h.os, h.tape, h.output, by rw [h.size]; exact Nat.le_refl _, fun k _ hk => h.block k hk⟩
theorem Only.alloc {g : Nat} {w w' : World} (h : Only g w w') (o : Obj) : Only g w (w'.alloc o) :=
  h.trans ⟨rfl, rfl, rfl, by simp, fun k hk _ => heap_alloc_old w' o hk⟩
/-- Where g is new, nothing that was there has turned. -/
theorem Only.below {g B : Nat} {w0 w w' : World} (h : Only g w w') (hb : Below B w0 w) (hg : B ≤ g) (hB : B ≤ w.heap.size) : Below B w0 w' :=
  hb.trans ⟨h.os, h.tape, h.output, h.size, fun k hk => h.block k (by omega) (by omega)⟩
theorem Only.cell {g : Nat} {w w' : World} (h : Only g w w') {b o : Nat} {v : Value} (hb : b ≠ g) (hc : w.cell? ⟨b, o, none⟩ = some v) : w'.cell? ⟨b, o, none⟩ = some v := by
  rw [World.cell?_of_block (h.block b (World.block_lt_of_cell? w _ hc) hb)]; exact hc
theorem Chg.trans {g : Nat} {a b c : World} (h : Chg g a b) (k : Chg g b c) : Chg g a c :=
  ⟨k.os.trans h.os, k.tape.trans h.tape, k.output.trans h.output, k.size.trans h.size, fun i hi => (k.block i hi).trans (h.block i hi)⟩
theorem Chg.refl (g : Nat) (w : World) : Chg g w w := ⟨rfl, rfl, rfl, rfl, fun _ _ => rfl⟩
theorem Chg.setCells (g : Nat) : ∀ (vs : List Value) (o : Nat) (w : World), Chg g w (w.setCells g o vs)
  | [], _, w => Chg.refl g w
  | v :: r, o, w => (Chg.setCell w ⟨g, o, none⟩ v).trans (Chg.setCells g r (o + 1) _)
theorem heap_setCells (g : Nat) (t : TypeId) : ∀ (vs : List Value) (o : Nat) (cur : List Value) (w : World), w.heap[g]? = some (.cells cur.toArray t (0, 0)) → o + vs.length ≤ cur.length →
    (w.setCells g o vs).heap[g]? = some (.cells (splice cur o vs).toArray t (0, 0))
  | [], o, cur, w, hg, _ => by simpa [World.setCells, splice] using hg
  | v :: r, o, cur, w, hg, hl => by
    have h1 := heap_setCell_same w g o cur.toArray t v hg
    have e : cur.toArray.setIfInBounds o v = (cur.set o v).toArray := by apply Array.ext'; simp
    rw [e] at h1
    have := heap_setCells g t r (o + 1) (cur.set o v) _ h1 (by simp at hl ⊢; omega)
    rw [World.setCells, this]
    have q := list_seg_step cur o v r (by simp at hl; omega)
    simp only [splice, List.length_cons]
    rw [← List.append_assoc, q]
    simp
/-! ### Regions that draw their order, by hand -/
section
variable {P : Program} {md : Region.Mode} {ops : Array Oper} {Q : Exit → Act → World → Prop} {fuel : Nat} {listed : Array Bool} {a : Act} {w : World}
theorem any_one (i : Nat) (hr : Region.ready md ops listed = [i]) (h : wpOp P ops Q i (wpAny P md ops Q fuel (listed.setIfInBounds i true)) a w) : wpAny P md ops Q (fuel + 1) listed a w :=
  wpAny_all hr (by simp) (fun j hj => by simp at hj; subst hj; exact h)
theorem any_two (i j : Nat) (hr : Region.ready md ops listed = [i, j]) (h : wpOp P ops Q i (wpAny P md ops Q fuel (listed.setIfInBounds i true)) a w)
    (h2 : wpOp P ops Q j (wpAny P md ops Q fuel (listed.setIfInBounds j true)) a w) : wpAny P md ops Q (fuel + 1) listed a w :=
  wpAny_all hr (by simp) (fun k hk => by simp at hk; rcases hk with rfl | rfl <;> assumption)
theorem any_take (i D : Nat) (v : Value) {op : Op} {T : TypeId} {ps : String} {af : Array Edge} (ho : ops[i]? = some { dst := some D, op := op, type := T, pos := ps, after := af, guard := none })
    (hs : Region.noSelect ops = true) (hf : Region.free md ops listed i = true) (hr : (Region.ready md ops listed).contains i = true)
    (hQ : ∀ c a w, Q (.panic c) (a.put (some D) v) w → Q (.panic c) a w) (hy : ∀ w, (execOp a.eval { dst := some D, op := op, type := T, pos := ps, after := af, guard := none }).run P w = .ok (.value v) w)
    (h : wpAny P md ops Q fuel (listed.setIfInBounds i true) (a.put (some D) v) w) : wpAny P md ops Q (fuel + 1) listed a w :=
  wpAny_take (oi := { dst := some D, op := op, type := T, pos := ps, after := af, guard := none }) ho hs hf hr hQ (Or.inl ⟨rfl, hy⟩) h
theorem op_plain {K : Act → World → Prop} (i : Nat) (o : Oper) (ho : ops[i]? = some o) (hg : o.guard = none) (h : Oper.wp P o a w K Q) : wpOp P ops Q i K a w := by
  unfold wpOp
  rw [ho]
  simp only [Region.wanted, hg, if_true]
  exact Or.inl h
theorem op_load {K : Act → World → Prop} (i : Nat) (ty : TypeId) (x : Operand) {D : Option Tmp} {T : TypeId} {ps : String} {af : Array Edge} (ho : ops[i]? = some { dst := D, op := .load ty x, type := T, pos := ps, after := af, guard := none })
    (b o : Nat) (cs : List Value) (d : TypeDesc) (hx : a.eval x = .pointer (some ⟨b, o, none⟩)) (hc : w.rangeAt b o cs)
    (hu : P.underlying ty = some d) (hd : d.isRow = true) (hi : (P.info? ty).map (·.size) = some cs.length) (h : K (a.put D (.agg cs.toArray)) w) : wpOp P ops Q i K a w :=
  op_plain i _ ho rfl (wp_load_mid ty x rfl b o hx cs d hc hu hd hi h)
theorem op_store {K : Act → World → Prop} (i : Nat) (ty : TypeId) (x y : Operand) {T : TypeId} {ps : String} {af : Array Edge} (ho : ops[i]? = some { dst := none, op := .store ty x y, type := T, pos := ps, after := af, guard := none })
    (g o : Nat) (t : TypeId) (cur : List Value) (cells : Array Value) (hx : a.eval x = .pointer (some ⟨g, o, none⟩)) (hy : a.eval y = .agg cells) (hg : w.heap[g]? = some (.cells cur.toArray t (0, 0)))
    (hi : (P.info? ty).map (·.size) = some cells.size) (hs : o + cells.size ≤ cur.length) (h1 : cells.all (·.oneCell') = true)
    (h : ∀ w', Hid (w'.heap[g]? = some (.cells (splice cur o cells.toList).toArray t (0, 0))) → Chg g w w' → K a w') : wpOp P ops Q i K a w :=
  op_plain i _ ho rfl (by
    have ht : w.there g o cells.size := fun j hj => by
      refine ⟨?_, frozen_of_row w g (o + j) _ _ hg⟩
      rw [cell_of_row w g (o + j) _ _ _ hg]
      simp
      omega
    refine wp_store_mid ty x y rfl g o cells hx hy ht hi h1 ?_
    exact h _ (heap_setCells g t cells.toList o cur w hg (by simpa using hs)) (Chg.setCells g _ _ _))
end
/-! ShaE -/
theorem bytes_one (l : List Int) : ∀ v ∈ l.map (Value.int .u8), v.oneCell' = true := fun v hv => by
  obtain ⟨x, _, rfl⟩ := List.mem_map.1 hv; rfl
/-! ShaO -/
section
variable {P : Program} {ops : Array Oper} {rest : List Oper} {a : Act} {w : World} {Q : Exit → Act → World → Prop} {D : Option Tmp} {T : TypeId} {ps : String} {af : Array Edge}
/-- make of one-cell elements: a new block, known whole. -/
theorem make_at (t e : TypeId) (x y : Operand) (z : Value) (bytes l c : Nat) (hx : a.eval x = .int .i64 (l : Int)) (hy : a.eval y = .int .i64 (c : Int)) (hu : P.underlying t = some (.slice e))
    (hi : (P.info? e).map (fun i => (i.zero, i.size, i.bytes)) = some (some z, 1, bytes)) (hz : z.cells = #[z]) (hlc : l ≤ c) (hb : bytes * c ≤ 281474976710656) (hc : c ≤ 9223372036854775807)
    (h : ∀ w', Hid (w'.heap[w.heap.size]? = some (.cells (List.replicate c z).toArray e (0, 0))) → Below w.heap.size w w' → Hid (w'.heap.size = w.heap.size + 1) → wpList P ops Q rest (a.put D (.slice (some ⟨w.heap.size, 0, none⟩) l c)) w') :
    wpList P ops Q ({ dst := D, op := .makeSlice t x y, type := T, pos := ps, after := af, guard := none } :: rest) a w :=
  wpList_plain rfl fun K hK => by
    obtain ⟨i, hi1, hi2, hi3, hi4⟩ := info_parts hi
    have hrun := run_make (P := P) w t e i z hu hi1 hi2 .i64 .i64 l c (by omega) (by omega) (by rw [hi4]; omega) (by omega)
    rw [hi3, hz, Nat.mul_one] at hrun
    have hl : (madeCells #[z] c).toList = List.replicate c z := toList_madeCells_one z c
    have e2 : madeCells #[z] c = (List.replicate c z).toArray := by rw [← hl, Array.toArray_toList]
    unfold Oper.wp execOp
    simp only [hx, hy, hrun, Sem.run_bind, Sem.run_pure, Result.andThen_ok, Int.toNat_natCast, e2]
    exact hK _ _ (h _ (heap_alloc_new w _) ((Below.refl _ w).alloc (Nat.le_refl _) _) (by show _ = _; simp))
/-- append of one element where there is room, in a block that is known whole. -/
theorem append_at (s x : Operand) (t e : TypeId) (g n cap : Nat) (cur : List Value) (ad : Addr) (m : Nat) (u : Value) (hs : a.eval s = .slice (some ⟨g, 0, none⟩) n cap) (hx : a.eval x = .slice (some ad) 1 m) (hg : w.heap[g]? = some (.cells cur.toArray e (0, 0)))
    (hu : P.underlying t = some (.slice e)) (hi : (P.info? e).map (·.size) = some 1) (hn : w.cell? ad = some u) (h1 : u.oneCell' = true) (hroom : n + 1 ≤ cap) (hfit : n + 1 ≤ cur.length)
    (h : ∀ w', Hid (w'.heap[g]? = some (.cells (splice cur n [u]).toArray e (0, 0))) → Chg g w w' → wpList P ops Q rest (a.put D (.slice (some ⟨g, 0, none⟩) (n + 1) cap)) w') :
    wpList P ops Q ({ dst := D, op := .call { callee := .builtin .append, args := #[s, x], argTypes := #[t, t] }, type := T, pos := ps, after := af, guard := none } :: rest) a w :=
  wpList_plain rfl fun K hK => by
    cases hq : P.info? e with
    | none => simp [hq] at hi
    | some i =>
      have hsz : i.size = 1 := by simpa [hq] using hi
      have hadd : ad.add 0 = ad := by simp [Addr.add]
      have hrun := run_append_room (P := P) w t T e i hu hq g n cap cur.toArray hg ad 1 m [u] (by simp [hsz]) (fun j v hv => by
        cases j with
        | zero => simp at hv; subst hv; rw [hadd]; exact hn
        | succ j => simp at hv) (by simpa using h1) hroom (by simp [hsz]; omega)
      unfold Oper.wp
      simp [execOp, resolve, invoke, builtin, hs, hx, hrun, Result.andThen]
      refine hK _ _ ?_
      have hcg := Chg.setRow w g (cur.toArray.toList.take (n * i.size) ++ [u] ++ cur.toArray.toList.drop (n * i.size + 1)).toArray
      have hh := setRow_heap w g cur.toArray (cur.toArray.toList.take (n * i.size) ++ [u] ++ cur.toArray.toList.drop (n * i.size + 1)).toArray e (0, 0) hg
      simp only [hsz, Nat.mul_one] at hcg hh ⊢
      refine h _ ?_ (by simpa using hcg)
      show _ = _
      simpa [splice] using hh
end
/-! KitA -/
/-- The bytes l in memory, as a slice sees them. -/
def BAt (w : World) (p : Option Addr) (l : List Int) : Prop :=
  Sha.Byt l ∧ (0 < l.length → ∃ ab ao, p = some ⟨ab, ao, none⟩ ∧ ∀ j, j < l.length → w.cell? ⟨ab, ao + j, none⟩ = some (.int .u8 (l.getD j 0)))
theorem BAt.below {w w' : World} {B : Nat} {p : Option Addr} {l : List Int} (h : BAt w p l) (hb : Below B w w') (hB : w.heap.size ≤ B) : BAt w' p l :=
  ⟨h.1, fun h0 => by
    obtain ⟨ab, ao, h1, h2⟩ := h.2 h0
    have hlt : ab < w.heap.size := World.block_lt_of_cell? w _ (h2 0 h0)
    exact ⟨ab, ao, h1, fun j hj => (hb.cell (Nat.lt_of_lt_of_le hlt hB)).trans (h2 j hj)⟩⟩
/-- What came in lies beneath the first heap's end, and stays. -/
theorem BAt.old {w w1 : World} {p : Option Addr} {l : List Int} (h : BAt w p l) (hb : Below w.heap.size w w1) : BAt w1 p l := h.below hb (Nat.le_refl _)
theorem BAt.drew {w : World} {p : Option Addr} {l : List Int} (h : BAt w p l) : BAt w.drew p l := h
theorem BAt.drewN {w : World} {p : Option Addr} {l : List Int} (h : BAt w p l) (n : Nat) : BAt (w.drewN n) p l := h
theorem byt_rep (n : Nat) (x : Int) (h : 0 ≤ x ∧ x ≤ 255) : Sha.Byt (List.replicate n x) := fun y hy => by
  rw [List.mem_replicate] at hy
  omega
/-- A row that is known whole, read from its beginning. -/
theorem bat_row {w : World} {g : Nat} {l : List Int} {t : TypeId} {fr : Nat × Nat} (h : w.heap[g]? = some (.cells (l.map (Value.int .u8)).toArray t fr)) (hb : Sha.Byt l) : BAt w (some ⟨g, 0, none⟩) l :=
  ⟨hb, fun _ => ⟨g, 0, rfl, fun j hj => by
    rw [cell_of_row w g (0 + j) _ _ _ h]
    simp [List.getD_eq_getElem?_getD, hj]⟩⟩
theorem getD_append_left' (l m : List Int) (j : Nat) (hj : j < l.length) : (l ++ m).getD j 0 = l.getD j 0 := by
  rw [List.getD_eq_getElem?_getD, List.getD_eq_getElem?_getD, List.getElem?_append_left hj]
theorem BAt.pre {w : World} {p : Option Addr} {l m : List Int} (h : BAt w p (l ++ m)) : BAt w p l :=
  ⟨fun x hx => h.1 x (List.mem_append_left _ hx), fun h0 => by
    obtain ⟨ab, ao, h1, h2⟩ := h.2 (by rw [List.length_append]; omega)
    refine ⟨ab, ao, h1, fun j hj => ?_⟩
    rw [h2 j (by rw [List.length_append]; omega), getD_append_left' l m j hj]⟩
/-- Five marks behind a text. -/
def mk5 (L : List Int) : List Int := L ++ List.replicate 5 165
theorem mk5_len (L : List Int) : (mk5 L).length = L.length + 5 := by simp [mk5]
theorem mk5_byt {L : List Int} (h : Sha.Byt L) : Sha.Byt (mk5 L) := Sha.byt_append h (byt_rep 5 165 (by omega))
theorem mk5_lo (L : List Int) (j : Nat) (hj : j < L.length) : (mk5 L).getD j 0 = L.getD j 0 := getD_append_left' L _ j hj
theorem mk5_hi (L : List Int) (j : Nat) (h1 : L.length ≤ j) (h2 : j < L.length + 5) : (mk5 L).getD j 0 = 165 := by
  unfold mk5
  rw [List.getD_eq_getElem?_getD, List.getElem?_append_right h1, List.getElem?_replicate, if_pos (by omega)]
  rfl
def fl5 (L : List Int) (k : Nat) : List Int := (mk5 L).take k ++ List.replicate (L.length + 5 - k) 0
theorem fl5_len (L : List Int) (k : Nat) (hk : k ≤ L.length + 5) : (fl5 L k).length = L.length + 5 := by simp [fl5, mk5]; omega
theorem fl5_zero (L : List Int) : (fl5 L 0).map (Value.int .u8) = List.replicate (L.length + 5) (Value.int .u8 0) := by simp [fl5]
theorem fl5_all (L : List Int) : fl5 L (L.length + 5) = mk5 L := by
  unfold fl5
  rw [List.take_of_length_le (by rw [mk5_len]; omega), Nat.sub_self]
  simp
theorem fl5_step (L : List Int) (k : Nat) (hk : k < L.length + 5) : (fl5 L k).set k ((mk5 L).getD k 0) = fl5 L (k + 1) := by
  unfold fl5
  have hl : ((mk5 L).take k).length = k := by simp [mk5]; omega
  rw [List.set_append_right _ _ (by omega), hl, Nat.sub_self, show L.length + 5 - k = (L.length + 5 - (k + 1)) + 1 by omega, List.replicate_succ, List.set_cons_zero,
    ← take_snoc (mk5 L) k (by rw [mk5_len]; omega), List.append_assoc]
  rfl
theorem fl5_cell {w : World} {g : Nat} {L : List Int} {k : Nat} {t : TypeId} {fr : Nat × Nat} (h : w.heap[g]? = some (.cells ((fl5 L k).map (Value.int .u8)).toArray t fr)) (hk : k ≤ L.length + 5) (j : Nat) (hj : j < L.length + 5) : w.cell? ⟨g, j, none⟩ = some (.int .u8 ((fl5 L k).getD j 0)) := by
  rw [cell_of_row w g j _ _ _ h]
  have := fl5_len L k hk
  simp [List.getD_eq_getElem?_getD, this, hj]
attribute [irreducible] fl5 mk5
theorem set_u8' {w : World} {g i : Nat} {l : List Int} {x : Int} {t : TypeId} (h : w.heap[g]? = some (.cells (l.map (Value.int .u8)).toArray t (0, 0))) :
    (w.setCell ⟨g, i, none⟩ (.int .u8 x)).heap[g]? = some (.cells ((l.set i x).map (Value.int .u8)).toArray t (0, 0)) := by
  rw [heap_setCell_same w g i _ _ _ h]
  congr 2
  apply Array.ext'
  simp
/-- What LentBytes says. -/
def LentSay (L : List Int) (w : World) (e : Ending) (w' : World) : Prop :=
  ∃ g, e = .returned (.slice (some ⟨g, 0, none⟩) (L.length + 5) (L.length + 5)) ∧ w.heap.size ≤ g ∧ w'.heap[g]? = some (.cells ((mk5 L).map (Value.int .u8)).toArray 5 (0, 0)) ∧ Below w.heap.size w w'
set_option maxHeartbeats 1000000 in
set_option maxRecDepth 100000 in
theorem lent_any (L : List Int) (p : Option Addr) (cap : Nat) (w : World) (hp : BAt w p L) (hL : L.length ≤ 1000000) :
    Calls Try.prog 19 #[.slice p L.length cap] w (LentSay L w) := by
  have Hp := Lib.hid hp; clear hp
  have hcast : Hid (((L.length : Int) + 5) = ((L.length + 5 : Nat) : Int)) := by show _ = _; omega
  go_enter Try.func19, Try.ntmps19
  go_upto_region 2 with ((with_reducible refine make_at _ 5 _ _ (.int .u8 0) 1 (L.length + 5) (L.length + 5) ?_ ?_ ?_ ?_ rfl ?_ ?_ ?_ ?_); (exact congrArg (Value.int .i64) hcast.out); (exact congrArg (Value.int .i64) hcast.out); (exact Try.underlying41); (exact Try.info_u8); omega; omega; omega; intro w1 G1 hb1 hs1)
  have G1' : Hid (w1.heap[w.heap.size]? = some (.cells ((fl5 L 0).map (Value.int .u8)).toArray 5 (0, 0))) := by
    show _ = _; rw [fl5_zero]; exact G1.out
  have HB1 := Lib.hid hb1
  clear hb1 G1 hcast
  go_wp2
  go_loopw [4] (fun v4 wr => ∃ k : Nat, k ≤ L.length + 5 ∧ v4 = .int .i64 k ∧ Hid (wr.heap[w.heap.size]? = some (.cells ((fl5 L k).map (Value.int .u8)).toArray 5 (0, 0))) ∧ Hid (Below w.heap.size w wr)) (fun v4 _ => L.length + 5 - (intOf v4).toNat)
  case atStart => exact ⟨0, by omega, rfl, G1'.out, HB1.out⟩
  case round =>
    clear G1' HB1 hs1
    obtain ⟨k, hk, rfl, HG, HB⟩ := hrel
    by_cases hlt : k < L.length + 5
    · have c0 := fl5_cell HG.out hk k hlt
      have f0 := frozen_of_row wr w.heap.size k _ _ HG.out
      generalize (fl5 L k).getD k 0 = y0 at c0
      by_cases hin : k < L.length
      · obtain ⟨ab, ao, hpp, hcs⟩ := Hp.out.2 (by omega)
        subst hpp
        have hlt2 : ab < w.heap.size := World.block_lt_of_cell? w _ (hcs 0 (by omega))
        have c1 : wr.cell? ⟨ab, ao + k, none⟩ = some (.int .u8 (L.getD k 0)) := (HB.out.cell hlt2).trans (hcs k hin)
        have c2 : (wr.setCell ⟨w.heap.size, k, none⟩ (.int .u8 165)).cell? ⟨ab, ao + k, none⟩ = some (.int .u8 (L.getD k 0)) := by
          rw [World.cell?_of_block (w := wr) (heap_setCell_other _ _ _ _ (by simp; omega))]; exact c1
        have h1 := set_u8' (i := k) (x := 165) HG.out
        have c3 : (wr.setCell ⟨w.heap.size, k, none⟩ (.int .u8 165)).cell? ⟨w.heap.size, k, none⟩ = some (.int .u8 165) := by
          rw [cell_of_row _ _ k _ _ _ h1]
          have := fl5_len L k hk
          simp [this, hlt]
        have f3 := frozen_of_row _ w.heap.size k _ _ h1
        have HF : Hid ((fl5 L k).set k (L.getD k 0) = fl5 L (k + 1)) := by show _ = _; rw [← mk5_lo L k hin]; exact fl5_step L k hlt
        generalize L.getD k 0 = x at *
        have H1 := Lib.hid h1
        clear h1
        go_wp2
        refine ⟨⟨k + 1, by omega, by go_num, ?_, ?_⟩, by simp [intOf]; omega⟩
        · have h2 := set_u8' (i := k) (x := x) H1.out
          rw [List.set_set, HF.out] at h2
          exact h2
        · exact (HB.out.setCell (by simp) _).setCell (by simp) _
      · have HF : Hid ((fl5 L k).set k 165 = fl5 L (k + 1)) := by show _ = _; rw [← mk5_hi L k (by omega) hlt]; exact fl5_step L k hlt
        go_wp2
        refine ⟨⟨k + 1, by omega, by go_num, ?_, ?_⟩, by simp [intOf]; omega⟩
        · have h2 := set_u8' (i := k) (x := 165) HG.out
          rw [HF.out] at h2
          exact h2
        · exact HB.out.setCell (by simp) _
    · have E : k = L.length + 5 := by omega
      have HG2 : Hid (wr.heap[w.heap.size]? = some (.cells ((mk5 L).map (Value.int .u8)).toArray 5 (0, 0))) := by
        have := HG.out
        rw [E, fl5_all] at this
        exact this
      have hge : L.length + 5 ≤ k := by omega
      clear E hlt HG
      go_wp2
      go_ret
      exact ⟨w.heap.size, rfl, Nat.le_refl _, HG2.out, HB.out⟩
theorem below_dn {B : Nat} {w w' : World} (h : Below B w w') (n : Nat) : Below B w (w'.drewN n) := ⟨h.os, h.tape, h.output, h.size, h.block⟩
def YesSay (w : World) (e : Ending) (w' : World) : Prop := e = .returned (.bool true) ∧ Below w.heap.size w w'
set_option maxHeartbeats 1000000 in
set_option maxRecDepth 100000 in
theorem same_any (L : List Int) (p q : Option Addr) (n m c d : Nat) (hn : L.length = n) (hm : L.length = m) (w : World) (hp : BAt w p L) (hq : BAt w q L) (hL : L.length ≤ 10000000) :
    Calls Try.prog 24 #[.slice p n c, .slice q m d] w (YesSay w) := by
  subst hn
  subst hm
  have Hp := Lib.hid hp; clear hp
  have Hq := Lib.hid hq; clear hq
  go_enter Try.func24, Try.ntmps24
  go_wp2
  go_loopw [5] (fun v5 wr => ∃ k : Nat, k ≤ L.length ∧ v5 = .int .i64 k ∧ Hid (Below w.heap.size w wr)) (fun v5 _ => L.length - (intOf v5).toNat)
  case atStart => exact ⟨0, by omega, rfl, Below.refl _ _⟩
  case round =>
    obtain ⟨k, hk, rfl, HB⟩ := hrel
    by_cases hlt : k < L.length
    · obtain ⟨ab, ao, hpp, hcs⟩ := (Hp.out.old HB.out).2 (by omega)
      obtain ⟨bb, bo, hqq, hds⟩ := (Hq.out.old HB.out).2 (by omega)
      subst hpp
      subst hqq
      have c0 := hcs k hlt
      have c1 := hds k hlt
      have hn : 0 ≤ (k : Int) := by omega
      have hm : (k : Int) < (L.length : Int) := by omega
      generalize L.getD k 0 = x at *
      go_wp2
      go_quiet (fail)
      go_wp2
      exact ⟨⟨k + 1, by omega, by go_num, below_dn HB.out _⟩, by simp [intOf]; omega⟩
    · have E : k = L.length := by omega
      have hge : L.length ≤ k := by omega
      clear hlt E
      go_wp2
      go_ret
      exact ⟨rfl, HB.out⟩
theorem BAt.at {w : World} {g : Nat} {l : List Int} (h : BAt w (some ⟨g, 0, none⟩) l) (j : Nat) (hj : j < l.length) : w.cell? ⟨g, j, none⟩ = some (.int .u8 (l.getD j 0)) := by
  obtain ⟨ab, ao, h1, h2⟩ := h.2 (by omega)
  cases h1
  have := h2 j hj
  rwa [Nat.zero_add] at this
set_option maxHeartbeats 1000000 in
set_option maxRecDepth 100000 in
theorem kept_any (L : List Int) (g : Nat) (q : Option Addr) (c d : Nat) (w : World) (hp : BAt w (some ⟨g, 0, none⟩) (mk5 L)) (hq : BAt w q L) (hL : L.length ≤ 1000000) (hc : L.length + 5 ≤ c) :
    Calls Try.prog 25 #[.slice (some ⟨g, 0, none⟩) (L.length + 5) c, .slice q L.length d] w (YesSay w) := by
  have Hp := Lib.hid hp; clear hp
  have Hq := Lib.hid hq; clear hq
  have HPL : Hid (BAt w (some ⟨g, 0, none⟩) L) := by
    have h := Hp.out
    unfold mk5 at h
    exact h.pre
  go_enter Try.func25, Try.ntmps25
  go_wp2_with (go_at_call 24; refine (same_any L _ _ _ _ _ _ rfl rfl _ HPL.out Hq.out (by omega)).mono ?_; rintro e w1 ⟨rfl, hb1⟩)
  have HB1 := Lib.hid hb1
  clear hb1
  go_loopw [5] (fun v5 wr => ∃ k : Nat, k ≤ 5 ∧ v5 = .int .i64 ((L.length : Int) + k) ∧ Hid (Below w.heap.size w wr)) (fun v5 _ => L.length + 5 - (intOf v5).toNat)
  case atStart => exact ⟨0, by omega, by simp, HB1.out⟩
  case round =>
    clear HB1
    obtain ⟨k, hk, rfl, HB⟩ := hrel
    by_cases hlt : k < 5
    · have c0 := (Hp.out.old HB.out).at (L.length + k) (by rw [mk5_len]; omega)
      rw [mk5_hi L (L.length + k) (by omega) (by omega)] at c0
      go_wp2
      exact ⟨⟨k + 1, by omega, by congr 1, HB.out⟩, by simp [intOf]; omega⟩
    · have E : k = 5 := by omega
      subst E
      go_wp2
      go_ret
      exact ⟨rfl, HB.out⟩
/-! TurC -/
theorem own_keepX {w w' : World} {B n : Nat} {v : Value} {xs : List Value} {e : TypeId} {s : Nat} (h : w.ownsRow B e s v n xs) (hb : Below w.heap.size w w') : w'.ownsRow B e s v n xs := by
  refine ⟨h.1, ?_⟩
  rcases h.2 with h' | ⟨g, cap, cur, hv, q0, q1, q2⟩
  · exact Or.inl h'
  · exact Or.inr ⟨g, cap, cur, hv, q0, (hb.block _ (lt_of_block q1)).trans q1, q2⟩
theorem u8_at {w : World} {B n g c : Nat} {l : List Int} (h : w.ownsRow B 5 1 (.slice (some ⟨g, 0, none⟩) n c) n (U8s l)) (j : Nat) (hj : j < n) : w.cell? ⟨g, j, none⟩ = some (.int .u8 (l.getD j 0)) := by
  have hl : (U8s l).length = n := by have := h.1; simpa using this
  rw [h.cellAt j (by omega)]
  unfold U8s at *
  simp only [List.length_map] at hl
  rw [List.getElem?_map, List.getElem?_eq_getElem (by omega), List.getD_eq_getElem?_getD, List.getElem?_eq_getElem (by omega)]
  rfl
/-! AnyH -/
section
variable {P : Program} {md : Region.Mode} {ops : Array Oper} {Q : Exit → Act → World → Prop} {S : World → Prop}
theorem anyH_take (i D : Nat) (v : Value) {fuel : Nat} {listed : Array Bool} {a : Act} {w : World} {op : Op} {T : TypeId} {ps : String} {af : Array Edge} {gd : Option (Nat × Bool)} (hS : S w) (ho : ops[i]? = some { dst := some D, op := op, type := T, pos := ps, after := af, guard := gd })
    (hs : Region.noSelect ops = true) (hf : Region.free md ops listed i = true) (hr : (Region.ready md ops listed).contains i = true)
    (hQ : ∀ c a w, Q (.panic c) (a.put (some D) v) w → Q (.panic c) a w) (hw : Region.wanted { dst := some D, op := op, type := T, pos := ps, after := af, guard := gd } (yielded ops a.tmps) = true) (hy : ∀ w, S w → (execOp a.eval { dst := some D, op := op, type := T, pos := ps, after := af, guard := gd }).run P w = .ok (.value v) w)
    (h : wpAnyH P md ops Q S fuel (listed.setIfInBounds i true) (a.put (some D) v) w) : wpAnyH P md ops Q S (fuel + 1) listed a w :=
  wpAnyH_first ho (Region.noSelect_spec hs) hQ fuel listed a w (Region.free_spec ho hf) (by simpa using hr) (Or.inl ⟨hw, hy⟩) hS h
theorem anyH_one (i : Nat) {fuel : Nat} {listed : Array Bool} {a : Act} {w : World} (hr : Region.ready md ops listed = [i])
    (h : wpOp P ops Q i (fun a' w' => S w' ∧ wpAnyH P md ops Q S fuel (listed.setIfInBounds i true) a' w') a w) : wpAnyH P md ops Q S (fuel + 1) listed a w :=
  ⟨fun h0 => absurd (hr ▸ h0) (by simp), fun j hj => by
    rw [hr] at hj
    simp at hj
    subst hj
    exact h⟩
end
/-! CtrL -/
/-! Contracts: the reference's counter mode (rillref04.low, Block). -/
/-! Contract: SpoilBytes of bytes of the call's own. -/
/-- What a call leaves that writes over a row of bytes alone. -/
def Sp (v : Value) (w w' : World) : Prop := w' = w ∨ ∃ g, v.ownBlock = some g ∧ Only g w w'
theorem Sp.bat {v : Value} {w w' : World} {p : Option Addr} {L : List Int} (h : Sp v w w') (hb : BAt w p L) (hn : 0 < L.length → ∀ g, v.ownBlock = some g → ∀ b o s, p = some ⟨b, o, s⟩ → b ≠ g) : BAt w' p L := by
  rcases h with rfl | ⟨g, hg, ho⟩
  · exact hb
  · refine ⟨hb.1, fun h0 => ?_⟩
    obtain ⟨b, o, rfl, hc⟩ := hb.2 h0
    exact ⟨b, o, rfl, fun j hj => ho.cell (hn h0 g hg b o none rfl) (hc j hj)⟩
theorem Sp.below {v : Value} {w0 w w' : World} {B : Nat} (h : Sp v w w') (hb : Below B w0 w) (hB : B ≤ w.heap.size) (hg : ∀ g, v.ownBlock = some g → B ≤ g) : Below B w0 w' := by
  rcases h with rfl | ⟨g, hv, ho⟩
  · exact hb
  · exact ho.below hb (hg g hv) hB
/-! SeA -/
set_option maxHeartbeats 1000000 in
set_option maxRecDepth 100000 in
/-- Room for so many bytes, out of nothing. -/
theorem grow_nil (n : Nat) (hn : n ≤ 1000000000) (w : World) :
    Calls Try.prog 80 #[.slice none 0 0, .int .i64 n] w fun e w' => ∃ v, e = .returned v ∧ w'.ownsRow w.heap.size 5 1 v 0 (U8s []) ∧ Below w.heap.size w w' := by
  obtain ⟨i0, hi, hz0, hz1, hz2⟩ := info_parts Try.info_u8
  have h1 : ¬ ((n : Int) < 0) := by omega
  by_cases h0 : 0 < n
  · have h0' : (n : Int) > 0 := by omega
    have hcm := grownCap_le_maxLen w n 0 5 (by unfold maxLen; omega)
    have hcn : n ≤ grownCap w n 0 5 := grownCap_ge w _ _ _
    have hr : ∀ ty, (Builtin.append_ #[41, 3] ty #[.slice none 0 0, .int .i64 n]).run Try.prog w = _ := fun ty =>
      Lib.run_append_nil_zeros w 41 3 ty 5 i0 (.int .u8 0) .i64 .i64 Try.underlying41 Try.underlying3 hi hz0 n h0 (by omega) (by omega) (by rw [hz2]; omega)
    have hrow : ∀ c, c ≤ maxLen → n ≤ c → (w.drew.alloc (.cells (Builtin.zeroCells (Value.int .u8 0).cells n ++ Builtin.zeroCells (Value.int .u8 0).cells (c - n)) 5)).ownsRow w.heap.size 5 1 (.slice (some ⟨w.heap.size, 0, none⟩) 0 c) 0 (U8s []) := fun c hc hnc =>
      ⟨by unfold U8s; rfl, Or.inr ⟨w.heap.size, c, _, rfl, Nat.le_refl _, heap_alloc_new w.drew _, Nat.zero_le _, hc, by simp only [Array.size_append, size_zeroCells]; show n * 1 + (c - n) * 1 = c * 1; omega, by unfold U8s; simp⟩⟩
    have hbel : ∀ C, Below w.heap.size w (w.drew.alloc C) := fun C => (Below.refl _ w).drew.alloc (Nat.le_refl _) C
    generalize grownCap w n 0 5 = G at *
    go_enter Try.func80, Try.ntmps80
    go_wp2_with (first
      | (at_builtin; refine Lib.wpList_append_run _ rfl _ _ _ _ rfl _ _ rfl rfl _ _ (hr _) ?_)
      | go_in)
    go_ret
    exact ⟨_, rfl, hrow G hcm hcn, hbel _⟩
  · obtain rfl : n = 0 := by omega
    go_enter Try.func80, Try.ntmps80
    go_wp2
    go_ret
    exact ⟨_, rfl, by unfold U8s; exact World.ownsRow_nil _ _ _ _, Below.refl _ _⟩
/-! SeB -/
/-- Bytes that came in: what they are, where they lie, and how much room is behind them. -/
structure Bs (w : World) (p : Option Addr) (c : Nat) (L : List Int) : Prop where
  bat : BAt w p L
  cap : L.length ≤ c ∧ c ≤ 9223372036854775807
  nil : p = none → L = [] ∧ c = 0
theorem Bs.old {w x : World} {p : Option Addr} {c : Nat} {L : List Int} (h : Bs w p c L) (hb : Below w.heap.size w x) : Bs x p c L := ⟨h.bat.old hb, h.cap, h.nil⟩
theorem bs_none (w : World) : Bs w none 0 [] := ⟨⟨fun x hx => by simp at hx, fun h => by simp at h⟩, ⟨Nat.le_refl _, by omega⟩, fun _ => ⟨rfl, rfl⟩⟩
theorem bs_row {w : World} {g c : Nat} {L : List Int} (h : BAt w (some ⟨g, 0, none⟩) L) (hc : L.length ≤ c ∧ c ≤ 9223372036854775807) : Bs w (some ⟨g, 0, none⟩) c L := ⟨h, hc, fun e => by cases e⟩
/-- Bytes of the call's own, as they are read. -/
theorem own_bs {w : World} {B n : Nat} {v : Value} {l : List Int} (h : w.ownsRow B 5 1 v n (U8s l)) (hb : Sha.Byt l) : ∃ p c, v = .slice p l.length c ∧ Bs w p c l ∧ l.length = n := by
  have hl : l.length = n := by
    have := h.1
    unfold U8s at this
    simpa using this
  rcases h.2 with ⟨rfl, rfl⟩ | ⟨g, cap, cur, rfl, _, _, h1, h2, _⟩
  · obtain rfl : l = [] := List.eq_nil_of_length_eq_zero hl
    exact ⟨none, 0, rfl, bs_none w, rfl⟩
  · refine ⟨some ⟨g, 0, none⟩, cap, by rw [hl], bs_row ⟨hb, fun h0 => ⟨g, 0, rfl, fun j hj => ?_⟩⟩ ⟨by omega, by unfold maxLen at h2; omega⟩, hl⟩
    rw [Nat.zero_add]
    exact u8_at h j (by omega)
theorem bs_cells {w : World} {ad : Addr} {R : List Int} (h : BAt w (some ad) R) : ∀ j u, (R.map (Value.int .u8))[j]? = some u → w.cell? (ad.add j) = some u := fun j u hj => by
  have hjl : j < R.length := by have := (List.getElem?_eq_some_iff.1 hj).1; simpa using this
  obtain ⟨ab, ao, h1, h2⟩ := h.2 (by omega)
  cases h1
  rw [Addr.add_mid, h2 j hjl]
  rw [List.getElem?_map, List.getElem?_eq_getElem hjl] at hj
  rw [List.getD_eq_getElem?_getD, List.getElem?_eq_getElem hjl]
  simpa using hj
/-- append of bytes, wherever they lie, onto a row of the call's own. -/
theorem append_bts {ops : Array Oper} {rest : List Oper} {a : Act} {w : World} {Q : Exit → Act → World → Prop} {D : Option Tmp} {T : TypeId} {ps : String} {af : Array Edge} (s x : Operand) (ys : List Int) (base : Nat) (v : Value) (n : Nat) (l : List Int) (p : Option Addr) (m c : Nat) (hs : a.eval s = v)
    (hx : a.eval x = .slice p m c) (hm : ys.length = m) (hc : Bs w p c ys) (hown : w.ownsRow base 5 1 v n (U8s l)) (hn : n + m ≤ 1000000000000) (hb : base ≤ w.heap.size)
    (h : ∀ v' w', w'.ownsRow base 5 1 v' (n + m) (U8s (l ++ ys)) → w.grownBy w' v.ownBlock → wpList Try.prog ops Q rest (a.put D v') w') :
    wpList Try.prog ops Q ({ dst := D, op := .call { callee := .builtin .append, args := #[s, x], argTypes := #[41, 41] }, type := T, pos := ps, after := af, guard := none } :: rest) a w := by
  subst hm
  obtain ⟨i0, hi, hz0, hz1, hz2⟩ := info_parts Try.info_u8
  cases p with
  | none =>
    obtain ⟨rfl, rfl⟩ := hc.nil rfl
    refine wpList_append_own_none rfl s x 41 rfl base 5 i0 1 Try.underlying41 hi v n (U8s l) hs hown hx ?_
    refine h v w (by rw [List.append_nil]; exact hown) ⟨rfl, rfl, rfl, Nat.le_refl _, fun _ _ _ => rfl⟩
  | some ad =>
    refine wpList_append_own _ rfl s x 41 rfl base 5 i0 (.int .u8 0) 1 1 Try.underlying41 hi hz0 hz1 hz2 rfl (by decide) v n (U8s l) hs hown ad ys.length c (ys.map (Value.int .u8)) hx (by simp) (bs_cells hc.bat) (bytes_one _) (by unfold maxLen; omega) (by omega) hb ?_
    intro v' w' h1 h2 _
    refine h v' w' ?_ h2
    have e : U8s l ++ ys.map (Value.int .u8) = U8s (l ++ ys) := by unfold U8s; simp
    rw [← e]
    exact h1
namespace Seal
/-- The first k rows, one behind the other. -/
def cat (L : Nat → List Int) : Nat → List Int
  | 0 => []
  | k + 1 => cat L k ++ L k
theorem cat_le (L : Nat → List Int) : ∀ m k, k ≤ m → (cat L k).length ≤ (cat L m).length
  | 0, k, h => by
    obtain rfl : k = 0 := (by omega)
    exact Nat.le_refl _
  | m + 1, k, h => by
    by_cases e : k = m + 1
    · subst e; exact Nat.le_refl _
    · have := cat_le L m k (by omega)
      rw [cat, List.length_append]
      omega
theorem cat_len (L : Nat → List Int) (k : Nat) : (cat L (k + 1)).length = (cat L k).length + (L k).length := by rw [cat, List.length_append]
theorem cat_snoc (L : Nat → List Int) (k : Nat) : cat L k ++ L k = cat L (k + 1) := rfl
attribute [irreducible] cat
end Seal
set_option maxHeartbeats 1000000 in
set_option maxRecDepth 100000 in
theorem concat_any (P : Nat → Option Addr) (C : Nat → Nat) (L : Nat → List Int) (m g : Nat) (hm : m ≤ 1000) (w : World) (hc : ∀ k, k < m → w.cell? ⟨g, k, none⟩ = some (.slice (P k) (L k).length (C k))) (hb : ∀ k, k < m → Bs w (P k) (C k) (L k)) (hl : (Seal.cat L m).length ≤ 1000000000) :
    Calls Try.prog 62 #[.slice (some ⟨g, 0, none⟩) m m] w fun e w' => ∃ v, e = .returned v ∧ w'.ownsRow w.heap.size 5 1 v (Seal.cat L m).length (U8s (Seal.cat L m)) ∧ Below w.heap.size w w' := by
  have HC := Lib.hid hc; clear hc
  have HB := Lib.hid hb; clear hb
  have HL : Hid (∀ k, k ≤ m → (Seal.cat L k).length ≤ 1000000000) := fun k hk => Nat.le_trans (Seal.cat_le L m k hk) hl
  have HG : Hid (∀ n : Nat, n ≤ 1000000000 → ∀ w, Calls Try.prog 80 #[.slice none 0 0, .int .i64 n] w fun e w' => ∃ v, e = .returned v ∧ w'.ownsRow w.heap.size 5 1 v 0 (U8s []) ∧ Below w.heap.size w w') := fun n hn w => grow_nil n hn w
  go_enter Try.func62, Try.ntmps62
  go_wp2
  go_loopw [3, 11] (fun v3 v11 wr => ∃ k : Nat, k ≤ m ∧ v11 = .int .i64 k ∧ v3 = .int .i64 ((Seal.cat L k).length : Nat) ∧ w = wr) (fun _ v11 _ => m - (intOf v11).toNat)
  case atStart => exact ⟨0, Nat.zero_le _, rfl, by unfold Seal.cat; rfl, rfl⟩
  case round =>
    obtain ⟨k, hk, rfl, rfl, rfl⟩ := hrel
    have hlk := HL.out k hk
    by_cases hlt : k < m
    · have c0 := HC.out k hlt
      have hl1 := HL.out (k + 1) (by omega)
      have hle := Seal.cat_len L k
      have hn0 : 0 ≤ (k : Int) := by omega
      have hn1 : (k : Int) < (m : Int) := by omega
      have hlL : (L k).length ≤ 1000000000 := by omega
      generalize (Seal.cat L k).length = N0 at *
      generalize (L k).length = N2 at *
      have hx0 : ¬ ((N0 : Int) + (N2 : Int) < 0) := by omega
      go_wp2
      exact ⟨⟨k + 1, by omega, by go_num, by rw [hle, Int.natCast_add], trivial⟩, by simp [intOf]; omega⟩
    · obtain rfl : k = m := by omega
      clear hlt
      have hge : ¬ ((k : Int) < (k : Int)) := by omega
      obtain ⟨N, hN⟩ : ∃ N, (Seal.cat L k).length = N := ⟨_, rfl⟩
      have hN1 : N ≤ 1000000000 := by omega
      rw [hN]
      go_wp2_with (go_at_call 80; refine (HG.out N hN1 _).mono ?_; rintro e w1 ⟨v1, rfl, ho1, hb1⟩; have HO1 := Lib.hid ho1; have HB1 := Lib.hid hb1; clear ho1 hb1)
      go_loopw [6, 27] (fun v6 v27 wr => ∃ j : Nat, j ≤ k ∧ v27 = .int .i64 j ∧ Hid (wr.ownsRow w.heap.size 5 1 v6 (Seal.cat L j).length (U8s (Seal.cat L j))) ∧ Hid (Below w.heap.size w wr)) (fun _ v27 _ => k - (intOf v27).toNat)
      case atStart =>
        refine ⟨0, Nat.zero_le _, rfl, ?_, HB1.out⟩
        show World.ownsRow _ _ _ _ _ _ _
        unfold Seal.cat
        exact HO1.out
      case round =>
        clear HO1 HB1
        obtain ⟨j, hj, rfl, HO, HBl⟩ := hrel
        by_cases hlt : j < k
        · have c0 := (HBl.out.cell (World.block_lt_of_cell? w _ (HC.out j hlt))).trans (HC.out j hlt)
          have hl0 := HL.out j hj
          have hl1 := HL.out (j + 1) (by omega)
          have hle := Seal.cat_len L j
          have hn0 : 0 ≤ (j : Int) := by omega
          have hn1 : (j : Int) < (k : Int) := by omega
          have hsz := HBl.out.size
          have HBS : Hid (Bs wr (P j) (C j) (L j)) := (HB.out j hlt).old HBl.out
          go_wp2_with (first
            | (at_builtin; refine append_bts _ _ (L j) w.heap.size _ _ _ (P j) _ (C j) rfl rfl rfl HBS.out HO.out (by omega) hsz ?_; intro v5 w5 ho5 hg5; have HO5 := Lib.hid ho5; have HG5 := Lib.hid hg5; clear ho5 hg5)
            | go_in)
          refine ⟨⟨j + 1, by omega, by go_num, ?_, ?_⟩, by simp [intOf]; omega⟩
          · show World.ownsRow _ _ _ _ _ _ _
            have h := HO5.out
            rw [← hle, Seal.cat_snoc] at h
            exact h
          · exact HBl.out.grown HG5.out hsz (fun q hq => (HO.out.lt q hq).1)
        · obtain rfl : j = k := by omega
          have hge : ¬ ((j : Int) < (j : Int)) := by omega
          clear hlt
          go_wp2
          go_ret
          refine ⟨_, rfl, ?_, HBl.out⟩
          have h := HO.out
          rw [hN] at h
          exact h
/-! SeE -/
section
variable {P : Program} {ops : Array Oper} {rest : List Oper} {a : Act} {w : World} {Q : Exit → Act → World → Prop} {D : Option Tmp} {T : TypeId} {ps : String} {af : Array Edge}
/-- A value built of two parts. -/
theorem row_build2 (t : TypeId) (x y : Operand) (v u : Value) (R : Array Value) (hx : a.eval x = v) (hy : a.eval y = u) (hr : P.built t [(0, v), (1, u)] = some R) (h : wpList P ops Q rest (a.put D (.agg R)) w) :
    wpList P ops Q ({ dst := D, op := .build t #[(0, x), (1, y)], type := T, pos := ps, after := af, guard := none } :: rest) a w :=
  wpList_plain rfl fun K hK => by
    have hrun := run_build (P := P) w t #[(0, v), (1, u)] R hr
    unfold Oper.wp execOp
    simp only [hx, hy, List.map_toArray, List.map_cons, List.map_nil, hrun, Sem.run_bind, Sem.run_pure, Result.andThen_ok]
    exact hK _ _ h
end
/-! SeJ -/
/-- Rows of literals, as they are read. -/
theorem lit_one (x : World) (l : List Int) (n : Nat) (fr : Nat × Nat) (hl : l.length = n) (hn : n ≤ 1000) (hb : Sha.Byt l) : Bs (x.alloc (.cells (l.map (Value.int .u8)).toArray 5 fr)) (some ⟨x.heap.size, 0, none⟩) n l :=
  bs_row (bat_row (heap_alloc_new x _) hb) ⟨by omega, by omega⟩
theorem lit_two (x : World) (l : List Int) (n : Nat) (fr : Nat × Nat) (hl : l.length = n) (hn : n ≤ 1000) (hb : Sha.Byt l) (O : Obj) : Bs ((x.alloc O).alloc (.cells (l.map (Value.int .u8)).toArray 5 fr)) (some ⟨x.heap.size + 1, 0, none⟩) n l := by
  have h := lit_one (x.alloc O) l n fr hl hn hb
  rw [show (x.alloc O).heap.size = x.heap.size + 1 by simp] at h
  exact h
theorem below_two (x : World) (O O' : Obj) : Below x.heap.size x ((x.alloc O).alloc O') := ((Below.refl _ x).alloc (Nat.le_refl _) _).alloc (by simp) _
theorem Try.cells5 : Try.prog.cellsOf 5 = 1 := by kernel_rfl
/-- Rows of bytes that came in. -/
def BRows (w : World) (tp : Option Addr) (Rs : List (List Int)) : Prop :=
  0 < Rs.length → ∃ tb tf, tp = some ⟨tb, tf, none⟩ ∧ tb < w.heap.size ∧ ∀ r, r < Rs.length → ∃ p c, w.cell? ⟨tb, tf + r, none⟩ = some (.slice p (Rs.getD r []).length c) ∧ Bs w p c (Rs.getD r [])

/-! SeP -/
set_option maxRecDepth 100000 in
theorem open_bs_cells {H : Type} {enc : TypeId × Value → H} {W : World} {m : Nat} {c : Value} {x : DataW H × List MemPlace} (hf : DataW.trod enc Try.prog W 0 (fun _ => true) true m 41 [c] = some x) :
    ∃ (L : List Int) (p : Option Addr) (cap : Nat), c = .slice p L.length cap ∧ Bs W p cap L := by
  rcases open_ints Try.underlying41 Try.underlying5 Try.cells5 hf with ⟨hcs, _⟩ | ⟨a, len, cap, zs, hcs, _, hl, hm, hz, _, hcell, hwz⟩
  · obtain rfl : c = .slice none 0 0 := by simpa using hcs
    exact ⟨[], none, 0, rfl, bs_none W⟩
  · obtain rfl : c = .slice (some a) len cap := by simpa using hcs
    simp only [if_true] at hz
    have hll : (zs.take len).length = len := by simp; omega
    refine ⟨zs.take len, some a, cap, by rw [hll], ⟨fun x hx => ?_, fun h0 => ?_⟩, ⟨by omega, by unfold maxLen at hm; omega⟩, fun e => by cases e⟩
    · have h := hwz x (List.mem_of_mem_take hx)
      simp [Lit.wf, IntKind.min, IntKind.max, IntKind.signed, IntKind.bits] at h
      omega
    · rw [hll] at h0 ⊢
      obtain ⟨ab, ao, spot⟩ := a
      have hspot : spot = none := by simpa [Addr.add] using World.cell?_spot (hcell 0 (by omega))
      subst hspot
      refine ⟨ab, ao, rfl, fun j hj => ?_⟩
      have h := hcell j (by omega)
      rw [Addr.add_mid] at h
      rw [h]
      congr 2
      simp [List.getD_eq_getElem?_getD, hj]
set_option maxRecDepth 100000 in
/-- A slice of bytes that came in. -/
theorem open_bs {H : Type} {enc : TypeId × Value → H} {W : World} {base : Nat} {v : Value} {d : DataW H} {ps : List MemPlace} (hok : Value.okWide Try.prog W .any base 41 v)
    (h : DataW.Trod enc Try.prog W 0 (fun _ => true) true 41 v d ps) : ∃ (L : List Int) (p : Option Addr) (cap : Nat), v = .slice p L.length cap ∧ Bs W p cap L := by
  obtain ⟨a0, len, cap, rfl⟩ := okWide_slice Try.underlying41 hok
  obtain ⟨fuel, hf⟩ := h
  exact open_bs_cells hf
/-! SeM -/
section
variable {P : Program} {md : Region.Mode} {ops : Array Oper} {Q : Exit → Act → World → Prop} {S : World → Prop}
/-- What its guard leaves out may be taken first, too. -/
theorem anyH_skip (i D : Nat) {fuel : Nat} {listed : Array Bool} {a : Act} {w : World} {op : Op} {T : TypeId} {ps : String} {af : Array Edge} {gd : Option (Nat × Bool)} (hS : S w) (ho : ops[i]? = some { dst := some D, op := op, type := T, pos := ps, after := af, guard := gd })
    (hs : Region.noSelect ops = true) (hf : Region.free md ops listed i = true) (hr : (Region.ready md ops listed).contains i = true)
    (hQ : ∀ c a w, Q (.panic c) (a.put (some D) undef) w → Q (.panic c) a w) (hw : Region.wanted { dst := some D, op := op, type := T, pos := ps, after := af, guard := gd } (yielded ops a.tmps) = false)
    (h : wpAnyH P md ops Q S fuel (listed.setIfInBounds i true) (a.put (some D) undef) w) : wpAnyH P md ops Q S (fuel + 1) listed a w :=
  wpAnyH_first ho (Region.noSelect_spec hs) hQ fuel listed a w (Region.free_spec ho hf) (by simpa using hr) (Or.inr ⟨hw, rfl⟩) hS h
end
set_option maxHeartbeats 1000000 in
set_option maxRecDepth 100000 in
theorem copybytes_any (L : List Int) (p : Option Addr) (n cap : Nat) (hn : L.length = n) (hL : L.length ≤ 1000000) (w : World) (hp : BAt w p L) :
    Calls Try.prog 28 #[.slice p n cap] w fun e w' => ∃ v, e = .returned v ∧ w'.ownsRow w.heap.size 5 1 v n (U8s L) ∧ Below w.heap.size w w' := by
  subst hn
  obtain ⟨i0, hi, hz0, hz1, hz2⟩ := info_parts Try.info_u8
  have Hp := Lib.hid hp; clear hp
  go_enter Try.func28, Try.ntmps28
  go_wp2
  go_loopw [3, 4] (fun v i wr => ∃ k : Nat, k ≤ L.length ∧ i = .int .i64 k ∧ Hid (wr.ownsRow w.heap.size 5 1 v k (U8s (L.take k))) ∧ Hid (Below w.heap.size w wr)) (fun _ i _ => L.length - (intOf i).toNat)
  case atStart => exact ⟨0, Nat.zero_le _, rfl, by unfold U8s; exact World.ownsRow_nil _ _ _ _, Below.refl _ _⟩
  case round =>
    obtain ⟨k, hk, rfl, HO, HB⟩ := hrel
    by_cases hlt : k < L.length
    · obtain ⟨ab, ao, hpp, hcs⟩ := (Hp.out.old HB.out).2 (by omega)
      subst hpp
      have c0 := hcs k hlt
      clear hcs
      obtain ⟨x, hx⟩ : ∃ x, L.getD k 0 = x := ⟨_, rfl⟩
      rw [hx] at c0
      go_wp2_with (first
        | (at_builtin; refine wpList_append_own _ rfl _ _ 41 rfl w.heap.size 5 i0 (.int .u8 0) 1 1 Try.underlying41 hi hz0 hz1 hz2 rfl (by decide) _ _ _ rfl (HO.out.alloc _) ⟨wr.heap.size, 0, none⟩ 1 1 [.int .u8 x] rfl rfl (u8_cell _ _ _) (u8_one _) (by unfold maxLen; omega) (by omega) (by have := HB.out.size; simp; omega) ?_)
        | go_in)
      intro v' w1 hown' hgrow _
      have hb1 := below_own HB.out (HB.out.size) HO.out hgrow
      rw [U8s_snoc, ← hx, take_snoc L k hlt] at hown'
      clear hgrow HO HB
      go_wp2
      exact ⟨⟨k + 1, by omega, by go_num, hown', hb1⟩, by simp [intOf]; omega⟩
    · have E : k = L.length := by omega
      have HO2 : Hid (wr.ownsRow w.heap.size 5 1 u3 L.length (U8s L)) := by
        have := HO.out
        rw [E, List.take_length] at this
        exact this
      have hge : L.length ≤ k := by omega
      clear hlt HO E
      go_wp2
      go_ret
      exact ⟨_, rfl, HO2.out, HB.out⟩
/-! SeM2 -/
theorem Try.cells22 : Try.prog.cellsOf 41 = 1 := by kernel_rfl
set_option maxRecDepth 100000 in
theorem open_mat {H : Type} {enc : TypeId × Value → H} {W : World} {base : Nat} {v : Value} {d : DataW H} {ps : List MemPlace} (hok : Value.okWide Try.prog W .any base 32 v)
    (h : DataW.Trod enc Try.prog W 0 (fun _ => true) true 32 v d ps) : ∃ (Rs : List (List Int)) (tp : Option Addr) (cap : Nat), v = .slice tp Rs.length cap ∧ BRows W tp Rs := by
  obtain ⟨a0, len, cap, rfl⟩ := okWide_slice Try.underlying32 hok
  obtain ⟨fuel, hf⟩ := h
  rcases Go.Deep.open_int_rows Try.underlying32 Try.underlying41 Try.underlying5 Try.cells22 Try.cells5 hf with ⟨hcs, _⟩ | ⟨a, len', cap', A, L, C, Z, hcs, _, hl, hm, _, hrow⟩
  · simp [Value.cells] at hcs
    obtain ⟨rfl, rfl, rfl⟩ := hcs
    exact ⟨[], none, 0, rfl, fun h0 => by simp at h0⟩
  · simp [Value.cells] at hcs
    obtain ⟨rfl, rfl, rfl⟩ := hcs
    have hlen : ((List.range len).map fun r => (Z r).take (L r)).length = len := by simp
    refine ⟨(List.range len).map fun r => (Z r).take (L r), some a, cap, by rw [hlen], fun h0 => ?_⟩
    rw [hlen] at h0
    obtain ⟨ab, ao, spot⟩ := a
    have hspot : spot = none := by simpa [Addr.add] using World.cell?_spot (hrow 0 (by omega)).1
    subst hspot
    have h00 := (hrow 0 (by omega)).1
    rw [Addr.add_mid] at h00
    refine ⟨ab, ao, rfl, World.block_lt_of_cell? W ⟨ab, ao + 0, none⟩ h00, fun r hr => ?_⟩
    rw [hlen] at hr
    have hg : ((List.range len).map fun r => (Z r).take (L r)).getD r [] = (Z r).take (L r) := by simp [List.getD_eq_getElem?_getD, hr]
    obtain ⟨e1, e2, e3, e4, e5, e6, e7⟩ := hrow r (by omega)
    have hll : ((Z r).take (L r)).length = L r := by simp; omega
    rw [hg, hll]
    rw [Addr.add_mid] at e1
    refine ⟨A r, C r, e1, ⟨⟨fun x hx => ?_, fun h1 => ?_⟩, ⟨by rw [hll]; exact e2, by unfold maxLen at e3; omega⟩, fun h1 => ⟨List.eq_nil_of_length_eq_zero (by rw [hll]; have := e6 h1; omega), e6 h1⟩⟩⟩
    · have h := e5 x (List.mem_of_mem_take hx)
      simp [Lit.wf, IntKind.min, IntKind.max, IntKind.signed, IntKind.bits] at h
      omega
    · rw [hll] at h1 ⊢
      cases hA : A r with
      | none => have := e6 hA; omega
      | some a' =>
        obtain ⟨bb, bo, sp⟩ := a'
        obtain ⟨_, hc⟩ := e7 _ hA
        have hsp : sp = none := by simpa [Addr.add] using World.cell?_spot (hc 0 (by omega))
        subst hsp
        refine ⟨bb, bo, rfl, fun j hj => ?_⟩
        have h := hc j (by omega)
        rw [Addr.add_mid] at h
        rw [h]
        congr 2
        simp [List.getD_eq_getElem?_getD, hj]
/-! SeR -/
set_option maxHeartbeats 1000000 in
set_option maxRecDepth 100000 in
/-- Are two rows the same? -/
theorem same_gen (L M : List Int) (p q : Option Addr) (n c d : Nat) (hn : L.length = n) (hm : M.length = n) (w : World) (hp : BAt w p L) (hq : BAt w q M) (hL : n ≤ 10000000) :
    Calls Try.prog 24 #[.slice p n c, .slice q n d] w fun r w' => r = .returned (.bool (decide (L = M))) ∧ Below w.heap.size w w' := by
  have Hp := Lib.hid hp; clear hp
  have Hq := Lib.hid hq; clear hq
  have Hn := Lib.hid (And.intro hn hm); clear hn hm
  go_enter Try.func24, Try.ntmps24
  go_wp2
  go_loopw [5] (fun v5 wr => ∃ k : Nat, k ≤ n ∧ v5 = .int .i64 k ∧ Hid (∀ j, j < k → L.getD j 0 = M.getD j 0) ∧ Hid (Below w.heap.size w wr)) (fun v5 _ => n - (intOf v5).toNat)
  case atStart => exact ⟨0, by omega, rfl, fun j hj => by omega, Below.refl _ _⟩
  case round =>
    obtain ⟨k, hk, rfl, HE, HB⟩ := hrel
    by_cases hlt : k < n
    · obtain ⟨ab, ao, hpp, hcs⟩ := (Hp.out.old HB.out).2 (by have := Hn.out; omega)
      obtain ⟨bb, bo, hqq, hds⟩ := (Hq.out.old HB.out).2 (by have := Hn.out; omega)
      subst hpp
      subst hqq
      have c0 := hcs k (by have := Hn.out; omega)
      have c1 := hds k (by have := Hn.out; omega)
      have hn : 0 ≤ (k : Int) := by omega
      have hm : (k : Int) < (n : Int) := by omega
      by_cases hxy : L.getD k 0 = M.getD k 0
      · have HE2 : Hid (∀ j, j < k + 1 → L.getD j 0 = M.getD j 0) := fun j hj => by
          by_cases h : j = k
          · subst h; exact hxy
          · exact HE.out j (by omega)
        rw [← hxy] at c1
        clear hxy hcs hds
        generalize L.getD k 0 = x at *
        go_wp2
        go_quiet (fail)
        go_wp2
        exact ⟨⟨k + 1, by omega, by go_num, HE2.out, below_dn HB.out _⟩, by simp [intOf]; omega⟩
      · have HNE : Hid (decide (L = M) = false) := by
          show _ = _
          rw [decide_eq_false_iff_not]
          rintro rfl
          exact hxy rfl
        clear hcs hds
        have hxy2 := hxy
        generalize L.getD k 0 = x at *
        generalize M.getD k 0 = y at *
        go_wp2
        go_quiet (fail)
        go_wp2
        go_ret
        exact ⟨congrArg (fun z => Ending.returned (Value.bool z)) HNE.out.symm, below_dn HB.out _⟩
    · have E : k = n := by omega
      have HEQ : Hid (decide (L = M) = true) := by
        show _ = _
        rw [decide_eq_true_iff]
        have hh := Hn.out
        apply List.ext_getElem (by omega)
        intro i h1 h2
        have := HE.out i (by omega)
        rw [List.getD_eq_getElem?_getD, List.getElem?_eq_getElem h1, List.getD_eq_getElem?_getD, List.getElem?_eq_getElem h2] at this
        simpa using this
      have hge : n ≤ k := by omega
      clear hlt E
      go_wp2
      go_ret
      exact ⟨congrArg (fun z => Ending.returned (Value.bool z)) HEQ.out.symm, HB.out⟩
/-! SeQ -/
/-- Own bytes stay while others are written over. -/
theorem own_sp {w x : World} {B n : Nat} {v u : Value} {xs : List Value} (h : w.ownsRow B 5 1 v n xs) (hs : Sp u w x) (hne : ∀ g, v.ownBlock = some g → u.ownBlock ≠ some g) : x.ownsRow B 5 1 v n xs := by
  rcases hs with rfl | ⟨j, hj, ho⟩
  · exact h
  · refine ⟨h.1, ?_⟩
    rcases h.2 with h1 | ⟨g, cap, cur, h1, h2, h3, h4⟩
    · exact Or.inl h1
    · refine Or.inr ⟨g, cap, cur, h1, h2, (ho.block _ (lt_of_block h3) (fun e => ?_)).trans h3, h4⟩
      subst e
      exact hne g (by rw [h1]; rfl) hj
theorem sp_block {w x : World} {u : Value} {k : Nat} (hs : Sp u w x) (hk : k < w.heap.size) (hne : u.ownBlock ≠ some k) : x.heap[k]? = w.heap[k]? := by
  rcases hs with rfl | ⟨j, hj, ho⟩
  · rfl
  · exact ho.block _ hk (fun e => hne (by rw [hj, e]))
theorem sp_size {w x : World} {u : Value} (hs : Sp u w x) : w.heap.size ≤ x.heap.size := by
  rcases hs with rfl | ⟨j, _, ho⟩
  · exact Nat.le_refl _
  · exact ho.size
theorem lent_bs {w : World} {g : Nat} {L : List Int} (hL : L.length ≤ 100000) (h : w.heap[g]? = some (.cells ((mk5 L).map (Value.int .u8)).toArray 5 (0, 0))) (hb : Sha.Byt L) : Bs w (some ⟨g, 0, none⟩) (L.length + 5) L := by
  have h1 := bat_row h (mk5_byt hb)
  unfold mk5 at h1
  exact bs_row h1.pre ⟨by omega, by omega⟩
end

/-! NaM: Names in plain lists; a map that only grows; texts as keys. -/
section
open Go.ChangeShapes Go.WideShapes Go.RowKit

namespace Nm
/-- The place of a thing in a list, from 1 on; 0: it isn't in it. -/
def place {α : Type} [DecidableEq α] (x : α) : List α → Nat
  | [] => 0
  | y :: r => if y = x then 1 else if place x r = 0 then 0 else place x r + 1
section
variable {α : Type} [DecidableEq α] {x y : α} {l m : List α} {k : Nat}
theorem place_zero : place x l = 0 ↔ x ∉ l := by
  induction l with
  | nil => simp [place]
  | cons z r ih =>
    rw [place]
    by_cases h : z = x
    · simp [h]
    · rw [if_neg h, List.mem_cons]
      by_cases h2 : place x r = 0
      · simp [h2, ih.1 h2, Ne.symm h]
      · rw [if_neg h2]
        have h3 : x ∈ r := by
          by_cases h4 : x ∈ r
          · exact h4
          · exact absurd (ih.2 h4) h2
        simp [h3]
theorem place_le : place x l ≤ l.length := by
  induction l with
  | nil => simp [place]
  | cons z r ih =>
    rw [place]
    split
    · simp
    · split
      · simp
      · simp; exact ih
theorem place_get : ∀ {l : List α} {k : Nat}, place x l = k + 1 → l[k]? = some x
  | [], k, h => by simp [place] at h
  | z :: r, k, h => by
    rw [place] at h
    by_cases e : z = x
    · rw [if_pos e] at h
      obtain rfl : k = 0 := by omega
      simp [e]
    · rw [if_neg e] at h
      by_cases e2 : place x r = 0
      · rw [if_pos e2] at h; omega
      · rw [if_neg e2] at h
        obtain ⟨j, rfl⟩ : ∃ j, k = j + 1 := ⟨k - 1, by omega⟩
        have := place_get (l := r) (k := j) (by omega)
        simpa using this
theorem place_of : ∀ {l : List α} {k : Nat}, l.Nodup → l[k]? = some x → place x l = k + 1
  | [], k, _, h => by simp at h
  | z :: r, 0, _, h => by
    simp at h
    simp [place, h]
  | z :: r, k + 1, hn, h => by
    rw [List.nodup_cons] at hn
    have h' : r[k]? = some x := by simpa using h
    have hm : x ∈ r := List.mem_of_getElem? h'
    have hne : z ≠ x := fun e => hn.1 (e ▸ hm)
    have := place_of hn.2 h'
    rw [place, if_neg hne, this]
    simp
theorem place_app : place x (l ++ m) = if place x l = 0 then (if place x m = 0 then 0 else l.length + place x m) else place x l := by
  induction l with
  | nil =>
    simp only [List.nil_append, place]
    by_cases h : place x m = 0 <;> simp [h]
  | cons z r ih =>
    rw [List.cons_append, place, place, ih]
    by_cases h : z = x
    · simp [h]
    · rw [if_neg h, if_neg h]
      by_cases h1 : place x r = 0
      · rw [if_pos h1, if_pos h1]
        by_cases h2 : place x m = 0
        · simp [h2]
        · simp [h2]; omega
      · simp [h1]
/-- A list with a thing, which is put behind if it isn't in it; and its place there. -/
def put (x : α) (l : List α) : List α := if place x l = 0 then l ++ [x] else l
def num (x : α) (l : List α) : Nat := if place x l = 0 then l.length + 1 else place x l
theorem num_place : place x (put x l) = num x l := by
  unfold put num
  by_cases h : place x l = 0
  · rw [if_pos h, if_pos h, place_app, if_pos h]
    simp [place]
  · rw [if_neg h, if_neg h]
theorem num_pos : 0 < num x l := by unfold num; split <;> omega
theorem num_le : num x l ≤ l.length + 1 := by have := place_le (x := x) (l := l); unfold num; split <;> omega
theorem put_len : (put x l).length ≤ l.length + 1 := by unfold put; split <;> simp
theorem put_nodup (h : l.Nodup) : (put x l).Nodup := by
  unfold put
  split
  · rename_i h0
    have := place_zero.1 h0
    exact List.nodup_append.2 ⟨h, by simp, fun a ha b hb => by simp at hb; subst hb; exact fun e => this (e ▸ ha)⟩
  · exact h
theorem mem_put : y ∈ put x l → y ∈ l ∨ y = x := by
  unfold put
  split
  · simp
  · exact Or.inl
/-- What was there keeps its place. -/
theorem place_put (h : place y l ≠ 0) : place y (put x l) = place y l := by
  unfold put
  split
  · rw [place_app, if_neg h]
  · rfl
theorem place_inj (h : place x l = place y l) (h0 : place x l ≠ 0) : x = y := by
  obtain ⟨k, hk⟩ : ∃ k, place x l = k + 1 := ⟨place x l - 1, by omega⟩
  have h1 := place_get hk
  have h2 := place_get (h ▸ hk : place y l = k + 1)
  rw [h1] at h2
  exact Option.some.inj h2
theorem put_self : place x (put x l) ≠ 0 := by rw [num_place]; have := num_pos (x := x) (l := l); omega
theorem put_same (h : place x l ≠ 0) : put x l = l := by unfold put; rw [if_neg h]
theorem num_same (h : place x l ≠ 0) : num x l = place x l := by unfold num; rw [if_neg h]
theorem num_new (h : place x l = 0) : num x l = l.length + 1 := by unfold num; rw [if_pos h]
theorem put_new (h : place x l = 0) : put x l = l ++ [x] := by unfold put; rw [if_pos h]
end

/-- A text's bytes. -/
def bts (l : List Int) : ByteArray := ⟨(l.map fun i => UInt8.ofNat i.toNat).toArray⟩
theorem bts_size (l : List Int) : (bts l).size = l.length := by simp [bts, ByteArray.size]
theorem bts_inj : ∀ {l m : List Int}, Sha.Byt l → Sha.Byt m → bts l = bts m → l = m := by
  intro l m hl hm h
  have h1 : l.map (fun i => UInt8.ofNat i.toNat) = m.map (fun i => UInt8.ofNat i.toNat) := by
    have := congrArg (fun b : ByteArray => b.data.toList) h
    simpa [bts] using this
  have hlen : l.length = m.length := by simpa using congrArg List.length h1
  apply List.ext_getElem hlen
  intro i h2 h3
  have h4 := congrArg (fun q : List UInt8 => q[i]?) h1
  simp only [List.getElem?_map, List.getElem?_eq_getElem h2, List.getElem?_eq_getElem h3, Option.map_some, Option.some.injEq] at h4
  have a := hl _ (List.getElem_mem h2)
  have b := hm _ (List.getElem_mem h3)
  have h5 := congrArg UInt8.toNat h4
  simp only [UInt8.toNat_ofNat'] at h5
  omega

abbrev Four := Int × Int × List Int × List Int
def kv4 (x : Four) : Value := .agg #[.int .i64 x.1, .int .i64 x.2.1, .string (bts x.2.2.1), .string (bts x.2.2.2)]
def kvs (t : List Int) : Value := .string (bts t)
def In64 (n : Int) : Prop := -9223372036854775808 ≤ n ∧ n ≤ 9223372036854775807
def okt (t : List Int) : Prop := Sha.Byt t ∧ t.length ≤ 9223372036854775807
def ok4 (x : Four) : Prop := In64 x.1 ∧ In64 x.2.1 ∧ okt x.2.2.1 ∧ okt x.2.2.2

/-- What a kind of key must have. -/
structure Kd {α : Type} (kv : α → Value) (ok : α → Prop) (K : TypeId) : Prop where
  law : Go.Maps.Keyed Try.prog K
  reads : ∀ x, ok x → ∃ l, keyOf Try.prog K (kv x) = some l
  inj : ∀ x y, ok x → ok y → kv x = kv y → x = y

theorem kvs_inj (x y : List Int) (hx : okt x) (hy : okt y) (h : kvs x = kvs y) : x = y := by
  unfold kvs at h
  exact bts_inj hx.1 hy.1 (Value.string.inj h)
theorem kv4_inj (x y : Four) (hx : ok4 x) (hy : ok4 y) (h : kv4 x = kv4 y) : x = y := by
  obtain ⟨a, b, c, d⟩ := x
  obtain ⟨a', b', c', d'⟩ := y
  simp only [kv4, Value.agg.injEq] at h
  simp at h
  obtain ⟨rfl, rfl, h3, h4⟩ := h
  obtain rfl := bts_inj hx.2.2.1.1 hy.2.2.1.1 h3
  obtain rfl := bts_inj hx.2.2.2.1 hy.2.2.2.1 h4
  rfl
theorem wf_in {n : Int} (h : In64 n) : (Lit.int .i64 n).wf = true := by
  unfold In64 at h
  simp [Lit.wf, IntKind.min, IntKind.max, IntKind.signed, IntKind.bits]
  omega
end Nm
theorem kd_text : Nm.Kd Nm.kvs Nm.okt 9 where
  law := Go.Maps.string_keyed Try.underlying9
  reads := fun x hx => ⟨_, by
    unfold Nm.kvs
    simp only [keyOf, Try.underlying9, mapKey]
    rw [if_pos (by rw [Nm.bts_size]; have := hx.2; unfold maxLen; omega)]⟩
  inj := Nm.kvs_inj

theorem laid_out : laidOutB Try.prog = true := by kernel_rfl
theorem row_four : 183 < Try.prog.types.size := of_decide_eq_true (by kernel_rfl)
theorem law_four : WideMaps.KeyLaw Try.prog 183 := deep_law_laid laid_out (m := 3) (by omega) row_four (by kernel_rfl) (by kernel_rfl)
theorem cells_four : Try.prog.cellsOf 183 = 4 := by kernel_rfl
theorem cells_int : Try.prog.cellsOf 3 = 1 := by kernel_rfl
theorem cells_string : Try.prog.cellsOf 9 = 1 := by kernel_rfl
theorem key_four : Try.prog.keyType 183 = true := by kernel_rfl
theorem lits_int (d : Nat) {n : Int} (h : Nm.In64 n) : Try.prog.keyLits (d + 1) 3 [.int .i64 n] = some [.int .i64 n] := by
  simp [Program.keyLits, Try.underlying3, Nm.wf_in h]
theorem lits_text (d : Nat) {l : List Int} (h : Nm.okt l) : Try.prog.keyLits (d + 1) 9 [.string (Nm.bts l)] = some [.string (Nm.bts l).data.toList] := by
  have : (Nm.bts l).size ≤ maxLen := by rw [Nm.bts_size]; have := h.2; unfold maxLen; omega
  simp [Program.keyLits, Try.underlying9, this]
set_option maxRecDepth 100000 in
theorem kd_four : Nm.Kd Nm.kv4 Nm.ok4 183 where
  law := Go.Maps.Keyed.of_law law_four
  reads := fun x hx => by
    obtain ⟨a, b, c, d⟩ := x
    obtain ⟨h1, h2, h3, h4⟩ := hx
    obtain ⟨m, hm⟩ : ∃ m, Try.prog.types.size = m + 1 := ⟨Try.prog.types.size - 1, by have := row_four; omega⟩
    have hf : (Nm.kv4 (a, b, c, d)).formed Try.prog 183 = true := by
      simp [Nm.kv4, Value.formed, Try.underlying183, cells_four]
    have hl : Try.prog.keyLits (m + 2) 183 (Nm.kv4 (a, b, c, d)).cells.toList = some [.int .i64 a, .int .i64 b, .string (Nm.bts c).data.toList, .string (Nm.bts d).data.toList] := by
      simp only [Nm.kv4, Value.cells]
      unfold Program.keyLits
      rw [Try.underlying183]
      simp [cells_four, cells_int, cells_string, lits_int _ h1, lits_int _ h2, lits_text _ h3, lits_text _ h4]
    refine ⟨_, show keyOf Try.prog 183 (Nm.kv4 (a, b, c, d)) = some (.string (keyBytes [.int .i64 a, .int .i64 b, .string (Nm.bts c).data.toList, .string (Nm.bts d).data.toList])) from ?_⟩
    unfold keyOf
    rw [Try.underlying183]
    dsimp only
    rw [if_pos (by rw [key_four, hf]; rfl), hm, hl]
    rfl
  inj := Nm.kv4_inj
end

/-! NaN: A map that only grows: what it says at a key, how it takes a new one; texts out of bytes. -/
section
open Go.ChangeShapes Go.WideShapes Go.RowKit

/-- 'string(b)'. -/
theorem text_of {w : World} {p : Option Addr} {c : Nat} {L : List Int} (h : Bs w p c L) : (convert 41 9 (.slice p L.length c)).run Try.prog w = .ok (.string (Nm.bts L)) w := by
  cases p with
  | none =>
    obtain ⟨rfl, rfl⟩ := h.nil rfl
    exact Lib.run_convert_nil_bytes w 41 9 5 0 Try.underlying41 Try.underlying5 Try.underlying9
  | some ad =>
    have hb := bs_cells h.bat
    have hr := run_convert_bytes_back (P := Try.prog) w 41 9 5 ad c (L.map fun i => UInt8.ofNat i.toNat) Try.underlying41 Try.underlying5 Try.underlying9 (fun j hj => by
      have hj' : j < L.length := by simpa using hj
      rw [hb j _ (by rw [List.getElem?_map, List.getElem?_eq_getElem hj']; rfl)]
      have hB := h.bat.1 _ (List.getElem_mem hj')
      simp only [List.getElem_map, UInt8.toNat_ofNat']
      congr 2
      omega)
    simpa [Nm.bts] using hr

section
variable {α : Type}
/-- Block b is a map of the keys l, each with its place. -/
def MpAt (kv : α → Value) (ok : α → Prop) (w : World) (b : Nat) (l : List α) : Prop :=
  l.Nodup ∧ (∀ x ∈ l, ok x) ∧ ∃ es clock, w.heap[b]? = some (.map es clock) ∧ es.toList.length = l.length ∧ ∀ (j : Nat) (e : MapEntry), es.toList[j]? = some e → ∃ x, l[j]? = some x ∧ e.key = kv x ∧ e.val = .int .i64 ((j : Int) + 1)
variable {kv : α → Value} {ok : α → Prop} {K t : TypeId} {w : World} {b : Nat} {l : List α} {x : α}
theorem MpAt.block (h : MpAt kv ok w b l) : b < w.heap.size := by
  obtain ⟨_, _, es, clock, hb, _⟩ := h
  exact (Array.getElem?_eq_some_iff.1 hb).1
theorem MpAt.keep {w' : World} (h : MpAt kv ok w b l) (hb : w'.heap[b]? = w.heap[b]?) : MpAt kv ok w' b l := by
  obtain ⟨h1, h2, es, clock, h3, h4⟩ := h
  exact ⟨h1, h2, es, clock, hb.trans h3, h4⟩
theorem MpAt.old {w' : World} (h : MpAt kv ok w b l) (hb : Below w.heap.size w w') : MpAt kv ok w' b l := h.keep (hb.block _ h.block)
/-- 'len(m)'. -/
theorem MpAt.len (ht : Try.prog.underlying t = some (.map K 3)) (h : MpAt kv ok w b l) (ty : TypeId) :
    (Builtin.len_ #[t] ty #[.map (some b)]).run Try.prog w = .ok (.int .i64 (l.length : Nat)) w := by
  obtain ⟨h1, h2, es, clock, hb, h3, h4⟩ := h
  have h5 : es.size = l.length := by simpa using h3
  simp [Builtin.len_, run_underlying ht, MapKept.run_getObj_map hb, goInt, Result.andThen, h5]
theorem mp_made (w : World) (kv : α → Value) (ok : α → Prop) : MpAt kv ok (w.alloc (.map #[] 0)) w.heap.size [] :=
  ⟨List.nodup_nil, by simp, #[], 0, (MapKept.heap_alloc w _).1, rfl, fun j e h => by simp at h⟩
variable [DecidableEq α]
theorem MpAt.find (hk : Nm.Kd kv ok K) (hx : ok x) {es : Array MapEntry} (h1 : l.Nodup) (h2 : ∀ x ∈ l, ok x) (h3 : es.toList.length = l.length) (h4 : ∀ (j : Nat) (e : MapEntry), es.toList[j]? = some e → ∃ x, l[j]? = some x ∧ e.key = kv x ∧ e.val = .int .i64 ((j : Int) + 1)) (w : World) :
    (Nm.place x l = 0 ∧ (Instr.findKey K (kv x) es.toList).run Try.prog w = .ok none w) ∨ ∃ j, Nm.place x l = j + 1 ∧ (Instr.findKey K (kv x) es.toList).run Try.prog w = .ok (some (j, .int .i64 ((j : Int) + 1))) w := by
  obtain ⟨lx, hlx⟩ := hk.reads x hx
  have hes : ∀ e ∈ es.toList, ∃ l, keyOf Try.prog K e.key = some l := fun e he => by
    obtain ⟨j, hj⟩ := List.getElem?_of_mem he
    obtain ⟨y, hy, hk1, _⟩ := h4 j e hj
    rw [hk1]
    exact hk.reads y (h2 y (List.mem_of_getElem? hy))
  rcases hk.law.find w hlx es.toList hes with ⟨f1, f2⟩ | ⟨j, e, f1, f2, f3⟩
  · refine Or.inl ⟨Nm.place_zero.2 (fun hm => ?_), f1⟩
    obtain ⟨j, hj⟩ := List.getElem?_of_mem hm
    have hlt : j < es.toList.length := by rw [h3]; exact (List.getElem?_eq_some_iff.1 hj).1
    obtain ⟨y, hy, hk1, _⟩ := h4 j _ (List.getElem?_eq_getElem hlt)
    rw [hj] at hy
    cases hy
    exact f2 _ (List.getElem_mem hlt) hk1
  · obtain ⟨y, hy, hk1, hv⟩ := h4 j e f2
    have hyx : y = x := hk.inj y x (h2 y (List.mem_of_getElem? hy)) hx (by rw [← hk1, f3])
    subst hyx
    refine Or.inr ⟨j, Nm.place_of h1 hy, ?_⟩
    rw [f1, hv]
/-- 'k, found := m[x]'. -/
theorem MpAt.look (hk : Nm.Kd kv ok K) (ht : Try.prog.underlying t = some (.map K 3)) (h : MpAt kv ok w b l) (hx : ok x) :
    (Instr.lookup t (.map (some b)) (kv x) true).run Try.prog w = .ok (.tuple #[.int .i64 (Nm.place x l : Nat), .bool (decide (0 < Nm.place x l))]) w := by
  obtain ⟨h1, h2, es, clock, hb, h3, h4⟩ := h
  obtain ⟨lx, hlx⟩ := hk.reads x hx
  have hz : (zeroValue 3).run Try.prog w = .ok (.int .i64 0) w := by kernel_rfl
  rcases MpAt.find hk hx h1 h2 h3 h4 w with ⟨p1, f1⟩ | ⟨j, p1, f1⟩
  · rw [p1]
    simp [Instr.lookup, run_underlying ht, MapKept.run_getObj_map hb, hk.law.check w _ hlx, f1, hz, Result.andThen]
  · rw [p1]
    simp [Instr.lookup, run_underlying ht, MapKept.run_getObj_map hb, hk.law.check w _ hlx, f1, Result.andThen]
/-- 'm[x] = len(m) + 1', where x is new. -/
theorem MpAt.store (hk : Nm.Kd kv ok K) (ht : Try.prog.underlying t = some (.map K 3)) (h : MpAt kv ok w b l) (hx : ok x) (h0 : Nm.place x l = 0) :
    ∃ w', (Instr.mapUpdate t (.map (some b)) (kv x) (.int .i64 ((l.length : Int) + 1))).run Try.prog w = .ok () w' ∧ MpAt kv ok w' b (l ++ [x]) ∧ Chg b w w' := by
  obtain ⟨h1, h2, es, clock, hb, h3, h4⟩ := h
  obtain ⟨lx, hlx⟩ := hk.reads x hx
  have hs : es.size = l.length := by simpa using h3
  rcases MpAt.find hk hx h1 h2 h3 h4 w with ⟨_, f1⟩ | ⟨j, p1, _⟩
  · refine ⟨{ w with heap := w.heap.setIfInBounds b (.map (es.push ⟨kv x, .int .i64 ((l.length : Int) + 1), clock⟩) (clock + 1)) }, ?_, ⟨?_, ?_, _, _, (MapKept.heap_set hb).1, by simp [hs], fun j e hj => ?_⟩, ⟨rfl, rfl, rfl, by simp, fun k hk => (MapKept.heap_set hb).2 k hk⟩⟩
    · simp [Instr.mapUpdate, run_underlying ht, MapKept.run_getObj_map hb, hk.law.check w false hlx, f1, MapKept.run_setObj_map _ hb, Result.andThen]
    · have := Nm.place_zero.1 h0
      exact List.nodup_append.2 ⟨h1, by simp, fun a ha b hb => by simp at hb; subst hb; exact fun e => this (e ▸ ha)⟩
    · intro y hy
      rcases List.mem_append.1 hy with hy | hy
      · exact h2 y hy
      · simp at hy; subst hy; exact hx
    · by_cases hlt : j < l.length
      · have hj' : es.toList[j]? = some e := by
          rw [Array.toList_push, List.getElem?_append_left (by rw [h3]; exact hlt)] at hj
          exact hj
        obtain ⟨y, hy, hr⟩ := h4 j e hj'
        exact ⟨y, by rw [List.getElem?_append_left hlt]; exact hy, hr⟩
      · rw [Array.toList_push, List.getElem?_append_right (by omega), h3] at hj
        have hj0 : j - l.length = 0 := by
          by_cases hq : j - l.length = 0
          · exact hq
          · rw [List.getElem?_eq_none (by simp; omega)] at hj; cases hj
        rw [hj0] at hj
        simp at hj
        obtain rfl : j = l.length := by omega
        subst hj
        exact ⟨x, by simp, rfl, rfl⟩
  · rw [h0] at p1; omega
end

/-- The three operations, for the walk. -/
theorem at_look {α : Type} [DecidableEq α] {kv : α → Value} {ok : α → Prop} {K : TypeId} (w : World) {ops : Array Oper} {rest : List Oper} {a : Act} {Q : Exit → Act → World → Prop} {D : Option Tmp} {T : TypeId} {ps : String} {af : Array Edge}
    (m y : Operand) (t : TypeId) (b : Nat) (l : List α) (x : α) (hk : Nm.Kd kv ok K) (ht : Try.prog.underlying t = some (.map K 3)) (hm : a.eval m = .map (some b)) (hy : a.eval y = kv x) (h : MpAt kv ok w b l) (hx : ok x)
    (hK : wpList Try.prog ops Q rest (a.put D (.tuple #[.int .i64 (Nm.place x l : Nat), .bool (decide (0 < Nm.place x l))])) w) :
    wpList Try.prog ops Q ({ dst := D, op := .lookup t m y true, type := T, pos := ps, after := af, guard := none } :: rest) a w := by
  refine wpList_plain rfl fun K' hK' => ?_
  unfold Oper.wp
  simp [execOp, hm, hy, h.look hk ht hx, Result.andThen]
  exact hK' _ _ hK
theorem at_len_map {α : Type} {kv : α → Value} {ok : α → Prop} {K : TypeId} (w : World) {ops : Array Oper} {rest : List Oper} {a : Act} {Q : Exit → Act → World → Prop} {D : Option Tmp} {T : TypeId} {ps : String} {af : Array Edge}
    (m : Operand) (t : TypeId) (b : Nat) (l : List α) (ht : Try.prog.underlying t = some (.map K 3)) (hm : a.eval m = .map (some b)) (h : MpAt kv ok w b l)
    (hK : wpList Try.prog ops Q rest (a.put D (.int .i64 (l.length : Nat))) w) :
    wpList Try.prog ops Q ({ dst := D, op := .call { callee := .builtin .len, args := #[m], argTypes := #[t] }, type := T, pos := ps, after := af, guard := none } :: rest) a w := by
  refine wpList_plain rfl fun K' hK' => ?_
  unfold Oper.wp
  simp [execOp, resolve, invoke, builtin, hm, h.len ht T, Result.andThen]
  exact hK' _ _ hK
set_option maxRecDepth 10000 in
theorem at_put {α : Type} [DecidableEq α] {kv : α → Value} {ok : α → Prop} {K : TypeId} (w : World) {ops : Array Oper} {rest : List Oper} {a : Act} {Q : Exit → Act → World → Prop} {D : Option Tmp} {T : TypeId} {ps : String} {af : Array Edge}
    (m y z : Operand) (t : TypeId) (b : Nat) (l : List α) (x : α) (hk : Nm.Kd kv ok K) (ht : Try.prog.underlying t = some (.map K 3)) (hm : a.eval m = .map (some b)) (hy : a.eval y = kv x) (hz : a.eval z = .int .i64 ((l.length : Int) + 1)) (h : MpAt kv ok w b l) (hx : ok x) (h0 : Nm.place x l = 0)
    (hK : ∀ w', MpAt kv ok w' b (l ++ [x]) → Chg b w w' → wpList Try.prog ops Q rest (a.put D undef) w') :
    wpList Try.prog ops Q ({ dst := D, op := .mapUpdate t m y z, type := T, pos := ps, after := af, guard := none } :: rest) a w := by
  refine wpList_plain rfl fun K' hK' => ?_
  obtain ⟨w', hrun, r1, r2⟩ := h.store hk ht hx h0
  unfold Oper.wp
  simp [execOp, hm, hy, hz, hrun, Result.andThen]
  exact hK' _ _ (hK w' r1 r2)
end

/-! NaP: Contracts: remember (texts, fours); ending. -/
section
open Go.RowKit

/-- What remember says. -/
def RemSay {α : Type} [DecidableEq α] (kv : α → Value) (ok : α → Prop) (b : Nat) (l : List α) (x : α) (w : World) (e : Ending) (w' : World) : Prop :=
  e = .returned (.int .i64 (Nm.num x l : Nat)) ∧ MpAt kv ok w' b (Nm.put x l) ∧ Only b w w'

set_option maxHeartbeats 1000000 in
set_option maxRecDepth 100000 in
theorem rem_text (l : List (List Int)) (x : List Int) (b : Nat) (w : World) (h : MpAt Nm.kvs Nm.okt w b l) (hx : Nm.okt x) (hl : l.length ≤ 1000000) :
    Calls Try.prog 137 #[.map (some b), .string (Nm.bts x)] w (RemSay Nm.kvs Nm.okt b l x w) := by
  have H := Lib.hid h; clear h
  have HX := Lib.hid hx; clear hx
  by_cases h0 : Nm.place x l = 0
  · have hd : decide (0 < Nm.place x l) = false := by rw [h0]; rfl
    have HN := Lib.hid (Nm.num_new h0)
    have HP := Lib.hid (Nm.put_new h0)
    have H0 := Lib.hid h0; clear h0
    go_enter Try.func137, Try.ntmps137
    go_wp2_with (first
      | ((with_reducible refine at_look _ _ _ _ b l x kd_text Try.underlying77 ?_ ?_ H.out HX.out ?_); (exact rfl); (exact rfl))
      | ((with_reducible refine at_len_map _ _ _ b l Try.underlying77 ?_ H.out ?_); (exact rfl))
      | ((with_reducible refine at_put _ _ _ _ _ b l x kd_text Try.underlying77 ?_ ?_ ?_ H.out HX.out H0.out ?_); (exact rfl); (exact rfl); (exact rfl); intro w1 m1 c1; have M1 := Lib.hid m1; have C1 := Lib.hid c1; clear m1 c1))
    go_ret
    exact ⟨by rw [HN.out]; rfl, by rw [HP.out]; exact M1.out, C1.out.only⟩
  · have h1 : 0 < Nm.place x l := by omega
    have HN := Lib.hid (Nm.num_same h0)
    have HP := Lib.hid (Nm.put_same h0)
    clear h0
    go_enter Try.func137, Try.ntmps137
    go_wp2_with ((with_reducible refine at_look _ _ _ _ b l x kd_text Try.underlying77 ?_ ?_ H.out HX.out ?_); (exact rfl); (exact rfl))
    go_ret
    exact ⟨by rw [HN.out]; rfl, by rw [HP.out]; exact H.out, Only.refl _ _⟩

set_option maxHeartbeats 1000000 in
set_option maxRecDepth 100000 in
theorem rem_four (l : List Nm.Four) (x : Nm.Four) (b : Nat) (w : World) (h : MpAt Nm.kv4 Nm.ok4 w b l) (hx : Nm.ok4 x) (hl : l.length ≤ 1000000) :
    Calls Try.prog 136 #[.map (some b), .agg #[.int .i64 x.1, .int .i64 x.2.1, .string (Nm.bts x.2.2.1), .string (Nm.bts x.2.2.2)]] w (RemSay Nm.kv4 Nm.ok4 b l x w) := by
  have H := Lib.hid h; clear h
  have HX := Lib.hid hx; clear hx
  obtain ⟨O, HO⟩ : ∃ O : Obj, Hid (O = .cells #[.int .i64 x.1, .int .i64 x.2.1, .string (Nm.bts x.2.2.1), .string (Nm.bts x.2.2.2)] 183) := ⟨_, rfl⟩
  have HA : Hid (MpAt Nm.kv4 Nm.ok4 (w.alloc O) b l) := H.out.old ((Below.refl _ w).alloc (Nat.le_refl _) _)
  have HOW : Hid (Only b w (w.alloc O)) := (Only.refl b w).alloc O
  rw [HO.out] at HA HOW
  by_cases h0 : Nm.place x l = 0
  · have hd : decide (0 < Nm.place x l) = false := by rw [h0]; rfl
    have HN := Lib.hid (Nm.num_new h0)
    have HP := Lib.hid (Nm.put_new h0)
    have H0 := Lib.hid h0; clear h0
    go_enter Try.func136, Try.ntmps136
    go_wp2_with (first
      | ((with_reducible refine at_look _ _ _ _ b l x kd_four Try.underlying76 ?_ ?_ HA.out HX.out ?_); (exact rfl); (exact rfl))
      | ((with_reducible refine at_len_map _ _ _ b l Try.underlying76 ?_ HA.out ?_); (exact rfl))
      | ((with_reducible refine at_put _ _ _ _ _ b l x kd_four Try.underlying76 ?_ ?_ ?_ HA.out HX.out H0.out ?_); (exact rfl); (exact rfl); (exact rfl); intro w1 m1 c1; have M1 := Lib.hid m1; have C1 := Lib.hid c1; clear m1 c1))
    go_ret
    exact ⟨by rw [HN.out]; rfl, by rw [HP.out]; exact M1.out, HOW.out.trans C1.out.only⟩
  · have h1 : 0 < Nm.place x l := by omega
    have HN := Lib.hid (Nm.num_same h0)
    have HP := Lib.hid (Nm.put_same h0)
    clear h0
    go_enter Try.func136, Try.ntmps136
    go_wp2_with ((with_reducible refine at_look _ _ _ _ b l x kd_four Try.underlying76 ?_ ?_ HA.out HX.out ?_); (exact rfl); (exact rfl))
    go_ret
    exact ⟨by rw [HN.out]; rfl, by rw [HP.out]; exact HA.out, HOW.out⟩
end

/-! NaE: A number's end: names.ending. -/
section
open Go.RowKit

namespace Nm
/-- 32 bytes: f, and the lowest i of a number's bytes behind. -/
def tk (f k : Int) (i : Nat) : List Int := (List.range 32).map fun j => if 32 - i ≤ j then k / 256 ^ (31 - j) % 256 else f
def tg (f k : Int) : List Int := tk f k 8
/-- The first i bytes are f. -/
def fl (f : Int) (i : Nat) : List Int := List.replicate i f ++ List.replicate (32 - i) 0
theorem fl_len (f : Int) (i : Nat) (h : i ≤ 32) : (fl f i).length = 32 := by simp [fl]; omega
theorem fl_step (f : Int) (i : Nat) (h : i < 32) : (fl f i).set i f = fl f (i + 1) := by
  unfold fl
  rw [List.set_append_right _ _ (by simp), List.length_replicate, Nat.sub_self, show 32 - i = (32 - (i + 1)) + 1 by omega, List.replicate_succ, List.set_cons_zero, List.replicate_succ' (n := i), List.append_assoc]
  rfl
theorem tk_len (f k : Int) (i : Nat) : (tk f k i).length = 32 := by simp [tk]
theorem fl_all (f k : Int) : fl f 32 = tk f k 0 := by
  apply List.ext_getElem (by rw [fl_len f 32 (by omega), tk_len])
  intro j h1 h2
  rw [tk_len] at h2
  simp only [fl, tk, Nat.sub_self, List.replicate_zero, List.append_nil, List.getElem_replicate, List.getElem_map, List.getElem_range]
  rw [if_neg (by omega)]
theorem tk_step (f k : Int) (i : Nat) (h : i < 32) : (tk f k i).set (31 - i) (k / 256 ^ i % 256) = tk f k (i + 1) := by
  apply List.ext_getElem (by rw [List.length_set, tk_len, tk_len])
  intro j h1 h2
  rw [tk_len] at h2
  rw [List.getElem_set]
  by_cases e : 31 - i = j
  · rw [if_pos e]
    have : 31 - j = i := by omega
    simp [tk, this]
    omega
  · rw [if_neg e]
    simp only [tk, List.getElem_map, List.getElem_range]
    by_cases h3 : 32 - i ≤ j
    · rw [if_pos h3, if_pos (by omega)]
    · rw [if_neg h3, if_neg (by omega)]
theorem tk_byt (f k : Int) (i : Nat) (hf : 0 ≤ f ∧ f ≤ 255) : Sha.Byt (tk f k i) := fun x hx => by
  simp only [tk, List.mem_map, List.mem_range] at hx
  obtain ⟨j, _, rfl⟩ := hx
  split <;> omega
theorem tg_len (f k : Int) : (tg f k).length = 32 := tk_len f k 8
theorem tg_byt (f k : Int) (hf : 0 ≤ f ∧ f ≤ 255) : Sha.Byt (tg f k) := tk_byt f k 8 hf
theorem tg_at (f k : Int) (j : Nat) (h : j < 32) : (tg f k)[j]? = some (if 24 ≤ j then k / 256 ^ (31 - j) % 256 else f) := by
  simp [tg, tk, h]
theorem tg_inj (f k m : Int) (hk : 0 ≤ k ∧ k < 1000000000000) (hm : 0 ≤ m ∧ m < 1000000000000) (h : tg f k = tg f m) : k = m := by
  have e : ∀ j, j < 8 → k / 256 ^ j % 256 = m / 256 ^ j % 256 := fun j hj => by
    have h1 := congrArg (fun l : List Int => l[31 - j]?) h
    simp only [tg_at _ _ _ (show 31 - j < 32 by omega), Option.some.injEq] at h1
    rw [if_pos (by omega), if_pos (by omega), show 31 - (31 - j) = j by omega] at h1
    exact h1
  have e0 := e 0 (by omega)
  have e1 := e 1 (by omega)
  have e2 := e 2 (by omega)
  have e3 := e 3 (by omega)
  have e4 := e 4 (by omega)
  simp at e0 e1 e2 e3 e4
  omega
theorem tg_apart (f g k m : Int) (h : f ≠ g) : tg f k ≠ tg g m := fun e => by
  have h1 := congrArg (fun l : List Int => l[0]?) e
  simp only [tg_at _ _ 0 (by omega), Option.some.injEq] at h1
  rw [if_neg (by omega), if_neg (by omega)] at h1
  exact h h1
attribute [irreducible] tk tg fl
end Nm

theorem Try.sizeSum : (Try.prog.info? 34).map (·.size) = some 32 := by kernel_rfl
theorem row_size {P : Program} {ty : TypeId} {n : Nat} (h : (P.info? ty).map (·.size) = some n) {A : Array Value} (hA : Hid (A.size = n)) : (P.info? ty).map (·.size) = some A.size := by
  rw [h, hA.out]
theorem row_cell {w : World} {g : Nat} {l : List Int} {t : TypeId} {fr : Nat × Nat} (h : w.heap[g]? = some (.cells (l.map (Value.int .u8)).toArray t fr)) (j : Nat) (hj : j < l.length) : w.cell? ⟨g, j, none⟩ = some (.int .u8 (l.getD j 0)) := by
  rw [cell_of_row w g j _ _ _ h]
  simp [List.getD_eq_getElem?_getD, hj]
/-- An array of 32 bytes, as a value. -/
def A32 (l : List Int) : Value := .agg (l.map (Value.int .u8)).toArray
def EndSay (f k : Int) (w : World) (e : Ending) (w' : World) : Prop := e = .returned (A32 (Nm.tg f k)) ∧ Below w.heap.size w w'

set_option maxHeartbeats 1000000 in
set_option maxRecDepth 100000 in
theorem ending_any (f k : Int) (w : World) :
    Calls Try.prog 134 #[.int .u8 f, .int .i64 k] w (EndSay f k w) := by
  have G0 : Hid (((w.alloc (.cells (List.replicate 32 (Value.int .u8 0)).toArray 34)).alloc (.cells (List.replicate 32 (Value.int .u8 0)).toArray 34)).heap[w.heap.size + 1]? = some (.cells ((Nm.fl f 0).map (Value.int .u8)).toArray 34 (0, 0))) := by
    show _ = _
    have h := heap_alloc2_new w (.cells (List.replicate 32 (Value.int .u8 0)).toArray 34) (.cells (List.replicate 32 (Value.int .u8 0)).toArray 34)
    rw [h]
    unfold Nm.fl
    simp
  have R0 : Hid (((w.alloc (.cells (List.replicate 32 (Value.int .u8 0)).toArray 34)).alloc (.cells (List.replicate 32 (Value.int .u8 0)).toArray 34)).heap[w.heap.size]? = some (.cells (List.replicate 32 (Value.int .u8 0)).toArray 34 (0, 0))) := heap_alloc2_old w _ _
  have B0 : Hid (Below w.heap.size w ((w.alloc (.cells (List.replicate 32 (Value.int .u8 0)).toArray 34)).alloc (.cells (List.replicate 32 (Value.int .u8 0)).toArray 34))) := ((Below.refl _ w).alloc (Nat.le_refl _) _).alloc (by simp) _
  go_enter Try.func134, Try.ntmps134
  go_wp2
  go_loopw [8] (fun v8 wr => ∃ i : Nat, i ≤ 32 ∧ v8 = .int .i64 i ∧ Hid (wr.heap[w.heap.size + 1]? = some (.cells ((Nm.fl f i).map (Value.int .u8)).toArray 34 (0, 0))) ∧ Hid (wr.heap[w.heap.size]? = some (.cells (List.replicate 32 (Value.int .u8 0)).toArray 34 (0, 0))) ∧ Hid (Below w.heap.size w wr)) (fun v8 _ => 32 - (intOf v8).toNat)
  case atStart => exact ⟨0, by omega, rfl, G0.out, R0.out, B0.out⟩
  case round =>
    clear G0 R0 B0
    obtain ⟨i, hi, rfl, HG, HR, HB⟩ := hrel
    by_cases hlt : i < 32
    · have c0 := row_cell HG.out i (by rw [Nm.fl_len f i hi]; omega)
      have f0 := frozen_of_row wr (w.heap.size + 1) i _ _ HG.out
      generalize (Nm.fl f i).getD i 0 = y0 at c0
      go_wp2
      refine ⟨⟨i + 1, by omega, by go_num, ?_, ?_, HB.out.setCell (by simp) _⟩, by simp [intOf]; omega⟩
      · have h2 := set_u8' (i := i) (x := f) HG.out
        rw [Nm.fl_step f i hlt] at h2
        exact h2
      · show _ = _
        rw [heap_setCell_other _ _ _ _ (by simp)]
        exact HR.out
    · obtain rfl : i = 32 := by omega
      clear hlt
      have HG0 : Hid (wr.heap[w.heap.size + 1]? = some (.cells ((Nm.tk f k 0).map (Value.int .u8)).toArray 34 (0, 0))) := by
        have h := HG.out
        rw [Nm.fl_all f k] at h
        exact h
      clear HG
      generalize hwL : wr = wL at *
      clear hwL
      go_wp2
      go_loopw [15] (fun v15 wr => ∃ i : Nat, i ≤ 8 ∧ v15 = .int .i64 i ∧ Hid (wr.heap[w.heap.size + 1]? = some (.cells ((Nm.tk f k i).map (Value.int .u8)).toArray 34 (0, 0))) ∧ Hid (wr.heap[w.heap.size]? = some (.cells (List.replicate 32 (Value.int .u8 0)).toArray 34 (0, 0))) ∧ Hid (Below w.heap.size w wr)) (fun v15 _ => 8 - (intOf v15).toNat)
      case atStart => exact ⟨0, by omega, rfl, HG0.out, HR.out, HB.out⟩
      case round =>
        clear HG0 HR HB
        obtain ⟨i, hi, rfl, HG, HR, HB⟩ := hrel
        by_cases hlt : i < 8
        · have c0 := row_cell HG.out (31 - i) (by rw [Nm.tk_len]; omega)
          have f0 := frozen_of_row wr (w.heap.size + 1) (31 - i) _ _ HG.out
          have hw1 : IntKind.i64.wrap (31 - (i : Int)) = 31 - (i : Int) := IntWalk.i64_in _ ⟨by omega, by omega⟩
          have hw2 : IntKind.i64.wrap (8 * (i : Int)) = 8 * (i : Int) := IntWalk.i64_in _ ⟨by omega, by omega⟩
          have hx1 : 0 ≤ 31 - (i : Int) := by omega
          have hx2 : 31 - (i : Int) < 32 := by omega
          have hx3 : (31 - (i : Int)).toNat = 31 - i := by omega
          have hx4 : 0 ≤ 8 * (i : Int) := by omega
          have hx5 : 8 * (i : Int) ≤ 64 := by omega
          have hx6 : (2 : Int) ^ (8 * (i : Int)).toNat = 256 ^ i := by
            rw [show (8 * (i : Int)).toNat = 8 * i by omega, Int.pow_mul]
            rfl
          generalize (Nm.tk f k i).getD (31 - i) 0 = y0 at c0
          go_wp2
          refine ⟨⟨i + 1, by omega, by go_num, ?_, ?_, HB.out.setCell (by simp) _⟩, by simp [intOf]; omega⟩
          · have h2 := set_u8' (i := 31 - i) (x := k / 256 ^ i % 256) HG.out
            rw [Nm.tk_step f k i (by omega)] at h2
            exact h2
          · show _ = _
            rw [heap_setCell_other _ _ _ _ (by simp)]
            exact HR.out
        · obtain rfl : i = 8 := by omega
          clear hlt
          obtain ⟨A, HA1, HA2, HA3⟩ : ∃ A : Array Value, Hid (A = ((Nm.tg f k).map (Value.int .u8)).toArray) ∧ Hid (A.size = 32) ∧ Hid (A.all (·.oneCell') = true) :=
            ⟨_, rfl, by show _ = _; simp [Nm.tg_len], all_oneCell_toArray (bytes_one _)⟩
          have HG8 : Hid (wr.heap[w.heap.size + 1]? = some (.cells A 34 (0, 0))) := by
            show _ = _
            rw [HA1.out]
            unfold Nm.tg
            exact HG.out
          clear HG
          go_wp2_with (first
            | ((with_reducible refine row_load _ _ _ _ _ _ _ ?_ HG8.out Try.underlying34 ?_ (row_size Try.sizeSum HA2) ?_); (exact rfl); (exact rfl))
            | ((with_reducible refine row_store _ _ _ _ _ _ _ ?_ ?_ HR.out (row_size Try.sizeSum HA2) ?_ HA3.out ?_); (exact rfl); (exact rfl); (rw [HA2.out]; rfl); intro w6 G6 ch6))
          refine bodyPost_ret (results_cell_row rfl _ _ w.heap.size 34 A (0, 0) _ rfl G6.out Try.underlying34 rfl (row_size Try.sizeSum HA2)) rfl ⟨?_, ch6.below HB.out (Nat.le_refl _)⟩
          rw [HA1.out]
          rfl
end
end Go.Proofs.Ytpfghjnhoafcmaa

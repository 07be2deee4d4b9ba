/-
  Contract: batch.Check.
-/
import Derived.WalkMore
import Derived.Test.YtkgefogkdmbciaaBaF
namespace Go.Proofs.Ytkgefogkdmbciaa
open Go.RowKit Go.Shelf
attribute [local go_sem] Oper.semAt_some

/-- Marks among the deferred calls. -/
def mk (D : Nat) : Deferred := { target := .collected D, args := #[] }
structure Mks (B : Nat) (Ds : List Nat) (y : World) : Prop where
  nd : Ds.Nodup
  at_ : ∀ D ∈ Ds, B ≤ D ∧ y.heap[D]? = some (.deferred (some []))
theorem mks_nil (B : Nat) (y : World) : Mks B [] y := ⟨List.nodup_nil, fun D h => by cases h⟩
theorem Mks.keep {B C : Nat} {Ds : List Nat} {y z : World} (h : Mks B Ds y) (hk : KeepsFrom C y z) (hC : C ≤ B) : Mks B Ds z :=
  ⟨h.nd, fun D hD => ⟨(h.at_ D hD).1, hk.same D _ (Nat.le_trans hC (h.at_ D hD).1) (h.at_ D hD).2 rfl⟩⟩
theorem Mks.old {B C : Nat} {Ds : List Nat} {y z : World} (h : Mks B Ds y) (hb : Below C y z) (hC : y.heap.size ≤ C) : Mks B Ds z :=
  ⟨h.nd, fun D hD => ⟨(h.at_ D hD).1, (hb.block D (Nat.lt_of_lt_of_le (Array.getElem?_eq_some_iff.1 (h.at_ D hD).2).1 hC)).trans (h.at_ D hD).2⟩⟩
theorem Mks.cons {B D : Nat} {Ds : List Nat} {y : World} (h : Mks B Ds y) (hB : B ≤ D) (hD : ∀ E ∈ Ds, E < D) (hk : y.heap[D]? = some (.deferred (some []))) : Mks B (D :: Ds) y :=
  ⟨List.nodup_cons.2 ⟨fun hm => Nat.lt_irrefl _ (hD D hm), h.nd⟩, fun E hE => by
    rcases List.mem_cons.1 hE with rfl | hE
    · exact ⟨hB, hk⟩
    · exact h.at_ E hE⟩
theorem Mks.lt {B : Nat} {Ds : List Nat} {y : World} (h : Mks B Ds y) : ∀ E ∈ Ds, E < y.heap.size := fun E hE => (Array.getElem?_eq_some_iff.1 (h.at_ E hE).2).1
/-- What no round's book-keeping turns. -/
theorem cells_kept {W W' : World} {row : Option Nat} (hg : W.grownBy W' row) (hr : ∀ r, row = some r → ∃ o : Obj, W.heap[r]? = some o ∧ o.isCells = false) {k : Nat} {A : Array Value} {t : TypeId} {fr : Nat × Nat} (h : W.heap[k]? = some (.cells A t fr)) : W'.heap[k]? = some (.cells A t fr) :=
  (grownBy_keeps_cells hg hr h rfl).trans h
theorem others_chg {g : Nat} {w w' : World} (h : Chg g w w') (hg : ∃ A t f, w.heap[g]? = some (.cells A t f)) : KeepsOthers w w' :=
  ⟨by rw [h.size]; exact Nat.le_refl _, fun k o hk ho => by
    obtain ⟨A, t, f, hg⟩ := hg
    refine (h.block k (fun e => ?_)).trans hk
    subst e; rw [hg] at hk; cases hk; cases ho⟩
/-- A whole row into a block that is known whole, inside a fence. -/
theorem row_storeIn {F : Fence} {n : Nat} {P : Program} {ops : Array Oper} {rest : List Oper} {a : Act} {w : World} {Q : Exit → Act → World → Prop} {T : TypeId} {ps : String} {af : Array Edge} (ty : TypeId) (x y : Operand) (g : Nat) (t : TypeId) (old cells : Array Value) (hx : a.eval x = .pointer (some ⟨g, 0, none⟩)) (hy : a.eval y = .agg cells) (hg : w.heap[g]? = some (.cells old t (0, 0)))
    (hi : (P.info? ty).map (·.size) = some cells.size) (hs : cells.size = old.size) (h1 : cells.all (·.oneCell') = true)
    (h : ∀ w', Hid (w'.heap[g]? = some (.cells cells t (0, 0))) → Chg g w w' → wpListIn F n P ops Q rest a w') :
    wpListIn F n P ops Q ({ dst := none, op := .store ty x y, type := T, pos := ps, after := af, guard := none } :: rest) a w :=
  wpListIn_plain rfl fun _ hK => by
    have hst := run_storeCells_at P g 0 t cells.toList 0 old w hg (by simp; omega) (fun v hv => (Array.all_eq_true_iff_forall_mem.1 h1) v (by simpa using hv))
    have hsv : (storeVar ty ⟨g, 0, none⟩ (.agg cells)).run P w = .ok () (w.setRow g (old.toList.take 0 ++ cells.toList ++ old.toList.drop (0 + cells.size)).toArray) := by
      cases hq : P.info? ty with
      | none => simp [hq] at hi
      | some i =>
        have hs : cells.size = i.size := by simp [hq] at hi; omega
        simp only [Nat.add_zero, Array.length_toList] at hst
        simp [storeVar, sizeOf, typeInfo, hq, Value.cells, hs] at hst ⊢
        rw [hst]
    have he : (old.toList.take 0 ++ cells.toList ++ old.toList.drop (0 + cells.size)).toArray = cells := by
      rw [hs]
      apply Array.ext'
      simp
    unfold Oper.wpIn
    refine ⟨fun f hf => by simp [Oper.about] at hf, ?_⟩
    rw [Oper.semAt_plain F _ _ (by intro c hc; cases hc)]
    unfold execOp
    simp only [hx, hy, Instr.storeAt, Instr.sureAddr, Sem.run_bind, Sem.run_pure, Result.andThen_ok, hsv]
    refine hK _ _ (h _ ?_ (Chg.setRow w g _))
    show _ = _
    rw [he]
    exact setRow_heap w g old cells t (0, 0) hg

/-! a range backwards, in a round of Check -/
theorem back_stops (bs n c : Nat) (p : Option Addr) (L : List Bt.En) (hn : n ≤ L.length) (hL : L.length ≤ 1000000) (w : World) (hbs : w.heap[bs]? = some (.cells #[.slice p n c] 24 (0, 0))) (hE : Es w p c L) :
    SeqStopsK Fence.wide 2 Try.prog 51 #[.pointer (some ⟨bs, 0, none⟩)] (Bt.encs L n) (Below w.heap.size) (fun ys => ys = List.range n) (fun pre => ∃ m, m < n ∧ pre = List.range (m + 1)) n w :=
  fun l J Jx W hW _ _ hY h0 => back1_in l bs w.heap.size n c p L hn hL J Jx hY W ((hW.block _ (lt_of_block hbs)).trans hbs) (lt_of_block hbs) (fun _ hy => hE.old (hW.trans hy)) h0
def BI (wl : World) (L : List Bt.En) (k : Nat) (pre : List Nat) (W : World) : Prop := Below wl.heap.size wl W ∧ ∀ j ∈ pre, (L.getD (k - 1 - j) Bt.en0).k = 2
/-- All but the block g. -/
structure Kept1 (wl : World) (g : Nat) (W : World) : Prop where
  os : W.os = wl.os
  tape : W.tape = wl.tape
  output : W.output = wl.output
  size : wl.heap.size ≤ W.heap.size
  block : ∀ q, q < wl.heap.size → q ≠ g → W.heap[q]? = wl.heap[q]?
theorem Kept1.grown {wl A B : World} {g : Nat} {row : Option Nat} (h : Kept1 wl g A) (hg : A.grownBy B row) (hr : ∀ r, row = some r → wl.heap.size ≤ r) : Kept1 wl g B :=
  ⟨hg.os.trans h.os, hg.tape.trans h.tape, hg.output.trans h.output, Nat.le_trans h.size hg.size, fun q hq hne => (hg.block q (Nat.lt_of_lt_of_le hq h.size) (fun e => by have := hr q e.symm; omega)).trans (h.block q hq hne)⟩
theorem Kept1.below {wl W w : World} {g B : Nat} (h : Kept1 wl g W) (hb : Below B w wl) (hg : B ≤ g) (hB : B ≤ wl.heap.size) : Below B w W :=
  hb.trans ⟨h.os, h.tape, h.output, h.size, fun q hq => h.block q (by omega) (by omega)⟩
theorem Mks.kept1 {B g : Nat} {Ds : List Nat} {wl W : World} (h : Mks B Ds wl) (hk : Kept1 wl g W) (hg : g < B) : Mks B Ds W :=
  ⟨h.nd, fun D hD => ⟨(h.at_ D hD).1, (hk.block D (h.lt D hD) (by have := (h.at_ D hD).1; omega)).trans (h.at_ D hD).2⟩⟩
def BX (wl : World) (g : Nat) (L : List Bt.En) (k : Nat) (xs : Int) (c : Code) (pre : List Nat) (W : World) : Prop :=
  ∃ pre' j, pre = pre' ++ [j] ∧ (∀ i ∈ pre', (L.getD (k - 1 - i) Bt.en0).k = 2) ∧ (L.getD (k - 1 - j) Bt.en0).k ≠ 2 ∧
    ((c = .exit 2 ∧ xs = (L.getD (k - 1 - j) Bt.en0).s + 1 ∧ Below wl.heap.size wl W) ∨ (c = .ret ∧ xs ≠ (L.getD (k - 1 - j) Bt.en0).s + 1 ∧ Kept1 wl g W ∧ W.heap[g]? = some (.cells #[.int .i64 8] 30 (0, 0))))
theorem bi_from (wl : World) (L : List Bt.En) (k : Nat) : OwnFrom wl.heap.size (BI wl L k) := fun _ _ _ _ hs hg hr => ⟨hs.1.grown hg hs.1.size (fun r e => (hr r e).1), hs.2⟩
theorem bx_from (wl : World) (g : Nat) (L : List Bt.En) (k : Nat) (xs : Int) (c : Code) : OwnFrom wl.heap.size (BX wl g L k xs c) := fun _ _ _ _ hs hg hr => by
  obtain ⟨pre', j, h1, h2, h3, h4⟩ := hs
  refine ⟨pre', j, h1, h2, h3, ?_⟩
  rcases h4 with ⟨e1, e2, e3⟩ | ⟨e1, e2, e3, e4⟩
  · exact .inl ⟨e1, e2, e3.grown hg e3.size (fun r e => (hr r e).1)⟩
  · exact .inr ⟨e1, e2, e3.grown hg (fun r e => (hr r e).1), cells_kept hg (fun r e => (hr r e).2) e4⟩
/-- The last slot, where all ahead are trims; where one is found. -/
theorem Bt.lst_none {L : List Bt.En} {k : Nat} (h : ∀ j ∈ List.range k, (L.getD (k - 1 - j) Bt.en0).k = 2) : Bt.lst L k = -1 := by
  rw [Bt.lst_back k 0 (by omega) (fun i _ hi => by
    have := h (k - 1 - i) (List.mem_range.2 (by omega))
    rwa [show k - 1 - (k - 1 - i) = i by omega] at this), Bt.lst_zero]
theorem Bt.lst_some {L : List Bt.En} {k q j : Nat} {pre' : List Nat} (hq : q < k) (e : List.range (q + 1) = pre' ++ [j]) (h : ∀ i ∈ pre', (L.getD (k - 1 - i) Bt.en0).k = 2) (hj : (L.getD (k - 1 - j) Bt.en0).k ≠ 2) : Bt.lst L k = (L.getD (k - 1 - j) Bt.en0).s ∧ k - 1 - j < k := by
  rw [List.range_succ] at e
  obtain ⟨e1, e2⟩ := List.append_inj' e rfl
  cases e2
  subst e1
  refine ⟨Bt.lst_found (by omega) (fun i h1 h2 => ?_) hj, by omega⟩
  have := h (k - 1 - i) (List.mem_range.2 (by omega))
  rwa [show k - 1 - (k - 1 - i) = i by omega] at this
/-- A function's way out, past its marks. -/
theorem leaves_marks {F : Fence} {n : Nat} {P : Program} {fn : Func} {tmps : Array Value} {R : Ending → World → Prop} {B : Nat} : ∀ (Ds : List Nat) (y : World), Mks B Ds y →
    (∀ z, Below B y z → (∀ k, k ∉ Ds → z.heap[k]? = y.heap[k]?) → ∃ v, (results fn tmps).run P z = .ok v z ∧ R (.returned v) z) → LeavesInM F n P fn tmps R (Ds.map mk) .returning y
  | [], y, _, h => by
    have := h y (Below.refl _ _) (fun _ _ => rfl)
    exact this
  | D :: Ds, y, hm, h => by
    have hD := hm.at_ D (by simp)
    refine ⟨by simp, .inl ⟨D, _, rfl, run_takeDeferred hD.2, ?_⟩⟩
    have hn := List.nodup_cons.1 hm.nd
    refine leaves_marks (B := B) Ds _ ⟨hn.2, fun E hE => ⟨(hm.at_ E (by simp [hE])).1, ?_⟩⟩ (fun z hz hk => h z ?_ (fun k hk' => ?_))
    · rw [World.putObj_heap_other (fun e => hn.1 (by rw [← e]; exact hE))]
      exact (hm.at_ E (by simp [hE])).2
    · have h1 : Below B y (y.putObj D (.deferred none)) := ⟨rfl, rfl, rfl, by simp, fun k hk => World.putObj_heap_other (by omega)⟩
      exact h1.trans hz
    · rw [hk k (fun hmem => hk' (by simp [hmem])), World.putObj_heap_other (fun e => hk' (by simp [e]))]
theorem agg_errno (w : World) : (isAgg 30).run Try.prog w = .ok false w := by
  unfold isAgg
  rw [Sem.run_bind, run_underlying Try.underlying30 w]
  rfl
/-- A number out of the cell of a result. -/
theorem res_cell {fn : Func} {q : Tmp} (h : fn.results = #[.cell q 30]) (tmps : Array Value) (w : World) (g : Nat) (v : Int) (hp : tmps.getD q undef = .pointer (some ⟨g, 0, none⟩)) (hc : w.cell? ⟨g, 0, none⟩ = some (.int .i64 v)) : (results fn tmps).run Try.prog w = .ok (.int .i64 v) w := by
  have hp' : tmps[q]?.getD undef = .pointer (some ⟨g, 0, none⟩) := by simpa using hp
  have hl : (loadVar 30 ⟨g, 0, none⟩).run Try.prog w = .ok (.int .i64 v) w := by
    unfold loadVar
    rw [Sem.run_bind, agg_errno]
    simp [hc]
  simp [results, h, hp', asAddr, hl]
theorem cell_ok {y : World} {g : Nat} {t : TypeId} {v : Value} {fr : Nat × Nat} (h : y.heap[g]? = some (.cells #[v] t fr)) : y.cell? ⟨g, 0, none⟩ = some v := by rw [cell_of_row y g 0 _ _ _ h]; rfl
/-- What Check is told. -/
structure CkIn (w : World) (A : Array Value) (t : Int) (n : Int) (p : Option Addr) (m c : Nat) : Prop where
  size : A.size = 35
  at_ : ∀ z : World, z.heap[w.heap.size]? = some (.cells A 26 (0, 0)) → z.cell? ⟨w.heap.size, 0, none⟩ = some (.int .i64 t) ∧ z.cell? ⟨w.heap.size, 33, none⟩ = some (.int .i64 n) ∧ z.cell? ⟨w.heap.size, 34, none⟩ = some (.slice p m c)
theorem Es.rng {w : World} {ab ao c : Nat} {L : List Bt.En} (h : Es w (some ⟨ab, ao, none⟩) c L) {i : Nat} (hi : i < L.length) : w.rangeAt ab (ao + i * 35) (EnA (L.getD i Bt.en0)).toList := by
  obtain ⟨ab', ao', h1, h2⟩ := h.at_ (by omega)
  cases h1
  exact h2 i hi
/-- Check's way out. -/
theorem check_out {Ds : List Nat} {w y : World} {e : Int} {tmps : Array Value} (hm : Mks (w.heap.size + 2) Ds y) (hp : tmps.getD 2 undef = .pointer (some ⟨w.heap.size + 1, 0, none⟩)) (hc : y.cell? ⟨w.heap.size + 1, 0, none⟩ = some (.int .i64 e)) (hb : Below w.heap.size w y) :
    LeavesInM Fence.wide 3 Try.prog Try.f14 tmps (InSay e w) (Ds.map mk) .returning y :=
  leaves_marks Ds y hm fun z hz _ => ⟨_, res_cell rfl _ _ (w.heap.size + 1) e hp ((hz.cell (p := ⟨w.heap.size + 1, 0, none⟩) (by show w.heap.size + 1 < _; omega)).trans hc), rfl, hb.trans ⟨hz.os, hz.tape, hz.output, hz.size, fun k hk => hz.block k (by omega)⟩⟩
set_option maxHeartbeats 2000000 in
set_option maxRecDepth 100000 in
theorem check_early (A : Array Value) (t n r : Int) (p : Option Addr) (m c : Nat) (w : World) (h : CkIn w A t n p m c) (hr : (16 < m ∧ r = 17) ∨ (¬ 16 < m ∧ ¬ (0 ≤ t ∧ t ≤ 1099511627776 ∧ -1 ≤ n ∧ n ≤ 31) ∧ r = 7)) :
    Calls Try.prog 14 #[.agg A] w (InSay r w) := by
  have hsx := sm_info h.size
  have B0 : Hid (Below w.heap.size w ((w.alloc (.cells A 26)).alloc (.cells #[.int .i64 0] 30))) := below_two w _ _
  obtain ⟨c0, c33, c34⟩ := h.at_ ((w.alloc (.cells A 26)).alloc (.cells #[.int .i64 0] 30)) ((heap_oldX _ _ (by simp)).trans (heap_alloc_new w _))
  have HW : Hid (∀ v a b q, decide (a ≤ v ∧ v ≤ b) = q → ∀ z, Calls Try.prog 34 #[.int .i64 v, .int .i64 a, .int .i64 b] z fun e w' => e = .returned (.bool q) ∧ w' = z) := fun v a b q hp z => by rw [← hp]; exact within_any v a b z
  have CG : Hid (((w.alloc (.cells A 26)).alloc (.cells #[.int .i64 0] 30)).cell? ⟨w.heap.size + 1, 0, none⟩ = some (.int .i64 0)) := cell_ok (heap_alloc2_new w _ _)
  have f2 : ((w.alloc (.cells A 26)).alloc (.cells #[.int .i64 0] 30)).frozen? ⟨w.heap.size + 1, 0, none⟩ = false := frozen_of_row _ _ _ _ _ (heap_alloc2_new w _ _)
  clear h
  go_enter Try.func14, Try.ntmps14
  go_upto_region 1 with (fail)
  change Code.wp _ _ _ _ ((w.alloc (.cells A 26)).alloc (.cells #[.int .i64 0] 30))
  obtain ⟨w0, hw0⟩ : ∃ x, x = ((w.alloc (.cells A 26)).alloc (.cells #[.int .i64 0] 30)) := ⟨_, rfl⟩
  rw [← hw0] at B0 c0 c33 c34 CG f2 ⊢
  clear hw0
  have cg := CG.out
  go_step3
  rcases hr with ⟨h1, rfl⟩ | ⟨h1, h2, rfl⟩
  · have h1' : (m : Int) > 16 := by omega
    go_wp2
    refine bodyPost_ret (res_cell rfl _ _ (w.heap.size + 1) _ rfl (World.cell?_setCell_same' _ _ _ (by rw [CG.out]; rfl))) rfl ⟨rfl, B0.out.setCell (by simp) _⟩
  · have h1' : ¬ (m : Int) > 16 := by omega
    obtain ⟨a, ha⟩ : ∃ a, decide (0 ≤ t ∧ t ≤ 1099511627776) = a := ⟨_, rfl⟩
    obtain ⟨b, hb⟩ : ∃ b, decide (-1 ≤ n ∧ n ≤ 31) = b := ⟨_, rfl⟩
    have hab : (a && b) = false := by
      rw [← ha, ← hb, ← Bool.decide_and]
      refine decide_eq_false fun h => h2 ⟨h.1.1, h.1.2, h.2.1, h.2.2⟩
    have W1 := Lib.hid (HW.out _ _ _ _ ha)
    have W2 := Lib.hid (HW.out _ _ _ _ hb)
    have TK := Lib.hid True.intro
    clear ha hb h2 HW h1
    cases a with
    | false =>
      go_wp2_with (go_at_call 34; clear TK; refine (W1.out _).mono ?_; rintro e2 w2 ⟨rfl, rfl⟩)
      refine bodyPost_ret (res_cell rfl _ _ (w.heap.size + 1) _ rfl (World.cell?_setCell_same' _ _ _ (by rw [CG.out]; rfl))) rfl ⟨rfl, B0.out.setCell (by simp) _⟩
    | true =>
      obtain rfl : b = false := by simpa using hab
      go_wp2_with (first
        | (go_at_call 34; clear TK; refine (W1.out _).mono ?_; rintro e2 w2 ⟨rfl, rfl⟩)
        | (go_at_call 34; refine (W2.out _).mono ?_; rintro e2 w2 ⟨rfl, rfl⟩))
      refine bodyPost_ret (res_cell rfl _ _ (w.heap.size + 1) _ rfl (World.cell?_setCell_same' _ _ _ (by rw [CG.out]; rfl))) rfl ⟨rfl, B0.out.setCell (by simp) _⟩
set_option maxHeartbeats 4000000 in
set_option maxRecDepth 100000 in
theorem check_late (A : Array Value) (t n : Int) (p : Option Addr) (m c : Nat) (L : List Bt.En) (hm : L.length = m) (w : World) (h : CkIn w A t n p m c) (hE : Es w p c L) (h16 : m ≤ 16) (ht : 0 ≤ t ∧ t ≤ 1099511627776) (hn : -1 ≤ n ∧ n ≤ 31) :
    Calls Try.prog 14 #[.agg A] w (InSay (Bt.go (-1) L) w) := by
  have hsx := sm_info h.size
  have B0 : Hid (Below w.heap.size w ((w.alloc (.cells A 26)).alloc (.cells #[.int .i64 0] 30))) := below_two w _ _
  have G1 : Hid (((w.alloc (.cells A 26)).alloc (.cells #[.int .i64 0] 30)).heap[w.heap.size]? = some (.cells A 26 (0, 0))) := (heap_oldX _ _ (by simp)).trans (heap_alloc_new w _)
  have G2 : Hid (((w.alloc (.cells A 26)).alloc (.cells #[.int .i64 0] 30)).heap[w.heap.size + 1]? = some (.cells #[.int .i64 0] 30 (0, 0))) := heap_alloc2_new w _ _
  have HAT := Lib.hid h.at_
  obtain ⟨c0, c33, c34⟩ := HAT.out _ G1.out
  have W1 : Hid (∀ z, Calls Try.prog 34 #[.int .i64 t, .int .i64 0, .int .i64 1099511627776] z fun e w' => e = .returned (.bool true) ∧ w' = z) := fun z => by rw [← decide_eq_true ht]; exact within_any _ _ _ z
  have W2 : Hid (∀ z, Calls Try.prog 34 #[.int .i64 n, .int .i64 (-1), .int .i64 31] z fun e w' => e = .returned (.bool true) ∧ w' = z) := fun z => by rw [← decide_eq_true hn]; exact within_any _ _ _ z
  have HE : Hid (Es w p c L) := hE
  have HM := Lib.hid hm
  have hle : ¬ (m : Int) > 16 := by omega
  have TK := Lib.hid True.intro
  obtain ⟨res, hres⟩ : ∃ res, Bt.go (-1) L = res := ⟨_, rfl⟩
  have HRES := Lib.hid hres
  rw [hres]
  have HSZ : Hid (((w.alloc (.cells A 26)).alloc (.cells #[.int .i64 0] 30)).heap.size = w.heap.size + 2) := by show _ = _; simp
  clear h hE ht hn hm hres
  refine (callsIn_wide (n := 3)).1 ?_
  refine callsIn_of_wp_marks Try.func14 rfl trivial ?_ rfl
  simp only [Try.ntmps14, List.size_toArray, List.length_cons, List.length_nil, Nat.reduceAdd, Nat.reduceSub, Array.replicate_succ, Array.replicate_zero, List.push_toArray, List.append_toArray, List.nil_append, List.cons_append]
  refine wpIn_wide.2 ?_
  go_upto_region 1 with (fail)
  change Code.wp _ _ _ _ ((w.alloc (.cells A 26)).alloc (.cells #[.int .i64 0] 30))
  obtain ⟨w0, hw0⟩ : ∃ x, x = ((w.alloc (.cells A 26)).alloc (.cells #[.int .i64 0] 30)) := ⟨_, rfl⟩
  rw [← hw0] at B0 c0 c33 c34 G1 G2 HSZ ⊢
  clear hw0
  go_step3
  go_wp2_with (first
    | (go_at_call 34; clear TK; refine (W1.out _).mono ?_; rintro e2 w2 ⟨rfl, rfl⟩)
    | (go_at_call 34; refine (W2.out _).mono ?_; rintro e2 w2 ⟨rfl, rfl⟩))
  have hd16 : decide (16 < (m : Int)) = false := decide_eq_false (by omega)
  simp only [hd16]
  go_step3
  go_wp2
  refine wp_loop (fun a' wr => ∃ (k : Nat) (Ds : List Nat) (u3 u4 u5 u28 u29 u30 u31 u32 u33 u34 u35 u36 u37 u38 u39 u40 u41 u42 u43 u44 u56 : Value), (k ≤ m ∧ Hid (res = Bt.go (Bt.lst L k) (L.drop k)) ∧ Hid (-1 ≤ Bt.lst L k ∧ Bt.lst L k ≤ 63) ∧ Hid (wr.heap[w.heap.size]? = some (.cells A 26 (0, 0))) ∧ Hid (wr.heap[w.heap.size + 1]? = some (.cells #[.int .i64 0] 30 (0, 0))) ∧ Hid (Below w.heap.size w wr) ∧ Hid (Mks (w.heap.size + 2) Ds wr) ∧ Hid (∀ i, i < k → Bt.al (L.getD i Bt.en0) = 0)) ∧
      a' = { tmps := #[.agg A, .pointer (some ⟨w.heap.size, 0, none⟩), .pointer (some ⟨w.heap.size + 1, 0, none⟩), u3, u4, u5, undef, undef, .bool false, .pointer (some ⟨w.heap.size, 34, none⟩), .slice p m c, .int .i64 m, .bool false, .bool false, .pointer (some ⟨w.heap.size, 0, none⟩), .int .i64 t, .bool true, .bool false, .bool false, .pointer (some ⟨w.heap.size, 33, none⟩), .int .i64 n, .bool true, .bool false, .bool false, .pointer (some ⟨w.heap.size, 34, none⟩), .slice p m c, .int .i64 m, .int .i64 (k : Nat), u28, u29, u30, u31, u32, u33, u34, u35, u36, u37, u38, u39, u40, u41, u42, u43, u44, undef, undef, undef, undef, undef, undef, undef, undef, undef, undef, undef, u56], defers := Ds.map mk }) (fun a' _ => m - (intOf (a'.tmps.getD 27 undef)).toNat) ?start ?round
  case start => exact ⟨0, [], _, _, _, _, _, _, _, _, _, _, _, _, _, _, _, _, _, _, _, _, _, ⟨by omega, (by show _ = _; rw [Bt.lst_zero, List.drop_zero]; exact HRES.out.symm), by show _ ∧ _; rw [Bt.lst_zero]; omega, G1.out, G2.out, B0.out, mks_nil _ _, fun i hi => by omega⟩, rfl⟩
  case round =>
    clear G1 G2 B0 c0 c33 c34 HRES HSZ
    rintro a' wr ⟨k, Ds, u3, u4, u5, u28, u29, u30, u31, u32, u33, u34, u35, u36, u37, u38, u39, u40, u41, u42, u43, u44, u56, ⟨hk, HR, HLS, G1, G2, HB, HMK, HALS⟩, rfl⟩
    by_cases hlt : k < m
    · obtain ⟨ab, ao, hpp, _⟩ := HE.out.at_ (by rw [HM.out]; omega)
      subst hpp
      have HEr : Hid (Es wr (some ⟨ab, ao, none⟩) c L) := HE.out.old HB.out
      have HRG : Hid (wr.rangeAt ab (ao + k * 35) (EnA (L.getD k Bt.en0)).toList) := HEr.out.rng (by rw [HM.out]; exact hlt)
      have HOK : Hid ((L.getD k Bt.en0).ok) := HE.out.getD k
      have HST : Hid (Bt.er (Bt.lst L k) (L.getD k Bt.en0) = 0 → res = Bt.go (Bt.lst L (k + 1)) (L.drop (k + 1)) ∧ -1 ≤ Bt.lst L (k + 1) ∧ Bt.lst L (k + 1) ≤ 63) := fun h => by
        refine ⟨HR.out.trans (Bt.go_step (by rw [HM.out]; exact hlt) h), ?_⟩
        have := Bt.nl_in h HLS.out
        rw [← Bt.lst_succ] at this
        exact this
      have HER : Hid (∀ e, Bt.er (Bt.lst L k) (L.getD k Bt.en0) = e → e ≠ 0 → res = e) := fun e h h0 => HR.out.trans (Bt.go_err (by rw [HM.out]; exact hlt) h h0)
      have HLK : Hid (∀ i, i < m → (L.getD i Bt.en0).ok) := fun i _ => HE.out.getD i
      obtain ⟨x, hx⟩ : ∃ x, L.getD k Bt.en0 = x := ⟨_, rfl⟩
      rw [hx] at HRG HOK HST HER
      have HX := Lib.hid hx
      clear hx HR
      have HXI : Hid ((Try.prog.info? 50).map (·.size) = some (EnA x).size) := en_info HOK.out
      have HXS : Hid ((EnA x).size = 35) := enA_size HOK.out
      have HX1 : Hid ((EnA x).all (·.oneCell') = true) := enA_one x
      have HAL : Hid (∀ z, Calls Try.prog 35 #[.agg (EnA x)] z (InSay (Bt.al x) z)) := fun z => alone_any x HOK.out z
      have hi0 : 0 ≤ (k : Int) := by omega
      have hi1 : (k : Int) < (m : Int) := by omega
      go_upto_region 8 with (first
        | ((with_reducible refine rng_load _ _ _ _ _ _ ?_ HRG.out Try.underlying50 ?_ HXI.out ?_); (exact rfl); (exact rfl))
        | ((with_reducible refine row_store _ _ _ _ _ _ _ ?_ ?_ (heap_alloc_new _ _) HXI.out ?_ HX1.out ?_); (exact rfl); (exact rfl); (rw [HXS.out]; rfl); intro w6 G6 ch6))
      have HEN6 : Hid (EnAt w6 wr.heap.size 0 x) := en_at (box_rng G6.out)
      have B6 : Hid (Below wr.heap.size wr w6) := ch6.below ((Below.refl _ wr).alloc (Nat.le_refl _) _) (Nat.le_refl _)
      have TA := Lib.hid True.intro
      clear ch6
      go_upto_region 9 with (first
        | ((with_reducible refine row_load _ _ _ _ _ _ _ ?_ G6.out Try.underlying50 ?_ HXI.out ?_); (exact rfl); (exact rfl))
        | (go_at_call 35; refine (HAL.out _).mono ?_; rintro e7 w7 ⟨rfl, hb7⟩))
      have HLT := Lib.hid (lt_of_block G6.out)
      have HEN : Hid (EnAt w7 wr.heap.size 0 x) := en_at (box_rng ((hb7.block _ HLT.out).trans G6.out))
      have K7 : Hid (Below wr.heap.size wr w7) := B6.out.trans (hb7.mono B6.out.size)
      have G17 : Hid (w7.heap[w.heap.size]? = some (.cells A 26 (0, 0))) := (K7.out.block _ (lt_of_block G1.out)).trans G1.out
      have G27 : Hid (w7.heap[w.heap.size + 1]? = some (.cells #[.int .i64 0] 30 (0, 0))) := (K7.out.block _ (lt_of_block G2.out)).trans G2.out
      have HB7 : Hid (Below w.heap.size w w7) := HB.out.trans (K7.out.mono HB.out.size)
      have HMK7 : Hid (Mks (w.heap.size + 2) Ds w7) := HMK.out.old K7.out (Nat.le_refl _)
      have HE7 : Hid (Es w7 (some ⟨ab, ao, none⟩) c L) := HEr.out.old K7.out
      have HSZ : Hid (w.heap.size + 2 ≤ wr.heap.size ∧ wr.heap.size < w7.heap.size) := by
        have h1 := lt_of_block G2.out
        exact ⟨h1, Nat.lt_of_lt_of_le HLT.out hb7.size⟩
      clear hb7 HEN6 G6 B6 K7 HEr HRG HAL HX1 HMK HB G1 G2 HLT
      obtain ⟨c0, _, c2, _⟩ := HEN.out
      rw [Nat.zero_add] at c2
      have cg := cell_ok G27.out
      have fg := frozen_of_row w7 (w.heap.size + 1) 0 _ _ G27.out
      obtain ⟨al, hal⟩ : ∃ al, Bt.al x = al := ⟨_, rfl⟩
      rw [hal]
      have HALE := Lib.hid hal
      clear hal
      by_cases h0 : al = 0
      · have hb0 : (al == 0) = true := by simp [h0]
        have HALZ : Hid (Bt.al x = 0) := HALE.out.trans h0
        have HALN : Hid (∀ i, i < k + 1 → Bt.al (L.getD i Bt.en0) = 0) := fun i hi => by
          by_cases e : i = k
          · rw [e, HX.out]; exact HALZ.out
          · exact HALS.out i (by omega)
        clear h0 HALE
        by_cases h2 : x.k = 2
        · have hb2 : (x.k == 2) = true := by simp [h2]
          have HN : Hid (res = Bt.go (Bt.lst L (k + 1)) (L.drop (k + 1)) ∧ -1 ≤ Bt.lst L (k + 1) ∧ Bt.lst L (k + 1) ≤ 63) := HST.out (Bt.er_skip HALZ.out h2)
          clear h2 HST HLS
          go_wp2
          exact ⟨⟨k + 1, Ds, _, _, _, _, _, _, _, _, _, _, _, _, _, _, _, _, _, _, _, _, _, ⟨by omega, HN.out.1, HN.out.2, G17.out, G27.out, HB7.out, HMK7.out, HALN.out⟩, rfl⟩, by simp [intOf]; omega⟩
        · have hb2 : (x.k == 2) = false := by simp [h2]
          have H2N := Lib.hid h2
          clear h2
          have hkc : (k : Int) ≤ (c : Int) := by have := HE.out.cap; rw [HM.out] at this; omega
          have c34 := (HAT.out _ G17.out).2.2
          go_wp2_with (go_at_call 36; refine (back_any _ _ _ _).mono ?_; rintro e8 w8 ⟨rfl, rfl⟩)
          have B8 : Hid (Below w7.heap.size w7 (w7.alloc (.cells #[.slice (some ⟨ab, ao, none⟩) k c] 24))) := (Below.refl _ w7).alloc (Nat.le_refl _) _
          have HBS : Hid ((w7.alloc (.cells #[.slice (some ⟨ab, ao, none⟩) k c] 24)).heap[w7.heap.size]? = some (.cells #[.slice (some ⟨ab, ao, none⟩) k c] 24 (0, 0))) := heap_alloc_new w7 _
          obtain ⟨wl, hwl⟩ : ∃ y, y = w7.alloc (.cells #[.slice (some ⟨ab, ao, none⟩) k c] 24) := ⟨_, rfl⟩
          rw [← hwl] at B8 HBS ⊢
          clear hwl
          have HEl : Hid (Es wl (some ⟨ab, ao, none⟩) c L) := HE7.out.old B8.out
          have G1l : Hid (wl.heap[w.heap.size]? = some (.cells A 26 (0, 0))) := (B8.out.block _ (lt_of_block G17.out)).trans G17.out
          have G2l : Hid (wl.heap[w.heap.size + 1]? = some (.cells #[.int .i64 0] 30 (0, 0))) := (B8.out.block _ (lt_of_block G27.out)).trans G27.out
          have HBl : Hid (Below w.heap.size w wl) := HB7.out.trans (B8.out.mono HB7.out.size)
          have HMKl : Hid (Mks (w.heap.size + 2) Ds wl) := HMK7.out.old B8.out (Nat.le_refl _)
          have HSL : Hid (w.heap.size + 2 ≤ wr.heap.size ∧ wr.heap.size < wl.heap.size) := ⟨HSZ.out.1, Nat.lt_of_lt_of_le HSZ.out.2 B8.out.size⟩
          have C2l : Hid (wl.cell? ⟨wr.heap.size, 2, none⟩ = some (.int .i64 x.s)) := (B8.out.cell (p := ⟨wr.heap.size, 2, none⟩) HSZ.out.2).trans c2
          clear B8 HE7 G17 G27 HB7 HMK7 HSZ HEN c0 c2 cg fg c34
          refine (wpIn_wide (n := 3)).1 ?_
          refine wpIn_rangeFunc_ownH (F := Fence.wide) (n := 3) rfl (by omega) (gf := 51) (lb := #[.pointer (some ⟨w7.heap.size, 0, none⟩)]) rfl trivial (enters_of Try.func51 (by kernel_rfl) rfl)
            (back_stops w7.heap.size k c (some ⟨ab, ao, none⟩) L (by rw [HM.out]; omega) (by rw [HM.out]; omega) wl HBS.out HEl.out) (fun h k => h.trans k) (belowK_b (Nat.le_refl _)) (Below.refl _ _) (fun _ => rfl)
            (BI wl L k) (BX wl (w.heap.size + 1) L k x.s) (bi_from wl L k) (bx_from wl (w.heap.size + 1) L k x.s) ⟨Below.refl _ _, fun j hj => by cases hj⟩
            (fun z a' W => ∃ Bx, Hid (wl.heap.size ≤ Bx) ∧ Hid (W.heap[Bx]? = some (.cells (EnA (L.getD (k - 1 - z) Bt.en0)) 50 (0, 0))) ∧ a' = { tmps := #[.agg A, .pointer (some ⟨w.heap.size, 0, none⟩), .pointer (some ⟨w.heap.size + 1, 0, none⟩), .int .i64 (k : Nat), .pointer (some ⟨wr.heap.size, 0, none⟩), .int .i64 al, undef, .pointer (some ⟨Bx, 0, none⟩), .bool false, .pointer (some ⟨w.heap.size, 34, none⟩), .slice (some ⟨ab, ao, none⟩) m c, .int .i64 m, .bool false, .bool false, .pointer (some ⟨w.heap.size, 0, none⟩), .int .i64 t, .bool true, .bool false, .bool false, .pointer (some ⟨w.heap.size, 33, none⟩), .int .i64 n, .bool true, .bool false, .bool false, .pointer (some ⟨w.heap.size, 34, none⟩), .slice (some ⟨ab, ao, none⟩) m c, .int .i64 m, .int .i64 (k : Nat), .bool true, .int .i64 (k : Nat), .pointer (some ⟨ab, ao + k * 35, none⟩), .agg (EnA x), .agg (EnA x), .int .i64 al, .int .i64 al, .bool false, u36, .pointer (some ⟨wr.heap.size, 0, none⟩), .int .i64 x.k, .bool false, .pointer (some ⟨w.heap.size, 34, none⟩), .slice (some ⟨ab, ao, none⟩) m c, .int .i64 (k : Nat), .slice (some ⟨ab, ao, none⟩) k c, .func (.func 51) #[] #[.pointer (some ⟨w7.heap.size, 0, none⟩)], .int .i64 ((k - 1 - z : Nat) : Int), .agg (EnA (L.getD (k - 1 - z) Bt.en0)), undef, undef, undef, undef, undef, undef, undef, undef, undef, u56], defers := [] })
            (fun z a' _ A A' row hs hg hr => by obtain ⟨Bx, h1, h2, h3⟩ := hs; exact ⟨Bx, h1, cells_kept hg (fun r e => (hr r e).2) h2.out, h3⟩) ?assign ?body ?done ?stop
          case assign =>
            rintro l pre z W K hI hK
            unfold Bt.encs
            have HKK := Lib.hid hK
            have HY : Hid ((L.getD (k - 1 - z) Bt.en0).ok) := HE.out.getD _
            obtain ⟨Y, hY⟩ : ∃ Y, EnA (L.getD (k - 1 - z) Bt.en0) = Y := ⟨_, rfl⟩
            have HYI : Hid ((Try.prog.info? 50).map (·.size) = some Y.size) := by show _ = _; rw [← hY]; exact en_info HY.out
            have HYS : Hid (Y.size = 35) := by show _ = _; rw [← hY]; exact enA_size HY.out
            have HY1 : Hid (Y.all (·.oneCell') = true) := by show _ = _; rw [← hY]; exact enA_one _
            rw [hY] at HKK ⊢
            have HII := Lib.hid hI
            clear hK hI hY HY
            gi_wp2_with ((with_reducible refine row_storeIn _ _ _ _ _ _ _ ?_ ?_ (heap_alloc_new _ _) HYI.out ?_ HY1.out ?_); (exact rfl); (exact rfl); (rw [HYS.out]; rfl); intro W2 G2 ch2)
            have hb2 := ch2.below ((Below.refl wl.heap.size W).alloc HII.out.1.size _) HII.out.1.size
            exact HKK.out _ _ (((KeepsOthers.alloc W _).trans (others_chg ch2 ⟨_, _, _, heap_alloc_new _ _⟩)).from _) hb2 ⟨HII.out.1.trans hb2, HII.out.2⟩ ⟨_, HII.out.1.size, G2, rfl⟩
          case body =>
            rintro l pre z a' W _ _ ⟨hB, hT⟩ ⟨Bx, HBX, HY, rfl⟩ hlen
            have HBW := Lib.hid hB
            have HT := Lib.hid hT
            have hj : k - 1 - z < k := by omega
            have HJ := Lib.hid (HALN.out (k - 1 - z) (by omega))
            obtain ⟨d0, _, d2, _⟩ := en_at (box_rng HY.out)
            rw [Nat.zero_add] at d2
            have G2W : Hid (W.heap[w.heap.size + 1]? = some (.cells #[.int .i64 0] 30 (0, 0))) := (hB.block _ (lt_of_block G2l.out)).trans G2l.out
            have cW := cell_ok G2W.out
            have fW := frozen_of_row W (w.heap.size + 1) 0 _ _ G2W.out
            have cX : W.cell? ⟨wr.heap.size, 2, none⟩ = some (.int .i64 x.s) := (hB.cell (p := ⟨wr.heap.size, 2, none⟩) HSL.out.2).trans C2l.out
            have HXB : Hid (∀ c W', (L.getD (k - 1 - z) Bt.en0).k ≠ 2 → (c = .exit 2 ∧ x.s = (L.getD (k - 1 - z) Bt.en0).s + 1 ∧ Below wl.heap.size wl W') ∨ (c = .ret ∧ x.s ≠ (L.getD (k - 1 - z) Bt.en0).s + 1 ∧ Kept1 wl (w.heap.size + 1) W' ∧ W'.heap[w.heap.size + 1]? = some (.cells #[.int .i64 8] 30 (0, 0))) → BX wl (w.heap.size + 1) L k x.s c (pre ++ [z]) W') := fun c W' h1 h2 => ⟨pre, z, rfl, HT.out, h1, h2⟩
            have HIB : Hid ((L.getD (k - 1 - z) Bt.en0).k = 2 → BI wl L k (pre ++ [z]) W) := fun h => ⟨HBW.out, fun j hj => by
              rcases List.mem_append.1 hj with h1 | h1
              · exact HT.out j h1
              · rw [List.mem_singleton] at h1
                subst h1
                exact h⟩
            generalize L.getD (k - 1 - z) Bt.en0 = y at *
            have hys := Bt.al_slot HJ.out
            obtain ⟨ys, hyse⟩ : ∃ ys, y.s = ys := ⟨_, rfl⟩
            rw [hyse] at d2 HXB hys
            obtain ⟨yk, hyke⟩ : ∃ yk, y.k = yk := ⟨_, rfl⟩
            rw [hyke] at d0 HXB HIB
            clear hB hT HY HJ hyse hyke
            by_cases hk2 : yk = 2
            · have hb2y : (yk == 2) = true := by simp [hk2]
              have HI2 := Lib.hid (HIB.out hk2)
              clear hk2 HXB HIB
              gi_wp2
              exact ⟨KeepsFrom.refl _ _, Below.refl _ _, HI2.out⟩
            · have hb2y : (yk == 2) = false := by simp [hk2]
              have HXN := Lib.hid (fun c W' => HXB.out c W' hk2)
              clear hk2 HXB HIB
              have hwy : IntKind.i64.wrap (ys + 1) = ys + 1 := IntWalk.i64_in _ ⟨by omega, by omega⟩
              obtain ⟨xs, hxs⟩ : ∃ xs, x.s = xs := ⟨_, rfl⟩
              rw [hxs] at cX HXN ⊢
              clear hxs
              by_cases he : xs = ys + 1
              · have hbe : (xs == ys + 1) = true := by simp [he]
                have HF := Lib.hid (HXN.out (.exit 2) W (.inl ⟨rfl, he, HBW.out⟩))
                clear he HXN
                gi_wp2
                exact ⟨KeepsFrom.refl _ _, HF.out⟩
              · have hbe : (xs == ys + 1) = false := by simp [he]
                have HF : Hid (BX wl (w.heap.size + 1) L k xs .ret (pre ++ [z]) (W.setCell ⟨w.heap.size + 1, 0, none⟩ (.int .i64 8))) := HXN.out .ret _ (.inr ⟨rfl, he, ⟨HBW.out.os, HBW.out.tape, HBW.out.output, by simpa using HBW.out.size, fun q hq hne => (heap_setCell_other _ _ _ _ hne).trans (HBW.out.block q hq)⟩, heap_setCell_same _ _ 0 _ _ _ G2W.out⟩)
                clear he HXN
                gi_wp2
                exact ⟨(KeepsOthers.setCell _ _ _).from _, HF.out⟩
          case done =>
            rintro D ys W hD rfl ⟨hB, hT⟩ hK
            have HN := Lib.hid (HST.out (by rw [Bt.lst_none hT]; exact Bt.er_first HALZ.out H2N.out))
            have HBW := Lib.hid hB
            have HKD := Lib.hid hK
            clear hB hT hK HST
            go_wp2
            refine ⟨⟨k + 1, D :: Ds, _, _, _, _, _, _, _, _, _, _, _, _, _, _, _, _, _, _, _, _, _, ⟨by omega, HN.out.1, HN.out.2, (HBW.out.block _ (lt_of_block G1l.out)).trans G1l.out, (HBW.out.block _ (lt_of_block G2l.out)).trans G2l.out, HBl.out.trans (HBW.out.mono HBl.out.size), ?_, HALN.out⟩, rfl⟩, by simp [intOf]; omega⟩
            exact (HMKl.out.old HBW.out (Nat.le_refl _)).cons (by have := HSL.out; omega) (fun E hE => Nat.lt_of_lt_of_le (HMKl.out.lt E hE) hD) HKD.out
          case stop =>
            rintro D cde pre W hD ⟨q, hq, rfl⟩ hX hK
            obtain ⟨pre', j, e1, h2, h3, h4⟩ := hX
            obtain ⟨hls, hjk⟩ := Bt.lst_some hq e1 h2 h3
            have hsl := Bt.al_slot (HALN.out (k - 1 - j) (by omega))
            have her := Bt.er_next (last := Bt.lst L k) HALZ.out H2N.out (by rw [hls]; exact hsl.1)
            have HKD := Lib.hid hK
            rcases h4 with ⟨rfl, h5, hB⟩ | ⟨rfl, h5, hB, hG⟩
            · have HN := Lib.hid (HST.out (by rw [her, hls, if_pos h5]))
              have HBW := Lib.hid hB
              clear hB hK HST her hls h5 h2 h3 e1 hsl
              refine wpIn_wide.2 (wp_exit ?_)
              go_wp2
              refine ⟨⟨k + 1, D :: Ds, _, _, _, _, _, _, _, _, _, _, _, _, _, _, _, _, _, _, _, _, _, ⟨by omega, HN.out.1, HN.out.2, (HBW.out.block _ (lt_of_block G1l.out)).trans G1l.out, (HBW.out.block _ (lt_of_block G2l.out)).trans G2l.out, HBl.out.trans (HBW.out.mono HBl.out.size), ?_, HALN.out⟩, rfl⟩, by simp [intOf]; omega⟩
              exact (HMKl.out.old HBW.out (Nat.le_refl _)).cons (by have := HSL.out; omega) (fun E hE => Nat.lt_of_lt_of_le (HMKl.out.lt E hE) hD) HKD.out
            · have hres : res = 8 := HER.out 8 (by rw [her, hls, if_neg h5]) (by omega)
              subst hres
              have HBW := Lib.hid hB
              have HG := Lib.hid hG
              clear hB hK HST her hls h5 h2 h3 e1 hsl hG
              refine wpIn_wide.2 (wp_ret ?_)
              go_wp2
              exact check_out (Ds := D :: Ds) ((HMKl.out.kept1 HBW.out (by omega)).cons (by have := HSL.out; omega) (fun E hE => Nat.lt_of_lt_of_le (HMKl.out.lt E hE) hD) HKD.out) rfl (cell_ok HG.out) (HBW.out.below HBl.out (by omega) HBl.out.size)


      · have hb0 : (al == 0) = false := by simp [h0]
        have hres : res = al := HER.out al (Bt.er_bad HALE.out h0) h0
        subst hres
        clear h0 HALE HER HST
        go_wp2
        exact check_out (HMK7.out.keep ((KeepsOthers.setCell w7 ⟨w.heap.size + 1, 0, none⟩ _).from 0) (Nat.zero_le _)) rfl (World.cell?_setCell_same' _ _ _ (by rw [cg]; rfl)) (HB7.out.setCell (by simp) _)


    · have HRZ : Hid (res = 0) := by
        have h := HR.out
        have e : k = L.length := by have := HM.out; omega
        rw [e, Bt.go_end] at h
        exact h
      obtain rfl : k = m := by omega
      have hz := HRZ.out
      subst hz
      have cg := cell_ok G2.out
      have fg := frozen_of_row wr (w.heap.size + 1) 0 _ _ G2.out
      clear hlt HR HRZ
      go_wp2
      exact check_out (HMK.out.keep ((KeepsOthers.setCell wr ⟨w.heap.size + 1, 0, none⟩ _).from 0) (Nat.zero_le _)) rfl (World.cell?_setCell_same' _ _ _ (by rw [cg]; rfl)) (HB.out.setCell (by simp) _)

theorem check_any (t n : Int) (P : List Int) (p : Option Addr) (m c : Nat) (L : List Bt.En) (hm : L.length = m) (w : World) (h : Sv w P p c L) :
    Calls Try.prog 14 #[.agg (SmA t P n (.slice p m c))] w (InSay (Bt.ck t n L) w) := by
  have hc : CkIn w (SmA t P n (.slice p m c)) t n p m c := ⟨smA_size t n _ h.len, fun z hz => by
    have a1 : SmAt z w.heap.size t P n (.slice p m c) := hz
    exact ⟨a1.c0, a1.c33 h.len, a1.c34 h.len⟩⟩
  by_cases h16 : 16 < m
  · exact check_early _ t n _ p m c w hc (.inl ⟨h16, Bt.ck_many (by omega)⟩)
  · by_cases hr : 0 ≤ t ∧ t ≤ 1099511627776 ∧ -1 ≤ n ∧ n ≤ 31
    · have e : Bt.ck t n L = Bt.go (-1) L := by
        rw [Bt.ck_go (by omega) hr, Bt.lst_zero, List.drop_zero]
      rw [e]
      exact check_late _ t n p m c L hm w hc h.es (by omega) ⟨hr.1, hr.2.1⟩ hr.2.2
    · exact check_early _ t n _ p m c w hc (.inr ⟨h16, hr, Bt.ck_range (by omega) hr⟩)
end Go.Proofs.Ytkgefogkdmbciaa

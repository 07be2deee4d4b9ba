/-
  What the law DiskLasts keeps: a disk, and three rows of its own.
-/
import Derived.Test.YtdkkoffmffallaaDkR
namespace Go.Proofs.Ytdkkoffmffallaa
open Go.RowKit

theorem Try.size40 : (Try.prog.info? 40).map (·.size) = some 20 := by kernel_rfl
theorem Try.size41 : (Try.prog.info? 41).map (·.size) = some 20 := by kernel_rfl
def Z40 : Array Value := (List.replicate 20 (Value.slice none 0 0)).toArray
def Z41 : Array Value := (List.replicate 20 (Value.bool false)).toArray
theorem Try.zero40 : (Try.prog.info? 40).map (fun i => (i.zero, i.size)) = some (some (.agg Z40), 20) := by kernel_rfl
theorem Try.zero41 : (Try.prog.info? 41).map (fun i => (i.zero, i.size)) = some (some (.agg Z41), 20) := by kernel_rfl
theorem Try.built41 : Try.prog.built 41 [] = some Z41 := by kernel_rfl
theorem z40_size : Z40.size = 20 := by unfold Z40; simp
theorem z41_size : Z41.size = 20 := by unfold Z41; simp
theorem z41_one : Z41.all (·.oneCell') = true := by
  refine Array.all_eq_true_iff_forall_mem.2 (fun v hv => ?_)
  unfold Z41 at hv
  rw [List.mem_toArray, List.mem_replicate] at hv
  rw [hv.2]
  rfl
theorem z40_ne : ¬ Z40 = #[] := fun h => by have := z40_size; rw [h] at this; simp at this
theorem z41_ne : ¬ Z41 = #[] := fun h => by have := z41_size; rw [h] at this; simp at this
theorem z40_at (k : Nat) (hk : k < 20) : Z40[k]? = some (.slice none 0 0) := by unfold Z40; rw [List.getElem?_toArray, List.getElem?_replicate, if_pos hk]
def bools (D : Nat → Bool) : Array Value := ((List.range 20).map fun k => Value.bool (D k)).toArray
theorem z41_bools : Z41 = bools (fun _ => false) := by unfold Z41 bools; rfl
theorem bools_at (D : Nat → Bool) (k : Nat) (hk : k < 20) : (bools D)[k]? = some (.bool (D k)) := by unfold bools; simp [hk]
theorem bools_size (D : Nat → Bool) : (bools D).size = 20 := by unfold bools; simp
theorem bools_set (D : Nat → Bool) (k : Nat) (x : Bool) (hk : k < 20) : (bools D).setIfInBounds k (.bool x) = bools (upd D k x) := by
  apply Array.ext_getElem?
  intro j
  by_cases hj : j < 20
  · rw [bools_at _ _ hj, Array.getElem?_setIfInBounds, bools_size]
    by_cases e : k = j
    · subst e; rw [if_pos rfl, if_pos hk, upd_same]
    · rw [if_neg e, bools_at _ _ hj, upd_other _ _ (fun h => e h.symm)]
  · rw [Array.getElem?_eq_none (by rw [Array.size_setIfInBounds, bools_size]; omega), Array.getElem?_eq_none (by rw [bools_size]; omega)]
attribute [irreducible] Z40 Z41 bools
theorem row_size {P : Program} {ty : TypeId} {n : Nat} (h : (P.info? ty).map (·.size) = some n) {A : Array Value} (hA : Hid (A.size = n)) : (P.info? ty).map (·.size) = some A.size := by rw [h, hA.out]
theorem row_build0 {P : Program} {ops : Array Oper} {rest : List Oper} {a : Act} {w : World} {Q : Exit → Act → World → Prop} {D : Option Tmp} {T : TypeId} {ps : String} {af : Array Edge} (t : TypeId) (R : Array Value) (hr : P.built t [] = some R) (h : wpList P ops Q rest (a.put D (.agg R)) w) :
    wpList P ops Q ({ dst := D, op := .build t #[], type := T, pos := ps, after := af, guard := none } :: rest) a w :=
  wpList_plain rfl fun K hK => by
    have hrun := run_build (P := P) w t #[] R hr
    unfold Oper.wp execOp
    simp only [List.map_toArray, List.map_nil, hrun, Sem.run_bind, Sem.run_pure, Result.andThen_ok]
    exact hK _ _ h

namespace Dk
/-- How many below k are dirty. -/
def cnt (D : Nat → Bool) (k : Nat) : Nat := ((List.range k).filter D).length
theorem cnt_succ (D : Nat → Bool) (k : Nat) : cnt D (k + 1) = cnt D k + if D k then 1 else 0 := by
  unfold cnt
  rw [List.range_succ, List.filter_append, List.length_append]
  cases h : D k <;> simp [h]
theorem cnt_le (D : Nat → Bool) (k : Nat) : cnt D k ≤ k := by
  have h := List.length_filter_le D (List.range k)
  rw [List.length_range] at h
  exact h
theorem cnt_at (D : Nat → Bool) : ∀ (n k : Nat), k < n → D k = true → ((List.range n).filter D)[cnt D k]? = some k
  | 0, k, h, _ => by omega
  | n + 1, k, h, hd => by
    rw [List.range_succ, List.filter_append]
    by_cases q : k < n
    · have h1 := cnt_at D n k q hd
      have h2 := (List.getElem?_eq_some_iff.1 h1).1
      rw [List.getElem?_append_left h2, h1]
    · obtain rfl : k = n := by omega
      rw [List.getElem?_append_right (by unfold cnt; exact Nat.le_refl _)]
      simp [hd, cnt]
/-- What is there behind the crash. -/
def want (Ls Nw : Nat → List Int) (D : Nat → Bool) (f : Nat → Bool) (k : Nat) : List Int := if D k then (if f (cnt D k) then Nw k else Ls k) else Ls k
structure La (m : M) (Ls Nw : Nat → List Int) (D : Nat → Bool) (i : Nat) : Prop where
  u : Up m 20
  ls : ∀ k, m.ls k = Ls k
  ca : ∀ k, m.ca k = if D k then some (Nw k) else none
  nw : ∀ k, D k = false → Nw k = Ls k
  dn : ∀ k, 20 ≤ k → D k = false
  wr : m.wr ≤ i
  rd : ∀ j, m.rd j = 0
section
variable {m : M} {Ls Nw : Nat → List Int} {D : Nat → Bool} {i k : Nat}
theorem La.fresh : La (fresh 20) (fun _ => []) (fun _ => []) (fun _ => false) 0 := ⟨Up.fresh 20, fun _ => rfl, fun _ => rfl, fun _ _ => rfl, fun _ _ => rfl, Nat.le_refl _, fun _ => rfl⟩
theorem La.put (h : La m Ls Nw D i) (hk : k < 20) (L : List Int) : La (put m k L) Ls (upd Nw k L) (upd D k true) (i + 1) := by
  refine ⟨h.u.put k L, h.ls, fun j => ?_, fun j hj => ?_, fun j hj => ?_, by have := h.wr; show m.wr + 1 ≤ _; omega, h.rd⟩
  · show upd m.ca k (some L) j = _
    by_cases e : j = k
    · subst e; rw [upd_same, upd_same, upd_same]; rfl
    · rw [upd_other _ _ e, upd_other _ _ e, upd_other _ _ e]; exact h.ca j
  · by_cases e : j = k
    · subst e; rw [upd_same] at hj; cases hj
    · rw [upd_other _ _ e] at hj ⊢; exact h.nw j hj
  · rw [upd_other _ _ (by omega)]; exact h.dn j hj
theorem La.peek (h : La m Ls Nw D i) (k : Nat) : peek m k = Nw k := by
  unfold Dk.peek
  rw [h.ca, h.ls]
  cases e : D k with
  | true => rfl
  | false => exact (h.nw k e).symm
theorem La.sync (h : La m Ls Nw D i) : La (synced m) Nw Nw (fun _ => false) i := ⟨h.u.synced, fun k => h.peek k, fun _ => rfl, fun _ _ => rfl, fun _ _ => rfl, h.wr, h.rd⟩
theorem La.dl (h : La m Ls Nw D i) : dl m = (List.range 20).filter D := by
  unfold Dk.dl
  rw [h.u.n]
  congr 1
  funext j
  rw [h.ca]
  cases D j <;> rfl
theorem La.crash (h : La m Ls Nw D i) (f : Nat → Bool) (k : Nat) (hk : k < 20) : Dk.peek (Dk.crash m f) k = want Ls Nw D f k := by
  unfold want
  cases e : D k with
  | true =>
    have hc : (Dk.dl m)[cnt D k]? = some k := by rw [h.dl]; exact cnt_at D 20 k hk e
    have h1 := crash_in (f := f) hc
    unfold Dk.peek
    rw [h1.1, h1.2, h.ca, e, h.ls]
    rfl
  | false =>
    have h1 := crash_out (m := m) (f := f) (j := k) (by rw [h.ca, e]; rfl)
    unfold Dk.peek
    rw [h1.1, h1.2, h.ls]
    rfl
theorem La.none (h : La m Ls Nw D i) (f : Nat → Bool) : Dk.dl (Dk.crash m f) = [] := crash_dl (fun k hk => by rw [h.ca, h.dn k (by rw [← h.u.n]; exact hk)]; rfl)
/-- A disk of twenty sectors that was read k times at most in each. -/
structure Rdz (m m0 : M) (k : Nat) : Prop where
  u : Up m 20
  pk : ∀ j, Dk.peek m j = Dk.peek m0 j
  dl : Dk.dl m = Dk.dl m0
  wr : m.wr = m0.wr
  rd : ∀ j, m.rd j ≤ k
theorem Rdz.next {m m0 : M} {k : Nat} (h : Rdz m m0 k) (i : Nat) : Rdz { m with rd := upd m.rd i (m.rd i + 1) } m0 (k + 1) := by
  refine ⟨⟨h.u.n, h.u.left, h.u.down⟩, h.pk, h.dl, h.wr, fun j => ?_⟩
  show upd m.rd i (m.rd i + 1) j ≤ k + 1
  by_cases hj : j = i
  · subst hj; rw [upd_same]; have := h.rd j; omega
  · rw [upd_other _ _ hj]; have := h.rd j; omega
end
end Dk

/-- A row of the caller's. -/
def Sl (w : World) (v : Value) (L : List Int) : Prop := ∃ p c, v = .slice p L.length c ∧ ∀ y, Below w.heap.size w y → Bs y p c L
theorem sl_nil (w : World) : Sl w (.slice none 0 0) [] := ⟨none, 0, rfl, fun y _ => bs_none y⟩
/-- A row of twenty rows of the caller's. -/
structure Ar (w y : World) (T : Nat → Prop) (g : Nat) (F : Nat → List Int) : Prop where
  lo : w.heap.size ≤ g
  hi : g < y.heap.size
  no : ¬ T g
  row : ∃ A : Array Value, y.heap[g]? = some (.cells A 40 (0, 0)) ∧ A.size = 20 ∧ ∀ k, k < 20 → ∃ v, A[k]? = some v ∧ Sl w v (F k)
structure Bo (w y : World) (T : Nat → Prop) (g : Nat) (D : Nat → Bool) : Prop where
  lo : w.heap.size ≤ g
  hi : g < y.heap.size
  no : ¬ T g
  row : y.heap[g]? = some (.cells (bools D) 41 (0, 0))
section
variable {w y z : World} {T T' : Nat → Prop} {g : Nat} {F : Nat → List Int} {D : Nat → Bool}
theorem Ar.keep (h : Ar w y T g F) (hs : y.heap.size ≤ z.heap.size) (hb : z.heap[g]? = y.heap[g]?) (hT : ¬ T' g) : Ar w z T' g F := by
  obtain ⟨A, h1, h2⟩ := h.row
  exact ⟨h.lo, Nat.lt_of_lt_of_le h.hi hs, hT, A, hb.trans h1, h2⟩
theorem Bo.keep (h : Bo w y T g D) (hs : y.heap.size ≤ z.heap.size) (hb : z.heap[g]? = y.heap[g]?) (hT : ¬ T' g) : Bo w z T' g D := ⟨h.lo, Nat.lt_of_lt_of_le h.hi hs, hT, hb.trans h.row⟩
end
/-- The disk, and the three rows. -/
structure Las (w y : World) (T : Nat → Prop) (d lb rb cb : Nat) (m : Dk.M) (g9 g10 g11 : Nat) (Ls Nw : Nat → List Int) (D : Nat → Bool) : Prop where
  s : Sit w y T d lb rb cb m
  a : Ar w y T g9 Ls
  b : Ar w y T g10 Nw
  c : Bo w y T g11 D
  ne : g9 ≠ g10 ∧ g9 ≠ g11 ∧ g10 ≠ g11
section
variable {w y z : World} {T : Nat → Prop} {d lb rb cb g9 g10 g11 k : Nat} {m m' : Dk.M} {Ls Nw : Nat → List Int} {D : Nat → Bool}
theorem Sit.only {g : Nat} (h : Sit w y T d lb rb cb m) (ho : Only g y z) (hg : w.heap.size ≤ g) (hT : ¬ T g) : Sit w z T d lb rb cb m := ⟨h.dk.only ho hT, ho.below h.old hg h.old.size, h.base⟩
theorem Las.next (h : Las w y T d lb rb cb m g9 g10 g11 Ls Nw D) (hb : Below y.heap.size y z) : Las w z T d lb rb cb m g9 g10 g11 Ls Nw D :=
  ⟨h.s.next hb, h.a.keep hb.size (hb.block _ h.a.hi) h.a.no, h.b.keep hb.size (hb.block _ h.b.hi) h.b.no, h.c.keep hb.size (hb.block _ h.c.hi) h.c.no, h.ne⟩
theorem Las.off (h : Las w y T d lb rb cb m g9 g10 g11 Ls Nw D) {g : Nat} (hg : ¬ T g) : g ∉ [d, lb, rb, cb] := fun hm => by
  simp at hm
  rcases hm with rfl | rfl | rfl | rfl
  · exact hg h.s.dk.lt.1
  · exact hg h.s.dk.lt.2.1
  · exact hg h.s.dk.lt.2.2.1
  · exact hg h.s.dk.lt.2.2.2
theorem Las.disk (h : Las w y T d lb rb cb m g9 g10 g11 Ls Nw D) (hd : DkAt z T d lb rb cb m') (hm : Mv [d, lb, rb, cb] y z) : Las w z T d lb rb cb m' g9 g10 g11 Ls Nw D :=
  ⟨h.s.disk hd hm, h.a.keep hm.size (hm.block _ h.a.hi (h.off h.a.no)) h.a.no, h.b.keep hm.size (hm.block _ h.b.hi (h.off h.b.no)) h.b.no, h.c.keep hm.size (hm.block _ h.c.hi (h.off h.c.no)) h.c.no, h.ne⟩
theorem Las.write (h : Las w y T d lb rb cb m g9 g10 g11 Ls Nw D) (hd : DkAt z (Own T y z) d lb rb cb m') (hm : Mv [d, lb, rb, cb] y z) : Las w z (Own T y z) d lb rb cb m' g9 g10 g11 Ls Nw D := by
  have key : ∀ g, ¬ T g → g < y.heap.size → ¬ Own T y z g := fun g h1 h2 h3 => by
    rcases h3 with h3 | h3
    · exact h1 h3
    · omega
  exact ⟨h.s.write hd hm, h.a.keep hm.size (hm.block _ h.a.hi (h.off h.a.no)) (key _ h.a.no h.a.hi), h.b.keep hm.size (hm.block _ h.b.hi (h.off h.b.no)) (key _ h.b.no h.b.hi), h.c.keep hm.size (hm.block _ h.c.hi (h.off h.c.no)) (key _ h.c.no h.c.hi), h.ne⟩
theorem Las.set10 (h : Las w y T d lb rb cb m g9 g10 g11 Ls Nw D) (_hk : k < 20) {v : Value} {L : List Int} (hv : Sl w v L) : Las w (y.setCell ⟨g10, k, none⟩ v) T d lb rb cb m g9 g10 g11 Ls (upd Nw k L) D := by
  have hc : Only g10 y (y.setCell ⟨g10, k, none⟩ v) := (Chg.setCell y ⟨g10, k, none⟩ v).only
  obtain ⟨A, a1, a2, a3⟩ := h.b.row
  refine ⟨h.s.only hc h.b.lo h.b.no, h.a.keep hc.size (hc.block _ h.a.hi h.ne.1) h.a.no, ⟨h.b.lo, Nat.lt_of_lt_of_le h.b.hi hc.size, h.b.no, A.setIfInBounds k v, heap_setCell_same y g10 k A _ v a1, by rw [Array.size_setIfInBounds, a2], fun j hj => ?_⟩, h.c.keep hc.size (hc.block _ h.c.hi (fun e => h.ne.2.2 e.symm)) h.c.no, h.ne⟩
  rw [Array.getElem?_setIfInBounds, a2]
  by_cases e : k = j
  · subst e; rw [if_pos rfl, if_pos hj, upd_same]; exact ⟨v, rfl, hv⟩
  · rw [if_neg e, upd_other _ _ (fun q => e q.symm)]; exact a3 j hj
theorem Las.set11 (h : Las w y T d lb rb cb m g9 g10 g11 Ls Nw D) (hk : k < 20) (x : Bool) : Las w (y.setCell ⟨g11, k, none⟩ (.bool x)) T d lb rb cb m g9 g10 g11 Ls Nw (upd D k x) := by
  have hc : Only g11 y (y.setCell ⟨g11, k, none⟩ (.bool x)) := (Chg.setCell y ⟨g11, k, none⟩ (.bool x)).only
  refine ⟨h.s.only hc h.c.lo h.c.no, h.a.keep hc.size (hc.block _ h.a.hi h.ne.2.1) h.a.no, h.b.keep hc.size (hc.block _ h.b.hi h.ne.2.2) h.b.no, ⟨h.c.lo, Nat.lt_of_lt_of_le h.c.hi hc.size, h.c.no, ?_⟩, h.ne⟩
  rw [← bools_set D k x hk]
  exact heap_setCell_same y g11 k _ _ _ h.c.row
theorem Las.copy (h : Las w y T d lb rb cb m g9 g10 g11 Ls Nw D) (hc : Chg g9 y z) (hz : ∀ A, y.heap[g10]? = some (.cells A 40 (0, 0)) → z.heap[g9]? = some (.cells A 40 (0, 0))) : Las w z T d lb rb cb m g9 g10 g11 Nw Nw D := by
  have ho := hc.only
  obtain ⟨A, a1, a2, a3⟩ := h.b.row
  exact ⟨h.s.only ho h.a.lo h.a.no, ⟨h.a.lo, Nat.lt_of_lt_of_le h.a.hi ho.size, h.a.no, A, hz A a1, a2, a3⟩, h.b.keep ho.size (ho.block _ h.b.hi (fun e => h.ne.1 e.symm)) h.b.no, h.c.keep ho.size (ho.block _ h.c.hi (fun e => h.ne.2.1 e.symm)) h.c.no, h.ne⟩
theorem Las.clear (h : Las w y T d lb rb cb m g9 g10 g11 Ls Nw D) (hc : Chg g11 y z) (hz : z.heap[g11]? = some (.cells Z41 41 (0, 0))) : Las w z T d lb rb cb m g9 g10 g11 Ls Nw (fun _ => false) := by
  have ho := hc.only
  refine ⟨h.s.only ho h.c.lo h.c.no, h.a.keep ho.size (ho.block _ h.a.hi h.ne.2.1) h.a.no, h.b.keep ho.size (ho.block _ h.b.hi h.ne.2.2) h.b.no, ⟨h.c.lo, Nat.lt_of_lt_of_le h.c.hi ho.size, h.c.no, ?_⟩, h.ne⟩
  rw [← z41_bools]
  exact hz
theorem Ar.one {g : Nat} {F : Nat → List Int} {A : Array Value} (h : Ar w y T g F) (hA : y.heap[g]? = some (.cells A 40 (0, 0))) : A.size = 20 ∧ A.all (·.oneCell') = true := by
  obtain ⟨B, a1, a2, a3⟩ := h.row
  rw [a1] at hA
  injection Option.some.inj hA with e _ _
  subst e
  refine ⟨a2, Array.all_eq_true_iff_forall_mem.2 fun v hv => ?_⟩
  obtain ⟨k, hk, e⟩ := Array.mem_iff_getElem.1 hv
  obtain ⟨u, hu, p, c, rfl, _⟩ := a3 k (by omega)
  rw [Array.getElem?_eq_getElem hk, e] at hu
  rw [Option.some.inj hu]
  rfl
theorem Ar.cell {g k : Nat} {F : Nat → List Int} (h : Ar w y T g F) (hk : k < 20) : ∃ p c, y.cell? ⟨g, k, none⟩ = some (.slice p (F k).length c) ∧ ∀ x, Below w.heap.size w x → Bs x p c (F k) := by
  obtain ⟨A, a1, _, a3⟩ := h.row
  obtain ⟨v, h1, p, c, rfl, h2⟩ := a3 k hk
  exact ⟨p, c, by rw [cell_of_row y g k _ _ _ a1, h1], h2⟩
theorem Ar.froz {g : Nat} {F : Nat → List Int} (h : Ar w y T g F) (k : Nat) : y.frozen? ⟨g, k, none⟩ = false := by
  obtain ⟨A, a1, _⟩ := h.row
  exact frozen_of_row y g k _ _ a1
theorem Bo.cell {g k : Nat} (h : Bo w y T g D) (hk : k < 20) : y.cell? ⟨g, k, none⟩ = some (.bool (D k)) := by rw [cell_of_row y g k _ _ _ h.row, bools_at D k hk]
theorem Bo.froz {g : Nat} (h : Bo w y T g D) (k : Nat) : y.frozen? ⟨g, k, none⟩ = false := frozen_of_row y g k _ _ h.row
end
theorem al3_new (x : World) (A B C : Obj) : (((x.alloc A).alloc B).alloc C).heap[x.heap.size + 1 + 1]? = some C := by
  have h := heap_alloc_new ((x.alloc A).alloc B) C
  simpa using h
/-- At the beginning. -/
theorem Las.start {w x y z : World} {T : Nat → Prop} {d lb rb cb g : Nat} {m : Dk.M} {t0 : TypeId} (h : Sit w x T d lb rb cb m) (hg : g = x.heap.size) (hy : y = ((x.alloc (.cells Z40 40)).alloc (.cells Z40 40)).alloc (.cells Z41 t0)) (hc : Chg (g + 1 + 1) y z) (hz : z.heap[g + 1 + 1]? = some (.cells Z41 41 (0, 0))) :
    Las w z T d lb rb cb m g (g + 1) (g + 1 + 1) (fun _ => []) (fun _ => []) (fun _ => false) := by
  subst hg hy
  have ho := hc.only
  have hb1 : Below x.heap.size x (((x.alloc (.cells Z40 40)).alloc (.cells Z40 40)).alloc (.cells Z41 t0)) := (((Below.refl _ x).alloc (Nat.le_refl _) _).alloc (by simp) _).alloc (by simp; omega) _
  have hs : ((x.alloc (.cells Z40 40)).alloc (.cells Z40 40)).heap.size = x.heap.size + 1 + 1 := by simp
  have n0 : ¬ T x.heap.size := fun h1 => Nat.lt_irrefl _ (h.dk.top _ h1)
  have n1 : ¬ T (x.heap.size + 1) := fun h1 => by have := h.dk.top _ h1; omega
  have n2 : ¬ T (x.heap.size + 1 + 1) := fun h1 => by have := h.dk.top _ h1; omega
  have lo := h.old.size
  have sz : z.heap.size = x.heap.size + 1 + 1 + 1 := by rw [hc.size]; simp
  refine ⟨(h.next hb1).only ho (by omega) n2, ⟨lo, by omega, n0, Z40, ?_, z40_size, fun k hk => ⟨_, z40_at k hk, sl_nil w⟩⟩, ⟨by omega, by omega, n1, Z40, ?_, z40_size, fun k hk => ⟨_, z40_at k hk, sl_nil w⟩⟩, ⟨by omega, by omega, n2, by rw [← z41_bools]; exact hz⟩, by omega, by omega, by omega⟩
  · rw [hc.block _ (by omega), heap_alloc_old _ _ (by simp; omega), heap_alloc_old _ _ (by simp)]
    exact heap_alloc_new _ _
  · rw [hc.block _ (by omega), heap_alloc_old _ _ (by simp)]
    have := heap_alloc_new (x.alloc (.cells Z40 40)) (.cells Z40 40)
    simpa using this
end Go.Proofs.Ytdkkoffmffallaa

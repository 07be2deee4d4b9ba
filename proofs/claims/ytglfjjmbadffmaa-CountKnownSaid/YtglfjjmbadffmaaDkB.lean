/-
  A disk in plain words; a disk in memory; what stays.
-/
import Derived.Test.YtglfjjmbadffmaaDkA
namespace Go.Proofs.Ytglfjjmbadffmaa
open Go.ChangeShapes Go.WideShapes Go.RowKit

namespace Dk
/-- A disk: how many sectors; what lasts; what the cache has; how often each was read; how many were written; how many operations are left (below 0: not armed); whether the power has failed. -/
structure M where
  n : Nat
  ls : Nat → List Int
  ca : Nat → Option (List Int)
  rd : Nat → Nat
  wr : Nat
  left : Int
  down : Bool
structure Ok (m : M) : Prop where
  n1 : 1 ≤ m.n
  n2 : m.n ≤ 4096
  out : ∀ i, m.n ≤ i → m.ca i = none
  left : In64 m.left
  lsb : ∀ i, (m.ls i).length ≤ 1024
  cab : ∀ i L, m.ca i = some L → L.length ≤ 1024
def here (m : M) (i : Int) : Bool := decide (0 ≤ i) && decide (i < (m.n : Int))
def fault (m : M) (i : Int) (L : List Int) : Int := if here m i = false then 7 else if 1024 < L.length then 3 else 0
def gone (m : M) : Bool := m.down || decide (m.left = 0)
def spend (m : M) : M := if gone m then { m with down := true } else { m with left := if 0 < m.left then m.left - 1 else m.left }
def spendE (m : M) : Int := if gone m then 12 else 0
end Dk

/-- Only these blocks turn. -/
structure Mv (ks : List Nat) (w y : World) : Prop where
  os : y.os = w.os
  tape : y.tape = w.tape
  output : y.output = w.output
  size : w.heap.size ≤ y.heap.size
  block : ∀ k, k < w.heap.size → k ∉ ks → y.heap[k]? = w.heap[k]?
section
variable {ks : List Nat} {w x y z : World} {B k : Nat}
theorem Mv.refl (ks : List Nat) (w : World) : Mv ks w w := ⟨rfl, rfl, rfl, Nat.le_refl _, fun _ _ _ => rfl⟩
theorem Mv.trans (h : Mv ks w y) (g : Mv ks y z) : Mv ks w z :=
  ⟨g.os.trans h.os, g.tape.trans h.tape, g.output.trans h.output, Nat.le_trans h.size g.size, fun k hk hn => (g.block k (Nat.lt_of_lt_of_le hk h.size) hn).trans (h.block k hk hn)⟩
theorem Mv.of_below (h : Below w.heap.size w y) : Mv ks w y := ⟨h.os, h.tape, h.output, h.size, fun k hk _ => h.block k hk⟩
theorem Mv.drew (h : Mv ks w y) : Mv ks w y.drew := ⟨h.os, h.tape, h.output, h.size, h.block⟩
theorem Mv.alloc (h : Mv ks w y) (o : Obj) : Mv ks w (y.alloc o) := h.trans (Mv.of_below ((Below.refl _ _).alloc (Nat.le_refl _) o))
theorem Mv.only (h : Only k w y) (hk : k ∈ ks) : Mv ks w y := ⟨h.os, h.tape, h.output, h.size, fun j hj hn => h.block j hj (fun e => hn (e ▸ hk))⟩
theorem Mv.setCell (h : Mv ks w y) (a : Addr) (v : Value) (ha : a.block ∈ ks) : Mv ks w (y.setCell a v) := h.trans (Mv.only (Chg.setCell y a v).only ha)
theorem Mv.grown {row : Option Nat} (h : w.grownBy y row) (hk : ∀ j, row = some j → j ∈ ks) : Mv ks w y :=
  ⟨h.os, h.tape, h.output, h.size, fun j hj hn => h.block j hj (fun e => hn (hk j e.symm))⟩
theorem Mv.turned (h : w.mapTurned y k) (hk : k ∈ ks) : Mv ks w y := Mv.grown h.grown (fun j e => by cases e; exact hk)
theorem Mv.below (h : Mv ks w y) (hb : Below B x w) (hk : ∀ k ∈ ks, B ≤ k) (hB : B ≤ w.heap.size) : Below B x y :=
  hb.trans ⟨h.os, h.tape, h.output, h.size, fun k hkB => h.block k (by omega) (fun hm => by have := hk k hm; omega)⟩
end

/-- A sector's bytes: a row of bytes of its own, in a block of T. -/
def Sec (y : World) (T : Nat → Prop) (v : Value) (L : List Int) : Prop := y.ownsRow 0 5 1 v L.length (U8s L) ∧ Sha.Byt L ∧ ∀ g, v.ownBlock = some g → T g
theorem sec_nil (y : World) (T : Nat → Prop) : Sec y T (.slice none 0 0) [] := ⟨by unfold U8s; exact World.ownsRow_nil _ _ _ _, fun x hx => by simp at hx, fun g h => by cases h⟩
section
variable {w y z : World} {T T' : Nat → Prop} {v : Value} {L : List Int}
theorem Sec.keep (h : Sec y T v L) (hk : ∀ (g : Nat) (cur : Array Value), T g → y.heap[g]? = some (.cells cur 5 (0, 0)) → z.heap[g]? = y.heap[g]?) : Sec z T v L :=
  ⟨own_keepB h.1 (fun g hg => by
    obtain ⟨_, cur, h2⟩ := own_type h.1 g hg
    exact hk g cur (h.2.2 g hg) h2), h.2.1, h.2.2⟩
theorem Sec.lift (h : Sec y T v L) (hT : ∀ g, T g → T' g) : Sec y T' v L := ⟨h.1, h.2.1, fun g hg => hT g (h.2.2 g hg)⟩
theorem Sec.bs (h : Sec y T v L) : ∃ p c, v = .slice p L.length c ∧ Bs y p c L := by
  obtain ⟨p, c, h1, h2, _⟩ := own_bs h.1 h.2.1
  exact ⟨p, c, h1, h2⟩
theorem sec_of {B : Nat} (h : y.ownsRow B 5 1 v L.length (U8s L)) (hb : Sha.Byt L) (hT : ∀ g, B ≤ g → g < y.heap.size → T g) : Sec y T v L :=
  ⟨⟨h.1, by
    rcases h.2 with h1 | ⟨g, cap, cur, h1, h2, h3⟩
    · exact Or.inl h1
    · exact Or.inr ⟨g, cap, cur, h1, Nat.zero_le _, h3⟩⟩, hb, fun g hg => hT g (h.lt g hg).1 (h.lt g hg).2⟩
end
/-- The disk m in memory: in block d, what it has in blocks of T. -/
structure DkAt (y : World) (T : Nat → Prop) (d lb rb cb : Nat) (m : Dk.M) : Prop where
  lt : T d ∧ T lb ∧ T rb ∧ T cb
  top : ∀ g, T g → g < y.heap.size
  row : y.heap[d]? = some (.cells #[.slice (some ⟨lb, 0, none⟩) m.n m.n, .map (some cb), .slice (some ⟨rb, 0, none⟩) m.n m.n, .int .i64 (m.wr : Int), .int .i64 m.left, .bool m.down] 54 (0, 0))
  lst : ∃ A : Array Value, y.heap[lb]? = some (.cells A 65 (0, 0)) ∧ A.size = m.n ∧ ∀ i, i < m.n → ∃ v, A[i]? = some v ∧ Sec y T v (m.ls i)
  csh : ∃ F, MapAt y cb m.wr F ∧ ∀ i, (m.ca i = none → F i = none) ∧ ∀ L, m.ca i = some L → ∃ v, F i = some v ∧ Sec y T v L
  rds : y.heap[rb]? = some (.cells ((List.range m.n).map fun i => Value.int .i64 (m.rd i : Int)).toArray 3 (0, 0))
  ok : Dk.Ok m
section
variable {w y z : World} {T T' : Nat → Prop} {d lb rb cb : Nat} {m : Dk.M}
theorem DkAt.keep (h : DkAt y T d lb rb cb m) (hT : ∀ g, T g → g < z.heap.size) (h1 : z.heap[d]? = y.heap[d]?) (h2 : z.heap[lb]? = y.heap[lb]?) (h3 : z.heap[rb]? = y.heap[rb]?) (h4 : z.heap[cb]? = y.heap[cb]?)
    (hk : ∀ (g : Nat) (cur : Array Value), T g → y.heap[g]? = some (.cells cur 5 (0, 0)) → z.heap[g]? = y.heap[g]?) : DkAt z T d lb rb cb m := by
  obtain ⟨A, a1, a2, a3⟩ := h.lst
  obtain ⟨F, b1, b2⟩ := h.csh
  refine ⟨h.lt, hT, h1.trans h.row, ⟨A, h2.trans a1, a2, fun i hi => ?_⟩, ⟨F, b1.keep h4, fun i => ⟨(b2 i).1, fun L hL => ?_⟩⟩, h3.trans h.rds, h.ok⟩
  · obtain ⟨v, c1, c2⟩ := a3 i hi
    exact ⟨v, c1, c2.keep hk⟩
  · obtain ⟨v, c1, c2⟩ := (b2 i).2 L hL
    exact ⟨v, c1, c2.keep hk⟩
theorem DkAt.below {B : Nat} (h : DkAt y T d lb rb cb m) (hb : Below B y z) (hB : ∀ g, T g → g < B) : DkAt z T d lb rb cb m :=
  h.keep (fun g hg => Nat.lt_of_lt_of_le (h.top g hg) hb.size) (hb.block _ (hB _ h.lt.1)) (hb.block _ (hB _ h.lt.2.1)) (hb.block _ (hB _ h.lt.2.2.1)) (hb.block _ (hB _ h.lt.2.2.2)) (fun g _ hg _ => hb.block g (hB g hg))
theorem DkAt.old (h : DkAt y T d lb rb cb m) (hb : Below y.heap.size y z) : DkAt z T d lb rb cb m := h.below hb h.top
theorem DkAt.mv {ks : List Nat} (h : DkAt y T d lb rb cb m) (hm : Mv ks y z) (hk : ∀ k ∈ ks, ¬ T k) : DkAt z T d lb rb cb m := by
  have key : ∀ g, T g → z.heap[g]? = y.heap[g]? := fun g hg => hm.block g (h.top g hg) (fun hin => hk g hin hg)
  exact h.keep (fun g hg => Nat.lt_of_lt_of_le (h.top g hg) hm.size) (key _ h.lt.1) (key _ h.lt.2.1) (key _ h.lt.2.2.1) (key _ h.lt.2.2.2) (fun g _ hg _ => key g hg)
theorem DkAt.only {q : Nat} (h : DkAt y T d lb rb cb m) (ho : Only q y z) (hq : ¬ T q) : DkAt z T d lb rb cb m := h.mv (ks := [q]) (Mv.only ho (by simp)) (fun k hk => by simp at hk; subst hk; exact hq)
theorem DkAt.lift (h : DkAt y T d lb rb cb m) (hT : ∀ g, T g → T' g) (ht : ∀ g, T' g → g < y.heap.size) : DkAt y T' d lb rb cb m := by
  obtain ⟨A, a1, a2, a3⟩ := h.lst
  obtain ⟨F, b1, b2⟩ := h.csh
  have hl := h.lt
  refine ⟨⟨hT _ hl.1, hT _ hl.2.1, hT _ hl.2.2.1, hT _ hl.2.2.2⟩, ht, h.row, ⟨A, a1, a2, fun i hi => ?_⟩, ⟨F, b1, fun i => ⟨(b2 i).1, fun L hL => ?_⟩⟩, h.rds, h.ok⟩
  · obtain ⟨v, c1, c2⟩ := a3 i hi
    exact ⟨v, c1, c2.lift hT⟩
  · obtain ⟨v, c1, c2⟩ := (b2 i).2 L hL
    exact ⟨v, c1, c2.lift hT⟩
theorem DkAt.ne (h : DkAt y T d lb rb cb m) : d ≠ lb ∧ d ≠ rb ∧ d ≠ cb ∧ lb ≠ rb ∧ lb ≠ cb ∧ rb ≠ cb := by
  obtain ⟨A, a1, _⟩ := h.lst
  obtain ⟨F, b1, _⟩ := h.csh
  obtain ⟨es, clock, b1⟩ := b1.isMap
  have r := h.row
  have q := h.rds
  refine ⟨?_, ?_, ?_, ?_, ?_, ?_⟩ <;> rintro rfl
  · rw [r] at a1; cases a1
  · rw [r] at q; injection Option.some.inj q with _ h2 _; exact absurd h2 (by decide)
  · rw [r] at b1; cases b1
  · rw [a1] at q; cases q
  · rw [a1] at b1; cases b1
  · rw [q] at b1; cases b1
theorem DkAt.cells (h : DkAt y T d lb rb cb m) : y.cell? ⟨d, 0, none⟩ = some (.slice (some ⟨lb, 0, none⟩) m.n m.n) ∧ y.cell? ⟨d, 1, none⟩ = some (.map (some cb)) ∧ y.cell? ⟨d, 2, none⟩ = some (.slice (some ⟨rb, 0, none⟩) m.n m.n) ∧ y.cell? ⟨d, 3, none⟩ = some (.int .i64 (m.wr : Int)) ∧ y.cell? ⟨d, 4, none⟩ = some (.int .i64 m.left) ∧ y.cell? ⟨d, 5, none⟩ = some (.bool m.down) := by
  refine ⟨?_, ?_, ?_, ?_, ?_, ?_⟩ <;> rw [cell_of_row y d _ _ _ _ h.row] <;> rfl
/-- The disk where only its own row turned. -/
theorem DkAt.row_set (h : DkAt y T d lb rb cb m) {m' : Dk.M} (hm : Mv [d] y z) (hr : z.heap[d]? = some (.cells #[.slice (some ⟨lb, 0, none⟩) m.n m.n, .map (some cb), .slice (some ⟨rb, 0, none⟩) m.n m.n, .int .i64 (m'.wr : Int), .int .i64 m'.left, .bool m'.down] 54 (0, 0)))
    (hn : m'.n = m.n) (hl : m'.ls = m.ls) (hc : m'.ca = m.ca) (hd : m'.rd = m.rd) (hw : m.wr ≤ m'.wr) (hi : In64 m'.left) : DkAt z T d lb rb cb m' := by
  have ne := h.ne
  have lt := h.lt
  have ht := h.top
  have k1 : ∀ k, T k → k ≠ d → z.heap[k]? = y.heap[k]? := fun k hk hn => hm.block k (ht k hk) (by simpa using hn)
  have hu : ∀ (g : Nat) (cur : Array Value), T g → y.heap[g]? = some (.cells cur 5 (0, 0)) → z.heap[g]? = y.heap[g]? := fun g cur hg h2 => k1 g hg (fun e => by rw [e, h.row] at h2; cases h2)
  obtain ⟨A, a1, a2, a3⟩ := h.lst
  obtain ⟨F, b1, b2⟩ := h.csh
  obtain ⟨o1, o2, o3, o4, o5, o6⟩ := h.ok
  refine ⟨h.lt, fun g hg => Nat.lt_of_lt_of_le (h.top g hg) hm.size, by rw [hn]; exact hr, ⟨A, (k1 lb lt.2.1 (fun e => ne.1 e.symm)).trans a1, by rw [hn]; exact a2, fun i hi => ?_⟩, ⟨F, (b1.keep (k1 cb lt.2.2.2 (fun e => ne.2.2.1 e.symm))).mono hw, fun i => ?_⟩, by rw [hn, hd]; exact (k1 rb lt.2.2.1 (fun e => ne.2.1 e.symm)).trans h.rds, ⟨by rw [hn]; exact o1, by rw [hn]; exact o2, by rw [hn, hc]; exact o3, hi, by rw [hl]; exact o5, by rw [hc]; exact o6⟩⟩
  · rw [hn] at hi
    obtain ⟨v, c1, c2⟩ := a3 i hi
    rw [hl]
    exact ⟨v, c1, c2.keep hu⟩
  · rw [hc]
    refine ⟨(b2 i).1, fun L hL => ?_⟩
    obtain ⟨v, c1, c2⟩ := (b2 i).2 L hL
    exact ⟨v, c1, c2.keep hu⟩
end
end Go.Proofs.Ytglfjjmbadffmaa

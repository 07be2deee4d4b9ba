/-
  An act on its way.
-/
import Derived.Test.YtdkkoffmffallaaDkY2
namespace Go.Proofs.Ytdkkoffmffallaa
open Go.RowKit

/-- The act's box, as it lies. -/
def Box (K I : Int) (pd : Option Addr) (nd cd : Nat) (pf : Option Addr) (nf cf : Nat) : Obj := .cells #[.int .i64 K, .int .i64 I, .slice pd nd cd, .slice pf nf cf] 34
/-- Both disks, and two blocks of the call's own: the act's box, what is lent. -/
structure Dos (x y : World) (T : Nat → Prop) (d lb rb cb : Nat) (m : Dk.M) (U : Nat → Prop) (r qb : Nat) (k : Dk.M) (g5 gl : Nat) (o ol : Obj) : Prop where
  s : Bth x y T d lb rb cb m U r qb k
  bx : y.heap[g5]? = some o
  ln : y.heap[gl]? = some ol
  f5 : ¬ T g5 ∧ ¬ U g5 ∧ x.heap.size ≤ g5
  fl : ¬ T gl ∧ ¬ U gl ∧ x.heap.size ≤ gl
  ne : g5 ≠ gl
section
variable {x y z : World} {T U : Nat → Prop} {d lb rb cb r qb g5 gl : Nat} {m m' k k' : Dk.M} {o ol : Obj}
theorem Dos.next (h : Dos x y T d lb rb cb m U r qb k g5 gl o ol) (hb : Below y.heap.size y z) : Dos x z T d lb rb cb m U r qb k g5 gl o ol :=
  ⟨h.s.next hb, (hb.block _ (lt_of_block h.bx)).trans h.bx, (hb.block _ (lt_of_block h.ln)).trans h.ln, h.f5, h.fl, h.ne⟩
theorem Dos.offT (h : Dos x y T d lb rb cb m U r qb k g5 gl o ol) {g : Nat} (hg : ¬ T g) : g ∉ [d, lb, rb, cb] := fun hm => by
  simp at hm
  rcases hm with rfl | rfl | rfl | rfl
  · exact hg h.s.a.dk.lt.1
  · exact hg h.s.a.dk.lt.2.1
  · exact hg h.s.a.dk.lt.2.2.1
  · exact hg h.s.a.dk.lt.2.2.2
theorem Dos.offU (h : Dos x y T d lb rb cb m U r qb k g5 gl o ol) {g : Nat} (hg : ¬ U g) : g ∉ [r, qb] := fun hm => by
  simp at hm
  rcases hm with rfl | rfl
  · exact hg h.s.b.lt.1
  · exact hg h.s.b.lt.2
theorem not_own {W : Nat → Prop} {g : Nat} (h1 : ¬ W g) (h2 : g < y.heap.size) : ¬ Own W y z g := fun h => by
  rcases h with h | h
  · exact h1 h
  · omega
theorem Dos.dsk (h : Dos x y T d lb rb cb m U r qb k g5 gl o ol) (hd : DkAt z T d lb rb cb m') (hm : Mv [d, lb, rb, cb] y z) : Dos x z T d lb rb cb m' U r qb k g5 gl o ol :=
  ⟨h.s.dsk hd hm, (hm.block _ (lt_of_block h.bx) (h.offT h.f5.1)).trans h.bx, (hm.block _ (lt_of_block h.ln) (h.offT h.fl.1)).trans h.ln, h.f5, h.fl, h.ne⟩
theorem Dos.dwr (h : Dos x y T d lb rb cb m U r qb k g5 gl o ol) (hd : DkAt z (Own T y z) d lb rb cb m') (hm : Mv [d, lb, rb, cb] y z) : Dos x z (Own T y z) d lb rb cb m' U r qb k g5 gl o ol :=
  ⟨h.s.dwr hd hm, (hm.block _ (lt_of_block h.bx) (h.offT h.f5.1)).trans h.bx, (hm.block _ (lt_of_block h.ln) (h.offT h.fl.1)).trans h.ln, ⟨not_own h.f5.1 (lt_of_block h.bx), h.f5.2⟩, ⟨not_own h.fl.1 (lt_of_block h.ln), h.fl.2⟩, h.ne⟩
theorem Dos.rf0 (h : Dos x y T d lb rb cb m U r qb k g5 gl o ol) (hd : RfAt z U r qb k') (hm : Mv [r, qb] y z) : Dos x z T d lb rb cb m U r qb k' g5 gl o ol :=
  ⟨h.s.rf0 hd hm, (hm.block _ (lt_of_block h.bx) (h.offU h.f5.2.1)).trans h.bx, (hm.block _ (lt_of_block h.ln) (h.offU h.fl.2.1)).trans h.ln, h.f5, h.fl, h.ne⟩
theorem Dos.rfw (h : Dos x y T d lb rb cb m U r qb k g5 gl o ol) (hd : RfAt z (Own U y z) r qb k') (hm : Mv [r, qb] y z) : Dos x z T d lb rb cb m (Own U y z) r qb k' g5 gl o ol :=
  ⟨h.s.rfw hd hm, (hm.block _ (lt_of_block h.bx) (h.offU h.f5.2.1)).trans h.bx, (hm.block _ (lt_of_block h.ln) (h.offU h.fl.2.1)).trans h.ln, ⟨h.f5.1, not_own h.f5.2.1 (lt_of_block h.bx), h.f5.2.2⟩, ⟨h.fl.1, not_own h.fl.2.1 (lt_of_block h.ln), h.fl.2.2⟩, h.ne⟩
theorem Dos.only {q : Nat} (h : Dos x y T d lb rb cb m U r qb k g5 gl o ol) (ho : Only q y z) (hq : x.heap.size ≤ q ∧ ¬ T q ∧ ¬ U q) (h1 : q ≠ g5) (h2 : q ≠ gl) : Dos x z T d lb rb cb m U r qb k g5 gl o ol :=
  ⟨h.s.only ho hq.1 hq.2.1 hq.2.2, (ho.block _ (lt_of_block h.bx) (fun e => h1 e.symm)).trans h.bx, (ho.block _ (lt_of_block h.ln) (fun e => h2 e.symm)).trans h.ln, h.f5, h.fl, h.ne⟩
theorem Dos.spoil {v : Value} (h : Dos x y T d lb rb cb m U r qb k g5 gl o ol) (hs : Sp v y z) (hv : ∀ g, v.ownBlock = some g → (x.heap.size ≤ g ∧ ¬ T g ∧ ¬ U g) ∧ g ≠ g5 ∧ g ≠ gl) : Dos x z T d lb rb cb m U r qb k g5 gl o ol := by
  rcases hs with rfl | ⟨g, hg, ho⟩
  · exact h
  · exact h.only ho (hv g hg).1 (hv g hg).2.1 (hv g hg).2.2
theorem Dos.free {e s n : Nat} {v : Value} {xs : List Value} (h : Dos x y T d lb rb cb m U r qb k g5 gl o ol) (ho : z.ownsRow y.heap.size e s v n xs) : ∀ g, v.ownBlock = some g → (x.heap.size ≤ g ∧ ¬ T g ∧ ¬ U g) ∧ g ≠ g5 ∧ g ≠ gl := fun g hg => by
  have h1 := (own_type ho g hg).1
  have h2 := lt_of_block h.bx
  have h3 := lt_of_block h.ln
  exact ⟨h.s.free ho g hg, by omega, by omega⟩
/-- At the beginning of an act. -/
theorem Dos.start {w1 w2 : World} (h : Bth x y T d lb rb cb m U r qb k) (hb : Below w1.heap.size w1 w2) (hw : w1 = y.alloc o) (hg : w1.heap.size ≤ gl) (hl : w2.heap[gl]? = some ol) : Dos x w2 T d lb rb cb m U r qb k y.heap.size gl o ol := by
  have hs : w1.heap.size = y.heap.size + 1 := by rw [hw]; simp
  have h1 : Below y.heap.size y w2 := by
    have h0 : Below y.heap.size y w1 := by rw [hw]; exact below_new y o
    exact h0.trans (hb.mono h0.size)
  have hxy := h.a.old.size
  refine ⟨h.next h1, ?_, hl, ⟨fun ht => Nat.lt_irrefl _ (h.a.dk.top _ ht), fun hu => Nat.lt_irrefl _ (h.b.top _ hu), hxy⟩, ⟨fun ht => by have := h.a.dk.top _ ht; omega, fun hu => by have := h.b.top _ hu; omega, by omega⟩, by omega⟩
  rw [hb.block _ (by omega), hw]
  exact heap_alloc_new y o
end
theorem box_cells {y : World} {g5 : Nat} {K I : Int} {pd pf : Option Addr} {nd cd nf cf : Nat} (h : y.heap[g5]? = some (Box K I pd nd cd pf nf cf)) : y.cell? ⟨g5, 0, none⟩ = some (.int .i64 K) ∧ y.cell? ⟨g5, 1, none⟩ = some (.int .i64 I) ∧ y.cell? ⟨g5, 2, none⟩ = some (.slice pd nd cd) ∧ y.cell? ⟨g5, 3, none⟩ = some (.slice pf nf cf) := by
  unfold Box at h
  refine ⟨?_, ?_, ?_, ?_⟩ <;> rw [cell_of_row y g5 _ _ _ _ h] <;> rfl
end Go.Proofs.Ytdkkoffmffallaa

/-
  PackPuts: the law walked.
-/
import Derived.Test.YtkgefogkdmbciaaPaT
namespace Go.Proofs.Ytkgefogkdmbciaa
open Go.RowKit

section
variable {P : Program} {ops : Array Oper} {rest : List Oper} {a : Act} {w : World} {Q : Exit → Act → World → Prop} {D : Option Tmp} {T : TypeId} {ps : String} {af : Array Edge} {gd : Option (Nat × Bool)}
theorem rng_load_g (ty : TypeId) (x : Operand) (b o : Nat) (A : Array Value) (d : TypeDesc) (hw : Region.wanted { dst := D, op := .load ty x, type := T, pos := ps, after := af, guard := gd } (yielded ops a.tmps) = true)
    (hx : a.eval x = .pointer (some ⟨b, o, none⟩)) (hc : w.rangeAt b o A.toList)
    (hu : P.underlying ty = some d) (hd : d.isRow = true) (hi : (P.info? ty).map (·.size) = some A.size)
    (h : wpList P ops Q rest (a.put D (.agg A)) w) : wpList P ops Q ({ dst := D, op := .load ty x, type := T, pos := ps, after := af, guard := gd } :: rest) a w :=
  BigFrame.wpList_want hw fun K hK => wp_load_mid ty x rfl b o hx A.toList d hc hu hd (by simpa using hi) (hK _ _ (by simpa using h))
theorem row_load_g (ty : TypeId) (x : Operand) (g : Nat) (t : TypeId) (cs : Array Value) (fr : Nat × Nat) (d : TypeDesc) (hw : Region.wanted { dst := D, op := .load ty x, type := T, pos := ps, after := af, guard := gd } (yielded ops a.tmps) = true)
    (hx : a.eval x = .pointer (some ⟨g, 0, none⟩)) (hg : w.heap[g]? = some (.cells cs t fr))
    (hu : P.underlying ty = some d) (hd : d.isRow = true) (hi : (P.info? ty).map (·.size) = some cs.size)
    (h : wpList P ops Q rest (a.put D (.agg cs)) w) : wpList P ops Q ({ dst := D, op := .load ty x, type := T, pos := ps, after := af, guard := gd } :: rest) a w :=
  rng_load_g ty x g 0 cs d hw hx (fun j v hv => by rw [cell_of_row w g (0 + j) _ _ _ hg, Nat.zero_add]; simpa using hv) hu hd hi h
end
def LentN (n : Nat) (L : List Int) (w : World) (e : Ending) (w' : World) : Prop :=
  ∃ g, e = .returned (.slice (some ⟨g, 0, none⟩) (n + 5) (n + 5)) ∧ Hid (w.heap.size ≤ g) ∧ Hid (w'.heap[g]? = some (.cells ((mk5 L).map (Value.int .u8)).toArray 5 (0, 0))) ∧ Hid (Below w.heap.size w w')
theorem lentn_any (L : List Int) (n : Nat) (hn : L.length = n) (hL : n ≤ 1000000) (p : Option Addr) (c : Nat) (w : World) (hp : Bs w p c L) : Calls Try.prog 19 #[.slice p n c] w (LentN n L w) := by
  subst hn
  refine (lent_any L p c w hp.bat hL).mono ?_
  rintro e w' ⟨g, h1, h2, h3, h4⟩
  exact ⟨g, h1, h2, h3, h4⟩
theorem keptn_any (L : List Int) (n : Nat) (hn : L.length = n) (hL : n ≤ 100000) (g : Nat) (q : Option Addr) (d : Nat) (w : World) (hg : w.heap[g]? = some (.cells ((mk5 L).map (Value.int .u8)).toArray 5 (0, 0))) (hq : Bs w q d L) :
    Calls Try.prog 23 #[.slice (some ⟨g, 0, none⟩) (n + 5) (n + 5), .slice q n d] w (YesSay w) := by
  subst hn
  exact kept_any L g q (L.length + 5) d w (bat_row hg (mk5_byt hq.bat.1)) hq.bat (by omega) (Nat.le_refl _)
theorem samen_any (R : List Int) (m : Nat) (hm : R.length = m) (hL : m ≤ 1000000) (p q : Option Addr) (c d : Nat) (w : World) (hp : Bs w p c R) (hq : Bs w q d R) : Calls Try.prog 16 #[.slice p m c, .slice q m d] w (YesSay w) :=
  same_any R p q m m c d hm hm w hp.bat hq.bat (by omega)
def SpSay (v : Value) (w : World) (e : Ending) (w' : World) : Prop := e = .returned (.tuple #[]) ∧ Hid (Sp v w w')
theorem spoiln_any {B m : Nat} {v : Value} {l : List Int} {w : World} (hL : m ≤ 1000000) (h : w.ownsRow B 5 1 v m (U8s l)) : Calls Try.prog 17 #[v] w (SpSay v w) :=
  (spoil_own h hL).mono fun _ _ h => ⟨h.1, h.2⟩

/-- A lent row and three rows of the call's own, apart. -/
structure Ap (w : World) (g : Nat) (vx vy vz : Value) : Prop where
  gx : vx.ownBlock ≠ some g
  gy : vy.ownBlock ≠ some g
  gz : vz.ownBlock ≠ some g
  xy : ∀ k, vy.ownBlock = some k → vx.ownBlock ≠ some k
  xz : ∀ k, vz.ownBlock = some k → vx.ownBlock ≠ some k
  yz : ∀ k, vz.ownBlock = some k → vy.ownBlock ≠ some k
  bx : ∀ k, vx.ownBlock = some k → w.heap.size ≤ k
  by_ : ∀ k, vy.ownBlock = some k → w.heap.size ≤ k
  bz : ∀ k, vz.ownBlock = some k → w.heap.size ≤ k
theorem ap_mk {w w1 w2 w3 w4 : World} {g nx ny nz : Nat} {vx vy vz : Value} {lx ly lz : List Value} (hx : w2.ownsRow w1.heap.size 5 1 vx nx lx) (hy : w3.ownsRow w2.heap.size 5 1 vy ny ly) (hz : w4.ownsRow w3.heap.size 5 1 vz nz lz)
    (hg : g < w1.heap.size) (hw : w.heap.size ≤ w1.heap.size) (h12 : w1.heap.size ≤ w2.heap.size) (h23 : w2.heap.size ≤ w3.heap.size) : Ap w g vx vy vz := by
  refine ⟨fun h => ?_, fun h => ?_, fun h => ?_, fun k h h' => ?_, fun k h h' => ?_, fun k h h' => ?_, fun k h => ?_, fun k h => ?_, fun k h => ?_⟩
  · have a := hx.lt _ h; omega
  · have a := hy.lt _ h; omega
  · have a := hz.lt _ h; omega
  · have a := hx.lt _ h'; have b := hy.lt _ h; omega
  · have a := hx.lt _ h'; have b := hz.lt _ h; omega
  · have a := hy.lt _ h'; have b := hz.lt _ h; omega
  · have a := hx.lt _ h; omega
  · have a := hy.lt _ h; omega
  · have a := hz.lt _ h; omega
end Go.Proofs.Ytkgefogkdmbciaa

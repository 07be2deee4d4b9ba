/-
  Both trees beside one another: what a call of one leaves of the other.
-/
import Derived.Test.YtfeemeddhhgigaaTrUa
namespace Go.Proofs.Ytfeemeddhhgigaa
open Go.RowKit

theorem RS.off {K g c : Nat} {w y : World} {t : Tr.T} {C : Array Value} {T : TypeId} (h : RS K w c t) (hg : w.heap[g]? = some (.cells C T (0, 0))) (h1 : 74 ≠ T) (h2 : 85 ≠ T) (h3 : 70 ≠ T) (ho : Only g w y) : RS K y c t ∧ c ≠ g := by
  obtain ⟨vb, vn, L, q, hL⟩ := h
  have hc : c ≠ g := fun e => by
    have q0 := q.box
    rw [e, hg] at q0
    injection q0 with q0
    injection q0 with _ q0 _
    exact h1 q0.symm
  exact ⟨⟨vb, vn, L, ⟨(ho.block c (lt_of_block q.box) hc).trans q.box, q.bl.only ho (q.bl.off_box hg h2), q.nd.only ho (q.nd.off_box hg h3), q.rep, q.ok, q.lo⟩, hL⟩, hc⟩
theorem RS.lo {K c : Nat} {w : World} {t : Tr.T} (h : RS K w c t) : K ≤ c := by
  obtain ⟨vb, vn, L, q, hL⟩ := h
  exact q.lo
section
variable {x w y z : World} {b c : Nat} {t t' : Tr.T}
theorem Bo.ne (h : Bo x w b c t) : b ≠ c := ((h.r.off h.p.at_.box (by decide) (by decide) (by decide) (Only.refl b w)).2).symm
/-- The program's tree did something: the reference's is as it was. -/
theorem Bo.mid (h : Bo x w b c t) (ho : Only b w y) : RS x.heap.size y c t := (h.r.off h.p.at_.box (by decide) (by decide) (by decide) ho).1
/-- And then the reference's did it too. -/
theorem Bo.join (h : Bo x w b c t) (hp : Pp x y b t') (hr : RS x.heap.size z c t') (ho : Only c y z) : Bo x z b c t' := ⟨hp.other ho h.ne h.r.lo, hr⟩
/-- What was told is written over. -/
theorem Bo.sp {B : Nat} {v : Value} {L : List (Array Value)} (h : Bo x w b c t) (hv : Fl B 33 33 w v L) (hB : x.heap.size ≤ B) (hs : Sp v w y) : Bo x y b c t := by
  rcases hs with rfl | ⟨g, hg, ho⟩
  · exact h
  · obtain ⟨q1, cur, q2⟩ := own_type hv.1 g hg
    have hb : b ≠ g := fun e => by
      have q0 := h.p.at_.box
      rw [e, q2] at q0
      injection q0 with q0
      injection q0 with _ q0 _
      exact absurd q0 (by decide)
    exact ⟨h.p.other ho hb (Nat.le_trans hB q1), (h.r.off q2 (by decide) (by decide) (by decide) ho).1⟩
end
/-- A tree behind a call of either. -/
def Tr.bothT (t : Tr.T) (o : Tr.O) : Tr.T := if o.k = 4 then Tr.loadI t o.n o.p o.r else Tr.runT t o
theorem Tr.both_inv {t : Tr.T} (h : Tr.Inv t) (o : Tr.O) : Tr.Inv (Tr.bothT t o) := by
  unfold Tr.bothT
  split
  · exact Tr.load_inv h o.n o.p o.r
  · exact Tr.run_inv t o h
end Go.Proofs.Ytfeemeddhhgigaa

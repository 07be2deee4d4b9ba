/-
  Contracts: Tamper, Read.
-/
import Derived.Test.YtglfjjmbadffmaaDkG
namespace Go.Proofs.Ytglfjjmbadffmaa
open Go.RowKit

namespace Dk
def tpM (m : M) (i : Int) (L : List Int) : M := if fault m i L = 0 then { m with ls := upd m.ls i.toNat L, ca := upd m.ca i.toNat none } else m
def rdE (m : M) (i : Int) : Int := if here m i then 0 else 7
def peek (m : M) (j : Nat) : List Int := (m.ca j).getD (m.ls j)
def rdX (m : M) (i : Int) : List Int := if here m i then peek m i.toNat else []
def rdM (m : M) (i : Int) : M := if here m i then { m with rd := upd m.rd i.toNat (m.rd i.toNat + 1) } else m
end Dk
section
variable {T : Nat → Prop} {d lb rb cb : Nat} {m : Dk.M}
/-- What Read says. -/
def RdSay (T : Nat → Prop) (d lb rb cb : Nat) (m : Dk.M) (i : Int) (w : World) (e : Ending) (w' : World) : Prop := ∃ v, e = .returned (.tuple #[v, .int .i64 (Dk.rdE m i)]) ∧ Hid (w'.ownsRow w.heap.size 5 1 v (Dk.rdX m i).length (U8s (Dk.rdX m i)) ∧ Sha.Byt (Dk.rdX m i)) ∧ Hid (DkAt w' T d lb rb cb (Dk.rdM m i)) ∧ Hid (Mv [d, lb, rb, cb] w w')
/-- One sector was read once more. -/
theorem DkAt.counted {y z : World} {j : Nat} (h : DkAt y T d lb rb cb m) (hm : Mv [rb] y z) (hr : z.heap[rb]? = some (.cells (((List.range m.n).map fun i => Value.int .i64 (m.rd i : Int)).toArray.setIfInBounds j (.int .i64 ((m.rd j : Int) + 1))) 3 (0, 0))) (hj : j < m.n) :
    DkAt z T d lb rb cb { m with rd := upd m.rd j (m.rd j + 1) } := by
  have ne := h.ne
  have lt := h.lt
  have hm4 : Mv [d, lb, rb, cb] y z := hm.more (fun k hk => by simp at hk ⊢; subst hk; simp)
  have hu := h.u8 hm4
  have key : ∀ g, T g → g ≠ rb → z.heap[g]? = y.heap[g]? := fun g hg hn => hm.block g (h.top g hg) (by simpa using hn)
  obtain ⟨A, a1, a2, a3⟩ := h.lst
  obtain ⟨F, b1, b2⟩ := h.csh
  obtain ⟨o1, o2, o3, o4, o5, o6⟩ := h.ok
  refine ⟨lt, fun g hg => Nat.lt_of_lt_of_le (h.top g hg) hm.size, (key d lt.1 ne.2.1).trans h.row, ⟨A, (key lb lt.2.1 ne.2.2.2.1).trans a1, a2, fun i hi => ?_⟩, ⟨F, b1.keep (key cb lt.2.2.2 (fun e => ne.2.2.2.2.2 e.symm)), fun i => ⟨(b2 i).1, fun L hL => ?_⟩⟩, ?_, ⟨o1, o2, o3, o4, o5, o6⟩⟩
  · obtain ⟨v, c1, c2⟩ := a3 i hi
    exact ⟨v, c1, c2.keep hu⟩
  · obtain ⟨v, c1, c2⟩ := (b2 i).2 L hL
    exact ⟨v, c1, c2.keep hu⟩
  · rw [hr]
    congr 2
    apply Array.ext_getElem?
    intro k
    by_cases hkj : k = j
    · subst hkj
      rw [Array.getElem?_setIfInBounds_self_of_lt (by simpa using hj)]
      simp [hj, upd_same]
    · rw [Array.getElem?_setIfInBounds_ne (fun e => hkj e.symm)]
      by_cases hk : k < m.n
      · simp [hk, upd_other _ _ hkj]
      · simp [hk]
end
end Go.Proofs.Ytglfjjmbadffmaa

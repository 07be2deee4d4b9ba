/-
  The reference: find, Peek, Read, Dirty.
-/
import Derived.Test.YtglfjjmbadffmaaDkX4
namespace Go.Proofs.Ytglfjjmbadffmaa
open Go.RowKit

theorem Dk.fnd_cons (x : Dk.S) (l : List Dk.S) (i : Nat) : Dk.fnd (x :: l) i = if x.1 = i then some x.2 else Dk.fnd l i := by
  unfold Dk.fnd
  rw [List.find?_cons]
  by_cases h : x.1 = i <;> simp [h]
/-- What find says. -/
def FndSay (o : Option (List Int)) (w : World) (e : Ending) (w' : World) : Prop := ∃ v, e = .returned (.tuple #[v, .bool o.isSome]) ∧ Hid (w'.ownsRow w.heap.size 5 1 v (o.getD []).length (U8s (o.getD [])) ∧ Sha.Byt (o.getD [])) ∧ Hid (Below w.heap.size w w')
section
variable {U : Nat → Prop} {r qb : Nat} {m : Dk.M} {vl vc : Value} {G : Nat → Option (List Int)}
theorem RfC.szc {y : World} (h : RfC y U r qb vl vc m G) : ∀ x ∈ Dk.lst m.ca m.n, x.2.length ≤ 1024 := fun x hx => h.ok.cab _ _ (Dk.lst_lt _ _ hx).2
theorem RfC.szl {y : World} (h : RfC y U r qb vl vc m G) : ∀ x ∈ Dk.lst G m.n, x.2.length ≤ 1024 := fun x hx => by
  have h1 := (Dk.lst_lt _ _ hx).2
  have h2 := h.ls x.1
  rw [h1] at h2
  have h3 := h.ok.lsb x.1
  rw [h2] at h3
  exact h3
end
end Go.Proofs.Ytglfjjmbadffmaa

/-
  Regions that draw their order, by hand: what yields in every world that meets S may be taken first.
-/
import Derived.Test.YtkajigfdfbgphaaShaL
import Derived.OrdersHeld
namespace Go.Proofs.Ytkajigfdfbgphaa
open Go.RowKit

section
variable {P : Program} {md : Region.Mode} {ops : Array Oper} {Q : Exit → Act → World → Prop} {S : World → Prop}
theorem anyH_take (i D : Nat) (v : Value) {fuel : Nat} {listed : Array Bool} {a : Act} {w : World} {op : Op} {T : TypeId} {ps : String} {af : Array Edge} {gd : Option (Nat × Bool)} (hS : S w) (ho : ops[i]? = some { dst := some D, op := op, type := T, pos := ps, after := af, guard := gd })
    (hs : Region.noSelect ops = true) (hf : Region.free md ops listed i = true) (hr : (Region.ready md ops listed).contains i = true)
    (hQ : ∀ c a w, Q (.panic c) (a.put (some D) v) w → Q (.panic c) a w) (hw : Region.wanted { dst := some D, op := op, type := T, pos := ps, after := af, guard := gd } (yielded ops a.tmps) = true) (hy : ∀ w, S w → (execOp a.eval { dst := some D, op := op, type := T, pos := ps, after := af, guard := gd }).run P w = .ok (.value v) w)
    (h : wpAnyH P md ops Q S fuel (listed.setIfInBounds i true) (a.put (some D) v) w) : wpAnyH P md ops Q S (fuel + 1) listed a w :=
  wpAnyH_first ho (Region.noSelect_spec hs) hQ fuel listed a w (Region.free_spec ho hf) (by simpa using hr) (Or.inl ⟨hw, hy⟩) hS h
theorem anyH_one (i : Nat) {fuel : Nat} {listed : Array Bool} {a : Act} {w : World} (hr : Region.ready md ops listed = [i])
    (h : wpOp P ops Q i (fun a' w' => S w' ∧ wpAnyH P md ops Q S fuel (listed.setIfInBounds i true) a' w') a w) : wpAnyH P md ops Q S (fuel + 1) listed a w :=
  ⟨fun h0 => absurd (hr ▸ h0) (by simp), fun j hj => by
    rw [hr] at hj
    simp at hj
    subst hj
    exact h⟩
theorem anyH_done {listed : Array Bool} {a : Act} {w : World} (hr : Region.ready md ops listed = []) (h : Q .normal a w) : ∀ fuel, wpAnyH P md ops Q S fuel listed a w
  | 0 => ⟨hr, h⟩
  | _ + 1 => ⟨fun _ => h, by rw [hr]; simp⟩
end
end Go.Proofs.Ytkajigfdfbgphaa

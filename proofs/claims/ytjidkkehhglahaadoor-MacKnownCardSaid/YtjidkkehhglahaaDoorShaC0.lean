/-
  The table of constants in memory; what is said of sha.take.
-/
import Derived.Test.YtjidkkehhglahaaDoorShaB
import Derived.Deep.QuietTactic
import Derived.BigQuiet
namespace Go.Proofs.YtjidkkehhglahaaDoor
open Go.RowKit

/-- The table of constants lies in block g. -/
def Tab (w : World) (g : Nat) : Prop := ∀ t, t < 64 → w.cell? ⟨g, t, none⟩ = some (.int .u32 (Sha.ki t))
theorem Tab.lt {w : World} {g : Nat} (h : Tab w g) : g < w.heap.size := World.block_lt_of_cell? w _ (h 0 (by omega))
theorem Tab.below {B : Nat} {w w' : World} {g : Nat} (h : Tab w g) (hb : Below B w w') (hB : g < B) : Tab w' g := fun t ht => by
  rw [hb.cell (p := ⟨g, t, none⟩) hB]; exact h t ht

/-- The contract of sha.take. -/
def TakeSaid : Prop := ∀ (s : Sha.St) (cs : Array Value) (r : Nat → Int) (_ : cs.size = 64) (_ : ∀ i, i < 64 → cs[i]? = some (.int .u8 (r i))) (_ : ∀ i, i < 64 → 0 ≤ r i ∧ r i ≤ 255) (w : World) (_ : Tab w 0),
    Calls Tryd.prog 22 #[.agg s.l.toArray, .agg cs] w fun e w' => e = .returned (.agg (Sha.tk s r).l.toArray) ∧ Below w.heap.size w w'
end Go.Proofs.YtjidkkehhglahaaDoor

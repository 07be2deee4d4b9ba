/-
  Contract: the reference's New.
-/
import Derived.Test.YtkajigfdfbgphaaTurH
namespace Go.Proofs.Ytkajigfdfbgphaa
open Go.RowKit

/-- The reference's cipher in memory, all of it from block B on. -/
def RCiphB (B : Nat) (w : World) (g n : Nat) (R : List Int) : Prop :=
  B ≤ g ∧ ∃ wb wc tb tc, B ≤ wb ∧ B ≤ tb ∧ w.heap[g]? = some (.cells #[.slice (some ⟨wb, 0, none⟩) n wc, .slice (some ⟨tb, 0, none⟩) 256 tc] 60 (0, 0)) ∧
    (∀ i, i < n → ∃ b c, B ≤ b ∧ w.cell? ⟨wb, i, none⟩ = some (.slice (some ⟨b, 0, none⟩) 4 c) ∧ ∀ j, j < 4 → w.cell? ⟨b, j, none⟩ = some (.int .u8 (R.getD (4 * i + j) 0))) ∧ ∀ j, j < 256 → w.cell? ⟨tb, j, none⟩ = some (.int .u8 (Aes.TB.getD j 0))
def RefSay (K : List Int) (m : Nat) (w : World) (e : Ending) (w' : World) : Prop :=
  ∃ g, e = .returned (.tuple #[.pointer (some ⟨g, 0, none⟩), .int .i64 0]) ∧ RCiphB w.heap.size w' g (4 * (m + 7)) (Aes.up (Aes.rb (Aes.kyl K m)) (16 * (m + 7))) ∧ Below w.heap.size w w'

end Go.Proofs.Ytkajigfdfbgphaa

/-
  Contract of the reference's reader: Ref.
-/
import Derived.Test.YtkgefogkdmbciaaPaR
namespace Go.Proofs.Ytkgefogkdmbciaa
open Go.RowKit

theorem RfRd.mark {w : World} {g : Nat} {D : Option Nat} {L : List Int} {b : Bool} (h : RfRd w g D L b) :
    (∃ v, w.cell? ⟨g, 2, none⟩ = some v) ∧ w.frozen? ⟨g, 2, none⟩ = false ∧ RfRd (w.setCell ⟨g, 2, none⟩ (.bool true)) g D [] true := by
  obtain ⟨⟨p, c, a, B, h1, h2, h3, h6, h7, h8, h9⟩, h4, h5⟩ := h
  refine ⟨⟨.bool b, by rw [cell_of_row w g 2 _ _ _ h1]; rfl⟩, frozen_of_row w g 2 _ _ h1, ⟨p, c, a, B, ?_, h2.only (Chg.setCell w ⟨g, 2, none⟩ _).only (fun ad h e => h4 (by rw [h9 ad h, e])), h3, h6, fun h => (by cases h), fun _ => rfl, h9⟩, h4, fun d hd => by simpa using h5 d hd⟩
  rw [heap_setCell_same w g 2 _ _ _ h1]
  rfl
end Go.Proofs.Ytkgefogkdmbciaa

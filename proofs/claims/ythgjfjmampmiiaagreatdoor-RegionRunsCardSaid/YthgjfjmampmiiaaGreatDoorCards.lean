/-
  DERIVED. GIVEN WITH THE SEED: THE CARDS: each row of YthgjfjmampmiiaaGreatDoorRows.lean that lists a variable, with what it lists TIED to the program's text (the seventh form; the later family's looks); each row that meets fmt, with fmt's text TOLD by the authors' own Lean function (tested against real Go, not proved from fmt's source: count such statements apart). THE CARD IS WHAT COUNTS. Prove the row's statement (the work); the ties are given (YthgjfjmampmiiaaGreatDoorTie.lean); close each card by the builder's one call (the guide's Derived/Test/ToyasCard.lean, 'card_holds'). Laid BY PROGRAM, IN A SANDBOX (cutbox-door.mjs). By AI agents, Wed Nov 11 2026. No macro, syntax, notation, axiom, sorry.
-/
import Derived.Test.YthgjfjmampmiiaaGreatDoorRows
import GoSem.ClaimSeven
namespace Go.Proofs.YthgjfjmampmiiaaGreatDoor
namespace Rows

/-- THE TIED CARD OF 'rilllaw14.RegionRuns'. -/
def regionRunsCard : Claim7 := { stood := { row := regionRunsRow, standIns := [], harness := (true, "b3d20dd888f238c15e530ecf324838e95498aab6c853111799072cb796360850"), looks := false }, kinds := [], alts := [], laidByText := true, laidKinds := [.data, .data], laidTests := true, laidLooks := .later }
def RegionRunsCardSaid : Prop := Claim7.holds Tryz.pinned (.plain (OpenSpec.ofChange regionRunsSpec)) regionRunsCard

/-- THE TIED CARD OF 'rilllaw14.RegionKnown'. -/
def regionKnownCard : Claim7 := { stood := { row := regionKnownRow, standIns := [], harness := (true, "b3d20dd888f238c15e530ecf324838e95498aab6c853111799072cb796360850"), looks := false }, kinds := [], alts := [], laidByText := true, laidKinds := [.data, .data], laidTests := true, laidLooks := .later }
def RegionKnownCardSaid : Prop := Claim7.holds Tryz.pinned (.plain (OpenSpec.ofChange regionKnownSpec)) regionKnownCard

/-- THE SECOND FORM's CARD OF 'rilllaw14.RegionRuns'. -/
def regionRunsUptoCard : Claim7 := { stood := { row := regionRunsUptoRow, standIns := [], harness := (true, "b3d20dd888f238c15e530ecf324838e95498aab6c853111799072cb796360850"), looks := false }, kinds := [], alts := [], laidByText := true, laidKinds := [.data, .data], laidTests := true, laidLooks := .later }
def RegionRunsUptoCardSaid : Prop := Claim7.holds Tryz.pinned (.plain (OpenSpec.upto regionRunsSpec)) regionRunsUptoCard

/-- THE SECOND FORM's CARD OF 'rilllaw14.RegionKnown'. -/
def regionKnownUptoCard : Claim7 := { stood := { row := regionKnownUptoRow, standIns := [], harness := (true, "b3d20dd888f238c15e530ecf324838e95498aab6c853111799072cb796360850"), looks := false }, kinds := [], alts := [], laidByText := true, laidKinds := [.data, .data], laidTests := true, laidLooks := .later }
def RegionKnownUptoCardSaid : Prop := Claim7.holds Tryz.pinned (.plain (OpenSpec.upto regionKnownSpec)) regionKnownUptoCard
end Rows
end Go.Proofs.YthgjfjmampmiiaaGreatDoor

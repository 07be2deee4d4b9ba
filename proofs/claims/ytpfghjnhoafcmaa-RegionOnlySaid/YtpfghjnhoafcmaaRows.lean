/-
  No cell of these rows narrows 'for every input' (looked for: loops, veiled, ifaces, maps, wideKeys, modest, calm, conditions, laid).
  DERIVED. THE GIVEN ROWS OF THIS SEAT. 4 by the template 'for every input the law returns true; each argument reads behind the call as it read before'; 0 by the template 'total and deterministic' (their statements: YtpfghjnhoafcmaaTotals.lean).
  GIVEN WITH THE SEED: the statements are not yours to turn. If you find one false, say at which input.
  Laid BY PROGRAM, IN A SANDBOX (cutbox-rows.mjs): the forced cells as the released guide's own fill.sh prints them over the translation f5ac629edb63bbba… (all of the seat's roots in one cut). By AI agents, Wed Nov 11 2026. No macro, syntax, notation, axiom, sorry.
-/
import Derived.Test.YtpfghjnhoafcmaaChecked
import GoSem.Claim
import GoSem.ClaimJoined
import GoSem.ClaimMapViews
import Derived.JoinedTies
import Derived.KernelRfl
namespace Go.Proofs.Ytpfghjnhoafcmaa
/- THE CELL 'sum', in the pinned program and in every row, IS THE sha256 OF THE DUMP (.gsa) THAT YtpfghjnhoafcmaaProg.lean LOADS. Nothing in Lean hashes anything: it is a label: what it is worth is what the hold of that sum in a sandbox is worth. -/
noncomputable def Try.pinned : Pinned := { name := "ytpfghjnhoafcmaa", sum := "f5ac629edb63bbba53eda46c2b60ff97cc8682b9a4d8969372a3d57aa325ec0a", checked := Try.checked }
namespace Rows
def none {H : Type} : Left H := { results := [], args := [] }

/-- 'rilllaw14.RegionOnly': WHATEVER THE INPUT: true; the input reads as it did. -/
def regionOnlySpec : ChangeSpec := { name := "regionOnly", fn := fun _ => fun
  | [d] => { results := [.lit (.bool true)], args := [d] }
  | _ => none }
def regionOnlyRow : OpenClaim := { program := "ytpfghjnhoafcmaa", sum := "f5ac629edb63bbba53eda46c2b60ff97cc8682b9a4d8969372a3d57aa325ec0a", func := "rill/rilllaw14.RegionOnly", spec := "regionOnly", unfollowed := true, recurses := true, plainKeys := false, apart := false }
def RegionOnlySaid : Prop := regionOnlyRow.holds Try.pinned (OpenSpec.ofChange regionOnlySpec)

/-- ITS FALSE NEIGHBOUR: 'it returns false'. Refute it at one input. -/
def regionOnlyWrong : ChangeSpec := { name := "regionOnly", fn := fun _ => fun
  | [d] => { results := [.lit (.bool false)], args := [d] }
  | _ => none }
def RegionOnlyWrongFalsely : Prop := regionOnlyRow.holds Try.pinned (OpenSpec.ofChange regionOnlyWrong)

/-- 'rilllaw15.SuperPuts': WHATEVER THE INPUT: true; the input reads as it did. -/
def superPutsSpec : ChangeSpec := { name := "superPuts", fn := fun _ => fun
  | [d1, d2] => { results := [.lit (.bool true)], args := [d1, d2] }
  | _ => none }
def superPutsRow : OpenClaim := { program := "ytpfghjnhoafcmaa", sum := "f5ac629edb63bbba53eda46c2b60ff97cc8682b9a4d8969372a3d57aa325ec0a", func := "rill/rilllaw15.SuperPuts", spec := "superPuts", unfollowed := true, recurses := true, plainKeys := false, apart := false }
def SuperPutsSaid : Prop := superPutsRow.holds Try.pinned (OpenSpec.ofChange superPutsSpec)

/-- ITS FALSE NEIGHBOUR: 'it returns false'. Refute it at one input. -/
def superPutsWrong : ChangeSpec := { name := "superPuts", fn := fun _ => fun
  | [d1, d2] => { results := [.lit (.bool false)], args := [d1, d2] }
  | _ => none }
def SuperPutsWrongFalsely : Prop := superPutsRow.holds Try.pinned (OpenSpec.ofChange superPutsWrong)

/-- 'rilllaw15.SuperFound': WHATEVER THE INPUT: true; the input reads as it did. -/
def superFoundSpec : ChangeSpec := { name := "superFound", fn := fun _ => fun
  | [d1, d2, d3, d4] => { results := [.lit (.bool true)], args := [d1, d2, d3, d4] }
  | _ => none }
def superFoundRow : OpenClaim := { program := "ytpfghjnhoafcmaa", sum := "f5ac629edb63bbba53eda46c2b60ff97cc8682b9a4d8969372a3d57aa325ec0a", func := "rill/rilllaw15.SuperFound", spec := "superFound", unfollowed := true, recurses := true, plainKeys := false, apart := false }
def SuperFoundSaid : Prop := superFoundRow.holds Try.pinned (OpenSpec.ofChange superFoundSpec)

/-- ITS FALSE NEIGHBOUR: 'it returns false'. Refute it at one input. -/
def superFoundWrong : ChangeSpec := { name := "superFound", fn := fun _ => fun
  | [d1, d2, d3, d4] => { results := [.lit (.bool false)], args := [d1, d2, d3, d4] }
  | _ => none }
def SuperFoundWrongFalsely : Prop := superFoundRow.holds Try.pinned (OpenSpec.ofChange superFoundWrong)

/-- 'rilllaw15.SuperKnown': WHATEVER THE INPUT: true; the input reads as it did. -/
def superKnownSpec : ChangeSpec := { name := "superKnown", fn := fun _ => fun
  | [] => { results := [.lit (.bool true)], args := [] }
  | _ => none }
def superKnownRow : OpenClaim := { program := "ytpfghjnhoafcmaa", sum := "f5ac629edb63bbba53eda46c2b60ff97cc8682b9a4d8969372a3d57aa325ec0a", func := "rill/rilllaw15.SuperKnown", spec := "superKnown", unfollowed := true, recurses := true, plainKeys := false, apart := false }
def SuperKnownSaid : Prop := superKnownRow.holds Try.pinned (OpenSpec.ofChange superKnownSpec)

/-- ITS FALSE NEIGHBOUR: 'it returns false'. Refute it at one input. -/
def superKnownWrong : ChangeSpec := { name := "superKnown", fn := fun _ => fun
  | [] => { results := [.lit (.bool false)], args := [] }
  | _ => none }
def SuperKnownWrongFalsely : Prop := superKnownRow.holds Try.pinned (OpenSpec.ofChange superKnownWrong)

/- THE SECOND FORM. 'bulk': how many values and letters a reading holds, each counted each time it is reached (what is shared counts as often as it is met; a slice's spare places count too). A statement '..UptoSaid' is the law's where the arguments, and the package variables that the reading takes, are together of bulk at most 1048576: NARROWER than '..Said'. Prove '..Said' where nothing that the law and all that it calls make is longer than what came in: it says more and counts as full. Else prove '..UptoSaid'. A law counts once. -/
mutual
def uptoBulk {H : Type} : DataW H → Nat
  | .lit (.string bytes) => bytes.length + 1
  | .lit _ => 1
  | .nil => 1
  | .ptr d => uptoBulk d + 1
  | .slice elems spare => uptoBulkAll elems + uptoBulkAll spare + 1
  | .agg parts => uptoBulkAll parts + 1
  | .iface _ d => uptoBulk d + 1
  | .map entries => uptoBulkEntries entries + 1
  | .held _ => 1
def uptoBulkAll {H : Type} : List (DataW H) → Nat
  | [] => 0
  | d :: r => uptoBulk d + uptoBulkAll r
def uptoBulkEntries {H : Type} : List (Lit × DataW H) → Nat
  | [] => 0
  | x :: r => uptoBulkEntry x + uptoBulkEntries r
def uptoBulkEntry {H : Type} : Lit × DataW H → Nat
  | (.string bytes, d) => bytes.length + uptoBulk d + 1
  | (_, d) => uptoBulk d + 1
 end
def uptoSmall : (H : Type) → List (DataW H) → Bool := fun _ ds => decide (uptoBulkAll ds ≤ 1048576)
def OpenSpec.upto (s : _root_.Go.ChangeSpec) : _root_.Go.OpenSpec := { _root_.Go.OpenSpec.ofChange s with cond := some uptoSmall }

/-- 'rilllaw14.RegionOnly', WHERE WHAT IT READS IS OF BULK AT MOST 1048576: true; the input reads as it did. -/
def regionOnlyUptoRow : OpenClaim := { program := "ytpfghjnhoafcmaa", sum := "f5ac629edb63bbba53eda46c2b60ff97cc8682b9a4d8969372a3d57aa325ec0a", func := "rill/rilllaw14.RegionOnly", spec := "regionOnly", unfollowed := true, recurses := true, plainKeys := false, apart := false, narrowed := true }
def RegionOnlyUptoSaid : Prop := regionOnlyUptoRow.holds Try.pinned (OpenSpec.upto regionOnlySpec)

/-- 'rilllaw15.SuperPuts', WHERE WHAT IT READS IS OF BULK AT MOST 1048576: true; the input reads as it did. -/
def superPutsUptoRow : OpenClaim := { program := "ytpfghjnhoafcmaa", sum := "f5ac629edb63bbba53eda46c2b60ff97cc8682b9a4d8969372a3d57aa325ec0a", func := "rill/rilllaw15.SuperPuts", spec := "superPuts", unfollowed := true, recurses := true, plainKeys := false, apart := false, narrowed := true }
def SuperPutsUptoSaid : Prop := superPutsUptoRow.holds Try.pinned (OpenSpec.upto superPutsSpec)

/-- 'rilllaw15.SuperFound', WHERE WHAT IT READS IS OF BULK AT MOST 1048576: true; the input reads as it did. -/
def superFoundUptoRow : OpenClaim := { program := "ytpfghjnhoafcmaa", sum := "f5ac629edb63bbba53eda46c2b60ff97cc8682b9a4d8969372a3d57aa325ec0a", func := "rill/rilllaw15.SuperFound", spec := "superFound", unfollowed := true, recurses := true, plainKeys := false, apart := false, narrowed := true }
def SuperFoundUptoSaid : Prop := superFoundUptoRow.holds Try.pinned (OpenSpec.upto superFoundSpec)

/-- 'rilllaw15.SuperKnown', WHERE WHAT IT READS IS OF BULK AT MOST 1048576: true; the input reads as it did. -/
def superKnownUptoRow : OpenClaim := { program := "ytpfghjnhoafcmaa", sum := "f5ac629edb63bbba53eda46c2b60ff97cc8682b9a4d8969372a3d57aa325ec0a", func := "rill/rilllaw15.SuperKnown", spec := "superKnown", unfollowed := true, recurses := true, plainKeys := false, apart := false, narrowed := true }
def SuperKnownUptoSaid : Prop := superKnownUptoRow.holds Try.pinned (OpenSpec.upto superKnownSpec)

end Rows
end Go.Proofs.Ytpfghjnhoafcmaa

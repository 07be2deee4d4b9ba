/-
  What the rows of the laws share: two tables of constants as their own initialisers lay them; a slice of bytes that came in.
-/
import Derived.Test.YtjidkkehhglahaaDoorRows
import Derived.Test.YtjidkkehhglahaaDoorShaC
import Derived.Test.YtjidkkehhglahaaDoorKitA
import Derived.Stop.LaidErr
import Derived.ChangeSame
import Derived.ChangeVars
import Derived.ChangeSlices
import Derived.JoinedOf
import Derived.JoinedAt
import Derived.RowKit
import Derived.RowKitTokens
import Derived.LaidLaws
import Derived.LaidHandle
import Derived.Stop.Joined
import Derived.ProofKit
import Derived.Lib.LaidTab
import Derived.SevenTiedAt
import Derived.SizedLaws
import Derived.Carry
namespace Go.Proofs.YtjidkkehhglahaaDoor
open Go.ChangeShapes Go.WideShapes Go.RowKit

theorem Tryd.own : ownKnob Tryd.prog.godebug = none := by kernel_rfl
theorem Tryd.laidOut : laidOutB Tryd.prog = true := by kernel_rfl
theorem Tryd.cells5 : Tryd.prog.cellsOf 5 = 1 := by kernel_rfl
theorem laid_kk : (Rows.laid_rill_sha_constants : DataW Unit) = Lib.tabData .u32 Sha.kk := by
  unfold Sha.kk
  rfl
theorem laid_kr : (Rows.laid_rill_rillref01_K : DataW Unit) = Lib.tabData .u32 Sha.kk := by
  unfold Sha.kk
  rfl
def rowLaid1 : List (String × DataW Unit) := [("rill/sha.constants", Rows.laid_rill_sha_constants)]
def rowLaid2 : List (String × DataW Unit) := [("rill/rillref01.K", Rows.laid_rill_rillref01_K), ("rill/sha.constants", Rows.laid_rill_sha_constants)]
theorem tab_of_laid1 {W : World} (h : laidMet Tryd.prog rowLaid1 W) : Tab W 0 := by
  unfold rowLaid1 at h
  rw [laid_kk] at h
  have hT := Lib.tabIs_of_head (g := 0) (t := 60) (by kernel_rfl) (by kernel_rfl) Tryd.underlying60 Tryd.underlying33 (by kernel_rfl) (by kernel_rfl) h
  intro t ht
  have := hT.cell (g := 0) (by kernel_rfl) t (by unfold Sha.kk; exact ht)
  unfold Sha.ki
  exact this
theorem tab_of_laid2 {W : World} (h : laidMet Tryd.prog rowLaid2 W) : Tab W 0 ∧ Tab W 1 := by
  refine ⟨tab_of_laid1 (laidMet.tail h), ?_⟩
  unfold rowLaid2 at h
  rw [laid_kr] at h
  have hT := Lib.tabIs_of_head (g := 1) (t := 60) (by kernel_rfl) (by kernel_rfl) Tryd.underlying60 Tryd.underlying33 (by kernel_rfl) (by kernel_rfl) h
  intro t ht
  have := hT.cell (g := 1) (by kernel_rfl) t (by unfold Sha.kk; exact ht)
  unfold Sha.ki
  exact this
theorem trod_below_args {H : Type} {enc : TypeId × Value → H} {t : TypeId} {W W' : World} {v : Value} {d : DataW H} {ps : List MemPlace}
    (h : DataW.Trod enc Tryd.prog W 0 (fun _ => true) true t v d ps) (hb : Below W.heap.size W W') (hlt : ∀ x ∈ ps, x.block < W.heap.size) (hr : Tryd.prog.readableRec t = true) (hrow : t < Tryd.prog.types.size) :
    DataW.Trod enc Tryd.prog W' 0 (fun b => decide (b < W.heap.size)) true t v d ps :=
  Below.trod Tryd.laidOut hr hrow h hb hlt
def kkCells : Obj → Obj
  | .cells _ t frozen => .cells (Sha.kk.map fun z => Value.int .u32 z).toArray t frozen
  | o => o
noncomputable def laidWorld (os : Os) : World :=
  { World.holding Tryd.prog os ⟨#[], #[], []⟩ with heap := ((World.holding Tryd.prog os ⟨#[], #[], []⟩).heap.modify 0 kkCells).modify 1 kkCells }
theorem laidWorld_met1 (os : Os) (args : Array Value) : laidMet Tryd.prog rowLaid1 ((laidWorld os).forCall (fun _ _ => 0) ⟨#[], args, []⟩).memory :=
  laidMet_of_run' 8 (by kernel_rfl) (by kernel_rfl)
theorem laidWorld_met2 (os : Os) (args : Array Value) : laidMet Tryd.prog rowLaid2 ((laidWorld os).forCall (fun _ _ => 0) ⟨#[], args, []⟩).memory :=
  laidMet_of_run' 8 (by kernel_rfl) (by kernel_rfl)

/-- A slice of bytes that came in. -/
theorem open_bytes {H : Type} {enc : TypeId × Value → H} {W : World} {base : Nat} {v : Value} {d : DataW H} {ps : List MemPlace} (hok : Value.okWide Tryd.prog W .any base 25 v)
    (h : DataW.Trod enc Tryd.prog W 0 (fun _ => true) true 25 v d ps) : ∃ (L : List Int) (p : Option Addr) (cap : Nat), v = .slice p L.length cap ∧ BAt W p L ∧ L.length ≤ cap ∧
      (cap = 0 ∨ ∃ D S, d = .slice D S ∧ D.length + S.length = cap) := by
  obtain ⟨a0, len, cap, rfl⟩ := okWide_slice Tryd.underlying25 hok
  obtain ⟨fuel, hf⟩ := h
  rcases open_ints Tryd.underlying25 Tryd.underlying5 Tryd.cells5 hf with ⟨hcs, hx⟩ | ⟨a, len', cap', zs, hcs, _, hl, hm, hz, hx, hcell, hwz⟩
  · simp [Value.cells] at hcs
    obtain ⟨rfl, rfl, rfl⟩ := hcs
    exact ⟨[], none, 0, rfl, ⟨fun x hx => by simp at hx, fun h0 => by simp at h0⟩, Nat.le_refl _, Or.inl rfl⟩
  · simp [Value.cells] at hcs
    obtain ⟨rfl, rfl, rfl⟩ := hcs
    simp only [Prod.mk.injEq] at hx
    obtain ⟨rfl, rfl⟩ := hx
    simp only [if_true] at hz
    have hll : (zs.take len).length = len := by simp; omega
    refine ⟨zs.take len, some a, cap, by rw [hll], ⟨fun x hx => ?_, fun h0 => ?_⟩, by omega, Or.inr ⟨_, _, rfl, by simp [lits]; omega⟩⟩
    · have h := hwz x (List.mem_of_mem_take hx)
      simp [Lit.wf, IntKind.min, IntKind.max, IntKind.signed, IntKind.bits] at h
      omega
    · rw [hll] at h0 ⊢
      obtain ⟨ab, ao, spot⟩ := a
      have hspot : spot = none := by simpa [Addr.add] using World.cell?_spot (hcell 0 (by omega))
      subst hspot
      refine ⟨ab, ao, rfl, fun j hj => ?_⟩
      have h := hcell j (by omega)
      rw [Addr.add_mid] at h
      rw [h]
      congr 2
      simp [List.getD_eq_getElem?_getD, hj]
/-- No machine holds more. -/
theorem bytes_cap {H : Type} {ts : List TypeId} {ds : List (DataW H)} {j : Nat} {d : DataW H} {cap : Nat} (hsz : (DataW.weightsEach Tryd.prog ts ds).all (· ≤ reachBytes) = true) (ht : ts[j]? = some 25) (hd : ds[j]? = some d)
    (h : cap = 0 ∨ ∃ D S, d = .slice D S ∧ D.length + S.length = cap) : cap ≤ 140737488355328 := by
  rcases h with rfl | ⟨D, S, rfl, rfl⟩
  · omega
  · have hs := sized_slice hsz ht hd Tryd.underlying25
    have hbe : Tryd.prog.bytesOf 5 = 1 := by kernel_rfl
    rw [hbe] at hs
    have : reachBytes < 2 ^ 47 := reachBytes_lt
    omega
end Go.Proofs.YtjidkkehhglahaaDoor

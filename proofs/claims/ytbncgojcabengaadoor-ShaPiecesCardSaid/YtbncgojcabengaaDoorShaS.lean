/-
  For every input, in whatever memory and on every schedule, ShaPieces returns true, and its arguments read afterwards as they read before: a digest hangs on the bytes that went by alone, not on how they were cut, or on whether it was asked for between. Condition: the package-level table of constants holds at the call's start what its own initialiser lays (the card ties that to the program's text).
-/
import Derived.Test.YtbncgojcabengaaDoorRows
import Derived.Test.YtbncgojcabengaaDoorTie
import Derived.Test.YtbncgojcabengaaDoorCards
import Derived.Test.YtbncgojcabengaaDoorShaR
import Derived.Test.YtbncgojcabengaaDoorShaC
import Derived.ChangeSame
import Derived.ChangeVars
import Derived.ChangeSlices
import Derived.JoinedOf
import Derived.JoinedAt
import Derived.RowKit
import Derived.RowKitTokens
import Derived.LaidLaws
import Derived.LaidHandle
import Derived.Stop.Joined
import Derived.ProofKit
import Derived.Lib.LaidTab
import Derived.SevenTiedAt
import Derived.SizedLaws
import Derived.Carry
namespace Go.Proofs.YtbncgojcabengaaDoor
open Go.ChangeShapes Go.WideShapes Go.RowKit

theorem Tryd.own : ownKnob Tryd.prog.godebug = none := by kernel_rfl
theorem Tryd.laidOut : laidOutB Tryd.prog = true := by kernel_rfl
theorem Tryd.cells5 : Tryd.prog.cellsOf 5 = 1 := by kernel_rfl
theorem laid_kk : (Rows.laid_rill_sha_constants : DataW Unit) = Lib.tabData .u32 Sha.kk := by
  unfold Sha.kk
  rfl
def rowLaid : List (String × DataW Unit) := [("rill/sha.constants", Rows.laid_rill_sha_constants)]
theorem tab_of_laid {W : World} (h : laidMet Tryd.prog rowLaid W) : Tab W 1 := by
  unfold rowLaid at h
  rw [laid_kk] at h
  have hT := Lib.tabIs_of_head (g := 1) (t := 53) (by kernel_rfl) (by kernel_rfl) Tryd.underlying53 Tryd.underlying39 (by kernel_rfl) (by kernel_rfl) h
  intro t ht
  have := hT.cell (g := 1) (by kernel_rfl) t (by unfold Sha.kk; exact ht)
  unfold Sha.ki
  exact this
theorem trod_below_args {H : Type} {enc : TypeId × Value → H} {t : TypeId} {W W' : World} {v : Value} {d : DataW H} {ps : List MemPlace}
    (h : DataW.Trod enc Tryd.prog W 0 (fun _ => true) true t v d ps) (hb : Below W.heap.size W W') (hlt : ∀ x ∈ ps, x.block < W.heap.size) (hr : Tryd.prog.readableRec t = true) (hrow : t < Tryd.prog.types.size) :
    DataW.Trod enc Tryd.prog W' 0 (fun b => decide (b < W.heap.size)) true t v d ps :=
  Below.trod Tryd.laidOut hr hrow h hb hlt
noncomputable def laidWorld (os : Os) : World :=
  { World.holding Tryd.prog os ⟨#[], #[], []⟩ with heap := (World.holding Tryd.prog os ⟨#[], #[], []⟩).heap.modify 1 fun
      | .cells _ t frozen => .cells (Sha.kk.map fun z => Value.int .u32 z).toArray t frozen
      | o => o }
theorem laidWorld_met (os : Os) (args : Array Value) : laidMet Tryd.prog rowLaid ((laidWorld os).forCall (fun _ _ => 0) ⟨#[], args, []⟩).memory :=
  laidMet_of_run' 8 (by kernel_rfl) (by kernel_rfl)

set_option maxRecDepth 100000 in
theorem pieces_lifted (os : Os) (started : os.Started) (H : Type) (enc : TypeId × Value → H) :
    ReturnsInHanded {} Tryd.checked os 5 .any (fun w args => (Rows.shaPiecesSpec.pre enc Tryd.prog Tryd.f5 [] false w args ∧ laidMet Tryd.prog rowLaid w) ∧ sizedMet enc Tryd.prog Tryd.f5 (OpenSpec.ofChange Rows.shaPiecesSpec) false w args)
      (Rows.shaPiecesSpec.post enc Tryd.prog Tryd.f5 false true false false) := by
  refine returnsInHanded_of_change_and (C := Tryd.checked) (X := fun w _ => laidMet Tryd.prog rowLaid w) (fun _ _ _ hh h => h.of_heap hh) Tryd.own started (by kernel_rfl) Tryd.func5
    (ChangeSpec.witness_at (enc := enc) (C := Tryd.checked) (os := os) (X := fun w _ => laidMet Tryd.prog rowLaid w) false (laidWorld os) #[.slice none 0 0, .int .i64 0, .int .i64 0] 8 rfl (by kernel_rfl) (by kernel_rfl) (by kernel_rfl) (by kernel_rfl) (by kernel_rfl) (laidWorld_met os _)) ?_
  intro W base args ds gs before hval0 hW _ hsz0 hL _
  have hsz : (DataW.weightsEach Tryd.prog (Tryd.f5.params.toList ++ Rows.shaPiecesSpec.plain.varTypes Tryd.prog) (ds ++ gs)).all (· ≤ reachBytes) = true := hsz0
  clear hsz0
  have hval : ∀ (j : Nat) t v, Tryd.f5.params[j]? = some t → args[j]? = some v → Value.okWide Tryd.prog W .any base t v := hval0
  have hW' := hW
  obtain ⟨p, q, hA0, hV0, rfl, _, _⟩ := hW
  have hA : DataW.TrodAll enc Tryd.prog W 0 (fun _ => true) true Tryd.f5.params.toList args.toList ds p := hA0
  have hV : DataW.TrodVars enc Tryd.prog W (fun _ => true) [] gs q := hV0
  rw [Tryd.params5] at hA hval hsz
  obtain ⟨v0, v1, v2, d0, d1, d2, p0, p1, p2, rfl, rfl, rfl, h0, h1, h2⟩ := trodAll_three hA
  obtain ⟨i, rfl, rfl, rfl, hwi⟩ := open_int Tryd.underlying3 (hval 1 3 v1 rfl rfl) h1
  obtain ⟨k, rfl, rfl, rfl, hwk⟩ := open_int Tryd.underlying3 (hval 2 3 v2 rfl rfl) h2
  obtain ⟨rfl, rfl⟩ : gs = [] ∧ q = [] := by
    cases gs with
    | nil => exact ⟨rfl, hV⟩
    | cons g r => exact absurd hV (by intro h; cases h)
  have ht := tab_of_laid hL
  have e1 : Rows.shaPiecesSpec.fn H ([d0, .lit (.int .i64 i), .lit (.int .i64 k)] ++ []) = { results := [.lit (.bool true)], args := [d0, .lit (.int .i64 i), .lit (.int .i64 k)] } := by simp [Rows.shaPiecesSpec]
  have hlt : ∀ x ∈ (p0 ++ [] ++ [] ++ [] : List MemPlace), x.block < W.heap.size := fun x hx => hW'.lt x hx
  have fin : ∀ W', Below W.heap.size W W' → Rows.shaPiecesSpec.post enc Tryd.prog Tryd.f5 false true false false W #[v0, .int .i64 i, .int .i64 k] (.bool true) W' := fun W' hb => by
    refine ⟨_, _, _, [], p0 ++ ([] ++ []), [], hW', ?_, ?_, ?_, World.keptBut_mono (fun x hx => ⟨hx, ?_⟩) (hb.frame (· ∈ p0 ++ [] ++ [] ++ [])), fun h => by cases h⟩
    · rw [e1]; exact trodAll_mk1 (shut_bool Tryd.underlying4 true)
    · rw [e1]; exact trodAll_mk3 (trod_below_args h0 hb (fun x hx => hlt x (by simpa using hx)) (by kernel_rfl) (of_decide_eq_true (by kernel_rfl))) (shut_int Tryd.underlying3 hwi) (shut_int Tryd.underlying3 hwk)
    · rw [e1]; rfl
    · simpa using hx
  obtain ⟨a0, len, cap, rfl⟩ := okWide_slice Tryd.underlying22 (hval 0 22 v0 rfl rfl)
  obtain ⟨fuel, hf⟩ := id h0
  rcases open_ints Tryd.underlying22 Tryd.underlying5 Tryd.cells5 hf with ⟨hcs, hx⟩ | ⟨a, len', cap', zs, hcs, _, hl, hm, hz, hx, hcell, hwz⟩
  · simp [Value.cells] at hcs
    obtain ⟨rfl, rfl, rfl⟩ := hcs
    refine (pieces_nil take_any none i k W ht).mono fun e W' ⟨he, hb⟩ => ?_
    subst he
    exact ⟨_, rfl, fin W' hb⟩
  · simp [Value.cells] at hcs
    obtain ⟨rfl, rfl, rfl⟩ := hcs
    simp only [Prod.mk.injEq] at hx
    obtain ⟨rfl, rfl⟩ := hx
    simp only [if_true] at hz
    have hby : Sha.Byt (zs.take len) := fun x hx => by
      have h := hwz x (List.mem_of_mem_take hx)
      simp [Lit.wf, IntKind.min, IntKind.max, IntKind.signed, IntKind.bits] at h
      omega
    have hll : (zs.take len).length = len := by simp; omega
    have hcap : cap ≤ 140737488355328 := by
      have hs := sized_slice hsz (j := 0) (t := 22) rfl rfl Tryd.underlying22
      have hbe : Tryd.prog.bytesOf 5 = 1 := by kernel_rfl
      rw [hbe] at hs
      simp [lits] at hs
      have : reachBytes < 2 ^ 47 := reachBytes_lt
      omega
    by_cases hbig : 4096 < len
    · have hw := pieces_long take_any (zs.take len) (some a) cap i k W (by omega) (by omega) ht
      rw [hll] at hw
      refine hw.mono fun e W' ⟨he, hb⟩ => ?_
      subst he
      exact ⟨_, rfl, fin W' hb⟩
    · by_cases hc0 : cap = 0
      · subst hc0
        obtain rfl : len = 0 := by omega
        refine (pieces_nil take_any (some a) i k W ht).mono fun e W' ⟨he, hb⟩ => ?_
        subst he
        exact ⟨_, rfl, fin W' hb⟩
      · obtain ⟨ab, ao, spot⟩ := a
        have hspot : spot = none := by simpa [Addr.add] using World.cell?_spot (hcell 0 (by omega))
        subst hspot
        have hba : ∀ g, W.heap.size ≤ g → BytesAt W g (some ⟨ab, ao, none⟩) (zs.take len) := fun g hg => ⟨hby, fun h0 => ⟨ab, ao, rfl, by
          have h := World.block_lt_of_cell? W _ (hcell 0 (by omega))
          rw [Addr.add_mid] at h
          show ab ≠ g
          have h' : ab < W.heap.size := h
          omega, fun j hj => by
          rw [hll] at hj
          have h := hcell j (by omega)
          rw [Addr.add_mid] at h
          rw [h]
          congr 2
          simp [List.getD_eq_getElem?_getD, hj]⟩⟩
        have hw := pieces_some take_any (zs.take len) ab ao cap i k W (by omega) hba (by omega) hcap ht
        rw [hll] at hw
        refine hw.mono fun e W' ⟨he, hb⟩ => ?_
        subst he
        exact ⟨_, rfl, fin W' hb⟩

theorem pieces_row : Rows.ShaPiecesSaid :=
  OpenClaim.holds_of_wide 5 Tryd.f5 rfl rfl rfl rfl rfl rfl rfl ⟨rfl, rfl, rfl, rfl, rfl⟩ rfl rfl rfl rfl rfl (by kernel_rfl) Tryd.func5 (by kernel_rfl)
    (of_decide_eq_true (by kernel_rfl)) (by unfold Func.isWrapper; rw [if_neg (of_decide_eq_false (by kernel_rfl))]; exact ⟨rfl, rfl⟩)
    (fun os started H enc _ => pieces_lifted os started H enc)

theorem pieces_holds : Rows.ShaPiecesCardSaid :=
  Claim7.holds_tied_plain_at .later [] [.data] true (true, "725ef21dfb3b0a3d61dabc863f1b8c955c4022711114d02a822617fb108d6a6d") false
    pieces_row (fun _ h => by cases h) (by kernel_rfl) (fun _ h => by cases h) shaPieces_row_tie rfl ⟨rfl, rfl⟩ (by kernel_rfl) rfl
    (fun f fn hf hfn => by
      obtain rfl : f = 5 := Option.some.inj ((show Tryd.prog.funcNamed "rill/rilllaw01.ShaPieces" = some 5 by kernel_rfl).symm.trans hf) |>.symm
      obtain rfl : fn = Tryd.f5 := (Option.some.inj (Tryd.func5.symm.trans hfn)).symm
      exact ⟨by kernel_rfl, fun j t ht => by
        rw [Tryd.params5] at ht
        have h3 : t = 22 ∨ t = 3 := by
          rcases j with _ | _ | _ | j
          · left; simpa using ht.symm
          · right; simpa using ht.symm
          · right; simpa using ht.symm
          · simp at ht
        rcases h3 with rfl | rfl
        · exact (show Tryd.prog.wantsStandIn 22 = false by kernel_rfl)
        · exact (show Tryd.prog.wantsStandIn 3 = false by kernel_rfl)⟩)
    (by kernel_rfl)

end Go.Proofs.YtbncgojcabengaaDoor

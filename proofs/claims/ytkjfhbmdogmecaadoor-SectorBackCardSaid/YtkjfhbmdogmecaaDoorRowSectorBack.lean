/-
  For every input, in whatever memory and on every schedule, SectorBack returns true, and its arguments read afterwards as they read before: a sector that may be is read as it was, with a box and with names; one that may not be has no bytes. (keys and bytes of at most 2^12 each) Condition: the package-level table of constants holds at the call's start what its own initialiser lays (the card ties that to the program's text).
-/
import Derived.Test.YtkjfhbmdogmecaaDoorTie
import Derived.Test.YtkjfhbmdogmecaaDoorCards
import Derived.Test.YtkjfhbmdogmecaaDoorA6
import Derived.Test.YtkjfhbmdogmecaaDoorScRo
import Derived.Test.YtkjfhbmdogmecaaDoorScN
namespace Go.Proofs.YtkjfhbmdogmecaaDoor
open Go.ChangeShapes Go.WideShapes Go.RowKit

set_option maxRecDepth 100000 in
theorem back_lifted (os : Os) (started : os.Started) (H : Type) (enc : TypeId × Value → H) :
    ReturnsInHanded {} Tryd.checked os 3 .any (fun w args => (Rows.sectorBackSpec.pre enc Tryd.prog Tryd.f3 [] false w args ∧ laidMet Tryd.prog rowLaid1 w) ∧ sizedMet enc Tryd.prog Tryd.f3 (OpenSpec.ofChange Rows.sectorBackSpec) false w args)
      (Rows.sectorBackSpec.post enc Tryd.prog Tryd.f3 false true false false) := by
  refine returnsInHanded_of_change_and (C := Tryd.checked) (X := fun w _ => laidMet Tryd.prog rowLaid1 w) (fun _ _ _ hh h => h.of_heap hh) Tryd.own started (by kernel_rfl) Tryd.func3
    (ChangeSpec.witness_at (enc := enc) (C := Tryd.checked) (os := os) (X := fun w _ => laidMet Tryd.prog rowLaid1 w) false (laidWorldS os) #[.slice none 0 0, .agg #[.int .i64 0, .int .i64 0, .int .i64 0, .int .i64 0, .slice none 0 0]] 8 rfl (by kernel_rfl) (by kernel_rfl) (by kernel_rfl) (by kernel_rfl) (by kernel_rfl) (laidWorldS_met os _)) ?_
  intro W base args ds gs before hval0 hW _ _ hL _
  have hval : ∀ (j : Nat) t v, Tryd.f3.params[j]? = some t → args[j]? = some v → Value.okWide Tryd.prog W .any base t v := hval0
  have hW' := hW
  obtain ⟨p, q, hA0, hV0, rfl, _, _⟩ := hW
  have hA : DataW.TrodAll enc Tryd.prog W 0 (fun _ => true) true Tryd.f3.params.toList args.toList ds p := hA0
  have hV : DataW.TrodVars enc Tryd.prog W (fun _ => true) [] gs q := hV0
  rw [Tryd.params3] at hA hval
  obtain ⟨v0, v1, d0, d1, q0, q1, rfl, rfl, rfl, h0, h1⟩ := trodAll_two hA
  obtain ⟨rfl, rfl⟩ : gs = [] ∧ q = [] := by
    cases gs with
    | nil => exact ⟨rfl, hV⟩
    | cons g r => exact absurd hV (by intro h; cases h)
  have ht := tab_of_laid1 hL
  have e1 : Rows.sectorBackSpec.fn H ([d0, d1] ++ []) = { results := [.lit (.bool true)], args := [d0, d1] } := by simp [Rows.sectorBackSpec]
  have hlt : ∀ x ∈ (q0 ++ q1 ++ [] : List MemPlace), x.block < W.heap.size := fun x hx => hW'.lt x hx
  have fin : ∀ W', Below W.heap.size W W' → Rows.sectorBackSpec.post enc Tryd.prog Tryd.f3 false true false false W #[v0, v1] (.bool true) W' := fun W' hb => by
    refine ⟨_, _, _, [], q0 ++ (q1), [], hW', ?_, ?_, ?_, World.keptBut_mono (fun x hx => ⟨hx, ?_⟩) (hb.frame (· ∈ q0 ++ q1 ++ [])), fun h => by cases h⟩
    · rw [e1]; exact trodAll_mk1 (shut_bool Tryd.underlying4 true)
    · rw [e1]; exact trodAll_mk2 (trod_below_args h0 hb (fun x hx => hlt x (by simp [hx])) (by kernel_rfl) (of_decide_eq_true (by kernel_rfl))) (trod_below_args h1 hb (fun x hx => hlt x (by simp [hx])) (by kernel_rfl) (of_decide_eq_true (by kernel_rfl)))
    · rw [e1]; rfl
    · simpa using hx
  obtain ⟨L0, a0, cap0, rfl, hb0⟩ := open_bs (hval 0 22 v0 rfl rfl) h0
  obtain ⟨s1, a1, cap1, rfl, hb1⟩ := open_sec (hval 1 24 v1 rfl rfl) h1
  refine (back_any take_any L0 s1 a0 a1 _ _ cap0 cap1 rfl rfl W hb0 hb1 ht).mono fun e W' ⟨he, hb⟩ => ?_
  subst he
  exact ⟨_, rfl, fin W' hb⟩

theorem back_row : Rows.SectorBackSaid :=
  OpenClaim.holds_of_wide 3 Tryd.f3 rfl rfl rfl rfl rfl rfl rfl ⟨rfl, rfl, rfl, rfl, rfl⟩ rfl rfl rfl rfl rfl (by kernel_rfl) Tryd.func3 (by kernel_rfl)
    (of_decide_eq_true (by kernel_rfl)) (by unfold Func.isWrapper; rw [if_neg (of_decide_eq_false (by kernel_rfl))]; exact ⟨rfl, rfl⟩)
    (fun os started H enc _ => back_lifted os started H enc)

theorem back_holds : Rows.SectorBackCardSaid :=
  Claim7.holds_tied_plain_at .later [] [.data] true (true, "0c7e55e46b35a2e92a5924e17fcfe984d3d7db7983f57e23da153d4e376affb1") false
    back_row (fun _ h => by cases h) (by kernel_rfl) (fun _ h => by cases h) sectorBack_row_tie rfl ⟨rfl, rfl⟩ (by kernel_rfl) rfl
    (fun f fn hf hfn => by
      obtain rfl : f = 3 := Option.some.inj ((show Tryd.prog.funcNamed "rill/rilllaw11.SectorBack" = some 3 by kernel_rfl).symm.trans hf) |>.symm
      obtain rfl : fn = Tryd.f3 := (Option.some.inj (Tryd.func3.symm.trans hfn)).symm
      exact ⟨by kernel_rfl, fun j t ht => by
        rw [Tryd.params3] at ht
        have h3 : t = 22 ∨ t = 24 := by
          rcases j with _ | _ | j
          · left; simpa using ht.symm
          · right; simpa using ht.symm
          · simp at ht
        rcases h3 with rfl | rfl
        · exact (show Tryd.prog.wantsStandIn 22 = false by kernel_rfl)
        · exact (show Tryd.prog.wantsStandIn 24 = false by kernel_rfl)⟩)
    (by kernel_rfl)

end Go.Proofs.YtkjfhbmdogmecaaDoor

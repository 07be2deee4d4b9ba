/-
  For every input, in whatever memory and on every schedule, MacDerives returns true, and its arguments read afterwards as they read before: any label makes the key out of any key that the document says (at most 2^14 bytes in each), and what is handed in stays. Condition: the package-level tables of constants hold at the call's start what their own initialisers lay (the card ties that to the program's text).
-/
import Derived.Test.YtamdmkknaobgcaaDoorTie
import Derived.Test.YtamdmkknaobgcaaDoorCards
import Derived.Test.YtamdmkknaobgcaaDoorRowA
import Derived.Test.YtamdmkknaobgcaaDoorMacK
import Derived.ChangeMaps5
namespace Go.Proofs.YtamdmkknaobgcaaDoor
open Go.ChangeShapes Go.WideShapes Go.RowKit
open Go.ChangeMaps (open_string shut_string)

set_option maxRecDepth 100000 in
theorem derives_lifted (os : Os) (started : os.Started) (H : Type) (enc : TypeId × Value → H) :
    ReturnsInHanded {} Tryd.checked os 9 .any (fun w args => (Rows.macDerivesSpec.pre enc Tryd.prog Tryd.f9 [] false w args ∧ laidMet Tryd.prog rowLaid2 w) ∧ sizedMet enc Tryd.prog Tryd.f9 (OpenSpec.ofChange Rows.macDerivesSpec) false w args)
      (Rows.macDerivesSpec.post enc Tryd.prog Tryd.f9 false true false false) := by
  refine returnsInHanded_of_change_and (C := Tryd.checked) (X := fun w _ => laidMet Tryd.prog rowLaid2 w) (fun _ _ _ hh h => h.of_heap hh) Tryd.own started (by kernel_rfl) Tryd.func9
    (ChangeSpec.witness_at (enc := enc) (C := Tryd.checked) (os := os) (X := fun w _ => laidMet Tryd.prog rowLaid2 w) false (laidWorld os) #[.slice none 0 0, .string ⟨#[]⟩] 8 rfl (by kernel_rfl) (by kernel_rfl) (by kernel_rfl) (by kernel_rfl) (by kernel_rfl) (laidWorld_met2 os _)) ?_
  intro W base args ds gs before hval0 hW _ hsz0 hL _
  have hsz : (DataW.weightsEach Tryd.prog (Tryd.f9.params.toList ++ Rows.macDerivesSpec.plain.varTypes Tryd.prog) (ds ++ gs)).all (· ≤ reachBytes) = true := hsz0
  clear hsz0
  have hval : ∀ (j : Nat) t v, Tryd.f9.params[j]? = some t → args[j]? = some v → Value.okWide Tryd.prog W .any base t v := hval0
  have hW' := hW
  obtain ⟨p, q, hA0, hV0, rfl, _, _⟩ := hW
  have hA : DataW.TrodAll enc Tryd.prog W 0 (fun _ => true) true Tryd.f9.params.toList args.toList ds p := hA0
  have hV : DataW.TrodVars enc Tryd.prog W (fun _ => true) [] gs q := hV0
  rw [Tryd.params9] at hA hval hsz
  obtain ⟨v0, v1, d0, d1, q0, q1, rfl, rfl, rfl, h0, h1⟩ := trodAll_two hA
  obtain ⟨S1, rfl, rfl, rfl, hs1⟩ := open_string Tryd.underlying9 (hval 1 9 v1 rfl rfl) h1
  obtain ⟨rfl, rfl⟩ : gs = [] ∧ q = [] := by
    cases gs with
    | nil => exact ⟨rfl, hV⟩
    | cons g r => exact absurd hV (by intro h; cases h)
  obtain ⟨ht, htk⟩ := tab_of_laid2 hL
  have e1 : Rows.macDerivesSpec.fn H ([d0, .lit (.string S1.data.toList)] ++ []) = { results := [.lit (.bool true)], args := [d0, .lit (.string S1.data.toList)] } := by simp [Rows.macDerivesSpec]
  have hlt : ∀ x ∈ (q0 ++ [] ++ [] : List MemPlace), x.block < W.heap.size := fun x hx => hW'.lt x hx
  have fin : ∀ W', Below W.heap.size W W' → Rows.macDerivesSpec.post enc Tryd.prog Tryd.f9 false true false false W #[v0, .string S1] (.bool true) W' := fun W' hb => by
    refine ⟨_, _, _, [], q0 ++ ([]), [], hW', ?_, ?_, ?_, World.keptBut_mono (fun x hx => ⟨hx, ?_⟩) (hb.frame (· ∈ q0 ++ [] ++ [])), fun h => by cases h⟩
    · rw [e1]; exact trodAll_mk1 (shut_bool Tryd.underlying4 true)
    · rw [e1]; exact trodAll_mk2 (trod_below_args h0 hb (fun x hx => hlt x (by simp [hx])) (by kernel_rfl) (of_decide_eq_true (by kernel_rfl))) (shut_string Tryd.underlying9 hs1)
    · rw [e1]; rfl
    · simpa using hx
  obtain ⟨L0, a0, cap0, rfl, hb0, hc0, hd0⟩ := open_bytes (hval 0 22 v0 rfl rfl) h0
  have hcap0 := bytes_cap hsz (j := 0) rfl rfl hd0
  by_cases hbig : 16384 < L0.length ∨ 16384 < S1.size
  · refine (derives_long take_any a0 L0.length cap0 S1 W hbig ht).mono fun e W' ⟨he, hb⟩ => ?_
    subst he
    exact ⟨_, rfl, fin W' hb⟩
  · refine (derives_short take_any L0 S1 a0 _ cap0 rfl (by omega) (by omega) W hb0 hc0 (by omega) ht htk).mono fun e W' ⟨he, hb⟩ => ?_
    subst he
    exact ⟨_, rfl, fin W' hb⟩

theorem derives_row : Rows.MacDerivesSaid :=
  OpenClaim.holds_of_wide 9 Tryd.f9 rfl rfl rfl rfl rfl rfl rfl ⟨rfl, rfl, rfl, rfl, rfl⟩ rfl rfl rfl rfl rfl (by kernel_rfl) Tryd.func9 (by kernel_rfl)
    (of_decide_eq_true (by kernel_rfl)) (by unfold Func.isWrapper; rw [if_neg (of_decide_eq_false (by kernel_rfl))]; exact ⟨rfl, rfl⟩)
    (fun os started H enc _ => derives_lifted os started H enc)

theorem derives_holds : Rows.MacDerivesCardSaid :=
  Claim7.holds_tied_plain_at .later [] [.data, .data] true (true, "372bc1106b3f2712e583b1021d069decd6c2a54d4329a51eaf5cc818022b7eef") false
    derives_row (fun _ h => by cases h) (by kernel_rfl) (fun _ h => by cases h) macDerives_row_tie rfl ⟨rfl, rfl⟩ (by kernel_rfl) rfl
    (fun f fn hf hfn => by
      obtain rfl : f = 9 := Option.some.inj ((show Tryd.prog.funcNamed "rill/rilllaw02.MacDerives" = some 9 by kernel_rfl).symm.trans hf) |>.symm
      obtain rfl : fn = Tryd.f9 := (Option.some.inj (Tryd.func9.symm.trans hfn)).symm
      exact ⟨by kernel_rfl, fun j t ht => by
        rw [Tryd.params9] at ht
        have h3 : t = 22 ∨ t = 9 := by
          rcases j with _ | _ | j
          · left; simpa using ht.symm
          · right; simpa using ht.symm
          · simp at ht
        rcases h3 with rfl | rfl
        · exact (show Tryd.prog.wantsStandIn 22 = false by kernel_rfl)
        · exact (show Tryd.prog.wantsStandIn 9 = false by kernel_rfl)⟩)
    (by kernel_rfl)

end Go.Proofs.YtamdmkknaobgcaaDoor

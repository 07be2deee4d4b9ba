/-
  For every input, in whatever memory and on every schedule, MacSums returns true, and its arguments read afterwards as they read before: any bytes have the sum under any key that the document says (at most 2^14 bytes in each), and what is handed in stays. Condition: the package-level tables of constants hold at the call's start what their own initialisers lay (the card ties that to the program's text).
-/
import Derived.Test.YtamdmkknaobgcaaDoorTie
import Derived.Test.YtamdmkknaobgcaaDoorCards
import Derived.Test.YtamdmkknaobgcaaDoorRowA
import Derived.Test.YtamdmkknaobgcaaDoorMacI
namespace Go.Proofs.YtamdmkknaobgcaaDoor
open Go.ChangeShapes Go.WideShapes Go.RowKit

set_option maxRecDepth 100000 in
theorem sums_lifted (os : Os) (started : os.Started) (H : Type) (enc : TypeId × Value → H) :
    ReturnsInHanded {} Tryd.checked os 8 .any (fun w args => (Rows.macSumsSpec.pre enc Tryd.prog Tryd.f8 [] false w args ∧ laidMet Tryd.prog rowLaid2 w) ∧ sizedMet enc Tryd.prog Tryd.f8 (OpenSpec.ofChange Rows.macSumsSpec) false w args)
      (Rows.macSumsSpec.post enc Tryd.prog Tryd.f8 false true false false) := by
  refine returnsInHanded_of_change_and (C := Tryd.checked) (X := fun w _ => laidMet Tryd.prog rowLaid2 w) (fun _ _ _ hh h => h.of_heap hh) Tryd.own started (by kernel_rfl) Tryd.func8
    (ChangeSpec.witness_at (enc := enc) (C := Tryd.checked) (os := os) (X := fun w _ => laidMet Tryd.prog rowLaid2 w) false (laidWorld os) #[.slice none 0 0, .slice none 0 0] 8 rfl (by kernel_rfl) (by kernel_rfl) (by kernel_rfl) (by kernel_rfl) (by kernel_rfl) (laidWorld_met2 os _)) ?_
  intro W base args ds gs before hval0 hW _ hsz0 hL _
  have hsz : (DataW.weightsEach Tryd.prog (Tryd.f8.params.toList ++ Rows.macSumsSpec.plain.varTypes Tryd.prog) (ds ++ gs)).all (· ≤ reachBytes) = true := hsz0
  clear hsz0
  have hval : ∀ (j : Nat) t v, Tryd.f8.params[j]? = some t → args[j]? = some v → Value.okWide Tryd.prog W .any base t v := hval0
  have hW' := hW
  obtain ⟨p, q, hA0, hV0, rfl, _, _⟩ := hW
  have hA : DataW.TrodAll enc Tryd.prog W 0 (fun _ => true) true Tryd.f8.params.toList args.toList ds p := hA0
  have hV : DataW.TrodVars enc Tryd.prog W (fun _ => true) [] gs q := hV0
  rw [Tryd.params8] at hA hval hsz
  obtain ⟨v0, v1, d0, d1, q0, q1, rfl, rfl, rfl, h0, h1⟩ := trodAll_two hA
  obtain ⟨rfl, rfl⟩ : gs = [] ∧ q = [] := by
    cases gs with
    | nil => exact ⟨rfl, hV⟩
    | cons g r => exact absurd hV (by intro h; cases h)
  obtain ⟨ht, htk⟩ := tab_of_laid2 hL
  have e1 : Rows.macSumsSpec.fn H ([d0, d1] ++ []) = { results := [.lit (.bool true)], args := [d0, d1] } := by simp [Rows.macSumsSpec]
  have hlt : ∀ x ∈ (q0 ++ q1 ++ [] : List MemPlace), x.block < W.heap.size := fun x hx => hW'.lt x hx
  have fin : ∀ W', Below W.heap.size W W' → Rows.macSumsSpec.post enc Tryd.prog Tryd.f8 false true false false W #[v0, v1] (.bool true) W' := fun W' hb => by
    refine ⟨_, _, _, [], q0 ++ (q1), [], hW', ?_, ?_, ?_, World.keptBut_mono (fun x hx => ⟨hx, ?_⟩) (hb.frame (· ∈ q0 ++ q1 ++ [])), fun h => by cases h⟩
    · rw [e1]; exact trodAll_mk1 (shut_bool Tryd.underlying4 true)
    · rw [e1]; exact trodAll_mk2 (trod_below_args h0 hb (fun x hx => hlt x (by simp [hx])) (by kernel_rfl) (of_decide_eq_true (by kernel_rfl))) (trod_below_args h1 hb (fun x hx => hlt x (by simp [hx])) (by kernel_rfl) (of_decide_eq_true (by kernel_rfl)))
    · rw [e1]; rfl
    · simpa using hx
  obtain ⟨L0, a0, cap0, rfl, hb0, hc0, hd0⟩ := open_bytes (hval 0 22 v0 rfl rfl) h0
  have hcap0 := bytes_cap hsz (j := 0) rfl rfl hd0
  obtain ⟨L1, a1, cap1, rfl, hb1, hc1, hd1⟩ := open_bytes (hval 1 22 v1 rfl rfl) h1
  have hcap1 := bytes_cap hsz (j := 1) rfl rfl hd1
  by_cases hbig : 16384 < L0.length ∨ 16384 < L1.length
  · refine (sums_long take_any a0 a1 L0.length L1.length cap0 cap1 W hbig ht).mono fun e W' ⟨he, hb⟩ => ?_
    subst he
    exact ⟨_, rfl, fin W' hb⟩
  · refine (sums_short take_any L0 L1 a0 a1 _ _ cap0 cap1 rfl rfl (by omega) (by omega) W hb0 hb1 ht htk).mono fun e W' ⟨he, hb⟩ => ?_
    subst he
    exact ⟨_, rfl, fin W' hb⟩

theorem sums_row : Rows.MacSumsSaid :=
  OpenClaim.holds_of_wide 8 Tryd.f8 rfl rfl rfl rfl rfl rfl rfl ⟨rfl, rfl, rfl, rfl, rfl⟩ rfl rfl rfl rfl rfl (by kernel_rfl) Tryd.func8 (by kernel_rfl)
    (of_decide_eq_true (by kernel_rfl)) (by unfold Func.isWrapper; rw [if_neg (of_decide_eq_false (by kernel_rfl))]; exact ⟨rfl, rfl⟩)
    (fun os started H enc _ => sums_lifted os started H enc)

theorem sums_holds : Rows.MacSumsCardSaid :=
  Claim7.holds_tied_plain_at .later [] [.data, .data] true (true, "372bc1106b3f2712e583b1021d069decd6c2a54d4329a51eaf5cc818022b7eef") false
    sums_row (fun _ h => by cases h) (by kernel_rfl) (fun _ h => by cases h) macSums_row_tie rfl ⟨rfl, rfl⟩ (by kernel_rfl) rfl
    (fun f fn hf hfn => by
      obtain rfl : f = 8 := Option.some.inj ((show Tryd.prog.funcNamed "rill/rilllaw02.MacSums" = some 8 by kernel_rfl).symm.trans hf) |>.symm
      obtain rfl : fn = Tryd.f8 := (Option.some.inj (Tryd.func8.symm.trans hfn)).symm
      exact ⟨by kernel_rfl, fun j t ht => by
        rw [Tryd.params8] at ht
        have h3 : t = 22 := by
          rcases j with _ | _ | j
          · exact (by simpa using ht.symm)
          · exact (by simpa using ht.symm)
          · simp at ht
        rcases h3 with rfl
        · exact (show Tryd.prog.wantsStandIn 22 = false by kernel_rfl)⟩)
    (by kernel_rfl)

end Go.Proofs.YtamdmkknaobgcaaDoor

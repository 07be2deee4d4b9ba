/-
  For every input, in whatever memory and on every schedule, SectorPuts returns true, and its arguments read afterwards as they read before: any sector's bytes, and any bytes read as one, are what the reference says; what is handed in stays, what is handed out is new memory. (keys and bytes of at most 2^12 each) Condition: the package-level tables of constants hold at the call's start what their own initialisers lay (the card ties that to the program's text).
-/
import Derived.Test.YtkjfhbmdogmecaaGreatDoorTie
import Derived.Test.YtkjfhbmdogmecaaGreatDoorCards
import Derived.Test.YtkjfhbmdogmecaaGreatDoorA6
import Derived.Test.YtkjfhbmdogmecaaGreatDoorScRo
import Derived.Test.YtkjfhbmdogmecaaGreatDoorScW
namespace Go.Proofs.YtkjfhbmdogmecaaGreatDoor
open Go.ChangeShapes Go.WideShapes Go.RowKit

set_option maxRecDepth 100000 in
theorem puts_lifted (os : Os) (started : os.Started) (H : Type) (enc : TypeId × Value → H) :
    ReturnsInHanded {} Tryz.checked os 3 .any (fun w args => (Rows.sectorPutsSpec.pre enc Tryz.prog Tryz.f3 [] false w args ∧ laidMet Tryz.prog rowLaid2 w) ∧ sizedMet enc Tryz.prog Tryz.f3 (OpenSpec.ofChange Rows.sectorPutsSpec) false w args)
      (Rows.sectorPutsSpec.post enc Tryz.prog Tryz.f3 false true false false) := by
  refine returnsInHanded_of_change_and (C := Tryz.checked) (X := fun w _ => laidMet Tryz.prog rowLaid2 w) (fun _ _ _ hh h => h.of_heap hh) Tryz.own started (by kernel_rfl) Tryz.func3
    (ChangeSpec.witness_at (enc := enc) (C := Tryz.checked) (os := os) (X := fun w _ => laidMet Tryz.prog rowLaid2 w) false (laidWorld os) #[.slice none 0 0, .agg #[.int .i64 0, .int .i64 0, .int .i64 0, .int .i64 0, .slice none 0 0], .agg #[.int .i64 0, .int .i64 0], .slice none 0 0] 8 rfl (by kernel_rfl) (by kernel_rfl) (by kernel_rfl) (by kernel_rfl) (by kernel_rfl) (laidWorld_met2 os _)) ?_
  intro W base args ds gs before hval0 hW _ _ hL _
  have hval : ∀ (j : Nat) t v, Tryz.f3.params[j]? = some t → args[j]? = some v → Value.okWide Tryz.prog W .any base t v := hval0
  have hW' := hW
  obtain ⟨p, q, hA0, hV0, rfl, _, _⟩ := hW
  have hA : DataW.TrodAll enc Tryz.prog W 0 (fun _ => true) true Tryz.f3.params.toList args.toList ds p := hA0
  have hV : DataW.TrodVars enc Tryz.prog W (fun _ => true) [] gs q := hV0
  rw [Tryz.params3] at hA hval
  obtain ⟨v0, v1, v2, v3, d0, d1, d2, d3, q0, q1, q2, q3, rfl, rfl, rfl, h0, h1, h2, h3⟩ := trodAll_four hA
  obtain ⟨rfl, rfl⟩ : gs = [] ∧ q = [] := by
    cases gs with
    | nil => exact ⟨rfl, hV⟩
    | cons g r => exact absurd hV (by intro h; cases h)
  obtain ⟨ht, htk⟩ := tab_of_laid2 hL
  have e1 : Rows.sectorPutsSpec.fn H ([d0, d1, d2, d3] ++ []) = { results := [.lit (.bool true)], args := [d0, d1, d2, d3] } := by simp [Rows.sectorPutsSpec]
  have hlt : ∀ x ∈ (q0 ++ q1 ++ q2 ++ q3 ++ [] : List MemPlace), x.block < W.heap.size := fun x hx => hW'.lt x hx
  have fin : ∀ W', Below W.heap.size W W' → Rows.sectorPutsSpec.post enc Tryz.prog Tryz.f3 false true false false W #[v0, v1, v2, v3] (.bool true) W' := fun W' hb => by
    refine ⟨_, _, _, [], q0 ++ (q1 ++ (q2 ++ (q3))), [], hW', ?_, ?_, ?_, World.keptBut_mono (fun x hx => ⟨hx, ?_⟩) (hb.frame (· ∈ q0 ++ q1 ++ q2 ++ q3 ++ [])), fun h => by cases h⟩
    · rw [e1]; exact trodAll_mk1 (shut_bool Tryz.underlying4 true)
    · rw [e1]; exact trodAll_mk4 (trod_below_args h0 hb (fun x hx => hlt x (by simp [hx])) (by kernel_rfl) (of_decide_eq_true (by kernel_rfl))) (trod_below_args h1 hb (fun x hx => hlt x (by simp [hx])) (by kernel_rfl) (of_decide_eq_true (by kernel_rfl))) (trod_below_args h2 hb (fun x hx => hlt x (by simp [hx])) (by kernel_rfl) (of_decide_eq_true (by kernel_rfl))) (trod_below_args h3 hb (fun x hx => hlt x (by simp [hx])) (by kernel_rfl) (of_decide_eq_true (by kernel_rfl)))
    · rw [e1]; rfl
    · simpa using hx
  obtain ⟨L0, a0, cap0, rfl, hb0⟩ := open_bs (hval 0 22 v0 rfl rfl) h0
  obtain ⟨s1, a1, cap1, rfl, hb1⟩ := open_sec (hval 1 24 v1 rfl rfl) h1
  obtain ⟨k2, t2, rfl⟩ := open_ask (hval 2 26 v2 rfl rfl) h2
  obtain ⟨L3, a3, cap3, rfl, hb3⟩ := open_bs (hval 3 22 v3 rfl rfl) h3
  refine (puts_any take_any L0 s1 L3 k2 t2 a0 a1 a3 _ _ _ cap0 cap1 cap3 rfl rfl rfl W hb0 hb1 hb3 ht htk).mono fun e W' ⟨he, hb⟩ => ?_
  subst he
  exact ⟨_, rfl, fin W' hb⟩

theorem puts_row : Rows.SectorPutsSaid :=
  OpenClaim.holds_of_wide 3 Tryz.f3 rfl rfl rfl rfl rfl rfl rfl ⟨rfl, rfl, rfl, rfl, rfl⟩ rfl rfl rfl rfl rfl (by kernel_rfl) Tryz.func3 (by kernel_rfl)
    (of_decide_eq_true (by kernel_rfl)) (by unfold Func.isWrapper; rw [if_neg (of_decide_eq_false (by kernel_rfl))]; exact ⟨rfl, rfl⟩)
    (fun os started H enc _ => puts_lifted os started H enc)

theorem puts_holds : Rows.SectorPutsCardSaid :=
  Claim7.holds_tied_plain_at .later [] [.data, .data] true (true, "9876404d299d91f0d43822e946394030e2da80aec66786e161c9b1cedadbdb01") false
    puts_row (fun _ h => by cases h) (by kernel_rfl) (fun _ h => by cases h) sectorPuts_row_tie rfl ⟨rfl, rfl⟩ (by kernel_rfl) rfl
    (fun f fn hf hfn => by
      obtain rfl : f = 3 := Option.some.inj ((show Tryz.prog.funcNamed "rill/rilllaw11.SectorPuts" = some 3 by kernel_rfl).symm.trans hf) |>.symm
      obtain rfl : fn = Tryz.f3 := (Option.some.inj (Tryz.func3.symm.trans hfn)).symm
      exact ⟨by kernel_rfl, fun j t ht => by
        rw [Tryz.params3] at ht
        have h3 : t = 22 ∨ t = 24 ∨ t = 26 := by
          rcases j with _ | _ | _ | _ | j
          · left; simpa using ht.symm
          · right; left; simpa using ht.symm
          · right; right; simpa using ht.symm
          · left; simpa using ht.symm
          · simp at ht
        rcases h3 with rfl | rfl | rfl
        · exact (show Tryz.prog.wantsStandIn 22 = false by kernel_rfl)
        · exact (show Tryz.prog.wantsStandIn 24 = false by kernel_rfl)
        · exact (show Tryz.prog.wantsStandIn 26 = false by kernel_rfl)⟩)
    (by kernel_rfl)

end Go.Proofs.YtkjfhbmdogmecaaGreatDoor

/-
  For every input, in whatever memory and on every schedule, MacKeys returns true, and its arguments read afterwards as they read before: a key with noughts behind it, up to 64 bytes, is as the key, and a key of more than 64 bytes is as its digest (keys and texts of at most 2^14 bytes). Condition: the package-level table of constants holds at the call's start what its own initialiser lays (the card ties that to the program's text).
-/
import Derived.Test.YtamdmkknaobgcaaDoorTie
import Derived.Test.YtamdmkknaobgcaaDoorCards
import Derived.Test.YtamdmkknaobgcaaDoorRowA
import Derived.Test.YtamdmkknaobgcaaDoorMacF
namespace Go.Proofs.YtamdmkknaobgcaaDoor
open Go.ChangeShapes Go.WideShapes Go.RowKit

set_option maxRecDepth 100000 in
theorem keys_lifted (os : Os) (started : os.Started) (H : Type) (enc : TypeId × Value → H) :
    ReturnsInHanded {} Tryd.checked os 11 .any (fun w args => (Rows.macKeysSpec.pre enc Tryd.prog Tryd.f11 [] false w args ∧ laidMet Tryd.prog rowLaid1 w) ∧ sizedMet enc Tryd.prog Tryd.f11 (OpenSpec.ofChange Rows.macKeysSpec) false w args)
      (Rows.macKeysSpec.post enc Tryd.prog Tryd.f11 false true false false) := by
  refine returnsInHanded_of_change_and (C := Tryd.checked) (X := fun w _ => laidMet Tryd.prog rowLaid1 w) (fun _ _ _ hh h => h.of_heap hh) Tryd.own started (by kernel_rfl) Tryd.func11
    (ChangeSpec.witness_at (enc := enc) (C := Tryd.checked) (os := os) (X := fun w _ => laidMet Tryd.prog rowLaid1 w) false (laidWorld os) #[.slice none 0 0, .slice none 0 0, .int .i64 0] 8 rfl (by kernel_rfl) (by kernel_rfl) (by kernel_rfl) (by kernel_rfl) (by kernel_rfl) (laidWorld_met1 os _)) ?_
  intro W base args ds gs before hval0 hW _ hsz0 hL _
  have hsz : (DataW.weightsEach Tryd.prog (Tryd.f11.params.toList ++ Rows.macKeysSpec.plain.varTypes Tryd.prog) (ds ++ gs)).all (· ≤ reachBytes) = true := hsz0
  clear hsz0
  have hval : ∀ (j : Nat) t v, Tryd.f11.params[j]? = some t → args[j]? = some v → Value.okWide Tryd.prog W .any base t v := hval0
  have hW' := hW
  obtain ⟨p, q, hA0, hV0, rfl, _, _⟩ := hW
  have hA : DataW.TrodAll enc Tryd.prog W 0 (fun _ => true) true Tryd.f11.params.toList args.toList ds p := hA0
  have hV : DataW.TrodVars enc Tryd.prog W (fun _ => true) [] gs q := hV0
  rw [Tryd.params11] at hA hval hsz
  obtain ⟨v0, v1, v2, d0, d1, d2, q0, q1, q2, rfl, rfl, rfl, h0, h1, h2⟩ := trodAll_three hA
  obtain ⟨i2, rfl, rfl, rfl, hw2⟩ := open_int Tryd.underlying3 (hval 2 3 v2 rfl rfl) h2
  obtain ⟨rfl, rfl⟩ : gs = [] ∧ q = [] := by
    cases gs with
    | nil => exact ⟨rfl, hV⟩
    | cons g r => exact absurd hV (by intro h; cases h)
  have ht := tab_of_laid1 hL
  have e1 : Rows.macKeysSpec.fn H ([d0, d1, .lit (.int .i64 i2)] ++ []) = { results := [.lit (.bool true)], args := [d0, d1, .lit (.int .i64 i2)] } := by simp [Rows.macKeysSpec]
  have hlt : ∀ x ∈ (q0 ++ q1 ++ [] ++ [] : List MemPlace), x.block < W.heap.size := fun x hx => hW'.lt x hx
  have fin : ∀ W', Below W.heap.size W W' → Rows.macKeysSpec.post enc Tryd.prog Tryd.f11 false true false false W #[v0, v1, .int .i64 i2] (.bool true) W' := fun W' hb => by
    refine ⟨_, _, _, [], q0 ++ (q1 ++ ([])), [], hW', ?_, ?_, ?_, World.keptBut_mono (fun x hx => ⟨hx, ?_⟩) (hb.frame (· ∈ q0 ++ q1 ++ [] ++ [])), fun h => by cases h⟩
    · rw [e1]; exact trodAll_mk1 (shut_bool Tryd.underlying4 true)
    · rw [e1]; exact trodAll_mk3 (trod_below_args h0 hb (fun x hx => hlt x (by simp [hx])) (by kernel_rfl) (of_decide_eq_true (by kernel_rfl))) (trod_below_args h1 hb (fun x hx => hlt x (by simp [hx])) (by kernel_rfl) (of_decide_eq_true (by kernel_rfl))) (shut_int Tryd.underlying3 hw2)
    · rw [e1]; rfl
    · simpa using hx
  obtain ⟨L0, a0, cap0, rfl, hb0, hc0, hd0⟩ := open_bytes (hval 0 22 v0 rfl rfl) h0
  have hcap0 := bytes_cap hsz (j := 0) rfl rfl hd0
  obtain ⟨L1, a1, cap1, rfl, hb1, hc1, hd1⟩ := open_bytes (hval 1 22 v1 rfl rfl) h1
  have hcap1 := bytes_cap hsz (j := 1) rfl rfl hd1
  by_cases hbig : 16384 < L0.length ∨ 16384 < L1.length
  · refine (keys_long take_any a0 a1 L0.length L1.length cap0 cap1 i2 W hbig ht).mono fun e W' ⟨he, hb⟩ => ?_
    subst he
    exact ⟨_, rfl, fin W' hb⟩
  · by_cases h64 : 64 < L0.length
    · refine (keys_short_a take_any L0 L1 a0 a1 _ _ cap0 cap1 rfl rfl i2 W ⟨h64, by omega⟩ hb0 hb1 hc0 (by omega) hc1 (by omega) (by omega) ht).mono fun e W' ⟨he, hb⟩ => ?_
      subst he
      exact ⟨_, rfl, fin W' hb⟩
    · refine (keys_short_b take_any L0 L1 a0 a1 _ _ cap0 cap1 rfl rfl i2 W (by omega) hb0 hb1 hc0 (by omega) hc1 (by omega) (by omega) ht).mono fun e W' ⟨he, hb⟩ => ?_
      subst he
      exact ⟨_, rfl, fin W' hb⟩

theorem keys_row : Rows.MacKeysSaid :=
  OpenClaim.holds_of_wide 11 Tryd.f11 rfl rfl rfl rfl rfl rfl rfl ⟨rfl, rfl, rfl, rfl, rfl⟩ rfl rfl rfl rfl rfl (by kernel_rfl) Tryd.func11 (by kernel_rfl)
    (of_decide_eq_true (by kernel_rfl)) (by unfold Func.isWrapper; rw [if_neg (of_decide_eq_false (by kernel_rfl))]; exact ⟨rfl, rfl⟩)
    (fun os started H enc _ => keys_lifted os started H enc)

theorem keys_holds : Rows.MacKeysCardSaid :=
  Claim7.holds_tied_plain_at .later [] [.data] true (true, "372bc1106b3f2712e583b1021d069decd6c2a54d4329a51eaf5cc818022b7eef") false
    keys_row (fun _ h => by cases h) (by kernel_rfl) (fun _ h => by cases h) macKeys_row_tie rfl ⟨rfl, rfl⟩ (by kernel_rfl) rfl
    (fun f fn hf hfn => by
      obtain rfl : f = 11 := Option.some.inj ((show Tryd.prog.funcNamed "rill/rilllaw02.MacKeys" = some 11 by kernel_rfl).symm.trans hf) |>.symm
      obtain rfl : fn = Tryd.f11 := (Option.some.inj (Tryd.func11.symm.trans hfn)).symm
      exact ⟨by kernel_rfl, fun j t ht => by
        rw [Tryd.params11] at ht
        have h3 : t = 22 ∨ t = 3 := by
          rcases j with _ | _ | _ | j
          · left; simpa using ht.symm
          · left; simpa using ht.symm
          · right; simpa using ht.symm
          · simp at ht
        rcases h3 with rfl | rfl
        · exact (show Tryd.prog.wantsStandIn 22 = false by kernel_rfl)
        · exact (show Tryd.prog.wantsStandIn 3 = false by kernel_rfl)⟩)
    (by kernel_rfl)

end Go.Proofs.YtamdmkknaobgcaaDoor

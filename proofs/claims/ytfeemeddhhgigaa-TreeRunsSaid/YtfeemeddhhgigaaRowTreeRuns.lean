/-
  For every input, in whatever memory and on every schedule, TreeRuns returns true, and its arguments read afterwards as they read before: whatever is done with a tree, it answers, and is, what the reference says; what is told is new memory (at most 200 calls; beyond, the example). No condition.
-/
import Derived.Test.YtfeemeddhhgigaaTrRo
import Derived.Test.YtfeemeddhhgigaaTrRf2
namespace Go.Proofs.Ytfeemeddhhgigaa
open Go.ChangeShapes Go.WideShapes Go.RowKit

set_option maxRecDepth 100000 in
theorem runs_lifted (os : Os) (started : os.Started) (H : Type) (enc : TypeId × Value → H) :
    ReturnsInHanded {} Try.checked os 3 .any (Rows.treeRunsSpec.pre6 enc Try.prog Try.f3 Rows.treeRunsRow.domain false) (Rows.treeRunsSpec.post enc Try.prog Try.f3 false true false false) := by
  refine returnsInHanded_of_change_sized (C := Try.checked) Try.own started (by kernel_rfl) Try.func3
    (ChangeSpec.witness6 (enc := enc) (C := Try.checked) false ⟨#[], #[.slice none 0 0], []⟩ 8 (by kernel_rfl) (by kernel_rfl) (by kernel_rfl) (by kernel_rfl)) ?_
  intro W base args ds gs before hval0 hW _ _ _
  have hval : ∀ (j : Nat) t v, Try.f3.params[j]? = some t → args[j]? = some v → Value.okWide Try.prog W .any base t v := hval0
  have hW' := hW
  obtain ⟨p, q, hA0, hV, rfl, _, _⟩ := hW
  have hA : DataW.TrodAll enc Try.prog W 0 (fun _ => true) true Try.f3.params.toList args.toList ds p := hA0
  rw [Try.params3] at hA hval
  obtain ⟨v0, d0, rfl, rfl, h0⟩ := trodAll_one hA
  obtain ⟨rfl, rfl⟩ := trodVars_none hV
  have hlt : ∀ x ∈ (p ++ [] : List MemPlace), x.block < W.heap.size := fun x hx => hW'.lt x hx
  have e1 : Rows.treeRunsSpec.fn H ([d0] ++ []) = { results := [.lit (.bool true)], args := [d0] } := by simp [Rows.treeRunsSpec]
  have fin : ∀ W', Below W.heap.size W W' → Rows.treeRunsSpec.post enc Try.prog Try.f3 false true false false W #[v0] (.bool true) W' := fun W' hb => by
    refine ⟨_, _, _, [], p, [], hW', ?_, ?_, ?_, World.keptBut_mono (fun x hx => ⟨hx, ?_⟩) (hb.frame (· ∈ p ++ [])), fun h => by cases h⟩
    · rw [e1]; exact trodAll_mk1 (shut_bool Try.underlying4 true)
    · rw [e1]; exact trodAll_mk1 (trod_below_args h0 hb (fun x hx => hlt x (by simp [hx])) (by kernel_rfl) (of_decide_eq_true (by kernel_rfl)))
    · rw [e1]; rfl
    · simpa using hx
  obtain ⟨L0, a0, cap0, rfl, hb0⟩ := open_ops (hval 0 22 v0 rfl rfl) h0
  refine (runs_any L0 a0 _ cap0 rfl W hb0).mono fun e W' ⟨he, hbh⟩ => ?_
  have hb := hbh.out
  subst he
  exact ⟨_, rfl, fin W' hb⟩

theorem runs_holds : Rows.TreeRunsSaid :=
  OpenClaim.holds_of_wide 3 Try.f3 rfl rfl rfl rfl rfl rfl rfl ⟨rfl, rfl, rfl, rfl, rfl⟩ rfl rfl rfl rfl rfl (by kernel_rfl) Try.func3 (by kernel_rfl)
    (of_decide_eq_true (by kernel_rfl)) (by unfold Func.isWrapper; rw [if_neg (of_decide_eq_false (by kernel_rfl))]; exact ⟨rfl, rfl⟩)
    (fun os started H enc _ => runs_lifted os started H enc)
end Go.Proofs.Ytfeemeddhhgigaa

/-
  For every input, in whatever memory and on every schedule, TreeBack returns true, and its arguments read afterwards as they read before: if all dirty nodes are saved in their order, none is dirty; and a new tree that loads the root, and each leaf that is there, is the same (at most 200 calls ahead; beyond, the example). No condition.
-/
import Derived.Test.YtfeemeddhhgigaaTrRo
import Derived.Test.YtfeemeddhhgigaaTrRe
namespace Go.Proofs.Ytfeemeddhhgigaa
open Go.ChangeShapes Go.WideShapes Go.RowKit

set_option maxRecDepth 100000 in
theorem back_lifted (os : Os) (started : os.Started) (H : Type) (enc : TypeId × Value → H) :
    ReturnsInHanded {} Try.checked os 6 .any (Rows.treeBackSpec.pre6 enc Try.prog Try.f6 Rows.treeBackRow.domain false) (Rows.treeBackSpec.post enc Try.prog Try.f6 false true false false) := by
  refine returnsInHanded_of_change_sized (C := Try.checked) Try.own started (by kernel_rfl) Try.func6
    (ChangeSpec.witness6 (enc := enc) (C := Try.checked) false ⟨#[], #[.slice none 0 0, .int .i64 0], []⟩ 8 (by kernel_rfl) (by kernel_rfl) (by kernel_rfl) (by kernel_rfl)) ?_
  intro W base args ds gs before hval0 hW _ _ _
  have hval : ∀ (j : Nat) t v, Try.f6.params[j]? = some t → args[j]? = some v → Value.okWide Try.prog W .any base t v := hval0
  have hW' := hW
  obtain ⟨p, q, hA0, hV, rfl, _, _⟩ := hW
  have hA : DataW.TrodAll enc Try.prog W 0 (fun _ => true) true Try.f6.params.toList args.toList ds p := hA0
  rw [Try.params6] at hA hval
  obtain ⟨v0, v1, d0, d1, q0, q1, rfl, rfl, rfl, h0, h1⟩ := trodAll_two hA
  obtain ⟨rfl, rfl⟩ := trodVars_none hV
  obtain ⟨i1, rfl, rfl, rfl, hw1⟩ := open_int Try.underlying3 (hval 1 3 v1 rfl rfl) h1
  have hlt : ∀ x ∈ (q0 ++ [] ++ [] : List MemPlace), x.block < W.heap.size := fun x hx => hW'.lt x hx
  have e1 : Rows.treeBackSpec.fn H ([d0, .lit (.int .i64 i1)] ++ []) = { results := [.lit (.bool true)], args := [d0, .lit (.int .i64 i1)] } := by simp [Rows.treeBackSpec]
  have fin : ∀ W', Below W.heap.size W W' → Rows.treeBackSpec.post enc Try.prog Try.f6 false true false false W #[v0, .int .i64 i1] (.bool true) W' := fun W' hb => by
    refine ⟨_, _, _, [], q0 ++ ([]), [], hW', ?_, ?_, ?_, World.keptBut_mono (fun x hx => ⟨hx, ?_⟩) (hb.frame (· ∈ q0 ++ [] ++ [])), fun h => by cases h⟩
    · rw [e1]; exact trodAll_mk1 (shut_bool Try.underlying4 true)
    · rw [e1]; exact trodAll_mk2 (trod_below_args h0 hb (fun x hx => hlt x (by simp [hx])) (by kernel_rfl) (of_decide_eq_true (by kernel_rfl))) (shut_int Try.underlying3 hw1)
    · rw [e1]; rfl
    · simpa using hx
  obtain ⟨L0, a0, cap0, rfl, hb0⟩ := open_ops (hval 0 22 v0 rfl rfl) h0
  refine (back_any L0 a0 _ cap0 rfl W hb0 i1 (in64_wf hw1)).mono fun e W' ⟨he, hbh⟩ => ?_
  have hb := hbh.out
  subst he
  exact ⟨_, rfl, fin W' hb⟩

theorem back_holds : Rows.TreeBackSaid :=
  OpenClaim.holds_of_wide 6 Try.f6 rfl rfl rfl rfl rfl rfl rfl ⟨rfl, rfl, rfl, rfl, rfl⟩ rfl rfl rfl rfl rfl (by kernel_rfl) Try.func6 (by kernel_rfl)
    (of_decide_eq_true (by kernel_rfl)) (by unfold Func.isWrapper; rw [if_neg (of_decide_eq_false (by kernel_rfl))]; exact ⟨rfl, rfl⟩)
    (fun os started H enc _ => back_lifted os started H enc)
end Go.Proofs.Ytfeemeddhhgigaa

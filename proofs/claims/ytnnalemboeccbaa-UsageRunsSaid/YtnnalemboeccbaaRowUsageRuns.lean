/-
  For every input, in whatever memory and on every schedule, UsageRuns returns true, and its arguments read afterwards as they read before: whatever is done with a table, it answers, and has, what the reference says; what is told is new memory (at most 300 calls; beyond, the example). No condition.
-/
import Derived.Test.YtnnalemboeccbaaUsRo
import Derived.Test.YtnnalemboeccbaaUsR
namespace Go.Proofs.Ytnnalemboeccbaa
open Go.ChangeShapes Go.WideShapes Go.RowKit

set_option maxRecDepth 100000 in
theorem runs_lifted (os : Os) (started : os.Started) (H : Type) (enc : TypeId × Value → H) :
    ReturnsInHanded {} Try.checked os 3 .any (Rows.usageRunsSpec.pre6 enc Try.prog Try.f3 Rows.usageRunsRow.domain false) (Rows.usageRunsSpec.post enc Try.prog Try.f3 false true false false) := by
  refine returnsInHanded_of_change_sized (C := Try.checked) Try.own started (by kernel_rfl) Try.func3
    (ChangeSpec.witness6 (enc := enc) (C := Try.checked) false ⟨#[], #[.int .i64 0, .slice none 0 0], []⟩ 8 (by kernel_rfl) (by kernel_rfl) (by kernel_rfl) (by kernel_rfl)) ?_
  intro W base args ds gs before hval0 hW _ _ _
  have hval : ∀ (j : Nat) t v, Try.f3.params[j]? = some t → args[j]? = some v → Value.okWide Try.prog W .any base t v := hval0
  have hW' := hW
  obtain ⟨p, q, hA0, hV, rfl, _, _⟩ := hW
  have hA : DataW.TrodAll enc Try.prog W 0 (fun _ => true) true Try.f3.params.toList args.toList ds p := hA0
  rw [Try.params3] at hA hval
  obtain ⟨v0, v1, d0, d1, q0, q1, rfl, rfl, rfl, h0, h1⟩ := trodAll_two hA
  obtain ⟨rfl, rfl⟩ := trodVars_none hV
  obtain ⟨i0, rfl, rfl, rfl, hw0⟩ := open_int Try.underlying3 (hval 0 3 v0 rfl rfl) h0
  have hlt : ∀ x ∈ ([] ++ q1 ++ [] : List MemPlace), x.block < W.heap.size := fun x hx => hW'.lt x hx
  have e1 : Rows.usageRunsSpec.fn H ([.lit (.int .i64 i0), d1] ++ []) = { results := [.lit (.bool true)], args := [.lit (.int .i64 i0), d1] } := by simp [Rows.usageRunsSpec]
  have fin : ∀ W', Below W.heap.size W W' → Rows.usageRunsSpec.post enc Try.prog Try.f3 false true false false W #[.int .i64 i0, v1] (.bool true) W' := fun W' hb => by
    refine ⟨_, _, _, [], [] ++ (q1), [], hW', ?_, ?_, ?_, World.keptBut_mono (fun x hx => ⟨hx, ?_⟩) (hb.frame (· ∈ [] ++ q1 ++ [])), fun h => by cases h⟩
    · rw [e1]; exact trodAll_mk1 (shut_bool Try.underlying4 true)
    · rw [e1]; exact trodAll_mk2 (shut_int Try.underlying3 hw0) (trod_below_args h1 hb (fun x hx => hlt x (by simp [hx])) (by kernel_rfl) (of_decide_eq_true (by kernel_rfl)))
    · rw [e1]; rfl
    · simpa using hx
  obtain ⟨L1, a1, cap1, rfl, hb1⟩ := open_ops (hval 1 22 v1 rfl rfl) h1
  refine (runs_any i0 L1 a1 _ cap1 rfl W hb1).mono fun e W' ⟨he, hb⟩ => ?_
  subst he
  exact ⟨_, rfl, fin W' hb⟩

theorem runs_holds : Rows.UsageRunsSaid :=
  OpenClaim.holds_of_wide 3 Try.f3 rfl rfl rfl rfl rfl rfl rfl ⟨rfl, rfl, rfl, rfl, rfl⟩ rfl rfl rfl rfl rfl (by kernel_rfl) Try.func3 (by kernel_rfl)
    (of_decide_eq_true (by kernel_rfl)) (by unfold Func.isWrapper; rw [if_neg (of_decide_eq_false (by kernel_rfl))]; exact ⟨rfl, rfl⟩)
    (fun os started H enc _ => runs_lifted os started H enc)
end Go.Proofs.Ytnnalemboeccbaa

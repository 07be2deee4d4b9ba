/-
  For every input, in whatever memory and on every schedule, CountOrders returns true, and its arguments read afterwards as they read before: level and tries of a value are what it was made of, if that was in its place; of two values the one with the greater level is the greater one; with one try more it is one more. No condition.
-/
import Derived.Test.YtglfjjmbadffmaaCoRo
import Derived.Test.YtglfjjmbadffmaaCoE
namespace Go.Proofs.Ytglfjjmbadffmaa
open Go.ChangeShapes Go.WideShapes Go.RowKit

set_option maxRecDepth 100000 in
theorem orders_lifted (os : Os) (started : os.Started) (H : Type) (enc : TypeId × Value → H) :
    ReturnsInHanded {} Try.checked os 6 .any (Rows.countOrdersSpec.pre6 enc Try.prog Try.f6 Rows.countOrdersRow.domain false) (Rows.countOrdersSpec.post enc Try.prog Try.f6 false true false false) := by
  refine returnsInHanded_of_change_sized (C := Try.checked) Try.own started (by kernel_rfl) Try.func6
    (ChangeSpec.witness6 (enc := enc) (C := Try.checked) false ⟨#[], #[.int .i64 0, .int .i64 0, .int .i64 0, .int .i64 0], []⟩ 8 (by kernel_rfl) (by kernel_rfl) (by kernel_rfl) (by kernel_rfl)) ?_
  intro W base args ds gs before hval0 hW _ _ _
  have hval : ∀ (j : Nat) t v, Try.f6.params[j]? = some t → args[j]? = some v → Value.okWide Try.prog W .any base t v := hval0
  have hW' := hW
  obtain ⟨p, q, hA0, hV, rfl, _, _⟩ := hW
  have hA : DataW.TrodAll enc Try.prog W 0 (fun _ => true) true Try.f6.params.toList args.toList ds p := hA0
  rw [Try.params6] at hA hval
  obtain ⟨v0, v1, v2, v3, d0, d1, d2, d3, q0, q1, q2, q3, rfl, rfl, rfl, h0, h1, h2, h3⟩ := trodAll_four hA
  obtain ⟨rfl, rfl⟩ := trodVars_none hV
  obtain ⟨i0, rfl, rfl, rfl, hw0⟩ := open_int Try.underlying3 (hval 0 3 v0 rfl rfl) h0
  obtain ⟨i1, rfl, rfl, rfl, hw1⟩ := open_int Try.underlying3 (hval 1 3 v1 rfl rfl) h1
  obtain ⟨i2, rfl, rfl, rfl, hw2⟩ := open_int Try.underlying3 (hval 2 3 v2 rfl rfl) h2
  obtain ⟨i3, rfl, rfl, rfl, hw3⟩ := open_int Try.underlying3 (hval 3 3 v3 rfl rfl) h3
  have hlt : ∀ x ∈ ([] ++ [] ++ [] ++ [] ++ [] : List MemPlace), x.block < W.heap.size := fun x hx => hW'.lt x hx
  have e1 : Rows.countOrdersSpec.fn H ([.lit (.int .i64 i0), .lit (.int .i64 i1), .lit (.int .i64 i2), .lit (.int .i64 i3)] ++ []) = { results := [.lit (.bool true)], args := [.lit (.int .i64 i0), .lit (.int .i64 i1), .lit (.int .i64 i2), .lit (.int .i64 i3)] } := by simp [Rows.countOrdersSpec]
  have fin : ∀ W', Below W.heap.size W W' → Rows.countOrdersSpec.post enc Try.prog Try.f6 false true false false W #[.int .i64 i0, .int .i64 i1, .int .i64 i2, .int .i64 i3] (.bool true) W' := fun W' hb => by
    refine ⟨_, _, _, [], [] ++ ([] ++ ([] ++ ([]))), [], hW', ?_, ?_, ?_, World.keptBut_mono (fun x hx => ⟨hx, ?_⟩) (hb.frame (· ∈ [] ++ [] ++ [] ++ [] ++ [])), fun h => by cases h⟩
    · rw [e1]; exact trodAll_mk1 (shut_bool Try.underlying4 true)
    · rw [e1]; exact trodAll_mk4 (shut_int Try.underlying3 hw0) (shut_int Try.underlying3 hw1) (shut_int Try.underlying3 hw2) (shut_int Try.underlying3 hw3)
    · rw [e1]; rfl
    · simp at hx
  refine (orders_any i0 i1 i2 i3 W).mono fun e W' ⟨he, hb⟩ => ?_
  subst he
  exact ⟨_, rfl, fin W' hb⟩

theorem orders_holds : Rows.CountOrdersSaid :=
  OpenClaim.holds_of_wide 6 Try.f6 rfl rfl rfl rfl rfl rfl rfl ⟨rfl, rfl, rfl, rfl, rfl⟩ rfl rfl rfl rfl rfl (by kernel_rfl) Try.func6 (by kernel_rfl)
    (of_decide_eq_true (by kernel_rfl)) (by unfold Func.isWrapper; rw [if_neg (of_decide_eq_false (by kernel_rfl))]; exact ⟨rfl, rfl⟩)
    (fun os started H enc _ => orders_lifted os started H enc)
end Go.Proofs.Ytglfjjmbadffmaa

/-
  For every input, in whatever memory and on every schedule, RegionTwo returns true, and its arguments read afterwards as they read before: of records that are written one behind the other, with a Gen that rises by one, the last two are there, and no other one, also behind a Sync and a Crash (over names; 1 to 20 records; beyond 100 stamps, the example). No condition.
-/
import Derived.Test.YtjnepegohfhgiaaRgRo
import Derived.Test.YtjnepegohfhgiaaRgRn
import Derived.Test.YtjnepegohfhgiaaRgX
namespace Go.Proofs.Ytjnepegohfhgiaa
open Go.ChangeShapes Go.WideShapes Go.RowKit

set_option maxRecDepth 100000 in
theorem two_lifted (os : Os) (started : os.Started) (H : Type) (enc : TypeId × Value → H) :
    ReturnsInHanded {} Try.checked os 10 .any (Rows.regionTwoSpec.pre6 enc Try.prog Try.f10 Rows.regionTwoRow.domain false) (Rows.regionTwoSpec.post enc Try.prog Try.f10 false true false false) := by
  refine returnsInHanded_of_change_sized (C := Try.checked) Try.own started (by kernel_rfl) Try.func10
    (ChangeSpec.witness6 (enc := enc) (C := Try.checked) false ⟨#[], #[.int .i64 0, .int .i64 0, .slice none 0 0], []⟩ 8 (by kernel_rfl) (by kernel_rfl) (by kernel_rfl) (by kernel_rfl)) ?_
  intro W base args ds gs before hval0 hW _ _ _
  have hval : ∀ (j : Nat) t v, Try.f10.params[j]? = some t → args[j]? = some v → Value.okWide Try.prog W .any base t v := hval0
  have hW' := hW
  obtain ⟨p, q, hA0, hV, rfl, _, _⟩ := hW
  have hA : DataW.TrodAll enc Try.prog W 0 (fun _ => true) true Try.f10.params.toList args.toList ds p := hA0
  rw [Try.params10] at hA hval
  obtain ⟨v0, v1, v2, d0, d1, d2, q0, q1, q2, rfl, rfl, rfl, h0, h1, h2⟩ := trodAll_three hA
  obtain ⟨rfl, rfl⟩ := trodVars_none hV
  obtain ⟨i0, rfl, rfl, rfl, hw0⟩ := open_int Try.underlying3 (hval 0 3 v0 rfl rfl) h0
  obtain ⟨i1, rfl, rfl, rfl, hw1⟩ := open_int Try.underlying3 (hval 1 3 v1 rfl rfl) h1
  have hlt : ∀ x ∈ ([] ++ [] ++ q2 ++ [] : List MemPlace), x.block < W.heap.size := fun x hx => hW'.lt x hx
  have e1 : Rows.regionTwoSpec.fn H ([.lit (.int .i64 i0), .lit (.int .i64 i1), d2] ++ []) = { results := [.lit (.bool true)], args := [.lit (.int .i64 i0), .lit (.int .i64 i1), d2] } := by simp [Rows.regionTwoSpec]
  have fin : ∀ W', Below W.heap.size W W' → Rows.regionTwoSpec.post enc Try.prog Try.f10 false true false false W #[.int .i64 i0, .int .i64 i1, v2] (.bool true) W' := fun W' hb => by
    refine ⟨_, _, _, [], [] ++ ([] ++ (q2)), [], hW', ?_, ?_, ?_, World.keptBut_mono (fun x hx => ⟨hx, ?_⟩) (hb.frame (· ∈ [] ++ [] ++ q2 ++ [])), fun h => by cases h⟩
    · rw [e1]; exact trodAll_mk1 (shut_bool Try.underlying4 true)
    · rw [e1]; exact trodAll_mk3 (shut_int Try.underlying3 hw0) (shut_int Try.underlying3 hw1) (trod_below_args h2 hb (fun x hx => hlt x (by simp [hx])) (by kernel_rfl) (of_decide_eq_true (by kernel_rfl)))
    · rw [e1]; rfl
    · simpa using hx
  obtain ⟨L2, a2, cap2, rfl, hb2⟩ := open_nums (hval 2 60 v2 rfl rfl) h2
  refine (two_any i0 i1 L2 a2 _ cap2 rfl W hb2).mono fun e W' ⟨he, hb⟩ => ?_
  subst he
  exact ⟨_, rfl, fin W' hb⟩

theorem two_holds : Rows.RegionTwoSaid :=
  OpenClaim.holds_of_wide 10 Try.f10 rfl rfl rfl rfl rfl rfl rfl ⟨rfl, rfl, rfl, rfl, rfl⟩ rfl rfl rfl rfl rfl (by kernel_rfl) Try.func10 (by kernel_rfl)
    (of_decide_eq_true (by kernel_rfl)) (by unfold Func.isWrapper; rw [if_neg (of_decide_eq_false (by kernel_rfl))]; exact ⟨rfl, rfl⟩)
    (fun os started H enc _ => two_lifted os started H enc)
end Go.Proofs.Ytjnepegohfhgiaa

/-
  For every input, in whatever memory and on every schedule, TreeEither returns true, and its arguments read afterwards as they read before: two blocks that are not the same are set, or taken away, in either order: the tree is the same, and as many refs are dead (at most 200 calls ahead; beyond, the example). No condition.
-/
import Derived.Test.YtfeemeddhhgigaaTrRo
import Derived.Test.YtfeemeddhhgigaaTrRb
namespace Go.Proofs.Ytfeemeddhhgigaa
open Go.ChangeShapes Go.WideShapes Go.RowKit

set_option maxRecDepth 100000 in
theorem either_lifted (os : Os) (started : os.Started) (H : Type) (enc : TypeId × Value → H) :
    ReturnsInHanded {} Try.checked os 8 .any (Rows.treeEitherSpec.pre6 enc Try.prog Try.f8 Rows.treeEitherRow.domain false) (Rows.treeEitherSpec.post enc Try.prog Try.f8 false true false false) := by
  refine returnsInHanded_of_change_sized (C := Try.checked) Try.own started (by kernel_rfl) Try.func8
    (ChangeSpec.witness6 (enc := enc) (C := Try.checked) false ⟨#[], #[.slice none 0 0, .int .i64 0, .int .i64 0, .agg #[.int .i64 0, .int .u8 0, .int .u8 0, .int .u8 0, .int .u8 0, .int .u8 0, .int .u8 0, .int .u8 0, .int .u8 0, .int .u8 0, .int .u8 0, .int .u8 0, .int .u8 0, .int .u8 0, .int .u8 0, .int .u8 0, .int .u8 0, .int .u8 0, .int .u8 0, .int .u8 0, .int .u8 0, .int .u8 0, .int .u8 0, .int .u8 0, .int .u8 0, .int .u8 0, .int .u8 0, .int .u8 0, .int .u8 0, .int .u8 0, .int .u8 0, .int .u8 0, .int .u8 0], .agg #[.int .i64 0, .int .u8 0, .int .u8 0, .int .u8 0, .int .u8 0, .int .u8 0, .int .u8 0, .int .u8 0, .int .u8 0, .int .u8 0, .int .u8 0, .int .u8 0, .int .u8 0, .int .u8 0, .int .u8 0, .int .u8 0, .int .u8 0, .int .u8 0, .int .u8 0, .int .u8 0, .int .u8 0, .int .u8 0, .int .u8 0, .int .u8 0, .int .u8 0, .int .u8 0, .int .u8 0, .int .u8 0, .int .u8 0, .int .u8 0, .int .u8 0, .int .u8 0, .int .u8 0]], []⟩ 8 (by kernel_rfl) (by kernel_rfl) (by kernel_rfl) (by kernel_rfl)) ?_
  intro W base args ds gs before hval0 hW _ _ _
  have hval : ∀ (j : Nat) t v, Try.f8.params[j]? = some t → args[j]? = some v → Value.okWide Try.prog W .any base t v := hval0
  have hW' := hW
  obtain ⟨p, q, hA0, hV, rfl, _, _⟩ := hW
  have hA : DataW.TrodAll enc Try.prog W 0 (fun _ => true) true Try.f8.params.toList args.toList ds p := hA0
  rw [Try.params8] at hA hval
  obtain ⟨v0, v1, v2, v3, v4, d0, d1, d2, d3, d4, q0, q1, q2, q3, q4, rfl, rfl, rfl, h0, h1, h2, h3, h4⟩ := trodAll_five hA
  obtain ⟨rfl, rfl⟩ := trodVars_none hV
  obtain ⟨i1, rfl, rfl, rfl, hw1⟩ := open_int Try.underlying3 (hval 1 3 v1 rfl rfl) h1
  obtain ⟨i2, rfl, rfl, rfl, hw2⟩ := open_int Try.underlying3 (hval 2 3 v2 rfl rfl) h2
  have hlt : ∀ x ∈ (q0 ++ [] ++ [] ++ q3 ++ q4 ++ [] : List MemPlace), x.block < W.heap.size := fun x hx => hW'.lt x hx
  have e1 : Rows.treeEitherSpec.fn H ([d0, .lit (.int .i64 i1), .lit (.int .i64 i2), d3, d4] ++ []) = { results := [.lit (.bool true)], args := [d0, .lit (.int .i64 i1), .lit (.int .i64 i2), d3, d4] } := by simp [Rows.treeEitherSpec]
  have fin : ∀ W', Below W.heap.size W W' → Rows.treeEitherSpec.post enc Try.prog Try.f8 false true false false W #[v0, .int .i64 i1, .int .i64 i2, v3, v4] (.bool true) W' := fun W' hb => by
    refine ⟨_, _, _, [], q0 ++ ([] ++ ([] ++ (q3 ++ (q4)))), [], hW', ?_, ?_, ?_, World.keptBut_mono (fun x hx => ⟨hx, ?_⟩) (hb.frame (· ∈ q0 ++ [] ++ [] ++ q3 ++ q4 ++ [])), fun h => by cases h⟩
    · rw [e1]; exact trodAll_mk1 (shut_bool Try.underlying4 true)
    · rw [e1]; exact trodAll_mk5 (trod_below_args h0 hb (fun x hx => hlt x (by simp [hx])) (by kernel_rfl) (of_decide_eq_true (by kernel_rfl))) (shut_int Try.underlying3 hw1) (shut_int Try.underlying3 hw2) (trod_below_args h3 hb (fun x hx => hlt x (by simp [hx])) (by kernel_rfl) (of_decide_eq_true (by kernel_rfl))) (trod_below_args h4 hb (fun x hx => hlt x (by simp [hx])) (by kernel_rfl) (of_decide_eq_true (by kernel_rfl)))
    · rw [e1]; rfl
    · simpa using hx
  obtain ⟨L0, a0, cap0, rfl, hb0⟩ := open_ops (hval 0 22 v0 rfl rfl) h0
  obtain ⟨R3, rfl, hR3⟩ := open_ref (hval 3 33 v3 rfl rfl) h3
  obtain ⟨R4, rfl, hR4⟩ := open_ref (hval 4 33 v4 rfl rfl) h4
  refine (either_any L0 a0 _ cap0 rfl W hb0 i1 i2 R3 R4 hR3 hR4).mono fun e W' ⟨he, hbh⟩ => ?_
  have hb := hbh.out
  subst he
  exact ⟨_, rfl, fin W' hb⟩

theorem either_holds : Rows.TreeEitherSaid :=
  OpenClaim.holds_of_wide 8 Try.f8 rfl rfl rfl rfl rfl rfl rfl ⟨rfl, rfl, rfl, rfl, rfl⟩ rfl rfl rfl rfl rfl (by kernel_rfl) Try.func8 (by kernel_rfl)
    (of_decide_eq_true (by kernel_rfl)) (by unfold Func.isWrapper; rw [if_neg (of_decide_eq_false (by kernel_rfl))]; exact ⟨rfl, rfl⟩)
    (fun os started H enc _ => either_lifted os started H enc)
end Go.Proofs.Ytfeemeddhhgigaa

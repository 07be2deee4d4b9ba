/-
  For every input, in whatever memory and on every schedule, TreeAccounts returns true, and its arguments read afterwards as they read before: behind each call what is alive is what was, but for the dead ones, and with the one that was set, or saved, each as often (at most 200 calls; beyond, the example). No condition.
-/
import Derived.Test.YtfeemeddhhgigaaTrRo
import Derived.Test.YtfeemeddhhgigaaTrRd
namespace Go.Proofs.Ytfeemeddhhgigaa
open Go.ChangeShapes Go.WideShapes Go.RowKit

set_option maxRecDepth 100000 in
theorem accounts_lifted (os : Os) (started : os.Started) (H : Type) (enc : TypeId × Value → H) :
    ReturnsInHanded {} Try.checked os 4 .any (Rows.treeAccountsSpec.pre6 enc Try.prog Try.f4 Rows.treeAccountsRow.domain false) (Rows.treeAccountsSpec.post enc Try.prog Try.f4 false true false false) := by
  refine returnsInHanded_of_change_sized (C := Try.checked) Try.own started (by kernel_rfl) Try.func4
    (ChangeSpec.witness6 (enc := enc) (C := Try.checked) false ⟨#[], #[.slice none 0 0], []⟩ 8 (by kernel_rfl) (by kernel_rfl) (by kernel_rfl) (by kernel_rfl)) ?_
  intro W base args ds gs before hval0 hW _ _ _
  have hval : ∀ (j : Nat) t v, Try.f4.params[j]? = some t → args[j]? = some v → Value.okWide Try.prog W .any base t v := hval0
  have hW' := hW
  obtain ⟨p, q, hA0, hV, rfl, _, _⟩ := hW
  have hA : DataW.TrodAll enc Try.prog W 0 (fun _ => true) true Try.f4.params.toList args.toList ds p := hA0
  rw [Try.params4] at hA hval
  obtain ⟨v0, d0, rfl, rfl, h0⟩ := trodAll_one hA
  obtain ⟨rfl, rfl⟩ := trodVars_none hV
  have hlt : ∀ x ∈ (p ++ [] : List MemPlace), x.block < W.heap.size := fun x hx => hW'.lt x hx
  have e1 : Rows.treeAccountsSpec.fn H ([d0] ++ []) = { results := [.lit (.bool true)], args := [d0] } := by simp [Rows.treeAccountsSpec]
  have fin : ∀ W', Below W.heap.size W W' → Rows.treeAccountsSpec.post enc Try.prog Try.f4 false true false false W #[v0] (.bool true) W' := fun W' hb => by
    refine ⟨_, _, _, [], p, [], hW', ?_, ?_, ?_, World.keptBut_mono (fun x hx => ⟨hx, ?_⟩) (hb.frame (· ∈ p ++ [])), fun h => by cases h⟩
    · rw [e1]; exact trodAll_mk1 (shut_bool Try.underlying4 true)
    · rw [e1]; exact trodAll_mk1 (trod_below_args h0 hb (fun x hx => hlt x (by simp [hx])) (by kernel_rfl) (of_decide_eq_true (by kernel_rfl)))
    · rw [e1]; rfl
    · simpa using hx
  obtain ⟨L0, a0, cap0, rfl, hb0⟩ := open_ops (hval 0 22 v0 rfl rfl) h0
  refine (accounts_any L0 a0 _ cap0 rfl W hb0).mono fun e W' ⟨he, hbh⟩ => ?_
  have hb := hbh.out
  subst he
  exact ⟨_, rfl, fin W' hb⟩

theorem accounts_holds : Rows.TreeAccountsSaid :=
  OpenClaim.holds_of_wide 4 Try.f4 rfl rfl rfl rfl rfl rfl rfl ⟨rfl, rfl, rfl, rfl, rfl⟩ rfl rfl rfl rfl rfl (by kernel_rfl) Try.func4 (by kernel_rfl)
    (of_decide_eq_true (by kernel_rfl)) (by unfold Func.isWrapper; rw [if_neg (of_decide_eq_false (by kernel_rfl))]; exact ⟨rfl, rfl⟩)
    (fun os started H enc _ => accounts_lifted os started H enc)
end Go.Proofs.Ytfeemeddhhgigaa

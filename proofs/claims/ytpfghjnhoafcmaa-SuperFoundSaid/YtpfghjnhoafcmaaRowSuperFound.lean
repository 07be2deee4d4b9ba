/-
  For every input, in whatever memory and on every schedule, SuperFound returns true, and its arguments read afterwards as they read before: with Names, of superblocks that were written one behind the other (the first 20), and any bytes that somebody lays there: what is read is the geometry of the last one, with the digest that was told; of laid bytes the one of those that they are of; and ErrTamper, if they are of none (beyond 2^11 bytes, the example). No condition.
-/
import Derived.Test.YtpfghjnhoafcmaaSpRo
import Derived.Test.YtpfghjnhoafcmaaRgRn
import Derived.Test.YtpfghjnhoafcmaaSpJ
namespace Go.Proofs.Ytpfghjnhoafcmaa
open Go.ChangeShapes Go.WideShapes Go.RowKit

set_option maxRecDepth 100000 in
theorem found_lifted (os : Os) (started : os.Started) (H : Type) (enc : TypeId × Value → H) :
    ReturnsInHanded {} Try.checked os 5 .any (Rows.superFoundSpec.pre6 enc Try.prog Try.f5 Rows.superFoundRow.domain false) (Rows.superFoundSpec.post enc Try.prog Try.f5 false true false false) := by
  refine returnsInHanded_of_change_sized (C := Try.checked) Try.own started (by kernel_rfl) Try.func5
    (ChangeSpec.witness6 (enc := enc) (C := Try.checked) false ⟨#[], #[.slice none 0 0, .slice none 0 0, .slice none 0 0, .int .i64 0], []⟩ 8 (by kernel_rfl) (by kernel_rfl) (by kernel_rfl) (by kernel_rfl)) ?_
  intro W base args ds gs before hval0 hW _ _ _
  have hval : ∀ (j : Nat) t v, Try.f5.params[j]? = some t → args[j]? = some v → Value.okWide Try.prog W .any base t v := hval0
  have hW' := hW
  obtain ⟨p, q, hA0, hV, rfl, _, _⟩ := hW
  have hA : DataW.TrodAll enc Try.prog W 0 (fun _ => true) true Try.f5.params.toList args.toList ds p := hA0
  rw [Try.params5] at hA hval
  obtain ⟨v0, v1, v2, v3, d0, d1, d2, d3, q0, q1, q2, q3, rfl, rfl, rfl, h0, h1, h2, h3⟩ := trodAll_four hA
  obtain ⟨rfl, rfl⟩ := trodVars_none hV
  obtain ⟨i3, rfl, rfl, rfl, hw3⟩ := open_int Try.underlying3 (hval 3 3 v3 rfl rfl) h3
  have hlt : ∀ x ∈ (q0 ++ q1 ++ q2 ++ [] ++ [] : List MemPlace), x.block < W.heap.size := fun x hx => hW'.lt x hx
  have e1 : Rows.superFoundSpec.fn H ([d0, d1, d2, .lit (.int .i64 i3)] ++ []) = { results := [.lit (.bool true)], args := [d0, d1, d2, .lit (.int .i64 i3)] } := by simp [Rows.superFoundSpec]
  have fin : ∀ W', Below W.heap.size W W' → Rows.superFoundSpec.post enc Try.prog Try.f5 false true false false W #[v0, v1, v2, .int .i64 i3] (.bool true) W' := fun W' hb => by
    refine ⟨_, _, _, [], q0 ++ (q1 ++ (q2 ++ ([]))), [], hW', ?_, ?_, ?_, World.keptBut_mono (fun x hx => ⟨hx, ?_⟩) (hb.frame (· ∈ q0 ++ q1 ++ q2 ++ [] ++ [])), fun h => by cases h⟩
    · rw [e1]; exact trodAll_mk1 (shut_bool Try.underlying4 true)
    · rw [e1]; exact trodAll_mk4 (trod_below_args h0 hb (fun x hx => hlt x (by simp [hx])) (by kernel_rfl) (of_decide_eq_true (by kernel_rfl))) (trod_below_args h1 hb (fun x hx => hlt x (by simp [hx])) (by kernel_rfl) (of_decide_eq_true (by kernel_rfl))) (trod_below_args h2 hb (fun x hx => hlt x (by simp [hx])) (by kernel_rfl) (of_decide_eq_true (by kernel_rfl))) (shut_int Try.underlying3 hw3)
    · rw [e1]; rfl
    · simpa using hx
  obtain ⟨L0, a0, cap0, rfl, hb0⟩ := open_geos (hval 0 61 v0 rfl rfl) h0
  obtain ⟨L1, a1, cap1, rfl, hb1⟩ := open_nums (hval 1 42 v1 rfl rfl) h1
  obtain ⟨L2, a2, cap2, rfl, hb2⟩ := open_bs (hval 2 41 v2 rfl rfl) h2
  refine (found_any L0 a0 _ cap0 rfl L1 a1 _ cap1 rfl L2 a2 _ cap2 rfl i3 W hb0 hb1 hb2).mono fun e W' ⟨he, hb⟩ => ?_
  subst he
  exact ⟨_, rfl, fin W' hb⟩

theorem found_holds : Rows.SuperFoundSaid :=
  OpenClaim.holds_of_wide 5 Try.f5 rfl rfl rfl rfl rfl rfl rfl ⟨rfl, rfl, rfl, rfl, rfl⟩ rfl rfl rfl rfl rfl (by kernel_rfl) Try.func5 (by kernel_rfl)
    (of_decide_eq_true (by kernel_rfl)) (by unfold Func.isWrapper; rw [if_neg (of_decide_eq_false (by kernel_rfl))]; exact ⟨rfl, rfl⟩)
    (fun os started H enc _ => found_lifted os started H enc)
end Go.Proofs.Ytpfghjnhoafcmaa

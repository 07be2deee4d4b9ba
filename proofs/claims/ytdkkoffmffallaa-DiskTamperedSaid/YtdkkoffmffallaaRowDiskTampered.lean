/-
  For every input, in whatever memory and on every schedule, DiskTampered returns true, and its arguments read afterwards as they read before: what somebody writes over a sector lasts over any Crash, and no other sector knows of it (the first 40 writes). No condition.
-/
import Derived.Test.YtdkkoffmffallaaDkRo
import Derived.Test.YtdkkoffmffallaaDkV
namespace Go.Proofs.Ytdkkoffmffallaa
open Go.ChangeShapes Go.WideShapes Go.RowKit

set_option maxRecDepth 100000 in
theorem tampered_lifted (os : Os) (started : os.Started) (H : Type) (enc : TypeId × Value → H) :
    ReturnsInHanded {} Try.checked os 8 .any (Rows.diskTamperedSpec.pre6 enc Try.prog Try.f8 Rows.diskTamperedRow.domain false) (Rows.diskTamperedSpec.post enc Try.prog Try.f8 false true false false) := by
  refine returnsInHanded_of_change_sized (C := Try.checked) Try.own started (by kernel_rfl) Try.func8
    (ChangeSpec.witness6 (enc := enc) (C := Try.checked) false ⟨#[], #[.slice none 0 0, .int .i64 0, .slice none 0 0, .slice none 0 0], []⟩ 8 (by kernel_rfl) (by kernel_rfl) (by kernel_rfl) (by kernel_rfl)) ?_
  intro W base args ds gs before hval0 hW _ _ _
  have hval : ∀ (j : Nat) t v, Try.f8.params[j]? = some t → args[j]? = some v → Value.okWide Try.prog W .any base t v := hval0
  have hW' := hW
  obtain ⟨p, q, hA0, hV, rfl, _, _⟩ := hW
  have hA : DataW.TrodAll enc Try.prog W 0 (fun _ => true) true Try.f8.params.toList args.toList ds p := hA0
  rw [Try.params8] at hA hval
  obtain ⟨v0, v1, v2, v3, d0, d1, d2, d3, q0, q1, q2, q3, rfl, rfl, rfl, h0, h1, h2, h3⟩ := trodAll_four hA
  obtain ⟨rfl, rfl⟩ := trodVars_none hV
  obtain ⟨i1, rfl, rfl, rfl, hw1⟩ := open_int Try.underlying3 (hval 1 3 v1 rfl rfl) h1
  have hlt : ∀ x ∈ (q0 ++ [] ++ q2 ++ q3 ++ [] : List MemPlace), x.block < W.heap.size := fun x hx => hW'.lt x hx
  have e1 : Rows.diskTamperedSpec.fn H ([d0, .lit (.int .i64 i1), d2, d3] ++ []) = { results := [.lit (.bool true)], args := [d0, .lit (.int .i64 i1), d2, d3] } := by simp [Rows.diskTamperedSpec]
  have fin : ∀ W', Below W.heap.size W W' → Rows.diskTamperedSpec.post enc Try.prog Try.f8 false true false false W #[v0, .int .i64 i1, v2, v3] (.bool true) W' := fun W' hb => by
    refine ⟨_, _, _, [], q0 ++ ([] ++ (q2 ++ (q3))), [], hW', ?_, ?_, ?_, World.keptBut_mono (fun x hx => ⟨hx, ?_⟩) (hb.frame (· ∈ q0 ++ [] ++ q2 ++ q3 ++ [])), fun h => by cases h⟩
    · rw [e1]; exact trodAll_mk1 (shut_bool Try.underlying4 true)
    · rw [e1]; exact trodAll_mk4 (trod_below_args h0 hb (fun x hx => hlt x (by simp [hx])) (by kernel_rfl) (of_decide_eq_true (by kernel_rfl))) (shut_int Try.underlying3 hw1) (trod_below_args h2 hb (fun x hx => hlt x (by simp [hx])) (by kernel_rfl) (of_decide_eq_true (by kernel_rfl))) (trod_below_args h3 hb (fun x hx => hlt x (by simp [hx])) (by kernel_rfl) (of_decide_eq_true (by kernel_rfl)))
    · rw [e1]; rfl
    · simpa using hx
  obtain ⟨L0, a0, cap0, rfl, hb0⟩ := open_mat (hval 0 39 v0 rfl rfl) h0
  obtain ⟨L2, a2, cap2, rfl, hb2⟩ := open_bs (hval 2 31 v2 rfl rfl) h2
  obtain ⟨L3, a3, cap3, rfl, hb3⟩ := open_nums (hval 3 32 v3 rfl rfl) h3
  refine (tampered_any L0 i1 L2 L3 a0 a2 a3 cap0 cap2 cap3 (in64_wf hw1) W hb0 hb2 hb3).mono fun e W' ⟨he, hb⟩ => ?_
  subst he
  exact ⟨_, rfl, fin W' hb⟩

theorem tampered_holds : Rows.DiskTamperedSaid :=
  OpenClaim.holds_of_wide 8 Try.f8 rfl rfl rfl rfl rfl rfl rfl ⟨rfl, rfl, rfl, rfl, rfl⟩ rfl rfl rfl rfl rfl (by kernel_rfl) Try.func8 (by kernel_rfl)
    (of_decide_eq_true (by kernel_rfl)) (by unfold Func.isWrapper; rw [if_neg (of_decide_eq_false (by kernel_rfl))]; exact ⟨rfl, rfl⟩)
    (fun os started H enc _ => tampered_lifted os started H enc)
end Go.Proofs.Ytdkkoffmffallaa

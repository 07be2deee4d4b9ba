/-
  For every input, in whatever memory and on every schedule, DiskLasts returns true, and its arguments read afterwards as they read before: what was synced is there behind any Crash, unless it was written since; what was written since is there just if the list says so; nothing else changes (the first 200 writes). No condition.
-/
import Derived.Test.YtdkkoffmffallaaDkRp
import Derived.Test.YtdkkoffmffallaaDkT
namespace Go.Proofs.Ytdkkoffmffallaa
open Go.ChangeShapes Go.WideShapes Go.RowKit

set_option maxRecDepth 100000 in
theorem lasts_lifted (os : Os) (started : os.Started) (H : Type) (enc : TypeId × Value → H) :
    ReturnsInHanded {} Try.checked os 4 .any (Rows.diskLastsSpec.pre6 enc Try.prog Try.f4 Rows.diskLastsRow.domain false) (Rows.diskLastsSpec.post enc Try.prog Try.f4 false true false false) := by
  refine returnsInHanded_of_change_sized (C := Try.checked) Try.own started (by kernel_rfl) Try.func4
    (ChangeSpec.witness6 (enc := enc) (C := Try.checked) false ⟨#[], #[.slice none 0 0, .int .i64 0, .slice none 0 0], []⟩ 8 (by kernel_rfl) (by kernel_rfl) (by kernel_rfl) (by kernel_rfl)) ?_
  intro W base args ds gs before hval0 hW _ hSZ _
  have hval : ∀ (j : Nat) t v, Try.f4.params[j]? = some t → args[j]? = some v → Value.okWide Try.prog W .any base t v := hval0
  have hW' := hW
  obtain ⟨p, q, hA0, hV, rfl, _, _⟩ := hW
  have hA : DataW.TrodAll enc Try.prog W 0 (fun _ => true) true Try.f4.params.toList args.toList ds p := hA0
  rw [Try.params4] at hA hval
  obtain ⟨v0, v1, v2, d0, d1, d2, q0, q1, q2, rfl, rfl, rfl, h0, h1, h2⟩ := trodAll_three hA
  obtain ⟨rfl, rfl⟩ := trodVars_none hV
  obtain ⟨i1, rfl, rfl, rfl, hw1⟩ := open_int Try.underlying3 (hval 1 3 v1 rfl rfl) h1
  have hlt : ∀ x ∈ (q0 ++ [] ++ q2 ++ [] : List MemPlace), x.block < W.heap.size := fun x hx => hW'.lt x hx
  have e1 : Rows.diskLastsSpec.fn H ([d0, .lit (.int .i64 i1), d2] ++ []) = { results := [.lit (.bool true)], args := [d0, .lit (.int .i64 i1), d2] } := by simp [Rows.diskLastsSpec]
  have fin : ∀ W', Below W.heap.size W W' → Rows.diskLastsSpec.post enc Try.prog Try.f4 false true false false W #[v0, .int .i64 i1, v2] (.bool true) W' := fun W' hb => by
    refine ⟨_, _, _, [], q0 ++ ([] ++ (q2)), [], hW', ?_, ?_, ?_, World.keptBut_mono (fun x hx => ⟨hx, ?_⟩) (hb.frame (· ∈ q0 ++ [] ++ q2 ++ [])), fun h => by cases h⟩
    · rw [e1]; exact trodAll_mk1 (shut_bool Try.underlying4 true)
    · rw [e1]; exact trodAll_mk3 (trod_below_args h0 hb (fun x hx => hlt x (by simp [hx])) (by kernel_rfl) (of_decide_eq_true (by kernel_rfl))) (shut_int Try.underlying3 hw1) (trod_below_args h2 hb (fun x hx => hlt x (by simp [hx])) (by kernel_rfl) (of_decide_eq_true (by kernel_rfl)))
    · rw [e1]; rfl
    · simpa using hx
  obtain ⟨L0, a0, cap0, rfl, hb0, hs0'⟩ := open_mat2 (hval 0 39 v0 rfl rfl) h0
  have hs0 := hs0' (fun n hn => by simpa using List.all_eq_true.1 hSZ n (DataW.weights_mem_each (j := 0) (t := 39) rfl rfl n hn))
  obtain ⟨L2, a2, cap2, rfl, hb2⟩ := open_nums (hval 2 32 v2 rfl rfl) h2
  refine (lasts_any L0 i1 L2 a0 a2 cap0 cap2 (in64_wf hw1) W hb0 hs0 hb2).mono fun e W' ⟨he, hb⟩ => ?_
  subst he
  exact ⟨_, rfl, fin W' hb⟩

theorem lasts_holds : Rows.DiskLastsSaid :=
  OpenClaim.holds_of_wide 4 Try.f4 rfl rfl rfl rfl rfl rfl rfl ⟨rfl, rfl, rfl, rfl, rfl⟩ rfl rfl rfl rfl rfl (by kernel_rfl) Try.func4 (by kernel_rfl)
    (of_decide_eq_true (by kernel_rfl)) (by unfold Func.isWrapper; rw [if_neg (of_decide_eq_false (by kernel_rfl))]; exact ⟨rfl, rfl⟩)
    (fun os started H enc _ => lasts_lifted os started H enc)
end Go.Proofs.Ytdkkoffmffallaa

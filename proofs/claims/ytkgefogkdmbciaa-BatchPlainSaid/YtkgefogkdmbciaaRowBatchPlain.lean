/-
  For every input, in whatever memory and on every schedule, BatchPlain returns true, and its arguments read afterwards as they read before: unlike summaries have unlike bytes; no beginning of a summary's bytes is one, nor are they with a byte behind (at most 300 entries in each; beyond, the example). No condition.
-/
import Derived.Test.YtkgefogkdmbciaaBaRo
import Derived.Test.YtkgefogkdmbciaaBaO
namespace Go.Proofs.Ytkgefogkdmbciaa
open Go.ChangeShapes Go.WideShapes Go.RowKit

set_option maxRecDepth 100000 in
theorem plain_lifted (os : Os) (started : os.Started) (H : Type) (enc : TypeId × Value → H) :
    ReturnsInHanded {} Try.checked os 7 .any (Rows.batchPlainSpec.pre6 enc Try.prog Try.f7 Rows.batchPlainRow.domain false) (Rows.batchPlainSpec.post enc Try.prog Try.f7 false true false false) := by
  refine returnsInHanded_of_change_sized (C := Try.checked) Try.own started (by kernel_rfl) Try.func7
    (ChangeSpec.witness6 (enc := enc) (C := Try.checked) false ⟨#[], #[.agg #[.int .i64 0, .int .u8 0, .int .u8 0, .int .u8 0, .int .u8 0, .int .u8 0, .int .u8 0, .int .u8 0, .int .u8 0, .int .u8 0, .int .u8 0, .int .u8 0, .int .u8 0, .int .u8 0, .int .u8 0, .int .u8 0, .int .u8 0, .int .u8 0, .int .u8 0, .int .u8 0, .int .u8 0, .int .u8 0, .int .u8 0, .int .u8 0, .int .u8 0, .int .u8 0, .int .u8 0, .int .u8 0, .int .u8 0, .int .u8 0, .int .u8 0, .int .u8 0, .int .u8 0, .int .i64 0, .slice none 0 0], .agg #[.int .i64 0, .int .u8 0, .int .u8 0, .int .u8 0, .int .u8 0, .int .u8 0, .int .u8 0, .int .u8 0, .int .u8 0, .int .u8 0, .int .u8 0, .int .u8 0, .int .u8 0, .int .u8 0, .int .u8 0, .int .u8 0, .int .u8 0, .int .u8 0, .int .u8 0, .int .u8 0, .int .u8 0, .int .u8 0, .int .u8 0, .int .u8 0, .int .u8 0, .int .u8 0, .int .u8 0, .int .u8 0, .int .u8 0, .int .u8 0, .int .u8 0, .int .u8 0, .int .u8 0, .int .i64 0, .slice none 0 0], .int .i64 0, .int .u8 0], []⟩ 8 (by kernel_rfl) (by kernel_rfl) (by kernel_rfl) (by kernel_rfl)) ?_
  intro W base args ds gs before hval0 hW _ _ _
  have hval : ∀ (j : Nat) t v, Try.f7.params[j]? = some t → args[j]? = some v → Value.okWide Try.prog W .any base t v := hval0
  have hW' := hW
  obtain ⟨p, q, hA0, hV, rfl, _, _⟩ := hW
  have hA : DataW.TrodAll enc Try.prog W 0 (fun _ => true) true Try.f7.params.toList args.toList ds p := hA0
  rw [Try.params7] at hA hval
  obtain ⟨v0, v1, v2, v3, d0, d1, d2, d3, q0, q1, q2, q3, rfl, rfl, rfl, h0, h1, h2, h3⟩ := trodAll_four hA
  obtain ⟨rfl, rfl⟩ := trodVars_none hV
  obtain ⟨i2, rfl, rfl, rfl, hw2⟩ := open_int Try.underlying3 (hval 2 3 v2 rfl rfl) h2
  obtain ⟨i3, rfl, rfl, rfl, hw3⟩ := open_int Try.underlying5 (hval 3 5 v3 rfl rfl) h3
  have hlt : ∀ x ∈ (q0 ++ q1 ++ [] ++ [] ++ [] : List MemPlace), x.block < W.heap.size := fun x hx => hW'.lt x hx
  have e1 : Rows.batchPlainSpec.fn H ([d0, d1, .lit (.int .i64 i2), .lit (.int .u8 i3)] ++ []) = { results := [.lit (.bool true)], args := [d0, d1, .lit (.int .i64 i2), .lit (.int .u8 i3)] } := by simp [Rows.batchPlainSpec]
  have fin : ∀ W', Below W.heap.size W W' → Rows.batchPlainSpec.post enc Try.prog Try.f7 false true false false W #[v0, v1, .int .i64 i2, .int .u8 i3] (.bool true) W' := fun W' hb => by
    refine ⟨_, _, _, [], q0 ++ (q1 ++ ([] ++ ([]))), [], hW', ?_, ?_, ?_, World.keptBut_mono (fun x hx => ⟨hx, ?_⟩) (hb.frame (· ∈ q0 ++ q1 ++ [] ++ [] ++ [])), fun h => by cases h⟩
    · rw [e1]; exact trodAll_mk1 (shut_bool Try.underlying4 true)
    · rw [e1]; exact trodAll_mk4 (trod_below_args h0 hb (fun x hx => hlt x (by simp [hx])) (by kernel_rfl) (of_decide_eq_true (by kernel_rfl))) (trod_below_args h1 hb (fun x hx => hlt x (by simp [hx])) (by kernel_rfl) (of_decide_eq_true (by kernel_rfl))) (shut_int Try.underlying3 hw2) (shut_int Try.underlying5 hw3)
    · rw [e1]; rfl
    · simpa using hx
  obtain ⟨t0, P0, n0, p0, m0, c0, L0, rfl, hL0, hv0, ht0, hn0⟩ := open_summary (hval 0 26 v0 rfl rfl) h0
  obtain ⟨t1, P1, n1, p1, m1, c1, L1, rfl, hL1, hv1, ht1, hn1⟩ := open_summary (hval 1 26 v1 rfl rfl) h1
  refine (plain_any t0 n0 ht0 hn0 P0 p0 m0 c0 L0 hL0 t1 n1 ht1 hn1 P1 p1 m1 c1 L1 hL1 i2 i3 (byte_wf hw3) W hv0 hv1).mono fun e W' ⟨he, hb⟩ => ?_
  subst he
  exact ⟨_, rfl, fin W' hb⟩

theorem plain_holds : Rows.BatchPlainSaid :=
  OpenClaim.holds_of_wide 7 Try.f7 rfl rfl rfl rfl rfl rfl rfl ⟨rfl, rfl, rfl, rfl, rfl⟩ rfl rfl rfl rfl rfl (by kernel_rfl) Try.func7 (by kernel_rfl)
    (of_decide_eq_true (by kernel_rfl)) (by unfold Func.isWrapper; rw [if_neg (of_decide_eq_false (by kernel_rfl))]; exact ⟨rfl, rfl⟩)
    (fun os started H enc _ => plain_lifted os started H enc)
end Go.Proofs.Ytkgefogkdmbciaa

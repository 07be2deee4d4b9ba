/-
  For every input, in whatever memory and on every schedule, BatchAdds returns true, and its arguments read afterwards as they read before: a summary that may be, and has room, may be with a trim more at any place, and its bytes are 56 more; and without its last entry (at most 300 entries; beyond, the example). No condition.
-/
import Derived.Test.YtkgefogkdmbciaaBaRo
import Derived.Test.YtkgefogkdmbciaaBaP
namespace Go.Proofs.Ytkgefogkdmbciaa
open Go.ChangeShapes Go.WideShapes Go.RowKit

set_option maxRecDepth 100000 in
theorem adds_lifted (os : Os) (started : os.Started) (H : Type) (enc : TypeId × Value → H) :
    ReturnsInHanded {} Try.checked os 9 .any (Rows.batchAddsSpec.pre6 enc Try.prog Try.f9 Rows.batchAddsRow.domain false) (Rows.batchAddsSpec.post enc Try.prog Try.f9 false true false false) := by
  refine returnsInHanded_of_change_sized (C := Try.checked) Try.own started (by kernel_rfl) Try.func9
    (ChangeSpec.witness6 (enc := enc) (C := Try.checked) false ⟨#[], #[.agg #[.int .i64 0, .int .u8 0, .int .u8 0, .int .u8 0, .int .u8 0, .int .u8 0, .int .u8 0, .int .u8 0, .int .u8 0, .int .u8 0, .int .u8 0, .int .u8 0, .int .u8 0, .int .u8 0, .int .u8 0, .int .u8 0, .int .u8 0, .int .u8 0, .int .u8 0, .int .u8 0, .int .u8 0, .int .u8 0, .int .u8 0, .int .u8 0, .int .u8 0, .int .u8 0, .int .u8 0, .int .u8 0, .int .u8 0, .int .u8 0, .int .u8 0, .int .u8 0, .int .u8 0, .int .i64 0, .slice none 0 0], .int .i64 0, .int .i64 0], []⟩ 8 (by kernel_rfl) (by kernel_rfl) (by kernel_rfl) (by kernel_rfl)) ?_
  intro W base args ds gs before hval0 hW _ _ _
  have hval : ∀ (j : Nat) t v, Try.f9.params[j]? = some t → args[j]? = some v → Value.okWide Try.prog W .any base t v := hval0
  have hW' := hW
  obtain ⟨p, q, hA0, hV, rfl, _, _⟩ := hW
  have hA : DataW.TrodAll enc Try.prog W 0 (fun _ => true) true Try.f9.params.toList args.toList ds p := hA0
  rw [Try.params9] at hA hval
  obtain ⟨v0, v1, v2, d0, d1, d2, q0, q1, q2, rfl, rfl, rfl, h0, h1, h2⟩ := trodAll_three hA
  obtain ⟨rfl, rfl⟩ := trodVars_none hV
  obtain ⟨i1, rfl, rfl, rfl, hw1⟩ := open_int Try.underlying3 (hval 1 3 v1 rfl rfl) h1
  obtain ⟨i2, rfl, rfl, rfl, hw2⟩ := open_int Try.underlying3 (hval 2 3 v2 rfl rfl) h2
  have hlt : ∀ x ∈ (q0 ++ [] ++ [] ++ [] : List MemPlace), x.block < W.heap.size := fun x hx => hW'.lt x hx
  have e1 : Rows.batchAddsSpec.fn H ([d0, .lit (.int .i64 i1), .lit (.int .i64 i2)] ++ []) = { results := [.lit (.bool true)], args := [d0, .lit (.int .i64 i1), .lit (.int .i64 i2)] } := by simp [Rows.batchAddsSpec]
  have fin : ∀ W', Below W.heap.size W W' → Rows.batchAddsSpec.post enc Try.prog Try.f9 false true false false W #[v0, .int .i64 i1, .int .i64 i2] (.bool true) W' := fun W' hb => by
    refine ⟨_, _, _, [], q0 ++ ([] ++ ([])), [], hW', ?_, ?_, ?_, World.keptBut_mono (fun x hx => ⟨hx, ?_⟩) (hb.frame (· ∈ q0 ++ [] ++ [] ++ [])), fun h => by cases h⟩
    · rw [e1]; exact trodAll_mk1 (shut_bool Try.underlying4 true)
    · rw [e1]; exact trodAll_mk3 (trod_below_args h0 hb (fun x hx => hlt x (by simp [hx])) (by kernel_rfl) (of_decide_eq_true (by kernel_rfl))) (shut_int Try.underlying3 hw1) (shut_int Try.underlying3 hw2)
    · rw [e1]; rfl
    · simpa using hx
  obtain ⟨t0, P0, n0, p0, m0, c0, L0, rfl, hL0, hv0, ht0, hn0⟩ := open_summary (hval 0 26 v0 rfl rfl) h0
  refine (adds_any t0 n0 ht0 hn0 P0 p0 m0 c0 L0 hL0 i1 i2 W hv0).mono fun e W' ⟨he, hb⟩ => ?_
  subst he
  exact ⟨_, rfl, fin W' hb⟩

theorem adds_holds : Rows.BatchAddsSaid :=
  OpenClaim.holds_of_wide 9 Try.f9 rfl rfl rfl rfl rfl rfl rfl ⟨rfl, rfl, rfl, rfl, rfl⟩ rfl rfl rfl rfl rfl (by kernel_rfl) Try.func9 (by kernel_rfl)
    (of_decide_eq_true (by kernel_rfl)) (by unfold Func.isWrapper; rw [if_neg (of_decide_eq_false (by kernel_rfl))]; exact ⟨rfl, rfl⟩)
    (fun os started H enc _ => adds_lifted os started H enc)
end Go.Proofs.Ytkgefogkdmbciaa

/-
  The law RegionBest walked; contract: has.
-/
import Derived.Test.YtpfghjnhoafcmaaRgL2
import Derived.Test.YtpfghjnhoafcmaaRgK
import Derived.Test.YtpfghjnhoafcmaaRgQ
namespace Go.Proofs.Ytpfghjnhoafcmaa
open Go.RowKit

namespace Rg
/-- Who is chosen: none of those that may be is greater. -/
theorem chk_best (lv : Int) {L : List R} : ∀ k, k ≤ L.length → (∀ b, chk lv L k = some b → late lv b = false ∧ ∀ i, i < k → late lv (L.getD i zero) = false → (L.getD i zero).st ≤ b.st) ∧ (chk lv L k = none → ∀ i, i < k → late lv (L.getD i zero) = true)
  | 0, _ => ⟨fun b h => (by rw [chk_zero] at h; cases h), fun _ i hi => (by omega)⟩
  | k + 1, hk => by
    obtain ⟨h1, h2⟩ := chk_best lv (L := L) k (by omega)
    rw [chk_succ lv (L := L) (k := k) (by omega)]
    unfold stp
    cases hl : late lv (L.getD k zero) with
    | true =>
      rw [if_pos rfl]
      refine ⟨fun b hb => ⟨(h1 b hb).1, fun i hi hn => ?_⟩, fun hb i hi => ?_⟩
      · by_cases e : i = k
        · subst e; rw [hl] at hn; cases hn
        · exact (h1 b hb).2 i (by omega) hn
      · by_cases e : i = k
        · subst e; exact hl
        · exact h2 hb i (by omega)
    | false =>
      rw [if_neg (by decide)]
      cases hc : chk lv L k with
      | none =>
        rw [show better none (L.getD k zero) = true from rfl, if_pos rfl]
        refine ⟨fun b hb => ?_, fun h => by cases h⟩
        injection hb with hb
        subst hb
        refine ⟨hl, fun i hi hn => ?_⟩
        by_cases e : i = k
        · subst e; exact Int.le_refl _
        · rw [h2 hc i (by omega)] at hn; cases hn
      | some x =>
        obtain ⟨h3, h4⟩ := h1 x hc
        by_cases hb : x.st < (L.getD k zero).st
        · rw [show better (some x) (L.getD k zero) = true from decide_eq_true hb, if_pos rfl]
          refine ⟨fun b hb' => ?_, fun h => by cases h⟩
          injection hb' with hb'
          subst hb'
          refine ⟨hl, fun i hi hn => ?_⟩
          by_cases e : i = k
          · subst e; exact Int.le_refl _
          · have := h4 i (by omega) hn; omega
        · rw [show better (some x) (L.getD k zero) = false from decide_eq_false hb, if_neg (by decide)]
          refine ⟨fun b hb' => ?_, fun h => by cases h⟩
          injection hb' with hb'
          subst hb'
          refine ⟨h3, fun i hi hn => ?_⟩
          by_cases e : i = k
          · subst e; omega
          · exact h4 i (by omega) hn
end Rg
theorem late_iff (lv : Int) (r : Rg.R) : Rg.late lv r = true ↔ ¬ r.st ≤ lv + 1 := by rw [late_eq]; simp; omega
theorem late_niff (lv : Int) (r : Rg.R) : Rg.late lv r = false ↔ r.st ≤ lv + 1 := by rw [← Bool.not_eq_true, late_iff]; omega
theorem rmem_getD {L : List Rg.R} {x : Rg.R} (h : x ∈ L) : ∃ i, i < L.length ∧ L.getD i Rg.zero = x := by
  obtain ⟨i, hi, e⟩ := List.mem_iff_getElem.1 h
  exact ⟨i, hi, by rw [List.getD_eq_getElem?_getD, List.getElem?_eq_getElem hi]; exact e⟩
set_option maxHeartbeats 1000000 in
set_option maxRecDepth 100000 in
theorem rhas_any (L : List Rg.R) (x : Rg.R) (hx : Rg.Ok x) (p : Option Addr) (n c : Nat) (hn : L.length = n) (hL : n ≤ 1000000) (w : World) (hp : Rs w p c L) :
    Calls Try.prog 16 #[.slice p n c, .agg (RAr x)] w (BlSay (decide (x ∈ L)) w) := by
  have Hp := Lib.hid hp; clear hp
  have HN := Lib.hid hn
  have HXS : Hid ((RAr x).size = 136) := rar_size hx
  have HEQ : Hid (∀ i y, i < n → (Op.equalIn 10000 40 (.agg (RAr (L.getD i Rg.zero))) (.agg (RAr x))).run Try.prog y = .ok (decide (L.getD i Rg.zero = x)) y) := fun i y _ => rec_eqs _ _ (Hp.out.getD i) hx y
  have HY : Hid (∀ i, i < n → L.getD i Rg.zero = x → x ∈ L) := fun i hi e => by
    rw [← e, List.getD_eq_getElem?_getD, List.getElem?_eq_getElem (by omega)]
    exact List.getElem_mem _
  have HNO : Hid ((∀ i, i < n → L.getD i Rg.zero ≠ x) → ¬ x ∈ L) := fun h hm => by
    obtain ⟨i, hi, e⟩ := rmem_getD hm
    exact h i (by omega) e
  obtain ⟨eb, heb⟩ : ∃ eb, decide (x ∈ L) = eb := ⟨_, rfl⟩
  have HEB := Lib.hid heb
  rw [heb]
  clear heb hn hx
  obtain ⟨X, hX⟩ : ∃ X, RAr x = X := ⟨_, rfl⟩
  rw [hX] at HXS HEQ ⊢
  clear hX
  have R0 : Hid ((w.alloc (.cells X 40)).heap[w.heap.size]? = some (.cells X 40 (0, 0))) := heap_alloc_new w _
  have B0 : Hid (Below w.heap.size w (w.alloc (.cells X 40))) := (Below.refl _ w).alloc (Nat.le_refl _) _
  obtain ⟨w0, hw0⟩ : ∃ y, y = w.alloc (.cells X 40) := ⟨_, rfl⟩
  rw [← hw0] at B0 R0
  go_enter Try.func16, Try.ntmps16
  go_upto_region 1 with (fail)
  change Code.wp _ _ _ _ (w.alloc (.cells X 40))
  rw [← hw0]
  clear hw0
  go_wp2
  go_loopw [5] (fun v5 wr => ∃ k : Nat, k ≤ n ∧ v5 = .int .i64 k ∧ Hid (∀ i, i < k → L.getD i Rg.zero ≠ x) ∧ Hid (wr.heap[w.heap.size]? = some (.cells X 40 (0, 0))) ∧ Hid (Below w.heap.size w wr)) (fun v5 _ => n - (intOf v5).toNat)
  case atStart => exact ⟨0, by omega, rfl, fun i hi => by omega, R0.out, B0.out⟩
  case round =>
    clear R0 B0
    obtain ⟨k, hk, rfl, HE, HR, HB⟩ := hrel
    by_cases hlt : k < n
    · obtain ⟨ab, ao, hpp, _⟩ := Hp.out.at_ (by rw [HN.out]; omega)
      subst hpp
      have h1 : ∀ j, (Instr.loadAt 40 (.pointer (some ⟨ab, ao + k * 136, none⟩))).run Try.prog (wr.drewN j) = .ok (.agg (RAr (L.getD k Rg.zero))) (wr.drewN j) := fun j => ((Hp.out.old HB.out).drewN j).load (by rw [HN.out]; exact hlt)
      have h2 : ∀ j, (Instr.loadAt 40 (.pointer (some ⟨w.heap.size, 0, none⟩))).run Try.prog (wr.drewN j) = .ok (.agg X) (wr.drewN j) := fun j => by
        have h3 := run_loadAt_mid (P := Try.prog) (wr.drewN j) w.heap.size 0 40 X.toList _ (fun i v hv => by
          rw [cell_of_row (wr.drewN j) w.heap.size (0 + i) _ _ _ HR.out, Nat.zero_add]
          simpa using hv) Try.underlying40 rfl (by rw [Try.sizeRec, Array.length_toList, HXS.out])
        exact h3
      obtain ⟨xb, hxb⟩ : ∃ xb, decide (L.getD k Rg.zero = x) = xb := ⟨_, rfl⟩
      have HXB := Lib.hid hxb
      have heq : ∀ y, (Op.equalIn 10000 40 (.agg (RAr (L.getD k Rg.zero))) (.agg X)).run Try.prog y = .ok xb y := fun y => by rw [← hxb]; exact HEQ.out k y hlt
      clear hxb
      have hi0 : 0 ≤ (k : Int) := by omega
      have hi1 : (k : Int) < (n : Int) := by omega
      generalize RAr (L.getD k Rg.zero) = Y at *
      go_upto_region 4 with (fail)
      refine wp_region_quiet_lit (by kernel_rfl) (by kernel_rfl) ?_
      repeat (first
        | ((with_reducible refine quiet_load _ _ ⟨ab, ao + k * 136, none⟩ Y ?_ ?_ (fun y hy => by obtain ⟨j, rfl⟩ := hy; exact h1 j) ?_); (exact rfl); (exact rfl); simp only [Act.put, List.setIfInBounds_toArray, List.set_cons_zero, List.set_cons_succ])
        | ((with_reducible refine quiet_load _ _ ⟨w.heap.size, 0, none⟩ X ?_ ?_ (fun y hy => by obtain ⟨j, rfl⟩ := hy; exact h2 j) ?_); (exact rfl); (exact rfl); simp only [Act.put, List.setIfInBounds_toArray, List.set_cons_zero, List.set_cons_succ])
        | go_big_quiet_step ((fail)))
      refine wpQuiet_nil ?_
      rintro _ ⟨nq, rfl⟩
      cases xb with
      | true =>
        have hf : eb = true := by rw [← HEB.out]; exact decide_eq_true (HY.out k hlt (of_decide_eq_true HXB.out))
        subst hf
        go_wp2
        go_ret
        exact ⟨rfl, below_dn HB.out _⟩
      | false =>
        go_wp2
        refine ⟨⟨k + 1, by omega, by go_num, fun i hi => ?_, HR.out, below_dn HB.out _⟩, by simp [intOf]; omega⟩
        by_cases hik : i = k
        · subst hik; exact of_decide_eq_false HXB.out
        · exact HE.out i (by omega)
    · have E : k = n := by omega
      subst E
      have hf : eb = false := by rw [← HEB.out]; exact decide_eq_false (HNO.out HE.out)
      subst hf
      clear hlt
      go_wp2
      go_ret
      exact ⟨rfl, HB.out⟩

end Go.Proofs.Ytpfghjnhoafcmaa

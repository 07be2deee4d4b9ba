/-
  Contracts: rillkit's SameSegs, LentSegs, KeptSegs.
-/
import Derived.Test.YthgjfjmampmiiaaVcE
import Derived.BigQuiet
namespace Go.Proofs.Ythgjfjmampmiiaa
open Go.RowKit

theorem list_eq_of {L M : List Us.S} {n : Nat} (hl : L.length = n) (hm : M.length = n) (h : ∀ i, i < n → Us.at_ L i = Us.at_ M i) : L = M := Us.at_ext (by omega) (fun i hi => h i (by omega))
set_option maxHeartbeats 2000000 in
set_option maxRecDepth 100000 in
theorem same_any (L M : List Us.S) (p q : Option Addr) (n m c d : Nat) (hn : L.length = n) (hm : M.length = m) (hL : n ≤ 10000) (w : World) (hp : SgS w p L) (hq : SgS w q M) :
    Calls Try.prog 19 #[.slice p n c, .slice q m d] w (BoSay (decide (L = M)) w) := by
  have Hp := Lib.hid hp; clear hp
  have Hq := Lib.hid hq; clear hq
  have HN := Lib.hid hn
  have HM := Lib.hid hm
  by_cases hnm : n = m
  · subst hnm
    clear hn hm
    obtain ⟨eb, heb⟩ : ∃ eb, decide (L = M) = eb := ⟨_, rfl⟩
    have HEB := Lib.hid heb
    rw [heb]
    clear heb
    go_enter Try.func19, Try.ntmps19
    go_wp2
    go_loopw [5] (fun v5 wr => ∃ k : Nat, k ≤ n ∧ v5 = .int .i64 k ∧ Hid (∀ i, i < k → Us.at_ L i = Us.at_ M i) ∧ Hid (Below w.heap.size w wr)) (fun v5 _ => n - (intOf v5).toNat)
    case atStart => exact ⟨0, by omega, rfl, fun i hi => by omega, Below.refl _ _⟩
    case round =>
      obtain ⟨k, hk, rfl, HE, HB⟩ := hrel
      by_cases hlt : k < n
      · obtain ⟨ab, ao, hpp, hr1⟩ := Hp.out (by rw [HN.out]; omega)
        obtain ⟨bb, bo, hqq, hr2⟩ := Hq.out (by rw [HM.out]; omega)
        subst hpp
        subst hqq
        have HR1 : Hid (∀ j, (wr.drewN j).rangeAt ab (ao + k * 3) (SgA (Us.at_ L k)).toList) := fun j => rng_old (hr1 k (by rw [HN.out]; exact hlt)) (below_dn HB.out j)
        have HR2 : Hid (∀ j, (wr.drewN j).rangeAt bb (bo + k * 3) (SgA (Us.at_ M k)).toList) := fun j => rng_old (hr2 k (by rw [HM.out]; exact hlt)) (below_dn HB.out j)
        clear hr1 hr2
        have h1 : ∀ j, (Instr.loadAt 36 (.pointer (some ⟨ab, ao + k * 3, none⟩))).run Try.prog (wr.drewN j) = .ok (.agg (SgA (Us.at_ L k))) (wr.drewN j) := fun j => run_loadAt_mid _ _ _ _ _ _ (HR1.out j) Try.underlying36 rfl Try.sizeSg
        have h2 : ∀ j, (Instr.loadAt 36 (.pointer (some ⟨bb, bo + k * 3, none⟩))).run Try.prog (wr.drewN j) = .ok (.agg (SgA (Us.at_ M k))) (wr.drewN j) := fun j => run_loadAt_mid _ _ _ _ _ _ (HR2.out j) Try.underlying36 rfl Try.sizeSg
        obtain ⟨xb, hxb⟩ : ∃ xb, decide (Us.at_ L k = Us.at_ M k) = xb := ⟨_, rfl⟩
        have HXB := Lib.hid hxb
        have heq : ∀ y, (Op.equalIn 10000 36 (.agg (SgA (Us.at_ L k))) (.agg (SgA (Us.at_ M k)))).run Try.prog y = .ok xb y := fun y => by rw [← hxb]; exact seg_eq _ _ y
        clear hxb HR1 HR2
        have hi0 : 0 ≤ (k : Int) := by omega
        have hi1 : (k : Int) < (n : Int) := by omega
        generalize SgA (Us.at_ L k) = X at *
        generalize SgA (Us.at_ M k) = Y at *
        go_upto_region 6 with (fail)
        refine wp_region_quiet_lit (by kernel_rfl) (by kernel_rfl) ?_
        repeat (first
          | ((with_reducible refine quiet_load _ _ ⟨ab, ao + k * 3, none⟩ X ?_ ?_ (fun y hy => by obtain ⟨j, rfl⟩ := hy; exact h1 j) ?_); (exact rfl); (exact rfl); simp only [Act.put, List.setIfInBounds_toArray, List.set_cons_zero, List.set_cons_succ])
          | ((with_reducible refine quiet_load _ _ ⟨bb, bo + k * 3, none⟩ Y ?_ ?_ (fun y hy => by obtain ⟨j, rfl⟩ := hy; exact h2 j) ?_); (exact rfl); (exact rfl); simp only [Act.put, List.setIfInBounds_toArray, List.set_cons_zero, List.set_cons_succ])
          | go_big_quiet_step ((fail)))
        refine wpQuiet_nil ?_
        rintro _ ⟨nq, rfl⟩
        cases xb with
        | true =>
          go_wp2
          refine ⟨⟨k + 1, by omega, by go_num, fun i hi => ?_, below_dn HB.out _⟩, by simp [intOf]; omega⟩
          by_cases hik : i = k
          · subst hik; exact of_decide_eq_true HXB.out
          · exact HE.out i (by omega)
        | false =>
          have hf : eb = false := by
            rw [← HEB.out]
            refine decide_eq_false fun e => ?_
            have := of_decide_eq_false HXB.out
            rw [e] at this
            exact this rfl
          subst hf
          go_wp2
          go_ret
          exact ⟨rfl, below_dn HB.out _⟩
      · have E : k = n := by omega
        have hge : n ≤ k := by omega
        have hf : eb = true := by
          rw [← HEB.out]
          exact decide_eq_true (list_eq_of HN.out HM.out (fun i hi => HE.out i (by omega)))
        subst hf
        clear hlt E
        go_wp2
        go_ret
        exact ⟨rfl, HB.out⟩
  · have hd : decide (L = M) = false := decide_eq_false fun e => hnm (by rw [← hn, ← hm, e])
    rw [hd]
    have hnm' : ¬ ((n : Int) = (m : Int)) := by omega
    clear hn hm hd
    go_enter Try.func19, Try.ntmps19
    go_wp2
    go_ret
    exact ⟨rfl, Below.refl _ _⟩
namespace Vc
def mk : Us.S := ⟨-77, 0, 0⟩
/-- The list that is lent, its first k written. -/
def ln (L : List Us.S) (n k : Nat) : List Us.S := (List.range (n + 5)).map fun j => if j < k then (if j < n then Us.at_ L j else mk) else Us.z
theorem ln_len (L : List Us.S) (n k : Nat) : (ln L n k).length = n + 5 := by unfold ln; rw [List.length_map, List.length_range]
theorem ln_at (L : List Us.S) (n k i : Nat) (hi : i < n + 5) : Us.at_ (ln L n k) i = if i < k then (if i < n then Us.at_ L i else mk) else Us.z := by
  unfold ln
  show List.getD _ _ _ = _
  rw [List.getD_eq_getElem?_getD, List.getElem?_map, List.getElem?_range hi]
  rfl
theorem ln_zero (L : List Us.S) (n : Nat) : ln L n 0 = List.replicate (n + 5) Us.z := by
  refine Us.at_ext (by rw [ln_len, List.length_replicate]) (fun i hi => ?_)
  rw [ln_len] at hi
  rw [ln_at _ _ _ _ hi, if_neg (by omega), Us.at_rep]
theorem ln_mark (L : List Us.S) (n k : Nat) (hk : k < n + 5) (hn : n ≤ k) : (ln L n k).set k mk = ln L n (k + 1) := by
  refine Us.at_ext (by rw [List.length_set, ln_len, ln_len]) (fun i hi => ?_)
  rw [List.length_set, ln_len] at hi
  rw [Us.at_set _ _ _ _ (by rw [ln_len]; exact hk), ln_at _ _ _ _ hi, ln_at _ _ _ _ hi]
  by_cases h : i = k
  · rw [if_pos h, if_pos (by omega), if_neg (by omega)]
  · rw [if_neg h]
    by_cases h2 : i < k
    · simp only [h2, show i < k + 1 by omega, if_true]
    · rw [if_neg h2, if_neg (by omega)]
theorem ln_put (L : List Us.S) (n k : Nat) (hk : k < n) : ((ln L n k).set k mk).set k (Us.at_ L k) = ln L n (k + 1) := by
  rw [List.set_set]
  refine Us.at_ext (by rw [List.length_set, ln_len, ln_len]) (fun i hi => ?_)
  rw [List.length_set, ln_len] at hi
  rw [Us.at_set _ _ _ _ (by rw [ln_len]; omega), ln_at _ _ _ _ hi, ln_at _ _ _ _ hi]
  by_cases h : i = k
  · rw [if_pos h, if_pos (by omega), if_pos (by omega), h]
  · rw [if_neg h]
    by_cases h2 : i < k
    · simp only [h2, show i < k + 1 by omega, if_true]
    · rw [if_neg h2, if_neg (by omega)]
end Vc
def LeSay (L : List Us.S) (n : Nat) (w : World) (e : Ending) (w' : World) : Prop := ∃ g, e = .returned (.slice (some ⟨g, 0, none⟩) (n + 5) (n + 5)) ∧ Hid (SgO w.heap.size w' (.slice (some ⟨g, 0, none⟩) (n + 5) (n + 5)) (Vc.ln L n (n + 5))) ∧ Hid (Below w.heap.size w w')
set_option maxHeartbeats 2000000 in
set_option maxRecDepth 100000 in
theorem lent_any (L : List Us.S) (p : Option Addr) (n c : Nat) (hn : L.length = n) (hL : n ≤ 10000) (w : World) (hp : SgS w p L) : Calls Try.prog 11 #[.slice p n c] w (LeSay L n w) := by
  have Hp := Lib.hid hp; clear hp
  have HN := Lib.hid hn; clear hn
  go_enter Try.func11, Try.ntmps11
  go_wp2_with (first
    | ((with_reducible refine make_sg _ _ (n + 5) ?_ ?_ ?_ ?_); (exact rfl); (exact rfl); (exact (by omega)); intro w2 O2 B2 Z2))
  have O2' : Hid (SgO w.heap.size w2 (.slice (some ⟨w.heap.size, 0, none⟩) (n + 5) (n + 5)) (Vc.ln L n 0)) := by
    show SgO _ _ _ _
    rw [Vc.ln_zero]
    exact O2.out
  clear O2
  obtain ⟨g, hg⟩ : ∃ g, w.heap.size = g := ⟨_, rfl⟩
  rw [hg] at O2' B2 ⊢
  go_loopw [4] (fun v4 wr => ∃ k : Nat, k ≤ n + 5 ∧ v4 = .int .i64 k ∧ Hid (SgO g wr (.slice (some ⟨g, 0, none⟩) (n + 5) (n + 5)) (Vc.ln L n k)) ∧ Hid (Below g w wr)) (fun v4 _ => n + 5 - (intOf v4).toNat)
  case atStart => exact ⟨0, Nat.zero_le _, rfl, O2', B2⟩
  case round =>
    obtain ⟨k, hk, rfl, HO, HB⟩ := hrel
    by_cases hlt : k < n + 5
    · have HK : Hid (k < (Vc.ln L n k).length) := by show _ < _; rw [Vc.ln_len]; exact hlt
      have HK2 : Hid (k < ((Vc.ln L n k).set k ⟨-77, 0, 0⟩).length) := by show _ < _; rw [List.length_set]; exact HK.out
      have hi0 : 0 ≤ (k : Int) := by omega
      have hi1 : (k : Int) < ((n : Int) + 5) := by omega
      have HMK := Lib.hid (Vc.ln_mark L n k hlt)
      have HPT := Lib.hid (Vc.ln_put L n k)
      by_cases hkn : k < n
      · obtain ⟨ab, ao, hpp, hr⟩ := Hp.out (by rw [HN.out]; omega)
        subst hpp
        have HR0 : Hid (∀ y, Below w.heap.size w y → y.rangeAt ab (ao + k * 3) (SgA (Us.at_ L k)).toList) := fun y hy => rng_old (hr k (by rw [HN.out]; exact hkn)) hy
        clear hr
        have hi2 : (k : Int) < (n : Int) := by omega
        go_wp2_with (first
          | ((with_reducible refine row_b1 _ _ _ _ ?_ (build_sg1 (-77)) ?_); (exact rfl))
          | ((with_reducible refine st_sg _ _ g g _ _ k (k * 3) rfl (Vc.ln L n k) ⟨-77, 0, 0⟩ HK.out ?_ ?_ HO.out ?_); (exact rfl); (exact rfl); intro w5 O5 C5; have B5 := Lib.hid (C5.out.below HB.out (Nat.le_refl _)); have HR := Lib.hid (HR0.out w5 (by rw [hg]; exact B5.out)))
          | ((with_reducible refine rng_load _ _ _ _ _ _ ?_ HR.out Try.underlying36 ?_ (sg_info _) ?_); (exact rfl); (exact rfl))
          | ((with_reducible refine st_sg _ _ g g _ _ k (k * 3) rfl ((Vc.ln L n k).set k ⟨-77, 0, 0⟩) (Us.at_ L k) HK2.out ?_ ?_ O5.out ?_); (exact rfl); (exact rfl); intro w6 O6 C6))
        have O7 : Hid (SgO g w6 (.slice (some ⟨g, 0, none⟩) (n + 5) (n + 5)) (Vc.ln L n (k + 1))) := by
          show SgO _ _ _ _
          rw [← HPT.out hkn]
          exact O6.out
        exact ⟨⟨k + 1, by omega, by go_num, O7, Lib.hid (C6.out.below B5.out (Nat.le_refl _))⟩, by simp [intOf]; omega⟩
      · have hi2 : ¬ (k : Int) < (n : Int) := by omega
        go_wp2_with (first
          | ((with_reducible refine row_b1 _ _ _ _ ?_ (build_sg1 (-77)) ?_); (exact rfl))
          | ((with_reducible refine st_sg _ _ g g _ _ k (k * 3) rfl (Vc.ln L n k) ⟨-77, 0, 0⟩ HK.out ?_ ?_ HO.out ?_); (exact rfl); (exact rfl); intro w5 O5 C5))
        have O7 : Hid (SgO g w5 (.slice (some ⟨g, 0, none⟩) (n + 5) (n + 5)) (Vc.ln L n (k + 1))) := by
          show SgO _ _ _ _
          rw [← HMK.out (by omega)]
          exact O5.out
        exact ⟨⟨k + 1, by omega, by go_num, O7, Lib.hid (C5.out.below HB.out (Nat.le_refl _))⟩, by simp [intOf]; omega⟩
    · have E : k = n + 5 := by omega
      subst E
      clear hlt
      go_wp2
      go_ret
      unfold LeSay
      rw [hg]
      exact ⟨g, rfl, HO, HB⟩
end Go.Proofs.Ythgjfjmampmiiaa

/-
  Contract: the reference's Choose.
-/
import Derived.Test.YtjnepegohfhgiaaRgK
namespace Go.Proofs.Ytjnepegohfhgiaa
open Go.RowKit

theorem rst_cell {w : World} {ab ao c : Nat} {L : List Rg.R} (h : Rs w (some ⟨ab, ao, none⟩) c L) {i : Nat} (hi : i < L.length) : w.cell? ⟨ab, ao + i * 136 + 1, none⟩ = some (.int .i64 (L.getD i Rg.zero).st) := by
  have h1 := h.rng hi
  refine h1 1 _ ?_
  unfold RAr cv
  rfl
theorem drew_cell {w : World} {a : Addr} {v : Value} (h : w.cell? a = some v) (n : Nat) : (w.drewN n).cell? a = some v := h
set_option maxHeartbeats 4000000 in
set_option maxRecDepth 100000 in
theorem fchoose_any (L : List Rg.R) (p : Option Addr) (n c : Nat) (hn : L.length = n) (hL : n ≤ 1000000) (lv : Int) (hlv : Pk.In64 lv) (w : World) (hp : Rs w p c L) :
    Calls Try.prog 22 #[.slice p n c, .int .i64 lv] w (ChSay (Rg.ch lv L) w) := by
  have HP := Lib.hid hp
  have HN := Lib.hid hn
  obtain ⟨Z, hZ⟩ : ∃ Z, Hid (RAr Rg.zero = Z) := ⟨_, rfl⟩
  have HZS : Hid (Z.size = 136) := by show _ = _; rw [← hZ.out]; exact rar_size Rg.ok_zero
  have HZ1 : Hid (Z.all (·.oneCell') = true) := by show _ = _; rw [← hZ.out]; exact rar_one _
  have hz := (zero_of_info Try.zeroRec).1
  have HBT := Lib.hid Try.builtRec
  rw [show (cv Rg.zero).toArray = Z from hZ.out] at hz HBT
  have hzn : ¬ Z = #[] := fun h => by have := HZS.out; rw [h] at this; simp at this
  have hsz := row_size Try.sizeRec HZS
  have HLV : Hid (Pk.In64 lv) := hlv
  have HEND : Hid (Rg.chk lv L n = Rg.ch lv L) := Rg.chk_all lv hn
  have HS : Hid (∀ k, k < n → Rg.chk lv L (k + 1) = Rg.stp lv (Rg.chk lv L k) (L.getD k Rg.zero)) := fun k hk => Rg.chk_succ lv (by omega)
  have H0 : Hid (Rg.chk lv L 0 = none) := Rg.chk_zero lv L
  rw [← HEND.out]
  clear hp hlv hn HEND
  generalize Rg.chk lv L = F at *
  obtain ⟨w1, hw1⟩ : ∃ x, x = w.alloc (.cells Z 29) := ⟨_, rfl⟩
  have B1 : Hid (Below w.heap.size w w1) := by rw [hw1]; exact (Below.refl _ w).alloc (Nat.le_refl _) _
  have R1 : Hid (w1.heap[w.heap.size]? = some (.cells Z 29 (0, 0))) := by rw [hw1]; exact heap_alloc_new w _
  go_enter Try.func22, Try.ntmps22
  go_upto_region 1 with (fail)
  change Code.wp _ _ _ _ (w.alloc (.cells Z 29))
  rw [← hw1]
  clear hw1
  go_wp2
  go_loopw [6, 7] (fun v6 v7 wr => ∃ (k : Nat) (o : Option Nat), k ≤ n ∧ v7 = .int .i64 k ∧ v6 = .int .i64 (match o with | none => -1 | some i => (i : Int)) ∧ Hid (o = none → F k = none) ∧ Hid (∀ i, o = some i → i < k ∧ F k = some (L.getD i Rg.zero)) ∧ Hid (wr.heap[w.heap.size]? = some (.cells Z 29 (0, 0))) ∧ Hid (Below w.heap.size w wr)) (fun _ v7 _ => n - (intOf v7).toNat)
  case atStart => exact ⟨0, none, by omega, rfl, rfl, fun _ => H0.out, fun i h => (by cases h), R1.out, B1.out⟩
  case round =>
    clear B1 R1
    obtain ⟨k, o, hk, rfl, rfl, HO0, HO1, R4, HB⟩ := hrel
    by_cases hlt : k < n
    · obtain ⟨ab, ao, hpp, _⟩ := HP.out.at_ (by rw [HN.out]; omega)
      subst hpp
      have ck := rst_cell (HP.out.old HB.out) (i := k) (by rw [HN.out]; exact hlt)
      have HOK : Hid (Rg.Ok (L.getD k Rg.zero)) := HP.out.getD k
      have HSK := Lib.hid (HS.out k hlt)
      have hlate := late_eq lv (L.getD k Rg.zero)
      have hi0 : 0 ≤ (k : Int) := by omega
      have hi1 : (k : Int) < (n : Int) := by omega
      have hst := HOK.out.st
      have hlv := HLV.out
      unfold Pk.In64 at hst hlv
      unfold Rg.stp at HSK
      have HX : Hid (F (k + 1) = some (L.getD k Rg.zero) → k < k + 1 ∧ F (k + 1) = some (L.getD k Rg.zero)) := fun h => ⟨Nat.lt_succ_self k, h⟩
      have HTK : Hid (F (k + 1) = some (L.getD k Rg.zero) → (∀ i, some k = some i → i < k + 1 ∧ F (k + 1) = some (L.getD i Rg.zero))) := fun h i hi => by cases hi; exact ⟨Nat.lt_succ_self k, h⟩
      have HKP : Hid (F (k + 1) = F k → (o = none → F (k + 1) = none) ∧ (∀ i, o = some i → i < k + 1 ∧ F (k + 1) = some (L.getD i Rg.zero))) := fun h => ⟨fun q => by rw [h]; exact HO0.out q, fun i q => by rw [h]; exact ⟨Nat.lt_succ_of_lt (HO1.out i q).1, (HO1.out i q).2⟩⟩
      by_cases h2 : lv < (L.getD k Rg.zero).st
      · have hw : IntKind.i64.wrap ((L.getD k Rg.zero).st - 1) = (L.getD k Rg.zero).st - 1 := IntWalk.i64_in _ ⟨by omega, by omega⟩
        have hg : (L.getD k Rg.zero).st > lv := h2
        rw [decide_eq_true h2, Bool.true_and] at hlate
        by_cases h3 : lv < (L.getD k Rg.zero).st - 1
        · have hg3 : (L.getD k Rg.zero).st - 1 > lv := h3
          rw [decide_eq_true h3] at hlate
          rw [hlate, if_pos rfl] at HSK
          have HE := Lib.hid (HKP.out HSK.out)
          clear hlate HSK HX HTK HKP HO0 HO1 HS hst hlv h2 h3 HOK
          generalize (L.getD k Rg.zero).st = st at *
          go_wp2
          exact ⟨⟨k + 1, o, by omega, by go_num, rfl, HE.out.1, HE.out.2, R4.out, HB.out⟩, by simp [intOf]; omega⟩
        · have hg3 : ¬ (L.getD k Rg.zero).st - 1 > lv := h3
          have hlate2 : Rg.late lv (L.getD k Rg.zero) = false := by rw [hlate, decide_eq_false h3]
          rw [hlate2, if_neg (by decide)] at HSK
          clear hlate hlate2 hst hlv HS HX
          cases o with
          | none =>
            rw [HO0.out rfl] at HSK
            have HE := Lib.hid (HTK.out HSK.out)
            clear HSK HTK HKP HO0 HO1 HOK
            generalize (L.getD k Rg.zero).st = st at *
            go_upto_region 6 with (fail)
            go_quiet ((fail))
            go_wp2
            exact ⟨⟨k + 1, some k, by omega, by go_num, rfl, fun h => (by cases h), HE.out, R4.out, below_dn HB.out _⟩, by simp [intOf]; omega⟩
          | some i =>
            obtain ⟨hik, hFi⟩ := HO1.out i rfl
            have ci := rst_cell (HP.out.old HB.out) (i := i) (by rw [HN.out]; omega)
            have hj0 : 0 ≤ (i : Int) := by omega
            have hj1 : (i : Int) < (n : Int) := by omega
            have hj2 : ¬ (i : Int) < 0 := by omega
            rw [hFi] at HSK
            by_cases hb : (L.getD i Rg.zero).st < (L.getD k Rg.zero).st
            · rw [show Rg.better (some (L.getD i Rg.zero)) (L.getD k Rg.zero) = true from decide_eq_true hb, if_pos rfl] at HSK
              have hb2 : (L.getD k Rg.zero).st > (L.getD i Rg.zero).st := hb
              have HE := Lib.hid (HTK.out HSK.out)
              clear HSK HTK HKP HO0 HO1 HOK hFi hb
              generalize (L.getD k Rg.zero).st = st at *
              generalize (L.getD i Rg.zero).st = sti at *
              go_upto_region 6 with (fail)
              go_quiet ((fail))
              go_wp2
              exact ⟨⟨k + 1, some k, by omega, by go_num, rfl, fun h => (by cases h), HE.out, R4.out, below_dn HB.out _⟩, by simp [intOf]; omega⟩
            · rw [show Rg.better (some (L.getD i Rg.zero)) (L.getD k Rg.zero) = false from decide_eq_false hb, if_neg (by decide), ← hFi] at HSK
              have hb2 : ¬ (L.getD k Rg.zero).st > (L.getD i Rg.zero).st := hb
              have HE := Lib.hid (HKP.out HSK.out)
              clear HSK HTK HKP HO0 HO1 HOK hFi hb
              generalize (L.getD k Rg.zero).st = st at *
              generalize (L.getD i Rg.zero).st = sti at *
              go_upto_region 6 with (fail)
              go_quiet ((fail))
              go_wp2
              exact ⟨⟨k + 1, some i, by omega, by go_num, rfl, HE.out.1, HE.out.2, R4.out, below_dn HB.out _⟩, by simp [intOf]; omega⟩
      · have hg : ¬ (L.getD k Rg.zero).st > lv := h2
        have hlate2 : Rg.late lv (L.getD k Rg.zero) = false := by rw [hlate, decide_eq_false h2, Bool.false_and]
        rw [hlate2, if_neg (by decide)] at HSK
        clear hlate hlate2 hst hlv HS HX
        cases o with
        | none =>
          rw [HO0.out rfl] at HSK
          have HE := Lib.hid (HTK.out HSK.out)
          clear HSK HTK HKP HO0 HO1 HOK
          generalize (L.getD k Rg.zero).st = st at *
          go_upto_region 6 with (fail)
          go_quiet ((fail))
          go_wp2
          exact ⟨⟨k + 1, some k, by omega, by go_num, rfl, fun h => (by cases h), HE.out, R4.out, below_dn HB.out _⟩, by simp [intOf]; omega⟩
        | some i =>
          obtain ⟨hik, hFi⟩ := HO1.out i rfl
          have ci := rst_cell (HP.out.old HB.out) (i := i) (by rw [HN.out]; omega)
          have hj0 : 0 ≤ (i : Int) := by omega
          have hj1 : (i : Int) < (n : Int) := by omega
          have hj2 : ¬ (i : Int) < 0 := by omega
          rw [hFi] at HSK
          by_cases hb : (L.getD i Rg.zero).st < (L.getD k Rg.zero).st
          · rw [show Rg.better (some (L.getD i Rg.zero)) (L.getD k Rg.zero) = true from decide_eq_true hb, if_pos rfl] at HSK
            have hb2 : (L.getD k Rg.zero).st > (L.getD i Rg.zero).st := hb
            have HE := Lib.hid (HTK.out HSK.out)
            clear HSK HTK HKP HO0 HO1 HOK hFi hb
            generalize (L.getD k Rg.zero).st = st at *
            generalize (L.getD i Rg.zero).st = sti at *
            go_upto_region 6 with (fail)
            go_quiet ((fail))
            go_wp2
            exact ⟨⟨k + 1, some k, by omega, by go_num, rfl, fun h => (by cases h), HE.out, R4.out, below_dn HB.out _⟩, by simp [intOf]; omega⟩
          · rw [show Rg.better (some (L.getD i Rg.zero)) (L.getD k Rg.zero) = false from decide_eq_false hb, if_neg (by decide), ← hFi] at HSK
            have hb2 : ¬ (L.getD k Rg.zero).st > (L.getD i Rg.zero).st := hb
            have HE := Lib.hid (HKP.out HSK.out)
            clear HSK HTK HKP HO0 HO1 HOK hFi hb
            generalize (L.getD k Rg.zero).st = st at *
            generalize (L.getD i Rg.zero).st = sti at *
            go_upto_region 6 with (fail)
            go_quiet ((fail))
            go_wp2
            exact ⟨⟨k + 1, some i, by omega, by go_num, rfl, HE.out.1, HE.out.2, R4.out, below_dn HB.out _⟩, by simp [intOf]; omega⟩
    · obtain rfl : k = n := by omega
      have hge : ¬ (k : Int) < (k : Int) := by omega
      clear hlt HS
      cases o with
      | none =>
        have HFN := Lib.hid (HO0.out rfl)
        have HRV : Hid (RV ((none : Option Rg.R).getD Rg.zero) = .agg Z) := by show RV Rg.zero = _; rw [rv_eq, hZ.out]
        go_wp2_with (first
          | ((with_reducible refine row_build0 _ _ HBT.out ?_))
          | ((with_reducible refine row_store _ _ _ _ _ _ _ ?_ ?_ R4.out (row_size Try.sizeRec HZS) ?_ HZ1.out ?_); (exact rfl); (exact rfl); (exact rfl); intro w9 G9 ch9))
        refine bodyPost_ret (results_cell_tmp rfl _ _ w.heap.size 29 Z (0, 0) _ rfl G9.out Try.underlying29 rfl (row_size Try.sizeRec HZS)) rfl ⟨?_, ch9.below HB.out (Nat.le_refl _)⟩
        rw [HFN.out, HRV.out]; rfl
      | some i =>
        obtain ⟨hik, hFi⟩ := HO1.out i rfl
        obtain ⟨ab, ao, hpp, _⟩ := HP.out.at_ (by rw [HN.out]; omega)
        subst hpp
        have HR : Hid (wr.rangeAt ab (ao + i * 136) (RAr (L.getD i Rg.zero)).toList) := (HP.out.old HB.out).rng (by rw [HN.out]; exact hik)
        have HOK : Hid (Rg.Ok (L.getD i Rg.zero)) := HP.out.getD i
        have HXS : Hid ((RAr (L.getD i Rg.zero)).size = 136) := rar_size HOK.out
        have HX1 : Hid ((RAr (L.getD i Rg.zero)).all (·.oneCell') = true) := rar_one _
        have HRV : Hid (RV ((some (L.getD i Rg.zero)).getD Rg.zero) = .agg (RAr (L.getD i Rg.zero))) := rv_eq _
        have hj0 : 0 ≤ (i : Int) := by omega
        have hj1 : (i : Int) < (k : Int) := by omega
        have hj2 : ¬ (i : Int) < 0 := by omega
        have HFN := Lib.hid hFi
        clear hFi HO0 HO1 HOK
        generalize RAr (L.getD i Rg.zero) = A at *
        go_wp2_with (first
          | ((with_reducible refine rng_load _ _ _ _ _ _ ?_ HR.out Try.underlying29 ?_ (row_size Try.sizeRec HXS) ?_); (exact rfl); (exact rfl))
          | ((with_reducible refine row_store _ _ _ _ _ _ _ ?_ ?_ R4.out (row_size Try.sizeRec HXS) ?_ HX1.out ?_); (exact rfl); (exact rfl); (rw [HXS.out, HZS.out]); intro w9 G9 ch9))
        refine bodyPost_ret (results_cell_tmp rfl _ _ w.heap.size 29 A (0, 0) _ rfl G9.out Try.underlying29 rfl (row_size Try.sizeRec HXS)) rfl ⟨?_, ch9.below HB.out (Nat.le_refl _)⟩
        rw [HFN.out, HRV.out]; rfl
end Go.Proofs.Ytjnepegohfhgiaa

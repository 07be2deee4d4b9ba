/-
  The law RegionForms walked.
-/
import Derived.Test.YtjnepegohfhgiaaRgQ
namespace Go.Proofs.Ytjnepegohfhgiaa
open Go.RowKit

set_option maxHeartbeats 2000000 in
set_option maxRecDepth 100000 in
theorem forms_any (L : List Int) (p : Option Addr) (n c : Nat) (hn : L.length = n) (w : World) (hp : Bs w p c L) :
    Calls Try.prog 7 #[.slice p n c] w (YesSay w) := by
  by_cases hlong : 4096 < n
  · have hl : (n : Int) > 4096 := by omega
    go_enter Try.func7, Try.ntmps7
    go_wp2_with (go_at_call 15; refine (works_any _).mono ?_; rintro e1 w1 ⟨rfl, hb1⟩)
    go_ret
    exact ⟨rfl, hb1⟩
  · have hl : ¬ (n : Int) > 4096 := by omega
    have HBY := hp.bat.1
    have HC : Hid (∀ y, Below w.heap.size w y → Calls Try.prog 17 #[.slice p n c] y (fun e w' => e = .returned (.tuple #[.agg (RAr (Rg.gt L)), .int .i64 (Rg.er L)]) ∧ Hid (Below y.heap.size y w'))) := fun y hy => by
      have h := gget_any L p n c hn (by omega) y (hp.old hy)
      unfold GotSay at h
      rw [rv_eq] at h
      exact h
    have HOK : Rg.Ok (Rg.gt L) := Rg.gt_ok HBY
    have HAS : Hid ((RAr (Rg.gt L)).size = 136) := rar_size HOK
    have HA1 : Hid ((RAr (Rg.gt L)).all (·.oneCell') = true) := rar_one _
    obtain ⟨Z, hZ⟩ : ∃ Z, Hid (RAr Rg.zero = Z) := ⟨_, rfl⟩
    have HZS : Hid (Z.size = 136) := by show _ = _; rw [← hZ.out]; exact rar_size Rg.ok_zero
    have hz := (zero_of_info Try.zeroRec).1
    have HBT := Lib.hid Try.builtRec
    rw [show (cv Rg.zero).toArray = Z from hZ.out] at hz HBT
    have hzn : ¬ Z = #[] := fun h => by have := HZS.out; rw [h] at this; simp at this
    have hsz := row_size Try.sizeRec HZS
    by_cases he : Rg.er L = 0
    · have ho := Rg.only HBY he
      have hlen := Rg.er_len he
      have HP : Hid (∀ y, Calls Try.prog 11 #[.agg (RAr (Rg.gt L))] y (GPutYes L y)) := fun y => by
        have h := gput_yes (Rg.gt L) HOK ho.1 y
        rw [ho.2, rv_eq] at h
        exact h
      have HS : Hid (∀ y q d, Below w.heap.size w y → Bs y q d L → Calls Try.prog 13 #[.slice q 192 d, .slice p n c] y (YesSay y)) := fun y q d hy hq => same_any L q p 192 n d c hlen hn y hq.bat (hp.old hy).bat (by omega)
      rw [he] at HC
      clear he HOK ho hlen hp hn HBY
      generalize RAr (Rg.gt L) = A at *
      go_enter Try.func7, Try.ntmps7
      go_upto_region 4 with (first
        | (go_at_call 17; refine (HC.out _ (Below.refl _ _)).mono ?_; rintro e1 w1 ⟨rfl, HB1⟩)
        | ((with_reducible refine row_store _ _ _ _ _ _ _ ?_ ?_ (heap_alloc_new _ _) (row_size Try.sizeRec HAS) ?_ HA1.out ?_); (exact rfl); (exact rfl); (rw [HAS.out, HZS.out]); intro w2 G2 ch2))
      have HB2 : Hid (Below w.heap.size w w2) := ch2.below (HB1.out.alloc HB1.out.size _) HB1.out.size
      go_wp2_with (first
        | ((with_reducible refine row_load _ _ _ _ _ _ _ ?_ G2.out Try.underlying29 ?_ (row_size Try.sizeRec HAS) ?_); (exact rfl); (exact rfl))
        | (go_at_call 11; refine (HP.out _).mono ?_; rintro e3 w3 ⟨p3, c3, rfl, HO3, HS3, HB3⟩; have HB4 := Lib.hid (HB2.out.trans (HB3.out.mono HB2.out.size)))
        | (go_at_call 13; refine (HS.out _ _ _ HB4.out HS3.out).mono ?_; rintro e5 w5 ⟨rfl, hb5⟩; have HB5 := Lib.hid (HB4.out.trans (hb5.mono HB4.out.size)); clear hb5)
        | (go_at_call 15; refine (works_any _).mono ?_; rintro e6 w6 ⟨rfl, hb6⟩; have HB6 := Lib.hid (HB5.out.trans (hb6.mono HB5.out.size)); clear hb6))
      go_ret
      exact ⟨rfl, HB6.out⟩
    · have hb0 : (Rg.er L == 0) = false := by simpa using he
      have hb1 : (Rg.er L != 0) = true := by simpa using he
      have HEQ : Hid (∀ y, (Op.equalIn 10000 29 (.agg (RAr (Rg.gt L))) (.agg Z)).run Try.prog y = .ok true y) := fun y => by
        have h := rec_eqs (Rg.gt L) Rg.zero HOK Rg.ok_zero y
        rw [decide_eq_true (Rg.gt_none he), hZ.out] at h
        exact h
      have heq := HEQ.out
      clear he HOK hp hn HBY
      generalize RAr (Rg.gt L) = A at *
      generalize Rg.er L = er at *
      go_enter Try.func7, Try.ntmps7
      go_upto_region 4 with (first
        | (go_at_call 17; refine (HC.out _ (Below.refl _ _)).mono ?_; rintro e1 w1 ⟨rfl, HB1⟩)
        | ((with_reducible refine row_store _ _ _ _ _ _ _ ?_ ?_ (heap_alloc_new _ _) (row_size Try.sizeRec HAS) ?_ HA1.out ?_); (exact rfl); (exact rfl); (rw [HAS.out, HZS.out]); intro w2 G2 ch2))
      have HB2 : Hid (Below w.heap.size w w2) := ch2.below (HB1.out.alloc HB1.out.size _) HB1.out.size
      go_wp2_with (first
        | ((with_reducible refine row_load _ _ _ _ _ _ _ ?_ G2.out Try.underlying29 ?_ (row_size Try.sizeRec HAS) ?_); (exact rfl); (exact rfl))
        | ((with_reducible refine row_build0 _ _ HBT.out ?_))
        | (go_at_call 15; refine (works_any _).mono ?_; rintro e6 w6 ⟨rfl, hb6⟩; have HB6 := Lib.hid (HB2.out.trans (hb6.mono HB2.out.size)); clear hb6))
      go_ret
      exact ⟨rfl, HB6.out⟩
end Go.Proofs.Ytjnepegohfhgiaa

/-
  Contracts: may.
-/
import Derived.Test.YtgfnpofoedambaaPgD
namespace Go.Proofs.Ytgfnpofoedambaa
open Go.RowKit

set_option maxHeartbeats 1000000 in
set_option maxRecDepth 100000 in
theorem may_any (i : Int) (R : List Pg.Rf) (h : Pg.OkA R) (w : World) : Calls Try.prog 25 #[.int .i64 i, PV R] w (BoSay (Pg.nd i R) w) := by
  obtain ⟨A, RA, eA, hk⟩ := pgk h
  rw [eA]
  have HAS := Lib.hid hk.size
  have hsz := row_size Try.sizePage HAS
  have h1 := hk.one
  have HK := Lib.hid hk
  have HC : Hid (∀ k, k < 8 → ∀ y, Calls Try.prog 39 #[.agg (RA k)] y (BoSay (Pg.mb (R.getD k Pg.zr)) y)) := fun k hk8 y => by
    have := right_any (R.getD k Pg.zr) (Pg.ok_at h k) y
    rw [hk.val k hk8] at this
    exact this
  have R0 : Hid ((w.alloc (.cells A 28)).heap[w.heap.size]? = some (.cells A 28 (0, 0))) := heap_alloc_new w _
  have B0 : Hid (Below w.heap.size w (w.alloc (.cells A 28))) := (Below.refl _ w).alloc (Nat.le_refl _) _
  have HR := Lib.hid h
  have HIN : Hid ((∀ j, j < 8 → Pg.mb (R.getD j Pg.zr) = true) → Pg.nd i R = decide (0 ≤ i ∧ i ≤ 8)) := nd_all h
  clear hk h eA
  obtain ⟨q, hq⟩ : ∃ q : Bool, Hid (Pg.nd i R = q) := ⟨_, rfl⟩
  rw [hq.out]
  go_enter Try.func25, Try.ntmps25
  go_wp2
  go_loopw [5] (fun v5 wr => ∃ k : Nat, k ≤ 8 ∧ v5 = .int .i64 k ∧ Hid (∀ j, j < k → Pg.mb (R.getD j Pg.zr) = true) ∧ Hid (Below w.heap.size w wr) ∧ Hid (wr.heap[w.heap.size]? = some (.cells A 28 (0, 0)))) (fun v5 _ => 8 - (intOf v5).toNat)
  case atStart => exact ⟨0, by omega, rfl, fun j hj => by omega, B0.out, R0.out⟩
  case round =>
    clear B0 R0
    obtain ⟨k, hk, rfl, HM, HB, HG⟩ := hrel
    by_cases hlt : k < 8
    · have hx : (k : Int) < 8 := by omega
      have hx0 : (0 : Int) ≤ (k : Int) := by omega
      have RS : Hid ((RA k).size = 33) := HK.out.rsize k hlt
      have RR : Hid (wr.rangeAt w.heap.size (k * 33) (RA k).toList) := HK.out.rng k hlt wr _ _ HG.out
      have RC := Lib.hid (HC.out k hlt)
      cases hm : Pg.mb (R.getD k Pg.zr) with
      | false =>
        obtain rfl : q = false := by rw [← hq.out]; exact nd_one HR.out k hlt hm
        rw [hm] at RC
        clear hm HM HIN
        generalize RA k = rk at *
        clear HK HC hlt HR HAS hsz h1 hq
        go_wp2_with (first
          | ((with_reducible refine rng_load _ _ w.heap.size (k * 33) rk _ ?_ RR.out Try.underlying25 ?_ (row_size Try.sizeRef RS) ?_); (go_simp); (exact rfl))
          | (go_at_call 39; refine (RC.out _).mono ?_; rintro e3 w3 ⟨rfl, HB3⟩))
        have HB4 := Lib.hid (HB.out.trans (HB3.out.mono HB.out.size))
        go_ret
        exact ⟨rfl, HB4.out⟩
      | true =>
        have HM2 : Hid (∀ j, j < k + 1 → Pg.mb (R.getD j Pg.zr) = true) := fun j hj => by
          by_cases e : j = k
          · rw [e]; exact hm
          · exact HM.out j (by omega)
        rw [hm] at RC
        clear hm HM
        generalize RA k = rk at *
        clear HK HC hlt HR HAS hsz h1 hq HIN
        go_wp2_with (first
          | ((with_reducible refine rng_load _ _ w.heap.size (k * 33) rk _ ?_ RR.out Try.underlying25 ?_ (row_size Try.sizeRef RS) ?_); (go_simp); (exact rfl))
          | (go_at_call 39; refine (RC.out _).mono ?_; rintro e3 w3 ⟨rfl, HB3⟩))
        have HB4 := Lib.hid (HB.out.trans (HB3.out.mono HB.out.size))
        have HG4 := Lib.hid ((HB3.out.block _ (lt_of_block HG.out)).trans HG.out)
        exact ⟨⟨k + 1, by omega, by go_num, HM2.out, HB4.out, HG4.out⟩, by simp [intOf]; omega⟩
    · obtain rfl : k = 8 := by omega
      have HQ : Hid (q = decide (0 ≤ i ∧ i ≤ 8)) := by show _ = _; rw [← hq.out]; exact HIN.out HM.out
      clear hlt HK HC hq HIN
      by_cases hlo : i < 0
      · obtain rfl : q = false := by rw [HQ.out]; exact decide_eq_false (by omega)
        have hlo' : ¬ i ≥ 0 := by omega
        go_wp2
        go_ret
        exact ⟨rfl, HB.out⟩
      · have hlo' : i ≥ 0 := by omega
        by_cases hhi : i ≤ 8
        · obtain rfl : q = true := by rw [HQ.out]; exact decide_eq_true ⟨by omega, by omega⟩
          clear hlo
          go_wp2
          go_ret
          exact ⟨rfl, HB.out⟩
        · obtain rfl : q = false := by rw [HQ.out]; exact decide_eq_false (by omega)
          clear hlo
          go_wp2
          go_ret
          exact ⟨rfl, HB.out⟩
end Go.Proofs.Ytgfnpofoedambaa

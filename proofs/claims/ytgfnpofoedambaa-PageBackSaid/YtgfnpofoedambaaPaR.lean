/-
  Contract of the reference's reader: Sum.
-/
import Derived.Test.YtgfnpofoedambaaPaQ
namespace Go.Proofs.Ytgfnpofoedambaa
open Go.RowKit

namespace Pk
def ts (L : List Int) (k : Nat) : List Int := L.take k ++ List.replicate (32 - k) 0
theorem ts_zero (L : List Int) : (ts L 0).map (Value.int .u8) = List.replicate 32 (Value.int .u8 0) := by simp [ts]
theorem ts_len (L : List Int) (h : L.length = 32) (k : Nat) (hk : k ≤ 32) : (ts L k).length = 32 := by simp [ts]; omega
theorem ts_all (L : List Int) (h : L.length = 32) : ts L 32 = L := by unfold ts; rw [List.take_of_length_le (by omega)]; simp
theorem ts_step (L : List Int) (h : L.length = 32) (k : Nat) (hk : k < 32) : (ts L k).set k (L.getD k 0) = ts L (k + 1) := by
  unfold ts
  have hl : (L.take k).length = k := by simp; omega
  rw [List.set_append_right _ _ (by omega), hl, Nat.sub_self, show 32 - k = (32 - (k + 1)) + 1 by omega, List.replicate_succ, List.set_cons_zero, ← take_snoc L k (by omega), List.append_assoc]
  rfl
attribute [irreducible] ts
end Pk
set_option maxHeartbeats 1000000 in
set_option maxRecDepth 100000 in
theorem fsum_any (L : List Int) (b : Bool) (g : Nat) (D : Option Nat) (n : Nat) (hn : L.length = n) (w : World) (hr : RfRd w g D L b) :
    Calls Try.prog 48 #[.pointer (some ⟨g, 0, none⟩)] w (RfSay (A32 (Pk.vs L)) (Pk.nx 32 L) (Pk.nb 32 L b) g D w) := by
  have HN := Lib.hid hn
  have HGL : Hid (g < w.heap.size) := hr.glt
  have HDL : Hid (D ≠ some w.heap.size ∧ D ≠ some (w.heap.size + 1)) := ⟨fun h => by have h1 := hr.lt _ h; omega, fun h => by have h1 := hr.lt _ h; omega⟩
  have B0 : Hid (Below w.heap.size w ((w.alloc (.cells Z32 23)).alloc (.cells Z32 23))) := ((Below.refl _ w).alloc (Nat.le_refl _) _).alloc (by simp) _
  have R0 : Hid (((w.alloc (.cells Z32 23)).alloc (.cells Z32 23)).heap[w.heap.size]? = some (.cells Z32 23 (0, 0))) := heap_alloc2_old w _ _
  have S0 : Hid (((w.alloc (.cells Z32 23)).alloc (.cells Z32 23)).heap[w.heap.size + 1]? = some (.cells Z32 23 (0, 0))) := heap_alloc2_new w _ _
  have HR0 := Lib.hid (hr.old B0.out)
  have HZS : Hid (Z32.size = 32) := rfl
  have HZ1 : Hid (Z32.all (·.oneCell') = true) := z32_one
  by_cases hlt : n < 32
  · have HV : Hid (A32 (Pk.vs L) = .agg Z32) := by show _ = _; unfold Pk.vs; rw [HN.out, if_pos hlt]; unfold A32 Z32; rfl
    have HX : Hid (Pk.nx 32 L = []) := by show _ = _; unfold Pk.nx; rw [HN.out, if_pos hlt]
    have HB : Hid (Pk.nb 32 L b = true) := by show _ = _; unfold Pk.nb; rw [HN.out, if_pos hlt]
    rw [HV.out, HX.out, HB.out]
    clear HV HX HB
    go_enter Try.func48, Try.ntmps48
    go_upto_region 2 with (fail)
    change Code.wp _ _ _ _ ((w.alloc (.cells Z32 23)).alloc (.cells Z32 23))
    obtain ⟨w0, hw0⟩ : ∃ x, x = ((w.alloc (.cells Z32 23)).alloc (.cells Z32 23)) := ⟨_, rfl⟩
    rw [← hw0] at B0 R0 S0 HR0 ⊢
    clear hw0
    have HC := Lib.hid (next_short L b g D n 32 hn hlt w0 HR0.out)
    clear hr hn HN HR0
    generalize Z32 = Z at *
    go_wp2_with (go_at_call 46; refine HC.out.mono ?_; rintro e1 w1 ⟨rfl, HR1, HO1⟩)
    have R1 := Lib.hid ((HO1.out.block _ (lt_of_block R0.out) (Nat.ne_of_gt HGL.out)).trans R0.out)
    have S1 := Lib.hid ((HO1.out.block _ (lt_of_block S0.out) (by have := HGL.out; omega)).trans S0.out)
    go_loopw [6] (fun u6 wr => u6 = .int .i64 0 ∧ wr = w1) (fun _ _ => 0)
    case atStart => exact ⟨rfl, rfl⟩
    case round =>
      obtain ⟨rfl, rfl⟩ := hrel
      go_wp2_with (first
        | ((with_reducible refine row_load _ _ _ _ _ _ _ ?_ S1.out Try.underlying23 ?_ (row_size Try.sizeSum HZS) ?_); (exact rfl); (exact rfl))
        | ((with_reducible refine row_store _ _ _ _ _ _ _ ?_ ?_ R1.out (row_size Try.sizeSum HZS) ?_ HZ1.out ?_); (exact rfl); (exact rfl); (exact rfl); intro w6 G6 ch6))
      refine bodyPost_ret (results_cell_row rfl _ _ w.heap.size 23 Z (0, 0) _ rfl G6.out Try.underlying23 rfl (row_size Try.sizeSum HZS)) rfl ⟨rfl, ?_, ?_⟩
      · exact HR1.out.only ch6.only (Nat.ne_of_gt HGL.out) HDL.out.1
      · exact (Only.behind B0.out HO1.out).new ch6.only (Nat.le_refl _)
  · have hbf := hr.ok (by omega)
    subst hbf
    have HX : Hid (Pk.nx 32 L = L.drop 32) := by show _ = _; unfold Pk.nx; rw [HN.out, if_neg hlt]
    have HB : Hid (Pk.nb 32 L false = false) := by show _ = _; unfold Pk.nb; rw [HN.out, if_neg hlt]
    have HV : Hid (Pk.vs L = L.take 32) := by show _ = _; unfold Pk.vs; rw [HN.out, if_neg hlt]
    rw [HX.out, HB.out, HV.out]
    clear HX HB HV
    have HTL : Hid ((L.take 32).length = 32) := by show _ = _; rw [List.length_take]; omega
    obtain ⟨X, HXe⟩ : ∃ X, Hid (L.drop 32 = X) := ⟨_, rfl⟩
    obtain ⟨Y, HYe⟩ : ∃ Y, Hid (L.take 32 = Y) := ⟨_, rfl⟩
    rw [HXe.out, HYe.out]
    obtain ⟨A, HA, HA2, HA3⟩ : ∃ A : Array Value, Hid (A32 Y = .agg A) ∧ Hid (A.size = 32) ∧ Hid (A.all (·.oneCell') = true) := a32_agg Y (by rw [← HYe.out]; exact HTL.out)
    have HAY : Hid (A = ((Pk.ts Y 32).map (Value.int .u8)).toArray) := by
      have h := HA.out
      unfold A32 at h
      cases h
      show _ = _
      rw [Pk.ts_all Y (by rw [← HYe.out]; exact HTL.out)]
    rw [HA.out]
    clear HA
    go_enter Try.func48, Try.ntmps48
    go_upto_region 2 with (fail)
    change Code.wp _ _ _ _ ((w.alloc (.cells Z32 23)).alloc (.cells Z32 23))
    obtain ⟨w0, hw0⟩ : ∃ x, x = ((w.alloc (.cells Z32 23)).alloc (.cells Z32 23)) := ⟨_, rfl⟩
    rw [← hw0] at B0 R0 S0 HR0 ⊢
    clear hw0
    have HC := Lib.hid (next_good L false g D n 32 hn (by omega) (by omega) w0 HR0.out)
    unfold NxGood at HC
    rw [HXe.out, HYe.out] at HC
    rw [HYe.out] at HTL
    have S0' : Hid (w0.heap[w.heap.size + 1]? = some (.cells ((Pk.ts Y 0).map (Value.int .u8)).toArray 23 (0, 0))) := by
      show _ = _
      rw [Pk.ts_zero]
      exact S0.out
    clear hr hn HN HR0 HXe HYe S0
    generalize Z32 = Z at *
    go_wp2_with (go_at_call 46; refine HC.out.mono ?_; rintro e1 w1 ⟨ab, o, c, rfl, HT1, HR1, HO1, HD1⟩)
    have R1 := Lib.hid ((HO1.out.block _ (lt_of_block R0.out) (Nat.ne_of_gt HGL.out)).trans R0.out)
    have S1 := Lib.hid ((HO1.out.block _ (lt_of_block S0'.out) (by have := HGL.out; omega)).trans S0'.out)
    go_loopw [6] (fun u6 wr => ∃ k : Nat, k ≤ 32 ∧ u6 = .int .i64 k ∧ Hid (wr.heap[w.heap.size + 1]? = some (.cells ((Pk.ts Y k).map (Value.int .u8)).toArray 23 (0, 0))) ∧ Hid (Chg (w.heap.size + 1) w1 wr)) (fun u6 _ => 32 - (intOf u6).toNat)
    case atStart => exact ⟨0, by omega, rfl, S1.out, Chg.refl _ _⟩
    case round =>
      obtain ⟨k, hk, rfl, HG, HH⟩ := hrel
      by_cases hl : k < 32
      · have HTr : Hid (Bs wr (some ⟨ab, o, none⟩) c Y) := HT1.out.only HH.out.only (fun ad h e => by cases h; exact HDL.out.2 (by rw [HD1.out]; exact congrArg some e))
        obtain ⟨ab', o', hpp, hcs⟩ := HTr.out.bat.2 (by rw [HTL.out]; omega)
        cases hpp
        have c0 := hcs k (by rw [HTL.out]; exact hl)
        clear hcs
        have HS := Lib.hid (Pk.ts_step Y HTL.out k hl)
        have c1 := row_cell HG.out k (by rw [Pk.ts_len Y HTL.out k hk]; exact hl)
        have f1 := frozen_of_row wr (w.heap.size + 1) k _ _ HG.out
        obtain ⟨x, hx⟩ : ∃ x, Y.getD k 0 = x := ⟨_, rfl⟩
        rw [hx] at c0 HS
        generalize (Pk.ts Y k).getD k 0 = y at c1
        have hx7 : (k : Int) < 32 := by omega
        have hx0 : (0 : Int) ≤ (k : Int) := by omega
        clear hx
        go_wp2
        refine ⟨⟨k + 1, by omega, by go_num, ?_, HH.out.trans (Chg.setCell wr ⟨w.heap.size + 1, k, none⟩ _)⟩, by simp [intOf]; omega⟩
        have h2 := set_u8' (i := k) (x := x) HG.out
        rw [HS.out] at h2
        exact h2
      · obtain rfl : k = 32 := by omega
        have HG2 : Hid (wr.heap[w.heap.size + 1]? = some (.cells A 23 (0, 0))) := by rw [HAY.out]; exact HG.out
        have R2 : Hid (wr.heap[w.heap.size]? = some (.cells Z 23 (0, 0))) := (HH.out.block _ (by omega)).trans R1.out
        clear hl
        go_wp2_with (first
          | ((with_reducible refine row_load _ _ _ _ _ _ _ ?_ HG2.out Try.underlying23 ?_ (row_size Try.sizeSum HA2) ?_); (exact rfl); (exact rfl))
          | ((with_reducible refine row_store _ _ _ _ _ _ _ ?_ ?_ R2.out (row_size Try.sizeSum HA2) ?_ HA3.out ?_); (exact rfl); (exact rfl); (rw [HA2.out, HZS.out]); intro w6 G6 ch6))
        refine bodyPost_ret (results_cell_row rfl _ _ w.heap.size 23 A (0, 0) _ rfl G6.out Try.underlying23 rfl (row_size Try.sizeSum HA2)) rfl ⟨rfl, ?_, ?_⟩
        · exact (HR1.out.only HH.out.only (by have := HGL.out; omega) HDL.out.2).only ch6.only (Nat.ne_of_gt HGL.out) HDL.out.1
        · exact ((Only.behind B0.out HO1.out).new HH.out.only (Nat.le_succ _)).new ch6.only (Nat.le_refl _)
end Go.Proofs.Ytgfnpofoedambaa

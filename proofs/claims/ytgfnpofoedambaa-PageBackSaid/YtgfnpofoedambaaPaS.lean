/-
  Contract of the reference's reader: Ref.
-/
import Derived.Test.YtgfnpofoedambaaPaR
namespace Go.Proofs.Ytgfnpofoedambaa
open Go.RowKit

theorem RfRd.mark {w : World} {g : Nat} {D : Option Nat} {L : List Int} {b : Bool} (h : RfRd w g D L b) :
    (∃ v, w.cell? ⟨g, 2, none⟩ = some v) ∧ w.frozen? ⟨g, 2, none⟩ = false ∧ RfRd (w.setCell ⟨g, 2, none⟩ (.bool true)) g D [] true := by
  obtain ⟨⟨p, c, a, B, h1, h2, h3, h6, h7, h8, h9⟩, h4, h5⟩ := h
  refine ⟨⟨.bool b, by rw [cell_of_row w g 2 _ _ _ h1]; rfl⟩, frozen_of_row w g 2 _ _ h1, ⟨p, c, a, B, ?_, h2.only (Chg.setCell w ⟨g, 2, none⟩ _).only (fun ad h e => h4 (by rw [h9 ad h, e])), h3, h6, fun h => (by cases h), fun _ => rfl, h9⟩, h4, fun d hd => by simpa using h5 d hd⟩
  rw [heap_setCell_same w g 2 _ _ _ h1]
  rfl
set_option maxHeartbeats 1000000 in
set_option maxRecDepth 100000 in
theorem fref_any (L : List Int) (b : Bool) (g : Nat) (D : Option Nat) (n : Nat) (hn : L.length = n) (w : World) (hr : RfRd w g D L b) :
    Calls Try.prog 34 #[.pointer (some ⟨g, 0, none⟩)] w (RfSay (R33 (Pk.vr L)) (Pk.nx 40 L) (Pk.nb 40 L b) g D w) := by
  have HN := Lib.hid hn
  have HGL : Hid (g < w.heap.size) := hr.glt
  have HDL : Hid (D ≠ some w.heap.size) := fun h => by have h1 := hr.lt _ h; omega
  have B0 : Hid (Below w.heap.size w (w.alloc (.cells Z33 25))) := (Below.refl _ w).alloc (Nat.le_refl _) _
  have R0 : Hid ((w.alloc (.cells Z33 25)).heap[w.heap.size]? = some (.cells Z33 25 (0, 0))) := heap_alloc_new w _
  have HR0 := Lib.hid (hr.old B0.out)
  have HZS : Hid (Z33.size = 33) := rfl
  have HZ1 : Hid (Z33.all (·.oneCell') = true) := z33_one
  by_cases hlt : n < 40
  · have HV : Hid (R33 (Pk.vr L) = .agg Z33) := by show _ = _; unfold Pk.vr; rw [HN.out, if_pos hlt]; unfold R33 Z33; rfl
    have HX : Hid (Pk.nx 40 L = []) := by show _ = _; unfold Pk.nx; rw [HN.out, if_pos hlt]
    have HB : Hid (Pk.nb 40 L b = true) := by show _ = _; unfold Pk.nb; rw [HN.out, if_pos hlt]
    rw [HV.out, HX.out, HB.out]
    clear HV HX HB
    go_enter Try.func34, Try.ntmps34
    go_upto_region 1 with (fail)
    change Code.wp _ _ _ _ (w.alloc (.cells Z33 25))
    obtain ⟨w0, hw0⟩ : ∃ x, x = w.alloc (.cells Z33 25) := ⟨_, rfl⟩
    rw [← hw0] at B0 R0 HR0 ⊢
    clear hw0
    have HC : Hid (Calls Try.prog 47 #[.pointer (some ⟨g, 0, none⟩)] w0 fun e w' => e = .returned (.int .i64 (n : Nat)) ∧ Below w0.heap.size w0 w') := by
      have h := refleft_any L b g D w0 HR0.out
      unfold LeftSay at h
      rw [hn] at h
      exact h
    have hlt' : (n : Int) < 40 := by omega
    clear hr hn HN
    go_upto_region 3 with (go_at_call 47; refine HC.out.mono ?_; rintro e1 w1 ⟨rfl, hb⟩; obtain ⟨⟨v0, c0⟩, f0, hf⟩ := (HR0.out.old hb).mark; have HF1 := Lib.hid hf; clear hf; have HB1 := Lib.hid hb; clear hb)
    have HO1 : Hid (Only g w0 (w1.setCell ⟨g, 2, none⟩ (.bool true))) := (only_of_below_any HB1.out).trans (Chg.setCell w1 ⟨g, 2, none⟩ _).only
    have R1 := Lib.hid ((HO1.out.block _ (lt_of_block R0.out) (Nat.ne_of_gt HGL.out)).trans R0.out)
    go_wp2_with (first
      | ((with_reducible refine row_store _ _ _ _ _ _ Z33 ?_ ?_ R1.out (row_size Try.sizeRef HZS) ?_ HZ1.out ?_); (exact rfl); (exact rfl); (exact rfl); intro w6 G6 ch6))
    refine bodyPost_ret (results_cell_row rfl _ _ w.heap.size 25 Z33 (0, 0) _ rfl G6.out Try.underlying25 rfl (row_size Try.sizeRef HZS)) rfl ⟨rfl, ?_, ?_⟩
    · exact HF1.out.only ch6.only (Nat.ne_of_gt HGL.out) HDL.out
    · exact (Only.behind B0.out HO1.out).new ch6.only (Nat.le_refl _)
  · have h40 : 40 ≤ L.length := by omega
    have HV := Lib.hid (Pk.vr_eq L h40)
    have HX := Lib.hid (Pk.nx_eq L h40)
    have HB := Lib.hid (Pk.nb_eq L b h40)
    rw [HV.out, HX.out, HB.out]
    clear HV HX HB
    obtain ⟨V, hV⟩ : ∃ V, Pk.vi L = V := ⟨_, rfl⟩
    obtain ⟨A, hA, hA2, hA3⟩ := a32_agg (Pk.vs (Pk.nx 8 L)) (Pk.vs_len _)
    have HA2 := Lib.hid hA2; have HA3 := Lib.hid hA3; clear hA2 hA3
    have e33 : R33 (V, Pk.vs (Pk.nx 8 L)) = .agg (#[.int .i64 V] ++ A) := by
      have h := hA
      unfold A32 at h
      cases h
      exact r33_eq _ _
    rw [hV, e33]
    clear e33
    have HBR := build_ref V A HA2.out
    have HB2 : Hid ((#[Value.int .i64 V] ++ A).size = 33) := by show _ = _; simp [HA2.out]
    have HB3 : Hid ((#[Value.int .i64 V] ++ A).all (·.oneCell') = true) := by show _ = _; have := HA3.out; simp_all [Value.oneCell']
    obtain ⟨R, HR⟩ : ∃ R, R = #[Value.int .i64 V] ++ A := ⟨_, rfl⟩
    rw [← HR] at HBR HB2 HB3 ⊢
    clear HR
    go_enter Try.func34, Try.ntmps34
    go_upto_region 1 with (fail)
    change Code.wp _ _ _ _ (w.alloc (.cells Z33 25))
    obtain ⟨w0, hw0⟩ : ∃ x, x = w.alloc (.cells Z33 25) := ⟨_, rfl⟩
    rw [← hw0] at B0 R0 HR0 ⊢
    clear hw0
    have HC : Hid (Calls Try.prog 47 #[.pointer (some ⟨g, 0, none⟩)] w0 fun e w' => e = .returned (.int .i64 (n : Nat)) ∧ Below w0.heap.size w0 w') := by
      have h := refleft_any L b g D w0 HR0.out
      unfold LeftSay at h
      rw [hn] at h
      exact h
    have HCI : Hid (∀ y, RfRd y g D L b → Calls Try.prog 33 #[.pointer (some ⟨g, 0, none⟩)] y (RfSay (.int .i64 V) (Pk.nx 8 L) (Pk.nb 8 L b) g D y)) := fun y hy => by rw [← hV]; exact fint_any L b g D n hn y hy
    have HCS : Hid (∀ y, RfRd y g D (Pk.nx 8 L) (Pk.nb 8 L b) → Calls Try.prog 48 #[.pointer (some ⟨g, 0, none⟩)] y (RfSay (.agg A) (Pk.nx 32 (Pk.nx 8 L)) (Pk.nb 32 (Pk.nx 8 L) (Pk.nb 8 L b)) g D y)) := fun y hy => by rw [← hA]; exact fsum_any _ _ g D _ rfl y hy
    have hlt' : ¬ (n : Int) < 40 := by omega
    generalize Z33 = Z at *
    clear hr hn HN hA hV h40
    go_wp2_with (first
      | (go_at_call 47; refine HC.out.mono ?_; rintro e1 w1 ⟨rfl, hb⟩; have HR1 := Lib.hid (HR0.out.old hb); have HB1 := Lib.hid hb; clear hb)
      | (go_at_call 33; refine (HCI.out _ HR1.out).mono ?_; rintro e2 w2 ⟨rfl, HR2, HO2⟩)
      | (go_at_call 48; refine (HCS.out _ HR2.out).mono ?_; rintro e3 w3 ⟨rfl, HR3, HO3⟩; have HO : Hid (Only g w0 w3) := ((only_of_below_any HB1.out).trans HO2.out).trans HO3.out; have R3 := Lib.hid ((HO.out.block _ (lt_of_block R0.out) (Nat.ne_of_gt HGL.out)).trans R0.out))
      | ((with_reducible refine row_build2 _ _ _ _ _ R ?_ ?_ HBR ?_); (exact rfl); (exact rfl))
      | ((with_reducible refine row_store _ _ _ _ _ _ _ ?_ ?_ R3.out (row_size Try.sizeRef HB2) ?_ HB3.out ?_); (exact rfl); (exact rfl); (rw [HB2.out, HZS.out]); intro w6 G6 ch6))
    refine bodyPost_ret (results_cell_row rfl _ _ w.heap.size 25 R (0, 0) _ rfl G6.out Try.underlying25 rfl (row_size Try.sizeRef HB2)) rfl ⟨rfl, ?_, ?_⟩
    · exact HR3.out.only ch6.only (Nat.ne_of_gt HGL.out) HDL.out
    · exact (Only.behind B0.out HO.out).new ch6.only (Nat.le_refl _)
end Go.Proofs.Ytgfnpofoedambaa

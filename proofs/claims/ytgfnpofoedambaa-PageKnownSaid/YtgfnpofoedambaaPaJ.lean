/-
  Contracts: a reader's Sum and Ref, the calls themselves.
-/
import Derived.Test.YtgfnpofoedambaaPaI
namespace Go.Proofs.Ytgfnpofoedambaa
open Go.RowKit

theorem a32_agg (S : List Int) (h : S.length = 32) : ∃ A : Array Value, A32 S = .agg A ∧ A.size = 32 ∧ A.all (·.oneCell') = true :=
  ⟨(S.map (Value.int .u8)).toArray, rfl, (by rw [List.size_toArray, List.length_map, h]), all_oneCell_toArray (bytes_one _)⟩
theorem r33_agg (r : Int × List Int) (h : r.2.length = 32) : ∃ A : Array Value, R33 r = .agg A ∧ A.size = 33 ∧ A.all (·.oneCell') = true :=
  ⟨#[.int .i64 r.1] ++ (r.2.map (Value.int .u8)).toArray, r33_eq _ _, (by rw [Array.size_append, List.size_toArray, List.size_toArray, List.length_map, h]; rfl), r33_one _ _⟩
set_option maxHeartbeats 1000000 in
set_option maxRecDepth 100000 in
theorem rref_any (L : List Int) (b : Bool) (g : Nat) (D : Option Nat) (n : Nat) (hn : L.length = n) (hL : n ≤ 10000000) (w : World) (hr : RdAt w g D L b) :
    Calls Try.prog 30 #[.pointer (some ⟨g, 0, none⟩)] w (RdSay (R33 (Pk.vr L)) (Pk.nx 40 L) (Pk.nb 40 L b) g D w) := by
  have HGL : Hid (g < w.heap.size) := hr.glt
  have HDL : Hid (D ≠ some w.heap.size) := fun h => by have h1 := hr.lt _ h; omega
  have B0 : Hid (Below w.heap.size w (w.alloc (.cells Z33 25))) := (Below.refl _ w).alloc (Nat.le_refl _) _
  have R0 : Hid ((w.alloc (.cells Z33 25)).heap[w.heap.size]? = some (.cells Z33 25 (0, 0))) := heap_alloc_new w _
  have HC : Hid (Calls Try.prog 44 #[.pointer (some ⟨g, 0, none⟩), .int .i64 40, .func (.func 45) #[] #[]] (w.alloc (.cells Z33 25)) (RdSay (R33 (Pk.vr L)) (Pk.nx 40 L) (Pk.nb 40 L b) g D (w.alloc (.cells Z33 25)))) := nref_any L b g D n hn hL _ (hr.old B0.out)
  obtain ⟨A, hA, hA2, hA3⟩ : ∃ A : Array Value, R33 (Pk.vr L) = .agg A ∧ A.size = 33 ∧ A.all (·.oneCell') = true := r33_agg _ (Pk.vr_len L)
  rw [hA] at HC ⊢
  have HA2 := Lib.hid hA2; have HA3 := Lib.hid hA3; clear hA hA2 hA3 hr hn hL
  go_enter Try.func30, Try.ntmps30
  go_upto_region 1 with (fail)
  change Code.wp _ _ _ _ (w.alloc (.cells Z33 25))
  obtain ⟨w0, hw0⟩ : ∃ x, x = w.alloc (.cells Z33 25) := ⟨_, rfl⟩
  rw [← hw0] at B0 R0 HC ⊢
  clear hw0
  go_wp2_with (first
    | (go_at_call 44; refine HC.out.mono ?_; rintro e1 w1 ⟨rfl, HR1, HO1⟩; have R1 := (HO1.out.block _ (lt_of_block R0.out) (Nat.ne_of_gt HGL.out)).trans R0.out)
    | ((with_reducible refine row_store _ _ _ _ _ _ _ ?_ ?_ R1 (row_size Try.sizeRef HA2) ?_ HA3.out ?_); (exact rfl); (exact rfl); (rw [HA2.out]; rfl); intro w6 G6 ch6))
  refine bodyPost_ret (results_cell_row rfl _ _ w.heap.size 25 A (0, 0) _ rfl G6.out Try.underlying25 rfl (row_size Try.sizeRef HA2)) rfl ⟨rfl, ?_, ?_⟩
  · exact HR1.out.only ch6.only (Nat.ne_of_gt HGL.out) HDL.out
  · exact (Only.behind B0.out HO1.out).new ch6.only (Nat.le_refl _)
end Go.Proofs.Ytgfnpofoedambaa

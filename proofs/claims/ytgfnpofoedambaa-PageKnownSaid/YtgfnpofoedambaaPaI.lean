/-
  Contracts: a reader's Sum and Ref.
-/
import Derived.Test.YtgfnpofoedambaaPaH
namespace Go.Proofs.Ytgfnpofoedambaa
open Go.RowKit

def Z32 : Array Value := (List.replicate 32 (Value.int .u8 0)).toArray
theorem z32_one : Z32.all (·.oneCell') = true := all_oneCell_toArray (by intro v hv; rw [List.mem_replicate] at hv; rw [hv.2]; rfl)
theorem z33_one : Z33.all (·.oneCell') = true := all_oneCell_toArray (by intro v hv; simp only [List.mem_cons, List.mem_replicate] at hv; rcases hv with rfl | ⟨_, rfl⟩ <;> rfl)
theorem Only.new {g r : Nat} {w x y : World} (h : Only g w x) (k : Only r x y) (hr : w.heap.size ≤ r) : Only g w y :=
  ⟨k.os.trans h.os, k.tape.trans h.tape, k.output.trans h.output, Nat.le_trans h.size k.size, fun i hi hg => (k.block i (Nat.lt_of_lt_of_le hi h.size) (by omega)).trans (h.block i hi hg)⟩
theorem Only.below_after {g : Nat} {w x y : World} (h : Only g w x) (k : Below x.heap.size x y) : Only g w y :=
  ⟨k.os.trans h.os, k.tape.trans h.tape, k.output.trans h.output, Nat.le_trans h.size k.size, fun i hi hg => (k.block i (Nat.lt_of_lt_of_le hi h.size)).trans (h.block i hi hg)⟩
theorem Only.behind {g : Nat} {w x y : World} (h : Below w.heap.size w x) (k : Only g x y) : Only g w y :=
  ⟨k.os.trans h.os, k.tape.trans h.tape, k.output.trans h.output, Nat.le_trans h.size k.size, fun i hi hg => (k.block i (Nat.lt_of_lt_of_le hi h.size) hg).trans (h.block i hi)⟩
theorem r33_one (k : Int) (l : List Int) : (#[Value.int .i64 k] ++ (l.map (Value.int .u8)).toArray).all (·.oneCell') = true := by
  have h := all_oneCell_toArray (bytes_one l)
  simp_all [Value.oneCell']
set_option maxHeartbeats 1000000 in
set_option maxRecDepth 100000 in
theorem nref_any (L : List Int) (b : Bool) (g : Nat) (D : Option Nat) (n : Nat) (hn : L.length = n) (hL : n ≤ 10000000) (w : World) (hr : RdAt w g D L b) :
    Calls Try.prog 44 #[.pointer (some ⟨g, 0, none⟩), .int .i64 40, .func (.func 45) #[] #[]] w (RdSay (R33 (Pk.vr L)) (Pk.nx 40 L) (Pk.nb 40 L b) g D w) := by
  have HN := Lib.hid hn; clear hn
  have HGL : Hid (g < w.heap.size) := hr.glt
  have HDL : Hid (D ≠ some w.heap.size) := fun h => by have h1 := hr.lt _ h; omega
  have B0 : Hid (Below w.heap.size w (w.alloc (.cells Z33 25))) := (Below.refl _ w).alloc (Nat.le_refl _) _
  have R0 : Hid ((w.alloc (.cells Z33 25)).heap[w.heap.size]? = some (.cells Z33 25 (0, 0))) := heap_alloc_new w _
  have HR0 := Lib.hid (hr.old B0.out)
  have HNG : Hid (D ≠ some g) := hr.ne
  clear hr
  by_cases hlt : n < 40
  · have HV : Hid (R33 (Pk.vr L) = (R33 (0, List.replicate 32 0) : Value)) := by show _ = _; unfold Pk.vr; rw [HN.out, if_pos hlt]
    have HZ : Hid ((R33 (0, List.replicate 32 0) : Value) = .agg Z33) := by show _ = _; unfold R33 Z33; rfl
    have HX : Hid (Pk.nx 40 L = []) := by show _ = _; unfold Pk.nx; rw [HN.out, if_pos hlt]
    have HB : Hid (Pk.nb 40 L b = true) := by show _ = _; unfold Pk.nb; rw [HN.out, if_pos hlt]
    rw [HX.out, HB.out, HV.out, HZ.out]
    clear HV HZ HX HB
    go_enter Try.func44, Try.ntmps44
    go_upto_region 1 with (fail)
    change Code.wp _ _ _ _ (w.alloc (.cells Z33 25))
    obtain ⟨w0, hw0⟩ : ∃ x, x = w.alloc (.cells Z33 25) := ⟨_, rfl⟩
    rw [← hw0] at B0 R0 HR0 ⊢
    clear hw0
    have HS := Lib.hid HR0.out.spoilt
    obtain ⟨p, c, h1, _, _⟩ := HR0.out.row
    rw [HN.out] at h1
    have c0 : w0.cell? ⟨g, 0, none⟩ = some (.slice p n c) := by rw [cell_of_row _ g 0 _ _ _ h1]; rfl
    have f0 := frozen_of_row _ g 0 _ _ h1
    have h2 := heap_setCell_same _ g 0 _ _ (Value.slice none 0 0) h1
    have c1 : (w0.setCell ⟨g, 0, none⟩ (.slice none 0 0)).cell? ⟨g, 1, none⟩ = some (.bool b) := by rw [cell_of_row _ g 1 _ _ _ h2]; rfl
    have f1 := frozen_of_row _ g 1 _ _ h2
    have hlt' : (n : Int) < 40 := by omega
    have R1 : Hid (((w0.setCell ⟨g, 0, none⟩ (.slice none 0 0)).setCell ⟨g, 1, none⟩ (.bool true)).heap[w.heap.size]? = some (.cells Z33 25 (0, 0))) := by
      show _ = _
      rw [heap_setCell_other _ _ _ _ (by have := HGL.out; simp; omega), heap_setCell_other _ _ _ _ (by have := HGL.out; simp; omega)]
      exact R0.out
    clear h1 h2
    go_upto_region 4 with (fail)
    change Code.wp _ _ _ _ (((w0.setCell ⟨g, 0, none⟩ (.slice none 0 0)).setCell ⟨g, 1, none⟩ (.bool true)).alloc (.cells Z33 25))
    obtain ⟨w1, hw1⟩ : ∃ x, x = ((w0.setCell ⟨g, 0, none⟩ (.slice none 0 0)).setCell ⟨g, 1, none⟩ (.bool true)) := ⟨_, rfl⟩
    have e1 : w1.heap.size = w0.heap.size := by rw [hw1]; simp
    rw [← hw1] at HS R1 ⊢
    clear hw1 c0 c1 f0 f1
    have R2 : Hid ((w1.alloc (.cells Z33 25)).heap[w.heap.size]? = some (.cells Z33 25 (0, 0))) := (heap_oldX w1 _ (lt_of_block R1.out)).trans R1.out
    have RZ : Hid ((w1.alloc (.cells Z33 25)).heap[w0.heap.size]? = some (.cells Z33 25 (0, 0))) := by show _ = _; rw [← e1]; exact heap_alloc_new w1 _
    clear e1
    obtain ⟨w2, hw2⟩ : ∃ x, x = w1.alloc (.cells Z33 25) := ⟨_, rfl⟩
    have B2 : Hid (Below w1.heap.size w1 w2) := by rw [hw2]; exact (Below.refl _ w1).alloc (Nat.le_refl _) _
    rw [← hw2] at R2 RZ ⊢
    clear hw2
    have H33 : Hid (Z33.size = 33) := rfl
    have HZ1 : Hid (Z33.all (·.oneCell') = true) := z33_one
    generalize Z33 = Z at *
    have hsz := row_size Try.sizeRef H33
    go_wp2_with (first
      | ((with_reducible refine row_load _ _ _ _ _ _ _ ?_ RZ.out Try.underlying25 ?_ (row_size Try.sizeRef H33) ?_); (exact rfl); (exact rfl))
      | ((with_reducible refine row_store _ _ _ _ _ _ _ ?_ ?_ R2.out (row_size Try.sizeRef H33) ?_ HZ1.out ?_); (exact rfl); (exact rfl); (exact rfl); intro w6 G6 ch6))
    refine bodyPost_ret (results_cell_row rfl _ _ w.heap.size 25 Z (0, 0) _ rfl G6.out Try.underlying25 rfl (row_size Try.sizeRef H33)) rfl ⟨rfl, ?_, ?_⟩
    · exact (HS.out.1.old B2.out).only ch6.only (Nat.ne_of_gt HGL.out) HDL.out
    · exact ((Only.behind B0.out HS.out.2).below_after B2.out).new ch6.only (Nat.le_refl _)
  · have HX : Hid (Pk.nx 40 L = L.drop 40) := by show _ = _; unfold Pk.nx; rw [HN.out, if_neg hlt]
    have HB : Hid (Pk.nb 40 L b = b) := by show _ = _; unfold Pk.nb; rw [HN.out, if_neg hlt]
    have hnn : 40 ≤ n := by omega
    have HTL : Hid ((L.take 40).length = 40) := by show _ = _; rw [List.length_take, HN.out]; omega
    have HV : Hid (R33 (Pk.vr L) = R33 (Pk.in8 ((L.take 40).take 8), (L.take 40).drop 8)) := by show _ = _; unfold Pk.vr; rw [HN.out, if_neg hlt, show (L.take 40).take 8 = L.take 8 by rw [List.take_take]; rfl, show (L.take 40).drop 8 = (L.drop 8).take 32 by rw [List.drop_take]]
    obtain ⟨X, HXe⟩ : ∃ X, Hid (L.drop 40 = X) := ⟨_, rfl⟩
    obtain ⟨A, hA, hA2, hA3⟩ : ∃ A : Array Value, R33 (Pk.in8 ((L.take 40).take 8), (L.take 40).drop 8) = .agg A ∧ A.size = 33 ∧ A.all (·.oneCell') = true := ⟨#[.int .i64 (Pk.in8 ((L.take 40).take 8))] ++ (((L.take 40).drop 8).map (Value.int .u8)).toArray, r33_eq _ _, (by rw [Array.size_append, List.size_toArray, List.size_toArray, List.length_map, List.length_drop, HTL.out]; rfl), r33_one _ _⟩
    rw [HX.out, HB.out, HV.out, HXe.out, hA]
    clear HX HB HV
    go_enter Try.func44, Try.ntmps44
    go_upto_region 1 with (fail)
    change Code.wp _ _ _ _ (w.alloc (.cells Z33 25))
    obtain ⟨w0, hw0⟩ : ∃ x, x = w.alloc (.cells Z33 25) := ⟨_, rfl⟩
    rw [← hw0] at B0 R0 HR0 ⊢
    clear hw0
    obtain ⟨ab, ao, c, h1, hB, hD, hcap⟩ := HR0.out.parts HN.out (by omega)
    have HS := Lib.hid (HR0.out.step (k := 40) (m := n - 40) (d := c - 40) h1 hB HN.out hnn rfl rfl hD)
    have HT : Hid (Bs (w0.setCell ⟨g, 0, none⟩ (.slice (adv ab ao 40 c) (n - 40) (c - 40))) (some ⟨ab, ao, none⟩) c (L.take 40)) :=
      (hB.only HS.out.2 (fun ad h e => by cases h; exact HNG.out (by rw [hD]; exact congrArg some e))).take 40
    have HC : Hid (Calls Try.prog 45 #[.slice (some ⟨ab, ao, none⟩) 40 c] (w0.setCell ⟨g, 0, none⟩ (.slice (adv ab ao 40 c) (n - 40) (c - 40))) fun e w' => e = .returned (R33 (Pk.in8 ((L.take 40).take 8), (L.take 40).drop 8)) ∧ Below (w0.setCell ⟨g, 0, none⟩ (.slice (adv ab ao 40 c) (n - 40) (c - 40))).heap.size (w0.setCell ⟨g, 0, none⟩ (.slice (adv ab ao 40 c) (n - 40) (c - 40))) w') :=
      toref_any (L.take 40) ab ao 40 c HTL.out rfl _ HT.out
    rw [hA] at HC
    have HA2 := Lib.hid hA2; have HA3 := Lib.hid hA3; clear hA hA2 hA3
    have R1 : Hid ((w0.setCell ⟨g, 0, none⟩ (.slice (adv ab ao 40 c) (n - 40) (c - 40))).heap[w.heap.size]? = some (.cells Z33 25 (0, 0))) := by
      show _ = _
      rw [heap_setCell_other _ _ _ _ (by have := HGL.out; simp; omega)]
      exact R0.out
    rw [HXe.out] at HS
    have c0 : w0.cell? ⟨g, 0, none⟩ = some (.slice (some ⟨ab, ao, none⟩) n c) := by rw [cell_of_row _ g 0 _ _ _ h1]; rfl
    have f0 := frozen_of_row _ g 0 _ _ h1
    have hge : ¬ ((n : Int) < 40) := by omega
    have hcc : ¬ ((c : Int) < 40) := by omega
    have hkn : (40 : Int) ≤ (n : Int) := by omega
    clear h1 hB hD hlt hL HT
    go_upto_region 6 with (fail)
    go_wp2_with (first
      | (go_at_call 45; refine HC.out.mono ?_; rintro e2 w2 ⟨rfl, hb2⟩; have R2 := (hb2.block _ (lt_of_block R1.out)).trans R1.out)
      | ((with_reducible refine row_store _ _ _ _ _ _ _ ?_ ?_ R2 (row_size Try.sizeRef HA2) ?_ HA3.out ?_); (exact rfl); (exact rfl); (rw [HA2.out]; rfl); intro w6 G6 ch6)
      | go_in)
    all_goals
      refine bodyPost_ret (results_cell_row rfl _ _ w.heap.size 25 A (0, 0) _ rfl G6.out Try.underlying25 rfl (row_size Try.sizeRef HA2)) rfl ⟨rfl, ?_, ?_⟩
      · exact (HS.out.1.old hb2).only ch6.only (Nat.ne_of_gt HGL.out) HDL.out
      · exact ((Only.behind B0.out HS.out.2).below_after hb2).new ch6.only (Nat.le_refl _)
end Go.Proofs.Ytgfnpofoedambaa

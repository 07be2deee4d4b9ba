/-
  PaI, PaJ, PaM, PaN, PaO, PaP (merged)
-/
import Derived.Test.YtpfghjnhoafcmaaPa2
namespace Go.Proofs.Ytpfghjnhoafcmaa

/-! PaI: Contracts: a reader's Sum and Ref. -/
section
open Go.RowKit

def Z32 : Array Value := (List.replicate 32 (Value.int .u8 0)).toArray
theorem z32_one : Z32.all (·.oneCell') = true := all_oneCell_toArray (by intro v hv; rw [List.mem_replicate] at hv; rw [hv.2]; rfl)
theorem z33_one : Z33.all (·.oneCell') = true := all_oneCell_toArray (by intro v hv; simp only [List.mem_cons, List.mem_replicate] at hv; rcases hv with rfl | ⟨_, rfl⟩ <;> rfl)
theorem Only.new {g r : Nat} {w x y : World} (h : Only g w x) (k : Only r x y) (hr : w.heap.size ≤ r) : Only g w y :=
  ⟨k.os.trans h.os, k.tape.trans h.tape, k.output.trans h.output, Nat.le_trans h.size k.size, fun i hi hg => (k.block i (Nat.lt_of_lt_of_le hi h.size) (by omega)).trans (h.block i hi hg)⟩
theorem Only.below_after {g : Nat} {w x y : World} (h : Only g w x) (k : Below x.heap.size x y) : Only g w y :=
  ⟨k.os.trans h.os, k.tape.trans h.tape, k.output.trans h.output, Nat.le_trans h.size k.size, fun i hi hg => (k.block i (Nat.lt_of_lt_of_le hi h.size)).trans (h.block i hi hg)⟩
theorem Only.behind {g : Nat} {w x y : World} (h : Below w.heap.size w x) (k : Only g x y) : Only g w y :=
  ⟨k.os.trans h.os, k.tape.trans h.tape, k.output.trans h.output, Nat.le_trans h.size k.size, fun i hi hg => (k.block i (Nat.lt_of_lt_of_le hi h.size) hg).trans (h.block i hi)⟩
theorem r33_one (k : Int) (l : List Int) : (#[Value.int .i64 k] ++ (l.map (Value.int .u8)).toArray).all (·.oneCell') = true := by
  have h := all_oneCell_toArray (bytes_one l)
  simp_all [Value.oneCell']
set_option maxHeartbeats 1000000 in
set_option maxRecDepth 100000 in
theorem nsum_any (L : List Int) (b : Bool) (g : Nat) (D : Option Nat) (n : Nat) (hn : L.length = n) (hL : n ≤ 10000000) (w : World) (hr : RdAt w g D L b) :
    Calls Try.prog 92 #[.pointer (some ⟨g, 0, none⟩), .int .i64 32, .func (.func 93) #[] #[]] w (RdSay (A32 (Pk.vs L)) (Pk.nx 32 L) (Pk.nb 32 L b) g D w) := by
  have HN := Lib.hid hn; clear hn
  have HGL : Hid (g < w.heap.size) := hr.glt
  have HDL : Hid (D ≠ some w.heap.size) := fun h => by have h1 := hr.lt _ h; omega
  have B0 : Hid (Below w.heap.size w (w.alloc (.cells Z32 34))) := (Below.refl _ w).alloc (Nat.le_refl _) _
  have R0 : Hid ((w.alloc (.cells Z32 34)).heap[w.heap.size]? = some (.cells Z32 34 (0, 0))) := heap_alloc_new w _
  have HR0 := Lib.hid (hr.old B0.out)
  have HNG : Hid (D ≠ some g) := hr.ne
  clear hr
  by_cases hlt : n < 32
  · have HV : Hid (A32 (Pk.vs L) = (A32 (List.replicate 32 0) : Value)) := by show _ = _; unfold Pk.vs; rw [HN.out, if_pos hlt]
    have HZ : Hid ((A32 (List.replicate 32 0) : Value) = .agg Z32) := by show _ = _; unfold A32 Z32; rfl
    have HX : Hid (Pk.nx 32 L = []) := by show _ = _; unfold Pk.nx; rw [HN.out, if_pos hlt]
    have HB : Hid (Pk.nb 32 L b = true) := by show _ = _; unfold Pk.nb; rw [HN.out, if_pos hlt]
    rw [HX.out, HB.out, HV.out, HZ.out]
    clear HV HZ HX HB
    go_enter Try.func92, Try.ntmps92
    go_upto_region 1 with (fail)
    change Code.wp _ _ _ _ (w.alloc (.cells Z32 34))
    obtain ⟨w0, hw0⟩ : ∃ x, x = w.alloc (.cells Z32 34) := ⟨_, rfl⟩
    rw [← hw0] at B0 R0 HR0 ⊢
    clear hw0
    have HS := Lib.hid HR0.out.spoilt
    obtain ⟨p, c, h1, _, _⟩ := HR0.out.row
    rw [HN.out] at h1
    have c0 : w0.cell? ⟨g, 0, none⟩ = some (.slice p n c) := by rw [cell_of_row _ g 0 _ _ _ h1]; rfl
    have f0 := frozen_of_row _ g 0 _ _ h1
    have h2 := heap_setCell_same _ g 0 _ _ (Value.slice none 0 0) h1
    have c1 : (w0.setCell ⟨g, 0, none⟩ (.slice none 0 0)).cell? ⟨g, 1, none⟩ = some (.bool b) := by rw [cell_of_row _ g 1 _ _ _ h2]; rfl
    have f1 := frozen_of_row _ g 1 _ _ h2
    have hlt' : (n : Int) < 32 := by omega
    have R1 : Hid (((w0.setCell ⟨g, 0, none⟩ (.slice none 0 0)).setCell ⟨g, 1, none⟩ (.bool true)).heap[w.heap.size]? = some (.cells Z32 34 (0, 0))) := by
      show _ = _
      rw [heap_setCell_other _ _ _ _ (by have := HGL.out; simp; omega), heap_setCell_other _ _ _ _ (by have := HGL.out; simp; omega)]
      exact R0.out
    clear h1 h2
    go_upto_region 4 with (fail)
    change Code.wp _ _ _ _ (((w0.setCell ⟨g, 0, none⟩ (.slice none 0 0)).setCell ⟨g, 1, none⟩ (.bool true)).alloc (.cells Z32 34))
    obtain ⟨w1, hw1⟩ : ∃ x, x = ((w0.setCell ⟨g, 0, none⟩ (.slice none 0 0)).setCell ⟨g, 1, none⟩ (.bool true)) := ⟨_, rfl⟩
    have e1 : w1.heap.size = w0.heap.size := by rw [hw1]; simp
    rw [← hw1] at HS R1 ⊢
    clear hw1 c0 c1 f0 f1
    have R2 : Hid ((w1.alloc (.cells Z32 34)).heap[w.heap.size]? = some (.cells Z32 34 (0, 0))) := (heap_oldX w1 _ (lt_of_block R1.out)).trans R1.out
    have RZ : Hid ((w1.alloc (.cells Z32 34)).heap[w0.heap.size]? = some (.cells Z32 34 (0, 0))) := by show _ = _; rw [← e1]; exact heap_alloc_new w1 _
    clear e1
    obtain ⟨w2, hw2⟩ : ∃ x, x = w1.alloc (.cells Z32 34) := ⟨_, rfl⟩
    have B2 : Hid (Below w1.heap.size w1 w2) := by rw [hw2]; exact (Below.refl _ w1).alloc (Nat.le_refl _) _
    rw [← hw2] at R2 RZ ⊢
    clear hw2
    have H32 : Hid (Z32.size = 32) := rfl
    have HZ1 : Hid (Z32.all (·.oneCell') = true) := z32_one
    generalize Z32 = Z at *
    have hsz := row_size Try.sizeSum H32
    go_wp2_with (first
      | ((with_reducible refine row_load _ _ _ _ _ _ _ ?_ RZ.out Try.underlying34 ?_ (row_size Try.sizeSum H32) ?_); (exact rfl); (exact rfl))
      | ((with_reducible refine row_store _ _ _ _ _ _ _ ?_ ?_ R2.out (row_size Try.sizeSum H32) ?_ HZ1.out ?_); (exact rfl); (exact rfl); (exact rfl); intro w6 G6 ch6))
    refine bodyPost_ret (results_cell_row rfl _ _ w.heap.size 34 Z (0, 0) _ rfl G6.out Try.underlying34 rfl (row_size Try.sizeSum H32)) rfl ⟨rfl, ?_, ?_⟩
    · exact (HS.out.1.old B2.out).only ch6.only (Nat.ne_of_gt HGL.out) HDL.out
    · exact ((Only.behind B0.out HS.out.2).below_after B2.out).new ch6.only (Nat.le_refl _)
  · have HX : Hid (Pk.nx 32 L = L.drop 32) := by show _ = _; unfold Pk.nx; rw [HN.out, if_neg hlt]
    have HB : Hid (Pk.nb 32 L b = b) := by show _ = _; unfold Pk.nb; rw [HN.out, if_neg hlt]
    have hnn : 32 ≤ n := by omega
    have HTL : Hid ((L.take 32).length = 32) := by show _ = _; rw [List.length_take, HN.out]; omega
    have HV : Hid (A32 (Pk.vs L) = A32 (L.take 32)) := by show _ = _; unfold Pk.vs; rw [HN.out, if_neg hlt]
    obtain ⟨X, HXe⟩ : ∃ X, Hid (L.drop 32 = X) := ⟨_, rfl⟩
    obtain ⟨A, hA, hA2, hA3⟩ : ∃ A : Array Value, A32 (L.take 32) = .agg A ∧ A.size = 32 ∧ A.all (·.oneCell') = true := ⟨((L.take 32).map (Value.int .u8)).toArray, rfl, (by rw [List.size_toArray, List.length_map, HTL.out]), all_oneCell_toArray (bytes_one _)⟩
    rw [HX.out, HB.out, HV.out, HXe.out, hA]
    clear HX HB HV
    go_enter Try.func92, Try.ntmps92
    go_upto_region 1 with (fail)
    change Code.wp _ _ _ _ (w.alloc (.cells Z32 34))
    obtain ⟨w0, hw0⟩ : ∃ x, x = w.alloc (.cells Z32 34) := ⟨_, rfl⟩
    rw [← hw0] at B0 R0 HR0 ⊢
    clear hw0
    obtain ⟨ab, ao, c, h1, hB, hD, hcap⟩ := HR0.out.parts HN.out (by omega)
    have HS := Lib.hid (HR0.out.step (k := 32) (m := n - 32) (d := c - 32) h1 hB HN.out hnn rfl rfl hD)
    have HT : Hid (Bs (w0.setCell ⟨g, 0, none⟩ (.slice (adv ab ao 32 c) (n - 32) (c - 32))) (some ⟨ab, ao, none⟩) c (L.take 32)) :=
      (hB.only HS.out.2 (fun ad h e => by cases h; exact HNG.out (by rw [hD]; exact congrArg some e))).take 32
    have HC : Hid (Calls Try.prog 93 #[.slice (some ⟨ab, ao, none⟩) 32 c] (w0.setCell ⟨g, 0, none⟩ (.slice (adv ab ao 32 c) (n - 32) (c - 32))) fun e w' => e = .returned (A32 (L.take 32)) ∧ Below (w0.setCell ⟨g, 0, none⟩ (.slice (adv ab ao 32 c) (n - 32) (c - 32))).heap.size (w0.setCell ⟨g, 0, none⟩ (.slice (adv ab ao 32 c) (n - 32) (c - 32))) w') :=
      tosum_any (L.take 32) _ 32 c HTL.out rfl _ HT.out
    rw [hA] at HC
    have HA2 := Lib.hid hA2; have HA3 := Lib.hid hA3; clear hA hA2 hA3
    have R1 : Hid ((w0.setCell ⟨g, 0, none⟩ (.slice (adv ab ao 32 c) (n - 32) (c - 32))).heap[w.heap.size]? = some (.cells Z32 34 (0, 0))) := by
      show _ = _
      rw [heap_setCell_other _ _ _ _ (by have := HGL.out; simp; omega)]
      exact R0.out
    rw [HXe.out] at HS
    have c0 : w0.cell? ⟨g, 0, none⟩ = some (.slice (some ⟨ab, ao, none⟩) n c) := by rw [cell_of_row _ g 0 _ _ _ h1]; rfl
    have f0 := frozen_of_row _ g 0 _ _ h1
    have hge : ¬ ((n : Int) < 32) := by omega
    have hcc : ¬ ((c : Int) < 32) := by omega
    have hkn : (32 : Int) ≤ (n : Int) := by omega
    clear h1 hB hD hlt hL HT
    go_upto_region 6 with (fail)
    go_wp2_with (first
      | (go_at_call 93; refine HC.out.mono ?_; rintro e2 w2 ⟨rfl, hb2⟩; have R2 := (hb2.block _ (lt_of_block R1.out)).trans R1.out)
      | ((with_reducible refine row_store _ _ _ _ _ _ _ ?_ ?_ R2 (row_size Try.sizeSum HA2) ?_ HA3.out ?_); (exact rfl); (exact rfl); (rw [HA2.out]; rfl); intro w6 G6 ch6)
      | go_in)
    all_goals
      refine bodyPost_ret (results_cell_row rfl _ _ w.heap.size 34 A (0, 0) _ rfl G6.out Try.underlying34 rfl (row_size Try.sizeSum HA2)) rfl ⟨rfl, ?_, ?_⟩
      · exact (HS.out.1.old hb2).only ch6.only (Nat.ne_of_gt HGL.out) HDL.out
      · exact ((Only.behind B0.out HS.out.2).below_after hb2).new ch6.only (Nat.le_refl _)
set_option maxHeartbeats 1000000 in
set_option maxRecDepth 100000 in
theorem nref_any (L : List Int) (b : Bool) (g : Nat) (D : Option Nat) (n : Nat) (hn : L.length = n) (hL : n ≤ 10000000) (w : World) (hr : RdAt w g D L b) :
    Calls Try.prog 94 #[.pointer (some ⟨g, 0, none⟩), .int .i64 40, .func (.func 95) #[] #[]] w (RdSay (R33 (Pk.vr L)) (Pk.nx 40 L) (Pk.nb 40 L b) g D w) := by
  have HN := Lib.hid hn; clear hn
  have HGL : Hid (g < w.heap.size) := hr.glt
  have HDL : Hid (D ≠ some w.heap.size) := fun h => by have h1 := hr.lt _ h; omega
  have B0 : Hid (Below w.heap.size w (w.alloc (.cells Z33 36))) := (Below.refl _ w).alloc (Nat.le_refl _) _
  have R0 : Hid ((w.alloc (.cells Z33 36)).heap[w.heap.size]? = some (.cells Z33 36 (0, 0))) := heap_alloc_new w _
  have HR0 := Lib.hid (hr.old B0.out)
  have HNG : Hid (D ≠ some g) := hr.ne
  clear hr
  by_cases hlt : n < 40
  · have HV : Hid (R33 (Pk.vr L) = (R33 (0, List.replicate 32 0) : Value)) := by show _ = _; unfold Pk.vr; rw [HN.out, if_pos hlt]
    have HZ : Hid ((R33 (0, List.replicate 32 0) : Value) = .agg Z33) := by show _ = _; unfold R33 Z33; rfl
    have HX : Hid (Pk.nx 40 L = []) := by show _ = _; unfold Pk.nx; rw [HN.out, if_pos hlt]
    have HB : Hid (Pk.nb 40 L b = true) := by show _ = _; unfold Pk.nb; rw [HN.out, if_pos hlt]
    rw [HX.out, HB.out, HV.out, HZ.out]
    clear HV HZ HX HB
    go_enter Try.func94, Try.ntmps94
    go_upto_region 1 with (fail)
    change Code.wp _ _ _ _ (w.alloc (.cells Z33 36))
    obtain ⟨w0, hw0⟩ : ∃ x, x = w.alloc (.cells Z33 36) := ⟨_, rfl⟩
    rw [← hw0] at B0 R0 HR0 ⊢
    clear hw0
    have HS := Lib.hid HR0.out.spoilt
    obtain ⟨p, c, h1, _, _⟩ := HR0.out.row
    rw [HN.out] at h1
    have c0 : w0.cell? ⟨g, 0, none⟩ = some (.slice p n c) := by rw [cell_of_row _ g 0 _ _ _ h1]; rfl
    have f0 := frozen_of_row _ g 0 _ _ h1
    have h2 := heap_setCell_same _ g 0 _ _ (Value.slice none 0 0) h1
    have c1 : (w0.setCell ⟨g, 0, none⟩ (.slice none 0 0)).cell? ⟨g, 1, none⟩ = some (.bool b) := by rw [cell_of_row _ g 1 _ _ _ h2]; rfl
    have f1 := frozen_of_row _ g 1 _ _ h2
    have hlt' : (n : Int) < 40 := by omega
    have R1 : Hid (((w0.setCell ⟨g, 0, none⟩ (.slice none 0 0)).setCell ⟨g, 1, none⟩ (.bool true)).heap[w.heap.size]? = some (.cells Z33 36 (0, 0))) := by
      show _ = _
      rw [heap_setCell_other _ _ _ _ (by have := HGL.out; simp; omega), heap_setCell_other _ _ _ _ (by have := HGL.out; simp; omega)]
      exact R0.out
    clear h1 h2
    go_upto_region 4 with (fail)
    change Code.wp _ _ _ _ (((w0.setCell ⟨g, 0, none⟩ (.slice none 0 0)).setCell ⟨g, 1, none⟩ (.bool true)).alloc (.cells Z33 36))
    obtain ⟨w1, hw1⟩ : ∃ x, x = ((w0.setCell ⟨g, 0, none⟩ (.slice none 0 0)).setCell ⟨g, 1, none⟩ (.bool true)) := ⟨_, rfl⟩
    have e1 : w1.heap.size = w0.heap.size := by rw [hw1]; simp
    rw [← hw1] at HS R1 ⊢
    clear hw1 c0 c1 f0 f1
    have R2 : Hid ((w1.alloc (.cells Z33 36)).heap[w.heap.size]? = some (.cells Z33 36 (0, 0))) := (heap_oldX w1 _ (lt_of_block R1.out)).trans R1.out
    have RZ : Hid ((w1.alloc (.cells Z33 36)).heap[w0.heap.size]? = some (.cells Z33 36 (0, 0))) := by show _ = _; rw [← e1]; exact heap_alloc_new w1 _
    clear e1
    obtain ⟨w2, hw2⟩ : ∃ x, x = w1.alloc (.cells Z33 36) := ⟨_, rfl⟩
    have B2 : Hid (Below w1.heap.size w1 w2) := by rw [hw2]; exact (Below.refl _ w1).alloc (Nat.le_refl _) _
    rw [← hw2] at R2 RZ ⊢
    clear hw2
    have H33 : Hid (Z33.size = 33) := rfl
    have HZ1 : Hid (Z33.all (·.oneCell') = true) := z33_one
    generalize Z33 = Z at *
    have hsz := row_size Try.sizeRef H33
    go_wp2_with (first
      | ((with_reducible refine row_load _ _ _ _ _ _ _ ?_ RZ.out Try.underlying36 ?_ (row_size Try.sizeRef H33) ?_); (exact rfl); (exact rfl))
      | ((with_reducible refine row_store _ _ _ _ _ _ _ ?_ ?_ R2.out (row_size Try.sizeRef H33) ?_ HZ1.out ?_); (exact rfl); (exact rfl); (exact rfl); intro w6 G6 ch6))
    refine bodyPost_ret (results_cell_row rfl _ _ w.heap.size 36 Z (0, 0) _ rfl G6.out Try.underlying36 rfl (row_size Try.sizeRef H33)) rfl ⟨rfl, ?_, ?_⟩
    · exact (HS.out.1.old B2.out).only ch6.only (Nat.ne_of_gt HGL.out) HDL.out
    · exact ((Only.behind B0.out HS.out.2).below_after B2.out).new ch6.only (Nat.le_refl _)
  · have HX : Hid (Pk.nx 40 L = L.drop 40) := by show _ = _; unfold Pk.nx; rw [HN.out, if_neg hlt]
    have HB : Hid (Pk.nb 40 L b = b) := by show _ = _; unfold Pk.nb; rw [HN.out, if_neg hlt]
    have hnn : 40 ≤ n := by omega
    have HTL : Hid ((L.take 40).length = 40) := by show _ = _; rw [List.length_take, HN.out]; omega
    have HV : Hid (R33 (Pk.vr L) = R33 (Pk.in8 ((L.take 40).take 8), (L.take 40).drop 8)) := by show _ = _; unfold Pk.vr; rw [HN.out, if_neg hlt, show (L.take 40).take 8 = L.take 8 by rw [List.take_take]; rfl, show (L.take 40).drop 8 = (L.drop 8).take 32 by rw [List.drop_take]]
    obtain ⟨X, HXe⟩ : ∃ X, Hid (L.drop 40 = X) := ⟨_, rfl⟩
    obtain ⟨A, hA, hA2, hA3⟩ : ∃ A : Array Value, R33 (Pk.in8 ((L.take 40).take 8), (L.take 40).drop 8) = .agg A ∧ A.size = 33 ∧ A.all (·.oneCell') = true := ⟨#[.int .i64 (Pk.in8 ((L.take 40).take 8))] ++ (((L.take 40).drop 8).map (Value.int .u8)).toArray, r33_eq _ _, (by rw [Array.size_append, List.size_toArray, List.size_toArray, List.length_map, List.length_drop, HTL.out]; rfl), r33_one _ _⟩
    rw [HX.out, HB.out, HV.out, HXe.out, hA]
    clear HX HB HV
    go_enter Try.func94, Try.ntmps94
    go_upto_region 1 with (fail)
    change Code.wp _ _ _ _ (w.alloc (.cells Z33 36))
    obtain ⟨w0, hw0⟩ : ∃ x, x = w.alloc (.cells Z33 36) := ⟨_, rfl⟩
    rw [← hw0] at B0 R0 HR0 ⊢
    clear hw0
    obtain ⟨ab, ao, c, h1, hB, hD, hcap⟩ := HR0.out.parts HN.out (by omega)
    have HS := Lib.hid (HR0.out.step (k := 40) (m := n - 40) (d := c - 40) h1 hB HN.out hnn rfl rfl hD)
    have HT : Hid (Bs (w0.setCell ⟨g, 0, none⟩ (.slice (adv ab ao 40 c) (n - 40) (c - 40))) (some ⟨ab, ao, none⟩) c (L.take 40)) :=
      (hB.only HS.out.2 (fun ad h e => by cases h; exact HNG.out (by rw [hD]; exact congrArg some e))).take 40
    have HC : Hid (Calls Try.prog 95 #[.slice (some ⟨ab, ao, none⟩) 40 c] (w0.setCell ⟨g, 0, none⟩ (.slice (adv ab ao 40 c) (n - 40) (c - 40))) fun e w' => e = .returned (R33 (Pk.in8 ((L.take 40).take 8), (L.take 40).drop 8)) ∧ Below (w0.setCell ⟨g, 0, none⟩ (.slice (adv ab ao 40 c) (n - 40) (c - 40))).heap.size (w0.setCell ⟨g, 0, none⟩ (.slice (adv ab ao 40 c) (n - 40) (c - 40))) w') :=
      toref_any (L.take 40) ab ao 40 c HTL.out rfl _ HT.out
    rw [hA] at HC
    have HA2 := Lib.hid hA2; have HA3 := Lib.hid hA3; clear hA hA2 hA3
    have R1 : Hid ((w0.setCell ⟨g, 0, none⟩ (.slice (adv ab ao 40 c) (n - 40) (c - 40))).heap[w.heap.size]? = some (.cells Z33 36 (0, 0))) := by
      show _ = _
      rw [heap_setCell_other _ _ _ _ (by have := HGL.out; simp; omega)]
      exact R0.out
    rw [HXe.out] at HS
    have c0 : w0.cell? ⟨g, 0, none⟩ = some (.slice (some ⟨ab, ao, none⟩) n c) := by rw [cell_of_row _ g 0 _ _ _ h1]; rfl
    have f0 := frozen_of_row _ g 0 _ _ h1
    have hge : ¬ ((n : Int) < 40) := by omega
    have hcc : ¬ ((c : Int) < 40) := by omega
    have hkn : (40 : Int) ≤ (n : Int) := by omega
    clear h1 hB hD hlt hL HT
    go_upto_region 6 with (fail)
    go_wp2_with (first
      | (go_at_call 95; refine HC.out.mono ?_; rintro e2 w2 ⟨rfl, hb2⟩; have R2 := (hb2.block _ (lt_of_block R1.out)).trans R1.out)
      | ((with_reducible refine row_store _ _ _ _ _ _ _ ?_ ?_ R2 (row_size Try.sizeRef HA2) ?_ HA3.out ?_); (exact rfl); (exact rfl); (rw [HA2.out]; rfl); intro w6 G6 ch6)
      | go_in)
    all_goals
      refine bodyPost_ret (results_cell_row rfl _ _ w.heap.size 36 A (0, 0) _ rfl G6.out Try.underlying36 rfl (row_size Try.sizeRef HA2)) rfl ⟨rfl, ?_, ?_⟩
      · exact (HS.out.1.old hb2).only ch6.only (Nat.ne_of_gt HGL.out) HDL.out
      · exact ((Only.behind B0.out HS.out.2).below_after hb2).new ch6.only (Nat.le_refl _)
end

/-! PaJ: Contracts: a reader's Sum and Ref, the calls themselves. -/
section
open Go.RowKit

theorem a32_agg (S : List Int) (h : S.length = 32) : ∃ A : Array Value, A32 S = .agg A ∧ A.size = 32 ∧ A.all (·.oneCell') = true :=
  ⟨(S.map (Value.int .u8)).toArray, rfl, (by rw [List.size_toArray, List.length_map, h]), all_oneCell_toArray (bytes_one _)⟩
theorem r33_agg (r : Int × List Int) (h : r.2.length = 32) : ∃ A : Array Value, R33 r = .agg A ∧ A.size = 33 ∧ A.all (·.oneCell') = true :=
  ⟨#[.int .i64 r.1] ++ (r.2.map (Value.int .u8)).toArray, r33_eq _ _, (by rw [Array.size_append, List.size_toArray, List.size_toArray, List.length_map, h]; rfl), r33_one _ _⟩
set_option maxHeartbeats 1000000 in
set_option maxRecDepth 100000 in
theorem rsum_any (L : List Int) (b : Bool) (g : Nat) (D : Option Nat) (n : Nat) (hn : L.length = n) (hL : n ≤ 10000000) (w : World) (hr : RdAt w g D L b) :
    Calls Try.prog 84 #[.pointer (some ⟨g, 0, none⟩)] w (RdSay (A32 (Pk.vs L)) (Pk.nx 32 L) (Pk.nb 32 L b) g D w) := by
  have HGL : Hid (g < w.heap.size) := hr.glt
  have HDL : Hid (D ≠ some w.heap.size) := fun h => by have h1 := hr.lt _ h; omega
  have B0 : Hid (Below w.heap.size w (w.alloc (.cells Z32 34))) := (Below.refl _ w).alloc (Nat.le_refl _) _
  have R0 : Hid ((w.alloc (.cells Z32 34)).heap[w.heap.size]? = some (.cells Z32 34 (0, 0))) := heap_alloc_new w _
  have HC : Hid (Calls Try.prog 92 #[.pointer (some ⟨g, 0, none⟩), .int .i64 32, .func (.func 93) #[] #[]] (w.alloc (.cells Z32 34)) (RdSay (A32 (Pk.vs L)) (Pk.nx 32 L) (Pk.nb 32 L b) g D (w.alloc (.cells Z32 34)))) := nsum_any L b g D n hn hL _ (hr.old B0.out)
  obtain ⟨A, hA, hA2, hA3⟩ : ∃ A : Array Value, A32 (Pk.vs L) = .agg A ∧ A.size = 32 ∧ A.all (·.oneCell') = true := a32_agg _ (Pk.vs_len L)
  rw [hA] at HC ⊢
  have HA2 := Lib.hid hA2; have HA3 := Lib.hid hA3; clear hA hA2 hA3 hr hn hL
  go_enter Try.func84, Try.ntmps84
  go_upto_region 1 with (fail)
  change Code.wp _ _ _ _ (w.alloc (.cells Z32 34))
  obtain ⟨w0, hw0⟩ : ∃ x, x = w.alloc (.cells Z32 34) := ⟨_, rfl⟩
  rw [← hw0] at B0 R0 HC ⊢
  clear hw0
  go_wp2_with (first
    | (go_at_call 92; refine HC.out.mono ?_; rintro e1 w1 ⟨rfl, HR1, HO1⟩; have R1 := (HO1.out.block _ (lt_of_block R0.out) (Nat.ne_of_gt HGL.out)).trans R0.out)
    | ((with_reducible refine row_store _ _ _ _ _ _ _ ?_ ?_ R1 (row_size Try.sizeSum HA2) ?_ HA3.out ?_); (exact rfl); (exact rfl); (rw [HA2.out]; rfl); intro w6 G6 ch6))
  refine bodyPost_ret (results_cell_row rfl _ _ w.heap.size 34 A (0, 0) _ rfl G6.out Try.underlying34 rfl (row_size Try.sizeSum HA2)) rfl ⟨rfl, ?_, ?_⟩
  · exact HR1.out.only ch6.only (Nat.ne_of_gt HGL.out) HDL.out
  · exact (Only.behind B0.out HO1.out).new ch6.only (Nat.le_refl _)
set_option maxHeartbeats 1000000 in
set_option maxRecDepth 100000 in
theorem rref_any (L : List Int) (b : Bool) (g : Nat) (D : Option Nat) (n : Nat) (hn : L.length = n) (hL : n ≤ 10000000) (w : World) (hr : RdAt w g D L b) :
    Calls Try.prog 85 #[.pointer (some ⟨g, 0, none⟩)] w (RdSay (R33 (Pk.vr L)) (Pk.nx 40 L) (Pk.nb 40 L b) g D w) := by
  have HGL : Hid (g < w.heap.size) := hr.glt
  have HDL : Hid (D ≠ some w.heap.size) := fun h => by have h1 := hr.lt _ h; omega
  have B0 : Hid (Below w.heap.size w (w.alloc (.cells Z33 36))) := (Below.refl _ w).alloc (Nat.le_refl _) _
  have R0 : Hid ((w.alloc (.cells Z33 36)).heap[w.heap.size]? = some (.cells Z33 36 (0, 0))) := heap_alloc_new w _
  have HC : Hid (Calls Try.prog 94 #[.pointer (some ⟨g, 0, none⟩), .int .i64 40, .func (.func 95) #[] #[]] (w.alloc (.cells Z33 36)) (RdSay (R33 (Pk.vr L)) (Pk.nx 40 L) (Pk.nb 40 L b) g D (w.alloc (.cells Z33 36)))) := nref_any L b g D n hn hL _ (hr.old B0.out)
  obtain ⟨A, hA, hA2, hA3⟩ : ∃ A : Array Value, R33 (Pk.vr L) = .agg A ∧ A.size = 33 ∧ A.all (·.oneCell') = true := r33_agg _ (Pk.vr_len L)
  rw [hA] at HC ⊢
  have HA2 := Lib.hid hA2; have HA3 := Lib.hid hA3; clear hA hA2 hA3 hr hn hL
  go_enter Try.func85, Try.ntmps85
  go_upto_region 1 with (fail)
  change Code.wp _ _ _ _ (w.alloc (.cells Z33 36))
  obtain ⟨w0, hw0⟩ : ∃ x, x = w.alloc (.cells Z33 36) := ⟨_, rfl⟩
  rw [← hw0] at B0 R0 HC ⊢
  clear hw0
  go_wp2_with (first
    | (go_at_call 94; refine HC.out.mono ?_; rintro e1 w1 ⟨rfl, HR1, HO1⟩; have R1 := (HO1.out.block _ (lt_of_block R0.out) (Nat.ne_of_gt HGL.out)).trans R0.out)
    | ((with_reducible refine row_store _ _ _ _ _ _ _ ?_ ?_ R1 (row_size Try.sizeRef HA2) ?_ HA3.out ?_); (exact rfl); (exact rfl); (rw [HA2.out]; rfl); intro w6 G6 ch6))
  refine bodyPost_ret (results_cell_row rfl _ _ w.heap.size 36 A (0, 0) _ rfl G6.out Try.underlying36 rfl (row_size Try.sizeRef HA2)) rfl ⟨rfl, ?_, ?_⟩
  · exact HR1.out.only ch6.only (Nat.ne_of_gt HGL.out) HDL.out
  · exact (Only.behind B0.out HO1.out).new ch6.only (Nat.le_refl _)
end

/-! PaM: Contracts of the reference: rillref09.Int, Sum. -/
section
open Go.RowKit

theorem Pk.u_byte (v : Int) (i : Nat) (hi : i ≤ 7) : v % 18446744073709551616 / 256 ^ i % 256 = v / 256 ^ i % 256 := by
  match i, hi with
  | 0, _ => simp
  | 1, _ => simp; omega
  | 2, _ => simp; omega
  | 3, _ => simp; omega
  | 4, _ => simp; omega
  | 5, _ => simp; omega
  | 6, _ => simp; omega
  | 7, _ => simp; omega
set_option maxHeartbeats 1000000 in
set_option maxRecDepth 100000 in
theorem refint_any (L : List Int) (v : Int) (p : Option Addr) (n c m : Nat) (hn : L.length = n) (hm : n + 8 = m) (hL : n ≤ 1000000) (w : World) (hp : Bs w p c L) :
    Calls Try.prog 46 #[.slice p n c, .int .i64 v] w (RowOf (L ++ Pk.e8 v 8) m w) := by
  have HP := Lib.hid hp; clear hp
  have HN := Lib.hid hn; clear hn
  obtain ⟨i0, hi, hz0, hz1, hz2⟩ := info_parts Try.info_u8
  have HO : Hid ((w.alloc (.cells #[] 5)).ownsRow w.heap.size 5 1 (.slice (some ⟨w.heap.size, 0, none⟩) 0 0) 0 (U8s [])) := by
    refine ⟨by unfold U8s; rfl, Or.inr ⟨w.heap.size, 0, _, rfl, Nat.le_refl _, heap_alloc_new w _, Nat.le_refl _, by unfold maxLen; omega, by simp, by unfold U8s; simp⟩⟩
  have HB : Hid (Below w.heap.size w (w.alloc (.cells #[] 5))) := (Below.refl _ w).alloc (Nat.le_refl _) _
  have HBS : Hid (Bs (w.alloc (.cells #[] 5)) p c L) := HP.out.old HB.out
  go_enter Try.func46, Try.ntmps46
  go_wp2_with (first
    | (at_builtin; refine append_bts _ _ L w.heap.size _ _ _ p _ c rfl rfl HN.out HBS.out HO.out (by omega) (by simp) ?_; intro v5 w5 ho5 hg5; have HO5 := Lib.hid ho5; have HG5 := Lib.hid hg5; clear ho5 hg5)
    | go_in)
  have HO0 : Hid (w5.ownsRow w.heap.size 5 1 v5 (n + 0) (U8s (L ++ Pk.e8 v 0))) := by
    have h := HO5.out
    rw [List.nil_append] at h
    rw [show Pk.e8 v 0 = [] from List.eq_nil_of_length_eq_zero (Pk.e8_len _ _), List.append_nil, Nat.add_zero]
    rw [Nat.zero_add] at h
    exact h
  have HB5 : Hid (Below w.heap.size w w5) := HB.out.grown HG5.out (by simp) (fun q hq => (HO.out.lt q hq).1)
  have HU : Hid (IntKind.u64.wrap v = v % 18446744073709551616) := by show _ = _; unfold IntKind.wrap; simp [IntKind.signed, IntKind.bits]
  clear HO5 HG5 HO HB HBS
  generalize IntKind.u64.wrap v = U at *
  go_loopw [5, 7] (fun u5 u7 wr => ∃ k : Nat, k ≤ 8 ∧ u7 = .int .i64 (7 - (k : Int)) ∧ Hid (wr.ownsRow w.heap.size 5 1 u5 (n + k) (U8s (L ++ Pk.e8 v k))) ∧ Hid (Below w.heap.size w wr)) (fun _ u7 _ => (intOf u7 + 1).toNat)
  case atStart => exact ⟨0, by omega, rfl, HO0.out, HB5.out⟩
  case round =>
    clear HO0 HB5
    obtain ⟨k, hk, rfl, HO, HB⟩ := hrel
    by_cases hlt : k < 8
    · have hx0 : 7 - (k : Int) ≥ 0 := by omega
      have hw3 : IntKind.i64.wrap (8 * (7 - (k : Int))) = 8 * (7 - (k : Int)) := IntWalk.i64_in _ ⟨by omega, by omega⟩
      have hw5 : wrap64 (8 * (7 - (k : Int))) = 8 * (7 - (k : Int)) := IntWalk.wrap64_in _ ⟨by omega, by omega⟩
      have hw4 : IntKind.u64.wrap (8 * (7 - (k : Int))) = 8 * (7 - (k : Int)) := by unfold IntKind.wrap; simp [IntKind.signed, IntKind.bits]; omega
      have hx6 : (2 : Int) ^ (8 * (7 - (k : Int))).toNat = 256 ^ (7 - k) := by
        rw [show (8 * (7 - (k : Int))).toNat = 8 * (7 - k) by omega, Int.pow_mul]
        rfl
      have HX : Hid (U / 256 ^ (7 - k) % 256 = v / 256 ^ (7 - k) % 256) := by show _ = _; rw [HU.out]; exact Pk.u_byte v (7 - k) (by omega)
      have hx7 : (k : Int) ≤ 7 := by omega
      go_wp2_with (first
        | (at_builtin; refine wpList_append_own _ rfl _ _ 41 rfl w.heap.size 5 i0 (.int .u8 0) 1 1 Try.underlying41 hi hz0 hz1 hz2 rfl (by decide) _ _ _ rfl (HO.out.alloc _) ⟨wr.heap.size, 0, none⟩ 1 1 [.int .u8 (U / 256 ^ (7 - k) % 256)] rfl rfl (u8_cell _ _ _) (u8_one _) (by unfold maxLen; omega) (by omega) (by have := HB.out.size; simp; omega) ?_)
        | go_in)
      intro v' w1 hown' hgrow _
      have hb1 := below_own HB.out (HB.out.size) HO.out hgrow
      rw [U8s_snoc, HX.out, List.append_assoc, ← Pk.e8_succ] at hown'
      have HO' := Lib.hid hown'
      have HB' := Lib.hid hb1
      clear hgrow HO HB hown' hb1
      go_wp2
      refine ⟨⟨k + 1, by omega, ?_, HO'.out, HB'.out⟩, by simp [intOf]; omega⟩
      congr 1
      omega
    · obtain rfl : k = 8 := by omega
      clear hlt
      go_wp2
      go_ret
      obtain ⟨p', c', rfl, hbs, hlen⟩ := own_bs HO.out (Sha.byt_append HP.out.bat.1 (Pk.e8_byt v 8))
      have hl : (L ++ Pk.e8 v 8).length = m := by rw [List.length_append, HN.out, Pk.e8_len]; exact hm
      have h := HO.out
      rw [hl, hm] at h
      rw [hl]
      exact ⟨p', c', rfl, h, hbs, HB.out⟩
end

/-! PaN: Contract of the reference: rillref09.Ref. -/
section
open Go.RowKit
end

/-! PaO: The reference's reader in memory; contracts: Read, Left, End, next. -/
section
open Go.RowKit

/-- The reference's reader at block g, its bytes in block D: what is left, and whether it is bad. -/
structure RfRd (w : World) (g : Nat) (D : Option Nat) (L : List Int) (b : Bool) : Prop where
  row : ∃ p c a B, w.heap[g]? = some (.cells #[.slice p (List.length B) c, .int .i64 (a : Nat), .bool b] 129 (0, 0)) ∧ Bs w p c B ∧ a ≤ B.length ∧ B.length ≤ 1000000 ∧ (b = false → L = B.drop a) ∧ (b = true → L = []) ∧ (∀ ad, p = some ad → D = some ad.block)
  ne : D ≠ some g
  lt : ∀ d, D = some d → d < w.heap.size
theorem RfRd.glt {w : World} {g : Nat} {D : Option Nat} {L : List Int} {b : Bool} (h : RfRd w g D L b) : g < w.heap.size := by
  obtain ⟨p, c, a, B, h1, _⟩ := h.row
  exact lt_of_block h1
theorem RfRd.only {w x : World} {g k : Nat} {D : Option Nat} {L : List Int} {b : Bool} (h : RfRd w g D L b) (ho : Only k w x) (hk : k ≠ g) (hd : D ≠ some k) : RfRd x g D L b := by
  obtain ⟨⟨p, c, a, B, h1, h2, h3, h6, h7, h8, h9⟩, h4, h5⟩ := h
  exact ⟨⟨p, c, a, B, (ho.block g (lt_of_block h1) (Ne.symm hk)).trans h1, h2.only ho (fun ad ha e => hd (by rw [h9 ad ha, e])), h3, h6, h7, h8, h9⟩, h4, fun d hd => Nat.lt_of_lt_of_le (h5 d hd) ho.size⟩
theorem RfRd.old {w x : World} {g : Nat} {D : Option Nat} {L : List Int} {b : Bool} (h : RfRd w g D L b) (hb : Below w.heap.size w x) : RfRd x g D L b := by
  obtain ⟨⟨p, c, a, B, h1, h2, h3⟩, h4, h5⟩ := h
  exact ⟨⟨p, c, a, B, (hb.block g (lt_of_block h1)).trans h1, h2.old hb, h3⟩, h4, fun d hd => Nat.lt_of_lt_of_le (h5 d hd) hb.size⟩

def RfNew (L : List Int) (w : World) (e : Ending) (w' : World) : Prop :=
  ∃ g D, e = .returned (.pointer (some ⟨g, 0, none⟩)) ∧ Hid (RfRd w' g D L false) ∧ Hid (w.heap.size ≤ g ∧ ∀ d, D = some d → w.heap.size ≤ d) ∧ Hid (Below w.heap.size w w')
set_option maxHeartbeats 1000000 in
set_option maxRecDepth 100000 in
theorem refread_any (L : List Int) (p : Option Addr) (n c : Nat) (hn : L.length = n) (hL : n ≤ 1000000) (w : World) (hp : Bs w p c L) :
    Calls Try.prog 50 #[.slice p n c] w (RfNew L w) := by
  have HP := Lib.hid hp; clear hp
  have HN := Lib.hid hn; clear hn
  have HO : Hid ((w.alloc (.cells #[] 5)).ownsRow w.heap.size 5 1 (.slice (some ⟨w.heap.size, 0, none⟩) 0 0) 0 (U8s [])) := by
    refine ⟨by unfold U8s; rfl, Or.inr ⟨w.heap.size, 0, _, rfl, Nat.le_refl _, heap_alloc_new w _, Nat.le_refl _, by unfold maxLen; omega, by simp, by unfold U8s; simp⟩⟩
  have HB : Hid (Below w.heap.size w (w.alloc (.cells #[] 5))) := (Below.refl _ w).alloc (Nat.le_refl _) _
  have HBS : Hid (Bs (w.alloc (.cells #[] 5)) p c L) := HP.out.old HB.out
  go_enter Try.func50, Try.ntmps50
  go_wp2_with (first
    | (at_builtin; refine append_bts _ _ L w.heap.size _ _ _ p _ c rfl rfl HN.out HBS.out HO.out (by omega) (by simp) ?_; intro v5 w5 ho5 hg5; have HO5 := Lib.hid ho5; have HG5 := Lib.hid hg5; clear ho5 hg5; obtain ⟨p1, c1, rfl, hbs, _⟩ := own_bs HO5.out (Sha.byt_append (fun x hx => by cases hx) HP.out.bat.1); have HB5 := Lib.hid hbs; clear hbs)
    | go_in)
  go_ret
  have HB6 : Hid (Below w.heap.size w w5) := HB.out.grown HG5.out (by simp) (fun q hq => (HO.out.lt q hq).1)
  have HB7 : Hid (Below w.heap.size w (w5.alloc (.cells #[.slice p1 L.length c1, .int .i64 0, .bool false] 129))) := HB6.out.alloc HB6.out.size _
  have HBS2 : Hid (Bs (w5.alloc (.cells #[.slice p1 L.length c1, .int .i64 0, .bool false] 129)) p1 c1 L) := by
    have h := HB5.out.old ((Below.refl _ w5).alloc (Nat.le_refl _) (.cells #[.slice p1 L.length c1, .int .i64 0, .bool false] 129))
    rw [List.nil_append] at h
    exact h
  have HD : Hid (∀ d, p1.map (·.block) = some d → w.heap.size ≤ d ∧ d < w5.heap.size) := fun d hd => by
    cases p1 with
    | none => cases hd
    | some ad =>
      cases hd
      obtain ⟨h2, h1⟩ := HO5.out.lt ad.block rfl
      exact ⟨h2, h1⟩
  refine ⟨w5.heap.size, p1.map (·.block), rfl, ⟨⟨p1, c1, 0, L, heap_alloc_new w5 _, HBS2.out, Nat.zero_le _, by rw [HN.out]; omega, fun _ => by rw [List.drop_zero], fun h => (by cases h), fun ad h => by rw [h]; rfl⟩, fun h => ?_, fun d hd => ?_⟩, ⟨HB6.out.size, fun d hd => (HD.out d hd).1⟩, HB7.out⟩
  · have h1 := (HD.out _ h).2
    omega
  · have h1 := (HD.out _ hd).2
    simp
    omega

set_option maxRecDepth 100000 in
theorem refleft_any (L : List Int) (b : Bool) (g : Nat) (D : Option Nat) (w : World) (hr : RfRd w g D L b) : Calls Try.prog 75 #[.pointer (some ⟨g, 0, none⟩)] w (LeftSay L w) := by
  obtain ⟨p, c, a, B, h1, h2, h3, h6, h7, h8, h9⟩ := hr.row
  have c0 : w.cell? ⟨g, 0, none⟩ = some (.slice p B.length c) := by rw [cell_of_row w g 0 _ _ _ h1]; rfl
  have c1 : w.cell? ⟨g, 1, none⟩ = some (.int .i64 (a : Nat)) := by rw [cell_of_row w g 1 _ _ _ h1]; rfl
  have c2 : w.cell? ⟨g, 2, none⟩ = some (.bool b) := by rw [cell_of_row w g 2 _ _ _ h1]; rfl
  cases b with
  | true =>
    have HE := Lib.hid (h8 rfl)
    clear h1 h2 h3 h6 h7 h8 h9 hr
    go_enter Try.func75, Try.ntmps75
    go_wp2
    go_ret
    exact ⟨by rw [HE.out]; rfl, Below.refl _ _⟩
  | false =>
    have HE : Hid (((B.length : Nat) : Int) - ((a : Nat) : Int) = ((L.length : Nat) : Int)) := by
      show _ = _
      rw [h7 rfl, List.length_drop]
      omega
    clear h1 h2 h7 h8 h9 hr
    generalize B.length = n at *
    have hw : wrap64 ((n : Int) - (a : Int)) = (n : Int) - (a : Int) := IntWalk.wrap64_in _ ⟨by omega, by omega⟩
    go_enter Try.func75, Try.ntmps75
    go_wp2
    go_quiet (fail)
    go_wp2
    go_ret
    exact ⟨by rw [← HE.out]; rfl, below_dn (Below.refl _ _) _⟩
set_option maxRecDepth 100000 in
theorem refend_any (L : List Int) (b : Bool) (g : Nat) (D : Option Nat) (w : World) (hr : RfRd w g D L b) : Calls Try.prog 52 #[.pointer (some ⟨g, 0, none⟩)] w (EndSayP (Pk.en L b) w) := by
  obtain ⟨p, c, a, B, h1, h2⟩ := hr.row
  have c2 : w.cell? ⟨g, 2, none⟩ = some (.bool b) := by rw [cell_of_row w g 2 _ _ _ h1]; rfl
  have HR := Lib.hid hr
  clear h1 h2 hr
  cases b with
  | true =>
    go_enter Try.func52, Try.ntmps52
    go_wp2
    go_ret
    exact ⟨rfl, Below.refl _ _⟩
  | false =>
    have HC := Lib.hid (refleft_any L false g D w HR.out)
    by_cases h0 : 0 < L.length
    · have HE : Hid (Pk.en L false = 3) := by show _ = _; unfold Pk.en; simp [h0]
      have h0' : ((L.length : Nat) : Int) > 0 := by omega
      go_enter Try.func52, Try.ntmps52
      go_wp2_with (go_at_call 75; refine HC.out.mono ?_; rintro e1 w1 ⟨rfl, hb⟩)
      go_ret
      exact ⟨by rw [HE.out]; rfl, hb⟩
    · have HE : Hid (Pk.en L false = 0) := by show _ = _; unfold Pk.en; simp [h0]
      have h0' : ¬ ((L.length : Nat) : Int) > 0 := by omega
      go_enter Try.func52, Try.ntmps52
      go_wp2_with (go_at_call 75; refine HC.out.mono ?_; rintro e1 w1 ⟨rfl, hb⟩)
      go_ret
      exact ⟨by rw [HE.out]; rfl, hb⟩
end

/-! PaP: Contract of the reference's reader: next. -/
section
open Go.RowKit

theorem only_of_below_any {g : Nat} {w w' : World} (h : Below w.heap.size w w') : Only g w w' := ⟨h.os, h.tape, h.output, h.size, fun k hk _ => h.block k hk⟩
theorem Bs.drewN {w : World} {p : Option Addr} {c : Nat} {L : List Int} (h : Bs w p c L) (n : Nat) : Bs (w.drewN n) p c L := ⟨h.bat.drewN n, h.cap, h.nil⟩
theorem RfRd.drewN {w : World} {g : Nat} {D : Option Nat} {L : List Int} {b : Bool} (h : RfRd w g D L b) (n : Nat) : RfRd (w.drewN n) g D L b := h.old ⟨rfl, rfl, rfl, Nat.le_refl _, fun _ _ => rfl⟩
theorem Only.drewN {g : Nat} {w x : World} (h : Only g w x) (n : Nat) : Only g w (x.drewN n) := ⟨h.os, h.tape, h.output, h.size, h.block⟩
def NxShort (g : Nat) (D : Option Nat) (w : World) (e : Ending) (w' : World) : Prop :=
  e = .returned (.tuple #[.slice none 0 0, .bool false]) ∧ Hid (RfRd w' g D [] true) ∧ Hid (Only g w w')
set_option maxHeartbeats 1000000 in
set_option maxRecDepth 100000 in
theorem next_short (L : List Int) (b : Bool) (g : Nat) (D : Option Nat) (n k : Nat) (hn : L.length = n) (hk : n < k) (w : World) (hr : RfRd w g D L b) :
    Calls Try.prog 74 #[.pointer (some ⟨g, 0, none⟩), .int .i64 (k : Nat)] w (NxShort g D w) := by
  have HC : Hid (∀ y, Below w.heap.size w y → Calls Try.prog 75 #[.pointer (some ⟨g, 0, none⟩)] y fun e w' => e = .returned (.int .i64 (n : Nat)) ∧ Below y.heap.size y w') := fun y hy => by
    have h := refleft_any L b g D y (hr.old hy)
    unfold LeftSay at h
    rw [hn] at h
    exact h
  have HR := Lib.hid hr
  have hlt : (n : Int) < (k : Int) := by omega
  have HF : Hid (∀ y, Below w.heap.size w y → (∃ v, y.cell? ⟨g, 2, none⟩ = some v) ∧ y.frozen? ⟨g, 2, none⟩ = false ∧ RfRd (y.setCell ⟨g, 2, none⟩ (.bool true)) g D [] true) := fun y hy => by
    obtain ⟨⟨p, c, a, B, h1, h2, h3, h6, h7, h8, h9⟩, h4, h5⟩ := HR.out.old hy
    refine ⟨⟨.bool b, by rw [cell_of_row y g 2 _ _ _ h1]; rfl⟩, frozen_of_row y g 2 _ _ h1, ⟨p, c, a, B, ?_, h2.only (Chg.setCell y ⟨g, 2, none⟩ _).only (fun ad h e => h4 (by rw [h9 ad h, e])), h3, h6, fun h => (by cases h), fun _ => rfl, h9⟩, h4, fun d hd => by simpa using h5 d hd⟩
    rw [heap_setCell_same y g 2 _ _ _ h1]
    rfl
  have B0 : Hid (Below w.heap.size w w) := Below.refl _ _
  clear hr hn HR
  go_enter Try.func74, Try.ntmps74
  go_wp2_with (go_at_call 75; refine (HC.out _ B0.out).mono ?_; rintro e1 w1 ⟨rfl, hb⟩; obtain ⟨⟨v0, c0⟩, f0, hf⟩ := HF.out _ hb; have HF1 := Lib.hid hf; clear hf; have HB1 := Lib.hid hb; clear hb)
  go_ret2
  exact ⟨rfl, HF1.out, (only_of_below_any HB1.out).trans (Chg.setCell w1 ⟨g, 2, none⟩ _).only⟩

def NxGood (L : List Int) (k g : Nat) (D : Option Nat) (w : World) (e : Ending) (w' : World) : Prop :=
  ∃ ab o c, e = .returned (.tuple #[.slice (some ⟨ab, o, none⟩) k c, .bool true]) ∧ Hid (Bs w' (some ⟨ab, o, none⟩) c (L.take k)) ∧ Hid (RfRd w' g D (L.drop k) false) ∧ Hid (Only g w w') ∧ Hid (D = some ab)
set_option maxHeartbeats 2000000 in
set_option maxRecDepth 100000 in
theorem next_good (L : List Int) (b : Bool) (g : Nat) (D : Option Nat) (n k : Nat) (hn : L.length = n) (hk : k ≤ n) (h0 : 0 < k) (w : World) (hr : RfRd w g D L b) :
    Calls Try.prog 74 #[.pointer (some ⟨g, 0, none⟩), .int .i64 (k : Nat)] w (NxGood L k g D w) := by
  have hbf : b = false := by
    cases b with
    | false => rfl
    | true =>
      obtain ⟨p, c, a, B, h1, h2, h3, h6, h7, h8, h9⟩ := hr.row
      rw [h8 rfl] at hn
      simp at hn
      omega
  subst hbf
  have HC : Hid (∀ y, Below w.heap.size w y → Calls Try.prog 75 #[.pointer (some ⟨g, 0, none⟩)] y fun e w' => e = .returned (.int .i64 (n : Nat)) ∧ Below y.heap.size y w') := fun y hy => by
    have h := refleft_any L false g D y (hr.old hy)
    unfold LeftSay at h
    rw [hn] at h
    exact h
  have hlt : ¬ (n : Int) < (k : Int) := by omega
  obtain ⟨⟨p, c, a, B, h1, h2, h3, h6, h7, h8, h9⟩, h4, h5⟩ := hr
  have hLB := h7 rfl
  have hnl : n = B.length - a := by rw [← hn, hLB, List.length_drop]
  obtain ⟨m, hm⟩ : ∃ m, B.length = m := ⟨_, rfl⟩
  have hcap := h2.cap
  obtain ⟨ab, ao, rfl, _⟩ := h2.bat.2 (by omega)
  have HD : Hid (D = some ab) := h9 _ rfl
  have HROW : Hid (∀ y, Below w.heap.size w y → y.heap[g]? = some (.cells #[.slice (some ⟨ab, ao, none⟩) m c, .int .i64 (a : Nat), .bool false] 129 (0, 0))) := fun y hy => by
    rw [← hm]
    exact (hy.block g (lt_of_block h1)).trans h1
  have HBS : Hid (∀ y, Below w.heap.size w y → Bs (y.setCell ⟨g, 1, none⟩ (.int .i64 ((a : Int) + (k : Int)))) (some ⟨ab, ao, none⟩) c B) := fun y hy =>
    (h2.old hy).only (Chg.setCell y ⟨g, 1, none⟩ _).only (fun ad h e => h4 (by rw [h9 ad h, e]))
  have HTK : Hid (∀ y, Bs y (some ⟨ab, ao, none⟩) c B → Bs y (some ⟨ab, ao + a, none⟩) (c - a) (L.take k)) := fun y hy => by
    rw [hLB]
    exact (hy.dropk (by omega)).take k
  have HDR : Hid (L.drop k = B.drop (a + k)) := by show _ = _; rw [hLB, List.drop_drop]
  have HLT : Hid (∀ d, D = some d → d < w.heap.size) := h5
  have HNE : Hid (D ≠ some g) := h4
  have HML : Hid (B.length = m) := hm
  have B0 : Hid (Below w.heap.size w w) := Below.refl _ _
  have hmc : m ≤ c := by omega
  have hma : a + k ≤ m := by omega
  have hmb : m ≤ 1000000 := by omega
  have hcc : c ≤ 9223372036854775807 := hcap.2
  clear hn h1 h2 h3 h4 h5 h6 h7 h8 h9 hLB hnl hm hcap
  have hw2 : IntKind.i64.wrap ((a : Int) + (k : Int) - (k : Int)) = (a : Int) := by rw [IntWalk.i64_in _ ⟨by omega, by omega⟩]; omega
  have hw3 : wrap64 ((a : Int) + (k : Int) - (k : Int)) = (a : Int) := by rw [IntWalk.wrap64_in _ ⟨by omega, by omega⟩]; omega
  have hca : ¬ c = a := by omega
  have hi1 : ¬ ((a : Int) + (k : Int) < (a : Int)) := by omega
  have hi2 : ¬ ((c : Int) < (a : Int) + (k : Int)) := by omega
  have hak : a + k - a = k := by omega
  go_enter Try.func74, Try.ntmps74
  go_upto_region 4 with (go_at_call 75; refine (HC.out _ B0.out).mono ?_; rintro e1 w1 ⟨rfl, hb⟩; have r1 := HROW.out _ hb; have c1 : w1.cell? ⟨g, 1, none⟩ = some (.int .i64 (a : Nat)) := (by rw [cell_of_row w1 g 1 _ _ _ r1]; rfl); have f1 := frozen_of_row w1 g 1 _ _ r1; have HB1 := Lib.hid hb; clear hb)
  go_upto_region 5 with (fail)
  have r1 := HROW.out _ HB1.out
  have r2 := heap_setCell_same w1 g 1 _ _ (Value.int .i64 ((a : Int) + (k : Int))) r1
  have HB2 := Lib.hid (HBS.out _ HB1.out)
  have HO2 : Hid (Only g w (w1.setCell ⟨g, 1, none⟩ (.int .i64 ((a : Int) + (k : Int))))) := (only_of_below_any HB1.out).trans (Chg.setCell w1 ⟨g, 1, none⟩ _).only
  have d0 : (w1.setCell ⟨g, 1, none⟩ (.int .i64 ((a : Int) + (k : Int)))).cell? ⟨g, 0, none⟩ = some (.slice (some ⟨ab, ao, none⟩) m c) := by rw [cell_of_row _ g 0 _ _ _ r2]; rfl
  have d1 : (w1.setCell ⟨g, 1, none⟩ (.int .i64 ((a : Int) + (k : Int)))).cell? ⟨g, 1, none⟩ = some (.int .i64 ((a : Int) + (k : Int))) := by rw [cell_of_row _ g 1 _ _ _ r2]; rfl
  have HR2 : Hid (RfRd (w1.setCell ⟨g, 1, none⟩ (.int .i64 ((a : Int) + (k : Int)))) g D (L.drop k) false) := by
    refine ⟨⟨some ⟨ab, ao, none⟩, c, a + k, B, ?_, HB2.out, by rw [HML.out]; exact hma, by rw [HML.out]; exact hmb, fun _ => HDR.out, fun h => (by cases h), fun ad h => (by cases h; exact HD.out)⟩, HNE.out, fun d hd => Nat.lt_of_lt_of_le (HLT.out d hd) HO2.out.size⟩
    rw [HML.out, Int.natCast_add]
    exact r2
  have HT2 := Lib.hid (HTK.out _ HB2.out)
  clear r1 r2 HB1 HROW HC HBS HTK HDR HB2
  generalize w1.setCell ⟨g, 1, none⟩ (.int .i64 ((a : Int) + (k : Int))) = w2 at *
  go_quiet (fail)
  go_wp2
  rw [hak]
  go_ret2
  exact ⟨ab, ao + a, c - a, rfl, HT2.out.drewN _, HR2.out.drewN _, HO2.out.drewN _, HD.out⟩
end
end Go.Proofs.Ytpfghjnhoafcmaa

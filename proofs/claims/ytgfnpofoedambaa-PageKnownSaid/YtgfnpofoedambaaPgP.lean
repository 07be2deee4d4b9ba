/-
  PageKnown walked.
-/
import Derived.Test.YtgfnpofoedambaaPgK
namespace Go.Proofs.Ytgfnpofoedambaa
open Go.RowKit

theorem leaf_nat (b : Nat) (hb : b < 64) (w : World) : Calls Try.prog 11 #[.int .i64 (b : Nat)] w fun e w' => e = .returned (.tuple #[.int .i64 ((b / 8 + 1 : Nat) : Int), .int .i64 ((b % 8 : Nat) : Int)]) ∧ Hid (Below w.heap.size w w') := by
  have h := leaf_any (b : Int) w
  unfold LeafSay Pg.lf Pg.lp at h
  rw [if_pos ⟨by omega, by omega⟩, if_pos ⟨by omega, by omega⟩] at h
  have e1 : (b : Int) / 8 + 1 = ((b / 8 + 1 : Nat) : Int) := by omega
  have e2 : (b : Int) % 8 = ((b % 8 : Nat) : Int) := by omega
  rw [e1, e2] at h
  exact h
theorem leaf_out (b : Int) (hb : ¬ (0 ≤ b ∧ b ≤ 63)) (w : World) : Calls Try.prog 11 #[.int .i64 b] w fun e w' => e = .returned (.tuple #[.int .i64 0, .int .i64 0]) ∧ Hid (Below w.heap.size w w') := by
  have h := leaf_any b w
  unfold LeafSay Pg.lf Pg.lp at h
  rw [if_neg hb, if_neg hb] at h
  exact h
/-- Which leaves and places have been seen behind b blocks. -/
def sb (b : Nat) : Array Value := ((List.range 72).map fun c => Value.bool (decide (8 ≤ c ∧ c < 8 + b))).toArray
theorem sb_size (b : Nat) : (sb b).size = 72 := by unfold sb; simp
theorem sb_at (b c : Nat) (hc : c < 72) : (sb b)[c]? = some (.bool (decide (8 ≤ c ∧ c < 8 + b))) := by unfold sb; simp [hc]
theorem sb_one (b : Nat) : (sb b).all (·.oneCell') = true := by
  refine Array.all_eq_true_iff_forall_mem.2 (fun v hv => ?_)
  unfold sb at hv
  rw [List.mem_toArray, List.mem_map] at hv
  obtain ⟨c, _, rfl⟩ := hv
  rfl
theorem sb_zero : sb 0 = (List.replicate 72 (Value.bool false)).toArray := by
  apply Array.ext_getElem?
  intro c
  by_cases hc : c < 72
  · rw [sb_at _ _ hc, List.getElem?_toArray, List.getElem?_replicate, if_pos hc]
    congr 2
    exact decide_eq_false (by omega)
  · rw [Array.getElem?_eq_none (by rw [sb_size]; omega), Array.getElem?_eq_none (by simp; omega)]
theorem sb_set (b : Nat) (hb : b < 64) : (sb b).setIfInBounds (b + 8) (.bool true) = sb (b + 1) := by
  apply Array.ext_getElem?
  intro c
  rw [Array.getElem?_setIfInBounds, sb_size]
  by_cases hc : c < 72
  · rw [sb_at _ _ hc, sb_at _ _ hc]
    by_cases e : b + 8 = c
    · subst e
      rw [if_pos rfl, if_pos hc]
      congr 2
      exact (decide_eq_true (by omega)).symm
    · rw [if_neg e]
      congr 2
      exact decide_eq_decide.2 ⟨fun h => ⟨h.1, by omega⟩, fun h => ⟨h.1, by omega⟩⟩
  · rw [Array.getElem?_eq_none (by rw [sb_size]; omega), Array.getElem?_eq_none (by rw [sb_size]; omega), if_neg (by omega)]
theorem Try.zero72 : (Try.prog.info? 45).map (fun i => (i.zero, i.size)) = some (some (.agg (sb 0)), 72) := by kernel_rfl
theorem Try.built72 : Try.prog.built 45 [] = some (sb 0) := by kernel_rfl
theorem Try.size72 : (Try.prog.info? 45).map (·.size) = some 72 := by kernel_rfl
attribute [irreducible] sb
/-- Numbers about the ends. -/
def en4 : List Int := [-9223372036854775808, -1, 64, 9223372036854775807]
def at7 : List Int := [-1, 0, 1, 2, 3, 4095, 4096]
theorem en4_out (n : Nat) (h : n < 4) : ¬ (0 ≤ en4.getD n 0 ∧ en4.getD n 0 ≤ 63) := by
  match n, h with
  | 0, _ => decide
  | 1, _ => decide
  | 2, _ => decide
  | 3, _ => decide
namespace Pg
def s31 : List Int := List.replicate 31 0 ++ [1]
def r7 (n : Nat) : Rf := (at7.getD n 0, s31)
theorem s31_ne : s31 ≠ List.replicate 32 0 := by decide
theorem at7_in (n : Nat) : Pk.In64 (at7.getD n 0) := by
  unfold Pk.In64
  by_cases h : n < 7
  · match n, h with
    | 0, _ => decide
    | 1, _ => decide
    | 2, _ => decide
    | 3, _ => decide
    | 4, _ => decide
    | 5, _ => decide
    | 6, _ => decide
  · rw [List.getD_eq_getElem?_getD, List.getElem?_eq_none (by simp [at7]; omega)]
    decide
theorem ok_r7 (n : Nat) : Ok (r7 n) := ⟨by simp [r7, s31], fun x hx => by unfold r7 s31 at hx; simp only [List.mem_append, List.mem_replicate, List.mem_singleton] at hx; omega, at7_in n⟩
theorem r7_ne (n : Nat) : r7 n ≠ zr := fun e => by
  have := congrArg Prod.snd e
  unfold r7 zr at this
  exact s31_ne this
theorem mb_r7 (n : Nat) (h : n < 7) : mb (r7 n) = decide (n = 4 ∨ n = 5) := by
  have hz : decide (r7 n = zr) = false := decide_eq_false (r7_ne n)
  unfold mb
  rw [hz, Bool.false_or]
  unfold r7
  match n, h with
  | 0, _ => decide
  | 1, _ => decide
  | 2, _ => decide
  | 3, _ => decide
  | 4, _ => decide
  | 5, _ => decide
  | 6, _ => decide
end Pg
theorem Try.builtS31 : Try.prog.built 23 [(31, .int .u8 1)] = some (Pg.s31.map (Value.int .u8)).toArray := by kernel_rfl
section
variable {P : Program} {ops : Array Oper} {rest : List Oper} {a : Act} {w : World} {Q : Exit → Act → World → Prop} {D : Option Tmp} {T : TypeId} {ps : String} {af : Array Edge}
/-- A value built of one part. -/
theorem row_build1 (t : TypeId) (k : Nat) (x : Operand) (v : Value) (R : Array Value) (hx : a.eval x = v) (hr : P.built t [(k, v)] = some R) (h : wpList P ops Q rest (a.put D (.agg R)) w) :
    wpList P ops Q ({ dst := D, op := .build t #[(k, x)], type := T, pos := ps, after := af, guard := none } :: rest) a w :=
  wpList_plain rfl fun K hK => by
    have hrun := run_build (P := P) w t #[(k, v)] R hr
    unfold Oper.wp execOp
    simp only [hx, List.map_toArray, List.map_cons, List.map_nil, hrun, Sem.run_bind, Sem.run_pure, Result.andThen_ok]
    exact hK _ _ h
end
theorem cl_r7 (n : Nat) : #[Value.int .i64 (at7.getD n 0)] ++ (Pg.s31.map (Value.int .u8)).toArray = (cl (Pg.r7 n)).toArray := by
  unfold cl Pg.r7
  apply Array.ext'
  simp
/-- What Put says of the nodes with one ref at the end, whatever its bytes. -/
theorem put_r7 (n : Nat) (h : n < 7) (w : World) : Calls Try.prog 9 #[.int .i64 0, PV (Pg.zp.set 7 (Pg.r7 n))] w fun e w' => ∃ v, e = .returned (.tuple #[v, .int .i64 (if n = 4 ∨ n = 5 then 0 else 7)]) ∧ Hid (Below w.heap.size w w') := by
  have ho := Pg.ok_set Pg.ok_zp 7 (Pg.ok_r7 n)
  by_cases hn : n = 4 ∨ n = 5
  · rw [if_pos hn]
    refine (put_yes 0 _ ho (Pg.nd_set ⟨by omega, by omega⟩ 7 (by rw [Pg.mb_r7 n h]; exact decide_eq_true hn)) w).mono ?_
    rintro e w' ⟨p, c, rfl, _, _, hb⟩
    exact ⟨_, rfl, hb⟩
  · rw [if_neg hn]
    refine (put_no 0 _ ho (Pg.nd_setno 7 (by omega) (by rw [Pg.mb_r7 n h]; exact decide_eq_false hn)) w).mono ?_
    rintro e w' ⟨rfl, hb⟩
    exact ⟨_, rfl, hb⟩
set_option maxHeartbeats 4000000 in
set_option maxRecDepth 100000 in
theorem closed_any (w : World) : Calls Try.prog 7 #[] w (YesSay w) := by
  have HLF : Hid (∀ b, b < 64 → ∀ y, Calls Try.prog 11 #[.int .i64 (b : Nat)] y fun e w' => e = .returned (.tuple #[.int .i64 ((b / 8 + 1 : Nat) : Int), .int .i64 ((b % 8 : Nat) : Int)]) ∧ Hid (Below y.heap.size y w')) := fun b hb y => leaf_nat b hb y
  have hz72 := (zero_of_info Try.zero72).1
  have HB72 := Lib.hid Try.built72
  obtain ⟨S0, hS0⟩ : ∃ S0, Hid (sb 0 = S0) := ⟨_, rfl⟩
  rw [hS0.out] at hz72 HB72
  have HS0 : Hid (S0.size = 72) := by show _ = _; rw [← hS0.out, sb_size]
  have HS1 : Hid (S0.all (·.oneCell') = true) := by show _ = _; rw [← hS0.out]; exact sb_one 0
  have hsn : ¬ S0 = #[] := fun h => by have := HS0.out; rw [h] at this; simp at this
  go_enter Try.func7, Try.ntmps7
  go_upto_region 2 with (first
    | ((with_reducible refine row_build0 _ _ HB72.out ?_))
    | ((with_reducible refine row_store _ _ _ _ _ _ _ ?_ ?_ (heap_alloc_new _ _) (row_size Try.size72 HS0) ?_ HS1.out ?_); (exact rfl); (exact rfl); (exact rfl); intro w1 G1 ch1))
  have B1 : Hid (Below w.heap.size w w1) := ch1.below ((Below.refl _ w).alloc (Nat.le_refl _) _) (Nat.le_refl _)
  rw [← hS0.out] at G1
  clear ch1 hz72 HB72 hS0 HS0 HS1 hsn
  go_wp2
  go_loopw [2] (fun v2 wr => ∃ b : Nat, b ≤ 64 ∧ v2 = .int .i64 b ∧ Hid (wr.heap[w.heap.size]? = some (.cells (sb b) 45 (0, 0))) ∧ Hid (Below w.heap.size w wr)) (fun v2 _ => 64 - (intOf v2).toNat)
  case atStart => exact ⟨0, by omega, rfl, G1.out, B1.out⟩
  case round =>
    clear G1 B1
    obtain ⟨b, hb, rfl, HG, HB⟩ := hrel
    by_cases hlt : b < 64
    · have hx : (b : Int) < 64 := by omega
      have HC := Lib.hid (HLF.out b hlt)
      obtain ⟨i1, hi1⟩ : ∃ i1, b / 8 + 1 = i1 := ⟨_, rfl⟩
      obtain ⟨k1, hk1⟩ : ∃ k1, b % 8 = k1 := ⟨_, rfl⟩
      rw [hi1, hk1] at HC
      have hb8 : i1 * 8 + k1 = b + 8 := by omega
      have hi2 : 1 ≤ i1 ∧ i1 ≤ 8 := by omega
      have hk2 : k1 ≤ 7 := by omega
      obtain ⟨hi3, hi4⟩ := hi2
      clear hi1 hk1
      have c0 : Hid (∀ y, Below wr.heap.size wr y → y.cell? ⟨w.heap.size, i1 * 8 + k1, none⟩ = some (.bool false) ∧ y.frozen? ⟨w.heap.size, i1 * 8 + k1, none⟩ = false ∧ (y.setCell ⟨w.heap.size, i1 * 8 + k1, none⟩ (.bool true)).heap[w.heap.size]? = some (.cells (sb (b + 1)) 45 (0, 0))) := fun y hy => by
        have hg := (hy.block _ (lt_of_block HG.out)).trans HG.out
        refine ⟨?_, frozen_of_row y _ _ _ _ hg, ?_⟩
        · rw [cell_of_row y _ _ _ _ _ hg, sb_at _ _ (by omega), decide_eq_false (by omega)]
        · rw [heap_setCell_same y _ _ _ _ _ hg, hb8, sb_set b hlt]
      have ha : ¬ (i1 : Int) < 1 := by omega
      have hc : ¬ (i1 : Int) > 8 := by omega
      have hd : ¬ (k1 : Int) < 0 := by omega
      have he : ¬ (k1 : Int) > 7 := by omega
      have hf : (i1 : Int) < 9 := by omega
      have hg' : (k1 : Int) < 8 := by omega
      have hw1 : IntKind.i64.wrap ((i1 : Int) - 1) = (i1 : Int) - 1 := IntWalk.i64_in _ ⟨by omega, by omega⟩
      have hw2 : IntKind.i64.wrap (8 * ((i1 : Int) - 1)) = 8 * ((i1 : Int) - 1) := IntWalk.i64_in _ ⟨by omega, by omega⟩
      have hw3 : IntKind.i64.wrap (8 * ((i1 : Int) - 1) + (k1 : Int)) = (b : Int) := by rw [IntWalk.i64_in _ ⟨by omega, by omega⟩]; omega
      have hw4 : wrap64 ((i1 : Int) - 1) = (i1 : Int) - 1 := IntWalk.wrap64_in _ ⟨by omega, by omega⟩
      have hw5 : wrap64 (8 * ((i1 : Int) - 1)) = 8 * ((i1 : Int) - 1) := IntWalk.wrap64_in _ ⟨by omega, by omega⟩
      have hw6 : wrap64 (8 * ((i1 : Int) - 1) + (k1 : Int)) = (b : Int) := by rw [IntWalk.wrap64_in _ ⟨by omega, by omega⟩]; omega
      clear HLF hb8
      go_upto_region 6 with (go_at_call 11; refine (HC.out _).mono ?_; rintro e2 w2 ⟨rfl, HB2⟩)
      obtain ⟨c1, f1, h1⟩ := c0.out _ HB2.out
      have HG2 := Lib.hid h1
      have HB3 : Hid (Below w.heap.size w (w2.setCell ⟨w.heap.size, i1 * 8 + k1, none⟩ (.bool true))) := (HB.out.trans (HB2.out.mono HB.out.size)).setCell (Nat.le_refl _) _
      clear h1 c0 HG HB HB2
      go_wp2
      exact ⟨⟨b + 1, by omega, by go_num, HG2.out, HB3.out⟩, by simp [intOf]; omega⟩
    · obtain rfl : b = 64 := by omega
      clear hlt HLF HG
      generalize wr = wB at *
      rw [show ((64 : Nat) : Int) = 64 from rfl]
      have HE4 : Hid (∀ n, n < 4 → ∀ y, Calls Try.prog 11 #[.int .i64 (en4.getD n 0)] y fun e w' => e = .returned (.tuple #[.int .i64 0, .int .i64 0]) ∧ Hid (Below y.heap.size y w')) := fun n hn y => leaf_out _ (en4_out n hn) y
      have R4 : Hid ((wB.alloc (.cells #[.int .i64 (-9223372036854775808), .int .i64 (-1), .int .i64 64, .int .i64 9223372036854775807] 3)).heap[wB.heap.size]? = some (.cells (en4.map (Value.int .i64)).toArray 3 (0, 0))) := heap_alloc_new wB _
      have B4 : Hid (Below w.heap.size w (wB.alloc (.cells #[.int .i64 (-9223372036854775808), .int .i64 (-1), .int .i64 64, .int .i64 9223372036854775807] 3))) := HB.out.alloc HB.out.size _
      clear HB
      go_upto_region 10 with (fail)
      change Code.wp _ _ _ _ (wB.alloc (.cells #[.int .i64 (-9223372036854775808), .int .i64 (-1), .int .i64 64, .int .i64 9223372036854775807] 3))
      obtain ⟨wC, hwC⟩ : ∃ x, x = wB.alloc (.cells #[.int .i64 (-9223372036854775808), .int .i64 (-1), .int .i64 64, .int .i64 9223372036854775807] 3) := ⟨_, rfl⟩
      rw [← hwC] at R4 B4 ⊢
      clear hwC
      generalize wB.heap.size = g4 at *
      go_wp2
      go_loopw [6] (fun v6 wr => ∃ n : Nat, n ≤ 4 ∧ v6 = .int .i64 n ∧ Hid (wr.heap[g4]? = some (.cells (en4.map (Value.int .i64)).toArray 3 (0, 0))) ∧ Hid (Below w.heap.size w wr)) (fun v6 _ => 4 - (intOf v6).toNat)
      case atStart => exact ⟨0, by omega, rfl, R4.out, B4.out⟩
      case round =>
        clear R4 B4
        obtain ⟨n, hn, rfl, HG, HB⟩ := hrel
        by_cases hlt : n < 4
        · have hx : (n : Int) < 4 := by omega
          have hx0 : (0 : Int) ≤ (n : Int) := by omega
          have HC := Lib.hid (HE4.out n hlt)
          have c0 : wr.cell? ⟨g4, n, none⟩ = some (.int .i64 (en4.getD n 0)) := by
            rw [cell_of_row wr g4 n _ _ _ HG.out]
            have hl : n < en4.length := hlt
            simp [List.getD_eq_getElem?_getD, hl]
          generalize en4.getD n 0 = e0 at *
          clear HE4
          go_wp2_with (go_at_call 11; refine (HC.out _).mono ?_; rintro e2 w2 ⟨rfl, HB2⟩)
          exact ⟨⟨n + 1, by omega, by go_num, (HB2.out.block _ (lt_of_block HG.out)).trans HG.out, HB.out.trans (HB2.out.mono HB.out.size)⟩, by simp [intOf]; omega⟩
        · obtain rfl : n = 4 := by omega
          clear hlt HE4 HG
          generalize wr = wD at *
          rw [show ((4 : Nat) : Int) = 4 from rfl]
          have R7 : Hid ((wD.alloc (.cells #[.int .i64 (-1), .int .i64 0, .int .i64 1, .int .i64 2, .int .i64 3, .int .i64 4095, .int .i64 4096] 3)).heap[wD.heap.size]? = some (.cells (at7.map (Value.int .i64)).toArray 3 (0, 0))) := heap_alloc_new wD _
          have B7 : Hid (Below w.heap.size w (wD.alloc (.cells #[.int .i64 (-1), .int .i64 0, .int .i64 1, .int .i64 2, .int .i64 3, .int .i64 4095, .int .i64 4096] 3))) := HB.out.alloc HB.out.size _
          clear HB
          go_upto_region 17 with (fail)
          change Code.wp _ _ _ _ (wD.alloc (.cells #[.int .i64 (-1), .int .i64 0, .int .i64 1, .int .i64 2, .int .i64 3, .int .i64 4095, .int .i64 4096] 3))
          obtain ⟨wE, hwE⟩ : ∃ x, x = wD.alloc (.cells #[.int .i64 (-1), .int .i64 0, .int .i64 1, .int .i64 2, .int .i64 3, .int .i64 4095, .int .i64 4096] 3) := ⟨_, rfl⟩
          rw [← hwE] at R7 B7 ⊢
          clear hwE
          generalize wD.heap.size = g7 at *
          obtain ⟨Z, eZ⟩ : ∃ Z, (cs Pg.zp).toArray = Z := ⟨_, rfl⟩
          have eQ : PV Pg.zp = .agg Z := by unfold PV; rw [eZ]
          have HZS : Hid (Z.size = 264) := by show _ = _; rw [← eZ, List.size_toArray, cs_len Pg.ok_zp]
          have hz := (zero_of_info Try.zeroPage).1
          have HBT := Lib.hid Try.builtPage
          rw [eZ] at hz HBT
          have hzn : ¬ Z = #[] := fun h => by have := HZS.out; rw [h] at this; simp at this
          have HS31 := Lib.hid Try.builtS31
          have HN9 : Hid (∀ y, Calls Try.prog 9 #[.int .i64 9, .agg Z] y (PutNo y)) := fun y => by rw [← eQ]; exact put_no 9 Pg.zp Pg.ok_zp (nd_low _ (by omega)) y
          have HN1 : Hid (∀ y, Calls Try.prog 9 #[.int .i64 (-1), .agg Z] y (PutNo y)) := fun y => by rw [← eQ]; exact put_no (-1) Pg.zp Pg.ok_zp (nd_low _ (by omega)) y
          obtain ⟨VN, hVN⟩ : ∃ VN : Nat → Array Value, VN = fun n => (cl (Pg.r7 n)).toArray := ⟨_, rfl⟩
          obtain ⟨AN, hAN⟩ : ∃ AN : Nat → Array Value, AN = fun n => (cs (Pg.zp.set 7 (Pg.r7 n))).toArray := ⟨_, rfl⟩
          have HOK : ∀ n, Pg.OkA (Pg.zp.set 7 (Pg.r7 n)) := fun n => Pg.ok_set Pg.ok_zp 7 (Pg.ok_r7 n)
          have HPV : ∀ n, PV (Pg.zp.set 7 (Pg.r7 n)) = .agg (AN n) := fun n => by rw [hAN]; unfold PV; rfl
          have HBN : Hid (∀ n, Try.prog.built 25 [(0, .int .i64 (at7.getD n 0)), (1, .agg (Pg.s31.map (Value.int .u8)).toArray)] = some (VN n)) := fun n => by
            rw [build_ref _ _ (by simp [Pg.s31]), cl_r7, hVN]
          have HVS : Hid (∀ n, (VN n).size = 33 ∧ (VN n).all (·.oneCell') = true) := fun n => by rw [hVN]; exact ⟨by rw [List.size_toArray, cl_len (Pg.ok_r7 n)], all_oneCell_toArray (cl_one _)⟩
          have HAS : Hid (∀ n, (AN n).size = 264) := fun n => by rw [hAN]; show (cs _).toArray.size = 264; rw [List.size_toArray, cs_len (HOK n)]
          have HMX : Hid (∀ n (y : World) (q : Nat), y.heap[q]? = some (.cells (Mix Z (VN n) 7) 28 (0, 0)) → y.heap[q]? = some (.cells (AN n) 28 (0, 0))) := fun n y q hy => by
            rw [← eZ, hVN] at hy
            have := pat_set Pg.ok_zp (k := 7) (by omega) (Pg.ok_r7 n) hy
            unfold PAt at this
            rw [hAN]
            exact this
          have HPU : Hid (∀ n, n < 7 → ∀ y, Calls Try.prog 9 #[.int .i64 0, .agg (AN n)] y fun e w' => ∃ v, e = .returned (.tuple #[v, .int .i64 (if n = 4 ∨ n = 5 then 0 else 7)]) ∧ Hid (Below y.heap.size y w')) := fun n hn y => by rw [← HPV n]; exact put_r7 n hn y
          have HEM : Hid (∀ n, ∀ y, Calls Try.prog 14 #[.agg (AN n)] y (BoSay false y)) := fun n y => by
            have := empty_any _ (HOK n) y
            rw [HPV n, decide_eq_false (Pg.set_ne (by omega) (Pg.r7_ne n))] at this
            exact this
          clear HOK HPV hVN hAN eZ eQ
          generalize (Pg.s31.map (Value.int .u8)).toArray = S31 at *
          go_wp2
          go_loopw [10] (fun v10 wr => ∃ n : Nat, n ≤ 7 ∧ v10 = .int .i64 n ∧ Hid (wr.heap[g7]? = some (.cells (at7.map (Value.int .i64)).toArray 3 (0, 0))) ∧ Hid (Below w.heap.size w wr)) (fun v10 _ => 7 - (intOf v10).toNat)
          case atStart => exact ⟨0, by omega, rfl, R7.out, B7.out⟩
          case round =>
            clear R7 B7
            obtain ⟨n, hn, rfl, HG, HB⟩ := hrel
            by_cases hlt : n < 7
            · have hx : (n : Int) < 7 := by omega
              have hx0 : (0 : Int) ≤ (n : Int) := by omega
              have c0 : (wr.alloc (.cells Z 28)).cell? ⟨g7, n, none⟩ = some (.int .i64 (at7.getD n 0)) := by
                rw [cell_of_row _ g7 n _ _ _ ((heap_oldX wr _ (lt_of_block HG.out)).trans HG.out)]
                have hl : n < at7.length := hlt
                simp [List.getD_eq_getElem?_getD, hl]
              have RB := Lib.hid (HBN.out n)
              have RV := Lib.hid (HVS.out n).1
              have RO := Lib.hid (HVS.out n).2
              have RA := Lib.hid (HAS.out n)
              have RM := Lib.hid (HMX.out n)
              have RP := Lib.hid (HPU.out n hlt)
              have RE := Lib.hid (HEM.out n)
              generalize VN n = V at *
              generalize AN n = A at *
              generalize at7.getD n 0 = a0 at *
              clear HBN HVS HAS HMX HPU HEM HN9 HN1 HBT
              go_upto_region 23 with (first
                | ((with_reducible refine row_build1 _ _ _ (.int .u8 1) S31 ?_ HS31.out ?_); (exact rfl))
                | ((with_reducible refine row_build2 _ _ _ (.int .i64 a0) (.agg S31) V ?_ ?_ RB.out ?_); (exact rfl); (exact rfl))
                | ((with_reducible refine mid_store _ _ _ wr.heap.size 231 _ Z V ?_ ?_ (heap_alloc_new _ _) (row_size Try.sizeRef RV) ?_ RO.out ?_); (go_simp); (exact rfl); (rw [RV.out, HZS.out]; omega); intro w2 G2 ch2; have G3 := Lib.hid (RM.out _ _ G2.out))
                | ((with_reducible refine row_load _ _ _ _ _ _ _ ?_ G3.out Try.underlying28 ?_ (row_size Try.sizePage RA) ?_); (exact rfl); (exact rfl))
                | (go_at_call 9; refine (RP.out _).mono ?_; rintro e3 w3 ⟨v3, rfl, HB3⟩))
              have B2 : Hid (Below w.heap.size w w2) := ch2.below (HB.out.alloc HB.out.size _) HB.out.size
              have B3 := Lib.hid (B2.out.trans (HB3.out.mono B2.out.size))
              have R3 := Lib.hid ((HB3.out.block _ (lt_of_block G3.out)).trans G3.out)
              have Q2 := Lib.hid ((ch2.block _ (Nat.ne_of_lt (lt_of_block HG.out))).trans ((heap_oldX wr _ (lt_of_block HG.out)).trans HG.out))
              have Q3 := Lib.hid ((HB3.out.block _ (lt_of_block Q2.out)).trans Q2.out)
              clear ch2 G2 G3 HB3 B2 Q2 HG HB RM RP RB RV RO c0 hz hzn HS31
              by_cases h4 : n = 4
              · have he : (if n = 4 ∨ n = 5 then (0 : Int) else 7) = 0 := if_pos (Or.inl h4)
                simp only [he]
                have q4 : ((n : Int) == 4) = true := by simp [h4]
                clear he h4
                go_wp2_with (first
                  | ((with_reducible refine row_load_g _ _ wr.heap.size _ _ _ _ ?_ ?_ R3.out Try.underlying28 ?_ (row_size Try.sizePage RA) ?_); (exact rfl); (exact rfl); (exact rfl))
                  | (go_at_call 14; refine (RE.out _).mono ?_; rintro e4 w4 ⟨rfl, HB4⟩))
                exact ⟨⟨n + 1, by omega, by go_num, (HB4.out.block _ (lt_of_block Q3.out)).trans Q3.out, B3.out.trans (HB4.out.mono B3.out.size)⟩, by simp [intOf]; omega⟩
              · have q4 : ((n : Int) == 4) = false := by simp; omega
                by_cases h5 : n = 5
                · have he : (if n = 4 ∨ n = 5 then (0 : Int) else 7) = 0 := if_pos (Or.inr h5)
                  simp only [he]
                  have q5 : ((n : Int) == 5) = true := by simp [h5]
                  clear he h4 h5
                  go_wp2_with (first
                    | ((with_reducible refine row_load_g _ _ wr.heap.size _ _ _ _ ?_ ?_ R3.out Try.underlying28 ?_ (row_size Try.sizePage RA) ?_); (exact rfl); (exact rfl); (exact rfl))
                    | (go_at_call 14; refine (RE.out _).mono ?_; rintro e4 w4 ⟨rfl, HB4⟩))
                  exact ⟨⟨n + 1, by omega, by go_num, (HB4.out.block _ (lt_of_block Q3.out)).trans Q3.out, B3.out.trans (HB4.out.mono B3.out.size)⟩, by simp [intOf]; omega⟩
                · have he : (if n = 4 ∨ n = 5 then (0 : Int) else 7) = 7 := if_neg (fun h => h.elim h4 h5)
                  simp only [he]
                  have q5 : ((n : Int) == 5) = false := by simp; omega
                  clear he h4 h5
                  go_wp2_with (first
                    | ((with_reducible refine row_load_g _ _ wr.heap.size _ _ _ _ ?_ ?_ R3.out Try.underlying28 ?_ (row_size Try.sizePage RA) ?_); (exact rfl); (exact rfl); (exact rfl))
                    | (go_at_call 14; refine (RE.out _).mono ?_; rintro e4 w4 ⟨rfl, HB4⟩))
                  exact ⟨⟨n + 1, by omega, by go_num, (HB4.out.block _ (lt_of_block Q3.out)).trans Q3.out, B3.out.trans (HB4.out.mono B3.out.size)⟩, by simp [intOf]; omega⟩
            · obtain rfl : n = 7 := by omega
              rw [show ((7 : Nat) : Int) = 7 from rfl]
              clear hlt HG HBN HVS HAS HMX HPU HEM hz hzn HS31
              generalize wr = wF at *
              go_upto_region 26 with (first
                | ((with_reducible refine row_build0 _ _ HBT.out ?_))
                | (go_at_call 9; refine (HN9.out _).mono ?_; rintro e5 w5 ⟨rfl, HB5⟩; have B5 := Lib.hid (HB.out.trans (HB5.out.mono HB.out.size))))
              clear HN9
              go_wp2_with (first
                | ((with_reducible refine row_build0 _ _ HBT.out ?_))
                | (go_at_call 9; refine (HN1.out _).mono ?_; rintro e6 w6 ⟨rfl, HB6⟩; have B6 := Lib.hid (B5.out.trans (HB6.out.mono B5.out.size)))
                | (go_at_call 16; refine (known_any _).mono ?_; rintro e7 w7 ⟨rfl, HB7⟩; have B7 := Lib.hid (B6.out.trans (HB7.out.mono B6.out.size))))
              go_ret
              exact ⟨rfl, B7.out⟩
end Go.Proofs.Ytgfnpofoedambaa

/-
  Contracts: aes.toState, aes.toBlock.
-/
import Derived.Test.YtkajigfdfbgphaaAesG
namespace Go.Proofs.Ytkajigfdfbgphaa
open Go.RowKit

/-- Sixteen bytes as a value; their words. -/
def Bk (l : List Int) : Value := .agg (l.map (Value.int .u8)).toArray
def Aes.wk (l : List Int) (o : Nat) : Int := Aes.be4 (l.getD o 0) (l.getD (o + 1) 0) (l.getD (o + 2) 0) (l.getD (o + 3) 0)

set_option maxHeartbeats 4000000 in
set_option maxRecDepth 100000 in
theorem tostate_any (l : List Int) (hl : l.length = 16) (hb : Sha.Byt l) (w : World) :
    Calls Try.prog 30 #[Bk l] w (StSay (Aes.wk l 0) (Aes.wk l 4) (Aes.wk l 8) (Aes.wk l 12) w) := by
  unfold Bk
  have Hl := Lib.hid hl; clear hl
  have Hb := Lib.hid hb; clear hb
  obtain ⟨A, HA0⟩ : ∃ A, Hid (A = (l.map (Value.int .u8)).toArray) := ⟨_, rfl⟩
  rw [← HA0.out]
  go_enter Try.func30, Try.ntmps30
  go_upto_region 1 with fail
  have HA : Hid (((w.alloc (.cells A 35)).alloc (.cells #[.int .u32 0, .int .u32 0, .int .u32 0, .int .u32 0] 56)).heap[w.heap.size]? = some (.cells A 35 (0, 0))) := heap_alloc2_old w _ _
  have HZ : Hid (((w.alloc (.cells A 35)).alloc (.cells #[.int .u32 0, .int .u32 0, .int .u32 0, .int .u32 0] 56)).heap[w.heap.size + 1]? = some (.cells #[.int .u32 0, .int .u32 0, .int .u32 0, .int .u32 0] 56 (0, 0))) := heap_alloc2_new w _ _
  have HB : Hid (Below w.heap.size w ((w.alloc (.cells A 35)).alloc (.cells #[.int .u32 0, .int .u32 0, .int .u32 0, .int .u32 0] 56))) := ((Below.refl _ w).alloc (Nat.le_refl _) _).alloc (by simp) _
  have HS1 : Hid (w.heap.size + 1 < ((w.alloc (.cells A 35)).alloc (.cells #[.int .u32 0, .int .u32 0, .int .u32 0, .int .u32 0] 56)).heap.size) := lt_of_block HZ.out
  generalize (w.alloc (.cells A 35)).alloc (.cells #[.int .u32 0, .int .u32 0, .int .u32 0, .int .u32 0] 56) = w1 at *
  have HA2 : Hid (∀ x, Below w1.heap.size w1 x → ∀ j, j < 16 → x.cell? ⟨w.heap.size, j, none⟩ = some (.int .u8 (l.getD j 0))) := fun x hx j hj => by
    have h := (hx.block w.heap.size (by have := HS1.out; omega)).trans HA.out
    rw [HA0.out] at h
    exact u8_cell h j (by rw [Hl.out]; exact hj)
  have HZB : Hid (∀ x, Below w1.heap.size w1 x → x.heap[w.heap.size + 1]? = some (.cells #[.int .u32 0, .int .u32 0, .int .u32 0, .int .u32 0] 56 (0, 0))) := fun x hx => (hx.block _ HS1.out).trans HZ.out
  have HZC : Hid (∀ x, Below w1.heap.size w1 x → x.cell? ⟨w.heap.size + 1, 0, none⟩ = some (.int .u32 0) ∧ x.cell? ⟨w.heap.size + 1, 1, none⟩ = some (.int .u32 0) ∧ x.cell? ⟨w.heap.size + 1, 2, none⟩ = some (.int .u32 0) ∧ x.cell? ⟨w.heap.size + 1, 3, none⟩ = some (.int .u32 0)) := fun x hx =>
    ⟨by rw [cell_of_row x (w.heap.size + 1) 0 _ _ _ (HZB.out x hx)]; rfl, by rw [cell_of_row x (w.heap.size + 1) 1 _ _ _ (HZB.out x hx)]; rfl, by rw [cell_of_row x (w.heap.size + 1) 2 _ _ _ (HZB.out x hx)]; rfl, by rw [cell_of_row x (w.heap.size + 1) 3 _ _ _ (HZB.out x hx)]; rfl⟩
  have HZF : Hid (∀ x, Below w1.heap.size w1 x → ∀ j, x.frozen? ⟨w.heap.size + 1, j, none⟩ = false) := fun x hx j => frozen_of_row x (w.heap.size + 1) j _ _ (HZB.out x hx)
  have HR := Lib.hid (Below.refl w1.heap.size w1)
  have HBY : Hid (∀ j, 0 ≤ l.getD j 0 ∧ l.getD j 0 ≤ 255) := fun j => Sha.byt_getD Hb.out j
  have HW : Hid (∀ (o n c : Nat) (x : World), Below w1.heap.size w1 x → 4 ≤ n → o < 13 → Calls Try.prog 44 #[.slice (some ⟨w.heap.size, o, none⟩) n c] x fun e w' => e = .returned (.int .u32 (Aes.wk l o)) ∧ ∃ m, w' = x.drewN m) := fun o n c x hx hn hk => by
    unfold Aes.wk
    exact word_any _ _ _ _ w.heap.size o n c x hn (HA2.out x hx _ (by omega)) (HA2.out x hx _ (by omega)) (HA2.out x hx _ (by omega)) (HA2.out x hx _ (by omega)) (HBY.out _) (HBY.out _) (HBY.out _) (HBY.out _)
  clear HA HZ HA2 HBY
  go_region_held3 (fun _ : World => True)
    (trivial)
    ((first
      | (go_at_call 44; refine (HW.out _ _ _ _ (by first | exact HR.out.drew | assumption) (by omega) (by omega)).mono ?_; rintro e w2 ⟨rfl, q, hw2⟩; have hb2 : Below w1.heap.size w1 w2 := (by rw [hw2]; exact below_dn (by first | exact HR.out.drew | assumption) q); clear hw2; obtain ⟨z0, z1, z2, z3⟩ := HZC.out w2 hb2; have y0 := HZF.out w2 hb2 0; have y1 := HZF.out w2 hb2 1; have y2 := HZF.out w2 hb2 2; have y3 := HZF.out w2 hb2 3)))
  have F := set4 (Aes.wk l 0) (Aes.wk l 4) (Aes.wk l 8) (Aes.wk l 12) (HZB.out w2 hb2)
  have HB2 : Below w.heap.size w w2 := HB.out.trans (hb2.mono HB.out.size)
  have HB3 := Lib.hid (below4 (Aes.wk l 0) (Aes.wk l 4) (Aes.wk l 8) (Aes.wk l 12) HB2 (show w.heap.size ≤ w.heap.size + 1 by omega))
  clear HB2 z0 z1 z2 z3 y0 y1 y2 y3
  generalize (((w2.setCell ⟨w.heap.size + 1, 0, none⟩ (.int .u32 (Aes.wk l 0))).setCell ⟨w.heap.size + 1, 1, none⟩ (.int .u32 (Aes.wk l 4))).setCell ⟨w.heap.size + 1, 2, none⟩ (.int .u32 (Aes.wk l 8))).setCell ⟨w.heap.size + 1, 3, none⟩ (.int .u32 (Aes.wk l 12)) = w3 at *
  go_wp2
  exact bodyPost_ret (results_cell_row rfl _ _ (w.heap.size + 1) 56 _ (0, 0) _ rfl F Try.underlying56 rfl Try.size_st) rfl ⟨rfl, HB3.out⟩

/-- A word's bytes; a state's. -/
def Aes.ob (x : Int) : List Int := [x / 16777216 % 256, x / 65536 % 256, x / 256 % 256, x % 256]
def Aes.bk (ws : List Int) (k : Nat) : List Int := (List.range 16).map fun j => if j < 4 * k then (Aes.ob (ws.getD (j / 4) 0)).getD (j % 4) 0 else 0
theorem Aes.bk_len (ws : List Int) (k : Nat) : (Aes.bk ws k).length = 16 := by simp [Aes.bk]
theorem Aes.bk_zero (ws : List Int) : Aes.bk ws 0 = List.replicate 16 0 := rfl
theorem Aes.bk_step (ws : List Int) (k : Nat) (hk : k < 4) :
    ((((Aes.bk ws k).set (4 * k) (ws.getD k 0 / 16777216 % 256)).set (4 * k + 1) (ws.getD k 0 / 65536 % 256)).set (4 * k + 2) (ws.getD k 0 / 256 % 256)).set (4 * k + 3) (ws.getD k 0 % 256) = Aes.bk ws (k + 1) := by
  rcases (by omega : k = 0 ∨ k = 1 ∨ k = 2 ∨ k = 3) with rfl | rfl | rfl | rfl <;> rfl
theorem Aes.bk_byt (ws : List Int) (k : Nat) : Sha.Byt (Aes.bk ws k) := by
  intro x hx
  unfold Aes.bk at hx
  rw [List.mem_map] at hx
  obtain ⟨j, hj, rfl⟩ := hx
  split
  · have hm : j % 4 < 4 := Nat.mod_lt _ (by omega)
    generalize j % 4 = m at *
    rcases (by omega : m = 0 ∨ m = 1 ∨ m = 2 ∨ m = 3) with rfl | rfl | rfl | rfl <;> (simp [Aes.ob]; omega)
  · omega
/-- A state's bytes. -/
def Aes.blk4 (a b c d : Int) : List Int := Aes.bk [a, b, c, d] 4
attribute [irreducible] Aes.bk
/-- An array of one-cell elements, at a place that is known to be in it. -/
theorem agg_index {P : Program} (w : World) (t e : TypeId) (n k : Nat) (cs : Array Value) (v : Value) (i : TypeInfo) (hu : P.underlying t = some (.array n e)) (hi : P.info? e = some i) (hs : i.size = 1)
    (he : ∀ w, (isAgg e).run P w = .ok false w) (hk : k < n) (hv : cs[k]? = some v) :
    (Instr.index t (.agg cs) (.int .i64 (k : Int))).run P w = .ok v w := by
  simp [Instr.index, asIntOf, run_underlying hu, sizeOf, typeInfo, hi, hs, part, he, hv]
  omega
theorem Try.infoU32 : (Try.prog.info? 54).map (·.size) = some 1 := by kernel_rfl
theorem Try.size16 : (Try.prog.info? 35).map (·.size) = some 16 := by kernel_rfl
def BkSay (l : List Int) (w : World) (e : Ending) (w' : World) : Prop := e = .returned (Bk l) ∧ Below w.heap.size w w'

set_option maxHeartbeats 4000000 in
set_option maxRecDepth 100000 in
theorem toblock_any (a b c d : Int) (w : World) :
    Calls Try.prog 33 #[St4 a b c d] w (BkSay (Aes.blk4 a b c d) w) := by
  unfold St4
  obtain ⟨i39, hi39, hz39⟩ : ∃ i, Try.prog.info? 54 = some i ∧ i.size = 1 := by
    have := Try.infoU32
    cases hq : Try.prog.info? 54 with
    | none => rw [hq] at this; cases this
    | some i => rw [hq] at this; exact ⟨i, rfl, by simpa using this⟩
  have HI := Lib.hid (And.intro hi39 hz39); clear hi39 hz39
  have HAG : Hid (∀ w, (isAgg 54).run Try.prog w = .ok false w) := fun w => by
    unfold isAgg
    rw [Sem.run_bind, run_underlying Try.underlying54 w]
    rfl
  obtain ⟨WS, HWS⟩ : ∃ WS : List Int, Hid (WS = [a, b, c, d]) := ⟨_, rfl⟩
  have HGET : Hid (∀ k, k < 4 → (#[Value.int .u32 a, .int .u32 b, .int .u32 c, .int .u32 d] : Array Value)[k]? = some (.int .u32 (WS.getD k 0))) := fun k hk => by
    rw [HWS.out]
    rcases (by omega : k = 0 ∨ k = 1 ∨ k = 2 ∨ k = 3) with rfl | rfl | rfl | rfl <;> rfl
  go_enter Try.func33, Try.ntmps33
  go_upto_region 3 with fail
  have HB0 : Hid (Below w.heap.size w (((w.alloc (.cells #[.int .u32 a, .int .u32 b, .int .u32 c, .int .u32 d] 56)).alloc (.cells (List.replicate 16 (Value.int .u8 0)).toArray 35)).alloc (.cells (List.replicate 16 (Value.int .u8 0)).toArray 35))) := (((Below.refl _ w).alloc (Nat.le_refl _) _).alloc (by simp) _).alloc (by simp; omega) _
  have HZ0 := Lib.hid (heap3_1 w (.cells #[.int .u32 a, .int .u32 b, .int .u32 c, .int .u32 d] 56) (.cells (List.replicate 16 (Value.int .u8 0)).toArray 35) (.cells (List.replicate 16 (Value.int .u8 0)).toArray 35))
  have HT0 := Lib.hid (heap3_2 w (.cells #[.int .u32 a, .int .u32 b, .int .u32 c, .int .u32 d] 56) (.cells (List.replicate 16 (Value.int .u8 0)).toArray 35) (.cells (List.replicate 16 (Value.int .u8 0)).toArray 35))
  go_loopw [15] (fun v wr => ∃ k : Nat, k ≤ 4 ∧ v = .int .i64 k ∧ Hid (wr.heap[w.heap.size + 2]? = some (.cells ((Aes.bk WS k).map (Value.int .u8)).toArray 35 (0, 0))) ∧ Hid (wr.heap[w.heap.size + 1]? = some (.cells (List.replicate 16 (Value.int .u8 0)).toArray 35 (0, 0))) ∧ Hid (Below w.heap.size w wr)) (fun v _ => 4 - (intOf v).toNat)
  case atStart => exact ⟨0, by omega, rfl, (by show _ = _; rw [Aes.bk_zero]; exact HT0.out), HZ0.out, HB0.out⟩
  case round =>
    clear HB0 HZ0 HT0
    obtain ⟨k, hk, rfl, HG, HRES, HB⟩ := hrel
    by_cases hlt : k < 4
    · have hix := agg_index (P := Try.prog) wr 80 54 4 k _ _ i39 Try.underlying80 HI.out.1 HI.out.2 HAG.out hlt (HGET.out k hlt)
      have HST := Lib.hid (Aes.bk_step WS k hlt)
      have c0 := u8_cell HG.out (4 * k) (by rw [Aes.bk_len]; omega)
      have c1 := u8_cell HG.out (4 * k + 1) (by rw [Aes.bk_len]; omega)
      have c2 := u8_cell HG.out (4 * k + 2) (by rw [Aes.bk_len]; omega)
      have c3 := u8_cell HG.out (4 * k + 3) (by rw [Aes.bk_len]; omega)
      have f0 := frozen_of_row wr (w.heap.size + 2) (4 * k) _ _ HG.out
      have f1 := frozen_of_row wr (w.heap.size + 2) (4 * k + 1) _ _ HG.out
      have f2 := frozen_of_row wr (w.heap.size + 2) (4 * k + 2) _ _ HG.out
      have f3 := frozen_of_row wr (w.heap.size + 2) (4 * k + 3) _ _ HG.out
      generalize WS.getD k 0 = x at *
      go_wp2
      refine ⟨⟨k + 1, by omega, by go_num, ?_, ?_, ?_⟩, by simp [intOf]; omega⟩
      · have h := u8_set (x := x % 256) (i := 4 * k + 3) (u8_set (x := x / 256 % 256) (i := 4 * k + 2) (u8_set (x := x / 65536 % 256) (i := 4 * k + 1) (u8_set (x := x / 16777216 % 256) (i := 4 * k) HG.out)))
        rw [HST.out] at h
        exact h
      · show _ = _
        rw [heap_setCell_other _ _ _ _ (by simp), heap_setCell_other _ _ _ _ (by simp), heap_setCell_other _ _ _ _ (by simp), heap_setCell_other _ _ _ _ (by simp)]
        exact HRES.out
      · exact (((HB.out.setCell (by simp; omega) _).setCell (by simp; omega) _).setCell (by simp; omega) _).setCell (by simp; omega) _
    · have E : k = 4 := by omega
      have hge : 4 ≤ k := by omega
      obtain ⟨A, HA1, HA2, HA3⟩ : ∃ A : Array Value, Hid (A = ((Aes.blk4 a b c d).map (Value.int .u8)).toArray) ∧ Hid (A.size = 16) ∧ Hid (A.all (·.oneCell') = true) :=
        ⟨_, rfl, by show _ = _; simp [Aes.blk4, Aes.bk_len], u8_all _⟩
      have HG8 : Hid (wr.heap[w.heap.size + 2]? = some (.cells A 35 (0, 0))) := by
        have h := HG.out
        show _ = _
        rw [h, HA1.out, E, HWS.out, Aes.blk4]
      clear E hlt HG
      go_wp2_with (first
        | ((with_reducible refine row_load _ _ _ _ _ _ _ ?_ HG8.out Try.underlying35 ?_ (row_size Try.size16 HA2) ?_); (exact rfl); (exact rfl))
        | ((with_reducible refine row_store _ _ _ _ _ _ _ ?_ ?_ HRES.out (row_size Try.size16 HA2) ?_ HA3.out ?_); (exact rfl); (exact rfl); (rw [HA2.out]; rfl); intro w6 G6 ch6))
      refine bodyPost_ret (results_cell_row rfl _ _ (w.heap.size + 1) 35 A (0, 0) _ rfl G6.out Try.underlying35 rfl (row_size Try.size16 HA2)) rfl ⟨?_, ch6.below HB.out (by omega)⟩
      rw [HA1.out, Bk]
end Go.Proofs.Ytkajigfdfbgphaa

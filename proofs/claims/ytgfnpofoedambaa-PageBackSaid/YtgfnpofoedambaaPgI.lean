/-
  Contracts: Empty, Leaf, and the reference's.
-/
import Derived.Test.YtgfnpofoedambaaPgH
namespace Go.Proofs.Ytgfnpofoedambaa
open Go.RowKit

set_option maxRecDepth 100000 in
theorem empty_any (R : List Pg.Rf) (h : Pg.OkA R) (w : World) : Calls Try.prog 14 #[PV R] w (BoSay (decide (R = Pg.zp)) w) := by
  obtain ⟨A, RA, eA, hk⟩ := pgk h
  obtain ⟨Z, eZ⟩ : ∃ Z, (cs Pg.zp).toArray = Z := ⟨_, rfl⟩
  have HBT := Lib.hid Try.builtRefs
  have heq : ∀ y, (Op.equalIn 10000 26 (.agg A) (.agg Z)).run Try.prog y = .ok (decide (R = Pg.zp)) y := fun y => by
    have := arr_eq h Pg.ok_zp y
    rw [eA] at this
    unfold PV at this
    rw [eZ] at this
    exact this
  rw [eZ] at HBT
  rw [eA]
  have HAS := Lib.hid hk.size
  have hsz := row_size Try.sizePage HAS
  have h1 := hk.one
  have R0 : Hid ((w.alloc (.cells A 28)).heap[w.heap.size]? = some (.cells A 28 (0, 0))) := heap_alloc_new w _
  have B0 : Hid (Below w.heap.size w (w.alloc (.cells A 28))) := (Below.refl _ w).alloc (Nat.le_refl _) _
  generalize decide (R = Pg.zp) = q at *
  clear hk h eA eZ
  go_enter Try.func14, Try.ntmps14
  go_wp2_with (first
    | ((with_reducible refine row_load _ _ _ _ _ _ _ ?_ R0.out Try.underlying26 ?_ (row_size Try.sizeRefs HAS) ?_); (exact rfl); (exact rfl))
    | ((with_reducible refine row_build0 _ _ HBT.out ?_)))
  go_ret
  exact ⟨rfl, B0.out⟩
set_option maxHeartbeats 1000000 in
set_option maxRecDepth 100000 in
theorem rempty_any (R : List Pg.Rf) (h : Pg.OkA R) (w : World) : Calls Try.prog 15 #[PV R] w (BoSay (decide (R = Pg.zp)) w) := by
  obtain ⟨A, RA, eA, hk⟩ := pgk h
  obtain ⟨Z, eZ⟩ : ∃ Z, (cl Pg.zr).toArray = Z := ⟨_, rfl⟩
  have HBT := Lib.hid Try.builtRef
  have HEQ : Hid (∀ k, k < 8 → ∀ y, (Op.equalIn 10000 25 (.agg (RA k)) (.agg Z)).run Try.prog y = .ok (decide (R.getD k Pg.zr = Pg.zr)) y) := fun k hk8 y => by
    have := ref_eq (Pg.ok_at h k) Pg.ok_zr y
    rw [hk.val k hk8, show R33 Pg.zr = .agg (cl Pg.zr).toArray from by unfold R33 cl; rfl, eZ] at this
    exact this
  rw [eZ] at HBT
  rw [eA]
  have HAS := Lib.hid hk.size
  have hsz := row_size Try.sizePage HAS
  have h1 := hk.one
  have HK := Lib.hid hk
  have R0 : Hid ((w.alloc (.cells A 28)).heap[w.heap.size]? = some (.cells A 28 (0, 0))) := heap_alloc_new w _
  have B0 : Hid (Below w.heap.size w (w.alloc (.cells A 28))) := (Below.refl _ w).alloc (Nat.le_refl _) _
  have HNO : Hid (∀ k, k < 8 → R.getD k Pg.zr ≠ Pg.zr → decide (R = Pg.zp) = false) := fun k hk8 hne => decide_eq_false fun e => hne (by
    rw [e]
    unfold Pg.zp
    rw [List.getD_eq_getElem?_getD, List.getElem?_replicate, if_pos hk8]
    rfl)
  have HYES : Hid ((∀ k, k < 8 → R.getD k Pg.zr = Pg.zr) → decide (R = Pg.zp) = true) := fun hall => decide_eq_true (by
    unfold Pg.zp
    apply List.ext_getElem (by rw [h.1, List.length_replicate])
    intro i h1 h2
    have := hall i (by rw [h.1] at h1; exact h1)
    rw [List.getD_eq_getElem?_getD, List.getElem?_eq_getElem h1] at this
    rw [List.getElem_replicate]
    exact this)
  obtain ⟨q, hq⟩ : ∃ q : Bool, Hid (decide (R = Pg.zp) = q) := ⟨_, rfl⟩
  rw [hq.out] at HNO HYES ⊢
  clear hk h eA eZ hq
  go_enter Try.func15, Try.ntmps15
  go_wp2
  go_loopw [3] (fun v3 wr => ∃ k : Nat, k ≤ 8 ∧ v3 = .int .i64 k ∧ Hid (∀ j, j < k → R.getD j Pg.zr = Pg.zr) ∧ Hid (Below w.heap.size w wr) ∧ Hid (wr.heap[w.heap.size]? = some (.cells A 28 (0, 0)))) (fun v3 _ => 8 - (intOf v3).toNat)
  case atStart => exact ⟨0, by omega, rfl, fun j hj => by omega, B0.out, R0.out⟩
  case round =>
    clear B0 R0
    obtain ⟨k, hk, rfl, HM, HB, HG⟩ := hrel
    by_cases hlt : k < 8
    · have hx : (k : Int) < 8 := by omega
      have hx0 : (0 : Int) ≤ (k : Int) := by omega
      have RS : Hid ((RA k).size = 33) := HK.out.rsize k hlt
      have RR : Hid (wr.rangeAt w.heap.size (k * 33) (RA k).toList) := HK.out.rng k hlt wr _ _ HG.out
      have heq := HEQ.out k hlt
      by_cases hz : R.getD k Pg.zr = Pg.zr
      · have HM2 : Hid (∀ j, j < k + 1 → R.getD j Pg.zr = Pg.zr) := fun j hj => by
          by_cases e : j = k
          · rw [e]; exact hz
          · exact HM.out j (by omega)
        rw [decide_eq_true hz] at heq
        generalize RA k = rk at *
        clear HK HEQ hlt HAS hsz h1 HNO HYES hz HM
        go_wp2_with (first
          | ((with_reducible refine rng_load _ _ w.heap.size (k * 33) rk _ ?_ RR.out Try.underlying25 ?_ (row_size Try.sizeRef RS) ?_); (go_simp); (exact rfl))
          | ((with_reducible refine row_build0 _ _ HBT.out ?_)))
        exact ⟨⟨k + 1, by omega, by go_num, HM2.out, HB.out, HG.out⟩, by simp [intOf]; omega⟩
      · have HQ := Lib.hid (HNO.out k hlt hz)
        rw [decide_eq_false hz] at heq
        generalize RA k = rk at *
        clear HK HEQ hlt HAS hsz h1 HNO HYES hz HM
        go_wp2_with (first
          | ((with_reducible refine rng_load _ _ w.heap.size (k * 33) rk _ ?_ RR.out Try.underlying25 ?_ (row_size Try.sizeRef RS) ?_); (go_simp); (exact rfl))
          | ((with_reducible refine row_build0 _ _ HBT.out ?_)))
        go_ret
        exact ⟨by rw [HQ.out]; rfl, HB.out⟩
    · obtain rfl : k = 8 := by omega
      have HQ := Lib.hid (HYES.out HM.out)
      clear hlt HK HEQ HNO HYES
      go_wp2
      go_ret
      exact ⟨by rw [HQ.out]; rfl, HB.out⟩
/-- A block's leaf, and its place there. -/
def Pg.lf (b : Int) : Int := if 0 ≤ b ∧ b ≤ 63 then b / 8 + 1 else 0
def Pg.lp (b : Int) : Int := if 0 ≤ b ∧ b ≤ 63 then b % 8 else 0
def LeafSay (b : Int) (w : World) (e : Ending) (w' : World) : Prop := e = .returned (.tuple #[.int .i64 (Pg.lf b), .int .i64 (Pg.lp b)]) ∧ Hid (Below w.heap.size w w')
set_option maxRecDepth 100000 in
theorem leaf_any (b : Int) (w : World) : Calls Try.prog 11 #[.int .i64 b] w (LeafSay b w) := by
  have HB : Hid (Below w.heap.size w w) := Below.refl _ _
  unfold LeafSay Pg.lf Pg.lp
  by_cases hlo : b < 0
  · have hn : ¬ (0 ≤ b ∧ b ≤ 63) := by omega
    rw [if_neg hn, if_neg hn]
    clear hn
    go_enter Try.func11, Try.ntmps11
    go_wp2
    go_ret2
    exact ⟨rfl, HB.out⟩
  by_cases hhi : b ≥ 64
  · have hn : ¬ (0 ≤ b ∧ b ≤ 63) := by omega
    rw [if_neg hn, if_neg hn]
    clear hn
    go_enter Try.func11, Try.ntmps11
    go_wp2
    go_ret2
    exact ⟨rfl, HB.out⟩
  have hy : 0 ≤ b ∧ b ≤ 63 := by omega
  rw [if_pos hy, if_pos hy]
  have hd : b.tdiv 8 = b / 8 := Int.tdiv_eq_ediv_of_nonneg hy.1
  have hm : b.tmod 8 = b % 8 := Int.tmod_eq_emod_of_nonneg hy.1
  have hw1 : IntKind.i64.wrap (b / 8) = b / 8 := IntWalk.i64_in _ ⟨by omega, by omega⟩
  have hw2 : IntKind.i64.wrap (b % 8) = b % 8 := IntWalk.i64_in _ ⟨by omega, by omega⟩
  have hw3 : IntKind.i64.wrap (b / 8 + 1) = b / 8 + 1 := IntWalk.i64_in _ ⟨by omega, by omega⟩
  have hw4 : wrap64 (b / 8) = b / 8 := IntWalk.wrap64_in _ ⟨by omega, by omega⟩
  have hw5 : wrap64 (b % 8) = b % 8 := IntWalk.wrap64_in _ ⟨by omega, by omega⟩
  have hw6 : wrap64 (b / 8 + 1) = b / 8 + 1 := IntWalk.wrap64_in _ ⟨by omega, by omega⟩
  clear hy
  go_enter Try.func11, Try.ntmps11
  go_wp2
  go_ret2
  exact ⟨rfl, HB.out⟩
set_option maxRecDepth 100000 in
theorem rleaf_any (b : Int) (w : World) : Calls Try.prog 12 #[.int .i64 b] w (LeafSay b w) := by
  have HB : Hid (Below w.heap.size w w) := Below.refl _ _
  unfold LeafSay Pg.lf Pg.lp
  by_cases hlo : b < 0
  · have hn : ¬ (0 ≤ b ∧ b ≤ 63) := by omega
    rw [if_neg hn, if_neg hn]
    clear hn
    go_enter Try.func12, Try.ntmps12
    go_wp2
    go_ret2
    exact ⟨rfl, HB.out⟩
  by_cases hhi : b > 63
  · have hn : ¬ (0 ≤ b ∧ b ≤ 63) := by omega
    rw [if_neg hn, if_neg hn]
    clear hn
    go_enter Try.func12, Try.ntmps12
    go_wp2
    go_ret2
    exact ⟨rfl, HB.out⟩
  have hy : 0 ≤ b ∧ b ≤ 63 := by omega
  rw [if_pos hy, if_pos hy]
  have hd : b.tdiv 8 = b / 8 := Int.tdiv_eq_ediv_of_nonneg hy.1
  have hm : b.tmod 8 = b % 8 := Int.tmod_eq_emod_of_nonneg hy.1
  have hw1 : IntKind.i64.wrap (b / 8) = b / 8 := IntWalk.i64_in _ ⟨by omega, by omega⟩
  have hw2 : IntKind.i64.wrap (b % 8) = b % 8 := IntWalk.i64_in _ ⟨by omega, by omega⟩
  have hw3 : IntKind.i64.wrap (1 + b / 8) = 1 + b / 8 := IntWalk.i64_in _ ⟨by omega, by omega⟩
  have hw4 : wrap64 (b / 8) = b / 8 := IntWalk.wrap64_in _ ⟨by omega, by omega⟩
  have hw5 : wrap64 (b % 8) = b % 8 := IntWalk.wrap64_in _ ⟨by omega, by omega⟩
  have hw6 : wrap64 (1 + b / 8) = 1 + b / 8 := IntWalk.wrap64_in _ ⟨by omega, by omega⟩
  rw [Int.add_comm (b / 8) 1]
  clear hy
  go_enter Try.func12, Try.ntmps12
  go_wp2
  go_ret2
  exact ⟨rfl, HB.out⟩
end Go.Proofs.Ytgfnpofoedambaa

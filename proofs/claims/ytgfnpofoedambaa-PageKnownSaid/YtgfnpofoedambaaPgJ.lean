/-
  Contract: known.
-/
import Derived.Test.YtgfnpofoedambaaPgI
namespace Go.Proofs.Ytgfnpofoedambaa
open Go.RowKit

namespace Pg
def kr : Rf := (7, 1 :: 2 :: List.replicate 30 0)
def kp : List Rf := zp.set 2 kr
theorem ok_kr : Ok kr := ⟨by simp [kr], fun x hx => by unfold kr at hx; simp only [List.mem_cons, List.mem_replicate] at hx; omega, by unfold Pk.In64 kr; dsimp only; omega⟩
theorem ok_set {R : List Rf} (h : OkA R) (k : Nat) {r : Rf} (hr : Ok r) : OkA (R.set k r) := ⟨by rw [List.length_set]; exact h.1, fun x hx => by
  rcases List.mem_or_eq_of_mem_set hx with h1 | rfl
  · exact h.2 x h1
  · exact hr⟩
theorem ok_kp : OkA kp := ok_set ok_zp 2 ok_kr
theorem mb_zr : mb zr = true := by unfold mb; simp
theorem mb_kr : mb kr = true := by unfold mb kr; simp
theorem mb_of {r : Rf} (h1 : 3 ≤ r.1) (h2 : r.1 ≤ 4095) : mb r = true := by unfold mb; simp [h1, h2]
theorem nd_zp {i : Int} (h : 0 ≤ i ∧ i ≤ 8) : nd i zp = true := by
  unfold nd
  rw [decide_eq_true h, Bool.true_and, List.all_eq_true]
  intro r hr
  unfold zp at hr
  rw [List.mem_replicate] at hr
  rw [hr.2]
  exact mb_zr
theorem nd_set {i : Int} (h : 0 ≤ i ∧ i ≤ 8) (k : Nat) {r : Rf} (hr : mb r = true) : nd i (zp.set k r) = true := by
  have h2 := nd_zp h
  unfold nd at h2 ⊢
  rw [decide_eq_true h, Bool.true_and, List.all_eq_true] at h2 ⊢
  intro x hx
  rcases List.mem_or_eq_of_mem_set hx with h1 | rfl
  · exact h2 x h1
  · exact hr
theorem nd_setno {i : Int} (k : Nat) (hk : k < 8) {r : Rf} (hr : mb r = false) : nd i (zp.set k r) = false := by
  unfold nd
  have h2 : (zp.set k r).all mb = false := by
    rw [← Bool.not_eq_true, List.all_eq_true]
    intro hall
    have := hall r (List.mem_set (by rw [ok_zp.1]; exact hk) r)
    rw [hr] at this
    cases this
  rw [h2, Bool.and_false]
theorem set_ne {k : Nat} (hk : k < 8) {r : Rf} (hr : r ≠ zr) : zp.set k r ≠ zp := fun e => by
  have h1 : (zp.set k r)[k]? = some r := List.getElem?_set_self (by rw [ok_zp.1]; exact hk)
  rw [e] at h1
  unfold zp at h1
  rw [List.getElem?_replicate, if_pos hk] at h1
  exact hr (Option.some.inj h1).symm
theorem kr_ne : kr ≠ zr := fun e => by
  have := congrArg Prod.fst e
  unfold kr zr at this
  simp at this
theorem kp_ne : kp ≠ zp := set_ne (by omega) kr_ne
end Pg
theorem Try.builtKS : Try.prog.built 23 [(0, .int .u8 1), (1, .int .u8 2)] = some (Pg.kr.2.map (Value.int .u8)).toArray := by kernel_rfl
theorem Try.builtKR : Try.prog.built 25 [(0, .int .i64 7), (1, .agg (Pg.kr.2.map (Value.int .u8)).toArray)] = some (cl Pg.kr).toArray := by kernel_rfl
/-- A call of Get of bytes that are a node's. -/
theorem get_back (i : Int) (hi : Pk.In64 i) (R : List Pg.Rf) (h : Pg.OkA R) (hn : Pg.nd i R = true) (p : Option Addr) (c : Nat) (w : World) (hp : Bs w p c (Pg.pt i R)) :
    Calls Try.prog 18 #[.slice p 328 c] w fun e w' => e = .returned (.tuple #[.int .i64 i, PV R, .int .i64 0]) ∧ Hid (Below w.heap.size w w') := by
  have h1 := get_any (Pg.pt i R) p 328 c (Pg.pt_len i h) (by omega) w hp
  unfold GotSay at h1
  obtain ⟨h2, h3, h4⟩ := Pg.back hi h hn
  rw [h2, h3, h4] at h1
  exact h1
set_option maxHeartbeats 1000000 in
set_option maxRecDepth 100000 in
theorem known_any (w : World) : Calls Try.prog 16 #[] w (BoSay true w) := by
  have hn : Pg.nd 3 Pg.kp = true := Pg.nd_set ⟨by omega, by omega⟩ 2 Pg.mb_kr
  have h64 : Pk.In64 3 := by unfold Pk.In64; omega
  obtain ⟨A, eA⟩ : ∃ A, (cs Pg.kp).toArray = A := ⟨_, rfl⟩
  have eP : PV Pg.kp = .agg A := by unfold PV; rw [eA]
  obtain ⟨Z, eZ⟩ : ∃ Z, (cs Pg.zp).toArray = Z := ⟨_, rfl⟩
  have eQ : PV Pg.zp = .agg Z := by unfold PV; rw [eZ]
  have HC1 : Hid (∀ y, Calls Try.prog 9 #[.int .i64 3, .agg A] y (PutYes (Pg.pt 3 Pg.kp) y)) := fun y => by
    rw [← eP]; exact put_yes 3 Pg.kp Pg.ok_kp hn y
  have HC2 : Hid (∀ y p c, Bs y p c (Pg.pt 3 Pg.kp) → Calls Try.prog 18 #[.slice p 328 c] y fun e w' => e = .returned (.tuple #[.int .i64 3, .agg A, .int .i64 0]) ∧ Hid (Below y.heap.size y w')) := fun y p c hy => by
    rw [← eP]; exact get_back 3 h64 Pg.kp Pg.ok_kp hn p c y hy
  have HC3 : Hid (∀ y, Calls Try.prog 14 #[.agg A] y (BoSay false y)) := fun y => by
    have := empty_any Pg.kp Pg.ok_kp y
    rw [eP, decide_eq_false Pg.kp_ne] at this
    exact this
  have HC4 : Hid (∀ y, Calls Try.prog 14 #[.agg Z] y (BoSay true y)) := fun y => by
    have := empty_any Pg.zp Pg.ok_zp y
    rw [eQ, decide_eq_true rfl] at this
    exact this
  have heq : ∀ y, (Op.equalIn 10000 28 (.agg A) (.agg A)).run Try.prog y = .ok true y := fun y => by
    have := page_eq Pg.ok_kp Pg.ok_kp y
    rw [eP, decide_eq_true rfl] at this
    exact this
  have HAS : Hid (A.size = 264) := by show _ = _; rw [← eA, List.size_toArray, cs_len Pg.ok_kp]
  have HA1 : Hid (A.all (·.oneCell') = true) := by show _ = _; rw [← eA]; exact all_oneCell_toArray (cs_one _)
  have HZS : Hid (Z.size = 264) := by show _ = _; rw [← eZ, List.size_toArray, cs_len Pg.ok_zp]
  have hz := (zero_of_info Try.zeroPage).1
  have HBT := Lib.hid Try.builtPage
  have HBS := Lib.hid Try.builtKS
  have HBR := Lib.hid Try.builtKR
  have HST : Hid (∀ (y : World) (q : Nat), y.heap[q]? = some (.cells (Mix Z (cl Pg.kr).toArray 2) 28 (0, 0)) → y.heap[q]? = some (.cells A 28 (0, 0))) := fun y q hy => by
    rw [← eZ] at hy
    have := pat_set Pg.ok_zp (k := 2) (by omega) Pg.ok_kr hy
    unfold PAt at this
    rw [← eA]
    exact this
  rw [eZ] at hz HBT
  have hzn : ¬ Z = #[] := fun h => by have := HZS.out; rw [h] at this; simp at this
  have HVS : Hid ((cl Pg.kr).toArray.size = 33) := by show _ = _; rw [List.size_toArray, cl_len Pg.ok_kr]
  have HV1 : Hid ((cl Pg.kr).toArray.all (·.oneCell') = true) := all_oneCell_toArray (cl_one _)
  generalize (cl Pg.kr).toArray = V at *
  generalize (Pg.kr.2.map (Value.int .u8)).toArray = S at *
  have R0 : Hid ((w.alloc (.cells Z 28)).heap[w.heap.size]? = some (.cells Z 28 (0, 0))) := heap_alloc_new w _
  have B0 : Hid (Below w.heap.size w (w.alloc (.cells Z 28))) := (Below.refl _ w).alloc (Nat.le_refl _) _
  have hsz := row_size Try.sizePage HAS
  have hsz' := row_size Try.sizePage HZS
  clear eA eZ eP eQ hn h64
  go_enter Try.func16, Try.ntmps16
  go_upto_region 4 with (first
    | ((with_reducible refine row_build2 _ _ _ (.int .u8 1) (.int .u8 2) S ?_ ?_ HBS.out ?_); (exact rfl); (exact rfl))
    | ((with_reducible refine row_build2 _ _ _ (.int .i64 7) (.agg S) V ?_ ?_ HBR.out ?_); (exact rfl); (exact rfl))
    | ((with_reducible refine mid_store _ _ _ w.heap.size 66 _ Z V ?_ ?_ R0.out (row_size Try.sizeRef HVS) ?_ HV1.out ?_); (go_simp); (exact rfl); (rw [HVS.out, HZS.out]; omega); intro w2 G2 ch2; have G3 := Lib.hid (HST.out _ _ G2.out); have B2 := Lib.hid (ch2.below B0.out (Nat.le_refl _)))
    | ((with_reducible refine row_load _ _ _ _ _ _ _ ?_ G3.out Try.underlying28 ?_ (row_size Try.sizePage HAS) ?_); (exact rfl); (exact rfl))
    | (go_at_call 9; refine (HC1.out _).mono ?_; rintro e3 w3 ⟨p3, c3, rfl, HO3, HS3, HB3⟩; have R3 := Lib.hid ((HB3.out.block _ (lt_of_block G3.out)).trans G3.out); have B3 := Lib.hid (B2.out.trans (HB3.out.mono B2.out.size))))
  clear HC1 HBS HBR HST
  go_upto_region 5 with (first
    | (go_at_call 18; refine (HC2.out _ _ _ HS3.out).mono ?_; rintro e4 w4 ⟨rfl, HB4⟩; have R4 := Lib.hid ((HB4.out.block _ (lt_of_block R3.out)).trans R3.out); have B4 := Lib.hid (B3.out.trans (HB4.out.mono B3.out.size)))
    | ((with_reducible refine row_store _ _ _ _ _ _ _ ?_ ?_ (heap_alloc_new _ _) (row_size Try.sizePage HAS) ?_ HA1.out ?_); (exact rfl); (exact rfl); (rw [HAS.out, HZS.out]); intro w5 G5 ch5))
  have B5 : Hid (Below w.heap.size w w5) := ch5.below (B4.out.alloc B4.out.size _) B4.out.size
  have R5 : Hid (w5.heap[w.heap.size]? = some (.cells A 28 (0, 0))) := (ch5.block _ (Nat.ne_of_lt (lt_of_block R4.out))).trans ((heap_oldX w4 _ (lt_of_block R4.out)).trans R4.out)
  clear ch5 HC2 HS3
  go_wp2_with (first
    | ((with_reducible refine row_load_g _ _ w.heap.size _ _ _ _ ?_ ?_ R5.out Try.underlying28 ?_ (row_size Try.sizePage HAS) ?_); (exact rfl); (exact rfl); (exact rfl))
    | ((with_reducible refine row_load_g _ _ w4.heap.size _ _ _ _ ?_ ?_ G5.out Try.underlying28 ?_ (row_size Try.sizePage HAS) ?_); (exact rfl); (exact rfl); (exact rfl))
    | ((with_reducible refine row_build0_g _ _ ?_ HBT.out ?_); (exact rfl))
    | (go_at_call 14; refine (HC3.out _).mono ?_; rintro e6 w6 ⟨rfl, HB6⟩; clear HC3; have B6 := Lib.hid (B5.out.trans (HB6.out.mono B5.out.size)))
    | (go_at_call 14; refine (HC4.out _).mono ?_; rintro e7 w7 ⟨rfl, HB7⟩; have B7 := Lib.hid (B6.out.trans (HB7.out.mono B6.out.size))))
  go_ret
  exact ⟨rfl, B7.out⟩
end Go.Proofs.Ytgfnpofoedambaa

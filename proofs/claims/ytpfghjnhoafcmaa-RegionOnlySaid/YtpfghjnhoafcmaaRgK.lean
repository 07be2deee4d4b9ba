/-
  Contract: region.Choose.
-/
import Derived.Test.YtpfghjnhoafcmaaRgL
import Derived.Test.YtpfghjnhoafcmaaSc1
namespace Go.Proofs.Ytpfghjnhoafcmaa
open Go.RowKit

namespace Rg
/-- Is a record too late; who is the best one behind another; of a list's first k. -/
def late (lv : Int) (r : R) : Bool := decide (lv < r.st) && decide (lv < r.st - 1)
def better (o : Option R) (r : R) : Bool := match o with
  | none => true
  | some b => decide (b.st < r.st)
def stp (lv : Int) (o : Option R) (r : R) : Option R := if late lv r then o else if better o r then some r else o
def chk (lv : Int) (L : List R) (k : Nat) : Option R := (L.take k).foldl (stp lv) none
def ch (lv : Int) (L : List R) : Option R := L.foldl (stp lv) none
theorem chk_zero (lv : Int) (L : List R) : chk lv L 0 = none := by unfold chk; rw [List.take_zero]; rfl
theorem chk_succ (lv : Int) {L : List R} {k : Nat} (hk : k < L.length) : chk lv L (k + 1) = stp lv (chk lv L k) (L.getD k zero) := by
  unfold chk
  rw [List.take_add_one, List.getD_eq_getElem?_getD, List.getElem?_eq_getElem hk]
  show List.foldl (stp lv) none (L.take k ++ [L[k]]) = _
  rw [List.foldl_append]
  rfl
theorem chk_all (lv : Int) {L : List R} {n : Nat} (h : L.length = n) : chk lv L n = ch lv L := by unfold chk ch; rw [← h, List.take_length]
theorem stp_or (lv : Int) (o : Option R) (r : R) : stp lv o r = o ∨ stp lv o r = some r := by
  unfold stp
  split
  · exact Or.inl rfl
  · split
    · exact Or.inr rfl
    · exact Or.inl rfl
theorem chk_mem (lv : Int) {L : List R} : ∀ k, k ≤ L.length → ∀ b, chk lv L k = some b → b ∈ L
  | 0, _, b, h => by rw [chk_zero] at h; cases h
  | k + 1, hk, b, h => by
    rw [chk_succ lv (by omega)] at h
    rcases stp_or lv (chk lv L k) (L.getD k zero) with e | e
    · rw [e] at h; exact chk_mem lv k (by omega) b h
    · rw [e] at h
      injection h with h
      rw [← h, List.getD_eq_getElem?_getD, List.getElem?_eq_getElem (by omega)]
      exact List.getElem_mem _
attribute [irreducible] late chk ch
end Rg
theorem late_eq (lv : Int) (r : Rg.R) : Rg.late lv r = (decide (lv < r.st) && decide (lv < r.st - 1)) := by unfold Rg.late; rfl
theorem rar_st {x : Rg.R} {z : World} {g : Nat} {t : TypeId} (h : z.heap[g]? = some (.cells (RAr x) t (0, 0))) : z.cell? ⟨g, 1, none⟩ = some (.int .i64 x.st) := by
  rw [cell_of_row z g 1 _ _ _ h]
  unfold RAr cv
  rfl
set_option maxHeartbeats 1000000 in
set_option maxRecDepth 100000 in
theorem late_any (r : Rg.R) (h : Rg.Ok r) (gl : Nat) (lv : Int) (hlv : Pk.In64 lv) (w : World) (hc : w.cell? ⟨gl, 0, none⟩ = some (.int .i64 lv)) :
    Calls Try.prog 58 #[RV r, .pointer (some ⟨gl, 0, none⟩)] w (BoSay (Rg.late lv r) w) := by
  rw [rv_eq]
  have HAS := Lib.hid (rar_size h)
  have h1 := rar_one r
  have R0 : Hid ((w.alloc (.cells (RAr r) 40)).heap[w.heap.size]? = some (.cells (RAr r) 40 (0, 0))) := heap_alloc_new w _
  have B0 : Hid (Below w.heap.size w (w.alloc (.cells (RAr r) 40))) := (Below.refl _ w).alloc (Nat.le_refl _) _
  have c1 := rar_st R0.out
  have c2 : (w.alloc (.cells (RAr r) 40)).cell? ⟨gl, 0, none⟩ = some (.int .i64 lv) := (B0.out.cell (p := ⟨gl, 0, none⟩) (World.block_lt_of_cell? w _ hc)).trans hc
  have hst := h.st
  rw [late_eq]
  unfold Pk.In64 at hst hlv
  generalize RAr r = A at *
  generalize r.st = st at *
  clear hc h
  by_cases h2 : lv < st
  · have hw : IntKind.i64.wrap (st - 1) = st - 1 := IntWalk.i64_in _ ⟨by omega, by omega⟩
    have hg : st > lv := h2
    rw [decide_eq_true h2, Bool.true_and]
    by_cases h3 : lv < st - 1
    · have hg3 : st - 1 > lv := h3
      rw [decide_eq_true h3]
      go_enter Try.func58, Try.ntmps58
      go_wp2
      go_ret
      exact ⟨by first | rfl | simp [h3], B0.out⟩
    · have hg3 : ¬ st - 1 > lv := h3
      rw [decide_eq_false h3]
      go_enter Try.func58, Try.ntmps58
      go_wp2
      go_ret
      exact ⟨by first | rfl | simp [h3], B0.out⟩
  · have hg : ¬ st > lv := h2
    rw [decide_eq_false h2, Bool.false_and]
    go_enter Try.func58, Try.ntmps58
    go_wp2
    go_ret
    exact ⟨by first | rfl | simp, B0.out⟩
/-- Behind a choice. -/
def ChSay (o : Option Rg.R) (w : World) (e : Ending) (w' : World) : Prop := e = .returned (.tuple #[RV (o.getD Rg.zero), .bool o.isSome]) ∧ Hid (Below w.heap.size w w')
set_option maxHeartbeats 4000000 in
set_option maxRecDepth 100000 in
theorem latest_any (L : List Rg.R) (p : Option Addr) (n c : Nat) (hn : L.length = n) (hL : n ≤ 1000000) (gl : Nat) (lv : Int) (hlv : Pk.In64 lv) (w : World) (hp : Rs w p c L) (hc : w.cell? ⟨gl, 0, none⟩ = some (.int .i64 lv)) :
    Calls Try.prog 57 #[.slice p n c, .func (.func 58) #[] #[.pointer (some ⟨gl, 0, none⟩)]] w (ChSay (Rg.ch lv L) w) := by
  have HP := Lib.hid hp
  have HN := Lib.hid hn
  obtain ⟨Z, hZ⟩ : ∃ Z, Hid (RAr Rg.zero = Z) := ⟨_, rfl⟩
  have HZS : Hid (Z.size = 136) := by show _ = _; rw [← hZ.out]; exact rar_size Rg.ok_zero
  have hz := (zero_of_info Try.zeroRec).1
  rw [show (cv Rg.zero).toArray = Z from hZ.out] at hz
  have hzn : ¬ Z = #[] := fun h => by have := HZS.out; rw [h] at this; simp at this
  have hsz := row_size Try.sizeRec HZS
  have HC : Hid (∀ y r, Rg.Ok r → Below w.heap.size w y → Calls Try.prog 58 #[.agg (RAr r), .pointer (some ⟨gl, 0, none⟩)] y (BoSay (Rg.late lv r) y)) := fun y r hr hy => by
    rw [← rv_eq]
    exact late_any r hr gl lv hlv y ((hy.cell (p := ⟨gl, 0, none⟩) (World.block_lt_of_cell? w _ hc)).trans hc)
  have HEND : Hid (Rg.chk lv L n = Rg.ch lv L) := Rg.chk_all lv hn
  have HS : Hid (∀ k, k < n → Rg.chk lv L (k + 1) = Rg.stp lv (Rg.chk lv L k) (L.getD k Rg.zero)) := fun k hk => Rg.chk_succ lv (by omega)
  have H0 : Hid (Rg.chk lv L 0 = none) := Rg.chk_zero lv L
  have HM : Hid (∀ k, k ≤ n → ∀ b, Rg.chk lv L k = some b → Rg.Ok b) := fun k hk b hb => hp.ok b (Rg.chk_mem lv k (by omega) b hb)
  have HOZ : Hid (Rg.Ok Rg.zero) := Rg.ok_zero
  rw [← HEND.out]
  clear hp hc hlv hn HEND
  generalize Rg.chk lv L = F at *
  obtain ⟨w1, hw1⟩ : ∃ x, x = (w.alloc (.cells Z 40)).alloc (.cells Z 40) := ⟨_, rfl⟩
  have B1 : Hid (Below w.heap.size w w1) := by rw [hw1]; exact ((Below.refl _ w).alloc (Nat.le_refl _) _).alloc (by simp) _
  have R4 : Hid (w1.heap[w.heap.size]? = some (.cells Z 40 (0, 0))) := by rw [hw1]; exact heap_alloc2_old w _ _
  have R6 : Hid (w1.heap[w.heap.size + 1]? = some (.cells (RAr ((F 0).getD Rg.zero)) 40 (0, 0))) := by rw [hw1, H0.out]; show _ = some (Obj.cells (RAr Rg.zero) _ _); rw [hZ.out]; exact heap_alloc2_new w _ _
  have HW1 : Hid (w1.heap.size = w.heap.size + 2) := by show _ = _; rw [hw1]; simp
  go_enter Try.func57, Try.ntmps57
  go_upto_region 2 with (fail)
  change Code.wp _ _ _ _ ((w.alloc (.cells Z 40)).alloc (.cells Z 40))
  rw [← hw1]
  clear hw1
  have HBG : Hid (w.heap.size + 1 < w1.heap.size) := by show _ < _; rw [HW1.out]; omega
  go_wp2
  go_loopw [7, 12] (fun v7 v12 wr => ∃ k : Nat, k ≤ n ∧ v12 = .int .i64 k ∧ v7 = .bool (F k).isSome ∧ Hid (wr.heap[w.heap.size]? = some (.cells Z 40 (0, 0))) ∧ Hid (wr.heap[w.heap.size + 1]? = some (.cells (RAr ((F k).getD Rg.zero)) 40 (0, 0))) ∧ Hid (Below w.heap.size w wr)) (fun _ v12 _ => n - (intOf v12).toNat)
  case atStart => exact ⟨0, by omega, rfl, by rw [H0.out]; rfl, R4.out, R6.out, B1.out⟩
  case round =>
    clear B1 R4 R6
    obtain ⟨k, hk, rfl, rfl, R4, R6, HB⟩ := hrel
    by_cases hlt : k < n
    · obtain ⟨ab, ao, hpp, _⟩ := HP.out.at_ (by rw [HN.out]; omega)
      subst hpp
      have HR : Hid (wr.rangeAt ab (ao + k * 136) (RAr (L.getD k Rg.zero)).toList) := (HP.out.old HB.out).rng (by rw [HN.out]; exact hlt)
      have HOK : Hid (Rg.Ok (L.getD k Rg.zero)) := HP.out.getD k
      have HSK := Lib.hid (HS.out k hlt)
      have HMK := Lib.hid (HM.out k hk)
      generalize L.getD k Rg.zero = x at *
      have HCX : Hid (∀ y, Below w.heap.size w y → Calls Try.prog 58 #[.agg (RAr x), .pointer (some ⟨gl, 0, none⟩)] y (BoSay (Rg.late lv x) y)) := fun y hy => HC.out y x HOK.out hy
      have HXI := Lib.hid (rc_info HOK.out)
      have HXS : Hid ((RAr x).size = 136) := rar_size HOK.out
      have HX1 : Hid ((RAr x).all (·.oneCell') = true) := rar_one _
      have HFS : Hid ((RAr ((F k).getD Rg.zero)).size = 136) := by
        show _ = _
        cases q : F k with
        | none => exact rar_size HOZ.out
        | some b => exact rar_size (HMK.out b q)
      have hi0 : 0 ≤ (k : Int) := by omega
      have hi1 : (k : Int) < (n : Int) := by omega
      clear HC HS HM
      go_upto_region 6 with (first
        | ((with_reducible refine rng_load _ _ _ _ _ _ ?_ HR.out Try.underlying40 ?_ HXI.out ?_); (exact rfl); (exact rfl))
        | ((with_reducible refine row_store _ _ _ _ _ _ _ ?_ ?_ (heap_alloc_new _ _) (row_size Try.sizeRec HXS) ?_ HX1.out ?_); (exact rfl); (exact rfl); (rw [HXS.out, HZS.out]); intro w2 G2 ch2))
      have h2 : Below wr.heap.size wr w2 := ch2.below ((Below.refl _ wr).alloc (Nat.le_refl _) _) (Nat.le_refl _)
      have HB2 : Hid (Below w.heap.size w w2) := HB.out.trans (h2.mono HB.out.size)
      have R42 := Lib.hid ((h2.block _ (lt_of_block R4.out)).trans R4.out)
      have R62 := Lib.hid ((h2.block _ (lt_of_block R6.out)).trans R6.out)
      clear h2 ch2 R4 R6 HR
      generalize wr.heap.size = g9 at *
      cases hq : Rg.late lv x with
      | true =>
        rw [hq] at HCX
        have HSK : Hid (F (k + 1) = F k) := by have h := HSK.out; unfold Rg.stp at h; rw [hq] at h; exact h
        clear hq
        generalize F k = o at *
        go_wp2_with (first
          | ((with_reducible refine row_load _ _ _ _ _ _ _ ?_ G2.out Try.underlying40 ?_ HXI.out ?_); (exact rfl); (exact rfl))
          | (go_at_call 58; refine (HCX.out _ HB2.out).mono ?_; rintro e3 w3 ⟨rfl, HB3'⟩; have HB3 := Lib.hid (HB2.out.trans (HB3'.out.mono HB2.out.size)); have G3 := Lib.hid ((HB3'.out.block _ (lt_of_block G2.out)).trans G2.out); have R63 := Lib.hid ((HB3'.out.block _ (lt_of_block R62.out)).trans R62.out); have R43 := Lib.hid ((HB3'.out.block _ (lt_of_block R42.out)).trans R42.out); have c9 := rar_st G3.out; have c6 := rar_st R63.out))
        exact ⟨⟨k + 1, by omega, by go_num, by rw [HSK.out], R43.out, by rw [HSK.out]; exact R63.out, HB3.out⟩, by simp [intOf]; omega⟩
      | false =>
        rw [hq] at HCX
        have HSK : Hid (F (k + 1) = if Rg.better (F k) x then some x else F k) := by have h := HSK.out; unfold Rg.stp at h; rw [hq] at h; exact h
        clear hq
        cases ho : F k with
        | none =>
          try rw [ho] at HSK
          try rw [ho] at HFS
          try rw [ho] at R42
          try rw [ho] at R62
          have HSK : Hid (F (k + 1) = some x) := HSK.out
          clear HMK
          go_wp2_with (first
            | ((with_reducible refine row_load _ _ _ _ _ _ _ ?_ G3.out Try.underlying40 ?_ HXI.out ?_); (exact rfl); (exact rfl))
            | ((with_reducible refine row_load _ _ _ _ _ _ _ ?_ G2.out Try.underlying40 ?_ HXI.out ?_); (exact rfl); (exact rfl))
            | (go_at_call 58; refine (HCX.out _ HB2.out).mono ?_; rintro e3 w3 ⟨rfl, HB3'⟩; have HB3 := Lib.hid (HB2.out.trans (HB3'.out.mono HB2.out.size)); have G3 := Lib.hid ((HB3'.out.block _ (lt_of_block G2.out)).trans G2.out); have R63 := Lib.hid ((HB3'.out.block _ (lt_of_block R62.out)).trans R62.out); have R43 := Lib.hid ((HB3'.out.block _ (lt_of_block R42.out)).trans R42.out); have c9 := rar_st G3.out; have c6 := rar_st R63.out)
            | ((with_reducible refine row_store _ _ _ _ _ _ _ ?_ ?_ R63.out (row_size Try.sizeRec HXS) ?_ HX1.out ?_); (exact rfl); (exact rfl); (rw [HXS.out, HFS.out]); intro w4 G4 ch4))
          have HB4 : Hid (Below w.heap.size w w4) := ch4.below HB3.out (Nat.le_succ _)
          exact ⟨⟨k + 1, by omega, by go_num, by rw [HSK.out]; rfl, (ch4.block _ (by omega)).trans R43.out, by rw [HSK.out]; exact G4.out, HB4.out⟩, by simp [intOf]; omega⟩
        | some b =>
          try rw [ho] at HSK
          try rw [ho] at HFS
          try rw [ho] at R42
          try rw [ho] at R62
          by_cases hb : b.st < x.st
          · have HSK : Hid (F (k + 1) = some x) := by have h := HSK.out; rw [show Rg.better (some b) x = true from decide_eq_true hb, if_pos rfl] at h; exact h
            have hb2 : x.st > b.st := hb
            clear HMK
            go_wp2_with (first
              | ((with_reducible refine row_load _ _ _ _ _ _ _ ?_ G3.out Try.underlying40 ?_ HXI.out ?_); (exact rfl); (exact rfl))
              | ((with_reducible refine row_load _ _ _ _ _ _ _ ?_ G2.out Try.underlying40 ?_ HXI.out ?_); (exact rfl); (exact rfl))
              | (go_at_call 58; refine (HCX.out _ HB2.out).mono ?_; rintro e3 w3 ⟨rfl, HB3'⟩; have HB3 := Lib.hid (HB2.out.trans (HB3'.out.mono HB2.out.size)); have G3 := Lib.hid ((HB3'.out.block _ (lt_of_block G2.out)).trans G2.out); have R63 := Lib.hid ((HB3'.out.block _ (lt_of_block R62.out)).trans R62.out); have R43 := Lib.hid ((HB3'.out.block _ (lt_of_block R42.out)).trans R42.out); have c9 := rar_st G3.out; have c6 := rar_st R63.out)
              | ((with_reducible refine row_store _ _ _ _ _ _ _ ?_ ?_ R63.out (row_size Try.sizeRec HXS) ?_ HX1.out ?_); (exact rfl); (exact rfl); (rw [HXS.out, HFS.out]); intro w4 G4 ch4))
            have HB4 : Hid (Below w.heap.size w w4) := ch4.below HB3.out (Nat.le_succ _)
            exact ⟨⟨k + 1, by omega, by go_num, by rw [HSK.out]; rfl, (ch4.block _ (by omega)).trans R43.out, by rw [HSK.out]; exact G4.out, HB4.out⟩, by simp [intOf]; omega⟩
          · have HSK : Hid (F (k + 1) = some b) := by have h := HSK.out; rw [show Rg.better (some b) x = false from decide_eq_false hb, if_neg (by decide)] at h; exact h
            have hb2 : ¬ x.st > b.st := hb
            clear HMK
            go_wp2_with (first
              | ((with_reducible refine row_load _ _ _ _ _ _ _ ?_ G2.out Try.underlying40 ?_ HXI.out ?_); (exact rfl); (exact rfl))
              | (go_at_call 58; refine (HCX.out _ HB2.out).mono ?_; rintro e3 w3 ⟨rfl, HB3'⟩; have HB3 := Lib.hid (HB2.out.trans (HB3'.out.mono HB2.out.size)); have G3 := Lib.hid ((HB3'.out.block _ (lt_of_block G2.out)).trans G2.out); have R63 := Lib.hid ((HB3'.out.block _ (lt_of_block R62.out)).trans R62.out); have R43 := Lib.hid ((HB3'.out.block _ (lt_of_block R42.out)).trans R42.out); have c9 := rar_st G3.out; have c6 := rar_st R63.out))
            exact ⟨⟨k + 1, by omega, by go_num, by rw [HSK.out]; rfl, R43.out, by rw [HSK.out]; exact R63.out, HB3.out⟩, by simp [intOf]; omega⟩
    · obtain rfl : k = n := by omega
      have HFS : Hid ((RAr ((F k).getD Rg.zero)).size = 136) := by
        show _ = _
        cases q : F k with
        | none => exact rar_size HOZ.out
        | some b => exact rar_size (HM.out k (Nat.le_refl _) b q)
      have HF1 : Hid ((RAr ((F k).getD Rg.zero)).all (·.oneCell') = true) := rar_one _
      have HRV : Hid (RV ((F k).getD Rg.zero) = .agg (RAr ((F k).getD Rg.zero))) := rv_eq _
      clear hlt HC HS HM
      have hge : ¬ (k : Int) < (k : Int) := by omega
      show Code.wp _ _ _ _ _
      generalize RAr ((F k).getD Rg.zero) = A at *
      go_wp2_with (first
        | ((with_reducible refine row_load _ _ _ _ _ _ _ ?_ R6.out Try.underlying40 ?_ (row_size Try.sizeRec HFS) ?_); (exact rfl); (exact rfl))
        | ((with_reducible refine row_store _ _ _ _ _ _ _ ?_ ?_ R4.out (row_size Try.sizeRec HFS) ?_ HF1.out ?_); (exact rfl); (exact rfl); (rw [HFS.out, HZS.out]); intro w2 G2 ch2))
      refine bodyPost_ret (results_cell_tmp rfl _ _ w.heap.size 40 A (0, 0) _ rfl G2.out Try.underlying40 rfl (row_size Try.sizeRec HFS)) rfl ⟨?_, ch2.below HB.out (Nat.le_refl _)⟩
      rw [HRV.out]; rfl

set_option maxHeartbeats 1000000 in
set_option maxRecDepth 100000 in
theorem choose_any (L : List Rg.R) (p : Option Addr) (n c : Nat) (hn : L.length = n) (hL : n ≤ 1000000) (lv : Int) (hlv : Pk.In64 lv) (w : World) (hp : Rs w p c L) :
    Calls Try.prog 32 #[.slice p n c, .int .i64 lv] w (ChSay (Rg.ch lv L) w) := by
  obtain ⟨Z, hZ⟩ : ∃ Z, Hid (RAr Rg.zero = Z) := ⟨_, rfl⟩
  have HZS : Hid (Z.size = 136) := by show _ = _; rw [← hZ.out]; exact rar_size Rg.ok_zero
  have hz := (zero_of_info Try.zeroRec).1
  rw [show (cv Rg.zero).toArray = Z from hZ.out] at hz
  have hzn : ¬ Z = #[] := fun h => by have := HZS.out; rw [h] at this; simp at this
  have hsz := row_size Try.sizeRec HZS
  obtain ⟨w1, hw1⟩ : ∃ x, x = (w.alloc (.cells #[.int .i64 lv] 3)).alloc (.cells Z 40) := ⟨_, rfl⟩
  have B1 : Hid (Below w.heap.size w w1) := by rw [hw1]; exact ((Below.refl _ w).alloc (Nat.le_refl _) _).alloc (by simp) _
  have R0 : Hid (w1.heap[w.heap.size]? = some (.cells #[.int .i64 lv] 3 (0, 0))) := by rw [hw1]; exact heap_alloc2_old w _ _
  have R4 : Hid (w1.heap[w.heap.size + 1]? = some (.cells Z 40 (0, 0))) := by rw [hw1]; exact heap_alloc2_new w _ _
  have HC : Hid (Calls Try.prog 57 #[.slice p n c, .func (.func 58) #[] #[.pointer (some ⟨w.heap.size, 0, none⟩)]] w1 (ChSay (Rg.ch lv L) w1)) := latest_any L p n c hn hL w.heap.size lv hlv w1 (hp.old B1.out) (by rw [cell_of_row w1 w.heap.size 0 _ _ _ R0.out]; rfl)
  have HO : Hid (Rg.Ok ((Rg.ch lv L).getD Rg.zero)) := by
    have hm : ∀ b, Rg.ch lv L = some b → Rg.Ok b := fun b hb => hp.ok b (Rg.chk_mem lv n (by omega) b (by rw [Rg.chk_all lv hn]; exact hb))
    cases q : Rg.ch lv L with
    | none => exact Rg.ok_zero
    | some b => exact hm b q
  have HRV : Hid (RV ((Rg.ch lv L).getD Rg.zero) = .agg (RAr ((Rg.ch lv L).getD Rg.zero))) := rv_eq _
  have HAS : Hid ((RAr ((Rg.ch lv L).getD Rg.zero)).size = 136) := rar_size HO.out
  have HA1 : Hid ((RAr ((Rg.ch lv L).getD Rg.zero)).all (·.oneCell') = true) := rar_one _
  unfold ChSay at HC ⊢
  rw [HRV.out] at HC ⊢
  clear HO HRV hp hn hlv
  generalize RAr ((Rg.ch lv L).getD Rg.zero) = A at *
  generalize (Rg.ch lv L).isSome = b at *
  go_enter Try.func32, Try.ntmps32
  go_upto_region 1 with (fail)
  change Code.wp _ _ _ _ ((w.alloc (.cells #[.int .i64 lv] 3)).alloc (.cells Z 40))
  rw [← hw1]
  clear hw1
  go_wp2_with (first
    | (go_at_call 57; refine HC.out.mono ?_; rintro e2 w2 ⟨rfl, HB2⟩; have HB3 := Lib.hid (B1.out.trans (HB2.out.mono B1.out.size)); have R42 := Lib.hid ((HB2.out.block _ (lt_of_block R4.out)).trans R4.out))
    | ((with_reducible refine row_store _ _ _ _ _ _ _ ?_ ?_ R42.out (row_size Try.sizeRec HAS) ?_ HA1.out ?_); (exact rfl); (exact rfl); (rw [HAS.out, HZS.out]); intro w4 G4 ch4))
  refine bodyPost_ret (results_cell_tmp rfl _ _ (w.heap.size + 1) 40 A (0, 0) _ rfl G4.out Try.underlying40 rfl (row_size Try.sizeRec HAS)) rfl ⟨rfl, ch4.below HB3.out (Nat.le_succ _)⟩

end Go.Proofs.Ytpfghjnhoafcmaa

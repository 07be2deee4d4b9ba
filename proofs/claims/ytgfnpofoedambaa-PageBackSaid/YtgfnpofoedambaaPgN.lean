/-
  PageBack walked.
-/
import Derived.Test.YtgfnpofoedambaaPgK
namespace Go.Proofs.Ytgfnpofoedambaa
open Go.RowKit

namespace Pg
/-- Whether the index and the first k refs may be. -/
def fn (i : Int) (R : List Rf) (k : Nat) : Bool := decide (0 ≤ i ∧ i ≤ 8) && (R.take k).all mb
theorem fn_zero (i : Int) (R : List Rf) : fn i R 0 = decide (0 ≤ i ∧ i ≤ 8) := by unfold fn; rw [List.take_zero]; exact Bool.and_true _
theorem fn_succ (i : Int) (R : List Rf) (k : Nat) (hk : k < R.length) : fn i R (k + 1) = (fn i R k && mb (R.getD k zr)) := by
  unfold fn
  have e : R.take (k + 1) = R.take k ++ [R.getD k zr] := by
    rw [List.take_add_one, List.getElem?_eq_getElem hk, List.getD_eq_getElem?_getD, List.getElem?_eq_getElem hk]; rfl
  rw [e, List.all_append, Bool.and_assoc]
  congr 2
  simp
theorem fn_all (i : Int) {R : List Rf} (h : OkA R) : fn i R 8 = nd i R := by unfold fn nd; rw [List.take_of_length_le (by rw [h.1]; omega)]
attribute [irreducible] fn
end Pg
/-- A call of Get that tells an error. -/
theorem get_err (L : List Int) (n : Nat) (er : Int) (hn : L.length = n) (hL : n ≤ 900000) (he : Pg.er L = er) (h0 : er ≠ 0) (p : Option Addr) (c : Nat) (w : World) (hp : Bs w p c L) :
    Calls Try.prog 18 #[.slice p n c] w fun e w' => e = .returned (.tuple #[.int .i64 0, PV Pg.zp, .int .i64 er]) ∧ Hid (Below w.heap.size w w') := by
  have h1 := get_any L p n c hn hL w hp
  unfold GotSay at h1
  obtain ⟨h2, h3⟩ := Pg.none (L := L) (by rw [he]; exact h0)
  rw [h2, h3, he] at h1
  exact h1
set_option maxHeartbeats 4000000 in
set_option maxRecDepth 100000 in
theorem back_any (i x : Int) (R : List Pg.Rf) (h : Pg.OkA R) (hi : Pk.In64 i) (hx : 0 ≤ x ∧ x ≤ 255) (w : World) : Calls Try.prog 5 #[.int .i64 i, PV R, .int .u8 x] w (YesSay w) := by
  obtain ⟨A, RA, eA, hk⟩ := pgk h
  obtain ⟨Z, eZ⟩ : ∃ Z, (cs Pg.zp).toArray = Z := ⟨_, rfl⟩
  have eQ : PV Pg.zp = .agg Z := by unfold PV; rw [eZ]
  have HPN : Hid (Pg.nd i R = false → ∀ y, Calls Try.prog 9 #[.int .i64 i, .agg A] y (PutNo y)) := fun hn y => by rw [← eA]; exact put_no i R h hn y
  have HPY : Hid (Pg.nd i R = true → ∀ y, Calls Try.prog 9 #[.int .i64 i, .agg A] y (PutYes (Pg.pt i R) y)) := fun hn y => by rw [← eA]; exact put_yes i R h hn y
  have HGB : Hid (Pg.nd i R = true → ∀ y p c, Bs y p c (Pg.pt i R) → Calls Try.prog 18 #[.slice p 328 c] y fun e w' => e = .returned (.tuple #[.int .i64 i, .agg A, .int .i64 0]) ∧ Hid (Below y.heap.size y w')) := fun hn y p c hy => by rw [← eA]; exact get_back i hi R h hn p c y hy
  have HG4 : Hid (∀ y p c, Bs y p c (Pg.pt i R) → Calls Try.prog 18 #[.slice p 327 c] y fun e w' => e = .returned (.tuple #[.int .i64 0, .agg Z, .int .i64 4]) ∧ Hid (Below y.heap.size y w')) := fun y p c hy => by
    have hl : ((Pg.pt i R).take 327).length = 327 := by rw [List.length_take, Pg.pt_len i h]; rfl
    rw [← eQ]
    exact get_err _ 327 4 hl (by omega) (Pg.er_short (by omega)) (by omega) p c y (hy.take 327)
  have HG3 : Hid (∀ y p c, Bs y p c (Pg.pt i R ++ [x]) → Calls Try.prog 18 #[.slice p 329 c] y fun e w' => e = .returned (.tuple #[.int .i64 0, .agg Z, .int .i64 3]) ∧ Hid (Below y.heap.size y w')) := fun y p c hy => by
    have hl : (Pg.pt i R ++ [x]).length = 329 := by rw [List.length_append, Pg.pt_len i h]; rfl
    rw [← eQ]
    exact get_err _ 329 3 hl (by omega) (Pg.er_long (by omega)) (by omega) p c y hy
  have HCP : Hid (∀ y q d, Bs y q d (Pg.pt i R) → Calls Try.prog 21 #[.slice q 328 d] y fun e w' => ∃ v, e = .returned v ∧ w'.ownsRow y.heap.size 5 1 v 328 (U8s (Pg.pt i R)) ∧ Below y.heap.size y w') := fun y q d hy => copybytes_any (Pg.pt i R) q 328 d (Pg.pt_len i h) (by rw [Pg.pt_len i h]; omega) y hy.bat
  have HBX : Hid (Sha.Byt (Pg.pt i R ++ [x])) := Sha.byt_append (Pg.pt_byt i h) (fun z hz => by rw [List.mem_singleton] at hz; omega)
  have HPL : Hid ((Pg.pt i R).length = 328) := Pg.pt_len i h
  have heq : ∀ y, (Op.equalIn 10000 28 (.agg A) (.agg A)).run Try.prog y = .ok true y := fun y => by
    have := page_eq h h y
    rw [decide_eq_true rfl, eA] at this
    exact this
  have HFS : Hid (∀ k, k < 8 → Pg.fn i R (k + 1) = (Pg.fn i R k && Pg.mb (R.getD k Pg.zr))) := fun k hk => Pg.fn_succ i R k (by rw [h.1]; exact hk)
  have HFA : Hid (Pg.fn i R 8 = Pg.nd i R) := Pg.fn_all i h
  have HF0 : Hid (Pg.fn i R 0 = decide (0 ≤ i ∧ i ≤ 8)) := Pg.fn_zero i R
  have HRK : Hid (∀ k, k < 8 → ∃ Zr, RfK (R.getD k Pg.zr) (RA k) Zr) := fun k hk8 => by
    obtain ⟨A', Z', e1, e2⟩ := rfk (Pg.ok_at h k)
    rw [hk.val k hk8] at e1
    cases e1
    exact ⟨Z', e2⟩
  rw [eA]
  have HAS := Lib.hid hk.size
  have HA1 := Lib.hid hk.one
  have hsz := row_size Try.sizePage HAS
  have h1 := hk.one
  have HZS : Hid (Z.size = 264) := by show _ = _; rw [← eZ, List.size_toArray, cs_len Pg.ok_zp]
  have HZ1 : Hid (Z.all (·.oneCell') = true) := by show _ = _; rw [← eZ]; exact all_oneCell_toArray (cs_one _)
  have hz := (zero_of_info Try.zeroPage).1
  rw [eZ] at hz
  have hzn : ¬ Z = #[] := fun h => by have := HZS.out; rw [h] at this; simp at this
  have HK := Lib.hid hk
  have R0 : Hid ((w.alloc (.cells A 28)).heap[w.heap.size]? = some (.cells A 28 (0, 0))) := heap_alloc_new w _
  have B0 : Hid (Below w.heap.size w (w.alloc (.cells A 28))) := (Below.refl _ w).alloc (Nat.le_refl _) _
  clear hk h eA eZ eQ hi
  obtain ⟨B, hB⟩ : ∃ B, Pg.pt i R = B := ⟨_, rfl⟩
  rw [hB] at HPY HGB HG4 HG3 HCP HBX HPL
  clear hB
  obtain ⟨q0, hq0⟩ : ∃ q0, Hid (decide (0 ≤ i ∧ i ≤ 8) = q0) := ⟨_, rfl⟩
  rw [hq0.out] at HF0
  go_enter Try.func5, Try.ntmps5
  go_upto_region 1 with (fail)
  obtain ⟨w0, hw0⟩ : ∃ y, y = w.alloc (.cells A 28) := ⟨_, rfl⟩
  change Code.wp _ _ _ _ (w.alloc (.cells A 28))
  rw [← hw0] at B0 R0 ⊢
  clear hw0
  go_cut [7] from 21 to 26 (fun v7 y => v7 = .bool q0 ∧ y = w0)
  case first =>
    by_cases hlo : i < 0
    · obtain rfl : q0 = false := by rw [← hq0.out]; exact decide_eq_false (by omega)
      have hlo' : ¬ i ≥ 0 := by omega
      clear hlo
      go_wp2
      go_meet
      exact ⟨rfl, rfl⟩
    · have hlo' : i ≥ 0 := by omega
      by_cases hhi : i ≤ 8
      · obtain rfl : q0 = true := by rw [← hq0.out]; exact decide_eq_true ⟨by omega, by omega⟩
        clear hlo
        go_wp2
        go_meet
        exact ⟨rfl, rfl⟩
      · obtain rfl : q0 = false := by rw [← hq0.out]; exact decide_eq_false (by omega)
        clear hlo
        go_wp2
        go_meet
        exact ⟨rfl, rfl⟩
  case rest =>
    obtain ⟨rfl, rfl⟩ := hcut
    go_wp2
    go_loopw [7, 8] (fun v7 v8 wr => ∃ k : Nat, k ≤ 8 ∧ v8 = .int .i64 k ∧ v7 = .bool (Pg.fn i R k) ∧ Hid (Below w.heap.size w wr) ∧ Hid (wr.heap[w.heap.size]? = some (.cells A 28 (0, 0)))) (fun _ v8 _ => 8 - (intOf v8).toNat)
    case atStart => exact ⟨0, by omega, rfl, by rw [HF0.out], B0.out, R0.out⟩
    case round =>
      clear B0 R0 HF0 hq0
      obtain ⟨k, hk, rfl, rfl, HB, HG⟩ := hrel
      by_cases hlt : k < 8
      · have hx1 : (k : Int) < 8 := by omega
        have hx0 : (0 : Int) ≤ (k : Int) := by omega
        have RS : Hid ((RA k).size = 33) := HK.out.rsize k hlt
        have RO : Hid ((RA k).all (·.oneCell') = true) := HK.out.rone k hlt
        have RR : Hid (wr.rangeAt w.heap.size (k * 33) (RA k).toList) := HK.out.rng k hlt wr _ _ HG.out
        have FS := Lib.hid (HFS.out k hlt)
        obtain ⟨Zr, hrf⟩ := HRK.out k hlt
        have HBR := Lib.hid hrf.built
        have heqz := hrf.eqz
        have hfst := Lib.hid hrf.first
        have HMB := Lib.hid (mb_eq (R.getD k Pg.zr))
        clear hrf HRK HK HFS HFA hlt hz hzn heq HPN HPY HGB HG4 HG3 HCP HBX HPL HZS HZ1 HA1 h1 hsz
        generalize R.getD k Pg.zr = r at *
        generalize RA k = rk at *
        go_upto_region 6 with (first
          | ((with_reducible refine rng_load _ _ w.heap.size (k * 33) rk _ ?_ RR.out Try.underlying25 ?_ (row_size Try.sizeRef RS) ?_); (go_simp); (exact rfl))
          | ((with_reducible refine row_store _ _ _ _ _ _ _ ?_ ?_ (heap_alloc_new _ _) (row_size Try.sizeRef RS) ?_ RO.out ?_); (exact rfl); (exact rfl); (rw [RS.out]; rfl); intro w2 G2 ch2))
        have B2 : Hid (Below w.heap.size w w2) := ch2.below (HB.out.alloc HB.out.size _) HB.out.size
        have HG2 : Hid (w2.heap[w.heap.size]? = some (.cells A 28 (0, 0))) := (ch2.block _ (Nat.ne_of_lt (lt_of_block HG.out))).trans ((heap_oldX wr _ (lt_of_block HG.out)).trans HG.out)
        have c0 : w2.cell? ⟨wr.heap.size, 0, none⟩ = some (.int .i64 r.1) := by rw [cell_of_row _ _ 0 _ _ _ G2.out]; exact hfst.out
        clear ch2 hfst RR RO HB HG
        obtain ⟨f2, hf2⟩ : ∃ f2, Hid (Pg.fn i R (k + 1) = f2) := ⟨_, rfl⟩
        rw [hf2.out] at FS
        obtain ⟨f1, hf1⟩ : ∃ f1, Pg.fn i R k = f1 := ⟨_, rfl⟩
        rw [hf1] at FS
        simp only [hf1]
        clear hf1
        obtain ⟨a, S⟩ := r
        dsimp only at c0 HMB
        cases f1 with
        | false =>
          have FS2 : Hid (f2 = false) := by show _ = _; rw [FS.out, Bool.false_and]
          clear FS HMB
          go_wp2_with (first
            | ((with_reducible refine row_load_g _ _ wr.heap.size _ _ _ _ ?_ ?_ G2.out Try.underlying25 ?_ (row_size Try.sizeRef RS) ?_); (exact rfl); (exact rfl); (exact rfl))
            | ((with_reducible refine row_build0_g _ _ ?_ HBR.out ?_); (exact rfl)))
          exact ⟨⟨k + 1, by omega, by go_num, by rw [hf2.out, FS2.out], B2.out, HG2.out⟩, by simp [intOf]; omega⟩
        | true =>
          by_cases hzr : (a, S) = Pg.zr
          · have hd : decide ((a, S) = Pg.zr) = true := decide_eq_true hzr
            have FS2 : Hid (f2 = true) := by show _ = _; rw [FS.out, HMB.out, hd, Bool.true_or, Bool.true_and]
            simp only [hd] at heqz
            clear FS HMB hd hzr
            go_wp2_with (first
              | ((with_reducible refine row_load_g _ _ wr.heap.size _ _ _ _ ?_ ?_ G2.out Try.underlying25 ?_ (row_size Try.sizeRef RS) ?_); (exact rfl); (exact rfl); (exact rfl))
              | ((with_reducible refine row_build0_g _ _ ?_ HBR.out ?_); (exact rfl)))
            exact ⟨⟨k + 1, by omega, by go_num, by rw [hf2.out, FS2.out], B2.out, HG2.out⟩, by simp [intOf]; omega⟩
          · have hd : decide ((a, S) = Pg.zr) = false := decide_eq_false hzr
            simp only [hd] at heqz
            by_cases h3 : 3 ≤ a
            · have hd3 : decide (3 ≤ a) = true := decide_eq_true h3
              have h3' : a ≥ 3 := h3
              by_cases h4 : a ≤ 4095
              · have hd4 : decide (a ≤ 4095) = true := decide_eq_true h4
                have FS2 : Hid (f2 = true) := by show _ = _; rw [FS.out, HMB.out, hd, hd3, hd4]; rfl
                clear FS HMB hd hd3 hd4 hzr h3
                go_wp2_with (first
                  | ((with_reducible refine row_load_g _ _ wr.heap.size _ _ _ _ ?_ ?_ G2.out Try.underlying25 ?_ (row_size Try.sizeRef RS) ?_); (exact rfl); (exact rfl); (exact rfl))
                  | ((with_reducible refine row_build0_g _ _ ?_ HBR.out ?_); (exact rfl)))
                exact ⟨⟨k + 1, by omega, by go_num, by rw [hf2.out, FS2.out], B2.out, HG2.out⟩, by simp [intOf]; omega⟩
              · have hd4 : decide (a ≤ 4095) = false := decide_eq_false h4
                have FS2 : Hid (f2 = false) := by show _ = _; rw [FS.out, HMB.out, hd, hd3, hd4]; rfl
                clear FS HMB hd hd3 hd4 hzr h3
                go_wp2_with (first
                  | ((with_reducible refine row_load_g _ _ wr.heap.size _ _ _ _ ?_ ?_ G2.out Try.underlying25 ?_ (row_size Try.sizeRef RS) ?_); (exact rfl); (exact rfl); (exact rfl))
                  | ((with_reducible refine row_build0_g _ _ ?_ HBR.out ?_); (exact rfl)))
                exact ⟨⟨k + 1, by omega, by go_num, by rw [hf2.out, FS2.out], B2.out, HG2.out⟩, by simp [intOf]; omega⟩
            · have hd3 : decide (3 ≤ a) = false := decide_eq_false h3
              have h3' : ¬ a ≥ 3 := h3
              have FS2 : Hid (f2 = false) := by show _ = _; rw [FS.out, HMB.out, hd, hd3]; rfl
              clear FS HMB hd hd3 hzr h3
              go_wp2_with (first
                | ((with_reducible refine row_load_g _ _ wr.heap.size _ _ _ _ ?_ ?_ G2.out Try.underlying25 ?_ (row_size Try.sizeRef RS) ?_); (exact rfl); (exact rfl); (exact rfl))
                | ((with_reducible refine row_build0_g _ _ ?_ HBR.out ?_); (exact rfl)))
              exact ⟨⟨k + 1, by omega, by go_num, by rw [hf2.out, FS2.out], B2.out, HG2.out⟩, by simp [intOf]; omega⟩
      · obtain rfl : k = 8 := by omega
        clear hlt HRK HK HFS
        have hfa := HFA.out
        cases hnd : Pg.nd i R with
        | false =>
          have HP := Lib.hid (HPN.out hnd)
          rw [hnd] at hfa
          simp only [hfa]
          clear HPN HPY HGB HG4 HG3 HCP HBX HPL heq hz hzn hfa hnd HFA HZS HZ1
          go_wp2_with (first
            | ((with_reducible refine row_load _ _ _ _ _ _ _ ?_ HG.out Try.underlying28 ?_ hsz ?_); (exact rfl); (exact rfl))
            | (go_at_call 9; refine (HP.out _).mono ?_; rintro e1 w1 ⟨rfl, HB1⟩; have B1 := Lib.hid (HB.out.trans (HB1.out.mono HB.out.size)))
            | (go_at_call 16; refine (known_any _).mono ?_; rintro e2 w2 ⟨rfl, HB2⟩; have B2 := Lib.hid (B1.out.trans (HB2.out.mono B1.out.size))))
          go_ret
          exact ⟨rfl, B2.out⟩
        | true =>
          have HP := Lib.hid (HPY.out hnd)
          have HGB := Lib.hid (HGB.out hnd)
          rw [hnd] at hfa
          simp only [hfa]
          obtain ⟨i0, hii, hz0, hz1, hz2⟩ := info_parts Try.info_u8
          clear HPN HPY hfa hnd HFA
          go_upto_region 10 with (first
            | ((with_reducible refine row_load _ _ _ _ _ _ _ ?_ HG.out Try.underlying28 ?_ hsz ?_); (exact rfl); (exact rfl))
            | (go_at_call 9; refine (HP.out _).mono ?_; rintro e1 w1 ⟨p1, c1, rfl, HO1, HS1, HB1⟩; have B1 := Lib.hid (HB.out.trans (HB1.out.mono HB.out.size)); have R1 := Lib.hid ((HB1.out.block _ (lt_of_block HG.out)).trans HG.out)))
          have hcap := HS1.out.cap
          rw [HPL.out] at hcap
          obtain ⟨hcap1, hcap2⟩ := hcap
          have hcapi : ¬ ((c1 : Int) < 327) := by omega
          clear HO1 HB1 HB HG HP
          go_upto_region 13 with (first
            | (go_at_call 18; refine (HGB.out _ _ _ HS1.out).mono ?_; rintro e2 w2 ⟨rfl, HB2⟩)
            | ((with_reducible refine row_store _ _ _ _ _ _ _ ?_ ?_ (heap_alloc_new _ _) (row_size Try.sizePage HAS) ?_ HA1.out ?_); (exact rfl); (exact rfl); (rw [HAS.out, HZS.out]); intro w3 G3 ch3))
          have K3 : Hid (Below w1.heap.size w1 w3) := HB2.out.trans ((ch3.below ((Below.refl _ w2).alloc (Nat.le_refl _) _) (Nat.le_refl _)).mono HB2.out.size)
          have B3 := Lib.hid (B1.out.trans (K3.out.mono B1.out.size))
          have R3 := Lib.hid ((K3.out.block _ (lt_of_block R1.out)).trans R1.out)
          have S3 := Lib.hid (HS1.out.old K3.out)
          generalize w2.heap.size = g13 at *
          clear ch3 HB2 K3 B1 R1 HS1 HGB
          go_upto_region 14 with (first
            | (go_at_call 18; refine (HG4.out _ _ _ S3.out).mono ?_; rintro e4 w4 ⟨rfl, HB4⟩)
            | ((with_reducible refine row_store _ _ _ _ _ _ _ ?_ ?_ (heap_alloc_new _ _) (row_size Try.sizePage HZS) ?_ HZ1.out ?_); (exact rfl); (exact rfl); (exact rfl); intro w5 G5 ch5))
          have K5 : Hid (Below w3.heap.size w3 w5) := HB4.out.trans ((ch5.below ((Below.refl _ w4).alloc (Nat.le_refl _) _) (Nat.le_refl _)).mono HB4.out.size)
          have B5 := Lib.hid (B3.out.trans (K5.out.mono B3.out.size))
          have R5 := Lib.hid ((K5.out.block _ (lt_of_block R3.out)).trans R3.out)
          have Q5 := Lib.hid ((K5.out.block _ (lt_of_block G3.out)).trans G3.out)
          have S5 := Lib.hid (S3.out.old K5.out)
          generalize w4.heap.size = g16 at *
          clear ch5 HB4 K5 B3 R3 S3 HG4 G3 G5
          go_upto_region 15 with (first
            | (go_at_call 21; refine (HCP.out _ _ _ S5.out).mono ?_; rintro e6 w6 ⟨v6, rfl, ho6, hb6⟩; have HO6 := Lib.hid ho6; have HL6 := Lib.hid hb6; clear ho6 hb6)
            | (at_builtin; refine wpList_append_own _ rfl _ _ 29 rfl w5.heap.size 5 i0 (.int .u8 0) 1 1 Try.underlying29 hii hz0 hz1 hz2 rfl (by decide) _ _ _ rfl (HO6.out.alloc _) ⟨w6.heap.size, 0, none⟩ 1 1 [.int .u8 x] rfl rfl (u8_cell _ _ _) (u8_one _) (by unfold maxLen; omega) (by omega) (by have := HL6.out.size; simp; omega) ?_; intro v7 w7 hown7 hgrow7 _; have HB7 : Hid (Below w5.heap.size w5 w7) := below_own HL6.out HL6.out.size HO6.out hgrow7; have HBS7 := own_bs (by rw [U8s_snoc] at hown7; exact hown7) HBX.out; obtain ⟨p7, c7, hv7, hbs7, hl7⟩ := HBS7; rw [hl7] at hv7; subst hv7; have HBS7 := Lib.hid hbs7; clear hown7 hgrow7 hbs7 hl7)
            | (go_at_call 18; refine (HG3.out _ _ _ HBS7.out).mono ?_; rintro e8 w8 ⟨rfl, HB8⟩)
            | ((with_reducible refine row_store _ _ _ _ _ _ _ ?_ ?_ (heap_alloc_new _ _) (row_size Try.sizePage HZS) ?_ HZ1.out ?_); (exact rfl); (exact rfl); (exact rfl); intro w9 G9 ch9))
          have K8 := Lib.hid (HB7.out.trans (HB8.out.mono HB7.out.size))
          have K9 : Hid (Below w5.heap.size w5 w9) := K8.out.trans ((ch9.below ((Below.refl _ w8).alloc (Nat.le_refl _) _) (Nat.le_refl _)).mono K8.out.size)
          have B9 := Lib.hid (B5.out.trans (K9.out.mono B5.out.size))
          have R9 := Lib.hid ((K9.out.block _ (lt_of_block R5.out)).trans R5.out)
          have Q9 := Lib.hid ((K9.out.block _ (lt_of_block Q5.out)).trans Q5.out)
          generalize w8.heap.size = g19 at *
          clear ch9 HB8 HB7 K9 K8 B5 R5 Q5 S5 HG3 HCP HO6 HL6 HBS7 G9 hz hzn
          go_wp2_with (first
            | ((with_reducible refine row_load_g _ _ w.heap.size _ _ _ _ ?_ ?_ R9.out Try.underlying28 ?_ hsz ?_); (exact rfl); (exact rfl); (exact rfl))
            | ((with_reducible refine row_load_g _ _ g13 _ _ _ _ ?_ ?_ Q9.out Try.underlying28 ?_ hsz ?_); (exact rfl); (exact rfl); (exact rfl))
            | (go_at_call 16; refine (known_any _).mono ?_; rintro e2 w10 ⟨rfl, HB2⟩; have B10 := Lib.hid (B9.out.trans (HB2.out.mono B9.out.size))))
          go_ret
          exact ⟨rfl, B10.out⟩
end Go.Proofs.Ytgfnpofoedambaa

/-
  The law DiskLasts walked.
-/
import Derived.Test.YtdkkoffmffallaaDkTa
namespace Go.Proofs.Ytdkkoffmffallaa
open Go.RowKit

set_option maxHeartbeats 4000000 in
set_option maxRecDepth 100000 in
theorem lasts_any (Rs : List (List Int)) (at_ : Int) (L : List Int) (tp lp : Option Addr) (cap lc : Nat) (_hn : In64 at_) (w : World) (hr : BRows w tp Rs) (hsz : ∀ R ∈ Rs, R.length ≤ 140737488355328) (hl : IAt w lp L) :
    Calls Try.prog 4 #[.slice tp Rs.length cap, .int .i64 at_, .slice lp L.length lc] w (YesSay w) := by
  have HR := Lib.hid hr
  have HL := Lib.hid hl
  have HSZ := Lib.hid hsz
  clear hr hl hsz
  by_cases h1 : (1000 : Int) < (L.length : Int)
  · go_enter Try.func4, Try.ntmps4
    go_wp2_with (first
      | (go_at_call 9; refine (new4 20 (by omega) (by omega) _).mono ?_; rintro e0 q0 ⟨d, lb, rb, cb, rfl, hd, hb0⟩; have H0 := Lib.hid (Sit.new hd.out hb0 (Below.refl _ w)); clear hd hb0)
      | (go_at_call 12; refine (known_any _).mono ?_; rintro ek qk ⟨rfl, hbk⟩; have HK := Lib.hid (H0.out.next hbk).old; clear hbk))
    go_ret
    exact ⟨rfl, HK.out⟩
  · have h1 : (L.length : Int) ≤ 1000 := by omega
    obtain ⟨A, HA⟩ : ∃ A, Hid (pk at_ 200 = A) := ⟨_, rfl⟩
    have hz0 := (zero_of_info Try.zero40).1
    have hz1 := (zero_of_info Try.zero41).1
    have hn0 := z40_ne
    have hn1 := z41_ne
    have HZ1 := Lib.hid z41_size
    have HO1 := Lib.hid z41_one
    go_enter Try.func4, Try.ntmps4
    go_upto_region 7 with (first
      | (go_at_call 9; refine (new4 20 (by omega) (by omega) _).mono ?_; rintro e0 q0 ⟨d, lb, rb, cb, rfl, hd, hb0⟩; have H0 := Lib.hid (Sit.new hd.out hb0 (Below.refl _ w)); clear hd hb0)
      | (go_at_call 11; refine (pick_at at_ 200 (by omega) (by omega) _).mono ?_; rw [HA.out]; rintro ep q1 ⟨rfl, rfl⟩)
      | ((with_reducible refine row_build0 _ _ Try.built41 ?_))
      | ((with_reducible refine row_store _ _ _ _ _ Z41 Z41 ?_ ?_ (al3_new q0 _ _ _) (row_size Try.size41 HZ1) rfl HO1.out ?_); (exact rfl); (exact rfl); intro w2 G2 ch))
    have H1 := Lib.hid (Las.start H0.out rfl rfl ch G2.out)
    clear ch G2 H0
    generalize q0.heap.size + 1 + 1 = g11 at H1 ⊢
    generalize q0.heap.size + 1 = g10 at H1 ⊢
    generalize q0.heap.size = g9 at H1 ⊢
    go_upto_region 8 with (fail)
    go_loopw [12, 13, 14] (fun v12 _ _ wr => ∃ (i : Nat) (m : Dk.M) (T : Nat → Prop) (Ls Nw : Nat → List Int) (D : Nat → Bool), i ≤ Rs.length ∧ i ≤ 200 ∧ v12 = .int .i64 i ∧ Hid (Dk.La m Ls Nw D i) ∧ Hid (Las w wr T d lb rb cb m g9 g10 g11 Ls Nw D)) (fun v12 _ _ _ => 200 - (intOf v12).toNat)
    case atStart => exact ⟨0, _, _, _, _, _, by omega, by omega, rfl, Lib.hid Dk.La.fresh, H1⟩
    case round =>
      clear H1 hz0 hz1 hn0 hn1
      obtain ⟨i, m, T, Ls, Nw, D, hi, hi1, rfl, HI, HS⟩ := hrel
      by_cases hlt : i < Rs.length ∧ i < 200
      · obtain ⟨tb, tf, rfl, htb, hrow⟩ := HR.out (by omega)
        obtain ⟨R, hR⟩ : ∃ R, Rs.getD i [] = R := ⟨_, rfl⟩
        obtain ⟨p, c, hc, hbs⟩ := hrow i hlt.1
        rw [hR] at hc hbs
        have hRl : R.length ≤ 140737488355328 := by
          have hm : R ∈ Rs := by
            rw [← hR, List.getD_eq_getElem?_getD, List.getElem?_eq_getElem hlt.1]
            exact List.getElem_mem hlt.1
          exact HSZ.out R hm
        have hc1 := (HS.out.s.old.cell (World.block_lt_of_cell? _ _ hc)).trans hc
        have hcap := hbs.cap
        have HBS : Hid (∀ y, Below w.heap.size w y → Bs y p c (beg R)) := fun y hy => (hbs.old hy).take _
        clear hrow hc hbs hR
        have hi0 : (0 : Int) ≤ (i : Int) := by omega
        have hil : (i : Int) < (Rs.length : Int) := by omega
        have hi200 : (i : Int) < 200 := by omega
        obtain ⟨t, ht⟩ : ∃ t, min R.length 100 = t := ⟨_, rfl⟩
        have htl : Hid ((beg R).length = t) := by show _ = t; rw [beg_len, ht]
        have hmn : min (R.length : Int) 100 = (t : Int) := by omega
        have ht0 : (0 : Int) ≤ (t : Int) := by omega
        have htc : (t : Int) ≤ (c : Int) := by omega
        have ht100 : t ≤ 100 := by omega
        clear ht
        go_upto_region 10 with (fail)
        go_quiet (fail)
        obtain ⟨y0, HY0⟩ : ∃ y, Hid (wr.drewN nq = y) := ⟨_, rfl⟩
        have H2 : Hid (Las w y0 T d lb rb cb m g9 g10 g11 Ls Nw D) := by show Las _ _ _ _ _ _ _ _ _ _ _ _ _ _; rw [← HY0.out]; exact HS.out.next (below_dn (Below.refl _ _) nq)
        have hc2 : y0.cell? ⟨tb, tf + i, none⟩ = some (.slice p R.length c) := by rw [← HY0.out]; exact hc1
        rw [HY0.out]
        clear HY0 HS hc1
        go_upto_region 12 with (fail)
        obtain ⟨K, hK⟩ : ∃ K, (i * 7 + R.length) % 20 = K := ⟨_, rfl⟩
        have hrem : ((i : Int) * 7 + (R.length : Int)) % 20 = (K : Int) := by omega
        have hK20 : K < 20 := by omega
        rw [hrem]
        have hk0 : (0 : Int) ≤ (K : Int) := by omega
        have hk20 : (K : Int) < 20 := by omega
        have htl' := htl.out
        have EA : Hid (Dk.wrE m (K : Int) (beg R) = 0 ∧ Dk.wrM m (K : Int) (beg R) = Dk.put m K (beg R)) := ⟨HI.out.u.wrE K hK20 _ (by omega), HI.out.u.wrM K hK20 _ (by omega)⟩
        have HW := Lib.hid HI.out.wr
        obtain ⟨m2, hm2⟩ : ∃ m2, Hid (Dk.put m K (beg R) = m2) := ⟨_, rfl⟩
        have HI2 : Hid (Dk.La m2 Ls (upd Nw K (beg R)) (upd D K true) (i + 1)) := by show Dk.La _ _ _ _ _; rw [← hm2.out]; exact HI.out.put hK20 _
        clear hrem hK htl' hmn hc2 hcap hRl HI
        go_upto_region 14 with (go_at_call 15; refine (write_any (K : Int) (beg R) p t c htl.out (by omega) (by have := HW.out; omega) _ H2.out.s.dk (HBS.out _ H2.out.s.old)).mono ?_; rw [EA.out.1, EA.out.2, hm2.out]; rintro e3 q3 ⟨rfl, hd3, hm3⟩; have H3 := Lib.hid (H2.out.write hd3.out hm3.out); clear hd3 hm3)
        have f10 := H3.out.b.froz K
        obtain ⟨_, _, c10, _⟩ := H3.out.b.cell hK20
        go_upto_region 15 with (fail)
        have H4 := Lib.hid (H3.out.set10 hK20 (v := .slice p t c) ⟨p, c, by rw [htl.out], HBS.out⟩)
        have f11 := H4.out.c.froz K
        have c11 := H4.out.c.cell hK20
        go_upto_region 16 with (fail)
        have H5 := Lib.hid (H4.out.set11 hK20 true)
        clear H2 H3 H4 f10 f11 c10 c11 HBS
        by_cases hA : i = A
        · have hA1 : (i : Int) = (A : Int) := by omega
          have EB : Hid (Dk.spendE m2 = 0 ∧ Dk.syM m2 = Dk.synced m2) := ⟨HI2.out.u.spendE, HI2.out.u.syM⟩
          go_upto_region 19 with (go_at_call 16; refine (sync_any _ H5.out.s.dk).mono ?_; rw [EB.out.1, EB.out.2]; rintro e6 q6 ⟨rfl, hd6, hm6⟩; have H6 := Lib.hid (H5.out.disk hd6.out hm6.out); clear hd6 hm6)
          obtain ⟨B10, hb1, hb2, _⟩ := H6.out.b.row
          obtain ⟨B9, ha1, ha2, _⟩ := H6.out.a.row
          have HG10 := Lib.hid hb1
          have HG9 := Lib.hid ha1
          have HA2 := Lib.hid hb2
          have HO := Lib.hid (H6.out.b.one hb1).2
          have HSS : Hid (B10.size = B9.size) := by show _ = _; rw [hb2, ha2]
          clear hb1 hb2 ha1 ha2 H5
          go_wp2_with (first
            | ((with_reducible refine row_load _ _ _ _ _ _ _ ?_ HG10.out Try.underlying40 ?_ (row_size Try.size40 HA2) ?_); (exact rfl); (exact rfl))
            | ((with_reducible refine row_build0 _ _ Try.built41 ?_))
            | ((with_reducible refine row_store _ _ _ _ _ _ _ ?_ ?_ HG9.out (row_size Try.size40 HA2) HSS.out HO.out ?_); (exact rfl); (exact rfl); intro w7 G7 ch7; have H7 := Lib.hid (H6.out.copy ch7 (fun B hB => by rw [HG10.out] at hB; cases hB; exact G7.out)); clear G7 ch7)
            | ((with_reducible refine row_store _ _ _ _ _ _ Z41 ?_ ?_ H7.out.c.row (row_size Try.size41 HZ1) (by rw [z41_size, bools_size]) HO1.out ?_); (exact rfl); (exact rfl); intro w8 G8 ch8; have H8 := Lib.hid (H7.out.clear ch8 G8.out); clear G8 ch8))
          exact ⟨⟨i + 1, _, _, _, _, _, by omega, by omega, by go_num, Lib.hid HI2.out.sync, H8⟩, by simp [intOf]; omega⟩
        · have hA1 : ((i : Int) == (A : Int)) = false := by simp; omega
          go_wp2
          exact ⟨⟨i + 1, _, _, _, _, _, by omega, by omega, by go_num, HI2, H5⟩, by simp [intOf]; omega⟩
      · have hstop : ((i : Int) < (Rs.length : Int) → (200 : Int) ≤ (i : Int)) := by omega
        clear hlt
        have HLT : Hid (∀ y, Below w.heap.size w y → IAt y lp L) := fun y hy => HL.out.old hy
        have HW := Lib.hid HI.out.wr
        obtain ⟨mC, hmC⟩ : ∃ mC, Hid (Dk.crash m (Dk.fate L) = mC) := ⟨_, rfl⟩
        have HPK : Hid (∀ k, k < 20 → Dk.peek mC k = Dk.want Ls Nw D (Dk.fate L) k) := by
          rw [← hmC.out]
          exact fun k hk => HI.out.crash (Dk.fate L) k hk
        have HUP : Hid (Dk.Up mC 20 ∧ (∀ j, mC.rd j = 0) ∧ Dk.dl mC = [] ∧ mC.wr ≤ 200) := by
          rw [← hmC.out]
          exact ⟨Dk.Up.crash HI.out.u.n _, fun j => by rw [(Dk.crash_rd _ _).1]; exact HI.out.rd j, HI.out.none _, by rw [(Dk.crash_rd _ _).2]; have := HI.out.wr; omega⟩
        by_cases hcase : (i : Int) < (Rs.length : Int)
        · have h200 := hstop hcase
          clear hstop
          go_upto_region 24 with (go_at_call 17; refine (crash_any L lp L.length lc rfl _ HS.out.s.dk (by have := HW.out; omega) (fun y hy => HLT.out y (hy.below HS.out.s.old HS.out.s.ks HS.out.s.old.size))).mono ?_; rw [hmC.out]; rintro e9 q9 ⟨rfl, hd9, hm9⟩; have H9 := Lib.hid (HS.out.disk hd9.out hm9.out); clear hd9 hm9)
          go_loopw [15, 16, 17, 18, 19] (fun v15 v16 _ _ _ wr => ∃ (k : Nat) (m : Dk.M) (T : Nat → Prop), k ≤ 20 ∧ v16 = .int .i64 k ∧ v15 = .int .i64 (Dk.cnt D k : Nat) ∧ Hid (Dk.Rdz m mC k) ∧ Hid (Las w wr T d lb rb cb m g9 g10 g11 Ls Nw D)) (fun _ v16 _ _ _ _ => 20 - (intOf v16).toNat)
          case atStart => exact ⟨0, mC, _, by omega, rfl, rfl, Lib.hid ⟨HUP.out.1, fun _ => rfl, rfl, rfl, fun j => by rw [HUP.out.2.1]; omega⟩, H9⟩
          case round =>
            clear HS H9 HI
            obtain ⟨k, m, T, hk, rfl, rfl, HG, HS⟩ := hrel
            by_cases hlt : k < 20
            · have hk0 : (0 : Int) ≤ (k : Int) := by omega
              have hk20 : (k : Int) < 20 := by omega
              obtain ⟨J, hJ⟩ : ∃ J, Hid (Dk.cnt D k = J) := ⟨_, rfl⟩
              have hJ20 : J ≤ 20 := by have := Dk.cnt_le D k; rw [hJ.out] at this; omega
              rw [hJ.out]
              have R1 := Lib.hid (HG.out.u.rd k hlt)
              obtain ⟨p9, c9, ep9, Hp9'⟩ := HS.out.a.cell hlt
              have Hp9 := Lib.hid Hp9'
              obtain ⟨p10, c10, ep10, Hp10'⟩ := HS.out.b.cell hlt
              have Hp10 := Lib.hid Hp10'
              have eD := HS.out.c.cell hlt
              clear Hp9' Hp10'
              cases hD : D k with
              | false =>
                rw [hD] at eD
                have HC : Hid (Dk.cnt D (k + 1) = J) := by show _ = _; rw [Dk.cnt_succ, hJ.out, hD]; rfl
                clear ep10 Hp10
                obtain ⟨X, hX'⟩ : ∃ X, Ls k = X := ⟨_, rfl⟩
                have hX : Hid (Dk.peek m k = X) := by
                  show _ = _
                  rw [HG.out.pk, HPK.out k hlt, Dk.want, hD, if_neg (by decide)]
                  exact hX'
                rw [hX'] at ep9 Hp9
                have HXp9 := Lib.hid Hp9.out
                clear Hp9
                have HXL : Hid (X.length ≤ 1024) := by
                  show X.length ≤ _
                  rw [← hX.out]
                  exact HS.out.s.dk.peek_le k
                clear hX'
                go_wp2_with (first
                  | (go_at_call 18; refine (read_any (k : Int) _ HS.out.s.dk (fun j => Nat.le_trans (HG.out.rd j) (by omega))).mono ?_; rintro e4 q4 ⟨v4, rfl, hv4, hd4, hm4⟩; rw [R1.out.2.1, hX.out] at hv4; obtain ⟨p4, c4, rfl, hb4⟩ := rd_bs hv4; rw [R1.out.1]; rw [R1.out.2.2] at hd4; have H4 := Lib.hid (HS.out.disk hd4.out hm4.out); have P4 := Lib.hid hb4; clear hv4 hd4 hm4 hb4)
                  | (go_at_call 19; refine (same_any X p4 p9 _ _ c4 c9 rfl rfl _ P4.out.bat (HXp9.out _ H4.out.s.old).bat (by have := HXL.out; omega)).mono ?_; rintro e5 q5 ⟨rfl, hb5⟩; have H5 := Lib.hid (H4.out.next hb5); clear hb5))
                exact ⟨⟨k + 1, _, _, by omega, by go_num, by rw [HC.out], Lib.hid (HG.out.next k), H5⟩, by simp [intOf]; omega⟩
              | true =>
                rw [hD] at eD
                have HC : Hid (Dk.cnt D (k + 1) = J + 1) := by show _ = _; rw [Dk.cnt_succ, hJ.out, hD]; rfl
                by_cases hJL : J < L.length
                · obtain ⟨ab, ao, rfl, hcell⟩ := HL.out (by omega)
                  have cj0 := hcell J hJL
                  have cj := (HS.out.s.old.cell (World.block_lt_of_cell? _ _ cj0)).trans cj0
                  clear hcell cj0
                  have hJi : (J : Int) < (L.length : Int) := by omega
                  have hJ0 : (0 : Int) ≤ (J : Int) := by omega
                  obtain ⟨x, hx⟩ : ∃ x, L.getD J 0 = x := ⟨_, rfl⟩
                  rw [hx] at cj
                  by_cases hx0 : x = 0
                  · subst hx0
                    have hF : Dk.fate L (Dk.cnt D k) = false := by rw [hJ.out, Dk.fate, hx]; simp
                    clear ep10 Hp10
                    obtain ⟨X, hX'⟩ : ∃ X, Ls k = X := ⟨_, rfl⟩
                    have hX : Hid (Dk.peek m k = X) := by
                      show _ = _
                      rw [HG.out.pk, HPK.out k hlt, Dk.want, hD, if_pos rfl, hF, if_neg (by decide)]
                      exact hX'
                    rw [hX'] at ep9 Hp9
                    have HXp9 := Lib.hid Hp9.out
                    clear Hp9
                    have HXL : Hid (X.length ≤ 1024) := by
                      show X.length ≤ _
                      rw [← hX.out]
                      exact HS.out.s.dk.peek_le k
                    clear hX'
                    go_wp2_with (first
                      | (go_at_call 18; refine (read_any (k : Int) _ HS.out.s.dk (fun j => Nat.le_trans (HG.out.rd j) (by omega))).mono ?_; rintro e4 q4 ⟨v4, rfl, hv4, hd4, hm4⟩; rw [R1.out.2.1, hX.out] at hv4; obtain ⟨p4, c4, rfl, hb4⟩ := rd_bs hv4; rw [R1.out.1]; rw [R1.out.2.2] at hd4; have H4 := Lib.hid (HS.out.disk hd4.out hm4.out); have P4 := Lib.hid hb4; clear hv4 hd4 hm4 hb4)
                      | (go_at_call 19; refine (same_any X p4 p9 _ _ c4 c9 rfl rfl _ P4.out.bat (HXp9.out _ H4.out.s.old).bat (by have := HXL.out; omega)).mono ?_; rintro e5 q5 ⟨rfl, hb5⟩; have H5 := Lib.hid (H4.out.next hb5); clear hb5))
                    exact ⟨⟨k + 1, _, _, by omega, by go_num, by rw [HC.out]; go_num, Lib.hid (HG.out.next k), H5⟩, by simp [intOf]; omega⟩
                  · have hF : Dk.fate L (Dk.cnt D k) = true := by rw [hJ.out, Dk.fate, hx]; simp [hJL, hx0]
                    have hxb : (x == 0) = false := by simp [hx0]
                    obtain ⟨X, hX'⟩ : ∃ X, Nw k = X := ⟨_, rfl⟩
                    have hX : Hid (Dk.peek m k = X) := by
                      show _ = _
                      rw [HG.out.pk, HPK.out k hlt, Dk.want, hD, if_pos rfl, hF, if_pos rfl]
                      exact hX'
                    rw [hX'] at ep10 Hp10
                    have HXp10 := Lib.hid Hp10.out
                    clear Hp10
                    have HXL : Hid (X.length ≤ 1024) := by
                      show X.length ≤ _
                      rw [← hX.out]
                      exact HS.out.s.dk.peek_le k
                    clear hX'
                    go_wp2_with (first
                      | (go_at_call 18; refine (read_any (k : Int) _ HS.out.s.dk (fun j => Nat.le_trans (HG.out.rd j) (by omega))).mono ?_; rintro e4 q4 ⟨v4, rfl, hv4, hd4, hm4⟩; rw [R1.out.2.1, hX.out] at hv4; obtain ⟨p4, c4, rfl, hb4⟩ := rd_bs hv4; rw [R1.out.1]; rw [R1.out.2.2] at hd4; have H4 := Lib.hid (HS.out.disk hd4.out hm4.out); have P4 := Lib.hid hb4; clear hv4 hd4 hm4 hb4)
                      | (go_at_call 19; refine (same_any X p4 p10 _ _ c4 c10 rfl rfl _ P4.out.bat (HXp10.out _ H4.out.s.old).bat (by have := HXL.out; omega)).mono ?_; rintro e5 q5 ⟨rfl, hb5⟩; have H5 := Lib.hid (H4.out.next hb5); clear hb5))
                    exact ⟨⟨k + 1, _, _, by omega, by go_num, by rw [HC.out]; go_num, Lib.hid (HG.out.next k), H5⟩, by simp [intOf]; omega⟩
                · have hF : Dk.fate L (Dk.cnt D k) = false := by rw [hJ.out, Dk.fate]; simp [hJL]
                  have hJi : (L.length : Int) ≤ (J : Int) := by omega
                  have hJ0 : (0 : Int) ≤ (J : Int) := by omega
                  clear ep10 Hp10
                  obtain ⟨X, hX'⟩ : ∃ X, Ls k = X := ⟨_, rfl⟩
                  have hX : Hid (Dk.peek m k = X) := by
                    show _ = _
                    rw [HG.out.pk, HPK.out k hlt, Dk.want, hD, if_pos rfl, hF, if_neg (by decide)]
                    exact hX'
                  rw [hX'] at ep9 Hp9
                  have HXp9 := Lib.hid Hp9.out
                  clear Hp9
                  have HXL : Hid (X.length ≤ 1024) := by
                    show X.length ≤ _
                    rw [← hX.out]
                    exact HS.out.s.dk.peek_le k
                  clear hX'
                  go_wp2_with (first
                    | (go_at_call 18; refine (read_any (k : Int) _ HS.out.s.dk (fun j => Nat.le_trans (HG.out.rd j) (by omega))).mono ?_; rintro e4 q4 ⟨v4, rfl, hv4, hd4, hm4⟩; rw [R1.out.2.1, hX.out] at hv4; obtain ⟨p4, c4, rfl, hb4⟩ := rd_bs hv4; rw [R1.out.1]; rw [R1.out.2.2] at hd4; have H4 := Lib.hid (HS.out.disk hd4.out hm4.out); have P4 := Lib.hid hb4; clear hv4 hd4 hm4 hb4)
                    | (go_at_call 19; refine (same_any X p4 p9 _ _ c4 c9 rfl rfl _ P4.out.bat (HXp9.out _ H4.out.s.old).bat (by have := HXL.out; omega)).mono ?_; rintro e5 q5 ⟨rfl, hb5⟩; have H5 := Lib.hid (H4.out.next hb5); clear hb5))
                  exact ⟨⟨k + 1, _, _, by omega, by go_num, by rw [HC.out]; go_num, Lib.hid (HG.out.next k), H5⟩, by simp [intOf]; omega⟩
            · obtain rfl : k = 20 := by omega
              clear hlt
              go_wp2_with (first
                | (go_at_call 20; refine (dirty_any _ HS.out.s.dk (by rw [HG.out.wr]; have := HUP.out.2.2.2; omega)).mono ?_; rintro e7 q7 ⟨v7, rfl, ho7, hb7⟩; have ho7' := ho7.out; rw [HG.out.dl, HUP.out.2.2.1] at ho7'; have ho8 : q7.ownsRow _ 3 1 v7 0 (I64s []) := ho7'; obtain ⟨a7, c7, rfl⟩ := own_len ho8; have H7 := Lib.hid (HS.out.next hb7); clear ho7 ho7' ho8 hb7)
                | (go_at_call 21; refine (down_any _ H7.out.s.dk).mono ?_; rw [HG.out.u.down]; rintro e8 q8 ⟨rfl, rfl⟩)
                | (go_at_call 12; refine (known_any _).mono ?_; rintro ek qk ⟨rfl, hbk⟩; have HK := Lib.hid (H7.out.s.next hbk).old; clear hbk))
              go_ret
              exact ⟨rfl, HK.out⟩
        · clear hstop
          go_upto_region 24 with (go_at_call 17; refine (crash_any L lp L.length lc rfl _ HS.out.s.dk (by have := HW.out; omega) (fun y hy => HLT.out y (hy.below HS.out.s.old HS.out.s.ks HS.out.s.old.size))).mono ?_; rw [hmC.out]; rintro e9 q9 ⟨rfl, hd9, hm9⟩; have H9 := Lib.hid (HS.out.disk hd9.out hm9.out); clear hd9 hm9)
          go_loopw [15, 16, 17, 18, 19] (fun v15 v16 _ _ _ wr => ∃ (k : Nat) (m : Dk.M) (T : Nat → Prop), k ≤ 20 ∧ v16 = .int .i64 k ∧ v15 = .int .i64 (Dk.cnt D k : Nat) ∧ Hid (Dk.Rdz m mC k) ∧ Hid (Las w wr T d lb rb cb m g9 g10 g11 Ls Nw D)) (fun _ v16 _ _ _ _ => 20 - (intOf v16).toNat)
          case atStart => exact ⟨0, mC, _, by omega, rfl, rfl, Lib.hid ⟨HUP.out.1, fun _ => rfl, rfl, rfl, fun j => by rw [HUP.out.2.1]; omega⟩, H9⟩
          case round =>
            clear HS H9 HI
            obtain ⟨k, m, T, hk, rfl, rfl, HG, HS⟩ := hrel
            by_cases hlt : k < 20
            · have hk0 : (0 : Int) ≤ (k : Int) := by omega
              have hk20 : (k : Int) < 20 := by omega
              obtain ⟨J, hJ⟩ : ∃ J, Hid (Dk.cnt D k = J) := ⟨_, rfl⟩
              have hJ20 : J ≤ 20 := by have := Dk.cnt_le D k; rw [hJ.out] at this; omega
              rw [hJ.out]
              have R1 := Lib.hid (HG.out.u.rd k hlt)
              obtain ⟨p9, c9, ep9, Hp9'⟩ := HS.out.a.cell hlt
              have Hp9 := Lib.hid Hp9'
              obtain ⟨p10, c10, ep10, Hp10'⟩ := HS.out.b.cell hlt
              have Hp10 := Lib.hid Hp10'
              have eD := HS.out.c.cell hlt
              clear Hp9' Hp10'
              cases hD : D k with
              | false =>
                rw [hD] at eD
                have HC : Hid (Dk.cnt D (k + 1) = J) := by show _ = _; rw [Dk.cnt_succ, hJ.out, hD]; rfl
                clear ep10 Hp10
                obtain ⟨X, hX'⟩ : ∃ X, Ls k = X := ⟨_, rfl⟩
                have hX : Hid (Dk.peek m k = X) := by
                  show _ = _
                  rw [HG.out.pk, HPK.out k hlt, Dk.want, hD, if_neg (by decide)]
                  exact hX'
                rw [hX'] at ep9 Hp9
                have HXp9 := Lib.hid Hp9.out
                clear Hp9
                have HXL : Hid (X.length ≤ 1024) := by
                  show X.length ≤ _
                  rw [← hX.out]
                  exact HS.out.s.dk.peek_le k
                clear hX'
                go_wp2_with (first
                  | (go_at_call 18; refine (read_any (k : Int) _ HS.out.s.dk (fun j => Nat.le_trans (HG.out.rd j) (by omega))).mono ?_; rintro e4 q4 ⟨v4, rfl, hv4, hd4, hm4⟩; rw [R1.out.2.1, hX.out] at hv4; obtain ⟨p4, c4, rfl, hb4⟩ := rd_bs hv4; rw [R1.out.1]; rw [R1.out.2.2] at hd4; have H4 := Lib.hid (HS.out.disk hd4.out hm4.out); have P4 := Lib.hid hb4; clear hv4 hd4 hm4 hb4)
                  | (go_at_call 19; refine (same_any X p4 p9 _ _ c4 c9 rfl rfl _ P4.out.bat (HXp9.out _ H4.out.s.old).bat (by have := HXL.out; omega)).mono ?_; rintro e5 q5 ⟨rfl, hb5⟩; have H5 := Lib.hid (H4.out.next hb5); clear hb5))
                exact ⟨⟨k + 1, _, _, by omega, by go_num, by rw [HC.out], Lib.hid (HG.out.next k), H5⟩, by simp [intOf]; omega⟩
              | true =>
                rw [hD] at eD
                have HC : Hid (Dk.cnt D (k + 1) = J + 1) := by show _ = _; rw [Dk.cnt_succ, hJ.out, hD]; rfl
                by_cases hJL : J < L.length
                · obtain ⟨ab, ao, rfl, hcell⟩ := HL.out (by omega)
                  have cj0 := hcell J hJL
                  have cj := (HS.out.s.old.cell (World.block_lt_of_cell? _ _ cj0)).trans cj0
                  clear hcell cj0
                  have hJi : (J : Int) < (L.length : Int) := by omega
                  have hJ0 : (0 : Int) ≤ (J : Int) := by omega
                  obtain ⟨x, hx⟩ : ∃ x, L.getD J 0 = x := ⟨_, rfl⟩
                  rw [hx] at cj
                  by_cases hx0 : x = 0
                  · subst hx0
                    have hF : Dk.fate L (Dk.cnt D k) = false := by rw [hJ.out, Dk.fate, hx]; simp
                    clear ep10 Hp10
                    obtain ⟨X, hX'⟩ : ∃ X, Ls k = X := ⟨_, rfl⟩
                    have hX : Hid (Dk.peek m k = X) := by
                      show _ = _
                      rw [HG.out.pk, HPK.out k hlt, Dk.want, hD, if_pos rfl, hF, if_neg (by decide)]
                      exact hX'
                    rw [hX'] at ep9 Hp9
                    have HXp9 := Lib.hid Hp9.out
                    clear Hp9
                    have HXL : Hid (X.length ≤ 1024) := by
                      show X.length ≤ _
                      rw [← hX.out]
                      exact HS.out.s.dk.peek_le k
                    clear hX'
                    go_wp2_with (first
                      | (go_at_call 18; refine (read_any (k : Int) _ HS.out.s.dk (fun j => Nat.le_trans (HG.out.rd j) (by omega))).mono ?_; rintro e4 q4 ⟨v4, rfl, hv4, hd4, hm4⟩; rw [R1.out.2.1, hX.out] at hv4; obtain ⟨p4, c4, rfl, hb4⟩ := rd_bs hv4; rw [R1.out.1]; rw [R1.out.2.2] at hd4; have H4 := Lib.hid (HS.out.disk hd4.out hm4.out); have P4 := Lib.hid hb4; clear hv4 hd4 hm4 hb4)
                      | (go_at_call 19; refine (same_any X p4 p9 _ _ c4 c9 rfl rfl _ P4.out.bat (HXp9.out _ H4.out.s.old).bat (by have := HXL.out; omega)).mono ?_; rintro e5 q5 ⟨rfl, hb5⟩; have H5 := Lib.hid (H4.out.next hb5); clear hb5))
                    exact ⟨⟨k + 1, _, _, by omega, by go_num, by rw [HC.out]; go_num, Lib.hid (HG.out.next k), H5⟩, by simp [intOf]; omega⟩
                  · have hF : Dk.fate L (Dk.cnt D k) = true := by rw [hJ.out, Dk.fate, hx]; simp [hJL, hx0]
                    have hxb : (x == 0) = false := by simp [hx0]
                    obtain ⟨X, hX'⟩ : ∃ X, Nw k = X := ⟨_, rfl⟩
                    have hX : Hid (Dk.peek m k = X) := by
                      show _ = _
                      rw [HG.out.pk, HPK.out k hlt, Dk.want, hD, if_pos rfl, hF, if_pos rfl]
                      exact hX'
                    rw [hX'] at ep10 Hp10
                    have HXp10 := Lib.hid Hp10.out
                    clear Hp10
                    have HXL : Hid (X.length ≤ 1024) := by
                      show X.length ≤ _
                      rw [← hX.out]
                      exact HS.out.s.dk.peek_le k
                    clear hX'
                    go_wp2_with (first
                      | (go_at_call 18; refine (read_any (k : Int) _ HS.out.s.dk (fun j => Nat.le_trans (HG.out.rd j) (by omega))).mono ?_; rintro e4 q4 ⟨v4, rfl, hv4, hd4, hm4⟩; rw [R1.out.2.1, hX.out] at hv4; obtain ⟨p4, c4, rfl, hb4⟩ := rd_bs hv4; rw [R1.out.1]; rw [R1.out.2.2] at hd4; have H4 := Lib.hid (HS.out.disk hd4.out hm4.out); have P4 := Lib.hid hb4; clear hv4 hd4 hm4 hb4)
                      | (go_at_call 19; refine (same_any X p4 p10 _ _ c4 c10 rfl rfl _ P4.out.bat (HXp10.out _ H4.out.s.old).bat (by have := HXL.out; omega)).mono ?_; rintro e5 q5 ⟨rfl, hb5⟩; have H5 := Lib.hid (H4.out.next hb5); clear hb5))
                    exact ⟨⟨k + 1, _, _, by omega, by go_num, by rw [HC.out]; go_num, Lib.hid (HG.out.next k), H5⟩, by simp [intOf]; omega⟩
                · have hF : Dk.fate L (Dk.cnt D k) = false := by rw [hJ.out, Dk.fate]; simp [hJL]
                  have hJi : (L.length : Int) ≤ (J : Int) := by omega
                  have hJ0 : (0 : Int) ≤ (J : Int) := by omega
                  clear ep10 Hp10
                  obtain ⟨X, hX'⟩ : ∃ X, Ls k = X := ⟨_, rfl⟩
                  have hX : Hid (Dk.peek m k = X) := by
                    show _ = _
                    rw [HG.out.pk, HPK.out k hlt, Dk.want, hD, if_pos rfl, hF, if_neg (by decide)]
                    exact hX'
                  rw [hX'] at ep9 Hp9
                  have HXp9 := Lib.hid Hp9.out
                  clear Hp9
                  have HXL : Hid (X.length ≤ 1024) := by
                    show X.length ≤ _
                    rw [← hX.out]
                    exact HS.out.s.dk.peek_le k
                  clear hX'
                  go_wp2_with (first
                    | (go_at_call 18; refine (read_any (k : Int) _ HS.out.s.dk (fun j => Nat.le_trans (HG.out.rd j) (by omega))).mono ?_; rintro e4 q4 ⟨v4, rfl, hv4, hd4, hm4⟩; rw [R1.out.2.1, hX.out] at hv4; obtain ⟨p4, c4, rfl, hb4⟩ := rd_bs hv4; rw [R1.out.1]; rw [R1.out.2.2] at hd4; have H4 := Lib.hid (HS.out.disk hd4.out hm4.out); have P4 := Lib.hid hb4; clear hv4 hd4 hm4 hb4)
                    | (go_at_call 19; refine (same_any X p4 p9 _ _ c4 c9 rfl rfl _ P4.out.bat (HXp9.out _ H4.out.s.old).bat (by have := HXL.out; omega)).mono ?_; rintro e5 q5 ⟨rfl, hb5⟩; have H5 := Lib.hid (H4.out.next hb5); clear hb5))
                  exact ⟨⟨k + 1, _, _, by omega, by go_num, by rw [HC.out]; go_num, Lib.hid (HG.out.next k), H5⟩, by simp [intOf]; omega⟩
            · obtain rfl : k = 20 := by omega
              clear hlt
              go_wp2_with (first
                | (go_at_call 20; refine (dirty_any _ HS.out.s.dk (by rw [HG.out.wr]; have := HUP.out.2.2.2; omega)).mono ?_; rintro e7 q7 ⟨v7, rfl, ho7, hb7⟩; have ho7' := ho7.out; rw [HG.out.dl, HUP.out.2.2.1] at ho7'; have ho8 : q7.ownsRow _ 3 1 v7 0 (I64s []) := ho7'; obtain ⟨a7, c7, rfl⟩ := own_len ho8; have H7 := Lib.hid (HS.out.next hb7); clear ho7 ho7' ho8 hb7)
                | (go_at_call 21; refine (down_any _ H7.out.s.dk).mono ?_; rw [HG.out.u.down]; rintro e8 q8 ⟨rfl, rfl⟩)
                | (go_at_call 12; refine (known_any _).mono ?_; rintro ek qk ⟨rfl, hbk⟩; have HK := Lib.hid (H7.out.s.next hbk).old; clear hbk))
              go_ret
              exact ⟨rfl, HK.out⟩
end Go.Proofs.Ytdkkoffmffallaa

/-
  The law DiskTampered walked.
-/
import Derived.Test.YtdkkoffmffallaaDkR
namespace Go.Proofs.Ytdkkoffmffallaa
open Go.RowKit

namespace Dk
/-- Two disks that differ in one sector alone. -/
structure Lk (m m' : M) (at_ : Nat) (i : Nat) : Prop where
  u : Up m 9
  u' : Up m' 9
  lk : ∀ j, j ≠ at_ → m.ca j = m'.ca j ∧ m.ls j = m'.ls j
  no : m'.ca at_ = none
  wr : m.wr ≤ i ∧ m'.wr ≤ i
  rd : (∀ j, m.rd j = 0) ∧ ∀ j, m'.rd j = 0
theorem Lk.both {m m' : M} {a i k : Nat} {L : List Int} (h : Lk m m' a i) (hk : k ≠ a) : Lk (put m k L) (put m' k L) a (i + 1) := by
  refine ⟨h.u.put k L, h.u'.put k L, fun j hj => ?_, ?_, ⟨by have := h.wr.1; show m.wr + 1 ≤ _; omega, by have := h.wr.2; show m'.wr + 1 ≤ _; omega⟩, h.rd⟩
  · show upd m.ca k _ j = upd m'.ca k _ j ∧ _
    refine ⟨?_, (h.lk j hj).2⟩
    by_cases hjk : j = k
    · subst hjk; rw [upd_same, upd_same]
    · rw [upd_other _ _ hjk, upd_other _ _ hjk]; exact (h.lk j hj).1
  · show upd m'.ca k _ a = none
    rw [upd_other _ _ (fun e => hk e.symm)]
    exact h.no
theorem Lk.one {m m' : M} {a i : Nat} {L : List Int} (h : Lk m m' a i) : Lk (put m a L) m' a (i + 1) := by
  refine ⟨h.u.put a L, h.u', fun j hj => ?_, h.no, ⟨by have := h.wr.1; show m.wr + 1 ≤ _; omega, by have := h.wr.2; omega⟩, h.rd⟩
  show upd m.ca a _ j = _ ∧ _
  rw [upd_other _ _ hj]
  exact h.lk j hj
theorem Lk.dl {m m' : M} {a i : Nat} (b : List Int) (h : Lk m m' a i) : dl (over m a b) = dl m' := by
  unfold Dk.dl
  show (List.range m.n).filter (fun i => (upd m.ca a none i).isSome) = _
  rw [h.u.n, h.u'.n]
  congr 1
  funext j
  by_cases hj : j = a
  · subst hj; rw [upd_same, h.no]
  · rw [upd_other _ _ hj, (h.lk j hj).1]
theorem Lk.crash {m m' : M} {a i : Nat} (b : List Int) (f : Nat → Bool) (h : Lk m m' a i) : (∀ j, j ≠ a → peek (crash (over m a b) f) j = peek (crash m' f) j) ∧ peek (crash (over m a b) f) a = b := by
  constructor
  · intro j hj
    have h1 := crash_like (f := f) (j := j) (h.dl b) (show upd m.ca a none j = _ by rw [upd_other _ _ hj]; exact (h.lk j hj).1) (show upd m.ls a b j = _ by rw [upd_other _ _ hj]; exact (h.lk j hj).2)
    unfold peek
    rw [h1.1, h1.2]
  · have h1 := crash_out (m := over m a b) (f := f) (j := a) (show upd m.ca a none a = none by rw [upd_same])
    unfold peek
    rw [h1.1, h1.2]
    show upd m.ls a b a = b
    rw [upd_same]
end Dk
set_option maxHeartbeats 4000000 in
set_option maxRecDepth 100000 in
theorem tampered_any (Rs : List (List Int)) (at_ : Int) (b : List Int) (L : List Int) (tp bp lp : Option Addr) (cap bc lc : Nat) (_hn : In64 at_) (w : World) (hr : BRows w tp Rs) (hb : Bs w bp bc b) (hl : IAt w lp L) :
    Calls Try.prog 8 #[.slice tp Rs.length cap, .int .i64 at_, .slice bp b.length bc, .slice lp L.length lc] w (YesSay w) := by
  have HR := Lib.hid hr
  have HB := Lib.hid hb
  have HL := Lib.hid hl
  clear hr hb hl
  by_cases hlong : (1000 : Int) < (L.length : Int) ∨ (1024 : Int) < (b.length : Int)
  · by_cases h1 : (1000 : Int) < (L.length : Int)
    · go_enter Try.func8, Try.ntmps8
      go_wp2_with (first
        | (go_at_call 9; refine (new4 9 (by omega) (by omega) q0).mono ?_; rintro e1 q1 ⟨d', lb', rb', cb', rfl, hd, hb1⟩; have H1 := Lib.hid (H0.out.next hb1); clear hd hb1)
        | (go_at_call 9; refine (new4 9 (by omega) (by omega) _).mono ?_; rintro e0 q0 ⟨d, lb, rb, cb, rfl, hd, hb0⟩; have H0 := Lib.hid (Sit.new hd.out hb0 (Below.refl _ w)); clear hd hb0)
        | (go_at_call 12; refine (known_any _).mono ?_; rintro ek qk ⟨rfl, hbk⟩; have HK := Lib.hid (H1.out.next hbk).old; clear hbk))
      go_ret
      exact ⟨rfl, HK.out⟩
    · have h2 : (1024 : Int) < (b.length : Int) := by omega
      go_enter Try.func8, Try.ntmps8
      go_wp2_with (first
        | (go_at_call 9; refine (new4 9 (by omega) (by omega) q0).mono ?_; rintro e1 q1 ⟨d', lb', rb', cb', rfl, hd, hb1⟩; have H1 := Lib.hid (H0.out.next hb1); clear hd hb1)
        | (go_at_call 9; refine (new4 9 (by omega) (by omega) _).mono ?_; rintro e0 q0 ⟨d, lb, rb, cb, rfl, hd, hb0⟩; have H0 := Lib.hid (Sit.new hd.out hb0 (Below.refl _ w)); clear hd hb0)
        | (go_at_call 12; refine (known_any _).mono ?_; rintro ek qk ⟨rfl, hbk⟩; have HK := Lib.hid (H1.out.next hbk).old; clear hbk))
      go_ret
      exact ⟨rfl, HK.out⟩
  · have h1 : (L.length : Int) ≤ 1000 := by omega
    have h2 : (b.length : Int) ≤ 1024 := by omega
    clear hlong
    obtain ⟨A, HA⟩ : ∃ A, Hid (pk at_ 9 = A) := ⟨_, rfl⟩
    have HA9 : Hid (A < 9) := by show A < _; rw [← HA.out]; have := pk_lt at_ 9 (by omega); omega
    go_enter Try.func8, Try.ntmps8
    go_upto_region 7 with (first
      | (go_at_call 9; refine (new4 9 (by omega) (by omega) q0).mono ?_; rintro e1 q1 ⟨d', lb', rb', cb', rfl, hd, hb1⟩; have H1 := Lib.hid (Two.new H0.out hb1 hd.out); clear hd hb1)
      | (go_at_call 9; refine (new4 9 (by omega) (by omega) _).mono ?_; rintro e0 q0 ⟨d, lb, rb, cb, rfl, hd, hb0⟩; have H0 := Lib.hid (Sit.new hd.out hb0 (Below.refl _ w)); clear hd hb0)
      | (go_at_call 11; refine (pick_at at_ 9 (by omega) (by omega) _).mono ?_; rw [HA.out]; rintro ep q1 ⟨rfl, rfl⟩))
    go_loopw [13, 14] (fun v13 _ wr => ∃ (i : Nat) (m m' : Dk.M) (T T' : Nat → Prop), i ≤ Rs.length ∧ i ≤ 40 ∧ v13 = .int .i64 i ∧ Hid (Dk.Lk m m' A i) ∧ Hid (Two w wr T d lb rb cb m T' d' lb' rb' cb' m')) (fun v13 _ _ => 40 - (intOf v13).toNat)
    case atStart => exact ⟨0, _, _, _, _, by omega, by omega, rfl, Lib.hid ⟨Dk.Up.fresh 9, Dk.Up.fresh 9, fun _ _ => ⟨rfl, rfl⟩, rfl, ⟨Nat.le_refl _, Nat.le_refl _⟩, ⟨fun _ => rfl, fun _ => rfl⟩⟩, H1⟩
    case round =>
      clear H0 H1
      obtain ⟨i, m, m', T, T', hi, hi1, rfl, HI, HS⟩ := hrel
      by_cases hlt : i < Rs.length ∧ i < 40
      · obtain ⟨tb, tf, rfl, htb, hrow⟩ := HR.out (by omega)
        obtain ⟨R, hR⟩ : ∃ R, Rs.getD i [] = R := ⟨_, rfl⟩
        obtain ⟨p, c, hc, hbs⟩ := hrow i hlt.1
        rw [hR] at hc hbs
        have hc1 := (HS.out.a.old.cell (World.block_lt_of_cell? _ _ hc)).trans hc
        have hcap := hbs.cap
        have HBS : Hid (∀ y, Below w.heap.size w y → Bs y p c (beg R)) := fun y hy => (hbs.old hy).take _
        clear hrow hc hbs hR
        have hi0 : (0 : Int) ≤ (i : Int) := by omega
        have hil : (i : Int) < (Rs.length : Int) := by omega
        have hi40 : (i : Int) < 40 := by omega
        obtain ⟨t, ht⟩ : ∃ t, min R.length 100 = t := ⟨_, rfl⟩
        have htl : Hid ((beg R).length = t) := by show _ = t; rw [beg_len, ht]
        have hmn : min (R.length : Int) 100 = (t : Int) := by omega
        have ht0 : (0 : Int) ≤ (t : Int) := by omega
        have htc : (t : Int) ≤ (c : Int) := by omega
        have ht100 : t ≤ 100 := by omega
        clear ht
        go_upto_region 9 with (fail)
        go_quiet (fail)
        obtain ⟨y0, HY0⟩ : ∃ y, Hid (wr.drewN nq = y) := ⟨_, rfl⟩
        have H2 : Hid (Two w y0 T d lb rb cb m T' d' lb' rb' cb' m') := by show Two _ _ _ _ _ _ _ _ _ _ _ _ _ _; rw [← HY0.out]; exact HS.out.next (below_dn (Below.refl _ _) nq)
        rw [HY0.out]
        clear HY0 HS hc1
        have hrem : (i : Int) % 9 = ((i % 9 : Nat) : Int) := by omega
        have hi9 : i % 9 < 9 := by omega
        have htl' := htl.out
        have EA : Hid (Dk.wrE m ((i : Int) % 9) (beg R) = 0 ∧ Dk.wrM m ((i : Int) % 9) (beg R) = Dk.put m (i % 9) (beg R)) := by
          rw [hrem]
          exact ⟨HI.out.u.wrE _ hi9 _ (by omega), HI.out.u.wrM _ hi9 _ (by omega)⟩
        have EB : Hid (Dk.wrE m' ((i : Int) % 9) (beg R) = 0 ∧ Dk.wrM m' ((i : Int) % 9) (beg R) = Dk.put m' (i % 9) (beg R)) := by
          rw [hrem]
          exact ⟨HI.out.u'.wrE _ hi9 _ (by omega), HI.out.u'.wrM _ hi9 _ (by omega)⟩
        have HW := Lib.hid HI.out.wr
        clear hrem htl' hmn
        go_upto_region 11 with (go_at_call 15; refine (write_any ((i : Int) % 9) (beg R) p t c htl.out (by omega) (by have := HW.out; omega) _ H2.out.a.dk (HBS.out _ H2.out.a.old)).mono ?_; rw [EA.out.1, EA.out.2]; rintro e3 q3 ⟨rfl, hd3, hm3⟩; have H3 := Lib.hid (H2.out.write hd3.out hm3.out); clear hd3 hm3)
        by_cases hk : i % 9 = A
        · have hk1 : (i : Int) % 9 = (A : Int) := by omega
          go_wp2
          exact ⟨⟨i + 1, _, _, _, _, by omega, by omega, by go_num, Lib.hid (by rw [hk]; exact HI.out.one), H3⟩, by simp [intOf]; omega⟩
        · have hk1 : ((i : Int) % 9 == (A : Int)) = false := by simp; omega
          have hk2 : ((i : Int) % 9 != (A : Int)) = true := by simp; omega
          go_wp2_with (go_at_call 15; refine (write_any ((i : Int) % 9) (beg R) p t c htl.out (by omega) (by have := HW.out; omega) _ H3.out.b.dk (HBS.out _ H3.out.b.old)).mono ?_; rw [EB.out.1, EB.out.2]; rintro e4 q4 ⟨rfl, hd4, hm4⟩; have H4 := Lib.hid (H3.out.sw.write hd4.out hm4.out).sw; clear hd4 hm4)
          exact ⟨⟨i + 1, _, _, _, _, by omega, by omega, by go_num, Lib.hid (HI.out.both hk), H4⟩, by simp [intOf]; omega⟩
      · have hstop : ((i : Int) < (Rs.length : Int) → (40 : Int) ≤ (i : Int)) := by omega
        clear hlt
        have hA9 := HA9.out
        have ET : Hid (Dk.fault m (A : Int) b = 0 ∧ Dk.tpM m (A : Int) b = Dk.over m A b) := ⟨HI.out.u.fault A hA9 b (by omega), HI.out.u.tpM A hA9 b (by omega)⟩
        have HDL := Lib.hid (HI.out.dl b)
        have HW := Lib.hid HI.out.wr
        have hDn : Hid ((Dk.dl m').length ≤ 9) := by have h := Dk.dl_len m'; rw [HI.out.u'.n] at h; exact h
        have HLT : Hid (∀ y, Below w.heap.size w y → IAt y lp L) := fun y hy => HL.out.old hy
        obtain ⟨mA, hmA⟩ : ∃ mA, Hid (Dk.crash (Dk.over m A b) (Dk.fate L) = mA) := ⟨_, rfl⟩
        obtain ⟨mB, hmB⟩ : ∃ mB, Hid (Dk.crash m' (Dk.fate L) = mB) := ⟨_, rfl⟩
        have HPK : Hid ((∀ j, j ≠ A → Dk.peek mA j = Dk.peek mB j) ∧ Dk.peek mA A = b) := by
          rw [← hmA.out, ← hmB.out]
          exact HI.out.crash b (Dk.fate L)
        have HUP : Hid (Dk.Up mA 9 ∧ Dk.Up mB 9 ∧ (∀ j, mA.rd j = 0) ∧ ∀ j, mB.rd j = 0) := by
          rw [← hmA.out, ← hmB.out]
          exact ⟨Dk.Up.crash (HI.out.u.over A b).n _, Dk.Up.crash HI.out.u'.n _, fun j => by rw [(Dk.crash_rd _ _).1]; exact HI.out.rd.1 j, fun j => by rw [(Dk.crash_rd _ _).1]; exact HI.out.rd.2 j⟩
        have CUT : Hid (∀ z, Mv [d, lb, rb, cb] wr z → Below w.heap.size w z) := fun z hz => hz.below HS.out.a.old HS.out.a.ks HS.out.a.old.size
        by_cases hcase : (i : Int) < (Rs.length : Int)
        · have h100 := hstop hcase
          clear hstop
          go_upto_region 18 with (first
            | (go_at_call 25; refine (tamper_any (A : Int) b bp b.length bc rfl (by omega) _ HS.out.a.dk (HB.out.old HS.out.a.old)).mono ?_; rw [ET.out.1, ET.out.2]; rintro e5 q5 ⟨rfl, hd5, hm5⟩; have H5 := Lib.hid (HS.out.write hd5.out hm5.out); clear hd5 hm5)
            | (go_at_call 20; refine (dirty_any _ H6.out.b.dk (by have := HW.out; omega)).mono ?_; rintro e7 q7 ⟨v7, rfl, ho7, hb7⟩; obtain ⟨a7, c7, rfl, hz7⟩ := dirty_iat H6.out.b.dk ho7.out rfl; have H7 := Lib.hid (H6.out.next hb7); have HZ7 := Lib.hid hz7; have B7 : Hid (Below q6.heap.size q6 q7) := Lib.hid hb7; clear ho7 hb7 hz7)
            | (go_at_call 20; refine (dirty_any _ H5.out.a.dk (show m.wr ≤ _ by have := HW.out; omega)).mono ?_; rintro e6 q6 ⟨v6, rfl, ho6, hb6⟩; have ho6' := ho6.out; rw [HDL.out] at ho6'; obtain ⟨a6, c6, rfl, hz6⟩ := dirty_iat H5.out.a.dk ho6' rfl; have H6 := Lib.hid (H5.out.next hb6); have HZ6 := Lib.hid hz6; clear ho6 ho6' hb6 hz6)
            | (go_at_call 24; refine (same_ints (Zs (Dk.dl m')) a6 a7 _ _ c6 c7 (zs_len _) (zs_len _) _ (fun y hy => HZ6.out y ((Mv.of_below B7.out).trans (Mv.of_below hy))) (fun y hy => HZ7.out y (Mv.of_below hy)) (by rw [zs_len]; have := hDn.out; omega)).mono ?_; rintro e8 q8 ⟨rfl, hb8⟩; have H8 := Lib.hid (H7.out.next hb8); clear hb8)
            | (go_at_call 17; refine (crash_any L lp L.length lc rfl _ H9.out.b.dk (by have := HW.out; omega) (fun y hy => HLT.out y (hy.below H9.out.b.old H9.out.b.ks H9.out.b.old.size))).mono ?_; rw [hmB.out]; rintro e10 q10 ⟨rfl, hd10, hm10⟩; have H10 := Lib.hid (H9.out.sw.disk hd10.out hm10.out).sw; clear hd10 hm10)
            | (go_at_call 17; refine (crash_any L lp L.length lc rfl _ H8.out.a.dk (show m.wr ≤ _ by have := HW.out; omega) (fun y hy => HLT.out y (hy.below H8.out.a.old H8.out.a.ks H8.out.a.old.size))).mono ?_; rw [hmA.out]; rintro e9 q9 ⟨rfl, hd9, hm9⟩; have H9 := Lib.hid (H8.out.disk hd9.out hm9.out); clear hd9 hm9))
          go_loopw [15, 16, 17, 18, 19] (fun v15 _ _ _ _ wr => ∃ (k : Nat) (m m' : Dk.M) (T T' : Nat → Prop), k ≤ 9 ∧ v15 = .int .i64 k ∧ Hid (Dk.Rdg m mA k ∧ Dk.Rdg m' mB k) ∧ Hid (Two w wr T d lb rb cb m T' d' lb' rb' cb' m')) (fun v15 _ _ _ _ _ => 9 - (intOf v15).toNat)
          case atStart => exact ⟨0, mA, mB, _, _, by omega, rfl, Lib.hid ⟨⟨HUP.out.1, fun _ => rfl, fun j => by rw [HUP.out.2.2.1]; omega⟩, ⟨HUP.out.2.1, fun _ => rfl, fun j => by rw [HUP.out.2.2.2]; omega⟩⟩, H10⟩
          case round =>
            clear HS H5 H6 H7 H8 H9 H10 HZ6 HZ7 B7 HI
            obtain ⟨k, m, m', T, T', hk, rfl, HG, HS⟩ := hrel
            by_cases hlt : k < 9
            · have hk0 : (0 : Int) ≤ (k : Int) := by omega
              have hk9 : (k : Int) < 9 := by omega
              have R1 := Lib.hid (HG.out.1.u.rd k hlt)
              have R2 := Lib.hid (HG.out.2.u.rd k hlt)
              obtain ⟨X, hX⟩ : ∃ X, Hid (Dk.peek m k = X) := ⟨_, rfl⟩
              obtain ⟨Y, hY⟩ : ∃ Y, Hid (Dk.peek m' k = Y) := ⟨_, rfl⟩
              have HXL : Hid (X.length ≤ 1024) := by
                show X.length ≤ _
                rw [← hX.out]
                exact HS.out.a.dk.peek_le k
              go_upto_region 22 with (first
                | (go_at_call 18; refine (read_any (k : Int) _ H3.out.b.dk (fun j => Nat.le_trans (HG.out.2.rd j) (by omega))).mono ?_; rintro e4 q4 ⟨v4, rfl, hv4, hd4, hm4⟩; rw [R2.out.2.1, hY.out] at hv4; obtain ⟨p4, c4, rfl, hb4⟩ := rd_bs hv4; rw [R2.out.1]; rw [R2.out.2.2] at hd4; have H4 := Lib.hid (H3.out.sw.disk hd4.out hm4.out).sw; have P4 := Lib.hid hb4; have O4 := Lib.hid (H3.out.b.dk.bs P3.out hm4.out); clear hv4 hd4 hm4 hb4)
                | (go_at_call 18; refine (read_any (k : Int) _ HS.out.a.dk (fun j => Nat.le_trans (HG.out.1.rd j) (by omega))).mono ?_; rintro e3 q3 ⟨v3, rfl, hv3, hd3, hm3⟩; rw [R1.out.2.1, hX.out] at hv3; obtain ⟨p3, c3, rfl, hb3⟩ := rd_bs hv3; rw [R1.out.1]; rw [R1.out.2.2] at hd3; have H3 := Lib.hid (HS.out.disk hd3.out hm3.out); have P3 := Lib.hid hb3; clear hv3 hd3 hm3 hb3))
              by_cases hkA : k = A
              · have hk1 : (k : Int) = (A : Int) := by omega
                have hXb : X = b := by rw [← hX.out, HG.out.1.pk, hkA]; exact HPK.out.2
                subst hXb
                go_wp2_with (go_at_call 19; refine (same_any X p3 bp _ _ c3 bc rfl rfl _ O4.out.bat (HB.out.old H4.out.a.old).bat (by have := HXL.out; omega)).mono ?_; rintro e5 q5 ⟨rfl, hb5⟩; have H5 := Lib.hid (H4.out.next hb5); clear hb5)
                exact ⟨⟨k + 1, _, _, _, _, by omega, by go_num, Lib.hid ⟨HG.out.1.next k, HG.out.2.next k⟩, H5⟩, by simp [intOf]; omega⟩
              · have hk1 : ((k : Int) == (A : Int)) = false := by simp; omega
                have hXY : X = Y := by rw [← hX.out, ← hY.out, HG.out.1.pk, HG.out.2.pk]; exact HPK.out.1 k hkA
                subst hXY
                go_wp2_with (go_at_call 19; refine (same_any X p3 p4 _ _ c3 c4 rfl rfl _ O4.out.bat P4.out.bat (by have := HXL.out; omega)).mono ?_; rintro e5 q5 ⟨rfl, hb5⟩; have H5 := Lib.hid (H4.out.next hb5); clear hb5)
                exact ⟨⟨k + 1, _, _, _, _, by omega, by go_num, Lib.hid ⟨HG.out.1.next k, HG.out.2.next k⟩, H5⟩, by simp [intOf]; omega⟩
            · obtain rfl : k = 9 := by omega
              clear hlt
              go_wp2_with (go_at_call 12; refine (known_any _).mono ?_; rintro ek qk ⟨rfl, hbk⟩; have HK := Lib.hid (HS.out.a.next hbk).old; clear hbk)
              go_ret
              exact ⟨rfl, HK.out⟩
        · clear hstop
          go_upto_region 18 with (first
            | (go_at_call 25; refine (tamper_any (A : Int) b bp b.length bc rfl (by omega) _ HS.out.a.dk (HB.out.old HS.out.a.old)).mono ?_; rw [ET.out.1, ET.out.2]; rintro e5 q5 ⟨rfl, hd5, hm5⟩; have H5 := Lib.hid (HS.out.write hd5.out hm5.out); clear hd5 hm5)
            | (go_at_call 20; refine (dirty_any _ H6.out.b.dk (by have := HW.out; omega)).mono ?_; rintro e7 q7 ⟨v7, rfl, ho7, hb7⟩; obtain ⟨a7, c7, rfl, hz7⟩ := dirty_iat H6.out.b.dk ho7.out rfl; have H7 := Lib.hid (H6.out.next hb7); have HZ7 := Lib.hid hz7; have B7 : Hid (Below q6.heap.size q6 q7) := Lib.hid hb7; clear ho7 hb7 hz7)
            | (go_at_call 20; refine (dirty_any _ H5.out.a.dk (show m.wr ≤ _ by have := HW.out; omega)).mono ?_; rintro e6 q6 ⟨v6, rfl, ho6, hb6⟩; have ho6' := ho6.out; rw [HDL.out] at ho6'; obtain ⟨a6, c6, rfl, hz6⟩ := dirty_iat H5.out.a.dk ho6' rfl; have H6 := Lib.hid (H5.out.next hb6); have HZ6 := Lib.hid hz6; clear ho6 ho6' hb6 hz6)
            | (go_at_call 24; refine (same_ints (Zs (Dk.dl m')) a6 a7 _ _ c6 c7 (zs_len _) (zs_len _) _ (fun y hy => HZ6.out y ((Mv.of_below B7.out).trans (Mv.of_below hy))) (fun y hy => HZ7.out y (Mv.of_below hy)) (by rw [zs_len]; have := hDn.out; omega)).mono ?_; rintro e8 q8 ⟨rfl, hb8⟩; have H8 := Lib.hid (H7.out.next hb8); clear hb8)
            | (go_at_call 17; refine (crash_any L lp L.length lc rfl _ H9.out.b.dk (by have := HW.out; omega) (fun y hy => HLT.out y (hy.below H9.out.b.old H9.out.b.ks H9.out.b.old.size))).mono ?_; rw [hmB.out]; rintro e10 q10 ⟨rfl, hd10, hm10⟩; have H10 := Lib.hid (H9.out.sw.disk hd10.out hm10.out).sw; clear hd10 hm10)
            | (go_at_call 17; refine (crash_any L lp L.length lc rfl _ H8.out.a.dk (show m.wr ≤ _ by have := HW.out; omega) (fun y hy => HLT.out y (hy.below H8.out.a.old H8.out.a.ks H8.out.a.old.size))).mono ?_; rw [hmA.out]; rintro e9 q9 ⟨rfl, hd9, hm9⟩; have H9 := Lib.hid (H8.out.disk hd9.out hm9.out); clear hd9 hm9))
          go_loopw [15, 16, 17, 18, 19] (fun v15 _ _ _ _ wr => ∃ (k : Nat) (m m' : Dk.M) (T T' : Nat → Prop), k ≤ 9 ∧ v15 = .int .i64 k ∧ Hid (Dk.Rdg m mA k ∧ Dk.Rdg m' mB k) ∧ Hid (Two w wr T d lb rb cb m T' d' lb' rb' cb' m')) (fun v15 _ _ _ _ _ => 9 - (intOf v15).toNat)
          case atStart => exact ⟨0, mA, mB, _, _, by omega, rfl, Lib.hid ⟨⟨HUP.out.1, fun _ => rfl, fun j => by rw [HUP.out.2.2.1]; omega⟩, ⟨HUP.out.2.1, fun _ => rfl, fun j => by rw [HUP.out.2.2.2]; omega⟩⟩, H10⟩
          case round =>
            clear HS H5 H6 H7 H8 H9 H10 HZ6 HZ7 B7 HI
            obtain ⟨k, m, m', T, T', hk, rfl, HG, HS⟩ := hrel
            by_cases hlt : k < 9
            · have hk0 : (0 : Int) ≤ (k : Int) := by omega
              have hk9 : (k : Int) < 9 := by omega
              have R1 := Lib.hid (HG.out.1.u.rd k hlt)
              have R2 := Lib.hid (HG.out.2.u.rd k hlt)
              obtain ⟨X, hX⟩ : ∃ X, Hid (Dk.peek m k = X) := ⟨_, rfl⟩
              obtain ⟨Y, hY⟩ : ∃ Y, Hid (Dk.peek m' k = Y) := ⟨_, rfl⟩
              have HXL : Hid (X.length ≤ 1024) := by
                show X.length ≤ _
                rw [← hX.out]
                exact HS.out.a.dk.peek_le k
              go_upto_region 22 with (first
                | (go_at_call 18; refine (read_any (k : Int) _ H3.out.b.dk (fun j => Nat.le_trans (HG.out.2.rd j) (by omega))).mono ?_; rintro e4 q4 ⟨v4, rfl, hv4, hd4, hm4⟩; rw [R2.out.2.1, hY.out] at hv4; obtain ⟨p4, c4, rfl, hb4⟩ := rd_bs hv4; rw [R2.out.1]; rw [R2.out.2.2] at hd4; have H4 := Lib.hid (H3.out.sw.disk hd4.out hm4.out).sw; have P4 := Lib.hid hb4; have O4 := Lib.hid (H3.out.b.dk.bs P3.out hm4.out); clear hv4 hd4 hm4 hb4)
                | (go_at_call 18; refine (read_any (k : Int) _ HS.out.a.dk (fun j => Nat.le_trans (HG.out.1.rd j) (by omega))).mono ?_; rintro e3 q3 ⟨v3, rfl, hv3, hd3, hm3⟩; rw [R1.out.2.1, hX.out] at hv3; obtain ⟨p3, c3, rfl, hb3⟩ := rd_bs hv3; rw [R1.out.1]; rw [R1.out.2.2] at hd3; have H3 := Lib.hid (HS.out.disk hd3.out hm3.out); have P3 := Lib.hid hb3; clear hv3 hd3 hm3 hb3))
              by_cases hkA : k = A
              · have hk1 : (k : Int) = (A : Int) := by omega
                have hXb : X = b := by rw [← hX.out, HG.out.1.pk, hkA]; exact HPK.out.2
                subst hXb
                go_wp2_with (go_at_call 19; refine (same_any X p3 bp _ _ c3 bc rfl rfl _ O4.out.bat (HB.out.old H4.out.a.old).bat (by have := HXL.out; omega)).mono ?_; rintro e5 q5 ⟨rfl, hb5⟩; have H5 := Lib.hid (H4.out.next hb5); clear hb5)
                exact ⟨⟨k + 1, _, _, _, _, by omega, by go_num, Lib.hid ⟨HG.out.1.next k, HG.out.2.next k⟩, H5⟩, by simp [intOf]; omega⟩
              · have hk1 : ((k : Int) == (A : Int)) = false := by simp; omega
                have hXY : X = Y := by rw [← hX.out, ← hY.out, HG.out.1.pk, HG.out.2.pk]; exact HPK.out.1 k hkA
                subst hXY
                go_wp2_with (go_at_call 19; refine (same_any X p3 p4 _ _ c3 c4 rfl rfl _ O4.out.bat P4.out.bat (by have := HXL.out; omega)).mono ?_; rintro e5 q5 ⟨rfl, hb5⟩; have H5 := Lib.hid (H4.out.next hb5); clear hb5)
                exact ⟨⟨k + 1, _, _, _, _, by omega, by go_num, Lib.hid ⟨HG.out.1.next k, HG.out.2.next k⟩, H5⟩, by simp [intOf]; omega⟩
            · obtain rfl : k = 9 := by omega
              clear hlt
              go_wp2_with (go_at_call 12; refine (known_any _).mono ?_; rintro ek qk ⟨rfl, hbk⟩; have HK := Lib.hid (HS.out.a.next hbk).old; clear hbk)
              go_ret
              exact ⟨rfl, HK.out⟩
end Go.Proofs.Ytdkkoffmffallaa

/-
  The law DiskLooks walked.
-/
import Derived.Test.YtdkkoffmffallaaDkR
namespace Go.Proofs.Ytdkkoffmffallaa
open Go.RowKit

namespace Dk
/-- Two disks that are the same but for how often they were read. -/
structure Tw (m m' : M) (i : Nat) : Prop where
  u : Up m 9
  u' : Up m' 9
  ca : m.ca = m'.ca
  ls : m.ls = m'.ls
  wr : m.wr = m'.wr
  wi : m.wr ≤ i
  r3 : m.rd 3 = i
  rd : (∀ j, m.rd j ≤ i) ∧ ∀ j, m'.rd j = 0
/-- On the way: q of the eleven looks are done. -/
structure Lo (m0 m : M) (q : Nat) : Prop where
  u : Up m 9
  ca : m.ca = m0.ca
  ls : m.ls = m0.ls
  wr : m.wr = m0.wr
  rd : ∀ j, m.rd j = m0.rd j + if j + 1 < q ∧ j < 9 then 1 else 0
theorem Lo.next {m0 m : M} {q : Nat} (h : Lo m0 m q) : Lo m0 (rdM m ((q : Int) - 1)) (q + 1) := by
  by_cases hq : 1 ≤ q ∧ q - 1 < 9
  · have e : (q : Int) - 1 = ((q - 1 : Nat) : Int) := by omega
    rw [e, (h.u.rd (q - 1) hq.2).2.2]
    refine ⟨⟨h.u.n, h.u.left, h.u.down⟩, h.ca, h.ls, h.wr, fun j => ?_⟩
    show upd m.rd (q - 1) (m.rd (q - 1) + 1) j = _
    by_cases hj : j = q - 1
    · subst hj
      rw [upd_same, h.rd, if_neg (by omega), if_pos (by omega)]
    · rw [upd_other _ _ hj, h.rd]
      by_cases h1 : j + 1 < q ∧ j < 9
      · rw [if_pos h1, if_pos (by omega)]
      · rw [if_neg h1, if_neg (by omega)]
  · have e : rdM m ((q : Int) - 1) = m := by
      unfold rdM here
      rw [h.u.n]
      by_cases h0 : 0 ≤ (q : Int) - 1
      · rw [decide_eq_true h0, decide_eq_false (show ¬ (q : Int) - 1 < ((9 : Nat) : Int) by omega)]; rfl
      · rw [decide_eq_false h0]; rfl
    rw [e]
    refine ⟨h.u, h.ca, h.ls, h.wr, fun j => ?_⟩
    rw [h.rd]
    by_cases h1 : j + 1 < q ∧ j < 9
    · rw [if_pos h1, if_pos (by omega)]
    · rw [if_neg h1, if_neg (by omega)]
theorem Tw.put {m m' : M} {i k : Nat} {L : List Int} (h : Tw m m' i) : Up (put m k L) 9 ∧ Up (put m' k L) 9 ∧ (put m k L).ca = (put m' k L).ca ∧ (put m k L).ls = (put m' k L).ls ∧ (put m k L).wr = (put m' k L).wr ∧ (put m k L).wr ≤ i + 1 ∧ (put m k L).rd = m.rd ∧ (put m' k L).rd = m'.rd := by
  refine ⟨h.u.put k L, h.u'.put k L, ?_, h.ls, ?_, ?_, rfl, rfl⟩
  · show upd m.ca k _ = upd m'.ca k _
    rw [h.ca]
  · show m.wr + 1 = m'.wr + 1
    rw [h.wr]
  · show m.wr + 1 ≤ _
    have := h.wi
    omega
theorem Tw.dl {m m' : M} {i : Nat} (h : Tw m m' i) : Dk.dl m = Dk.dl m' := dl_eq (by rw [h.u.n, h.u'.n]) h.ca
theorem Tw.crash {m m' : M} {i : Nat} (f : Nat → Bool) (h : Tw m m' i) (j : Nat) : peek (crash m f) j = peek (crash m' f) j := by
  have h1 := crash_like (f := f) (j := j) h.dl (by rw [h.ca]) (by rw [h.ls])
  unfold peek
  rw [h1.1, h1.2]
/-- What the round of looks leaves. -/
theorem Tw.round {m m' NA NB mk : M} {i : Nat} (h : Tw m m' i) (u2 : Up NB 9) (c1 : NA.ca = NB.ca) (c2 : NA.ls = NB.ls) (c3 : NA.wr = NB.wr) (c4 : NA.wr ≤ i + 1) (c5 : NA.rd = m.rd) (c6 : NB.rd = m'.rd) (g : Lo NA mk 11) : Tw mk NB (i + 1) := by
  refine ⟨g.u, u2, g.ca.trans c1, g.ls.trans c2, g.wr.trans c3, by rw [g.wr]; exact c4, ?_, ⟨fun j => ?_, fun j => by rw [c6]; exact h.rd.2 j⟩⟩
  · rw [g.rd, c5, h.r3, if_pos (by omega)]
  · rw [g.rd, c5]
    have := h.rd.1 j
    split <;> omega
end Dk
set_option maxHeartbeats 4000000 in
set_option maxRecDepth 100000 in
theorem looks_any (Rs : List (List Int)) (L : List Int) (tp lp : Option Addr) (cap lc : Nat) (w : World) (hr : BRows w tp Rs) (hl : IAt w lp L) :
    Calls Try.prog 7 #[.slice tp Rs.length cap, .slice lp L.length lc] w (YesSay w) := by
  have HR := Lib.hid hr
  have HL := Lib.hid hl
  clear hr hl
  by_cases h1 : (1000 : Int) < (L.length : Int)
  · go_enter Try.func7, Try.ntmps7
    go_wp2_with (first
      | (go_at_call 9; refine (new4 9 (by omega) (by omega) q0).mono ?_; rintro e1 q1 ⟨d', lb', rb', cb', rfl, hd, hb1⟩; have H1 := Lib.hid (H0.out.next hb1); clear hd hb1)
      | (go_at_call 9; refine (new4 9 (by omega) (by omega) _).mono ?_; rintro e0 q0 ⟨d, lb, rb, cb, rfl, hd, hb0⟩; have H0 := Lib.hid (Sit.new hd.out hb0 (Below.refl _ w)); clear hd hb0)
      | (go_at_call 12; refine (known_any _).mono ?_; rintro ek qk ⟨rfl, hbk⟩; have HK := Lib.hid (H1.out.next hbk).old; clear hbk))
    go_ret
    exact ⟨rfl, HK.out⟩
  · have h1 : (L.length : Int) ≤ 1000 := by omega
    go_enter Try.func7, Try.ntmps7
    go_upto_region 6 with (first
      | (go_at_call 9; refine (new4 9 (by omega) (by omega) q0).mono ?_; rintro e1 q1 ⟨d', lb', rb', cb', rfl, hd, hb1⟩; have H1 := Lib.hid (Two.new H0.out hb1 hd.out); clear hd hb1)
      | (go_at_call 9; refine (new4 9 (by omega) (by omega) _).mono ?_; rintro e0 q0 ⟨d, lb, rb, cb, rfl, hd, hb0⟩; have H0 := Lib.hid (Sit.new hd.out hb0 (Below.refl _ w)); clear hd hb0))
    go_loopw [9, 10, 11] (fun v9 _ _ wr => ∃ (i : Nat) (m m' : Dk.M) (T T' : Nat → Prop), i ≤ Rs.length ∧ i ≤ 60 ∧ v9 = .int .i64 i ∧ Hid (Dk.Tw m m' i) ∧ Hid (Two w wr T d lb rb cb m T' d' lb' rb' cb' m')) (fun v9 _ _ _ => 60 - (intOf v9).toNat)
    case atStart => exact ⟨0, _, _, _, _, by omega, by omega, rfl, Lib.hid ⟨Dk.Up.fresh 9, Dk.Up.fresh 9, rfl, rfl, rfl, Nat.le_refl _, rfl, ⟨fun _ => Nat.le_refl _, fun _ => rfl⟩⟩, H1⟩
    case round =>
      clear H0 H1
      obtain ⟨i, m, m', T, T', hi, hi1, rfl, HI, HS⟩ := hrel
      by_cases hlt : i < Rs.length ∧ i < 60
      · obtain ⟨tb, tf, rfl, htb, hrow⟩ := HR.out (by omega)
        obtain ⟨R, hR⟩ : ∃ R, Rs.getD i [] = R := ⟨_, rfl⟩
        obtain ⟨p, c, hc, hbs⟩ := hrow i hlt.1
        rw [hR] at hc hbs
        have hc1 := (HS.out.a.old.cell (World.block_lt_of_cell? _ _ hc)).trans hc
        have hcap := hbs.cap
        have HBS : Hid (∀ y, Below w.heap.size w y → Bs y p c (beg R)) := fun y hy => (hbs.old hy).take _
        clear hrow hc hbs hR
        have hi0 : (0 : Int) ≤ (i : Int) := by omega
        have hil : (i : Int) < (Rs.length : Int) := by omega
        have hi60 : (i : Int) < 60 := by omega
        obtain ⟨t, ht⟩ : ∃ t, min R.length 100 = t := ⟨_, rfl⟩
        have htl : Hid ((beg R).length = t) := by show _ = t; rw [beg_len, ht]
        have hmn : min (R.length : Int) 100 = (t : Int) := by omega
        have ht0 : (0 : Int) ≤ (t : Int) := by omega
        have htc : (t : Int) ≤ (c : Int) := by omega
        have ht100 : t ≤ 100 := by omega
        clear ht
        go_upto_region 8 with (fail)
        go_quiet (fail)
        obtain ⟨y0, HY0⟩ : ∃ y, Hid (wr.drewN nq = y) := ⟨_, rfl⟩
        have H2 : Hid (Two w y0 T d lb rb cb m T' d' lb' rb' cb' m') := by show Two _ _ _ _ _ _ _ _ _ _ _ _ _ _; rw [← HY0.out]; exact HS.out.next (below_dn (Below.refl _ _) nq)
        rw [HY0.out]
        clear HY0 HS hc1
        have hrem : (i : Int) % 9 = ((i % 9 : Nat) : Int) := by omega
        have hi9 : i % 9 < 9 := by omega
        have htl' := htl.out
        have EA : Hid (Dk.wrE m ((i : Int) % 9) (beg R) = 0 ∧ Dk.wrM m ((i : Int) % 9) (beg R) = Dk.put m (i % 9) (beg R)) := by
          rw [hrem]
          exact ⟨HI.out.u.wrE _ hi9 _ (by omega), HI.out.u.wrM _ hi9 _ (by omega)⟩
        have EB : Hid (Dk.wrE m' ((i : Int) % 9) (beg R) = 0 ∧ Dk.wrM m' ((i : Int) % 9) (beg R) = Dk.put m' (i % 9) (beg R)) := by
          rw [hrem]
          exact ⟨HI.out.u'.wrE _ hi9 _ (by omega), HI.out.u'.wrM _ hi9 _ (by omega)⟩
        have HW : Hid (m.wr ≤ i ∧ m'.wr ≤ i) := ⟨HI.out.wi, by rw [← HI.out.wr]; exact HI.out.wi⟩
        have HPT := Lib.hid (HI.out.put (k := i % 9) (L := beg R))
        clear hrem htl' hmn
        go_upto_region 11 with (first
          | (go_at_call 15; refine (write_any ((i : Int) % 9) (beg R) p t c htl.out (by omega) (by have := HW.out; omega) _ H3.out.b.dk (HBS.out _ H3.out.b.old)).mono ?_; rw [EB.out.1, EB.out.2]; rintro e4 q4 ⟨rfl, hd4, hm4⟩; have H4 := Lib.hid (H3.out.sw.write hd4.out hm4.out).sw; clear hd4 hm4)
          | (go_at_call 15; refine (write_any ((i : Int) % 9) (beg R) p t c htl.out (by omega) (by have := HW.out; omega) _ H2.out.a.dk (HBS.out _ H2.out.a.old)).mono ?_; rw [EA.out.1, EA.out.2]; rintro e3 q3 ⟨rfl, hd3, hm3⟩; have H3 := Lib.hid (H2.out.write hd3.out hm3.out); clear hd3 hm3))
        by_cases h5 : t % 5 = 0
        · have h5' : (t : Int) % 5 = 0 := by omega
          go_upto_region 15 with (first
            | (go_at_call 16; refine (sync_any _ H5.out.b.dk).mono ?_; rw [HPT.out.2.1.spendE, HPT.out.2.1.syM]; rintro e6 q6 ⟨rfl, hd6, hm6⟩; have H6 := Lib.hid (H5.out.sw.disk hd6.out hm6.out).sw; clear hd6 hm6)
            | (go_at_call 16; refine (sync_any _ H4.out.a.dk).mono ?_; rw [HPT.out.1.spendE, HPT.out.1.syM]; rintro e5 q5 ⟨rfl, hd5, hm5⟩; have H5 := Lib.hid (H4.out.disk hd5.out hm5.out); clear hd5 hm5))
          obtain ⟨NA, hNA⟩ : ∃ NA, Hid (Dk.synced (Dk.put m (i % 9) (beg R)) = NA) := ⟨_, rfl⟩
          obtain ⟨NB, hNB⟩ : ∃ NB, Hid (Dk.synced (Dk.put m' (i % 9) (beg R)) = NB) := ⟨_, rfl⟩
          have HN : Hid (Dk.Up NA 9 ∧ Dk.Up NB 9 ∧ (∀ j, NA.rd j ≤ 1000) ∧ NA.wr ≤ 1000000000 ∧ ∀ mk, Dk.Lo NA mk 11 → Dk.Tw mk NB (i + 1)) := by
            rw [← hNA.out, ← hNB.out]
            obtain ⟨b1, b2, b3, b4, b5, b6, b7, b8⟩ := HPT.out
            refine ⟨b1.synced, b2.synced, fun j => ?_, Nat.le_trans b6 (by omega), fun mk g => HI.out.round (NA := Dk.synced (Dk.put m (i % 9) (beg R))) b2.synced rfl ?_ b5 b6 b7 b8 g⟩
            · show (Dk.put m (i % 9) (beg R)).rd j ≤ _; rw [b7]; have := HI.out.rd.1 j; omega
            · show Dk.peek (Dk.put m (i % 9) (beg R)) = Dk.peek (Dk.put m' (i % 9) (beg R))
              funext j
              unfold Dk.peek
              rw [b3, b4]
          rw [hNA.out, hNB.out] at H6
          go_loopw [11] (fun v11 wr => ∃ (q : Nat) (mk : Dk.M) (Ta Tb : Nat → Prop), q ≤ 11 ∧ v11 = .int .i64 ((q : Int) - 1) ∧ Hid (Dk.Lo NA mk q) ∧ Hid (Two w wr Ta d lb rb cb mk Tb d' lb' rb' cb' NB)) (fun v11 _ => 11 - ((intOf v11) + 1).toNat)
          case atStart => exact ⟨0, NA, _, _, by omega, rfl, Lib.hid ⟨HN.out.1, rfl, rfl, rfl, fun j => by rw [if_neg (by omega)]; rfl⟩, H6⟩
          case round =>
            clear H6 H4 H3 H2
            obtain ⟨q, mk, Ta, Tb, hq, rfl, HG, HT⟩ := hrel
            have HRD : Hid (∀ j, mk.rd j ≤ 1000000000) := fun j => by
              rw [HG.out.rd]
              have := HN.out.2.2.1 j
              split <;> omega
            by_cases hq11 : q < 11
            · have hq1 : (q : Int) - 1 < 10 := by omega
              have hw1 : IntKind.i64.wrap ((q : Int) - 1 + 1) = ((q + 1 : Nat) : Int) - 1 := by rw [IntWalk.i64_in _ ⟨by omega, by omega⟩]; omega
              go_wp2_with (first
                | (go_at_call 18; refine (read_any ((q : Int) - 1) _ HT.out.a.dk HRD.out).mono ?_; rintro e7 q7 ⟨v7, rfl, hv7, hd7, hm7⟩; have H7 := Lib.hid (HT.out.disk hd7.out hm7.out); clear hv7 hd7 hm7)
                | (go_at_call 27; refine (reads_any ((q : Int) - 1) _ H7.out.a.dk).mono ?_; rintro e8 q7 ⟨rfl, rfl⟩))
              exact ⟨⟨q + 1, _, _, _, by omega, by first | rfl | (congr 1; omega) | go_num, Lib.hid HG.out.next, H7⟩, by simp [intOf]; omega⟩
            · obtain rfl : q = 11 := by omega
              clear hq11
              have hmw : Hid (mk.wr ≤ 1000000000) := by show mk.wr ≤ _; rw [HG.out.wr]; exact HN.out.2.2.2.1
              go_wp2_with (first
                | (go_at_call 20; refine (dirty_any _ HT.out.a.dk hmw.out).mono ?_; rintro e9 q9 ⟨v9, rfl, ho9, hb9⟩; have H9 := Lib.hid (HT.out.next hb9); clear ho9 hb9)
                | (go_at_call 21; refine (down_any _ H9.out.a.dk).mono ?_; rintro e10 q9 ⟨rfl, rfl⟩)
                | (go_at_call 26; refine (writes_any _ H9.out.a.dk).mono ?_; rintro e11 q9 ⟨rfl, rfl⟩))
              exact ⟨⟨i + 1, mk, NB, _, _, by omega, by omega, by go_num, Lib.hid (HN.out.2.2.2.2 mk HG.out), H9⟩, by simp [intOf]; omega⟩
        · have h5' : ((t : Int) % 5 == 0) = false := by simp; omega
          go_upto_region 15 with (fail)
          obtain ⟨NA, hNA⟩ : ∃ NA, Hid (Dk.put m (i % 9) (beg R) = NA) := ⟨_, rfl⟩
          obtain ⟨NB, hNB⟩ : ∃ NB, Hid (Dk.put m' (i % 9) (beg R) = NB) := ⟨_, rfl⟩
          have HN : Hid (Dk.Up NA 9 ∧ Dk.Up NB 9 ∧ (∀ j, NA.rd j ≤ 1000) ∧ NA.wr ≤ 1000000000 ∧ ∀ mk, Dk.Lo NA mk 11 → Dk.Tw mk NB (i + 1)) := by
            rw [← hNA.out, ← hNB.out]
            obtain ⟨b1, b2, b3, b4, b5, b6, b7, b8⟩ := HPT.out
            refine ⟨b1, b2, fun j => ?_, Nat.le_trans b6 (by omega), fun mk g => HI.out.round b2 b3 b4 b5 b6 b7 b8 g⟩
            rw [b7]; have := HI.out.rd.1 j; omega
          have H6 := H4
          rw [hNA.out, hNB.out] at H6
          go_loopw [11] (fun v11 wr => ∃ (q : Nat) (mk : Dk.M) (Ta Tb : Nat → Prop), q ≤ 11 ∧ v11 = .int .i64 ((q : Int) - 1) ∧ Hid (Dk.Lo NA mk q) ∧ Hid (Two w wr Ta d lb rb cb mk Tb d' lb' rb' cb' NB)) (fun v11 _ => 11 - ((intOf v11) + 1).toNat)
          case atStart => exact ⟨0, NA, _, _, by omega, rfl, Lib.hid ⟨HN.out.1, rfl, rfl, rfl, fun j => by rw [if_neg (by omega)]; rfl⟩, H6⟩
          case round =>
            clear H6 H4 H3 H2
            obtain ⟨q, mk, Ta, Tb, hq, rfl, HG, HT⟩ := hrel
            have HRD : Hid (∀ j, mk.rd j ≤ 1000000000) := fun j => by
              rw [HG.out.rd]
              have := HN.out.2.2.1 j
              split <;> omega
            by_cases hq11 : q < 11
            · have hq1 : (q : Int) - 1 < 10 := by omega
              have hw1 : IntKind.i64.wrap ((q : Int) - 1 + 1) = ((q + 1 : Nat) : Int) - 1 := by rw [IntWalk.i64_in _ ⟨by omega, by omega⟩]; omega
              go_wp2_with (first
                | (go_at_call 18; refine (read_any ((q : Int) - 1) _ HT.out.a.dk HRD.out).mono ?_; rintro e7 q7 ⟨v7, rfl, hv7, hd7, hm7⟩; have H7 := Lib.hid (HT.out.disk hd7.out hm7.out); clear hv7 hd7 hm7)
                | (go_at_call 27; refine (reads_any ((q : Int) - 1) _ H7.out.a.dk).mono ?_; rintro e8 q7 ⟨rfl, rfl⟩))
              exact ⟨⟨q + 1, _, _, _, by omega, by first | rfl | (congr 1; omega) | go_num, Lib.hid HG.out.next, H7⟩, by simp [intOf]; omega⟩
            · obtain rfl : q = 11 := by omega
              clear hq11
              have hmw : Hid (mk.wr ≤ 1000000000) := by show mk.wr ≤ _; rw [HG.out.wr]; exact HN.out.2.2.2.1
              go_wp2_with (first
                | (go_at_call 20; refine (dirty_any _ HT.out.a.dk hmw.out).mono ?_; rintro e9 q9 ⟨v9, rfl, ho9, hb9⟩; have H9 := Lib.hid (HT.out.next hb9); clear ho9 hb9)
                | (go_at_call 21; refine (down_any _ H9.out.a.dk).mono ?_; rintro e10 q9 ⟨rfl, rfl⟩)
                | (go_at_call 26; refine (writes_any _ H9.out.a.dk).mono ?_; rintro e11 q9 ⟨rfl, rfl⟩))
              exact ⟨⟨i + 1, mk, NB, _, _, by omega, by omega, by go_num, Lib.hid (HN.out.2.2.2.2 mk HG.out), H9⟩, by simp [intOf]; omega⟩
      · have hmn : min (Rs.length : Int) 60 = (i : Int) := by omega
        have hstop : ((i : Int) < (Rs.length : Int) → (60 : Int) ≤ (i : Int)) := by omega
        clear hlt
        have HDL := Lib.hid HI.out.dl
        have HW : Hid (m.wr ≤ i ∧ m'.wr ≤ i) := ⟨HI.out.wi, by rw [← HI.out.wr]; exact HI.out.wi⟩
        have HWW := Lib.hid HI.out.wr
        have hDn : Hid ((Dk.dl m').length ≤ 9) := by have h := Dk.dl_len m'; rw [HI.out.u'.n] at h; exact h
        have HLT : Hid (∀ y, Below w.heap.size w y → IAt y lp L) := fun y hy => HL.out.old hy
        have ER : Hid ((if Dk.here m 3 then (m.rd (3 : Int).toNat : Int) else 0) = (i : Int)) := by
          show _ = _
          rw [show Dk.here m 3 = true from HI.out.u.here 3, if_pos rfl]
          show ((m.rd 3 : Nat) : Int) = _
          rw [HI.out.r3]
        have ER' : Hid ((if Dk.here m' 3 then (m'.rd (3 : Int).toNat : Int) else 0) = 0) := by
          show _ = _
          rw [HI.out.rd.2]
          split <;> rfl
        obtain ⟨mA, hmA⟩ : ∃ mA, Hid (Dk.crash m (Dk.fate L) = mA) := ⟨_, rfl⟩
        obtain ⟨mB, hmB⟩ : ∃ mB, Hid (Dk.crash m' (Dk.fate L) = mB) := ⟨_, rfl⟩
        have HPK : Hid (∀ j, Dk.peek mA j = Dk.peek mB j) := by
          rw [← hmA.out, ← hmB.out]
          exact HI.out.crash (Dk.fate L)
        have HUP : Hid (Dk.Up mA 9 ∧ Dk.Up mB 9 ∧ (∀ j, mA.rd j ≤ 60) ∧ ∀ j, mB.rd j ≤ 60) := by
          rw [← hmA.out, ← hmB.out]
          exact ⟨Dk.Up.crash HI.out.u.n _, Dk.Up.crash HI.out.u'.n _, fun j => by rw [(Dk.crash_rd _ _).1]; exact Nat.le_trans (HI.out.rd.1 j) hi1, fun j => by rw [(Dk.crash_rd _ _).1, HI.out.rd.2]; omega⟩
        by_cases hcase : (i : Int) < (Rs.length : Int)
        · have h60 := hstop hcase
          clear hstop
          have T1 : Hid True := trivial
          have T2 : Hid True := trivial
          go_upto_region 27 with (first
            | (go_at_call 20; refine (dirty_any _ H6.out.b.dk (by have := HW.out; omega)).mono ?_; rintro e7 q7 ⟨v7, rfl, ho7, hb7⟩; obtain ⟨a7, c7, rfl, hz7⟩ := dirty_iat H6.out.b.dk ho7.out rfl; have H7 := Lib.hid (H6.out.next hb7); have HZ7 := Lib.hid hz7; have B7 : Hid (Below q6.heap.size q6 q7) := Lib.hid hb7; clear ho7 hb7 hz7)
            | (go_at_call 20; refine (dirty_any _ HS.out.a.dk (by have := HW.out; omega)).mono ?_; rintro e6 q6 ⟨v6, rfl, ho6, hb6⟩; have ho6' := ho6.out; rw [HDL.out] at ho6'; obtain ⟨a6, c6, rfl, hz6⟩ := dirty_iat HS.out.a.dk ho6' rfl; have H6 := Lib.hid (HS.out.next hb6); have HZ6 := Lib.hid hz6; clear ho6 ho6' hb6 hz6)
            | (go_at_call 24; refine (same_ints (Zs (Dk.dl m')) a6 a7 _ _ c6 c7 (zs_len _) (zs_len _) _ (fun y hy => HZ6.out y ((Mv.of_below B7.out).trans (Mv.of_below hy))) (fun y hy => HZ7.out y (Mv.of_below hy)) (by rw [zs_len]; have := hDn.out; omega)).mono ?_; rintro e8 q8 ⟨rfl, hb8⟩; have H8 := Lib.hid (H7.out.next hb8); clear hb8)
            | (go_at_call 26; have tk := T1.out; clear tk T1; refine (writes_any _ H8.out.a.dk).mono ?_; rw [HWW.out]; rintro e9 q8 ⟨rfl, rfl⟩)
            | (go_at_call 26; refine (writes_any _ H8.out.b.dk).mono ?_; rintro e9 q8 ⟨rfl, rfl⟩)
            | (go_at_call 27; have tk := T2.out; clear tk T2; refine (reads_any 3 _ H8.out.a.dk).mono ?_; rw [ER.out]; rintro e9 q8 ⟨rfl, rfl⟩)
            | (go_at_call 27; refine (reads_any 3 _ H8.out.b.dk).mono ?_; rw [ER'.out]; rintro e9 q8 ⟨rfl, rfl⟩)
            | (go_at_call 17; refine (crash_any L lp L.length lc rfl _ H9.out.b.dk (by have := HW.out; omega) (fun y hy => HLT.out y (hy.below H9.out.b.old H9.out.b.ks H9.out.b.old.size))).mono ?_; rw [hmB.out]; rintro e10 q10 ⟨rfl, hd10, hm10⟩; have H10 := Lib.hid (H9.out.sw.disk hd10.out hm10.out).sw; clear hd10 hm10)
            | (go_at_call 17; refine (crash_any L lp L.length lc rfl _ H8.out.a.dk (show m.wr ≤ _ by have := HW.out; omega) (fun y hy => HLT.out y (hy.below H8.out.a.old H8.out.a.ks H8.out.a.old.size))).mono ?_; rw [hmA.out]; rintro e9 q9 ⟨rfl, hd9, hm9⟩; have H9 := Lib.hid (H8.out.disk hd9.out hm9.out); clear hd9 hm9))
          go_loopw [12, 13, 14, 15, 16] (fun v12 _ _ _ _ wr => ∃ (k : Nat) (m m' : Dk.M) (T T' : Nat → Prop), k ≤ 9 ∧ v12 = .int .i64 k ∧ Hid (Dk.Rdg m mA (60 + k) ∧ Dk.Rdg m' mB (60 + k)) ∧ Hid (Two w wr T d lb rb cb m T' d' lb' rb' cb' m')) (fun v12 _ _ _ _ _ => 9 - (intOf v12).toNat)
          case atStart => exact ⟨0, mA, mB, _, _, by omega, rfl, Lib.hid ⟨⟨HUP.out.1, fun _ => rfl, HUP.out.2.2.1⟩, ⟨HUP.out.2.1, fun _ => rfl, HUP.out.2.2.2⟩⟩, H10⟩
          case round =>
            clear HS H6 H7 H8 H9 H10 HZ6 HZ7 B7 HI
            obtain ⟨k, m, m', T, T', hk, rfl, HG, HS⟩ := hrel
            by_cases hlt : k < 9
            · have hk0 : (0 : Int) ≤ (k : Int) := by omega
              have hk9 : (k : Int) < 9 := by omega
              have R1 := Lib.hid (HG.out.1.u.rd k hlt)
              have R2 := Lib.hid (HG.out.2.u.rd k hlt)
              obtain ⟨X, hX⟩ : ∃ X, Hid (Dk.peek m k = X) := ⟨_, rfl⟩
              have hY : Hid (Dk.peek m' k = X) := by show _ = _; rw [← hX.out, HG.out.1.pk, HG.out.2.pk]; exact (HPK.out k).symm
              have HXL : Hid (X.length ≤ 1024) := by
                show X.length ≤ _
                rw [← hX.out]
                exact HS.out.a.dk.peek_le k
              go_wp2_with (first
                | (go_at_call 18; refine (read_any (k : Int) _ H3.out.b.dk (fun j => Nat.le_trans (HG.out.2.rd j) (by omega))).mono ?_; rintro e4 q4 ⟨v4, rfl, hv4, hd4, hm4⟩; rw [R2.out.2.1, hY.out] at hv4; obtain ⟨p4, c4, rfl, hb4⟩ := rd_bs hv4; rw [R2.out.1]; rw [R2.out.2.2] at hd4; have H4 := Lib.hid (H3.out.sw.disk hd4.out hm4.out).sw; have P4 := Lib.hid hb4; have O4 := Lib.hid (H3.out.b.dk.bs P3.out hm4.out); clear hv4 hd4 hm4 hb4)
                | (go_at_call 18; refine (read_any (k : Int) _ HS.out.a.dk (fun j => Nat.le_trans (HG.out.1.rd j) (by omega))).mono ?_; rintro e3 q3 ⟨v3, rfl, hv3, hd3, hm3⟩; rw [R1.out.2.1, hX.out] at hv3; obtain ⟨p3, c3, rfl, hb3⟩ := rd_bs hv3; rw [R1.out.1]; rw [R1.out.2.2] at hd3; have H3 := Lib.hid (HS.out.disk hd3.out hm3.out); have P3 := Lib.hid hb3; clear hv3 hd3 hm3 hb3)
                | (go_at_call 19; refine (same_any X p3 p4 _ _ c3 c4 rfl rfl _ O4.out.bat P4.out.bat (by have := HXL.out; omega)).mono ?_; rintro e5 q5 ⟨rfl, hb5⟩; have H5 := Lib.hid (H4.out.next hb5); clear hb5))
              exact ⟨⟨k + 1, _, _, _, _, by omega, by go_num, Lib.hid ⟨HG.out.1.next k, HG.out.2.next k⟩, H5⟩, by simp [intOf]; omega⟩
            · obtain rfl : k = 9 := by omega
              clear hlt
              go_wp2_with (go_at_call 12; refine (known_any _).mono ?_; rintro ek qk ⟨rfl, hbk⟩; have HK := Lib.hid (HS.out.a.next hbk).old; clear hbk)
              go_ret
              exact ⟨rfl, HK.out⟩
        · clear hstop
          have T1 : Hid True := trivial
          have T2 : Hid True := trivial
          go_upto_region 27 with (first
            | (go_at_call 20; refine (dirty_any _ H6.out.b.dk (by have := HW.out; omega)).mono ?_; rintro e7 q7 ⟨v7, rfl, ho7, hb7⟩; obtain ⟨a7, c7, rfl, hz7⟩ := dirty_iat H6.out.b.dk ho7.out rfl; have H7 := Lib.hid (H6.out.next hb7); have HZ7 := Lib.hid hz7; have B7 : Hid (Below q6.heap.size q6 q7) := Lib.hid hb7; clear ho7 hb7 hz7)
            | (go_at_call 20; refine (dirty_any _ HS.out.a.dk (by have := HW.out; omega)).mono ?_; rintro e6 q6 ⟨v6, rfl, ho6, hb6⟩; have ho6' := ho6.out; rw [HDL.out] at ho6'; obtain ⟨a6, c6, rfl, hz6⟩ := dirty_iat HS.out.a.dk ho6' rfl; have H6 := Lib.hid (HS.out.next hb6); have HZ6 := Lib.hid hz6; clear ho6 ho6' hb6 hz6)
            | (go_at_call 24; refine (same_ints (Zs (Dk.dl m')) a6 a7 _ _ c6 c7 (zs_len _) (zs_len _) _ (fun y hy => HZ6.out y ((Mv.of_below B7.out).trans (Mv.of_below hy))) (fun y hy => HZ7.out y (Mv.of_below hy)) (by rw [zs_len]; have := hDn.out; omega)).mono ?_; rintro e8 q8 ⟨rfl, hb8⟩; have H8 := Lib.hid (H7.out.next hb8); clear hb8)
            | (go_at_call 26; have tk := T1.out; clear tk T1; refine (writes_any _ H8.out.a.dk).mono ?_; rw [HWW.out]; rintro e9 q8 ⟨rfl, rfl⟩)
            | (go_at_call 26; refine (writes_any _ H8.out.b.dk).mono ?_; rintro e9 q8 ⟨rfl, rfl⟩)
            | (go_at_call 27; have tk := T2.out; clear tk T2; refine (reads_any 3 _ H8.out.a.dk).mono ?_; rw [ER.out]; rintro e9 q8 ⟨rfl, rfl⟩)
            | (go_at_call 27; refine (reads_any 3 _ H8.out.b.dk).mono ?_; rw [ER'.out]; rintro e9 q8 ⟨rfl, rfl⟩)
            | (go_at_call 17; refine (crash_any L lp L.length lc rfl _ H9.out.b.dk (by have := HW.out; omega) (fun y hy => HLT.out y (hy.below H9.out.b.old H9.out.b.ks H9.out.b.old.size))).mono ?_; rw [hmB.out]; rintro e10 q10 ⟨rfl, hd10, hm10⟩; have H10 := Lib.hid (H9.out.sw.disk hd10.out hm10.out).sw; clear hd10 hm10)
            | (go_at_call 17; refine (crash_any L lp L.length lc rfl _ H8.out.a.dk (show m.wr ≤ _ by have := HW.out; omega) (fun y hy => HLT.out y (hy.below H8.out.a.old H8.out.a.ks H8.out.a.old.size))).mono ?_; rw [hmA.out]; rintro e9 q9 ⟨rfl, hd9, hm9⟩; have H9 := Lib.hid (H8.out.disk hd9.out hm9.out); clear hd9 hm9))
          go_loopw [12, 13, 14, 15, 16] (fun v12 _ _ _ _ wr => ∃ (k : Nat) (m m' : Dk.M) (T T' : Nat → Prop), k ≤ 9 ∧ v12 = .int .i64 k ∧ Hid (Dk.Rdg m mA (60 + k) ∧ Dk.Rdg m' mB (60 + k)) ∧ Hid (Two w wr T d lb rb cb m T' d' lb' rb' cb' m')) (fun v12 _ _ _ _ _ => 9 - (intOf v12).toNat)
          case atStart => exact ⟨0, mA, mB, _, _, by omega, rfl, Lib.hid ⟨⟨HUP.out.1, fun _ => rfl, HUP.out.2.2.1⟩, ⟨HUP.out.2.1, fun _ => rfl, HUP.out.2.2.2⟩⟩, H10⟩
          case round =>
            clear HS H6 H7 H8 H9 H10 HZ6 HZ7 B7 HI
            obtain ⟨k, m, m', T, T', hk, rfl, HG, HS⟩ := hrel
            by_cases hlt : k < 9
            · have hk0 : (0 : Int) ≤ (k : Int) := by omega
              have hk9 : (k : Int) < 9 := by omega
              have R1 := Lib.hid (HG.out.1.u.rd k hlt)
              have R2 := Lib.hid (HG.out.2.u.rd k hlt)
              obtain ⟨X, hX⟩ : ∃ X, Hid (Dk.peek m k = X) := ⟨_, rfl⟩
              have hY : Hid (Dk.peek m' k = X) := by show _ = _; rw [← hX.out, HG.out.1.pk, HG.out.2.pk]; exact (HPK.out k).symm
              have HXL : Hid (X.length ≤ 1024) := by
                show X.length ≤ _
                rw [← hX.out]
                exact HS.out.a.dk.peek_le k
              go_wp2_with (first
                | (go_at_call 18; refine (read_any (k : Int) _ H3.out.b.dk (fun j => Nat.le_trans (HG.out.2.rd j) (by omega))).mono ?_; rintro e4 q4 ⟨v4, rfl, hv4, hd4, hm4⟩; rw [R2.out.2.1, hY.out] at hv4; obtain ⟨p4, c4, rfl, hb4⟩ := rd_bs hv4; rw [R2.out.1]; rw [R2.out.2.2] at hd4; have H4 := Lib.hid (H3.out.sw.disk hd4.out hm4.out).sw; have P4 := Lib.hid hb4; have O4 := Lib.hid (H3.out.b.dk.bs P3.out hm4.out); clear hv4 hd4 hm4 hb4)
                | (go_at_call 18; refine (read_any (k : Int) _ HS.out.a.dk (fun j => Nat.le_trans (HG.out.1.rd j) (by omega))).mono ?_; rintro e3 q3 ⟨v3, rfl, hv3, hd3, hm3⟩; rw [R1.out.2.1, hX.out] at hv3; obtain ⟨p3, c3, rfl, hb3⟩ := rd_bs hv3; rw [R1.out.1]; rw [R1.out.2.2] at hd3; have H3 := Lib.hid (HS.out.disk hd3.out hm3.out); have P3 := Lib.hid hb3; clear hv3 hd3 hm3 hb3)
                | (go_at_call 19; refine (same_any X p3 p4 _ _ c3 c4 rfl rfl _ O4.out.bat P4.out.bat (by have := HXL.out; omega)).mono ?_; rintro e5 q5 ⟨rfl, hb5⟩; have H5 := Lib.hid (H4.out.next hb5); clear hb5))
              exact ⟨⟨k + 1, _, _, _, _, by omega, by go_num, Lib.hid ⟨HG.out.1.next k, HG.out.2.next k⟩, H5⟩, by simp [intOf]; omega⟩
            · obtain rfl : k = 9 := by omega
              clear hlt
              go_wp2_with (go_at_call 12; refine (known_any _).mono ?_; rintro ek qk ⟨rfl, hbk⟩; have HK := Lib.hid (HS.out.a.next hbk).old; clear hbk)
              go_ret
              exact ⟨rfl, HK.out⟩
end Go.Proofs.Ytdkkoffmffallaa

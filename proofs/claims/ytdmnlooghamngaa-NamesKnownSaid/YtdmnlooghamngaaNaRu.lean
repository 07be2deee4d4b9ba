/-
  The law NamesRuns walked.
-/
import Derived.Test.YtdmnlooghamngaaNaS9
namespace Go.Proofs.Ytdmnlooghamngaa
open Go.RowKit

set_option maxHeartbeats 8000000 in
set_option maxRecDepth 100000 in
theorem runs_small (L : List Nm.Cal) (tp : Option Addr) (m cap : Nat) (hm : L.length = m) (hs : SmallC L) (w : World) (hr : CRows w tp L) (hg : Calls Try.prog 9 #[.slice tp m cap] w fun e w' => e = .returned (.bool false) ∧ w = w') :
    Calls Try.prog 3 #[.slice tp m cap] w (YesSay w) := by
  have HN := Lib.hid hm; clear hm
  have HG := Lib.hid hg; clear hg
  have hm150 : m ≤ 150 := by have := hs.1; have := HN.out; omega
  have HSM := Lib.hid hs; clear hs
  have HROW : Hid (∀ (r : Nat) (x : Nm.Cal), L[r]? = some x → ∃ tb tf ph ch pp cp, tp = some ⟨tb, tf, none⟩ ∧ ∀ y, Below w.heap.size w y → CalAt y tb (tf + r * 7) x ph ch pp cp) := fun r x hx => by
    have hlt := (List.getElem?_eq_some_iff.1 hx).1
    obtain ⟨tb, tf, h1, h2⟩ := hr (by omega)
    obtain ⟨ph, ch, pp, cp, h3⟩ := h2 r x hx
    exact ⟨tb, tf, ph, ch, pp, cp, h1, fun y hy => h3.old hy⟩
  clear hr
  go_enter Try.func3, Try.ntmps3
  go_wp2_with (first
    | (go_at_call 9; refine HG.out.mono ?_; rintro e1 w1 ⟨rfl, rfl⟩)
    | (go_at_call 11; refine (new_any _).mono ?_; rintro e2 w2 ⟨g, b, c, rfl, LX, S2, hb2⟩; have B2 := Lib.hid hb2; clear hb2)
    | (go_at_call 12; refine (refnew_any _).mono ?_; rintro e3 w3 ⟨gr, rfl, LG, R3, hb3⟩; have B3 : Hid (Below w2.heap.size w2 w3) := Lib.hid hb3; clear hb3))
  obtain ⟨N2, HN2⟩ : ∃ N2, Hid (N2 = w2.heap.size) := ⟨_, rfl⟩
  have R0 : Hid (Rd w N2 g b c gr (.slice none 0 0) (.slice none 0 0) (.slice none 0 0) 0 (fun _ => []) Nm.St.none Nm.St.none w3) := by
    show Rd _ _ _ _ _ _ _ _ _ _ _ _ _ _
    rw [HN2.out]
    have hl := S2.out.lt
    exact ⟨B2.out.trans (B3.out.mono B2.out.size), ⟨B2.out.size, B3.out.size⟩, ⟨LX.out, hl⟩, S2.out.old B3.out, R3.out, got_nil _ _ _, fun k hk => by cases hk⟩
  clear B2 B3 R3 S2 LX LG HN2
  go_loopw [5, 6] (fun v5 v6 wr => ∃ (k : Nat) (V u1 u2 : Value) (n : Nat) (Q : Nat → List Int) (S : Nm.St), k ≤ m ∧ v6 = .int .i64 k ∧ V = v5 ∧ Hid (Rd w N2 g b c gr V u1 u2 n Q S S wr) ∧ Hid (S.ss.length ≤ k ∧ S.ts.length ≤ k ∧ n ≤ k ∧ ∀ j, j < n → Sha.Byt (Q j) ∧ (Q j).length ≤ 5000)) (fun _ v6 _ => m - (intOf v6).toNat)
  case atStart => exact ⟨0, _, _, _, 0, _, _, Nat.zero_le _, rfl, rfl, R0.out, ⟨Nat.le_refl _, Nat.le_refl _, Nat.le_refl _, fun j hj => by omega⟩⟩
  case round =>
    clear R0
    obtain ⟨k, V, u1, u2, n, Q, S, hk, rfl, rfl, HR, HQ⟩ := hrel
    by_cases hlt : k < m
    · obtain ⟨x, hx⟩ : ∃ x, L[k]? = some x := ⟨L[k]'(by rw [HN.out]; exact hlt), List.getElem?_eq_getElem _⟩
      obtain ⟨tb, tf, xh, xch, xp, xcp, rfl, hrow⟩ := HROW.out k x hx
      have HFA := Lib.hid hrow; clear hrow
      have HXS := Lib.hid (HSM.out.2 x (List.mem_of_getElem? hx))
      clear hx
      have hk0 : 0 ≤ (k : Int) := by omega
      have hk1 : (k : Int) < (m : Int) := by omega
      obtain ⟨c0, c1, c2, c3, c4, c5, c6, _, _, _, _, _⟩ := HFA.out _ HR.out.old
      go_upto_region 12 with (fail)
      obtain ⟨w6, HW6⟩ : ∃ y : World, Hid (y = wr.alloc (.cells #[.int .i64 x.kind, .int .i64 x.epoch, .int .i64 x.number, .int .i64 x.i, .slice xh x.head.length xch, .slice xp x.b.length xcp, .int .u8 x.wi] 32)) := ⟨_, rfl⟩
      rw [← HW6.out]
      have g6 : Hid (w6.heap[wr.heap.size]? = some (.cells #[.int .i64 x.kind, .int .i64 x.epoch, .int .i64 x.number, .int .i64 x.i, .slice xh x.head.length xch, .slice xp x.b.length xcp, .int .u8 x.wi] 32 (0, 0))) := by show _ = _; rw [HW6.out]; exact heap_alloc_new wr _
      have DR : Hid (Below wr.heap.size wr w6) := by show Below _ _ _; rw [HW6.out]; exact (Below.refl _ wr).alloc (Nat.le_refl _) _
      have Z6 : Hid (wr.heap.size < w6.heap.size) := lt_of_block g6.out
      clear c0 c1 c2 c3 c4 c5 c6 HW6
      have HR6 := Lib.hid (HR.out.next DR.out)
      have HCA : Hid (∀ y, Below w.heap.size w y → Bs y xh xch x.head ∧ Bs y xp xcp x.b) := fun y hy => ⟨(HFA.out y hy).bh, (HFA.out y hy).bp⟩
      have HBX : Hid (∀ y, Fr N2 w6 y → y.cell? ⟨wr.heap.size, 0, none⟩ = some (.int .i64 x.kind) ∧ y.cell? ⟨wr.heap.size, 1, none⟩ = some (.int .i64 x.epoch) ∧ y.cell? ⟨wr.heap.size, 2, none⟩ = some (.int .i64 x.number) ∧ y.cell? ⟨wr.heap.size, 3, none⟩ = some (.int .i64 x.i) ∧ y.cell? ⟨wr.heap.size, 4, none⟩ = some (.slice xh x.head.length xch) ∧ y.cell? ⟨wr.heap.size, 5, none⟩ = some (.slice xp x.b.length xcp) ∧ y.cell? ⟨wr.heap.size, 6, none⟩ = some (.int .u8 x.wi)) := fun y hy => by
        have h := (hy _ _ _ g6.out HR.out.sz.2 (Or.inl rfl)).trans g6.out
        exact ⟨by rw [cell_of_row _ _ 0 _ _ _ h]; rfl, by rw [cell_of_row _ _ 1 _ _ _ h]; rfl, by rw [cell_of_row _ _ 2 _ _ _ h]; rfl, by rw [cell_of_row _ _ 3 _ _ _ h]; rfl, by rw [cell_of_row _ _ 4 _ _ _ h]; rfl, by rw [cell_of_row _ _ 5 _ _ _ h]; rfl, by rw [cell_of_row _ _ 6 _ _ _ h]; rfl⟩
      obtain ⟨b0, b1, b2, b3, b4, b5, b6⟩ := HBX.out _ (Fr.refl _ _)
      have HFE : Hid (∀ (E : List Nat), (∀ q ∈ E, w6.heap.size ≤ q) → RdE E N2 gr V u1 u2 n S w6) := fun E hE => HR6.out.fresh hE
      have HI := Lib.hid (show Nm.In64 x.epoch ∧ Nm.In64 x.number from ⟨(HFA.out _ HR.out.old).i1, (HFA.out _ HR.out.old).i2⟩)
      clear HFA g6 DR HR
      cases hk3 : (x.kind == 3) with
      | true =>
        have hk3e : x.kind = 3 := by simpa using hk3
        have hk0 : (x.kind == 0) = false := by rw [hk3e]; rfl
        have hk1 : (x.kind == 1) = false := by rw [hk3e]; rfl
        clear hk3e
        obtain ⟨ad, cpV, rfl⟩ : ∃ ad cpV, V = .slice ad n cpV := by
          obtain ⟨xs, h1, _⟩ := HR6.out.got
          rcases h1.2 with ⟨h2, h3⟩ | ⟨g', cap', cur', h2, _⟩
          · exact ⟨none, 0, by rw [h2, h3]⟩
          · exact ⟨_, _, h2⟩
        by_cases hn0 : 0 < n
        · have hn1 : (0 : Int) < (n : Int) := by omega
          obtain ⟨gs, cpV', hVe⟩ := got_some HR6.out.got hn0
          cases hVe
          have HPK := Lib.hid (pk_lt x.i n (by omega))
          obtain ⟨p, m, c1, hcell, hQm, hrow⟩ := HR6.out.got.at (j := pk x.i n) (by have := HPK.out; omega)
          have HBD := Lib.hid (HQ.out.2.2.2 (pk x.i n) (by have := HPK.out; omega))
          have hp0 : (0 : Int) ≤ (pk x.i n : Int) := by omega
          have hp1 : (pk x.i n : Int) < (n : Int) := HPK.out
          have HQM := Lib.hid hQm
          have HRW := Lib.hid hrow
          clear hQm hrow
          have DD : Hid (Below w6.heap.size w6 w6.drew) := (Below.refl _ w6).drew
          go_upto_region 16 with (fail)
          go_region_held3 (fun y => y.cell? ⟨wr.heap.size, 3, none⟩ = some (.int .i64 x.i) ∧ y.cell? ⟨wr.heap.size, 6, none⟩ = some (.int .u8 x.wi) ∧ y.cell? ⟨gs, pk x.i n, none⟩ = some (.slice p m c1))
            (exact ⟨(HBX.out _ (Fr.below (Hid.out (by assumption)))).2.2.2.1, (HBX.out _ (Fr.below (Hid.out (by assumption)))).2.2.2.2.2.2, (Below.cell (Hid.out (by assumption)) (World.block_lt_of_cell? _ _ hcell)).trans hcell⟩)
            (first
              | (go_at_call 14; refine (pick_at x.i n (by omega) (by have := HQ.out; omega) _).mono ?_; rintro e1 w1 ⟨rfl, rfl⟩)
              | (go_at_call 13; refine (turned_any (Q (pk x.i n)) p m c1 x.wi HQM.out (by have := HQM.out; have := HBD.out.2; omega) _ (bs_own (own_keepX HRW.out (Below.refl _ w6).drew) HBD.out.1)).mono ?_; rintro e2 wt ⟨v3, M, rfl, hM, hMb, hO, hb⟩; obtain ⟨p3, c3, rfl, _, _⟩ := own_bs hO.out hMb; have DT : Hid (Below w6.heap.size w6 wt) := ((Below.refl _ w6).drew).trans hb; have HM3 := Lib.hid hM; have HMB := Lib.hid hMb; clear hM hMb hb))
          obtain rfl : m = M.length := HM3.out.symm
          have HR6t := Lib.hid (HR6.out.next DT.out)
          have HCB : Hid (∀ y, Fr N2 wt y → Bs y p3 c3 M) := fun y hy => bs_own (hy.own (own_base hO.out (show N2 ≤ w6.drew.heap.size from HR6.out.sz.2))) HMB.out
          have HXT : Hid (x.head.length ≤ 1024 ∧ M.length ≤ 5000) := ⟨HXS.out.1, by have := HQM.out; have := HBD.out.2; omega⟩
          have HBY := Lib.hid (fun (y : World) (hy : Fr N2 wt y) => HBX.out y ((Fr.below DT.out).trans hy))
          have HFY : Hid (∀ (E : List Nat), (∀ q ∈ E, wt.heap.size ≤ q) → RdE E N2 gr (.slice (some ⟨gs, 0, none⟩) n cpV) u1 u2 n S wt) := fun E hE => HR6t.out.fresh hE
          clear hcell HPK HBD HQM HRW HXS HBX HFE b0 b1 b2 b3 b4 b5 b6 hO HR6 hp0 hp1 hn1 HM3
          have HR6 := HR6t
          have HXS := HXT
          have HBX := HBY
          have HFE := HFY
          clear HR6t HXT HBY HFY
          obtain ⟨b0, b1, b2, b3, b4, b5, b6⟩ := HBX.out _ (Fr.refl _ _)
          have TK : Hid True := trivial
          go_upto_region 20 with (first
            | (go_at_call 15; have tk := TK.out; clear tk TK; refine (lent_any x.head xh xch _ (HCA.out _ HR6.out.old).1.bat (by have := HXS.out; omega)).mono ?_; rintro e7 w7 ⟨hq, rfl, hhq, hG7, hb7⟩; have HQ7 := Lib.hid hhq; have G7 := Lib.hid hG7; have D7 : Hid (Below wt.heap.size wt w7) := Lib.hid hb7; have HR7 := Lib.hid (HR6.out.next hb7); clear hhq hG7 hb7 b0 b1 b2 b3 b4 b5 b6)
            | (go_at_call 15; refine (lent_any M p3 c3 _ (HCB.out _ (Fr.below D7.out)).bat (by have := HXS.out; omega)).mono ?_; rintro e8 w8 ⟨pq, rfl, hpq, hG8, hb8⟩; have HNE8 : Hid (pq ≠ hq) := (by have h1 := lt_of_block G7.out; show _ ≠ _; omega); have HQ8 : Hid (wt.heap.size ≤ pq) := Nat.le_trans D7.out.size hpq; have GP := Lib.hid hG8; have GH := Lib.hid ((hb8.block _ (lt_of_block G7.out)).trans G7.out); have D8 : Hid (Below wt.heap.size wt w8) := D7.out.trans (hb8.mono D7.out.size); have HR8 := Lib.hid (HR7.out.next hb8); obtain ⟨b0, b1, b2, b3, b4, b5, b6⟩ := HBX.out _ (Fr.below D8.out); clear hpq hG8 hb8 G7 HR7 D7))
          have HE8 : Hid (RdE [hq, pq] N2 gr (.slice (some ⟨gs, 0, none⟩) n cpV) u1 u2 n S w8) := (HFE.out [hq, pq] (fun q hq' => by
            simp at hq'
            rcases hq' with rfl | rfl
            · exact HQ7.out
            · exact HQ8.out)).next HR6.out D8.out
          have HNE : Hid (pq ≠ hq) := HNE8
          obtain ⟨O, HO⟩ : ∃ O, Hid (Nm.opn S x.epoch x.number x.head M = O) := ⟨_, rfl⟩
          have HOL : Hid ((O.getD []).length ≤ 5000) := by show _ ≤ _; rw [← HO.out]; exact Nat.le_trans (Nm.opn_short _ _ _ _ _) (by have := HXS.out.2; omega)
          have F8 : Hid (Fr N2 wt w8.drew) := Fr.below D8.out.drew
          have HRD8 := Lib.hid (HR8.out.next ((Below.refl _ w8).drew))
          have HLH : Hid (Bs w8.drew (some ⟨hq, 0, none⟩) (x.head.length + 5) x.head) := lent_bs (by have := HXS.out; omega) GH.out (HCA.out _ HR8.out.old).1.bat.1
          have HLP : Hid (Bs w8.drew (some ⟨pq, 0, none⟩) (M.length + 5) M) := lent_bs (by have := HXS.out; omega) GP.out (HCB.out _ (Fr.below D8.out)).bat.1
          clear b0 b1 b2 b3 b4 b5 b6
          obtain ⟨b0, _, _, _, _, _, _⟩ := HBX.out _ (Fr.below D8.out)
          have hsl1 : (x.head.length : Int) ≤ (x.head.length : Int) + 5 := by omega
          have hsl2 : (M.length : Int) ≤ (M.length : Int) + 5 := by omega
          have hsl3 : x.head.length ≤ x.head.length + 5 := by omega
          have hsl4 : M.length ≤ M.length + 5 := by omega
          have hsl5 : (0 : Int) ≤ (x.head.length : Int) := by omega
          have hsl6 : (0 : Int) ≤ (M.length : Int) := by omega
          go_upto_region 29 with (fail)
          go_region_held3 (fun y => y.cell? ⟨wr.heap.size, 1, none⟩ = some (.int .i64 x.epoch) ∧ y.cell? ⟨wr.heap.size, 2, none⟩ = some (.int .i64 x.number) ∧ y.cell? ⟨wr.heap.size, 4, none⟩ = some (.slice xh x.head.length xch))
            (exact (fun q => ⟨q.2.1, q.2.2.1, q.2.2.2.2.1⟩) (HBX.out _ (Hid.out (by assumption))))
            (first
              | (go_at_call 20; refine (open_any S x.epoch x.number x.head M g b c _ _ _ _ _ _ rfl rfl (by have := HXS.out; omega) HI.out.1 HI.out.2 _ HRD8.out.st HLH.out HLP.out).mono ?_; rw [HO.out]; rintro e9 w9 ⟨p9, k9, m9, rfl, hm9, O9, P9, hb9⟩; have HM9 := Lib.hid hm9; have D9 : Hid (Below w8.heap.size w8 w9) := ((Below.refl _ w8).drew).trans hb9; have F9 : Hid (Fr N2 wt w9) := Fr.below (D8.out.trans (D9.out.mono D8.out.size)); clear hm9 hb9))
          have HR9 := Lib.hid (HR8.out.next D9.out)
          clear HRD8 HLH HLP F8
          obtain ⟨b0, b1, b2, b3, b4, b5, b6⟩ := HBX.out _ F9.out
          go_upto_region 31 with (go_at_call 21; refine (refopen_any S x.epoch x.number x.head M N2 gr u1 u2 xh p3 _ _ xch c3 rfl rfl (by have := HXS.out; have := HQ.out; omega) _ HR9.out.ref (HCA.out _ HR9.out.old).1 (HCB.out _ F9.out)).mono ?_; rw [HO.out]; rintro e10 w10 ⟨p10, k10, m10, rfl, hm10, O10, P10, hb10⟩; have HM10 := Lib.hid hm10; have D10 : Hid (Below w8.heap.size w8 w10) := D9.out.trans (hb10.mono D9.out.size); have P9b := Lib.hid (P9.out.old hb10); have O9b := Lib.hid (own_keepX O9.out hb10); clear hm10 hb10 P9 O9)
          generalize O.isSome = ok at *
          go_upto_region 37 with (first
            | (go_at_call 18; refine (same_any (O.getD []) p9 p10 m9 m10 k9 k10 HM9.out HM10.out _ P9b.out.bat P10.out.bat (by have := HOL.out; omega)).mono ?_; rintro e11 w11 ⟨rfl, hb11⟩; have D11 : Hid (Below w8.heap.size w8 w11) := D10.out.trans (hb11.mono D10.out.size); have O9c := Lib.hid (own_keepX O9b.out hb11); clear hb11 O9b P9b)
            | (go_at_call 19; refine (spoil_own O9c.out (by have := HOL.out; have := HM9.out; omega)).mono ?_; rintro e12 w12 ⟨rfl, hs12⟩; have D12 : Hid (Below w8.heap.size w8 w12) := Lib.hid (hs12.below D11.out D11.out.size (fun q hq => (O9c.out.lt q hq).1)); clear hs12 O9c))
          clear b0 b1 b2 b3 b4 b5 b6
          have HRT := Lib.hid (HR8.out.next D12.out)
          have HET := Lib.hid (HE8.out.next HR8.out D12.out)
          have FRT : Hid (Fr N2 w8 w12) := Fr.below D12.out
          have HQT : Hid (S.ss.length ≤ k + 1 ∧ S.ts.length ≤ k + 1 ∧ n ≤ k + 1 ∧ ∀ j, j < n → Sha.Byt (Q j) ∧ (Q j).length ≤ 5000) := Lib.hid ⟨by have := HQ.out.1; omega, by have := HQ.out.2.1; omega, by have := HQ.out.2.2.1; omega, HQ.out.2.2.2⟩
          have TK : Hid True := trivial
          have TJ : Hid True := trivial
          have GHT := Lib.hid ((FRT.out _ _ _ GH.out (Nat.le_trans HR6.out.sz.2 HQ7.out) (Or.inr rfl)).trans GH.out)
          have GPT := Lib.hid ((FRT.out _ _ _ GP.out (Nat.le_trans HR6.out.sz.2 HQ8.out) (Or.inr rfl)).trans GP.out)
          have hbh := (HCA.out _ HRT.out.old).1.bat.1
          have HBH := Lib.hid hbh
          have HBP := Lib.hid (HCB.out _ ((Fr.below D8.out).trans FRT.out)).bat.1
          clear hbh
          obtain ⟨b0, b1, b2, b3, b4, b5, b6⟩ := HBX.out _ ((Fr.below D8.out).trans FRT.out)
          go_wp2_with (first
            | (go_at_call 24; have tk := TK.out; clear tk TK; refine (kept_any x.head hq xh _ xch _ (bat_row GHT.out (mk5_byt HBH.out)) (HCA.out _ HRT.out.old).1.bat (by have := HXS.out; omega) (Nat.le_refl _)).mono ?_; rintro ea wa ⟨rfl, hba⟩; have HRA := Lib.hid (HRT.out.next hba); have HEA := Lib.hid (HET.out.next HRT.out hba); have GHA := Lib.hid ((hba.block _ (lt_of_block GHT.out)).trans GHT.out); have GPA := Lib.hid ((hba.block _ (lt_of_block GPT.out)).trans GPT.out); have FRA : Hid (Fr N2 _ wa) := Fr.below hba; clear hba)
            | (go_at_call 24; refine (kept_any M pq p3 _ c3 _ (bat_row GPA.out (mk5_byt HBP.out)) (HCB.out _ (((Fr.below D8.out).trans FRT.out).trans FRA.out)).bat (by have := HXS.out; omega) (Nat.le_refl _)).mono ?_; rintro eb wb ⟨rfl, hbb⟩; have HRB := Lib.hid (HRA.out.next hbb); have HEB := Lib.hid (HEA.out.next HRA.out hbb); have GHB := Lib.hid ((hbb.block _ (lt_of_block GHA.out)).trans GHA.out); have GPB := Lib.hid ((hbb.block _ (lt_of_block GPA.out)).trans GPA.out); clear hbb)
            | (go_at_call 19; have tk := TJ.out; clear tk TJ; refine (spoil_lent x.head hq (by have := HXS.out; omega) _ GHB.out).mono ?_; rintro ec wc ⟨rfl, hoc⟩; obtain ⟨hrc, hec⟩ := HRB.out.turn HEB.out (by first | exact HEM.out.1 | simp) hoc; have HRC := Lib.hid hrc; have HEC := Lib.hid hec; have GPC := Lib.hid ((hoc.block _ (lt_of_block GPB.out) HNE.out).trans GPB.out); clear hrc hec hoc)
            | (go_at_call 19; refine (spoil_lent M pq (by have := HXS.out; omega) _ GPC.out).mono ?_; rintro ed wd ⟨rfl, hod⟩; obtain ⟨hrd, _⟩ := HRC.out.turn HEC.out (by first | exact HEM.out.2.1 | simp) hod; have HRD := Lib.hid hrd; clear hrd hod))
          exact ⟨⟨k + 1, _, _, _, _, _, _, by omega, by go_num, rfl, HRD.out, HQT.out⟩, by simp [intOf]; omega⟩
        · obtain rfl : n = 0 := by omega
          go_upto_region 17 with (fail)
          obtain ⟨M, p3, c3, hM, hpc⟩ : ∃ (M : List Int) (p3 : Option Addr) (c3 : Nat), Hid (M.length ≤ 5000 ∧ ∀ y, Bs y p3 c3 M) ∧ Value.slice none 0 0 = .slice p3 M.length c3 := ⟨[], none, 0, ⟨by simp, fun y => bs_none y⟩, rfl⟩
          rw [hpc]
          clear hpc
          have HCB : Hid (∀ y, Fr N2 w6 y → Bs y p3 c3 M) := fun y _ => hM.out.2 y
          have HXT : Hid (x.head.length ≤ 1024 ∧ M.length ≤ 5000) := ⟨HXS.out.1, hM.out.1⟩
          clear HXS
          have HXS := HXT
          clear HXT hM
          have TK : Hid True := trivial
          go_upto_region 20 with (first
            | (go_at_call 15; have tk := TK.out; clear tk TK; refine (lent_any x.head xh xch _ (HCA.out _ HR6.out.old).1.bat (by have := HXS.out; omega)).mono ?_; rintro e7 w7 ⟨hq, rfl, hhq, hG7, hb7⟩; have HQ7 := Lib.hid hhq; have G7 := Lib.hid hG7; have D7 : Hid (Below w6.heap.size w6 w7) := Lib.hid hb7; have HR7 := Lib.hid (HR6.out.next hb7); clear hhq hG7 hb7 b0 b1 b2 b3 b4 b5 b6)
            | (go_at_call 15; refine (lent_any M p3 c3 _ (HCB.out _ (Fr.below D7.out)).bat (by have := HXS.out; omega)).mono ?_; rintro e8 w8 ⟨pq, rfl, hpq, hG8, hb8⟩; have HNE8 : Hid (pq ≠ hq) := (by have h1 := lt_of_block G7.out; show _ ≠ _; omega); have HQ8 : Hid (w6.heap.size ≤ pq) := Nat.le_trans D7.out.size hpq; have GP := Lib.hid hG8; have GH := Lib.hid ((hb8.block _ (lt_of_block G7.out)).trans G7.out); have D8 : Hid (Below w6.heap.size w6 w8) := D7.out.trans (hb8.mono D7.out.size); have HR8 := Lib.hid (HR7.out.next hb8); obtain ⟨b0, b1, b2, b3, b4, b5, b6⟩ := HBX.out _ (Fr.below D8.out); clear hpq hG8 hb8 G7 HR7 D7))
          have HE8 : Hid (RdE [hq, pq] N2 gr (.slice ad 0 cpV) u1 u2 0 S w8) := (HFE.out [hq, pq] (fun q hq' => by
            simp at hq'
            rcases hq' with rfl | rfl
            · exact HQ7.out
            · exact HQ8.out)).next HR6.out D8.out
          have HNE : Hid (pq ≠ hq) := HNE8
          obtain ⟨O, HO⟩ : ∃ O, Hid (Nm.opn S x.epoch x.number x.head M = O) := ⟨_, rfl⟩
          have HOL : Hid ((O.getD []).length ≤ 5000) := by show _ ≤ _; rw [← HO.out]; exact Nat.le_trans (Nm.opn_short _ _ _ _ _) (by have := HXS.out.2; omega)
          have F8 : Hid (Fr N2 w6 w8.drew) := Fr.below D8.out.drew
          have HRD8 := Lib.hid (HR8.out.next ((Below.refl _ w8).drew))
          have HLH : Hid (Bs w8.drew (some ⟨hq, 0, none⟩) (x.head.length + 5) x.head) := lent_bs (by have := HXS.out; omega) GH.out (HCA.out _ HR8.out.old).1.bat.1
          have HLP : Hid (Bs w8.drew (some ⟨pq, 0, none⟩) (M.length + 5) M) := lent_bs (by have := HXS.out; omega) GP.out (HCB.out _ (Fr.below D8.out)).bat.1
          clear b0 b1 b2 b3 b4 b5 b6
          obtain ⟨b0, _, _, _, _, _, _⟩ := HBX.out _ (Fr.below D8.out)
          have hsl1 : (x.head.length : Int) ≤ (x.head.length : Int) + 5 := by omega
          have hsl2 : (M.length : Int) ≤ (M.length : Int) + 5 := by omega
          have hsl3 : x.head.length ≤ x.head.length + 5 := by omega
          have hsl4 : M.length ≤ M.length + 5 := by omega
          have hsl5 : (0 : Int) ≤ (x.head.length : Int) := by omega
          have hsl6 : (0 : Int) ≤ (M.length : Int) := by omega
          go_upto_region 29 with (fail)
          go_region_held3 (fun y => y.cell? ⟨wr.heap.size, 1, none⟩ = some (.int .i64 x.epoch) ∧ y.cell? ⟨wr.heap.size, 2, none⟩ = some (.int .i64 x.number) ∧ y.cell? ⟨wr.heap.size, 4, none⟩ = some (.slice xh x.head.length xch))
            (exact (fun q => ⟨q.2.1, q.2.2.1, q.2.2.2.2.1⟩) (HBX.out _ (Hid.out (by assumption))))
            (first
              | (go_at_call 20; refine (open_any S x.epoch x.number x.head M g b c _ _ _ _ _ _ rfl rfl (by have := HXS.out; omega) HI.out.1 HI.out.2 _ HRD8.out.st HLH.out HLP.out).mono ?_; rw [HO.out]; rintro e9 w9 ⟨p9, k9, m9, rfl, hm9, O9, P9, hb9⟩; have HM9 := Lib.hid hm9; have D9 : Hid (Below w8.heap.size w8 w9) := ((Below.refl _ w8).drew).trans hb9; have F9 : Hid (Fr N2 w6 w9) := Fr.below (D8.out.trans (D9.out.mono D8.out.size)); clear hm9 hb9))
          have HR9 := Lib.hid (HR8.out.next D9.out)
          clear HRD8 HLH HLP F8
          obtain ⟨b0, b1, b2, b3, b4, b5, b6⟩ := HBX.out _ F9.out
          go_upto_region 31 with (go_at_call 21; refine (refopen_any S x.epoch x.number x.head M N2 gr u1 u2 xh p3 _ _ xch c3 rfl rfl (by have := HXS.out; have := HQ.out; omega) _ HR9.out.ref (HCA.out _ HR9.out.old).1 (HCB.out _ F9.out)).mono ?_; rw [HO.out]; rintro e10 w10 ⟨p10, k10, m10, rfl, hm10, O10, P10, hb10⟩; have HM10 := Lib.hid hm10; have D10 : Hid (Below w8.heap.size w8 w10) := D9.out.trans (hb10.mono D9.out.size); have P9b := Lib.hid (P9.out.old hb10); have O9b := Lib.hid (own_keepX O9.out hb10); clear hm10 hb10 P9 O9)
          generalize O.isSome = ok at *
          go_upto_region 37 with (first
            | (go_at_call 18; refine (same_any (O.getD []) p9 p10 m9 m10 k9 k10 HM9.out HM10.out _ P9b.out.bat P10.out.bat (by have := HOL.out; omega)).mono ?_; rintro e11 w11 ⟨rfl, hb11⟩; have D11 : Hid (Below w8.heap.size w8 w11) := D10.out.trans (hb11.mono D10.out.size); have O9c := Lib.hid (own_keepX O9b.out hb11); clear hb11 O9b P9b)
            | (go_at_call 19; refine (spoil_own O9c.out (by have := HOL.out; have := HM9.out; omega)).mono ?_; rintro e12 w12 ⟨rfl, hs12⟩; have D12 : Hid (Below w8.heap.size w8 w12) := Lib.hid (hs12.below D11.out D11.out.size (fun q hq => (O9c.out.lt q hq).1)); clear hs12 O9c))
          clear b0 b1 b2 b3 b4 b5 b6
          have HRT := Lib.hid (HR8.out.next D12.out)
          have HET := Lib.hid (HE8.out.next HR8.out D12.out)
          have FRT : Hid (Fr N2 w8 w12) := Fr.below D12.out
          have HQT : Hid (S.ss.length ≤ k + 1 ∧ S.ts.length ≤ k + 1 ∧ 0 ≤ k + 1 ∧ ∀ j, j < 0 → Sha.Byt (Q j) ∧ (Q j).length ≤ 5000) := Lib.hid ⟨by have := HQ.out.1; omega, by have := HQ.out.2.1; omega, by have := HQ.out.2.2.1; omega, HQ.out.2.2.2⟩
          have TK : Hid True := trivial
          have TJ : Hid True := trivial
          have GHT := Lib.hid ((FRT.out _ _ _ GH.out (Nat.le_trans HR6.out.sz.2 HQ7.out) (Or.inr rfl)).trans GH.out)
          have GPT := Lib.hid ((FRT.out _ _ _ GP.out (Nat.le_trans HR6.out.sz.2 HQ8.out) (Or.inr rfl)).trans GP.out)
          have hbh := (HCA.out _ HRT.out.old).1.bat.1
          have HBH := Lib.hid hbh
          have HBP := Lib.hid (HCB.out _ ((Fr.below D8.out).trans FRT.out)).bat.1
          clear hbh
          obtain ⟨b0, b1, b2, b3, b4, b5, b6⟩ := HBX.out _ ((Fr.below D8.out).trans FRT.out)
          go_wp2_with (first
            | (go_at_call 24; have tk := TK.out; clear tk TK; refine (kept_any x.head hq xh _ xch _ (bat_row GHT.out (mk5_byt HBH.out)) (HCA.out _ HRT.out.old).1.bat (by have := HXS.out; omega) (Nat.le_refl _)).mono ?_; rintro ea wa ⟨rfl, hba⟩; have HRA := Lib.hid (HRT.out.next hba); have HEA := Lib.hid (HET.out.next HRT.out hba); have GHA := Lib.hid ((hba.block _ (lt_of_block GHT.out)).trans GHT.out); have GPA := Lib.hid ((hba.block _ (lt_of_block GPT.out)).trans GPT.out); have FRA : Hid (Fr N2 _ wa) := Fr.below hba; clear hba)
            | (go_at_call 24; refine (kept_any M pq p3 _ c3 _ (bat_row GPA.out (mk5_byt HBP.out)) (HCB.out _ (((Fr.below D8.out).trans FRT.out).trans FRA.out)).bat (by have := HXS.out; omega) (Nat.le_refl _)).mono ?_; rintro eb wb ⟨rfl, hbb⟩; have HRB := Lib.hid (HRA.out.next hbb); have HEB := Lib.hid (HEA.out.next HRA.out hbb); have GHB := Lib.hid ((hbb.block _ (lt_of_block GHA.out)).trans GHA.out); have GPB := Lib.hid ((hbb.block _ (lt_of_block GPA.out)).trans GPA.out); clear hbb)
            | (go_at_call 19; have tk := TJ.out; clear tk TJ; refine (spoil_lent x.head hq (by have := HXS.out; omega) _ GHB.out).mono ?_; rintro ec wc ⟨rfl, hoc⟩; obtain ⟨hrc, hec⟩ := HRB.out.turn HEB.out (by first | exact HEM.out.1 | simp) hoc; have HRC := Lib.hid hrc; have HEC := Lib.hid hec; have GPC := Lib.hid ((hoc.block _ (lt_of_block GPB.out) HNE.out).trans GPB.out); clear hrc hec hoc)
            | (go_at_call 19; refine (spoil_lent M pq (by have := HXS.out; omega) _ GPC.out).mono ?_; rintro ed wd ⟨rfl, hod⟩; obtain ⟨hrd, _⟩ := HRC.out.turn HEC.out (by first | exact HEM.out.2.1 | simp) hod; have HRD := Lib.hid hrd; clear hrd hod))
          exact ⟨⟨k + 1, _, _, _, _, _, _, by omega, by go_num, rfl, HRD.out, HQT.out⟩, by simp [intOf]; omega⟩
      | false =>
        have TK : Hid True := trivial
        go_upto_region 20 with (first
          | (go_at_call 15; have tk := TK.out; clear tk TK; refine (lent_any x.head xh xch _ (HCA.out _ HR6.out.old).1.bat (by have := HXS.out; omega)).mono ?_; rintro e7 w7 ⟨hq, rfl, hhq, hG7, hb7⟩; have HQ7 := Lib.hid hhq; have G7 := Lib.hid hG7; have D7 : Hid (Below w6.heap.size w6 w7) := Lib.hid hb7; have HR7 := Lib.hid (HR6.out.next hb7); clear hhq hG7 hb7 b0 b1 b2 b3 b4 b5 b6)
          | (go_at_call 15; refine (lent_any x.b xp xcp _ (HCA.out _ HR7.out.old).2.bat (by have := HXS.out; omega)).mono ?_; rintro e8 w8 ⟨pq, rfl, hpq, hG8, hb8⟩; have HNE8 : Hid (pq ≠ hq) := (by have h1 := lt_of_block G7.out; show _ ≠ _; omega); have HQ8 : Hid (w6.heap.size ≤ pq) := Nat.le_trans D7.out.size hpq; have GP := Lib.hid hG8; have GH := Lib.hid ((hb8.block _ (lt_of_block G7.out)).trans G7.out); have D8 : Hid (Below w6.heap.size w6 w8) := D7.out.trans (hb8.mono D7.out.size); have HR8 := Lib.hid (HR7.out.next hb8); obtain ⟨b0, b1, b2, b3, b4, b5, b6⟩ := HBX.out _ (Fr.below D8.out); clear hpq hG8 hb8 G7 HR7 D7))
        have HE8 : Hid (RdE [hq, pq] N2 gr V u1 u2 n S w8) := (HFE.out [hq, pq] (fun q hq' => by
          simp at hq'
          rcases hq' with rfl | rfl
          · exact HQ7.out
          · exact HQ8.out)).next HR6.out D8.out
        have HNE : Hid (pq ≠ hq) := HNE8
        cases hk0 : (x.kind == 0) with
        | true =>
          obtain ⟨X4, HX4⟩ : ∃ X4 : Nm.Four, Hid (X4 = (x.epoch, x.number, x.head, x.b)) := ⟨_, rfl⟩
          obtain ⟨A, HA⟩ : ∃ A : List Int, Hid (Nm.sl S (x.epoch, x.number, x.head, x.b) = A) := ⟨_, rfl⟩
          obtain ⟨S', HS'⟩ : ∃ S' : Nm.St, Hid (Nm.sld S (x.epoch, x.number, x.head, x.b) = S') := ⟨_, rfl⟩
          have HAL : Hid (A.length ≤ 4128) := by show _ ≤ _; rw [← HA.out, Nm.sl_len]; have h := HXS.out.2; split <;> simp <;> omega
          have HAB : Hid (Sha.Byt A) := by show Sha.Byt _; rw [← HA.out]; exact Nm.sl_byt _ _ (HCA.out _ HR8.out.old).2.bat.1
          have HSB : Hid (S'.ss.length ≤ k + 1 ∧ S'.ts.length ≤ k + 1) := by
            rw [← HS'.out]
            unfold Nm.sld
            have h1 := HQ.out.1
            have h2 := HQ.out.2.1
            split
            · exact Lib.hid ⟨Nat.le_trans Nm.put_len (by omega), by show S.ts.length ≤ _; omega⟩
            · exact Lib.hid ⟨by omega, by omega⟩
          have HRD8 := Lib.hid (HR8.out.next ((Below.refl _ w8).drew))
          have HLH : Hid (Bs w8.drew (some ⟨hq, 0, none⟩) (x.head.length + 5) x.head) := lent_bs (by have := HXS.out; omega) GH.out (HCA.out _ HR8.out.old).1.bat.1
          have HLP : Hid (Bs w8.drew (some ⟨pq, 0, none⟩) (x.b.length + 5) x.b) := lent_bs (by have := HXS.out; omega) GP.out (HCA.out _ HR8.out.old).2.bat.1
          have F8 : Hid (Fr N2 w6 w8.drew) := Fr.below D8.out.drew
          have hsl1 : (x.head.length : Int) ≤ (x.head.length : Int) + 5 := by omega
          have hsl2 : (x.b.length : Int) ≤ (x.b.length : Int) + 5 := by omega
          have hsl3 : x.head.length ≤ x.head.length + 5 := by omega
          have hsl4 : x.b.length ≤ x.b.length + 5 := by omega
          have hsl5 : (0 : Int) ≤ (x.head.length : Int) := by omega
          have hsl6 : (0 : Int) ≤ (x.b.length : Int) := by omega
          clear b0 b1 b2 b3 b4 b5 b6
          obtain ⟨b0, _, _, _, _, _, _⟩ := HBX.out _ (Fr.below D8.out)
          go_upto_region 21 with (fail)
          go_region_held3 (fun y => y.cell? ⟨wr.heap.size, 1, none⟩ = some (.int .i64 x.epoch) ∧ y.cell? ⟨wr.heap.size, 2, none⟩ = some (.int .i64 x.number) ∧ y.cell? ⟨wr.heap.size, 4, none⟩ = some (.slice xh x.head.length xch))
            (exact (fun q => ⟨q.2.1, q.2.2.1, q.2.2.2.2.1⟩) (HBX.out _ (Hid.out (by assumption))))
            (first
              | (go_at_call 16; refine (seal_any S (x.epoch, x.number, x.head, x.b) g b c _ _ _ _ _ _ rfl rfl (by have := HXS.out.2; show x.b.length ≤ _; omega) _ HRD8.out.st HLH.out HLP.out (by have := HQ.out; omega)).mono ?_; rintro e9 w9 ⟨p9, k9, m9, rfl, hm9, O9, P9, S9, o9⟩; rw [HA.out] at hm9 O9 P9; rw [HS'.out] at S9; have HM9 := Lib.hid hm9; have F89 : Hid (Fr N2 w8 w9) := Lib.hid (Fr.trans (Fr.below ((Below.refl _ w8).drew)) (Fr.only o9 HR8.out.blk.2.2.1)); have F9 : Hid (Fr N2 w6 w9) := Lib.hid ((Fr.below D8.out).trans F89.out); have HO9 := Lib.hid o9; clear hm9 o9))
          have HR9 := Lib.hid (HRD8.out.prog HO9.out ⟨HR8.out.blk.1.2.1, HR8.out.blk.2.2.1⟩ S9.out)
          have LE9 : Hid (∀ q, (Value.slice p9 m9 k9).ownBlock = some q → w8.heap.size ≤ q ∧ q < w9.heap.size) := fun q hq' => O9.out.lt q hq'
          obtain ⟨E, HEE⟩ : ∃ E : List Nat, Hid (E = hq :: pq :: (Value.slice p9 m9 k9).ownBlock.toList) := ⟨_, rfl⟩
          have HEM : Hid (hq ∈ E ∧ pq ∈ E ∧ ∀ q, (Value.slice p9 m9 k9).ownBlock = some q → q ∈ E) := by
            rw [HEE.out]
            exact Lib.hid ⟨by simp, by simp, fun q h => by rw [h]; simp⟩
          have HEL : Hid (∀ q ∈ E, w6.heap.size ≤ q ∧ q < w9.heap.size) := by
            rw [HEE.out]
            refine Lib.hid (fun q hq' => ?_)
            have h1 := lt_of_block GH.out
            have h2 := lt_of_block GP.out
            have h3 := HO9.out.size
            have h4 : w8.drew.heap.size = w8.heap.size := rfl
            simp only [List.mem_cons, Option.mem_toList] at hq'
            rcases hq' with rfl | rfl | h
            · exact ⟨HQ7.out, by omega⟩
            · exact ⟨HQ8.out, by omega⟩
            · have h5 := LE9.out q h
              exact ⟨Nat.le_trans D8.out.size h5.1, h5.2⟩
          have HE9 : Hid (RdE E N2 gr V u1 u2 n S w9) := Lib.hid ((((HFE.out E (fun q hq' => (HEL.out q hq').1)).next HR6.out D8.out).next HR8.out ((Below.refl _ w8).drew)).prog HRD8.out HO9.out HR8.out.blk.2.2.1)
          have HO9N := Lib.hid (own_base O9.out (show N2 ≤ w8.drew.heap.size from HR8.out.sz.2))
          clear HRD8 HLH HLP F8 HE8 S9 O9
          obtain ⟨b0, b1, b2, b3, b4, b5, b6⟩ := HBX.out _ F9.out
          go_upto_region 23 with (go_at_call 17; refine (refseal_any S (x.epoch, x.number, x.head, x.b) N2 gr u1 u2 xh xp _ _ xch xcp rfl rfl (by have h1 := HXS.out; have h2 := HQ.out; show x.head.length ≤ _ ∧ x.b.length ≤ _ ∧ _; omega) _ HR9.out.ref (HCA.out _ HR9.out.old).1 (fun y he => (HCA.out _ (st_eff HR9.out he (fun k hk => (HR9.out.ref.ss.type k hk).1)).2).2)).mono ?_; rintro e10 w10 ⟨v10, v1, rfl, W10, R10, E10, EE10⟩; rw [HA.out] at W10; rw [HS'.out] at R10 EE10)
          have HRX := Lib.hid (HR9.out.refseal E10.out R10.out)
          have HR10 := Lib.hid HRX.out.1
          have HE10 : Hid (RdE E N2 gr V v1 u2 n S' w10) := Lib.hid ⟨HE9.out.1, EE10.out E (fun q hq' => (HEL.out q hq').2) HE9.out.2.1, av_keep HE9.out.2.2 HR9.out.got HRX.out.2⟩
          have F10 : Hid (Fr N2 w8 w10) := Lib.hid (F89.out.trans (Fr.eff HR9.out E10.out (Or.inl rfl)))
          have Z910 : Hid (w9.heap.size ≤ w10.heap.size) := Lib.hid E10.out.size
          have O10 := Lib.hid ((Fr.eff HR9.out E10.out (Or.inl rfl)).own HO9N.out)
          obtain ⟨pw, kw, rfl, hqw, _⟩ := own_bs W10.out HAB.out
          have PW := Lib.hid hqw
          have P10 := Lib.hid (bs_own (by rw [HM9.out]; exact O10.out : w10.ownsRow N2 5 1 (.slice p9 A.length k9) A.length (U8s A)) HAB.out)
          clear hqw HRX R10 E10 EE10 HO9N F89
          obtain ⟨Q', HQ'⟩ : ∃ Q' : Nat → List Int, Hid (Q' = fun j => if j = n then A else Q j) := ⟨_, rfl⟩
          have HQN : Hid (Q' n = A) := by show _ = _; rw [HQ'.out]; simp
          have HQA : Hid ((Q' n).length = A.length) := by show _ = _; rw [HQN.out]
          have HRQ := Lib.hid (HR10.out.congr (Q' := Q') (fun j hj => by rw [HQ'.out]; exact if_neg (by omega)))
          have LW : Hid (∀ q, (Value.slice pw A.length kw).ownBlock = some q → q ∉ E) := Lib.hid (fun q hq' he => by have h1 := (W10.out.lt q hq').1; have h2 := (HEL.out q he).2; omega)
          have HAM : Hid (m9 = A.length) := Lib.hid HM9.out.symm
          have LN9 : Hid (N2 ≤ w9.heap.size) := Lib.hid HR9.out.sz.2
          have HLT8 : Hid (∀ q, q < w8.heap.size → (Value.slice p9 m9 k9).ownBlock ≠ some q) := Lib.hid (fun q h1 h2 => by have := (LE9.out q h2).1; omega)
          clear b0 b1 b2 b3 b4 b5 b6
          go_upto_region 37 with (first
            | (go_at_call 18; refine (same_any A p9 pw m9 A.length k9 kw HM9.out rfl _ P10.out.bat PW.out.bat (by have := HAL.out; omega)).mono ?_; rintro e11 w11 ⟨rfl, hb11⟩; have HR11 := Lib.hid (HRQ.out.next hb11); have HE11 := Lib.hid (HE10.out.next HR10.out hb11); have F11 := Lib.hid (F10.out.trans (Fr.below hb11)); have DA : Hid (∀ o, Below w11.heap.size w11 (w11.alloc o)) := Lib.hid (fun o => (Below.refl _ w11).alloc (Nat.le_refl _) o); have WA : Hid (∀ o, (w11.alloc o).ownsRow N2 5 1 (.slice pw A.length kw) A.length (U8s (Q' n))) := Lib.hid (fun o => (by rw [HQN.out]; exact own_keepX (own_keepX (own_base W10.out LN9.out) hb11) (DA.out o))); have O11 := Lib.hid (own_keepX O10.out hb11); have E11 : Hid (∀ q ∈ E, q < w11.heap.size) := Lib.hid (fun q hq' => Nat.lt_of_lt_of_le (HEL.out q hq').2 (Nat.le_trans Z910.out hb11.size)); clear hb11)
            | (at_builtin; refine append_got_at _ _ N2 V n Q' ⟨w11.heap.size, 0, none⟩ pw _ kw rfl rfl (HR11.out.next (DA.out _)).got (by rw [cell_of_row _ _ 0 _ _ _ (heap_alloc_new w11 _)]; rfl) HQA.out (WA.out _) (by have := HQ.out.2.2.1; omega) (HR11.out.next (DA.out _)).sz.2 ?_; intro v12 w12 g12 gr12 pl12 av12; have HX12 := Rd.append (E := E) (HR11.out.next (DA.out _)) gr12 g12 pl12; have HR12 := Lib.hid HX12.1; have HE12 := Lib.hid (HX12.2 (HE11.out.next HR11.out (DA.out _)) (av12 E (fun q hq' => Nat.lt_of_lt_of_le (E11.out q hq') (DA.out _).size) (HE11.out.next HR11.out (DA.out _)).2.2 LW.out)); have F12 := Lib.hid (F11.out.trans ((Fr.below (DA.out _)).trans (Fr.grown (HR11.out.next (DA.out _)) gr12))); have O12 := Lib.hid (((Fr.below (DA.out _)).trans (Fr.grown (HR11.out.next (DA.out _)) gr12)).own O11.out); clear g12 gr12 pl12 av12 HX12)
            | (go_at_call 19; refine (spoil_own O12.out (by have := HAL.out; have := HAM.out; omega)).mono ?_; rintro e13 w13 ⟨rfl, hs13⟩; have HX13 := HR12.out.spoil HE12.out hs13 HEM.out.2.2; have HRT := Lib.hid HX13.1; have HET := Lib.hid HX13.2; have FRT : Hid (Fr N2 w8 w13) := Lib.hid (fun q cur e h1 h2 h3 => (sp_block hs13 (lt_of_block ((F12.out q cur e h1 h2 h3).trans h1)) (HLT8.out q (lt_of_block h1))).trans (F12.out q cur e h1 h2 h3)); clear hs13 HX13)
            | go_in)
          have HQT : Hid (S'.ss.length ≤ k + 1 ∧ S'.ts.length ≤ k + 1 ∧ n + 1 ≤ k + 1 ∧ ∀ j, j < n + 1 → Sha.Byt (Q' j) ∧ (Q' j).length ≤ 5000) := Lib.hid ⟨HSB.out.1, HSB.out.2, by have := HQ.out.2.2.1; omega, fun j hj => by
            by_cases hjn : j = n
            · rw [hjn, HQN.out]; exact ⟨HAB.out, by have := HAL.out; omega⟩
            · have h := HQ.out.2.2.2 j (by omega)
              rw [HQ'.out]
              simp only [if_neg hjn]
              exact h⟩
          have TK : Hid True := trivial
          have TJ : Hid True := trivial
          have GHT := Lib.hid ((FRT.out _ _ _ GH.out (Nat.le_trans HR6.out.sz.2 HQ7.out) (Or.inr rfl)).trans GH.out)
          have GPT := Lib.hid ((FRT.out _ _ _ GP.out (Nat.le_trans HR6.out.sz.2 HQ8.out) (Or.inr rfl)).trans GP.out)
          have hbh := (HCA.out _ HRT.out.old).1.bat.1
          have HBH := Lib.hid hbh
          have HBP := Lib.hid (HCA.out _ HRT.out.old).2.bat.1
          clear hbh
          obtain ⟨b0, b1, b2, b3, b4, b5, b6⟩ := HBX.out _ ((Fr.below D8.out).trans FRT.out)
          go_wp2_with (first
            | (go_at_call 24; have tk := TK.out; clear tk TK; refine (kept_any x.head hq xh _ xch _ (bat_row GHT.out (mk5_byt HBH.out)) (HCA.out _ HRT.out.old).1.bat (by have := HXS.out; omega) (Nat.le_refl _)).mono ?_; rintro ea wa ⟨rfl, hba⟩; have HRA := Lib.hid (HRT.out.next hba); have HEA := Lib.hid (HET.out.next HRT.out hba); have GHA := Lib.hid ((hba.block _ (lt_of_block GHT.out)).trans GHT.out); have GPA := Lib.hid ((hba.block _ (lt_of_block GPT.out)).trans GPT.out); clear hba)
            | (go_at_call 24; refine (kept_any x.b pq xp _ xcp _ (bat_row GPA.out (mk5_byt HBP.out)) (HCA.out _ HRA.out.old).2.bat (by have := HXS.out; omega) (Nat.le_refl _)).mono ?_; rintro eb wb ⟨rfl, hbb⟩; have HRB := Lib.hid (HRA.out.next hbb); have HEB := Lib.hid (HEA.out.next HRA.out hbb); have GHB := Lib.hid ((hbb.block _ (lt_of_block GHA.out)).trans GHA.out); have GPB := Lib.hid ((hbb.block _ (lt_of_block GPA.out)).trans GPA.out); clear hbb)
            | (go_at_call 19; have tk := TJ.out; clear tk TJ; refine (spoil_lent x.head hq (by have := HXS.out; omega) _ GHB.out).mono ?_; rintro ec wc ⟨rfl, hoc⟩; obtain ⟨hrc, hec⟩ := HRB.out.turn HEB.out (by first | exact HEM.out.1 | simp) hoc; have HRC := Lib.hid hrc; have HEC := Lib.hid hec; have GPC := Lib.hid ((hoc.block _ (lt_of_block GPB.out) HNE.out).trans GPB.out); clear hrc hec hoc)
            | (go_at_call 19; refine (spoil_lent x.b pq (by have := HXS.out; omega) _ GPC.out).mono ?_; rintro ed wd ⟨rfl, hod⟩; obtain ⟨hrd, _⟩ := HRC.out.turn HEC.out (by first | exact HEM.out.2.1 | simp) hod; have HRD := Lib.hid hrd; clear hrd hod))
          exact ⟨⟨k + 1, _, _, _, _, _, _, by omega, by go_num, rfl, HRD.out, HQT.out⟩, by simp [intOf]; omega⟩
        | false =>
          cases hk1 : (x.kind == 1) with
          | true =>
            obtain ⟨O, HO⟩ : ∃ O, Hid (Nm.opn S x.epoch x.number x.head x.b = O) := ⟨_, rfl⟩
            have HOL : Hid ((O.getD []).length ≤ 5000) := by show _ ≤ _; rw [← HO.out]; exact Nat.le_trans (Nm.opn_short _ _ _ _ _) (by have := HXS.out.2; omega)
            have F8 : Hid (Fr N2 w6 w8.drew) := Fr.below D8.out.drew
            have HRD8 := Lib.hid (HR8.out.next ((Below.refl _ w8).drew))
            have HLH : Hid (Bs w8.drew (some ⟨hq, 0, none⟩) (x.head.length + 5) x.head) := lent_bs (by have := HXS.out; omega) GH.out (HCA.out _ HR8.out.old).1.bat.1
            have HLP : Hid (Bs w8.drew (some ⟨pq, 0, none⟩) (x.b.length + 5) x.b) := lent_bs (by have := HXS.out; omega) GP.out (HCA.out _ HR8.out.old).2.bat.1
            clear b0 b1 b2 b3 b4 b5 b6
            obtain ⟨b0, _, _, _, _, _, _⟩ := HBX.out _ (Fr.below D8.out)
            have hsl1 : (x.head.length : Int) ≤ (x.head.length : Int) + 5 := by omega
            have hsl2 : (x.b.length : Int) ≤ (x.b.length : Int) + 5 := by omega
            have hsl3 : x.head.length ≤ x.head.length + 5 := by omega
            have hsl4 : x.b.length ≤ x.b.length + 5 := by omega
            have hsl5 : (0 : Int) ≤ (x.head.length : Int) := by omega
            have hsl6 : (0 : Int) ≤ (x.b.length : Int) := by omega
            go_upto_region 29 with (fail)
            go_region_held3 (fun y => y.cell? ⟨wr.heap.size, 1, none⟩ = some (.int .i64 x.epoch) ∧ y.cell? ⟨wr.heap.size, 2, none⟩ = some (.int .i64 x.number) ∧ y.cell? ⟨wr.heap.size, 4, none⟩ = some (.slice xh x.head.length xch))
              (exact (fun q => ⟨q.2.1, q.2.2.1, q.2.2.2.2.1⟩) (HBX.out _ (Hid.out (by assumption))))
              (first
                | (go_at_call 20; refine (open_any S x.epoch x.number x.head x.b g b c _ _ _ _ _ _ rfl rfl (by have := HXS.out; omega) HI.out.1 HI.out.2 _ HRD8.out.st HLH.out HLP.out).mono ?_; rw [HO.out]; rintro e9 w9 ⟨p9, k9, m9, rfl, hm9, O9, P9, hb9⟩; have HM9 := Lib.hid hm9; have D9 : Hid (Below w8.heap.size w8 w9) := ((Below.refl _ w8).drew).trans hb9; have F9 : Hid (Fr N2 w6 w9) := Fr.below (D8.out.trans (D9.out.mono D8.out.size)); clear hm9 hb9))
            have HR9 := Lib.hid (HR8.out.next D9.out)
            clear HRD8 HLH HLP F8
            obtain ⟨b0, b1, b2, b3, b4, b5, b6⟩ := HBX.out _ F9.out
            go_upto_region 31 with (go_at_call 21; refine (refopen_any S x.epoch x.number x.head x.b N2 gr u1 u2 xh xp _ _ xch xcp rfl rfl (by have := HXS.out; have := HQ.out; omega) _ HR9.out.ref (HCA.out _ HR9.out.old).1 (HCA.out _ HR9.out.old).2).mono ?_; rw [HO.out]; rintro e10 w10 ⟨p10, k10, m10, rfl, hm10, O10, P10, hb10⟩; have HM10 := Lib.hid hm10; have D10 : Hid (Below w8.heap.size w8 w10) := D9.out.trans (hb10.mono D9.out.size); have P9b := Lib.hid (P9.out.old hb10); have O9b := Lib.hid (own_keepX O9.out hb10); clear hm10 hb10 P9 O9)
            generalize O.isSome = ok at *
            go_upto_region 37 with (first
              | (go_at_call 18; refine (same_any (O.getD []) p9 p10 m9 m10 k9 k10 HM9.out HM10.out _ P9b.out.bat P10.out.bat (by have := HOL.out; omega)).mono ?_; rintro e11 w11 ⟨rfl, hb11⟩; have D11 : Hid (Below w8.heap.size w8 w11) := D10.out.trans (hb11.mono D10.out.size); have O9c := Lib.hid (own_keepX O9b.out hb11); clear hb11 O9b P9b)
              | (go_at_call 19; refine (spoil_own O9c.out (by have := HOL.out; have := HM9.out; omega)).mono ?_; rintro e12 w12 ⟨rfl, hs12⟩; have D12 : Hid (Below w8.heap.size w8 w12) := Lib.hid (hs12.below D11.out D11.out.size (fun q hq => (O9c.out.lt q hq).1)); clear hs12 O9c))
            clear b0 b1 b2 b3 b4 b5 b6
            have HRT := Lib.hid (HR8.out.next D12.out)
            have HET := Lib.hid (HE8.out.next HR8.out D12.out)
            have FRT : Hid (Fr N2 w8 w12) := Fr.below D12.out
            have HQT : Hid (S.ss.length ≤ k + 1 ∧ S.ts.length ≤ k + 1 ∧ n ≤ k + 1 ∧ ∀ j, j < n → Sha.Byt (Q j) ∧ (Q j).length ≤ 5000) := Lib.hid ⟨by have := HQ.out.1; omega, by have := HQ.out.2.1; omega, by have := HQ.out.2.2.1; omega, HQ.out.2.2.2⟩
            have TK : Hid True := trivial
            have TJ : Hid True := trivial
            have GHT := Lib.hid ((FRT.out _ _ _ GH.out (Nat.le_trans HR6.out.sz.2 HQ7.out) (Or.inr rfl)).trans GH.out)
            have GPT := Lib.hid ((FRT.out _ _ _ GP.out (Nat.le_trans HR6.out.sz.2 HQ8.out) (Or.inr rfl)).trans GP.out)
            have hbh := (HCA.out _ HRT.out.old).1.bat.1
            have HBH := Lib.hid hbh
            have HBP := Lib.hid (HCA.out _ HRT.out.old).2.bat.1
            clear hbh
            obtain ⟨b0, b1, b2, b3, b4, b5, b6⟩ := HBX.out _ ((Fr.below D8.out).trans FRT.out)
            go_wp2_with (first
              | (go_at_call 24; have tk := TK.out; clear tk TK; refine (kept_any x.head hq xh _ xch _ (bat_row GHT.out (mk5_byt HBH.out)) (HCA.out _ HRT.out.old).1.bat (by have := HXS.out; omega) (Nat.le_refl _)).mono ?_; rintro ea wa ⟨rfl, hba⟩; have HRA := Lib.hid (HRT.out.next hba); have HEA := Lib.hid (HET.out.next HRT.out hba); have GHA := Lib.hid ((hba.block _ (lt_of_block GHT.out)).trans GHT.out); have GPA := Lib.hid ((hba.block _ (lt_of_block GPT.out)).trans GPT.out); clear hba)
              | (go_at_call 24; refine (kept_any x.b pq xp _ xcp _ (bat_row GPA.out (mk5_byt HBP.out)) (HCA.out _ HRA.out.old).2.bat (by have := HXS.out; omega) (Nat.le_refl _)).mono ?_; rintro eb wb ⟨rfl, hbb⟩; have HRB := Lib.hid (HRA.out.next hbb); have HEB := Lib.hid (HEA.out.next HRA.out hbb); have GHB := Lib.hid ((hbb.block _ (lt_of_block GHA.out)).trans GHA.out); have GPB := Lib.hid ((hbb.block _ (lt_of_block GPA.out)).trans GPA.out); clear hbb)
              | (go_at_call 19; have tk := TJ.out; clear tk TJ; refine (spoil_lent x.head hq (by have := HXS.out; omega) _ GHB.out).mono ?_; rintro ec wc ⟨rfl, hoc⟩; obtain ⟨hrc, hec⟩ := HRB.out.turn HEB.out (by first | exact HEM.out.1 | simp) hoc; have HRC := Lib.hid hrc; have HEC := Lib.hid hec; have GPC := Lib.hid ((hoc.block _ (lt_of_block GPB.out) HNE.out).trans GPB.out); clear hrc hec hoc)
              | (go_at_call 19; refine (spoil_lent x.b pq (by have := HXS.out; omega) _ GPC.out).mono ?_; rintro ed wd ⟨rfl, hod⟩; obtain ⟨hrd, _⟩ := HRC.out.turn HEC.out (by first | exact HEM.out.2.1 | simp) hod; have HRD := Lib.hid hrd; clear hrd hod))
            exact ⟨⟨k + 1, _, _, _, _, _, _, by omega, by go_num, rfl, HRD.out, HQT.out⟩, by simp [intOf]; omega⟩
          | false =>
            cases hk2 : (x.kind == 2) with
            | true =>
              have HLP : Hid (Bs w8 (some ⟨pq, 0, none⟩) (x.b.length + 5) x.b) := lent_bs (by have := HXS.out; omega) GP.out (HCA.out _ HR8.out.old).2.bat.1
              have hsl2 : (x.b.length : Int) ≤ (x.b.length : Int) + 5 := by omega
              have hsl4 : x.b.length ≤ x.b.length + 5 := by omega
              have hsl6 : (0 : Int) ≤ (x.b.length : Int) := by omega
              have hng := Try.noGuard
              obtain ⟨A, HA⟩ : ∃ A : Array Value, Hid (A = ((Nm.sm S x.b).map (Value.int .u8)).toArray) := ⟨_, rfl⟩
              have HAE : Hid (A32 (Nm.sm S x.b) = .agg A) := by show _ = _; rw [HA.out]; rfl
              have HEQ : ∀ y, (Op.equalIn 10000 42 (.agg A) (.agg A)).run Try.prog y = .ok true y := fun y => by
                have h := sums_eq (Nm.sm S x.b) (Nm.sm S x.b) (by unfold Nm.sm; exact Nm.tg_len _ _) (by unfold Nm.sm; exact Nm.tg_len _ _) y
                rw [decide_eq_true rfl] at h
                rw [HA.out]
                exact h
              go_upto_region 37 with (first
                | (go_at_call 22; refine (sum_any S x.b g b c (some ⟨pq, 0, none⟩) _ _ rfl _ HR8.out.st HLP.out (by have := HQ.out.2.1; omega)).mono ?_; rintro e9 w9 ⟨rfl, hs9, ho9⟩; rw [HAE.out]; have F9 : Hid (Fr N2 w8 w9) := Lib.hid (Fr.only ho9 HR8.out.blk.2.2.2); have HR9 := Lib.hid (HR8.out.prog ho9 ⟨HR8.out.blk.1.2.2, HR8.out.blk.2.2.2⟩ hs9.out); have HE9 := Lib.hid (HE8.out.prog HR8.out ho9 HR8.out.blk.2.2.2); have Z9 : Hid (w8.heap.size ≤ w9.heap.size) := Lib.hid ho9.size; clear hs9 ho9)
                | (go_at_call 23; refine (refsum_any S x.b N2 gr u1 u2 xp _ xcp rfl (by have := HXS.out; have := HQ.out; omega) _ HR9.out.ref (HCA.out _ HR9.out.old).2).mono ?_; rintro e10 w10 ⟨v2, rfl, R10, E10, M10, EE10⟩; rw [HAE.out]; have F10 : Hid (Fr N2 w8 w10) := Lib.hid (F9.out.trans (Fr.eff HR9.out E10.out (Or.inr rfl))); have HRT := Lib.hid (HR9.out.refsum E10.out R10.out M10.out).1; have HET : Hid (RdE [hq, pq] N2 gr V u1 v2 n (Nm.smd S x.b) w10) := Lib.hid ⟨HE9.out.1, EE10.out _ (fun q hq' => (by have h1 := lt_of_block GH.out; have h2 := lt_of_block GP.out; have h3 := Z9.out; simp at hq'; rcases hq' with rfl | rfl <;> omega)) HE9.out.2.1, av_keep HE9.out.2.2 HR9.out.got (HR9.out.refsum E10.out R10.out M10.out).2⟩; clear R10 E10 M10 EE10))
              clear b0 b1 b2 b3 b4 b5 b6 HEQ hng
              have FRT := Lib.hid F10.out
              have HQT : Hid ((Nm.smd S x.b).ss.length ≤ k + 1 ∧ (Nm.smd S x.b).ts.length ≤ k + 1 ∧ n ≤ k + 1 ∧ ∀ j, j < n → Sha.Byt (Q j) ∧ (Q j).length ≤ 5000) := Lib.hid ⟨by have h := HQ.out.1; show S.ss.length ≤ _; omega, by have h := HQ.out.2.1; show (Nm.put x.b S.ts).length ≤ _; exact Nat.le_trans Nm.put_len (by omega), by have := HQ.out.2.2.1; omega, HQ.out.2.2.2⟩
              have TK : Hid True := trivial
              have TJ : Hid True := trivial
              have GHT := Lib.hid ((FRT.out _ _ _ GH.out (Nat.le_trans HR6.out.sz.2 HQ7.out) (Or.inr rfl)).trans GH.out)
              have GPT := Lib.hid ((FRT.out _ _ _ GP.out (Nat.le_trans HR6.out.sz.2 HQ8.out) (Or.inr rfl)).trans GP.out)
              have hbh := (HCA.out _ HRT.out.old).1.bat.1
              have HBH := Lib.hid hbh
              have HBP := Lib.hid (HCA.out _ HRT.out.old).2.bat.1
              clear hbh
              obtain ⟨b0, b1, b2, b3, b4, b5, b6⟩ := HBX.out _ ((Fr.below D8.out).trans FRT.out)
              go_wp2_with (first
                | (go_at_call 24; have tk := TK.out; clear tk TK; refine (kept_any x.head hq xh _ xch _ (bat_row GHT.out (mk5_byt HBH.out)) (HCA.out _ HRT.out.old).1.bat (by have := HXS.out; omega) (Nat.le_refl _)).mono ?_; rintro ea wa ⟨rfl, hba⟩; have HRA := Lib.hid (HRT.out.next hba); have HEA := Lib.hid (HET.out.next HRT.out hba); have GHA := Lib.hid ((hba.block _ (lt_of_block GHT.out)).trans GHT.out); have GPA := Lib.hid ((hba.block _ (lt_of_block GPT.out)).trans GPT.out); clear hba)
                | (go_at_call 24; refine (kept_any x.b pq xp _ xcp _ (bat_row GPA.out (mk5_byt HBP.out)) (HCA.out _ HRA.out.old).2.bat (by have := HXS.out; omega) (Nat.le_refl _)).mono ?_; rintro eb wb ⟨rfl, hbb⟩; have HRB := Lib.hid (HRA.out.next hbb); have HEB := Lib.hid (HEA.out.next HRA.out hbb); have GHB := Lib.hid ((hbb.block _ (lt_of_block GHA.out)).trans GHA.out); have GPB := Lib.hid ((hbb.block _ (lt_of_block GPA.out)).trans GPA.out); clear hbb)
                | (go_at_call 19; have tk := TJ.out; clear tk TJ; refine (spoil_lent x.head hq (by have := HXS.out; omega) _ GHB.out).mono ?_; rintro ec wc ⟨rfl, hoc⟩; obtain ⟨hrc, hec⟩ := HRB.out.turn HEB.out (by first | exact HEM.out.1 | simp) hoc; have HRC := Lib.hid hrc; have HEC := Lib.hid hec; have GPC := Lib.hid ((hoc.block _ (lt_of_block GPB.out) HNE.out).trans GPB.out); clear hrc hec hoc)
                | (go_at_call 19; refine (spoil_lent x.b pq (by have := HXS.out; omega) _ GPC.out).mono ?_; rintro ed wd ⟨rfl, hod⟩; obtain ⟨hrd, _⟩ := HRC.out.turn HEC.out (by first | exact HEM.out.2.1 | simp) hod; have HRD := Lib.hid hrd; clear hrd hod))
              exact ⟨⟨k + 1, _, _, _, _, _, _, by omega, by go_num, rfl, HRD.out, HQT.out⟩, by simp [intOf]; omega⟩
            | false =>
              have HRT := Lib.hid HR8.out
              have HET := Lib.hid HE8.out
              have FRT : Hid (Fr N2 w8 w8) := Fr.refl _ _
              have HQT : Hid (S.ss.length ≤ k + 1 ∧ S.ts.length ≤ k + 1 ∧ n ≤ k + 1 ∧ ∀ j, j < n → Sha.Byt (Q j) ∧ (Q j).length ≤ 5000) := Lib.hid ⟨by have := HQ.out.1; omega, by have := HQ.out.2.1; omega, by have := HQ.out.2.2.1; omega, HQ.out.2.2.2⟩
              have TK : Hid True := trivial
              have TJ : Hid True := trivial
              have GHT := Lib.hid ((FRT.out _ _ _ GH.out (Nat.le_trans HR6.out.sz.2 HQ7.out) (Or.inr rfl)).trans GH.out)
              have GPT := Lib.hid ((FRT.out _ _ _ GP.out (Nat.le_trans HR6.out.sz.2 HQ8.out) (Or.inr rfl)).trans GP.out)
              have hbh := (HCA.out _ HRT.out.old).1.bat.1
              have HBH := Lib.hid hbh
              have HBP := Lib.hid (HCA.out _ HRT.out.old).2.bat.1
              clear hbh
              obtain ⟨b0, b1, b2, b3, b4, b5, b6⟩ := HBX.out _ ((Fr.below D8.out).trans FRT.out)
              go_wp2_with (first
                | (go_at_call 24; have tk := TK.out; clear tk TK; refine (kept_any x.head hq xh _ xch _ (bat_row GHT.out (mk5_byt HBH.out)) (HCA.out _ HRT.out.old).1.bat (by have := HXS.out; omega) (Nat.le_refl _)).mono ?_; rintro ea wa ⟨rfl, hba⟩; have HRA := Lib.hid (HRT.out.next hba); have HEA := Lib.hid (HET.out.next HRT.out hba); have GHA := Lib.hid ((hba.block _ (lt_of_block GHT.out)).trans GHT.out); have GPA := Lib.hid ((hba.block _ (lt_of_block GPT.out)).trans GPT.out); clear hba)
                | (go_at_call 24; refine (kept_any x.b pq xp _ xcp _ (bat_row GPA.out (mk5_byt HBP.out)) (HCA.out _ HRA.out.old).2.bat (by have := HXS.out; omega) (Nat.le_refl _)).mono ?_; rintro eb wb ⟨rfl, hbb⟩; have HRB := Lib.hid (HRA.out.next hbb); have HEB := Lib.hid (HEA.out.next HRA.out hbb); have GHB := Lib.hid ((hbb.block _ (lt_of_block GHA.out)).trans GHA.out); have GPB := Lib.hid ((hbb.block _ (lt_of_block GPA.out)).trans GPA.out); clear hbb)
                | (go_at_call 19; have tk := TJ.out; clear tk TJ; refine (spoil_lent x.head hq (by have := HXS.out; omega) _ GHB.out).mono ?_; rintro ec wc ⟨rfl, hoc⟩; obtain ⟨hrc, hec⟩ := HRB.out.turn HEB.out (by first | exact HEM.out.1 | simp) hoc; have HRC := Lib.hid hrc; have HEC := Lib.hid hec; have GPC := Lib.hid ((hoc.block _ (lt_of_block GPB.out) HNE.out).trans GPB.out); clear hrc hec hoc)
                | (go_at_call 19; refine (spoil_lent x.b pq (by have := HXS.out; omega) _ GPC.out).mono ?_; rintro ed wd ⟨rfl, hod⟩; obtain ⟨hrd, _⟩ := HRC.out.turn HEC.out (by first | exact HEM.out.2.1 | simp) hod; have HRD := Lib.hid hrd; clear hrd hod))
              exact ⟨⟨k + 1, _, _, _, _, _, _, by omega, by go_num, rfl, HRD.out, HQT.out⟩, by simp [intOf]; omega⟩
    · obtain rfl : k = m := by omega
      clear hlt
      go_wp2_with (go_at_call 10; refine (works_any _).mono ?_; rintro e4 w4 ⟨rfl, hb4⟩; have B4 : Hid (Below w.heap.size w w4) := HR.out.old.trans (hb4.mono HR.out.old.size); clear hb4)
      go_ret
      exact ⟨rfl, B4.out⟩
/-- NamesRuns is true. -/
theorem runs_any (L : List Nm.Cal) (tp : Option Addr) (cap : Nat) (w : World) (hr : CRows w tp L) :
    Calls Try.prog 3 #[.slice tp L.length cap] w (YesSay w) := by
  have hg := long_any L tp L.length cap rfl w hr
  cases h0 : lng L with
  | true => rw [h0] at hg; exact runs_long tp _ cap w hg
  | false => rw [h0] at hg; exact runs_small L tp _ cap rfl (lng_small h0) w hr hg
end Go.Proofs.Ytdmnlooghamngaa

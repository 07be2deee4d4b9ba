/-
  The reference: Seal.
-/
import Derived.Test.YtdmnlooghamngaaNaS3
import Derived.Deep.CutRange
namespace Go.Proofs.Ytdmnlooghamngaa
open Go.RowKit

/-- What the reference's Seal says. -/
def RSealSay (B gr : Nat) (v1 v2 : Value) (S : Nm.St) (x : Nm.Four) (w : World) (e : Ending) (w' : World) : Prop :=
  ∃ v u1, e = .returned v ∧ Hid (w'.ownsRow w.heap.size 5 1 v (Nm.sl S x).length (U8s (Nm.sl S x))) ∧ Hid (RefAt w' B gr u1 v2 (Nm.sld S x)) ∧ Hid (Eff gr v1.ownBlock w w') ∧ Hid (∀ E : List Nat, (∀ q ∈ E, q < w.heap.size) → RefE E w B gr v1 v2 S → RefE E w' B gr u1 v2 (Nm.sld S x))
theorem Nm.may_iff (x : Nm.Four) : Nm.may x = true ↔ (0 ≤ x.1 ∧ x.1 ≤ 1099511627776) ∧ 0 ≤ x.2.1 ∧ x.2.1 ≤ 1099511627776 := by unfold Nm.may Nm.inR; simp

set_option maxRecDepth 100000 in
theorem refseal_none (S : Nm.St) (x : Nm.Four) (B gr : Nat) (v1 v2 u3 u4 : Value) (hm : Nm.may x = false) (w : World) (hr : RefAt w B gr v1 v2 S) :
    Calls Try.prog 17 #[.pointer (some ⟨gr, 0, none⟩), .int .i64 x.1, .int .i64 x.2.1, u3, u4] w (RSealSay B gr v1 v2 S x w) := by
  have h1 : Nm.sl S x = [] := by unfold Nm.sl; rw [hm]; rfl
  have h2 : Nm.sld S x = S := by unfold Nm.sld; rw [hm]; rfl
  have fin : RSealSay B gr v1 v2 S x w (.returned (.slice none 0 0)) w := ⟨_, v1, rfl, by rw [h1]; exact (by unfold U8s; exact Lib.hid (World.ownsRow_nil _ _ _ _)), by rw [h2]; exact Lib.hid hr, Lib.hid (.of_below (Below.refl _ _)), Lib.hid (fun E _ h => by rw [h2]; exact h)⟩
  have FIN := Lib.hid fin
  have hm' : ¬ (Nm.may x = true) := by rw [hm]; simp
  rw [Nm.may_iff] at hm'
  clear fin h1 h2 hr hm
  by_cases q1 : x.1 < 0
  · go_enter Try.func17, Try.ntmps17
    go_wp2
    go_ret
    exact FIN.out
  · have q1' : decide (x.1 < 0) = false := decide_eq_false q1
    by_cases q2 : x.2.1 < 0
    · go_enter Try.func17, Try.ntmps17
      go_wp2
      go_ret
      exact FIN.out
    · have q2' : decide (x.2.1 < 0) = false := decide_eq_false q2
      by_cases q3 : 1099511627776 < x.1
      · go_enter Try.func17, Try.ntmps17
        go_wp2
        go_ret
        exact FIN.out
      · have q3' : decide (1099511627776 < x.1) = false := decide_eq_false q3
        have q4 : 1099511627776 < x.2.1 := by omega
        go_enter Try.func17, Try.ntmps17
        go_wp2
        go_ret
        exact FIN.out

set_option maxHeartbeats 4000000 in
set_option maxRecDepth 100000 in
theorem refseal_good (S : Nm.St) (x : Nm.Four) (B gr : Nat) (v1 v2 : Value) (ph pp : Option Addr) (ch cp : Nat) (hm : Nm.may x = true) (hsz : x.2.2.1.length ≤ 100000 ∧ x.2.2.2.length ≤ 100000 ∧ S.ss.length ≤ 1000)
    (w : World) (hr : RefAt w B gr v1 v2 S) (hh : Bs w ph ch x.2.2.1) (hp : ∀ y, Eff gr v1.ownBlock w y → Bs y pp cp x.2.2.2) :
    Calls Try.prog 17 #[.pointer (some ⟨gr, 0, none⟩), .int .i64 x.1, .int .i64 x.2.1, .slice ph x.2.2.1.length ch, .slice pp x.2.2.2.length cp] w (RSealSay B gr v1 v2 S x w) := by
  have HR := Lib.hid hr
  have HH := Lib.hid hh
  have HP := Lib.hid hp
  have HSZ := Lib.hid hsz
  have hml := hm
  rw [Nm.may_iff] at hml
  have q1 : decide (x.1 < 0) = false := decide_eq_false (by omega)
  have q2 : decide (x.2.1 < 0) = false := decide_eq_false (by omega)
  have q3 : decide (1099511627776 < x.1) = false := decide_eq_false (by omega)
  have q4 : decide (1099511627776 < x.2.1) = false := decide_eq_false (by omega)
  have HBH : Hid (Sha.Byt x.2.2.1) := hh.bat.1
  have HBP : Hid (Sha.Byt x.2.2.2) := (hp w (.of_below (Below.refl _ _))).bat.1
  have HSL : Hid (Nm.sl S x = x.2.2.2 ++ Nm.tg 0 (Nm.num x S.ss)) := by show _ = _; unfold Nm.sl; rw [hm]; rfl
  have HSD : Hid (Nm.sld S x = ⟨Nm.put x S.ss, S.ts⟩) := by show _ = _; unfold Nm.sld; rw [hm]; rfl
  clear hr hh hp hsz hml hm
  have TK : Hid True := trivial
  go_enter Try.func17, Try.ntmps17
  go_upto_region 4 with (first
    | (go_at_call 30; have tk := TK.out; clear tk TK; refine (copybytes_any x.2.2.1 ph _ ch rfl (by have := HSZ.out; omega) _ HH.out.bat).mono ?_; rintro e1 w1 ⟨a1, rfl, ho1, hb1⟩; obtain ⟨p1, c1, rfl, hq1, _⟩ := own_bs ho1 HBH.out; have HO1 := Lib.hid ho1; have HQ1 := Lib.hid hq1; have B1 := Lib.hid hb1; clear ho1 hq1 hb1)
    | (go_at_call 30; refine (copybytes_any x.2.2.2 pp _ cp rfl (by have := HSZ.out; omega) _ (HP.out _ (.of_below B1.out)).bat).mono ?_; rintro e2 w2 ⟨a2, rfl, ho2, hb2⟩; obtain ⟨p2, c2, rfl, hq2, _⟩ := own_bs ho2 HBP.out; have HO2 := Lib.hid ho2; have HQ2 := Lib.hid hq2; have B2 : Hid (Below w.heap.size w w2) := B1.out.trans (hb2.mono B1.out.size); have HO12 := Lib.hid (own_keepX HO1.out hb2); have HQ12 := Lib.hid (HQ1.out.old hb2); have Z12 : Hid (w.heap.size ≤ w1.heap.size) := B1.out.size; clear ho2 hq2 hb2 HO1 HQ1 B1))
  obtain ⟨w3, HW3⟩ : ∃ y : World, Hid (y = w2.alloc (.cells #[.int .i64 x.1, .int .i64 x.2.1, .slice p1 x.2.2.1.length c1, .slice p2 x.2.2.2.length c2] 72)) := ⟨_, rfl⟩
  rw [← HW3.out]
  have g3 : Hid (w3.heap[w2.heap.size]? = some (.cells #[.int .i64 x.1, .int .i64 x.2.1, .slice p1 x.2.2.1.length c1, .slice p2 x.2.2.2.length c2] 72 (0, 0))) := by show _ = _; rw [HW3.out]; exact heap_alloc_new w2 _
  have D3 : Hid (Below w2.heap.size w2 w3) := by show Below _ _ _; rw [HW3.out]; exact (Below.refl _ w2).alloc (Nat.le_refl _) _
  have B3 : Hid (Below w.heap.size w w3) := B2.out.trans (D3.out.mono B2.out.size)
  have HO13 := Lib.hid (own_keepX HO12.out D3.out)
  have HO23 := Lib.hid (own_base (own_keepX HO2.out D3.out) Z12.out)
  have HQ13 := Lib.hid (HQ12.out.old D3.out)
  have HQ23 := Lib.hid (HQ2.out.old D3.out)
  have R3 : Hid (RefAt w3 B gr v1 v2 S) := HR.out.old B3.out
  have HBS0 : Hid (B ≤ w.heap.size) := Nat.le_trans HR.out.base (Nat.le_of_lt (lt_of_block HR.out.row))
  clear HO2 HQ2 B2 HO12 HQ12 Z12 D3 HW3
  generalize w2.heap.size = G at *
  have HCE : Hid (∀ y, Below w3.heap.size w3 y → y.cell? ⟨G, 0, none⟩ = some (.int .i64 x.1) ∧ y.cell? ⟨G, 1, none⟩ = some (.int .i64 x.2.1) ∧ y.cell? ⟨G, 2, none⟩ = some (.slice p1 x.2.2.1.length c1) ∧ y.cell? ⟨G, 3, none⟩ = some (.slice p2 x.2.2.2.length c2)) := fun y hy => by
    have h := (hy.block _ (lt_of_block g3.out)).trans g3.out
    exact ⟨by rw [cell_of_row _ _ 0 _ _ _ h]; rfl, by rw [cell_of_row _ _ 1 _ _ _ h]; rfl, by rw [cell_of_row _ _ 2 _ _ _ h]; rfl, by rw [cell_of_row _ _ 3 _ _ _ h]; rfl⟩
  clear g3
  obtain ⟨c0', c1', c2', c3'⟩ := HCE.out _ (Below.refl _ _)
  obtain ⟨P, HPL⟩ : ∃ P, Hid (Nm.place x S.ss = P) := ⟨_, rfl⟩
  go_upto_region 5 with (go_at_call 35; refine (place_any S x B gr v1 v2 p1 p2 c1 c2 _ R3.out HQ13.out HQ23.out HSZ.out).mono ?_; rw [HPL.out]; rintro e4 w4 ⟨rfl, hb4⟩; have D4 := Lib.hid hb4; clear hb4)
  clear c0' c1' c2' c3'
  have R4 : Hid (RefAt w4 B gr v1 v2 S) := R3.out.old D4.out
  have B4 : Hid (Below w.heap.size w w4) := B3.out.trans (D4.out.mono B3.out.size)
  by_cases hP : P = 0
  · subst hP
    obtain ⟨c0', c1', c2', c3'⟩ := HCE.out _ D4.out
    have d0' : w4.cell? ⟨gr, 0, none⟩ = some v1 := by rw [cell_of_row _ gr 0 _ _ _ R4.out.row]; rfl
    go_upto_region 6 with (fail)
    have HNO : Hid (x ∉ S.ss) := Nm.place_zero.1 HPL.out
    have HPT : Hid (Nm.put x S.ss = S.ss ++ [x] ∧ Nm.num x S.ss = S.ss.length + 1) := by
      refine Lib.hid ⟨?_, ?_⟩
      · unfold Nm.put; rw [if_pos HPL.out]
      · unfold Nm.num; rw [if_pos HPL.out]
    have HAL : Hid (∀ O, Below w4.drew.heap.size w4.drew (w4.drew.alloc O)) := fun O => (Below.refl _ _).alloc (Nat.le_refl _) O
    have HD0 : Hid (Below w4.heap.size w4 w4.drew) := (Below.refl _ w4).drew
    have HTY : Hid (some gr ≠ v1.ownBlock) := fun e => by
      obtain ⟨_, cur, h2⟩ := R4.out.ss.type gr e.symm
      rw [R4.out.row] at h2
      cases h2
    have HD4 : Hid (Below w3.heap.size w3 w4.drew) := D4.out.drew
    have HRR : Hid (∀ O, RefAt (w4.drew.alloc O) B gr v1 v2 S) := fun O => R4.out.drew.old (HAL.out O)
    have HOH : Hid (∀ O, (w4.drew.alloc O).ownsRow B 5 1 (.slice p1 x.2.2.1.length c1) x.2.2.1.length (U8s x.2.2.1)) := fun O => own_keepX (own_base (own_keepX (own_keepX HO13.out D4.out) HD0.out) HBS0.out) (HAL.out O)
    have HOP : Hid (∀ O, (w4.drew.alloc O).ownsRow B 5 1 (.slice p2 x.2.2.2.length c2) x.2.2.2.length (U8s x.2.2.2)) := fun O => own_keepX (own_base (own_keepX (own_keepX HO23.out D4.out) HD0.out) HBS0.out) (HAL.out O)
    have HBW : Hid (∀ O, B ≤ (w4.drew.alloc O).heap.size) := fun O => Nat.le_trans R4.out.base (Nat.le_of_lt (lt_of_block (HRR.out O).row))
    go_cut [42] from 42 to 51 (fun _ y => ∃ u1, Hid (RefAt y B gr u1 v2 (Nm.sld S x)) ∧ Hid (Eff gr v1.ownBlock w y) ∧ Hid (∀ E : List Nat, (∀ q ∈ E, q < w.heap.size) → RefE E w B gr v1 v2 S → RefE E y B gr u1 v2 (Nm.sld S x)))
    case first =>
      have e0' : w4.drew.cell? ⟨gr, 0, none⟩ = some v1 := d0'
      have hgl' : gr < w4.heap.size := lt_of_block R4.out.row
      obtain ⟨e1', e2', e3', e4'⟩ := HCE.out _ (HD4.out)
      go_region_law (refine step_append_seal rfl (.tmp 46) (.tmp 48) rfl B v1 S.ss x w4.drew.heap.size p1 p2 c1 c2 (by simp [Act.eval]) (by simp [Act.eval]) (HRR.out _).ss (heap_alloc_new _ _) (HOH.out _) (HOP.out _) (by have := HSZ.out; omega) (HBW.out _) ?_; intro v' w' hs' hg' hav'; have HAV := Lib.hid hav'; clear hav'; have hgw := hg'.block gr (lt_of_block (HRR.out _).row) HTY.out; have hgr := hgw.trans (HRR.out _).row; obtain ⟨a', cap', hv'⟩ := sat_len hs'; rw [List.length_append, List.length_singleton] at hv'; subst hv'; have HGR := Lib.hid hgr; have HS' := Lib.hid hs'; have HG' := Lib.hid hg'; have f1' := frozen_of_row _ gr 0 _ _ hgr; have f2' : w'.cell? ⟨gr, 0, none⟩ = some v1 := (by rw [cell_of_row _ gr 0 _ _ _ hgr]; rfl); clear hs' hg' hgw hgr)
      all_goals (go_wp2; go_meet)
      all_goals
        refine ⟨.slice a' (S.ss.length + 1) cap', Lib.hid ?_, Lib.hid ?_, Lib.hid (fun E hE h => ?_)⟩
        · rw [HSD.out, HPT.out.1]
          exact RefAt.sealed (HRR.out _) HS'.out HG'.out (Chg.setCell _ ⟨gr, 0, none⟩ _) (by rw [heap_setCell_same _ gr 0 _ _ _ HGR.out]; rfl) ⟨HBH.out, HBP.out⟩ HNO.out
        · exact ((Eff.of_below ((B4.out.alloc B4.out.size _).drew)).trans (.of_grown HG'.out)).trans (.of_chg (Chg.setCell _ ⟨gr, 0, none⟩ _))
        · have B5 := (B4.out.alloc B4.out.size (.cells #[.int .i64 x.1, .int .i64 x.2.1, .slice p1 x.2.2.1.length c1, .slice p2 x.2.2.2.length c2] 72)).drew
          have h5 := h.old HR.out B5
          have hfr : ∀ {p : Option Addr} {n c : Nat} {l : List Value}, w3.ownsRow w.heap.size 5 1 (.slice p n c) n l → ∀ g, (Value.slice p n c).ownBlock = some g → g ∉ E := fun k g hg he => by
            have h6 := (k.lt g hg).1
            have h7 := hE g he
            omega
          rw [HSD.out, HPT.out.1]
          exact h5.sealed (HRR.out _) HS'.out (HAV.out E (fun q hq => Nat.lt_of_lt_of_le (hE q hq) B5.size) h5.2.1 (hfr HO13.out) (hfr HO23.out)) HG'.out (Chg.setCell _ ⟨gr, 0, none⟩ _)
    case rest =>
      obtain ⟨u1, RT, ET, EE⟩ := hcut
      have r0' : wc.cell? ⟨gr, 0, none⟩ = some u1 := by rw [cell_of_row _ gr 0 _ _ _ RT.out.row]; rfl
      have HK : Hid (Nm.num x S.ss = S.ss.length + 1) := HPT.out.2
      obtain ⟨au, capu, hu1⟩ := sat_len RT.out.ss
      have HLL : Hid ((Nm.sld S x).ss.length = S.ss.length + 1) := by show _ = _; rw [HSD.out]; show (Nm.put x S.ss).length = _; rw [HPT.out.1]; simp
      rw [HLL.out] at hu1
      subst hu1
      generalize hPP : S.ss.length + 1 = P at *
      clear c0' c1' c2' c3' d0'
      go_upto_region 8 with (fail)
      clear r0'
      have HTB : Hid (Sha.Byt (Nm.tg 0 (P : Int))) := Nm.tg_byt _ _ (by omega)
      go_wp2_with (first
        | (go_at_call 30; refine (copybytes_any x.2.2.2 pp _ cp rfl (by have := HSZ.out; omega) _ (HP.out _ ET.out).bat).mono ?_; rintro e7 w7 ⟨a7, rfl, ho7, hb7⟩; have HO7 := Lib.hid ho7; have B7 := Lib.hid hb7; clear ho7 hb7)
        | (go_at_call 36; refine (tag_any (P : Int) _).mono ?_; rintro e8 w8 ⟨a8, rfl, ho8, hb8⟩; have HO8 := Lib.hid ho8; have HO78 := Lib.hid (own_keepX HO7.out hb8); have B8 : Hid (Below wc.heap.size wc w8) := B7.out.trans (hb8.mono B7.out.size); have Z7 : Hid (wc.heap.size ≤ w7.heap.size) := B7.out.size; clear hb8 ho8))
      obtain ⟨p8, c8, rfl, _, _⟩ := own_bs HO8.out HTB.out
      have HO88 : Hid (w8.ownsRow w7.heap.size 5 1 (.slice p8 32 c8) 32 (U8s (Nm.tg 0 (P : Int)))) := by
        have h := HO8.out
        rw [Nm.tg_len] at h
        exact h
      rw [Nm.tg_len]
      have HNB : Hid (NB (.slice p8 32 c8) a7) := fun g hg e => by
        have h1 := (HO88.out.lt g hg).1
        have h2 := (HO7.out.lt _ e).2
        omega
      clear HO7 HO8 B7
      go_loopw [13, 15] (fun v13 v15 wr => ∃ (j : Nat) (V : Value), j ≤ 32 ∧ v15 = .int .i64 j ∧ V = v13 ∧ Hid (wr.ownsRow wc.heap.size 5 1 V (x.2.2.2.length + j) (U8s (x.2.2.2 ++ (Nm.tg 0 (P : Int)).take j))) ∧ Hid (wr.ownsRow w7.heap.size 5 1 (.slice p8 32 c8) 32 (U8s (Nm.tg 0 (P : Int)))) ∧ Hid (Below wc.heap.size wc wr) ∧ Hid (NB (.slice p8 32 c8) V)) (fun _ v15 _ => 32 - (intOf v15).toNat)
      case atStart => exact ⟨0, _, by omega, rfl, rfl, by rw [List.take_zero, List.append_nil]; exact HO78, HO88.out, B8.out, HNB.out⟩
      case round =>
        clear HO78 HO88 B8 HNB
        obtain ⟨j, V, hj, rfl, rfl, HO, HE, HB, HNB⟩ := hrel
        by_cases hlt : j < 32
        · obtain ⟨p', c', h1, h2, _⟩ := own_bs HE.out HTB.out
          rw [Nm.tg_len] at h1
          cases h1
          obtain ⟨bb, bo, rfl, hcs⟩ := h2.bat.2 (by rw [Nm.tg_len]; omega)
          have c0 := hcs j (by rw [Nm.tg_len]; exact hlt)
          clear hcs h2
          have hk0 : 0 ≤ (j : Int) := by omega
          have hk1 : (j : Int) < 32 := by omega
          generalize hy : (Nm.tg 0 (P : Int)).getD j 0 = y at *
          have HY := Lib.hid hy; clear hy
          have HBS := HB.out.size
          have HXL := HSZ.out.2.1
          have HOA : Hid (∀ O, (wr.alloc O).ownsRow wc.heap.size 5 1 V (x.2.2.2.length + j) (U8s (x.2.2.2 ++ (Nm.tg 0 (P : Int)).take j))) := fun O => own_keepX HO.out ((Below.refl _ wr).alloc (Nat.le_refl _) O)
          have HEA : Hid (∀ O, (wr.alloc O).ownsRow w7.heap.size 5 1 (.slice (some ⟨bb, bo, none⟩) 32 c8) 32 (U8s (Nm.tg 0 (P : Int)))) := fun O => own_keepX HE.out ((Below.refl _ wr).alloc (Nat.le_refl _) O)
          go_wp2_with (first
            | (at_builtin; refine append_byte _ _ wc.heap.size w7.heap.size V _ _ _ _ _ ⟨wr.heap.size, 0, none⟩ y rfl rfl (HOA.out _) (by rw [cell_of_row _ _ 0 _ _ _ (heap_alloc_new wr _)]; rfl) (HEA.out _) HNB.out (by omega) (by simp; omega) ?_; intro v5 w5 ho5 hg5 hu5 hn5; have HO5 := Lib.hid ho5; have HG5 := Lib.hid hg5; have HU5 := Lib.hid hu5; have HN5 := Lib.hid hn5; clear ho5 hg5 hu5 hn5)
            | go_in)
          refine ⟨⟨j + 1, _, by omega, by go_num, rfl, ?_, HU5.out, ?_, HN5.out⟩, by simp [intOf]; omega⟩
          · show World.ownsRow _ _ _ _ _ _ _
            have h := HO5.out
            rw [List.append_assoc, ← HY.out, take_snoc _ _ (by rw [Nm.tg_len]; exact hlt)] at h
            exact h
          · exact (HB.out.alloc HB.out.size _).grown HG5.out (by simp; omega) (fun q hq => (HO.out.lt q hq).1)
        · obtain rfl : j = 32 := by omega
          clear hlt
          go_wp2
          go_ret
          refine ⟨_, _, rfl, ?_, Lib.hid (RT.out.old HB.out), Lib.hid (ET.out.trans (.of_below HB.out)), Lib.hid (fun E hE h => (EE.out E hE h).old RT.out HB.out)⟩
          have h := HO.out
          rw [List.take_of_length_le (by rw [Nm.tg_len]; omega)] at h
          rw [HSL.out, HK.out, List.length_append, Nm.tg_len]
          exact Lib.hid (own_base h ET.out.size)
  · have hb : ((P : Int) == 0) = false := by rw [beq_eq_false_iff_ne]; omega
    have HK : Hid (Nm.num x S.ss = P) := by show _ = _; rw [← HPL.out]; unfold Nm.num; rw [if_neg (by rw [HPL.out]; exact hP)]
    obtain ⟨u1, hu1⟩ : ∃ u1, u1 = v1 := ⟨_, rfl⟩
    have RT : Hid (RefAt w4 B gr u1 v2 (Nm.sld S x)) := by rw [hu1, HSD.out]; unfold Nm.put; rw [if_neg (by rw [HPL.out]; exact hP)]; exact R4
    have ET : Hid (Eff gr v1.ownBlock w w4) := .of_below B4.out
    have EE : Hid (∀ E : List Nat, (∀ q ∈ E, q < w.heap.size) → RefE E w B gr v1 v2 S → RefE E w4 B gr u1 v2 (Nm.sld S x)) := fun E _ h => by
      rw [hu1, HSD.out]
      unfold Nm.put
      rw [if_neg (by rw [HPL.out]; exact hP)]
      exact h.old HR.out B4.out
    have HTB : Hid (Sha.Byt (Nm.tg 0 (P : Int))) := Nm.tg_byt _ _ (by omega)
    go_wp2_with (first
      | (go_at_call 30; refine (copybytes_any x.2.2.2 pp _ cp rfl (by have := HSZ.out; omega) _ (HP.out _ ET.out).bat).mono ?_; rintro e7 w7 ⟨a7, rfl, ho7, hb7⟩; have HO7 := Lib.hid ho7; have B7 := Lib.hid hb7; clear ho7 hb7)
      | (go_at_call 36; refine (tag_any (P : Int) _).mono ?_; rintro e8 w8 ⟨a8, rfl, ho8, hb8⟩; have HO8 := Lib.hid ho8; have HO78 := Lib.hid (own_keepX HO7.out hb8); have B8 : Hid (Below w4.heap.size w4 w8) := B7.out.trans (hb8.mono B7.out.size); have Z7 : Hid (w4.heap.size ≤ w7.heap.size) := B7.out.size; clear hb8 ho8))
    obtain ⟨p8, c8, rfl, _, _⟩ := own_bs HO8.out HTB.out
    have HO88 : Hid (w8.ownsRow w7.heap.size 5 1 (.slice p8 32 c8) 32 (U8s (Nm.tg 0 (P : Int)))) := by
      have h := HO8.out
      rw [Nm.tg_len] at h
      exact h
    rw [Nm.tg_len]
    have HNB : Hid (NB (.slice p8 32 c8) a7) := fun g hg e => by
      have h1 := (HO88.out.lt g hg).1
      have h2 := (HO7.out.lt _ e).2
      omega
    clear HO7 HO8 B7
    go_loopw [13, 15] (fun v13 v15 wr => ∃ (j : Nat) (V : Value), j ≤ 32 ∧ v15 = .int .i64 j ∧ V = v13 ∧ Hid (wr.ownsRow w4.heap.size 5 1 V (x.2.2.2.length + j) (U8s (x.2.2.2 ++ (Nm.tg 0 (P : Int)).take j))) ∧ Hid (wr.ownsRow w7.heap.size 5 1 (.slice p8 32 c8) 32 (U8s (Nm.tg 0 (P : Int)))) ∧ Hid (Below w4.heap.size w4 wr) ∧ Hid (NB (.slice p8 32 c8) V)) (fun _ v15 _ => 32 - (intOf v15).toNat)
    case atStart => exact ⟨0, _, by omega, rfl, rfl, by rw [List.take_zero, List.append_nil]; exact HO78, HO88.out, B8.out, HNB.out⟩
    case round =>
      clear HO78 HO88 B8 HNB
      obtain ⟨j, V, hj, rfl, rfl, HO, HE, HB, HNB⟩ := hrel
      by_cases hlt : j < 32
      · obtain ⟨p', c', h1, h2, _⟩ := own_bs HE.out HTB.out
        rw [Nm.tg_len] at h1
        cases h1
        obtain ⟨bb, bo, rfl, hcs⟩ := h2.bat.2 (by rw [Nm.tg_len]; omega)
        have c0 := hcs j (by rw [Nm.tg_len]; exact hlt)
        clear hcs h2
        have hk0 : 0 ≤ (j : Int) := by omega
        have hk1 : (j : Int) < 32 := by omega
        generalize hy : (Nm.tg 0 (P : Int)).getD j 0 = y at *
        have HY := Lib.hid hy; clear hy
        have HBS := HB.out.size
        have HXL := HSZ.out.2.1
        have HOA : Hid (∀ O, (wr.alloc O).ownsRow w4.heap.size 5 1 V (x.2.2.2.length + j) (U8s (x.2.2.2 ++ (Nm.tg 0 (P : Int)).take j))) := fun O => own_keepX HO.out ((Below.refl _ wr).alloc (Nat.le_refl _) O)
        have HEA : Hid (∀ O, (wr.alloc O).ownsRow w7.heap.size 5 1 (.slice (some ⟨bb, bo, none⟩) 32 c8) 32 (U8s (Nm.tg 0 (P : Int)))) := fun O => own_keepX HE.out ((Below.refl _ wr).alloc (Nat.le_refl _) O)
        go_wp2_with (first
          | (at_builtin; refine append_byte _ _ w4.heap.size w7.heap.size V _ _ _ _ _ ⟨wr.heap.size, 0, none⟩ y rfl rfl (HOA.out _) (by rw [cell_of_row _ _ 0 _ _ _ (heap_alloc_new wr _)]; rfl) (HEA.out _) HNB.out (by omega) (by simp; omega) ?_; intro v5 w5 ho5 hg5 hu5 hn5; have HO5 := Lib.hid ho5; have HG5 := Lib.hid hg5; have HU5 := Lib.hid hu5; have HN5 := Lib.hid hn5; clear ho5 hg5 hu5 hn5)
          | go_in)
        refine ⟨⟨j + 1, _, by omega, by go_num, rfl, ?_, HU5.out, ?_, HN5.out⟩, by simp [intOf]; omega⟩
        · show World.ownsRow _ _ _ _ _ _ _
          have h := HO5.out
          rw [List.append_assoc, ← HY.out, take_snoc _ _ (by rw [Nm.tg_len]; exact hlt)] at h
          exact h
        · exact (HB.out.alloc HB.out.size _).grown HG5.out (by simp; omega) (fun q hq => (HO.out.lt q hq).1)
      · obtain rfl : j = 32 := by omega
        clear hlt
        go_wp2
        go_ret
        refine ⟨_, u1, rfl, ?_, Lib.hid (RT.out.old HB.out), Lib.hid (ET.out.trans (.of_below HB.out)), Lib.hid (fun E hE h => (EE.out E hE h).old RT.out HB.out)⟩
        have h := HO.out
        rw [List.take_of_length_le (by rw [Nm.tg_len]; omega)] at h
        rw [HSL.out, HK.out, List.length_append, Nm.tg_len]
        exact Lib.hid (own_base h ET.out.size)
/-- The reference's Seal. -/
theorem refseal_any (S : Nm.St) (x : Nm.Four) (B gr : Nat) (v1 v2 : Value) (ph pp : Option Addr) (nh np ch cp : Nat) (hnh : x.2.2.1.length = nh) (hnp : x.2.2.2.length = np) (hsz : nh ≤ 100000 ∧ np ≤ 100000 ∧ S.ss.length ≤ 1000)
    (w : World) (hr : RefAt w B gr v1 v2 S) (hh : Bs w ph ch x.2.2.1) (hp : ∀ y, Eff gr v1.ownBlock w y → Bs y pp cp x.2.2.2) :
    Calls Try.prog 17 #[.pointer (some ⟨gr, 0, none⟩), .int .i64 x.1, .int .i64 x.2.1, .slice ph nh ch, .slice pp np cp] w (RSealSay B gr v1 v2 S x w) := by
  subst hnh
  subst hnp
  cases hm : Nm.may x with
  | false => exact refseal_none S x B gr v1 v2 _ _ hm w hr
  | true => exact refseal_good S x B gr v1 v2 ph pp ch cp hm hsz w hr hh hp
end Go.Proofs.Ytdmnlooghamngaa

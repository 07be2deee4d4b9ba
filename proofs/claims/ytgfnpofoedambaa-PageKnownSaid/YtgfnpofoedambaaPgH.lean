/-
  Contracts: the reference's Get.
-/
import Derived.Test.YtgfnpofoedambaaPgG
namespace Go.Proofs.Ytgfnpofoedambaa
open Go.RowKit

/-- Two nodes at blocks of the call's own (the answer's and the one that is filled), and the reader. -/
structure Gr (w wr : World) (g gp : Nat) (D : Option Nat) (L : List Int) (b : Bool) (R : List Pg.Rf) : Prop where
  rd : RfRd wr g D L b
  p3 : PAt wr w.heap.size Pg.zp
  pp : PAt wr gp R
  low : Below w.heap.size w wr
  ng : w.heap.size < g
  nd3 : D ≠ some w.heap.size
  gpg : gp ≠ g
  gp3 : w.heap.size < gp
  ndp : D ≠ some gp
theorem Gr.read {w wr x : World} {g gp : Nat} {D : Option Nat} {L L' : List Int} {b b' : Bool} {R : List Pg.Rf} (h : Gr w wr g gp D L b R) (hr : RfRd x g D L' b') (ho : Only g wr x) : Gr w x g gp D L' b' R :=
  ⟨hr, h.p3.only ho (Nat.ne_of_lt h.ng), h.pp.only ho h.gpg, ho.below h.low (Nat.le_of_lt h.ng) h.low.size, h.ng, h.nd3, h.gpg, h.gp3, h.ndp⟩
theorem Gr.store {w wr x : World} {g gp : Nat} {D : Option Nat} {L : List Int} {b : Bool} {R R' : List Pg.Rf} (h : Gr w wr g gp D L b R) (hp : PAt x gp R') (ch : Chg gp wr x) : Gr w x g gp D L b R' :=
  ⟨h.rd.only ch.only h.gpg h.ndp, h.p3.only ch.only (Nat.ne_of_lt h.gp3), hp, ch.below h.low (Nat.le_of_lt h.gp3), h.ng, h.nd3, h.gpg, h.gp3, h.ndp⟩
theorem Gr.old {w wr x : World} {g gp : Nat} {D : Option Nat} {L : List Int} {b : Bool} {R : List Pg.Rf} (h : Gr w wr g gp D L b R) (hb : Below wr.heap.size wr x) : Gr w x g gp D L b R :=
  ⟨h.rd.old hb, h.p3.old hb, h.pp.old hb, h.low.trans (hb.mono h.low.size), h.ng, h.nd3, h.gpg, h.gp3, h.ndp⟩
set_option maxHeartbeats 2000000 in
set_option maxRecDepth 100000 in
theorem rget_any (L : List Int) (p : Option Addr) (n c : Nat) (hn : L.length = n) (hL : n ≤ 900000) (w : World) (hp : Bs w p c L) :
    Calls Try.prog 19 #[.slice p n c] w (GotSay L w) := by
  have HP := Lib.hid hp
  have HBY : Hid (Sha.Byt L) := hp.bat.1
  clear hp
  obtain ⟨Z, hZ⟩ : ∃ Z, Hid ((cs Pg.zp).toArray = Z) := ⟨_, rfl⟩
  have HZS : Hid (Z.size = 264) := by show _ = _; rw [← hZ.out, List.size_toArray, cs_len Pg.ok_zp]
  have HZ1 : Hid (Z.all (·.oneCell') = true) := by show _ = _; rw [← hZ.out]; exact all_oneCell_toArray (cs_one Pg.zp)
  have hz := (zero_of_info Try.zeroPage).1
  have HBT := Lib.hid Try.builtPage
  rw [hZ.out] at hz HBT
  have hzn : ¬ Z = #[] := fun h => by have := HZS.out; rw [h] at this; simp at this
  have HPZ : Hid (∀ (y : World) (q : Nat), y.heap[q]? = some (.cells Z 28 (0, 0)) ↔ PAt y q Pg.zp) := fun y q => by unfold PAt; rw [hZ.out]
  have hsz := row_size Try.sizePage HZS
  have HC0 : Hid (∀ y, Below w.heap.size w y → Calls Try.prog 32 #[.slice p n c] y (RfNew L y)) := fun y hy => refread_any L p n c hn (by omega) y (HP.out.old hy)
  have HC1 : Hid (∀ y g D, RfRd y g D L false → Calls Try.prog 33 #[.pointer (some ⟨g, 0, none⟩)] y (RfSay (.int .i64 (Pk.vi L)) (Pg.rs L 0) (Pg.bd L 0) g D y)) := fun y g D hy => by
    have := fint_any L false g D n hn y hy
    rw [← Pg.rs_zero, ← Pg.bd_zero] at this
    exact this
  have HC2 : Hid (∀ k, k < 8 → ∀ y g D, RfRd y g D (Pg.rs L k) (Pg.bd L k) → Calls Try.prog 34 #[.pointer (some ⟨g, 0, none⟩)] y (RfSay (.agg (cl (Pk.vr (Pg.rs L k))).toArray) (Pg.rs L (k + 1)) (Pg.bd L (k + 1)) g D y)) := fun k hk y g D hy => by
    have := fref_any (Pg.rs L k) (Pg.bd L k) g D _ rfl y hy
    rw [← Pg.rs_succ, ← Pg.bd_succ, show R33 (Pk.vr (Pg.rs L k)) = .agg (cl (Pk.vr (Pg.rs L k))).toArray from by unfold R33 cl; rfl] at this
    exact this
  have HC3 : Hid (∀ y g D, RfRd y g D (Pg.rs L 8) (Pg.bd L 8) → Calls Try.prog 35 #[.pointer (some ⟨g, 0, none⟩)] y (EndSay (Pk.en (Pg.rs L 8) (Pg.bd L 8)) y)) := fun y g D hy => refend_any _ _ g D y hy
  have HC4 : Hid (∀ y, Calls Try.prog 25 #[.int .i64 (Pk.vi L), .agg (cs (Pg.gw L 8)).toArray] y (BoSay (Pg.nd (Pk.vi L) (Pg.gw L 8)) y)) := fun y => by
    have := may_any (Pk.vi L) (Pg.gw L 8) (Pg.gw_ok HBY.out 8 (by omega)) y
    rw [show PV (Pg.gw L 8) = .agg (cs (Pg.gw L 8)).toArray from by unfold PV; rfl] at this
    exact this
  have HVS : Hid (∀ k, Pg.Ok (Pk.vr (Pg.rs L k))) := fun k => Pg.vr_ok (Pg.rs_byt HBY.out k)
  have HST : Hid (∀ k, k < 8 → ∀ (y : World) (gp : Nat), y.heap[gp]? = some (.cells (Mix (cs (Pg.gw L k)).toArray (cl (Pk.vr (Pg.rs L k))).toArray k) 28 (0, 0)) → PAt y gp (Pg.gw L (k + 1))) := fun k hk y gp hy => by
    rw [← Pg.gw_succ L k hk]
    exact pat_set (Pg.gw_ok HBY.out k (by omega)) hk (HVS.out k) hy
  have HGL : Hid (∀ k, k ≤ 8 → (cs (Pg.gw L k)).toArray.size = 264 ∧ (cs (Pg.gw L k)).toArray.all (·.oneCell') = true) := fun k hk => ⟨by rw [List.size_toArray, cs_len (Pg.gw_ok HBY.out k hk)], all_oneCell_toArray (cs_one _)⟩
  have HGZ : Hid (Pg.gw L 0 = Pg.zp) := Pg.gw_zero L
  have HN0 : Hid (Pk.en (Pg.rs L 8) (Pg.bd L 8) ≠ 0 → Pg.er L = Pk.en (Pg.rs L 8) (Pg.bd L 8) ∧ Pg.ix L = 0 ∧ .agg Z = PV (Pg.pg L)) := fun h => by
    have h1 : Pg.er L = Pk.en (Pg.rs L 8) (Pg.bd L 8) := by unfold Pg.er; rw [if_pos h]
    refine ⟨h1, (Pg.none (by rw [h1]; exact h)).1, ?_⟩
    rw [(Pg.none (by rw [h1]; exact h)).2, ← hZ.out]
    unfold PV
    rfl
  have HN1 : Hid (Pk.en (Pg.rs L 8) (Pg.bd L 8) = 0 → Pg.nd (Pk.vi L) (Pg.gw L 8) = false → Pg.er L = 7 ∧ Pg.ix L = 0 ∧ .agg Z = PV (Pg.pg L)) := fun h h2 => by
    have h1 : Pg.er L = 7 := by unfold Pg.er; rw [if_neg (by omega), h2]; rfl
    refine ⟨h1, (Pg.none (by omega)).1, ?_⟩
    rw [(Pg.none (by omega)).2, ← hZ.out]
    unfold PV
    rfl
  have HN2 : Hid (Pk.en (Pg.rs L 8) (Pg.bd L 8) = 0 → Pg.nd (Pk.vi L) (Pg.gw L 8) = true → Pg.er L = 0 ∧ Pg.ix L = Pk.vi L ∧ .agg (cs (Pg.gw L 8)).toArray = PV (Pg.pg L)) := fun h h2 => by
    have h1 : Pg.er L = 0 := by unfold Pg.er; rw [if_neg (by omega), if_pos h2]
    refine ⟨h1, by unfold Pg.ix; rw [if_pos h1], ?_⟩
    unfold PV Pg.pg
    rw [if_pos h1]
  have R0 : Hid ((w.alloc (.cells Z 28)).heap[w.heap.size]? = some (.cells Z 28 (0, 0))) := heap_alloc_new w _
  have B0 : Hid (Below w.heap.size w (w.alloc (.cells Z 28))) := (Below.refl _ w).alloc (Nat.le_refl _) _
  have HSU : Hid (w.heap.size < (w.alloc (.cells Z 28)).heap.size) := by show _ < _; simp
  clear hn hL HP HBY
  go_enter Try.func19, Try.ntmps19
  go_upto_region 1 with (fail)
  obtain ⟨w0, hw0⟩ : ∃ x, x = w.alloc (.cells Z 28) := ⟨_, rfl⟩
  rw [← hw0] at B0 R0 HSU ⊢
  clear hw0
  go_upto_region 3 with (first
    | (go_at_call 32; refine (HC0.out _ B0.out).mono ?_; rintro e1 w1 ⟨g, D, rfl, HR1, HG1, HB1⟩)
    | (go_at_call 33; refine (HC1.out _ g D HR1.out).mono ?_; rintro e2 w2 ⟨rfl, HR2, HO2⟩))
  have H3 : Hid (Gr w (w2.alloc (.cells Z 28)) g w2.heap.size D (Pg.rs L 0) (Pg.bd L 0) (Pg.gw L 0)) := by
    have hgw : w.heap.size < g := Nat.lt_of_lt_of_le HSU.out HG1.out.1
    have hB2 : Below w.heap.size w w2 := HO2.out.below (B0.out.trans (HB1.out.mono B0.out.size)) (Nat.le_of_lt hgw) (Nat.le_trans B0.out.size HB1.out.size)
    have ha : Below w2.heap.size w2 (w2.alloc (.cells Z 28)) := (Below.refl _ _).alloc (Nat.le_refl _) _
    have r1 := (HB1.out.block _ (lt_of_block R0.out)).trans R0.out
    have r2 := (HO2.out.block _ (lt_of_block r1) (Nat.ne_of_lt hgw)).trans r1
    refine ⟨HR2.out.old ha, (HPZ.out _ _).1 ((ha.block _ (lt_of_block r2)).trans r2), ?_, hB2.alloc hB2.size _, hgw, fun h => ?_, Nat.ne_of_gt HR2.out.glt, ?_, fun h => ?_⟩
    · rw [HGZ.out]; exact (HPZ.out _ _).1 (heap_alloc_new w2 _)
    · have := HG1.out.2 _ h; have := HSU.out; omega
    · have := HR2.out.glt; omega
    · have := HR2.out.lt _ h; omega
  clear HC0 HC1 HR1 HB1 HR2 HO2 R0 B0 HG1 HGZ
  go_upto_region 4 with (fail)
  obtain ⟨w3, hw3⟩ : ∃ x, x = w2.alloc (.cells Z 28) := ⟨_, rfl⟩
  obtain ⟨gp, hgp⟩ : ∃ x, x = w2.heap.size := ⟨_, rfl⟩
  rw [← hw3, ← hgp] at H3 ⊢
  clear hw3 hgp hz hzn
  go_wp2
  go_loopw [8] (fun v8 wr => ∃ k : Nat, k ≤ 8 ∧ v8 = .int .i64 k ∧ Hid (Gr w wr g gp D (Pg.rs L k) (Pg.bd L k) (Pg.gw L k))) (fun v8 _ => 8 - (intOf v8).toNat)
  case atStart => exact ⟨0, by omega, rfl, H3.out⟩
  case round =>
    clear H3
    obtain ⟨k, hk, rfl, H4⟩ := hrel
    by_cases hlt : k < 8
    · have hx : (k : Int) < 8 := by omega
      have hx0 : (0 : Int) ≤ (k : Int) := by omega
      have RC := Lib.hid (HC2.out k hlt wr g D H4.out.rd)
      have RT := Lib.hid (HST.out k hlt)
      have RG := Lib.hid (HGL.out k hk).1
      have RV : Hid ((cl (Pk.vr (Pg.rs L k))).toArray.size = 33) := by show _ = _; rw [List.size_toArray, cl_len (HVS.out k)]
      have RO : Hid ((cl (Pk.vr (Pg.rs L k))).toArray.all (·.oneCell') = true) := all_oneCell_toArray (cl_one _)
      have RP : Hid (∀ x, Only g wr x → x.heap[gp]? = some (.cells (cs (Pg.gw L k)).toArray 28 (0, 0))) := fun x ho => H4.out.pp.only ho H4.out.gpg
      have RK : Hid (k * 33 + 33 ≤ 264) := by show _ ≤ _; omega
      generalize (cl (Pk.vr (Pg.rs L k))).toArray = V at *
      generalize (cs (Pg.gw L k)).toArray = W at *
      clear HC2 HC3 HC4 HN0 HN1 HN2 HST HVS HPZ HGL hlt HBT
      go_wp2_with (first
        | (go_at_call 34; refine RC.out.mono ?_; rintro e5 w5 ⟨rfl, HR5, HO5⟩)
        | ((with_reducible refine mid_store _ _ _ gp (k * 33) _ W V ?_ ?_ (RP.out _ HO5.out) (row_size Try.sizeRef RV) ?_ RO.out ?_); (go_simp); (exact rfl); (rw [RV.out, RG.out]; exact RK.out); intro w6 G6 ch6))
      exact ⟨⟨k + 1, by omega, by go_num, (H4.out.read HR5.out HO5.out).store (RT.out _ _ G6.out) ch6⟩, by simp [intOf]; omega⟩
    · obtain rfl : k = 8 := by omega
      clear hlt HC2 HST HVS
      have RC := Lib.hid (HC3.out wr g D H4.out.rd)
      have HG8 := Lib.hid (HGL.out 8 (by omega)).1
      have HG9 := Lib.hid (HGL.out 8 (by omega)).2
      have R3 : Hid (∀ x, Below wr.heap.size wr x → x.heap[w.heap.size]? = some (.cells Z 28 (0, 0))) := fun x hx => (HPZ.out _ _).2 (H4.out.p3.old hx)
      have RP : Hid (∀ x, Below wr.heap.size wr x → x.heap[gp]? = some (.cells (cs (Pg.gw L 8)).toArray 28 (0, 0))) := fun x hx => H4.out.pp.old hx
      have RB : Hid (∀ x, Below wr.heap.size wr x → Below w.heap.size w x) := fun x hx => H4.out.low.trans (hx.mono H4.out.low.size)
      obtain ⟨en, hen⟩ : ∃ en, Hid (Pk.en (Pg.rs L 8) (Pg.bd L 8) = en) := ⟨_, rfl⟩
      rw [hen.out] at RC HN0 HN1 HN2
      obtain ⟨ix, hix⟩ : ∃ ix, Hid (Pk.vi L = ix) := ⟨_, rfl⟩
      obtain ⟨q, hq⟩ : ∃ q, Hid (Pg.nd (Pk.vi L) (Pg.gw L 8) = q) := ⟨_, rfl⟩
      rw [hq.out] at HC4 HN1 HN2
      rw [hix.out] at HC4 HN2 ⊢
      generalize (cs (Pg.gw L 8)).toArray = W at *
      have HGP : Hid (w.heap.size < gp) := H4.out.gp3
      clear HC3 HPZ HGL hen hix hq H4
      by_cases h0 : en = 0
      · subst h0
        cases q with
        | false =>
          have HE := Lib.hid (HN1.out rfl rfl)
          clear HN0 HN1 HN2
          go_wp2_with (first
            | (go_at_call 35; refine RC.out.mono ?_; rintro e7 w7 ⟨rfl, hb7⟩; have HB7 := Lib.hid hb7; clear hb7)
            | ((with_reducible refine row_load_g _ _ _ _ _ _ _ ?_ ?_ (RP.out _ HB7.out) Try.underlying28 ?_ (row_size Try.sizePage HG8) ?_); (exact rfl); (exact rfl); (exact rfl))
            | (go_at_call 25; refine (HC4.out _).mono ?_; rintro e8 w8 ⟨rfl, HB8⟩; have HB9 := Lib.hid (HB7.out.trans (HB8.out.mono HB7.out.size)))
            | ((with_reducible refine row_build0 _ _ HBT.out ?_))
            | ((with_reducible refine row_store _ _ _ _ _ _ _ ?_ ?_ (R3.out _ HB9.out) (row_size Try.sizePage HZS) ?_ HZ1.out ?_); (exact rfl); (exact rfl); (exact rfl); intro w9 G9 ch9))
          refine bodyPost_ret (results_tct rfl _ _ w.heap.size 28 Z (0, 0) _ rfl G9.out Try.underlying28 rfl (row_size Try.sizePage HZS)) rfl ⟨?_, ch9.below (RB.out _ HB9.out) (Nat.le_refl _)⟩
          obtain ⟨ha, hb, hc⟩ := HE.out
          rw [ha, hb, ← hc]; rfl
        | true =>
          have HE := Lib.hid (HN2.out rfl rfl)
          clear HN0 HN1 HN2
          go_upto_region 13 with (first
            | (go_at_call 35; refine RC.out.mono ?_; rintro e7 w7 ⟨rfl, hb7⟩; have HB7 := Lib.hid hb7; clear hb7)
            | ((with_reducible refine row_load_g _ _ _ _ _ _ _ ?_ ?_ (RP.out _ HB7.out) Try.underlying28 ?_ (row_size Try.sizePage HG8) ?_); (exact rfl); (exact rfl); (exact rfl))
            | (go_at_call 25; refine (HC4.out _).mono ?_; rintro e8 w8 ⟨rfl, HB8⟩; have HB9 := Lib.hid (HB7.out.trans (HB8.out.mono HB7.out.size))))
          have RPD := Lib.hid (RP.out _ HB9.out.drew)
          have R3D := Lib.hid (R3.out _ HB9.out.drew)
          have RBD := Lib.hid (RB.out _ HB9.out.drew)
          refine wp_region_any (by kernel_rfl) ?_
          change wpAny _ _ _ _ _ _ _ (World.drew _)
          obtain ⟨z, hz⟩ : ∃ x, x = w8.drew := ⟨_, rfl⟩
          rw [← hz] at RPD R3D RBD ⊢
          clear hz
          refine wpAny_of_held (S := fun y => y.heap[gp]? = some (.cells W 28 (0, 0))) _ _ _ _ ?_
          have SD := RPD.out
          refine anyH_take 0 37 (.int .i64 ix) SD rfl (by kernel_rfl) (by kernel_rfl) (by kernel_rfl) (fun _ _ _ h => h) (by rfl) (by intro x hx; go_simp) ?_
          try simp only [Act.put, List.setIfInBounds_toArray, List.set_cons_zero, List.set_cons_succ]
          refine anyH_take 1 38 (.agg W) SD rfl (by kernel_rfl) (by kernel_rfl) (by kernel_rfl) (fun _ _ _ h => h) (by rfl) (fun x hx => exec_arr 28 (.tmp 7) gp 0 W _ rfl (fun j v hv => by rw [cell_of_row x gp (0 + j) _ _ _ hx, Nat.zero_add]; simpa using hv) Try.underlying28 rfl (row_size Try.sizePage HG8)) ?_
          try simp only [Act.put, List.setIfInBounds_toArray, List.set_cons_zero, List.set_cons_succ]
          refine anyH_take 2 2 (.int .i64 ix) SD rfl (by kernel_rfl) (by kernel_rfl) (by kernel_rfl) (fun _ _ _ h => h) (by rfl) (by intro x hx; go_simp) ?_
          try simp only [Act.put, List.setIfInBounds_toArray, List.set_cons_zero, List.set_cons_succ]
          refine anyH_one 3 (by kernel_rfl) ?_
          refine op_store 3 28 (.tmp 3) (.tmp 38) rfl w.heap.size 0 28 Z.toList W rfl rfl (by rw [Array.toArray_toList]; exact R3D.out) (row_size Try.sizePage HG8) (by rw [HG8.out, Array.length_toList, HZS.out]; exact Nat.le_refl _) HG9.out ?_
          intro w9 g9 ch9
          have G9 : Hid (w9.heap[w.heap.size]? = some (.cells W 28 (0, 0))) := by
            have h := g9.out
            have e : splice Z.toList 0 W.toList = W.toList := by
              unfold splice
              rw [List.take_zero, List.nil_append, Array.length_toList, HG8.out, List.drop_of_length_le (by rw [Array.length_toList, HZS.out]; exact Nat.le_refl _), List.append_nil]
            rw [e, Array.toArray_toList] at h
            exact h
          refine ⟨(ch9.block _ (Nat.ne_of_gt HGP.out)).trans RPD.out, ?_⟩
          have SE := (ch9.block _ (Nat.ne_of_gt HGP.out)).trans RPD.out
          try simp only [Act.put, List.setIfInBounds_toArray, List.set_cons_zero, List.set_cons_succ]
          refine anyH_take 4 4 (.int .i64 0) SE rfl (by kernel_rfl) (by kernel_rfl) (by kernel_rfl) (fun _ _ _ h => h) (by rfl) (by intro x hx; go_simp) ?_
          try simp only [Act.put, List.setIfInBounds_toArray, List.set_cons_zero, List.set_cons_succ]
          refine wpAnyH_done (by kernel_rfl) ?_ _
          go_wp2
          refine bodyPost_ret (results_tct rfl _ _ w.heap.size 28 W (0, 0) _ rfl G9.out Try.underlying28 rfl (row_size Try.sizePage HG8)) rfl ⟨?_, ch9.below RBD.out (Nat.le_refl _)⟩
          obtain ⟨ha, hb, hc⟩ := HE.out
          rw [ha, hb, ← hc]; rfl
      · have HE := Lib.hid (HN0.out h0)
        have hne : (en != 0) = true := by simp [h0]
        have heq : (en == 0) = false := by simp [h0]
        clear HN0 HN1 HN2
        go_wp2_with (first
          | (go_at_call 35; refine RC.out.mono ?_; rintro e7 w7 ⟨rfl, hb7⟩; have HB7 := Lib.hid hb7; clear hb7)
          | ((with_reducible refine row_build0 _ _ HBT.out ?_))
          | ((with_reducible refine row_store _ _ _ _ _ _ _ ?_ ?_ (R3.out _ HB7.out) (row_size Try.sizePage HZS) ?_ HZ1.out ?_); (exact rfl); (exact rfl); (exact rfl); intro w9 G9 ch9))
        refine bodyPost_ret (results_tct rfl _ _ w.heap.size 28 Z (0, 0) _ rfl G9.out Try.underlying28 rfl (row_size Try.sizePage HZS)) rfl ⟨?_, ch9.below (RB.out _ HB7.out) (Nat.le_refl _)⟩
        obtain ⟨ha, hb, hc⟩ := HE.out
        rw [ha, hb, ← hc]; rfl
end Go.Proofs.Ytgfnpofoedambaa

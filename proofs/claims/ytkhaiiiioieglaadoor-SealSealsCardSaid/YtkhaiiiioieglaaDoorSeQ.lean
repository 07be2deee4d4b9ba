/-
  The law SealSeals walked.
-/
import Derived.Test.YtkhaiiiioieglaaDoorSeV
namespace Go.Proofs.YtkhaiiiioieglaaDoor
open Go.RowKit

theorem Boxed.only {w x : World} {g c j : Nat} {M : List Int} (h : Boxed w g c M) (ho : Only j w x) (hj : g ≠ j) : Boxed x g c M := (ho.block _ (lt_of_block h) hj).trans h
theorem BoxAt.only {w x : World} {g j : Nat} {K : List Int} {A : Array Value} {fr : Nat × Nat} (h : BoxAt w g K) (hg : w.heap[j]? = some (.cells A 5 fr)) (ho : Only j w x) : BoxAt x g K := by
  obtain ⟨c, h1, h2⟩ := h
  refine ⟨c, h1.only ho (fun e => ?_), h2.only hg ho⟩
  subst e
  unfold Boxed at h1
  rw [hg] at h1
  injection h1 with h1
  injection h1 with _ h1 _
  exact absurd h1 (by decide)
theorem WAt.only {w x : World} {b nh ch j : Nat} {e n : Int} {ph : Option Addr} (h : WAt w b e n ph nh ch) (ho : Only j w x) (hj : b ≠ j) : WAt x b e n ph nh ch := (ho.block _ (lt_of_block h) hj).trans h
/-- Own bytes stay while others are written over. -/
theorem own_sp {w x : World} {B n : Nat} {v u : Value} {xs : List Value} (h : w.ownsRow B 5 1 v n xs) (hs : Sp u w x) (hne : ∀ g, v.ownBlock = some g → u.ownBlock ≠ some g) : x.ownsRow B 5 1 v n xs := by
  rcases hs with rfl | ⟨j, hj, ho⟩
  · exact h
  · refine ⟨h.1, ?_⟩
    rcases h.2 with h1 | ⟨g, cap, cur, h1, h2, h3, h4⟩
    · exact Or.inl h1
    · refine Or.inr ⟨g, cap, cur, h1, h2, (ho.block _ (lt_of_block h3) (fun e => ?_)).trans h3, h4⟩
      subst e
      exact hne g (by rw [h1]; rfl) hj
theorem sp_block {w x : World} {u : Value} {k : Nat} (hs : Sp u w x) (hk : k < w.heap.size) (hne : u.ownBlock ≠ some k) : x.heap[k]? = w.heap[k]? := by
  rcases hs with rfl | ⟨j, hj, ho⟩
  · rfl
  · exact ho.block _ hk (fun e => hne (by rw [hj, e]))
set_option maxHeartbeats 2000000 in
set_option maxRecDepth 100000 in
theorem seals_long (hT : TakeSaid) (e n : Int) (p0 ph p1 : Option Addr) (n0 nh n1 c0 ch c1 : Nat) (h : 4096 < n0 ∨ 4096 < nh ∨ 4096 < n1) (w : World) (ht : Tab w 1) :
    Calls Tryd.prog 3 #[.slice p0 n0 c0, .agg #[.int .i64 e, .int .i64 n, .slice ph nh ch], .slice p1 n1 c1] w (YesSay w) := by
  have B0 : Hid (Below w.heap.size w (w.alloc (wobj e n ph nh ch))) := (Below.refl _ w).alloc (Nat.le_refl _) _
  have HK : Hid (Calls Tryd.prog 8 #[] (w.alloc (wobj e n ph nh ch)) (YesSay (w.alloc (wobj e n ph nh ch)))) := known_any hT _ (ht.below B0.out ht.lt)
  clear ht hT
  by_cases h1 : (4096 : Int) < (n0 : Int)
  · go_enter Tryd.func3, Tryd.ntmps3
    go_wp2_with (go_at_call 8; refine HK.out.mono ?_; rintro e1 w1 ⟨rfl, hb1⟩)
    go_ret
    exact ⟨rfl, B0.out.trans (hb1.mono B0.out.size)⟩
  · by_cases h2 : (4096 : Int) < (nh : Int)
    · go_enter Tryd.func3, Tryd.ntmps3
      go_wp2_with (go_at_call 8; refine HK.out.mono ?_; rintro e1 w1 ⟨rfl, hb1⟩)
      go_ret
      exact ⟨rfl, B0.out.trans (hb1.mono B0.out.size)⟩
    · have h3 : (4096 : Int) < (n1 : Int) := by omega
      go_enter Tryd.func3, Tryd.ntmps3
      go_wp2_with (go_at_call 8; refine HK.out.mono ?_; rintro e1 w1 ⟨rfl, hb1⟩)
      go_ret
      exact ⟨rfl, B0.out.trans (hb1.mono B0.out.size)⟩

theorem sp_size {w x : World} {u : Value} (hs : Sp u w x) : w.heap.size ≤ x.heap.size := by
  rcases hs with rfl | ⟨j, _, ho⟩
  · exact Nat.le_refl _
  · exact ho.size
theorem lent_bs {w : World} {g : Nat} {L : List Int} (hL : L.length ≤ 100000) (h : w.heap[g]? = some (.cells ((mk5 L).map (Value.int .u8)).toArray 5 (0, 0))) (hb : Sha.Byt L) : Bs w (some ⟨g, 0, none⟩) (L.length + 5) L := by
  have h1 := bat_row h (mk5_byt hb)
  unfold mk5 at h1
  exact bs_row h1.pre ⟨by omega, by omega⟩

set_option maxHeartbeats 8000000 in
set_option maxRecDepth 100000 in
theorem seals_short (hT : TakeSaid) (K h L : List Int) (e n : Int) (p0 ph p1 : Option Addr) (c0 ch c1 : Nat) (l0 : K.length ≤ 4096) (lh : h.length ≤ 4096) (l1 : L.length ≤ 4096)
    (w : World) (hb0 : Bs w p0 c0 K) (hbh : Bs w ph ch h) (hb1 : Bs w p1 c1 L) (ht : Tab w 1) (htk : Tab w 0) :
    Calls Tryd.prog 3 #[.slice p0 K.length c0, .agg #[.int .i64 e, .int .i64 n, .slice ph h.length ch], .slice p1 L.length c1] w (YesSay w) := by
  have HT := Lib.hid hT; clear hT
  have Ht := Lib.hid ht; clear ht
  have Htk := Lib.hid htk; clear htk
  have H0 := Lib.hid hb0; clear hb0
  have HH := Lib.hid hbh; clear hbh
  have H1 := Lib.hid hb1; clear hb1
  have B0 : Hid (Below w.heap.size w (w.alloc (wobj e n ph h.length ch))) := (Below.refl _ w).alloc (Nat.le_refl _) _
  have HW0 : Hid (WAt (w.alloc (wobj e n ph h.length ch)) w.heap.size e n ph h.length ch) := what_new _ _ _ _ _ _
  have HS0 : Hid (w.heap.size + 1 ≤ (w.alloc (wobj e n ph h.length ch)).heap.size) := by show _ ≤ _; simp
  have l0' : ¬ ((4096 : Int) < (K.length : Int)) := by omega
  have lh' : ¬ ((4096 : Int) < (h.length : Int)) := by omega
  have l1' : ¬ ((4096 : Int) < (L.length : Int)) := by omega
  have k5 : (K.length : Int) ≤ (K.length : Int) + 5 := by omega
  have h5 : (h.length : Int) ≤ (h.length : Int) + 5 := by omega
  have L5 : (L.length : Int) ≤ (L.length : Int) + 5 := by omega
  have hng := Tryd.noGuard
  obtain ⟨R, HR⟩ : ∃ R, Hid (R = Seal.sl K e n h L) := ⟨_, rfl⟩
  obtain ⟨O, HO⟩ : ∃ O, Hid (O = Seal.op K e n h L) := ⟨_, rfl⟩
  have HTB : Hid (∀ x, Below w.heap.size w x → Tab x 1) := fun x hx => Ht.out.below hx Ht.out.lt
  have HTK : Hid (∀ x, Below w.heap.size w x → Tab x 0) := fun x hx => Htk.out.below hx Htk.out.lt
  have HSEAL : Hid (∀ g x q r cq cr, Below w.heap.size w x → BoxAt x g K → Bs x q cq h → Bs x r cr L → Calls Tryd.prog 14 #[.pointer (some ⟨g, 0, none⟩), .int .i64 e, .int .i64 n, .slice q h.length cq, .slice r L.length cr] x (OwnSay R x)) := fun g x q r cq cr hx hg hq hr => by
    rw [HR.out]
    exact seal_any HT.out K h L g e n q r _ _ cq cr rfl rfl x hg hq hr (by omega) (HTB.out x hx)
  have HOPEN : Hid (∀ g x q r cq cr, Below w.heap.size w x → BoxAt x g K → Bs x q cq h → Bs x r cr L → Calls Tryd.prog 15 #[.pointer (some ⟨g, 0, none⟩), .int .i64 e, .int .i64 n, .slice q h.length cq, .slice r L.length cr] x (OpenSay O x)) := fun g x q r cq cr hx hg hq hr => by
    rw [HO.out]
    exact open_any HT.out K h L g e n q r _ _ cq cr rfl rfl x hg hq hr (by omega) (HTB.out x hx)
  have HRS : Hid (∀ B g x, Below w.heap.size w x → RBox B x g K → Calls Tryd.prog 18 #[.pointer (some ⟨g, 0, none⟩), .int .i64 e, .int .i64 n, .slice ph h.length ch, .slice p1 L.length c1] x (OwnSay R x)) := fun B g x hx hg => by
    rw [HR.out]
    exact refseal_any K h L B g e n ph p1 _ _ ch c1 rfl rfl x hg (HH.out.old hx) (H1.out.old hx) ⟨lh, l1⟩ (HTK.out x hx)
  have HRO : Hid (∀ B g x, Below w.heap.size w x → RBox B x g K → Calls Tryd.prog 16 #[.pointer (some ⟨g, 0, none⟩), .int .i64 e, .int .i64 n, .slice ph h.length ch, .slice p1 L.length c1] x (OpenSay O x)) := fun B g x hx hg => by
    rw [HO.out]
    exact refopen_any K h L B g e n ph p1 _ _ ch c1 rfl rfl x hg (HH.out.old hx) (H1.out.old hx) ⟨lh, l1⟩ (HTK.out x hx)
  have HRL : R.length ≤ 5000 := by
    rw [HR.out]
    cases hin : (inR e && inR n) with
    | false => rw [Seal.sl_bad hin]; simp
    | true =>
      simp only [Bool.and_eq_true] at hin
      rw [Seal.sl_len hin.1 hin.2]
      omega
  have HOL : (O.getD []).length ≤ 5000 := by
    rw [HO.out]
    unfold Seal.op
    split
    · simp only [Option.getD_some, Seal.ct_len, List.length_take]; omega
    · simp
  clear HR HO
  obtain ⟨AS, HAS⟩ : ∃ A : Array Value, Hid (A = ((Sha.dg L).map (Value.int .u8)).toArray) := ⟨_, rfl⟩
  have HEQ : ∀ w, (Op.equalIn 10000 37 (.agg AS) (.agg AS)).run Tryd.prog w = .ok true w := fun w => by rw [HAS.out]; exact sum_same _ (dg_len _) w
  have TK1 : Hid True := trivial
  go_enter Tryd.func3, Tryd.ntmps3
  go_upto_region 9 with (first
    | (go_at_call 9; refine (lent_any K p0 c0 _ (H0.out.old B0.out).bat (by omega)).mono ?_; rintro e1 w1 ⟨gk, rfl, hgk, hG1, hb1⟩; have HGK := Lib.hid hgk; have G1 := Lib.hid hG1; have B1 : Hid (Below w.heap.size w w1) := B0.out.trans (hb1.mono B0.out.size); have HW1 := Lib.hid (HW0.out.old hb1); clear hb1 hgk hG1 TK1)
    | (go_at_call 10; refine (newbox_any HT.out K (some ⟨gk, 0, none⟩) K.length (K.length + 5) rfl (by omega) _ (lent_bs (by omega) G1.out H0.out.byt) (HTB.out _ B1.out)).mono ?_; rintro e2 w2 ⟨gx, rfl, GX2, hb2⟩; have B2 : Hid (Below w.heap.size w w2) := B1.out.trans (hb2.mono B1.out.size); have HW2 := Lib.hid (HW1.out.old hb2); have G2 := Lib.hid ((hb2.block _ (lt_of_block G1.out)).trans G1.out); clear hb2)
    | (go_at_call 11; refine (refbox_any K p0 K.length c0 rfl (by omega) _ (H0.out.old B2.out) (HTK.out _ B2.out)).mono ?_; rintro e3 w3 ⟨gm, rfl, RM3, hb3⟩; have B3 : Hid (Below w.heap.size w w3) := B2.out.trans (hb3.mono B2.out.size); have HW3 := Lib.hid (HW2.out.old hb3); have G3 := Lib.hid ((hb3.block _ (lt_of_block G2.out)).trans G2.out); have GX3 : Hid (BoxAt w3 gx K) := GX2.out.old hb3; have HLT := Lib.hid (lt_of_block G2.out); clear hb3)
    | (go_at_call 12; refine (kept_any K gk p0 (K.length + 5) c0 _ (bat_row G3.out (mk5_byt H0.out.byt)) (H0.out.old B3.out).bat (by omega) (Nat.le_refl _)).mono ?_; rintro e4 w4 ⟨rfl, hb4⟩; have B4 : Hid (Below w.heap.size w w4) := B3.out.trans (hb4.mono B3.out.size); have HW4 := Lib.hid (HW3.out.old hb4); have G4 := Lib.hid ((hb4.block _ (lt_of_block G3.out)).trans G3.out); have GX4 : Hid (BoxAt w4 gx K) := GX3.out.old hb4; have RM4 := Lib.hid (RM3.out.keep hb4); clear hb4)
    | (go_at_call 13; refine (spoil_any (mk5 K) gk _ _ (mk5_len K) (by omega) _ G4.out).mono ?_; rintro e5 y ⟨rfl, ho5⟩; have BY : Hid (Below w.heap.size w y) := ho5.below B4.out (by have := HGK.out; have := HS0.out; omega) B4.out.size; have GX : Hid (BoxAt y gx K) := GX4.out.only G4.out ho5; have RM := Lib.hid (RM4.out.only ho5 HLT.out); have HWY := Lib.hid (HW4.out.only ho5 (by have := HGK.out; have := HS0.out; omega)); clear ho5))
  have MY := Lib.hid (lt_of_block HWY.out)
  clear B0 B1 B2 B3 B4 HW0 HW1 HW2 HW3 HW4 GX2 GX3 GX4 RM3 RM4 G1 G2 G3 G4 HGK HLT HS0
  have s0 := HWY.out.c0
  have s1 := HWY.out.c1
  have s2 := HWY.out.c2
  go_wp2_with (first
    | (go_at_call 9; refine (lent_any h ph ch _ (HH.out.old BY.out).bat (by omega)).mono ?_; rintro e6 w6 ⟨gh, rfl, _, hG6, hb6⟩; have G6 := Lib.hid hG6; have B6 : Hid (Below w.heap.size w w6) := BY.out.trans (hb6.mono BY.out.size); have HW6 := Lib.hid (HWY.out.old hb6); have GX6 : Hid (BoxAt w6 gx K) := GX.out.old hb6; have RM6 := Lib.hid (RM.out.keep hb6); have t2 := HW6.out.c2; clear hb6 hG6 BY)
    | (go_at_call 9; refine (lent_any L p1 c1 _ (H1.out.old B6.out).bat (by omega)).mono ?_; rintro e7 w7 ⟨ga, rfl, _, hG7, hb7⟩; have G7a := Lib.hid hG7; have B7 : Hid (Below w.heap.size w w7) := B6.out.trans (hb7.mono B6.out.size); have HW7 := Lib.hid (HW6.out.old hb7); have GX7 : Hid (BoxAt w7 gx K) := GX6.out.old hb7; have RM7 := Lib.hid (RM6.out.keep hb7); have G7h := Lib.hid ((hb7.block _ (lt_of_block G6.out)).trans G6.out); have u0 := HW7.out.c0; have u1 := HW7.out.c1; have u2 := HW7.out.c2; clear hb7 hG7 B6 G6 HW6 GX6 RM6)
    | (go_at_call 14; refine (HSEAL.out gx _ _ _ _ _ B7.out GX7.out (lent_bs (by omega) G7h.out HH.out.byt) (lent_bs (by omega) G7a.out H1.out.byt)).mono ?_; rintro e8 w8 ⟨ps, cs, ms, rfl, hm8, O8, A8, hb8⟩; have HM8 := Lib.hid hm8; have D8 := Lib.hid hb8; have B8 : Hid (Below w.heap.size w w8) := B7.out.trans (hb8.mono B7.out.size); have v0 := (HW7.out.old hb8).c0; have v1 := (HW7.out.old hb8).c1; clear hb8 hm8 HSEAL)
    | (go_at_call 15; refine (HOPEN.out gx _ _ _ _ _ B8.out (GX7.out.old D8.out) ((lent_bs (by omega) G7h.out HH.out.byt).old D8.out) ((lent_bs (by omega) G7a.out H1.out.byt).old D8.out)).mono ?_; rintro e9 w9 ⟨po, co, mo, rfl, hm9, O9, P9, hb9⟩; have HM9 := Lib.hid hm9; have E9 := Lib.hid hb9; have D9 : Hid (Below w7.heap.size w7 w9) := D8.out.trans (hb9.mono D8.out.size); have B9 : Hid (Below w.heap.size w w9) := B7.out.trans (D9.out.mono B7.out.size); have x0 := (HW7.out.old D9.out).c0; have x1 := (HW7.out.old D9.out).c1; have x2 := (HW7.out.old D9.out).c2; clear hb9 hm9 HOPEN)
    | (go_at_call 16; refine (HRO.out _ gm _ B9.out (RM7.out.keep D9.out)).mono ?_; rintro e10 w10 ⟨qo, do10, m10, rfl, hm10, _, Q10, hb10⟩; obtain rfl : mo = m10 := HM9.out.symm.trans hm10; have F10 := Lib.hid hb10; have E10 : Hid (Below w8.heap.size w8 w10) := E9.out.trans (hb10.mono E9.out.size); have D10 : Hid (Below w7.heap.size w7 w10) := D8.out.trans (E10.out.mono D8.out.size); have B10 : Hid (Below w.heap.size w w10) := B7.out.trans (D10.out.mono B7.out.size); have z0 := (HW7.out.old D10.out).c0; have z1 := (HW7.out.old D10.out).c1; have z2 := (HW7.out.old D10.out).c2; clear hb10 hm10 HRO)
    | (go_at_call 18; refine (HRS.out _ gm _ B10.out (RM7.out.keep D10.out)).mono ?_; rintro e11 w11 ⟨qs, ds, m11, rfl, hm11, _, A11, hb11⟩; obtain rfl : ms = m11 := HM8.out.symm.trans hm11; have J11 := Lib.hid hb11; have F11 : Hid (Below w9.heap.size w9 w11) := F10.out.trans (hb11.mono F10.out.size); have E11 : Hid (Below w8.heap.size w8 w11) := E9.out.trans (F11.out.mono E9.out.size); have B11 : Hid (Below w.heap.size w w11) := B8.out.trans (E11.out.mono B8.out.size); clear hb11 hm11 HRS)
    | (go_at_call 17; refine (same_any R ps qs ms ms cs ds HM8.out HM8.out _ (A8.out.old E11.out).bat A11.out.bat (by omega)).mono ?_; rintro e12 w12 ⟨rfl, hb12⟩; have J12 : Hid (Below w10.heap.size w10 w12) := J11.out.trans (hb12.mono J11.out.size); have F12 : Hid (Below w9.heap.size w9 w12) := F10.out.trans (J12.out.mono F10.out.size); clear hb12 A11 A8)
    | (go_at_call 17; refine (same_any (O.getD []) po qo mo mo co do10 HM9.out HM9.out _ (P9.out.old F12.out).bat (Q10.out.old J12.out).bat (by omega)).mono ?_; rintro e13 w13 ⟨rfl, hb13⟩; have F13 : Hid (Below w9.heap.size w9 w13) := F12.out.trans (hb13.mono F12.out.size); have D13 : Hid (Below w7.heap.size w7 w13) := D9.out.trans (F13.out.mono D9.out.size); have B13 : Hid (Below w.heap.size w w13) := B7.out.trans (D13.out.mono B7.out.size); clear hb13 P9 Q10)
    | (go_at_call 19; refine (boxsum_any HT.out L _ (some ⟨ga, 0, none⟩) L.length (L.length + 5) rfl (by omega) _ ((lent_bs (by omega) G7a.out H1.out.byt).old D13.out) (HTB.out _ B13.out)).mono ?_; rintro e14 w14 ⟨rfl, hb14⟩; rw [← HAS.out]; have F14 : Hid (Below w9.heap.size w9 w14) := F13.out.trans (hb14.mono F13.out.size); have B14 : Hid (Below w.heap.size w w14) := B13.out.trans (hb14.mono B13.out.size); clear hb14)
    | (go_at_call 20; refine (refsum_any L _ p1 L.length c1 rfl (by omega) _ (H1.out.old B14.out) (HTK.out _ B14.out)).mono ?_; rintro e15 w15 ⟨rfl, hb15⟩; rw [← HAS.out]; have F15 : Hid (Below w9.heap.size w9 w15) := F14.out.trans (hb15.mono F14.out.size); have E15 : Hid (Below w8.heap.size w8 w15) := E9.out.trans (F15.out.mono E9.out.size); have D15 : Hid (Below w7.heap.size w7 w15) := D8.out.trans (E15.out.mono D8.out.size); have B15 : Hid (Below w.heap.size w w15) := B7.out.trans (D15.out.mono B7.out.size); have OS := Lib.hid (own_keepX O8.out E15.out); have OP := Lib.hid (own_keepX O9.out F15.out); clear hb15)
    | (go_at_call 13; refine (spoil_own OS.out (by have := HM8.out; omega)).mono ?_; rintro e16 w16 ⟨rfl, hs16⟩; have ne7 : ∀ k, k < w7.heap.size → (Value.slice ps ms cs).ownBlock ≠ some k := fun k hk hq => (by have := (O8.out.lt k hq).1; omega); have B16 : Hid (Below w.heap.size w w16) := hs16.below B15.out B15.out.size (fun q hq => Nat.le_trans B7.out.size (O8.out.lt q hq).1); have OP16 := Lib.hid (own_sp OP.out hs16 (fun q hq hq2 => by have q1 := (O9.out.lt q hq).1; have q2 := (O8.out.lt q hq2).2; omega)); have K16 : Hid (∀ k, k < w7.heap.size → w16.heap[k]? = w7.heap[k]?) := fun k hk => (sp_block hs16 (Nat.lt_of_lt_of_le hk D15.out.size) (ne7 k hk)).trans (D15.out.block k hk); have S16 : Hid (w15.heap.size ≤ w16.heap.size) := sp_size hs16; clear hs16 ne7 OS)
    | (go_at_call 13; refine (spoil_own OP16.out (by have := HM9.out; omega)).mono ?_; rintro e17 w17 ⟨rfl, hs17⟩; have ne7 : ∀ k, k < w7.heap.size → (Value.slice po mo co).ownBlock ≠ some k := fun k hk hq => (by have q1 := (O9.out.lt k hq).1; have q2 := D8.out.size; omega); have B17 : Hid (Below w.heap.size w w17) := hs17.below B16.out B16.out.size (fun q hq => Nat.le_trans B8.out.size (O9.out.lt q hq).1); have K17 : Hid (∀ k, k < w7.heap.size → w17.heap[k]? = w7.heap[k]?) := fun k hk => (sp_block hs17 (Nat.lt_of_lt_of_le hk (Nat.le_trans D15.out.size S16.out)) (ne7 k hk)).trans (K16.out k hk); have HW17 : Hid (WAt w17 w.heap.size e n ph h.length ch) := (K17.out _ (lt_of_block HW7.out)).trans HW7.out; have G17h := Lib.hid ((K17.out _ (lt_of_block G7h.out)).trans G7h.out); have G17a := Lib.hid ((K17.out _ (lt_of_block G7a.out)).trans G7a.out); have q2 := HW17.out.c2; clear hs17 ne7 OP16)
    | (go_at_call 12; refine (kept_any h gh ph (h.length + 5) ch _ (bat_row G17h.out (mk5_byt HH.out.byt)) (HH.out.old B17.out).bat (by omega) (Nat.le_refl _)).mono ?_; rintro e18 w18 ⟨rfl, hb18⟩; have B18 : Hid (Below w.heap.size w w18) := B17.out.trans (hb18.mono B17.out.size); have G18a := Lib.hid ((hb18.block _ (lt_of_block G17a.out)).trans G17a.out); clear hb18 G17h)
    | (go_at_call 12; refine (kept_any L ga p1 (L.length + 5) c1 _ (bat_row G18a.out (mk5_byt H1.out.byt)) (H1.out.old B18.out).bat (by omega) (Nat.le_refl _)).mono ?_; rintro e19 w19 ⟨rfl, hb19⟩; have B19 : Hid (Below w.heap.size w w19) := B18.out.trans (hb19.mono B18.out.size); clear hb19)
    | (go_at_call 8; refine (known_any HT.out _ (HTB.out _ B19.out)).mono ?_; rintro e20 w20 ⟨rfl, hb20⟩; have B20 : Hid (Below w.heap.size w w20) := B19.out.trans (hb20.mono B19.out.size); clear hb20))
  go_ret
  exact ⟨rfl, B20.out⟩

/-- SealSeals is true. -/
theorem seals_any (K h L : List Int) (e n : Int) (p0 ph p1 : Option Addr) (c0 ch c1 : Nat) (w : World) (hb0 : Bs w p0 c0 K) (hbh : Bs w ph ch h) (hb1 : Bs w p1 c1 L) (ht : Tab w 1) (htk : Tab w 0) :
    Calls Tryd.prog 3 #[.slice p0 K.length c0, .agg #[.int .i64 e, .int .i64 n, .slice ph h.length ch], .slice p1 L.length c1] w (YesSay w) := by
  by_cases hl : 4096 < K.length ∨ 4096 < h.length ∨ 4096 < L.length
  · exact seals_long take_any e n p0 ph p1 _ _ _ c0 ch c1 hl w ht
  · exact seals_short take_any K h L e n p0 ph p1 c0 ch c1 (by omega) (by omega) (by omega) w hb0 hbh hb1 ht htk
end Go.Proofs.YtkhaiiiioieglaaDoor

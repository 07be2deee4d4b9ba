/-
  Contract: region.held, whoever opens.
-/
import Derived.Test.YtjnepegohfhgiaaRgF
namespace Go.Proofs.Ytjnepegohfhgiaa
open Go.RowKit

namespace Rg
/-- Which record bytes of a sector are, by what sector.Get tells of them. -/
def hb (at_ : Int) (G : Int × Sc.S) : Option R := if G.1 = 0 then (if er G.2.L = 0 then (if (gt G.2.L).ep = G.2.e then (if home (gt G.2.L) = at_ then some (gt G.2.L) else none) else none) else none) else none
/-- Which record a region holds. -/
def hd (m : Dk.M) (at_ : Int) (G : List Int → Int × Sc.S) : Option R := if Dk.here m at_ then hb at_ (G (Dk.rdX m at_)) else none
section
variable {at_ : Int} {G : Int × Sc.S}
theorem hb_1 (h : G.1 ≠ 0) : hb at_ G = none := by unfold hb; rw [if_neg h]
theorem hb_2 (h : G.1 = 0) (h2 : er G.2.L ≠ 0) : hb at_ G = none := by unfold hb; rw [if_pos h, if_neg h2]
theorem hb_3 (h : G.1 = 0) (h2 : er G.2.L = 0) (h3 : (gt G.2.L).ep ≠ G.2.e) : hb at_ G = none := by unfold hb; rw [if_pos h, if_pos h2, if_neg h3]
theorem hb_4 (h : G.1 = 0) (h2 : er G.2.L = 0) (h3 : (gt G.2.L).ep = G.2.e) (h4 : home (gt G.2.L) ≠ at_) : hb at_ G = none := by unfold hb; rw [if_pos h, if_pos h2, if_pos h3, if_neg h4]
theorem hb_5 (h : G.1 = 0) (h2 : er G.2.L = 0) (h3 : (gt G.2.L).ep = G.2.e) (h4 : home (gt G.2.L) = at_) : hb at_ G = some (gt G.2.L) := by unfold hb; rw [if_pos h, if_pos h2, if_pos h3, if_pos h4]
theorem hb_some {r : R} (h : hb at_ G = some r) : G.1 = 0 ∧ er G.2.L = 0 ∧ (gt G.2.L).ep = G.2.e ∧ home (gt G.2.L) = at_ ∧ r = gt G.2.L := by
  unfold hb at h
  split at h
  · split at h
    · split at h
      · split at h
        · rename_i h1 h2 h3 h4
          exact ⟨h1, h2, h3, h4, (Option.some.inj h).symm⟩
        · cases h
      · cases h
    · cases h
  · cases h
end
theorem hd_no {m : Dk.M} {at_ : Int} (G : List Int → Int × Sc.S) (h : Dk.here m at_ = false) : hd m at_ G = none := by unfold hd; rw [h]; rfl
theorem hd_yes {m : Dk.M} {at_ : Int} (G : List Int → Int × Sc.S) (h : Dk.here m at_ = true) : hd m at_ G = hb at_ (G (Dk.rdX m at_)) := by unfold hd; rw [h]; rfl
attribute [irreducible] hb hd
end Rg
/-- A record's value, or the zero one. -/
def RVo (o : Option Rg.R) : Value := RV (o.getD Rg.zero)
/-- Behind held. -/
def HdSay (o : Option Rg.R) (T : Nat → Prop) (d lb rb cb : Nat) (m' : Dk.M) (w : World) (e : Ending) (w' : World) : Prop :=
  e = .returned (.tuple #[RVo o, .bool o.isSome]) ∧ Hid (DkAt w' T d lb rb cb m') ∧ Hid (Mv [d, lb, rb, cb] w w')
theorem mv_chg {ks : List Nat} {w y z : World} {g : Nat} (h : Mv ks w y) (hc : Chg g y z) (hg : w.heap.size ≤ g) : Mv ks w z :=
  ⟨hc.os.trans h.os, hc.tape.trans h.tape, hc.output.trans h.output, by rw [hc.size]; exact h.size, fun k hk hn => (hc.block k (by omega)).trans (h.block k hk hn)⟩
set_option maxHeartbeats 4000000 in
set_option maxRecDepth 100000 in
theorem held_gen (TT : TypeId) (vv : Value) (at_ : Int) (G : List Int → Int × Sc.S) {T : Nat → Prop} {d lb rb cb : Nat} {m : Dk.M} (w : World) (hd : DkAt w T d lb rb cb m) (hrd : ∀ j, m.rd j ≤ 1000000000)
    (hGL : (G (Dk.rdX m at_)).2.L.length ≤ 900000)
    (hget : ∀ y q n c, Mv [d, lb, rb, cb] w y → (Dk.rdX m at_).length = n → Bs y q c (Dk.rdX m at_) → Calls Try.prog 87 #[.iface TT vv, .int .i64 2, .int .i64 at_, .slice q n c] y (LGet (G (Dk.rdX m at_)) y)) :
    Calls Try.prog 62 #[.pointer (some ⟨d, 0, none⟩), .iface TT vv, .int .i64 at_] w (HdSay (Rg.hd m at_ G) T d lb rb cb (Dk.rdM m at_) w) := by
  obtain ⟨Z, hZ⟩ : ∃ Z, Hid ((cv Rg.zero).toArray = Z) := ⟨_, rfl⟩
  have HZS : Hid (Z.size = 136) := by show _ = _; rw [← hZ.out, List.size_toArray, cv_len Rg.ok_zero]
  have HZ1 : Hid (Z.all (·.oneCell') = true) := by show _ = _; rw [← hZ.out]; exact all_oneCell_toArray (cv_one Rg.zero)
  have hz := (zero_of_info Try.zeroRec).1
  have HBT := Lib.hid Try.builtRec
  rw [hZ.out] at hz HBT
  have hzn : ¬ Z = #[] := fun h => by have := HZS.out; rw [h] at this; simp at this
  have hsz := row_size Try.sizeRec HZS
  have HRZ : Hid (RVo none = .agg Z) := by show _ = _; unfold RVo RV; rw [← hZ.out]; rfl
  obtain ⟨w0, hw0⟩ : ∃ x, x = w.alloc (.cells Z 29) := ⟨_, rfl⟩
  have B0 : Hid (Below w.heap.size w w0) := by rw [hw0]; exact (Below.refl _ w).alloc (Nat.le_refl _) _
  have R0 : Hid (w0.heap[w.heap.size]? = some (.cells Z 29 (0, 0))) := by rw [hw0]; exact heap_alloc_new w _
  have HNT : Hid (¬ T w.heap.size) := fun h => absurd (hd.top _ h) (Nat.lt_irrefl _)
  have HLT := Lib.hid hd.lt
  have HTP : Hid (∀ k, T k → k < w.heap.size) := hd.top
  have HRD : Hid (Calls Try.prog 34 #[.pointer (some ⟨d, 0, none⟩), .int .i64 at_] w0 (RdSayD T d lb rb cb m at_ w0)) := read_anyD at_ w0 (hd.old B0.out) hrd
  have HZR : Hid (∀ y, Mv [d, lb, rb, cb] w0 y → y.heap[w.heap.size]? = some (.cells Z 29 (0, 0))) := fun y hy => (hy.block _ (lt_of_block R0.out) (fun hk => by
    simp only [List.mem_cons, List.not_mem_nil, or_false] at hk
    rcases hk with q | q | q | q
    · exact HNT.out (q ▸ HLT.out.1)
    · exact HNT.out (q ▸ HLT.out.2.1)
    · exact HNT.out (q ▸ HLT.out.2.2.1)
    · exact HNT.out (q ▸ HLT.out.2.2.2))).trans R0.out
  have HF : Hid (∀ w1 y z v b, DkAt w1 T d lb rb cb (Dk.rdM m at_) → Mv [d, lb, rb, cb] w0 w1 → Below w1.heap.size w1 y → Chg w.heap.size y z → v = RVo (Rg.hd m at_ G) → b = (Rg.hd m at_ G).isSome → HdSay (Rg.hd m at_ G) T d lb rb cb (Dk.rdM m at_) w (.returned (.tuple #[v, .bool b])) z) := fun w1 y z v b h1 h2 h3 h4 h5 h6 => by
    rw [h5, h6]
    refine ⟨rfl, (h1.old h3).only h4.only HNT.out, mv_chg (((Mv.of_below B0.out).trans h2).trans (Mv.of_below h3)) h4 (Nat.le_refl _)⟩
  have HMV : Hid (∀ y, Mv [d, lb, rb, cb] w0 y → Mv [d, lb, rb, cb] w y) := fun y hy => (Mv.of_below B0.out).trans hy
  unfold RdSayD at HRD
  clear hd hrd
  cases hh : Dk.here m at_ with
  | false =>
    have HN : Hid (Rg.hd m at_ G = none) := Rg.hd_no G hh
    have HE7 : Hid (Dk.rdE m at_ = 7) := by show _ = _; unfold Dk.rdE; rw [hh]; rfl
    clear hget hGL hh
    go_enter Try.func62, Try.ntmps62
    go_upto_region 1 with (fail)
    change Code.wp _ _ _ _ (w.alloc (.cells Z 29))
    rw [← hw0]
    clear hw0
    go_wp2_with (first
      | (go_at_call 34; refine HRD.out.mono ?_; rintro e1 w1 ⟨v1, rfl, hv1, hd1, hm1⟩; rw [HE7.out])
      | ((with_reducible refine row_build0 _ _ HBT.out ?_))
      | ((with_reducible refine row_store _ _ _ _ _ _ _ ?_ ?_ (HZR.out _ hm1.out) (row_size Try.sizeRec HZS) ?_ HZ1.out ?_); (exact rfl); (exact rfl); (exact rfl); intro w9 G9 ch9))
    refine bodyPost_ret (results_cell_tmp rfl _ _ w.heap.size 29 Z (0, 0) _ rfl G9 Try.underlying29 rfl (row_size Try.sizeRec HZS)) rfl (HF.out w1 _ _ _ _ hd1.out hm1.out (Below.refl _ _) ch9 (by rw [HN.out, HRZ.out]) (by rw [HN.out]; rfl))
  | true =>
    have HE0 : Hid (Dk.rdE m at_ = 0) := by show _ = _; unfold Dk.rdE; rw [hh]; rfl
    have HBB := Rg.hd_yes G hh
    have HGET := Lib.hid hget
    clear hget hh
    generalize Dk.rdX m at_ = B at *
    obtain ⟨eg, sg⟩ : ∃ x, x = G B := ⟨_, rfl⟩
    rw [← sg] at HBB HGET hGL
    obtain ⟨x1, kk, ee, nn, aa, L⟩ := eg
    clear sg
    dsimp only at hGL
    have HG2 : Hid (∀ y q n c, L.length = n → Bs y q c L → Calls Try.prog 17 #[.slice q n c] y (GotSay L y)) := fun y q n c hn hy => gget_any L q n c hn (by omega) y hy
    have HVB : Hid (∀ (y : World) (v : Value), y.ownsRow w0.heap.size 5 1 v B.length (U8s B) ∧ Sha.Byt B → ∃ p c, v = .slice p B.length c ∧ Bs y p c B) := fun y v hv => by
      obtain ⟨p, c, h1, h2, _⟩ := own_bs hv.1 hv.2
      exact ⟨p, c, h1, h2⟩
    have HLN : Hid (∀ q d', (Sv (⟨kk, ee, nn, aa, L⟩ : Sc.S) q L.length d') = SV kk ee nn aa q L.length d') := fun _ _ => rfl
    by_cases hx : x1 = 0
    case neg =>
      have HN : Hid (Rg.hd m at_ G = none) := by show _ = _; rw [HBB]; exact Rg.hb_1 hx
      have hb0 : (x1 == 0) = false := by simpa using hx
      clear HBB hGL HG2 hx
      have HZ2 : Hid (∀ y z, Mv [d, lb, rb, cb] w0 y → Below y.heap.size y z → z.heap[w.heap.size]? = some (.cells Z 29 (0, 0))) := fun y z h1 h2 => (h2.block _ (lt_of_block (HZR.out _ h1))).trans (HZR.out _ h1)
      go_enter Try.func62, Try.ntmps62
      go_upto_region 1 with (fail)
      change Code.wp _ _ _ _ (w.alloc (.cells Z 29))
      rw [← hw0]
      clear hw0
      go_upto_region 5 with (first
        | (go_at_call 34; refine HRD.out.mono ?_; rintro e1 w1 ⟨v1, rfl, hv1, hd1, hm1⟩; obtain ⟨q1, c1, hq1, hB1⟩ := HVB.out _ _ hv1.out; subst hq1; rw [HE0.out]; have HB1 := Lib.hid hB1; have HM1 := Lib.hid (HMV.out _ hm1.out); clear hB1)
        | (go_at_call 87; refine (HGET.out _ _ _ _ HM1.out rfl HB1.out).mono ?_; rintro e2 w2 ⟨u2, m2, d2, rfl, hm2, HO2, HS2, hb2⟩; have HB2 := Lib.hid hb2; have HN2 := Lib.hid hm2; clear hb2 hm2))
      obtain ⟨w3, hw3⟩ : ∃ y, y = w2.alloc (SO kk ee nn aa u2 m2 d2) := ⟨_, rfl⟩
      have HB3 : Hid (Below w1.heap.size w1 w3) := by rw [hw3]; exact HB2.out.alloc HB2.out.size _
      change Code.wp _ _ _ _ (w2.alloc (SO kk ee nn aa u2 m2 d2))
      rw [← hw3]
      clear hw3
      go_wp2_with (first
        | ((with_reducible refine row_build0 _ _ HBT.out ?_))
        | ((with_reducible refine row_store _ _ _ _ _ _ _ ?_ ?_ (HZ2.out _ _ hm1.out HB3.out) (row_size Try.sizeRec HZS) ?_ HZ1.out ?_); (exact rfl); (exact rfl); (exact rfl); intro w9 G9 ch9))
      refine bodyPost_ret (results_cell_tmp rfl _ _ w.heap.size 29 Z (0, 0) _ rfl G9 Try.underlying29 rfl (row_size Try.sizeRec HZS)) rfl (HF.out w1 _ _ _ _ hd1.out hm1.out HB3.out ch9 (by rw [HN.out, HRZ.out]) (by rw [HN.out]; rfl))
    case pos =>
      subst hx
      have HZ2 : Hid (∀ y z, Mv [d, lb, rb, cb] w0 y → Below y.heap.size y z → z.heap[w.heap.size]? = some (.cells Z 29 (0, 0))) := fun y z h1 h2 => (h2.block _ (lt_of_block (HZR.out _ h1))).trans (HZR.out _ h1)
      have HH2 : Hid (∀ y, Sha.Byt L → Calls Try.prog 59 #[RV (Rg.gt L)] y fun e w' => e = .returned (.int .i64 (Rg.home (Rg.gt L))) ∧ Below y.heap.size y w') := fun y hy => home_any _ (Rg.gt_ok hy) y
      have HRK : Hid (Sha.Byt L → ∃ A, RV (Rg.gt L) = .agg A ∧ A.size = 136 ∧ A.all (·.oneCell') = true ∧ ∀ (z : World) (g : Nat) (t : TypeId), z.heap[g]? = some (.cells A t (0, 0)) → z.cell? ⟨g, 2, none⟩ = some (.int .i64 (Rg.gt L).ep)) := fun hy => by
        obtain ⟨A, _, _, _, _, e1, hk⟩ := rck (Rg.gt_ok hy)
        exact ⟨A, e1, hk.size, hk.one, fun z g t hz => (hk.ints z g t hz).2.2.1⟩
      have HV5 : Hid (∀ r, Rg.hd m at_ G = some r → RVo (Rg.hd m at_ G) = RV r) := fun r hr => by rw [hr]; rfl
      by_cases h2 : Rg.er L = 0
      case neg =>
        have HN : Hid (Rg.hd m at_ G = none) := by show _ = _; rw [HBB]; exact Rg.hb_2 rfl h2
        have hb0 : (Rg.er L != 0) = true := by simpa using h2
        clear HBB hGL h2 HV5
        go_enter Try.func62, Try.ntmps62
        go_upto_region 1 with (fail)
        change Code.wp _ _ _ _ (w.alloc (.cells Z 29))
        rw [← hw0]
        clear hw0
        go_upto_region 5 with (first
          | (go_at_call 34; refine HRD.out.mono ?_; rintro e1 w1 ⟨v1, rfl, hv1, hd1, hm1⟩; obtain ⟨q1, c1, hq1, hB1⟩ := HVB.out _ _ hv1.out; subst hq1; rw [HE0.out]; have HB1 := Lib.hid hB1; have HM1 := Lib.hid (HMV.out _ hm1.out); clear hB1)
          | (go_at_call 87; refine (HGET.out _ _ _ _ HM1.out rfl HB1.out).mono ?_; rintro e2 w2 ⟨u2, m2, d2, rfl, hm2, HO2, HS2, hb2⟩; have HB2 := Lib.hid hb2; have HN2 := Lib.hid hm2; clear hb2 hm2))
        obtain ⟨w3, hw3⟩ : ∃ y, y = w2.alloc (SO kk ee nn aa u2 m2 d2) := ⟨_, rfl⟩
        have HB3 : Hid (Below w1.heap.size w1 w3) := by rw [hw3]; exact HB2.out.alloc HB2.out.size _
        have HS3 : Hid (Bs w3 u2 d2 L) := by rw [hw3]; exact HS2.out.old ((Below.refl _ w2).alloc (Nat.le_refl _) _)
        have HA3 : Hid (SAt w3 w2.heap.size kk ee nn aa u2 m2 d2) := by rw [hw3]; exact SAt.new w2 _ _ _ _ _ _ _
        have H23 : Hid (w2.heap.size < w3.heap.size) := HA3.out.lt
        change Code.wp _ _ _ _ (w2.alloc (SO kk ee nn aa u2 m2 d2))
        rw [← hw3]
        clear hw3 HB1 HO2 HS2 HGET HRD
        generalize w2.heap.size = gs at *
        obtain ⟨A, eA, HAS', HA1', HEP⟩ := HRK.out HS3.out.bat.1
        have HAS := Lib.hid HAS'
        have HA1 := Lib.hid HA1'
        have HH := Lib.hid (fun y => HH2.out y HS3.out.bat.1)
        have HGG := Lib.hid (fun y (hy : Below w3.heap.size w3 y) => HG2.out y u2 m2 d2 HN2.out (HS3.out.old hy))
        unfold GotSay at HGG
        rw [eA] at HGG HH
        clear HRK HAS' HA1' HG2 HH2
        generalize Rg.er L = er at *
        have c4 := HA3.out.c4
        go_upto_region 8 with (first
          | (go_at_call 17; refine (HGG.out _ (Below.refl _ _)).mono ?_; rintro e4 w4 ⟨rfl, HB4⟩)
          | ((with_reducible refine row_store _ _ _ _ _ _ _ ?_ ?_ (heap_alloc_new _ _) (row_size Try.sizeRec HAS) ?_ HA1.out ?_); (exact rfl); (exact rfl); (rw [HAS.out, HZS.out]); intro w5 G5 ch5))
        have HB5 : Hid (Below w3.heap.size w3 w5) := ch5.below (HB4.out.alloc HB4.out.size _) HB4.out.size
        have HB6 : Hid (Below w1.heap.size w1 w5) := HB3.out.trans (HB5.out.mono HB3.out.size)
        have R5 : Hid (∀ y, Below w5.heap.size w5 y → y.heap[w4.heap.size]? = some (.cells A 29 (0, 0))) := fun y hy => (hy.block _ (lt_of_block G5)).trans G5
        have c1 := (HA3.out.old HB5.out).c1
        have c2 := HEP _ _ _ G5
        clear ch5 HB4 HGG c4
        generalize w4.heap.size = gr at *
        go_wp2_with (first
          | ((with_reducible refine row_build0 _ _ HBT.out ?_))
          | ((with_reducible refine row_store _ _ _ _ _ _ _ ?_ ?_ (HZ2.out _ _ hm1.out HB6.out) (row_size Try.sizeRec HZS) ?_ HZ1.out ?_); (exact rfl); (exact rfl); (exact rfl); intro w9 G9 ch9))
        refine bodyPost_ret (results_cell_tmp rfl _ _ w.heap.size 29 Z (0, 0) _ rfl G9 Try.underlying29 rfl (row_size Try.sizeRec HZS)) rfl (HF.out w1 _ _ _ _ hd1.out hm1.out HB6.out ch9 (by rw [HN.out, HRZ.out]) (by rw [HN.out]; rfl))
      case pos =>
        by_cases h3 : (Rg.gt L).ep = ee
        case neg =>
          have HN : Hid (Rg.hd m at_ G = none) := by show _ = _; rw [HBB]; exact Rg.hb_3 rfl h2 h3
          have hb3 : ((Rg.gt L).ep != ee) = true := by simpa using h3
          have HER := Lib.hid h2
          clear HBB hGL h2 HV5 h3
          go_enter Try.func62, Try.ntmps62
          go_upto_region 1 with (fail)
          change Code.wp _ _ _ _ (w.alloc (.cells Z 29))
          rw [← hw0]
          clear hw0
          go_upto_region 5 with (first
            | (go_at_call 34; refine HRD.out.mono ?_; rintro e1 w1 ⟨v1, rfl, hv1, hd1, hm1⟩; obtain ⟨q1, c1, hq1, hB1⟩ := HVB.out _ _ hv1.out; subst hq1; rw [HE0.out]; have HB1 := Lib.hid hB1; have HM1 := Lib.hid (HMV.out _ hm1.out); clear hB1)
            | (go_at_call 87; refine (HGET.out _ _ _ _ HM1.out rfl HB1.out).mono ?_; rintro e2 w2 ⟨u2, m2, d2, rfl, hm2, HO2, HS2, hb2⟩; have HB2 := Lib.hid hb2; have HN2 := Lib.hid hm2; clear hb2 hm2))
          obtain ⟨w3, hw3⟩ : ∃ y, y = w2.alloc (SO kk ee nn aa u2 m2 d2) := ⟨_, rfl⟩
          have HB3 : Hid (Below w1.heap.size w1 w3) := by rw [hw3]; exact HB2.out.alloc HB2.out.size _
          have HS3 : Hid (Bs w3 u2 d2 L) := by rw [hw3]; exact HS2.out.old ((Below.refl _ w2).alloc (Nat.le_refl _) _)
          have HA3 : Hid (SAt w3 w2.heap.size kk ee nn aa u2 m2 d2) := by rw [hw3]; exact SAt.new w2 _ _ _ _ _ _ _
          have H23 : Hid (w2.heap.size < w3.heap.size) := HA3.out.lt
          change Code.wp _ _ _ _ (w2.alloc (SO kk ee nn aa u2 m2 d2))
          rw [← hw3]
          clear hw3 HB1 HO2 HS2 HGET HRD
          generalize w2.heap.size = gs at *
          obtain ⟨A, eA, HAS', HA1', HEP⟩ := HRK.out HS3.out.bat.1
          have HAS := Lib.hid HAS'
          have HA1 := Lib.hid HA1'
          have HH := Lib.hid (fun y => HH2.out y HS3.out.bat.1)
          have HGG := Lib.hid (fun y (hy : Below w3.heap.size w3 y) => HG2.out y u2 m2 d2 HN2.out (HS3.out.old hy))
          unfold GotSay at HGG
          rw [eA] at HGG HH
          clear HRK HAS' HA1' HG2 HH2
          rw [HER.out] at HGG
          clear HER
          generalize (Rg.gt L).ep = ep at *
          have c4 := HA3.out.c4
          go_upto_region 8 with (first
            | (go_at_call 17; refine (HGG.out _ (Below.refl _ _)).mono ?_; rintro e4 w4 ⟨rfl, HB4⟩)
            | ((with_reducible refine row_store _ _ _ _ _ _ _ ?_ ?_ (heap_alloc_new _ _) (row_size Try.sizeRec HAS) ?_ HA1.out ?_); (exact rfl); (exact rfl); (rw [HAS.out, HZS.out]); intro w5 G5 ch5))
          have HB5 : Hid (Below w3.heap.size w3 w5) := ch5.below (HB4.out.alloc HB4.out.size _) HB4.out.size
          have HB6 : Hid (Below w1.heap.size w1 w5) := HB3.out.trans (HB5.out.mono HB3.out.size)
          have R5 : Hid (∀ y, Below w5.heap.size w5 y → y.heap[w4.heap.size]? = some (.cells A 29 (0, 0))) := fun y hy => (hy.block _ (lt_of_block G5)).trans G5
          have c1 := (HA3.out.old HB5.out).c1
          have c2 := HEP _ _ _ G5
          clear ch5 HB4 HGG c4
          generalize w4.heap.size = gr at *
          go_wp2_with (first
            | ((with_reducible refine row_build0 _ _ HBT.out ?_))
            | ((with_reducible refine row_store _ _ _ _ _ _ _ ?_ ?_ (HZ2.out _ _ hm1.out HB6.out) (row_size Try.sizeRec HZS) ?_ HZ1.out ?_); (exact rfl); (exact rfl); (exact rfl); intro w9 G9 ch9))
          refine bodyPost_ret (results_cell_tmp rfl _ _ w.heap.size 29 Z (0, 0) _ rfl G9 Try.underlying29 rfl (row_size Try.sizeRec HZS)) rfl (HF.out w1 _ _ _ _ hd1.out hm1.out HB6.out ch9 (by rw [HN.out, HRZ.out]) (by rw [HN.out]; rfl))
        case pos =>
          have HER := Lib.hid h2
          have HEE := Lib.hid h3
          by_cases h4 : Rg.home (Rg.gt L) = at_
          case neg =>
            have HN : Hid (Rg.hd m at_ G = none) := by show _ = _; rw [HBB]; exact Rg.hb_4 rfl h2 h3 h4
            have hb4 : (Rg.home (Rg.gt L) != at_) = true := by simpa using h4
            have hbe : (ee != ee) = false := by simp
            clear HBB hGL h2 HV5 h3 h4
            go_enter Try.func62, Try.ntmps62
            go_upto_region 1 with (fail)
            change Code.wp _ _ _ _ (w.alloc (.cells Z 29))
            rw [← hw0]
            clear hw0
            go_upto_region 5 with (first
              | (go_at_call 34; refine HRD.out.mono ?_; rintro e1 w1 ⟨v1, rfl, hv1, hd1, hm1⟩; obtain ⟨q1, c1, hq1, hB1⟩ := HVB.out _ _ hv1.out; subst hq1; rw [HE0.out]; have HB1 := Lib.hid hB1; have HM1 := Lib.hid (HMV.out _ hm1.out); clear hB1)
              | (go_at_call 87; refine (HGET.out _ _ _ _ HM1.out rfl HB1.out).mono ?_; rintro e2 w2 ⟨u2, m2, d2, rfl, hm2, HO2, HS2, hb2⟩; have HB2 := Lib.hid hb2; have HN2 := Lib.hid hm2; clear hb2 hm2))
            obtain ⟨w3, hw3⟩ : ∃ y, y = w2.alloc (SO kk ee nn aa u2 m2 d2) := ⟨_, rfl⟩
            have HB3 : Hid (Below w1.heap.size w1 w3) := by rw [hw3]; exact HB2.out.alloc HB2.out.size _
            have HS3 : Hid (Bs w3 u2 d2 L) := by rw [hw3]; exact HS2.out.old ((Below.refl _ w2).alloc (Nat.le_refl _) _)
            have HA3 : Hid (SAt w3 w2.heap.size kk ee nn aa u2 m2 d2) := by rw [hw3]; exact SAt.new w2 _ _ _ _ _ _ _
            have H23 : Hid (w2.heap.size < w3.heap.size) := HA3.out.lt
            change Code.wp _ _ _ _ (w2.alloc (SO kk ee nn aa u2 m2 d2))
            rw [← hw3]
            clear hw3 HB1 HO2 HS2 HGET HRD
            generalize w2.heap.size = gs at *
            obtain ⟨A, eA, HAS', HA1', HEP⟩ := HRK.out HS3.out.bat.1
            have HAS := Lib.hid HAS'
            have HA1 := Lib.hid HA1'
            have HH := Lib.hid (fun y => HH2.out y HS3.out.bat.1)
            have HGG := Lib.hid (fun y (hy : Below w3.heap.size w3 y) => HG2.out y u2 m2 d2 HN2.out (HS3.out.old hy))
            unfold GotSay at HGG
            rw [eA] at HGG HH
            clear HRK HAS' HA1' HG2 HH2
            rw [HER.out] at HGG
            rw [HEE.out] at HEP
            clear HER HEE
            generalize Rg.home (Rg.gt L) = hom at *
            have c4 := HA3.out.c4
            go_upto_region 8 with (first
              | (go_at_call 17; refine (HGG.out _ (Below.refl _ _)).mono ?_; rintro e4 w4 ⟨rfl, HB4⟩)
              | ((with_reducible refine row_store _ _ _ _ _ _ _ ?_ ?_ (heap_alloc_new _ _) (row_size Try.sizeRec HAS) ?_ HA1.out ?_); (exact rfl); (exact rfl); (rw [HAS.out, HZS.out]); intro w5 G5 ch5))
            have HB5 : Hid (Below w3.heap.size w3 w5) := ch5.below (HB4.out.alloc HB4.out.size _) HB4.out.size
            have HB6 : Hid (Below w1.heap.size w1 w5) := HB3.out.trans (HB5.out.mono HB3.out.size)
            have R5 : Hid (∀ y, Below w5.heap.size w5 y → y.heap[w4.heap.size]? = some (.cells A 29 (0, 0))) := fun y hy => (hy.block _ (lt_of_block G5)).trans G5
            have c1 := (HA3.out.old HB5.out).c1
            have c2 := HEP _ _ _ G5
            clear ch5 HB4 HGG c4
            generalize w4.heap.size = gr at *
            go_wp2_with (first
              | ((with_reducible refine row_load_g _ _ _ _ _ _ _ ?_ ?_ G5.out Try.underlying29 ?_ (row_size Try.sizeRec HAS) ?_); (exact rfl); (exact rfl); (exact rfl))
              | (go_at_call 59; refine (HH.out _).mono ?_; rintro e6 w6 ⟨rfl, hb6⟩; have HB7 := Lib.hid (HB6.out.trans (hb6.mono HB6.out.size)); have R6 := Lib.hid (R5.out _ hb6); clear hb6)
              | ((with_reducible refine row_build0 _ _ HBT.out ?_))
              | ((with_reducible refine row_store _ _ _ _ _ _ _ ?_ ?_ (HZ2.out _ _ hm1.out HB7.out) (row_size Try.sizeRec HZS) ?_ HZ1.out ?_); (exact rfl); (exact rfl); (exact rfl); intro w9 G9 ch9))
            refine bodyPost_ret (results_cell_tmp rfl _ _ w.heap.size 29 Z (0, 0) _ rfl G9 Try.underlying29 rfl (row_size Try.sizeRec HZS)) rfl (HF.out w1 _ _ _ _ hd1.out hm1.out HB7.out ch9 (by rw [HN.out, HRZ.out]) (by rw [HN.out]; rfl))
          case pos =>
            have HN : Hid (Rg.hd m at_ G = some (Rg.gt L)) := by show _ = _; rw [HBB]; exact Rg.hb_5 rfl h2 h3 h4
            have HV : Hid (RVo (Rg.hd m at_ G) = RV (Rg.gt L)) := HV5.out _ HN.out
            have HHM := Lib.hid h4
            have hbe : (ee != ee) = false := by simp
            have hba : (at_ != at_) = false := by simp
            clear HBB hGL h2 HV5 h3 h4
            go_enter Try.func62, Try.ntmps62
            go_upto_region 1 with (fail)
            change Code.wp _ _ _ _ (w.alloc (.cells Z 29))
            rw [← hw0]
            clear hw0
            go_upto_region 5 with (first
              | (go_at_call 34; refine HRD.out.mono ?_; rintro e1 w1 ⟨v1, rfl, hv1, hd1, hm1⟩; obtain ⟨q1, c1, hq1, hB1⟩ := HVB.out _ _ hv1.out; subst hq1; rw [HE0.out]; have HB1 := Lib.hid hB1; have HM1 := Lib.hid (HMV.out _ hm1.out); clear hB1)
              | (go_at_call 87; refine (HGET.out _ _ _ _ HM1.out rfl HB1.out).mono ?_; rintro e2 w2 ⟨u2, m2, d2, rfl, hm2, HO2, HS2, hb2⟩; have HB2 := Lib.hid hb2; have HN2 := Lib.hid hm2; clear hb2 hm2))
            obtain ⟨w3, hw3⟩ : ∃ y, y = w2.alloc (SO kk ee nn aa u2 m2 d2) := ⟨_, rfl⟩
            have HB3 : Hid (Below w1.heap.size w1 w3) := by rw [hw3]; exact HB2.out.alloc HB2.out.size _
            have HS3 : Hid (Bs w3 u2 d2 L) := by rw [hw3]; exact HS2.out.old ((Below.refl _ w2).alloc (Nat.le_refl _) _)
            have HA3 : Hid (SAt w3 w2.heap.size kk ee nn aa u2 m2 d2) := by rw [hw3]; exact SAt.new w2 _ _ _ _ _ _ _
            have H23 : Hid (w2.heap.size < w3.heap.size) := HA3.out.lt
            change Code.wp _ _ _ _ (w2.alloc (SO kk ee nn aa u2 m2 d2))
            rw [← hw3]
            clear hw3 HB1 HO2 HS2 HGET HRD
            generalize w2.heap.size = gs at *
            obtain ⟨A, eA, HAS', HA1', HEP⟩ := HRK.out HS3.out.bat.1
            have HAS := Lib.hid HAS'
            have HA1 := Lib.hid HA1'
            have HH := Lib.hid (fun y => HH2.out y HS3.out.bat.1)
            have HGG := Lib.hid (fun y (hy : Below w3.heap.size w3 y) => HG2.out y u2 m2 d2 HN2.out (HS3.out.old hy))
            unfold GotSay at HGG
            rw [eA] at HGG HH
            clear HRK HAS' HA1' HG2 HH2
            rw [HER.out] at HGG
            rw [HEE.out] at HEP
            rw [HHM.out] at HH
            rw [eA] at HV
            clear HER HEE HHM
            have c4 := HA3.out.c4
            go_upto_region 8 with (first
              | (go_at_call 17; refine (HGG.out _ (Below.refl _ _)).mono ?_; rintro e4 w4 ⟨rfl, HB4⟩)
              | ((with_reducible refine row_store _ _ _ _ _ _ _ ?_ ?_ (heap_alloc_new _ _) (row_size Try.sizeRec HAS) ?_ HA1.out ?_); (exact rfl); (exact rfl); (rw [HAS.out, HZS.out]); intro w5 G5 ch5))
            have HB5 : Hid (Below w3.heap.size w3 w5) := ch5.below (HB4.out.alloc HB4.out.size _) HB4.out.size
            have HB6 : Hid (Below w1.heap.size w1 w5) := HB3.out.trans (HB5.out.mono HB3.out.size)
            have R5 : Hid (∀ y, Below w5.heap.size w5 y → y.heap[w4.heap.size]? = some (.cells A 29 (0, 0))) := fun y hy => (hy.block _ (lt_of_block G5)).trans G5
            have c1 := (HA3.out.old HB5.out).c1
            have c2 := HEP _ _ _ G5
            clear ch5 HB4 HGG c4
            generalize w4.heap.size = gr at *
            go_wp2_with (first
              | ((with_reducible refine row_load_g _ _ _ _ _ _ _ ?_ ?_ G5.out Try.underlying29 ?_ (row_size Try.sizeRec HAS) ?_); (exact rfl); (exact rfl); (exact rfl))
              | (go_at_call 59; refine (HH.out _).mono ?_; rintro e6 w6 ⟨rfl, hb6⟩; have HB7 := Lib.hid (HB6.out.trans (hb6.mono HB6.out.size)); have R6 := Lib.hid (R5.out _ hb6); clear hb6)
              | ((with_reducible refine row_load _ _ _ _ _ _ _ ?_ R6.out Try.underlying29 ?_ (row_size Try.sizeRec HAS) ?_); (exact rfl); (exact rfl))
              | ((with_reducible refine row_store _ _ _ _ _ _ _ ?_ ?_ (HZ2.out _ _ hm1.out HB7.out) (row_size Try.sizeRec HAS) ?_ HA1.out ?_); (exact rfl); (exact rfl); (rw [HAS.out, HZS.out]); intro w9 G9 ch9))
            refine bodyPost_ret (results_cell_tmp rfl _ _ w.heap.size 29 A (0, 0) _ rfl G9 Try.underlying29 rfl (row_size Try.sizeRec HAS)) rfl (HF.out w1 _ _ _ _ hd1.out hm1.out HB7.out ch9 (by rw [HV.out]) (by rw [HN.out]; rfl))
end Go.Proofs.Ytjnepegohfhgiaa

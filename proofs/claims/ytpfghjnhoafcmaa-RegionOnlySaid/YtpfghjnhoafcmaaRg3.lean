/-
  RgF, RgG, RgH (merged)
-/
import Derived.Test.YtpfghjnhoafcmaaRg2
import Derived.Test.YtpfghjnhoafcmaaSc3
import Derived.Test.YtpfghjnhoafcmaaDk3
import Derived.Test.YtpfghjnhoafcmaaRgL
namespace Go.Proofs.Ytpfghjnhoafcmaa

/-! RgF: Contract: region.Write, whoever seals. -/
section
open Go.RowKit

namespace Rg
/-- What Write answers, and what the disk is then; X: what sector.Put answers. -/
def wE (m : Dk.M) (r : R) (X : Int × List Int) : Int := if may r then (if X.1 = 0 then Dk.wrE m (home r) X.2 else X.1) else 7
def wM (m : Dk.M) (r : R) (X : Int × List Int) : Dk.M := if may r then (if X.1 = 0 then Dk.wrM m (home r) X.2 else m) else m
theorem wE_no {m : Dk.M} {r : R} (X : Int × List Int) (h : may r = false) : wE m r X = 7 := by unfold wE; rw [h]; rfl
theorem wM_no {m : Dk.M} {r : R} (X : Int × List Int) (h : may r = false) : wM m r X = m := by unfold wM; rw [h]; rfl
theorem wE_er {m : Dk.M} {r : R} {X : Int × List Int} (h : may r = true) (hx : X.1 ≠ 0) : wE m r X = X.1 := by unfold wE; rw [if_pos h, if_neg hx]
theorem wM_er {m : Dk.M} {r : R} {X : Int × List Int} (h : may r = true) (hx : X.1 ≠ 0) : wM m r X = m := by unfold wM; rw [if_pos h, if_neg hx]
theorem wE_ok {m : Dk.M} {r : R} {X : Int × List Int} (h : may r = true) (hx : X.1 = 0) : wE m r X = Dk.wrE m (home r) X.2 := by unfold wE; rw [if_pos h, if_pos hx]
theorem wM_ok {m : Dk.M} {r : R} {X : Int × List Int} (h : may r = true) (hx : X.1 = 0) : wM m r X = Dk.wrM m (home r) X.2 := by unfold wM; rw [if_pos h, if_pos hx]
/-- The sector of a record. -/
def sec (r : R) (n : Int) : Sc.S := ⟨2, r.ep, n, home r, pt r⟩
theorem sec_len {r : R} (h : Ok r) (n : Int) : (sec r n).L.length = 192 := pt_len h
attribute [irreducible] wE wM
end Rg
/-- Behind a Write: the answer, the disk; which blocks have turned; what became of the crypt. -/
def WrSay (r : Rg.R) (X : Int × List Int) (T : Nat → Prop) (d lb rb cb : Nat) (m : Dk.M) (ks : List Nat) (C : World → World → Prop) (w : World) (e : Ending) (w' : World) : Prop :=
  e = .returned (.int .i64 (Rg.wE m r X)) ∧ Hid (DkAt w' (Own T w w') d lb rb cb (Rg.wM m r X)) ∧ Hid (Mv (d :: lb :: rb :: cb :: ks) w w') ∧ Hid (∃ y z, Below w.heap.size w y ∧ (if Rg.may r then C y z else z = y) ∧ Mv [d, lb, rb, cb] z w')
theorem ks4 {d lb rb cb : Nat} {ks : List Nat} : ∀ k ∈ [d, lb, rb, cb], k ∈ d :: lb :: rb :: cb :: ks := fun k hk => by
  simp only [List.mem_cons, List.not_mem_nil, or_false] at hk ⊢
  rcases hk with h | h | h | h <;> simp [h]
theorem ks5 {d lb rb cb : Nat} {ks : List Nat} : ∀ k ∈ ks, k ∈ d :: lb :: rb :: cb :: ks := fun k hk => by simp [hk]
theorem own_up {T : Nat → Prop} {w z y : World} (h : w.heap.size ≤ z.heap.size) : ∀ g, Own T z y g → Own T w y g := fun g hg => by
  rcases hg with h1 | h1
  · exact Or.inl h1
  · exact Or.inr ⟨Nat.le_trans h h1.1, h1.2⟩
set_option maxHeartbeats 2000000 in
set_option maxRecDepth 100000 in
theorem write_gen (TT : TypeId) (vv : Value) (r : Rg.R) (h : Rg.Ok r) (num : Int) (X : Int × List Int) (ks : List Nat) (C : World → World → Prop) {T : Nat → Prop} {d lb rb cb : Nat} {m : Dk.M} (w : World) (hd : DkAt w T d lb rb cb m) (hks : ∀ k ∈ ks, ¬ T k)
    (hX : X.2.length ≤ 1000000) (hwr : m.wr ≤ 1000000000)
    (hput : Rg.may r = true → ∀ y p c, Below w.heap.size w y → Bs y p c (Rg.pt r) → Calls Try.prog 36 #[.iface TT vv, SV 2 r.ep num (Rg.home r) p 192 c] y (LPut X y (fun z => C y z ∧ Mv ks y z))) :
    Calls Try.prog 13 #[.pointer (some ⟨d, 0, none⟩), .iface TT vv, RV r, .int .i64 num] w (WrSay r X T d lb rb cb m ks C w) := by
  obtain ⟨A, SU, RT, B1, B2, eA, hk⟩ := rck h
  have HH : Hid (∀ y, Calls Try.prog 35 #[.agg A] y fun e w' => e = .returned (.int .i64 (Rg.home r)) ∧ Below y.heap.size y w') := fun y => by rw [← eA]; exact home_any r h y
  obtain ⟨w0, hw0⟩ : ∃ x, x = w.alloc (.cells A 40) := ⟨_, rfl⟩
  have R0 : Hid (w0.heap[w.heap.size]? = some (.cells A 40 (0, 0))) := by rw [hw0]; exact heap_alloc_new w _
  have B0 : Hid (Below w.heap.size w w0) := by rw [hw0]; exact (Below.refl _ w).alloc (Nat.le_refl _) _
  have HR : Hid (∀ y, Below w0.heap.size w0 y → y.heap[w.heap.size]? = some (.cells A 40 (0, 0))) := fun y hy => (hy.block _ (lt_of_block R0.out)).trans R0.out
  have HE : Hid (∀ y, Below w0.heap.size w0 y → y.cell? ⟨w.heap.size, 2, none⟩ = some (.int .i64 r.ep)) := fun y hy => (hk.ints y w.heap.size _ (HR.out y hy)).2.2.1
  have HAS := Lib.hid hk.size
  have h1 := hk.one
  have HB : Hid (∀ y, Below w0.heap.size w0 y → Below w.heap.size w y) := fun y hy => B0.out.trans (hy.mono B0.out.size)
  have HD := Lib.hid hd
  have HKS := Lib.hid hks
  have RF : Hid (Below w0.heap.size w0 w0) := Below.refl _ _
  clear hd hks hk
  cases hm : Rg.may r with
  | false =>
    have HP : Hid (∀ y, Calls Try.prog 31 #[.agg A] y (GPutNo y)) := fun y => by rw [← eA]; exact gput_no r h hm y
    have HF : Hid (∀ y, Below w.heap.size w y → WrSay r X T d lb rb cb m ks C w (.returned (.int .i64 7)) y) := fun y hy => by
      refine ⟨by rw [Rg.wE_no X hm], ?_, Lib.hid (Mv.of_below hy), Lib.hid ⟨y, y, hy, ?_, Mv.refl _ _⟩⟩
      · show DkAt _ _ _ _ _ _ _
        rw [Rg.wM_no X hm]
        exact (HD.out.old hy).own
      · rw [hm]; rfl
    rw [eA]
    clear hput hm eA h HH HE
    go_enter Try.func13, Try.ntmps13
    go_upto_region 1 with (fail)
    change Code.wp _ _ _ _ (w.alloc (.cells A 40))
    rw [← hw0]
    clear hw0
    go_wp2_with (first
      | ((with_reducible refine row_load _ _ _ _ _ _ _ ?_ R0.out Try.underlying40 ?_ (row_size Try.sizeRec HAS) ?_); (exact rfl); (exact rfl))
      | (go_at_call 31; refine (HP.out _).mono ?_; rintro e1 w1 ⟨rfl, HB1⟩))
    go_ret
    exact HF.out _ (HB.out _ HB1.out)
  | true =>
    have HP : Hid (∀ y, Calls Try.prog 31 #[.agg A] y (GPutYes (Rg.pt r) y)) := fun y => by rw [← eA]; exact gput_yes r h hm y
    have HPUT := Lib.hid (hput hm)
    have HSP : Hid (∀ y z, Mv [] y z → ∀ p c L, Bs y p c L → True) := fun _ _ _ _ _ _ _ => trivial
    clear hput HSP
    obtain ⟨x1, L⟩ := X
    dsimp only at hX HPUT
    by_cases hx : x1 = 0
    · subst hx
      have HF : Hid (∀ y z e w', Below w.heap.size w y → C y z → Mv ks y z → WSay T d lb rb cb (.int .i64 (Dk.wrE m (Rg.home r) L)) (Dk.wrM m (Rg.home r) L) z e w' → WrSay r (0, L) T d lb rb cb m ks C w e w') := fun y z e w' hy hc hz ⟨h1, h2, h3⟩ => by
        have hz2 : w.heap.size ≤ z.heap.size := Nat.le_trans hy.size hz.size
        refine ⟨by rw [h1, Rg.wE_ok hm rfl], ?_, ?_, Lib.hid ⟨y, z, hy, by rw [if_pos hm]; exact hc, h3.out⟩⟩
        · show DkAt _ _ _ _ _ _ _
          rw [Rg.wM_ok hm rfl]
          exact h2.out.lift (own_up hz2) (fun g hg => hg.elim (fun q => h2.out.top g (Or.inl q)) (fun q => q.2))
        · exact ((Mv.of_below hy).trans (hz.more ks5)).trans (h3.out.more ks4)
      have HZ : Hid (∀ y z, Below w.heap.size w y → Mv ks y z → DkAt z T d lb rb cb m) := fun y z hy hz => (HD.out.old hy).mv hz HKS.out
      have HW : Hid (∀ z p n c, L.length = n → DkAt z T d lb rb cb m → Bs z p c L → Calls Try.prog 37 #[.pointer (some ⟨d, 0, none⟩), .int .i64 (Rg.home r), .slice p n c] z (WSay T d lb rb cb (.int .i64 (Dk.wrE m (Rg.home r) L)) (Dk.wrM m (Rg.home r) L) z)) := fun z p n c hn hz hb => write_any (Rg.home r) L p n c hn (by omega) hwr z hz hb
      rw [eA]
      clear hm eA h hX hwr
      generalize Rg.home r = hom at *
      generalize r.ep = ep at *
      go_enter Try.func13, Try.ntmps13
      go_upto_region 1 with (fail)
      change Code.wp _ _ _ _ (w.alloc (.cells A 40))
      rw [← hw0]
      clear hw0
      go_upto_region 4 with (first
        | ((with_reducible refine row_load _ _ _ _ _ _ _ ?_ R0.out Try.underlying40 ?_ (row_size Try.sizeRec HAS) ?_); (exact rfl); (exact rfl))
        | (go_at_call 31; refine (HP.out _).mono ?_; rintro e1 w1 ⟨p1, c1, rfl, HO1, HS1, HB1⟩))
      have R1 := Lib.hid (HR.out _ HB1.out)
      go_upto_region 5 with (first
        | ((with_reducible refine row_load _ _ _ _ _ _ _ ?_ R1.out Try.underlying40 ?_ (row_size Try.sizeRec HAS) ?_); (exact rfl); (exact rfl))
        | (go_at_call 35; refine (HH.out _).mono ?_; rintro e2 w2 ⟨rfl, hb2⟩))
      have HB2 : Hid (Below w0.heap.size w0 w2) := HB1.out.trans (hb2.mono HB1.out.size)
      have HS2 := Lib.hid (HS1.out.old hb2)
      have c2 := HE.out _ HB2.out
      clear hb2
      go_upto_region 8 with (go_at_call 36; refine (HPUT.out _ _ _ (HB.out _ HB2.out) HS2.out).mono ?_; rintro e3 w3 ⟨u3, m3, d3, rfl, hm3, HO3, HS3, hC3, hM3⟩)
      have HC3 := Lib.hid hC3
      have HM3 := Lib.hid hM3
      have HN3 := Lib.hid hm3
      clear hC3 hM3 hm3 c2
      go_wp2_with (go_at_call 37; refine (HW.out _ _ _ _ HN3.out (HZ.out _ _ (HB.out _ HB2.out) HM3.out) HS3.out).mono ?_; intro e4 w4 hw4; have HW4 := Lib.hid (HF.out _ _ _ _ (HB.out _ HB2.out) HC3.out HM3.out hw4); obtain ⟨rfl, _, _⟩ := hw4)
      go_ret
      exact HW4.out
    · have HF : Hid (∀ y z, Below w.heap.size w y → C y z → Mv ks y z → WrSay r (x1, L) T d lb rb cb m ks C w (.returned (.int .i64 x1)) z) := fun y z hy hc hz => by
        have hb : Mv (d :: lb :: rb :: cb :: ks) w z := (Mv.of_below hy).trans (hz.more ks5)
        refine ⟨by rw [Rg.wE_er hm hx], ?_, hb, Lib.hid ⟨y, z, hy, by rw [if_pos hm]; exact hc, Mv.refl _ _⟩⟩
        show DkAt _ _ _ _ _ _ _
        rw [Rg.wM_er hm hx]
        exact ((HD.out.old hy).mv hz HKS.out).own
      have hb0 : (x1 == 0) = false := by simpa using hx
      rw [eA]
      clear hm eA h hX hwr hx
      generalize Rg.home r = hom at *
      generalize r.ep = ep at *
      go_enter Try.func13, Try.ntmps13
      go_upto_region 1 with (fail)
      change Code.wp _ _ _ _ (w.alloc (.cells A 40))
      rw [← hw0]
      clear hw0
      go_upto_region 4 with (first
        | ((with_reducible refine row_load _ _ _ _ _ _ _ ?_ R0.out Try.underlying40 ?_ (row_size Try.sizeRec HAS) ?_); (exact rfl); (exact rfl))
        | (go_at_call 31; refine (HP.out _).mono ?_; rintro e1 w1 ⟨p1, c1, rfl, HO1, HS1, HB1⟩))
      have R1 := Lib.hid (HR.out _ HB1.out)
      go_upto_region 5 with (first
        | ((with_reducible refine row_load _ _ _ _ _ _ _ ?_ R1.out Try.underlying40 ?_ (row_size Try.sizeRec HAS) ?_); (exact rfl); (exact rfl))
        | (go_at_call 35; refine (HH.out _).mono ?_; rintro e2 w2 ⟨rfl, hb2⟩))
      have HB2 : Hid (Below w0.heap.size w0 w2) := HB1.out.trans (hb2.mono HB1.out.size)
      have HS2 := Lib.hid (HS1.out.old hb2)
      have c2 := HE.out _ HB2.out
      clear hb2
      go_wp2_with (go_at_call 36; refine (HPUT.out _ _ _ (HB.out _ HB2.out) HS2.out).mono ?_; rintro e3 w3 ⟨u3, m3, d3, rfl, hm3, HO3, HS3, hC3, hM3⟩; have HW4 := Lib.hid (HF.out _ _ (HB.out _ HB2.out) hC3 hM3); clear hC3 hM3)
      go_ret
      exact HW4.out
end

/-! RgG: Contract: region.held, whoever opens. -/
section
open Go.RowKit

namespace Rg
/-- Which record bytes of a sector are, by what sector.Get tells of them. -/
def hb (at_ : Int) (G : Int × Sc.S) : Option R := if G.1 = 0 then (if er G.2.L = 0 then (if (gt G.2.L).ep = G.2.e then (if home (gt G.2.L) = at_ then some (gt G.2.L) else none) else none) else none) else none
/-- Which record a region holds. -/
def hd (m : Dk.M) (at_ : Int) (G : List Int → Int × Sc.S) : Option R := if Dk.here m at_ then hb at_ (G (Dk.rdX m at_)) else none
section
variable {at_ : Int} {G : Int × Sc.S}
theorem hb_1 (h : G.1 ≠ 0) : hb at_ G = none := by unfold hb; rw [if_neg h]
theorem hb_2 (h : G.1 = 0) (h2 : er G.2.L ≠ 0) : hb at_ G = none := by unfold hb; rw [if_pos h, if_neg h2]
theorem hb_3 (h : G.1 = 0) (h2 : er G.2.L = 0) (h3 : (gt G.2.L).ep ≠ G.2.e) : hb at_ G = none := by unfold hb; rw [if_pos h, if_pos h2, if_neg h3]
theorem hb_4 (h : G.1 = 0) (h2 : er G.2.L = 0) (h3 : (gt G.2.L).ep = G.2.e) (h4 : home (gt G.2.L) ≠ at_) : hb at_ G = none := by unfold hb; rw [if_pos h, if_pos h2, if_pos h3, if_neg h4]
theorem hb_5 (h : G.1 = 0) (h2 : er G.2.L = 0) (h3 : (gt G.2.L).ep = G.2.e) (h4 : home (gt G.2.L) = at_) : hb at_ G = some (gt G.2.L) := by unfold hb; rw [if_pos h, if_pos h2, if_pos h3, if_pos h4]
theorem hb_some {r : R} (h : hb at_ G = some r) : G.1 = 0 ∧ er G.2.L = 0 ∧ (gt G.2.L).ep = G.2.e ∧ home (gt G.2.L) = at_ ∧ r = gt G.2.L := by
  unfold hb at h
  split at h
  · split at h
    · split at h
      · split at h
        · rename_i h1 h2 h3 h4
          exact ⟨h1, h2, h3, h4, (Option.some.inj h).symm⟩
        · cases h
      · cases h
    · cases h
  · cases h
end
theorem hd_no {m : Dk.M} {at_ : Int} (G : List Int → Int × Sc.S) (h : Dk.here m at_ = false) : hd m at_ G = none := by unfold hd; rw [h]; rfl
theorem hd_yes {m : Dk.M} {at_ : Int} (G : List Int → Int × Sc.S) (h : Dk.here m at_ = true) : hd m at_ G = hb at_ (G (Dk.rdX m at_)) := by unfold hd; rw [h]; rfl
attribute [irreducible] hb hd
end Rg
/-- A record's value, or the zero one. -/
def RVo (o : Option Rg.R) : Value := RV (o.getD Rg.zero)
/-- Behind held. -/
def HdSay (o : Option Rg.R) (T : Nat → Prop) (d lb rb cb : Nat) (m' : Dk.M) (w : World) (e : Ending) (w' : World) : Prop :=
  e = .returned (.tuple #[RVo o, .bool o.isSome]) ∧ Hid (DkAt w' T d lb rb cb m') ∧ Hid (Mv [d, lb, rb, cb] w w')
theorem mv_chg {ks : List Nat} {w y z : World} {g : Nat} (h : Mv ks w y) (hc : Chg g y z) (hg : w.heap.size ≤ g) : Mv ks w z :=
  ⟨hc.os.trans h.os, hc.tape.trans h.tape, hc.output.trans h.output, by rw [hc.size]; exact h.size, fun k hk hn => (hc.block k (by omega)).trans (h.block k hk hn)⟩
set_option maxHeartbeats 4000000 in
set_option maxRecDepth 100000 in
theorem held_gen (TT : TypeId) (vv : Value) (at_ : Int) (G : List Int → Int × Sc.S) {T : Nat → Prop} {d lb rb cb : Nat} {m : Dk.M} (w : World) (hd : DkAt w T d lb rb cb m) (hrd : ∀ j, m.rd j ≤ 1000000000)
    (hGL : (G (Dk.rdX m at_)).2.L.length ≤ 900000)
    (hget : ∀ y q n c, Mv [d, lb, rb, cb] w y → (Dk.rdX m at_).length = n → Bs y q c (Dk.rdX m at_) → Calls Try.prog 66 #[.iface TT vv, .int .i64 2, .int .i64 at_, .slice q n c] y (LGet (G (Dk.rdX m at_)) y)) :
    Calls Try.prog 41 #[.pointer (some ⟨d, 0, none⟩), .iface TT vv, .int .i64 at_] w (HdSay (Rg.hd m at_ G) T d lb rb cb (Dk.rdM m at_) w) := by
  obtain ⟨Z, hZ⟩ : ∃ Z, Hid ((cv Rg.zero).toArray = Z) := ⟨_, rfl⟩
  have HZS : Hid (Z.size = 136) := by show _ = _; rw [← hZ.out, List.size_toArray, cv_len Rg.ok_zero]
  have HZ1 : Hid (Z.all (·.oneCell') = true) := by show _ = _; rw [← hZ.out]; exact all_oneCell_toArray (cv_one Rg.zero)
  have hz := (zero_of_info Try.zeroRec).1
  have HBT := Lib.hid Try.builtRec
  rw [hZ.out] at hz HBT
  have hzn : ¬ Z = #[] := fun h => by have := HZS.out; rw [h] at this; simp at this
  have hsz := row_size Try.sizeRec HZS
  have HRZ : Hid (RVo none = .agg Z) := by show _ = _; unfold RVo RV; rw [← hZ.out]; rfl
  obtain ⟨w0, hw0⟩ : ∃ x, x = w.alloc (.cells Z 40) := ⟨_, rfl⟩
  have B0 : Hid (Below w.heap.size w w0) := by rw [hw0]; exact (Below.refl _ w).alloc (Nat.le_refl _) _
  have R0 : Hid (w0.heap[w.heap.size]? = some (.cells Z 40 (0, 0))) := by rw [hw0]; exact heap_alloc_new w _
  have HNT : Hid (¬ T w.heap.size) := fun h => absurd (hd.top _ h) (Nat.lt_irrefl _)
  have HLT := Lib.hid hd.lt
  have HTP : Hid (∀ k, T k → k < w.heap.size) := hd.top
  have HRD : Hid (Calls Try.prog 17 #[.pointer (some ⟨d, 0, none⟩), .int .i64 at_] w0 (RdSayD T d lb rb cb m at_ w0)) := read_anyD at_ w0 (hd.old B0.out) hrd
  have HZR : Hid (∀ y, Mv [d, lb, rb, cb] w0 y → y.heap[w.heap.size]? = some (.cells Z 40 (0, 0))) := fun y hy => (hy.block _ (lt_of_block R0.out) (fun hk => by
    simp only [List.mem_cons, List.not_mem_nil, or_false] at hk
    rcases hk with q | q | q | q
    · exact HNT.out (q ▸ HLT.out.1)
    · exact HNT.out (q ▸ HLT.out.2.1)
    · exact HNT.out (q ▸ HLT.out.2.2.1)
    · exact HNT.out (q ▸ HLT.out.2.2.2))).trans R0.out
  have HF : Hid (∀ w1 y z v b, DkAt w1 T d lb rb cb (Dk.rdM m at_) → Mv [d, lb, rb, cb] w0 w1 → Below w1.heap.size w1 y → Chg w.heap.size y z → v = RVo (Rg.hd m at_ G) → b = (Rg.hd m at_ G).isSome → HdSay (Rg.hd m at_ G) T d lb rb cb (Dk.rdM m at_) w (.returned (.tuple #[v, .bool b])) z) := fun w1 y z v b h1 h2 h3 h4 h5 h6 => by
    rw [h5, h6]
    refine ⟨rfl, (h1.old h3).only h4.only HNT.out, mv_chg (((Mv.of_below B0.out).trans h2).trans (Mv.of_below h3)) h4 (Nat.le_refl _)⟩
  have HMV : Hid (∀ y, Mv [d, lb, rb, cb] w0 y → Mv [d, lb, rb, cb] w y) := fun y hy => (Mv.of_below B0.out).trans hy
  unfold RdSayD at HRD
  clear hd hrd
  cases hh : Dk.here m at_ with
  | false =>
    have HN : Hid (Rg.hd m at_ G = none) := Rg.hd_no G hh
    have HE7 : Hid (Dk.rdE m at_ = 7) := by show _ = _; unfold Dk.rdE; rw [hh]; rfl
    clear hget hGL hh
    go_enter Try.func41, Try.ntmps41
    go_upto_region 1 with (fail)
    change Code.wp _ _ _ _ (w.alloc (.cells Z 40))
    rw [← hw0]
    clear hw0
    go_wp2_with (first
      | (go_at_call 17; refine HRD.out.mono ?_; rintro e1 w1 ⟨v1, rfl, hv1, hd1, hm1⟩; rw [HE7.out])
      | ((with_reducible refine row_build0 _ _ HBT.out ?_))
      | ((with_reducible refine row_store _ _ _ _ _ _ _ ?_ ?_ (HZR.out _ hm1.out) (row_size Try.sizeRec HZS) ?_ HZ1.out ?_); (exact rfl); (exact rfl); (exact rfl); intro w9 G9 ch9))
    refine bodyPost_ret (results_cell_tmp rfl _ _ w.heap.size 40 Z (0, 0) _ rfl G9 Try.underlying40 rfl (row_size Try.sizeRec HZS)) rfl (HF.out w1 _ _ _ _ hd1.out hm1.out (Below.refl _ _) ch9 (by rw [HN.out, HRZ.out]) (by rw [HN.out]; rfl))
  | true =>
    have HE0 : Hid (Dk.rdE m at_ = 0) := by show _ = _; unfold Dk.rdE; rw [hh]; rfl
    have HBB := Rg.hd_yes G hh
    have HGET := Lib.hid hget
    clear hget hh
    generalize Dk.rdX m at_ = B at *
    obtain ⟨eg, sg⟩ : ∃ x, x = G B := ⟨_, rfl⟩
    rw [← sg] at HBB HGET hGL
    obtain ⟨x1, kk, ee, nn, aa, L⟩ := eg
    clear sg
    dsimp only at hGL
    have HG2 : Hid (∀ y q n c, L.length = n → Bs y q c L → Calls Try.prog 67 #[.slice q n c] y (GotSay L y)) := fun y q n c hn hy => gget_any L q n c hn (by omega) y hy
    have HVB : Hid (∀ (y : World) (v : Value), y.ownsRow w0.heap.size 5 1 v B.length (U8s B) ∧ Sha.Byt B → ∃ p c, v = .slice p B.length c ∧ Bs y p c B) := fun y v hv => by
      obtain ⟨p, c, h1, h2, _⟩ := own_bs hv.1 hv.2
      exact ⟨p, c, h1, h2⟩
    have HLN : Hid (∀ q d', (Sv (⟨kk, ee, nn, aa, L⟩ : Sc.S) q L.length d') = SV kk ee nn aa q L.length d') := fun _ _ => rfl
    by_cases hx : x1 = 0
    case neg =>
      have HN : Hid (Rg.hd m at_ G = none) := by show _ = _; rw [HBB]; exact Rg.hb_1 hx
      have hb0 : (x1 == 0) = false := by simpa using hx
      clear HBB hGL HG2 hx
      have HZ2 : Hid (∀ y z, Mv [d, lb, rb, cb] w0 y → Below y.heap.size y z → z.heap[w.heap.size]? = some (.cells Z 40 (0, 0))) := fun y z h1 h2 => (h2.block _ (lt_of_block (HZR.out _ h1))).trans (HZR.out _ h1)
      go_enter Try.func41, Try.ntmps41
      go_upto_region 1 with (fail)
      change Code.wp _ _ _ _ (w.alloc (.cells Z 40))
      rw [← hw0]
      clear hw0
      go_upto_region 5 with (first
        | (go_at_call 17; refine HRD.out.mono ?_; rintro e1 w1 ⟨v1, rfl, hv1, hd1, hm1⟩; obtain ⟨q1, c1, hq1, hB1⟩ := HVB.out _ _ hv1.out; subst hq1; rw [HE0.out]; have HB1 := Lib.hid hB1; have HM1 := Lib.hid (HMV.out _ hm1.out); clear hB1)
        | (go_at_call 66; refine (HGET.out _ _ _ _ HM1.out rfl HB1.out).mono ?_; rintro e2 w2 ⟨u2, m2, d2, rfl, hm2, HO2, HS2, hb2⟩; have HB2 := Lib.hid hb2; have HN2 := Lib.hid hm2; clear hb2 hm2))
      obtain ⟨w3, hw3⟩ : ∃ y, y = w2.alloc (SO kk ee nn aa u2 m2 d2) := ⟨_, rfl⟩
      have HB3 : Hid (Below w1.heap.size w1 w3) := by rw [hw3]; exact HB2.out.alloc HB2.out.size _
      change Code.wp _ _ _ _ (w2.alloc (SO kk ee nn aa u2 m2 d2))
      rw [← hw3]
      clear hw3
      go_wp2_with (first
        | ((with_reducible refine row_build0 _ _ HBT.out ?_))
        | ((with_reducible refine row_store _ _ _ _ _ _ _ ?_ ?_ (HZ2.out _ _ hm1.out HB3.out) (row_size Try.sizeRec HZS) ?_ HZ1.out ?_); (exact rfl); (exact rfl); (exact rfl); intro w9 G9 ch9))
      refine bodyPost_ret (results_cell_tmp rfl _ _ w.heap.size 40 Z (0, 0) _ rfl G9 Try.underlying40 rfl (row_size Try.sizeRec HZS)) rfl (HF.out w1 _ _ _ _ hd1.out hm1.out HB3.out ch9 (by rw [HN.out, HRZ.out]) (by rw [HN.out]; rfl))
    case pos =>
      subst hx
      have HZ2 : Hid (∀ y z, Mv [d, lb, rb, cb] w0 y → Below y.heap.size y z → z.heap[w.heap.size]? = some (.cells Z 40 (0, 0))) := fun y z h1 h2 => (h2.block _ (lt_of_block (HZR.out _ h1))).trans (HZR.out _ h1)
      have HH2 : Hid (∀ y, Sha.Byt L → Calls Try.prog 35 #[RV (Rg.gt L)] y fun e w' => e = .returned (.int .i64 (Rg.home (Rg.gt L))) ∧ Below y.heap.size y w') := fun y hy => home_any _ (Rg.gt_ok hy) y
      have HRK : Hid (Sha.Byt L → ∃ A, RV (Rg.gt L) = .agg A ∧ A.size = 136 ∧ A.all (·.oneCell') = true ∧ ∀ (z : World) (g : Nat) (t : TypeId), z.heap[g]? = some (.cells A t (0, 0)) → z.cell? ⟨g, 2, none⟩ = some (.int .i64 (Rg.gt L).ep)) := fun hy => by
        obtain ⟨A, _, _, _, _, e1, hk⟩ := rck (Rg.gt_ok hy)
        exact ⟨A, e1, hk.size, hk.one, fun z g t hz => (hk.ints z g t hz).2.2.1⟩
      have HV5 : Hid (∀ r, Rg.hd m at_ G = some r → RVo (Rg.hd m at_ G) = RV r) := fun r hr => by rw [hr]; rfl
      by_cases h2 : Rg.er L = 0
      case neg =>
        have HN : Hid (Rg.hd m at_ G = none) := by show _ = _; rw [HBB]; exact Rg.hb_2 rfl h2
        have hb0 : (Rg.er L != 0) = true := by simpa using h2
        clear HBB hGL h2 HV5
        go_enter Try.func41, Try.ntmps41
        go_upto_region 1 with (fail)
        change Code.wp _ _ _ _ (w.alloc (.cells Z 40))
        rw [← hw0]
        clear hw0
        go_upto_region 5 with (first
          | (go_at_call 17; refine HRD.out.mono ?_; rintro e1 w1 ⟨v1, rfl, hv1, hd1, hm1⟩; obtain ⟨q1, c1, hq1, hB1⟩ := HVB.out _ _ hv1.out; subst hq1; rw [HE0.out]; have HB1 := Lib.hid hB1; have HM1 := Lib.hid (HMV.out _ hm1.out); clear hB1)
          | (go_at_call 66; refine (HGET.out _ _ _ _ HM1.out rfl HB1.out).mono ?_; rintro e2 w2 ⟨u2, m2, d2, rfl, hm2, HO2, HS2, hb2⟩; have HB2 := Lib.hid hb2; have HN2 := Lib.hid hm2; clear hb2 hm2))
        obtain ⟨w3, hw3⟩ : ∃ y, y = w2.alloc (SO kk ee nn aa u2 m2 d2) := ⟨_, rfl⟩
        have HB3 : Hid (Below w1.heap.size w1 w3) := by rw [hw3]; exact HB2.out.alloc HB2.out.size _
        have HS3 : Hid (Bs w3 u2 d2 L) := by rw [hw3]; exact HS2.out.old ((Below.refl _ w2).alloc (Nat.le_refl _) _)
        have HA3 : Hid (SAt w3 w2.heap.size kk ee nn aa u2 m2 d2) := by rw [hw3]; exact SAt.new w2 _ _ _ _ _ _ _
        have H23 : Hid (w2.heap.size < w3.heap.size) := HA3.out.lt
        change Code.wp _ _ _ _ (w2.alloc (SO kk ee nn aa u2 m2 d2))
        rw [← hw3]
        clear hw3 HB1 HO2 HS2 HGET HRD
        generalize w2.heap.size = gs at *
        obtain ⟨A, eA, HAS', HA1', HEP⟩ := HRK.out HS3.out.bat.1
        have HAS := Lib.hid HAS'
        have HA1 := Lib.hid HA1'
        have HH := Lib.hid (fun y => HH2.out y HS3.out.bat.1)
        have HGG := Lib.hid (fun y (hy : Below w3.heap.size w3 y) => HG2.out y u2 m2 d2 HN2.out (HS3.out.old hy))
        unfold GotSay at HGG
        rw [eA] at HGG HH
        clear HRK HAS' HA1' HG2 HH2
        generalize Rg.er L = er at *
        have c4 := HA3.out.c4
        go_upto_region 8 with (first
          | (go_at_call 67; refine (HGG.out _ (Below.refl _ _)).mono ?_; rintro e4 w4 ⟨rfl, HB4⟩)
          | ((with_reducible refine row_store _ _ _ _ _ _ _ ?_ ?_ (heap_alloc_new _ _) (row_size Try.sizeRec HAS) ?_ HA1.out ?_); (exact rfl); (exact rfl); (rw [HAS.out, HZS.out]); intro w5 G5 ch5))
        have HB5 : Hid (Below w3.heap.size w3 w5) := ch5.below (HB4.out.alloc HB4.out.size _) HB4.out.size
        have HB6 : Hid (Below w1.heap.size w1 w5) := HB3.out.trans (HB5.out.mono HB3.out.size)
        have R5 : Hid (∀ y, Below w5.heap.size w5 y → y.heap[w4.heap.size]? = some (.cells A 40 (0, 0))) := fun y hy => (hy.block _ (lt_of_block G5)).trans G5
        have c1 := (HA3.out.old HB5.out).c1
        have c2 := HEP _ _ _ G5
        clear ch5 HB4 HGG c4
        generalize w4.heap.size = gr at *
        go_wp2_with (first
          | ((with_reducible refine row_build0 _ _ HBT.out ?_))
          | ((with_reducible refine row_store _ _ _ _ _ _ _ ?_ ?_ (HZ2.out _ _ hm1.out HB6.out) (row_size Try.sizeRec HZS) ?_ HZ1.out ?_); (exact rfl); (exact rfl); (exact rfl); intro w9 G9 ch9))
        refine bodyPost_ret (results_cell_tmp rfl _ _ w.heap.size 40 Z (0, 0) _ rfl G9 Try.underlying40 rfl (row_size Try.sizeRec HZS)) rfl (HF.out w1 _ _ _ _ hd1.out hm1.out HB6.out ch9 (by rw [HN.out, HRZ.out]) (by rw [HN.out]; rfl))
      case pos =>
        by_cases h3 : (Rg.gt L).ep = ee
        case neg =>
          have HN : Hid (Rg.hd m at_ G = none) := by show _ = _; rw [HBB]; exact Rg.hb_3 rfl h2 h3
          have hb3 : ((Rg.gt L).ep != ee) = true := by simpa using h3
          have HER := Lib.hid h2
          clear HBB hGL h2 HV5 h3
          go_enter Try.func41, Try.ntmps41
          go_upto_region 1 with (fail)
          change Code.wp _ _ _ _ (w.alloc (.cells Z 40))
          rw [← hw0]
          clear hw0
          go_upto_region 5 with (first
            | (go_at_call 17; refine HRD.out.mono ?_; rintro e1 w1 ⟨v1, rfl, hv1, hd1, hm1⟩; obtain ⟨q1, c1, hq1, hB1⟩ := HVB.out _ _ hv1.out; subst hq1; rw [HE0.out]; have HB1 := Lib.hid hB1; have HM1 := Lib.hid (HMV.out _ hm1.out); clear hB1)
            | (go_at_call 66; refine (HGET.out _ _ _ _ HM1.out rfl HB1.out).mono ?_; rintro e2 w2 ⟨u2, m2, d2, rfl, hm2, HO2, HS2, hb2⟩; have HB2 := Lib.hid hb2; have HN2 := Lib.hid hm2; clear hb2 hm2))
          obtain ⟨w3, hw3⟩ : ∃ y, y = w2.alloc (SO kk ee nn aa u2 m2 d2) := ⟨_, rfl⟩
          have HB3 : Hid (Below w1.heap.size w1 w3) := by rw [hw3]; exact HB2.out.alloc HB2.out.size _
          have HS3 : Hid (Bs w3 u2 d2 L) := by rw [hw3]; exact HS2.out.old ((Below.refl _ w2).alloc (Nat.le_refl _) _)
          have HA3 : Hid (SAt w3 w2.heap.size kk ee nn aa u2 m2 d2) := by rw [hw3]; exact SAt.new w2 _ _ _ _ _ _ _
          have H23 : Hid (w2.heap.size < w3.heap.size) := HA3.out.lt
          change Code.wp _ _ _ _ (w2.alloc (SO kk ee nn aa u2 m2 d2))
          rw [← hw3]
          clear hw3 HB1 HO2 HS2 HGET HRD
          generalize w2.heap.size = gs at *
          obtain ⟨A, eA, HAS', HA1', HEP⟩ := HRK.out HS3.out.bat.1
          have HAS := Lib.hid HAS'
          have HA1 := Lib.hid HA1'
          have HH := Lib.hid (fun y => HH2.out y HS3.out.bat.1)
          have HGG := Lib.hid (fun y (hy : Below w3.heap.size w3 y) => HG2.out y u2 m2 d2 HN2.out (HS3.out.old hy))
          unfold GotSay at HGG
          rw [eA] at HGG HH
          clear HRK HAS' HA1' HG2 HH2
          rw [HER.out] at HGG
          clear HER
          generalize (Rg.gt L).ep = ep at *
          have c4 := HA3.out.c4
          go_upto_region 8 with (first
            | (go_at_call 67; refine (HGG.out _ (Below.refl _ _)).mono ?_; rintro e4 w4 ⟨rfl, HB4⟩)
            | ((with_reducible refine row_store _ _ _ _ _ _ _ ?_ ?_ (heap_alloc_new _ _) (row_size Try.sizeRec HAS) ?_ HA1.out ?_); (exact rfl); (exact rfl); (rw [HAS.out, HZS.out]); intro w5 G5 ch5))
          have HB5 : Hid (Below w3.heap.size w3 w5) := ch5.below (HB4.out.alloc HB4.out.size _) HB4.out.size
          have HB6 : Hid (Below w1.heap.size w1 w5) := HB3.out.trans (HB5.out.mono HB3.out.size)
          have R5 : Hid (∀ y, Below w5.heap.size w5 y → y.heap[w4.heap.size]? = some (.cells A 40 (0, 0))) := fun y hy => (hy.block _ (lt_of_block G5)).trans G5
          have c1 := (HA3.out.old HB5.out).c1
          have c2 := HEP _ _ _ G5
          clear ch5 HB4 HGG c4
          generalize w4.heap.size = gr at *
          go_wp2_with (first
            | ((with_reducible refine row_build0 _ _ HBT.out ?_))
            | ((with_reducible refine row_store _ _ _ _ _ _ _ ?_ ?_ (HZ2.out _ _ hm1.out HB6.out) (row_size Try.sizeRec HZS) ?_ HZ1.out ?_); (exact rfl); (exact rfl); (exact rfl); intro w9 G9 ch9))
          refine bodyPost_ret (results_cell_tmp rfl _ _ w.heap.size 40 Z (0, 0) _ rfl G9 Try.underlying40 rfl (row_size Try.sizeRec HZS)) rfl (HF.out w1 _ _ _ _ hd1.out hm1.out HB6.out ch9 (by rw [HN.out, HRZ.out]) (by rw [HN.out]; rfl))
        case pos =>
          have HER := Lib.hid h2
          have HEE := Lib.hid h3
          by_cases h4 : Rg.home (Rg.gt L) = at_
          case neg =>
            have HN : Hid (Rg.hd m at_ G = none) := by show _ = _; rw [HBB]; exact Rg.hb_4 rfl h2 h3 h4
            have hb4 : (Rg.home (Rg.gt L) != at_) = true := by simpa using h4
            have hbe : (ee != ee) = false := by simp
            clear HBB hGL h2 HV5 h3 h4
            go_enter Try.func41, Try.ntmps41
            go_upto_region 1 with (fail)
            change Code.wp _ _ _ _ (w.alloc (.cells Z 40))
            rw [← hw0]
            clear hw0
            go_upto_region 5 with (first
              | (go_at_call 17; refine HRD.out.mono ?_; rintro e1 w1 ⟨v1, rfl, hv1, hd1, hm1⟩; obtain ⟨q1, c1, hq1, hB1⟩ := HVB.out _ _ hv1.out; subst hq1; rw [HE0.out]; have HB1 := Lib.hid hB1; have HM1 := Lib.hid (HMV.out _ hm1.out); clear hB1)
              | (go_at_call 66; refine (HGET.out _ _ _ _ HM1.out rfl HB1.out).mono ?_; rintro e2 w2 ⟨u2, m2, d2, rfl, hm2, HO2, HS2, hb2⟩; have HB2 := Lib.hid hb2; have HN2 := Lib.hid hm2; clear hb2 hm2))
            obtain ⟨w3, hw3⟩ : ∃ y, y = w2.alloc (SO kk ee nn aa u2 m2 d2) := ⟨_, rfl⟩
            have HB3 : Hid (Below w1.heap.size w1 w3) := by rw [hw3]; exact HB2.out.alloc HB2.out.size _
            have HS3 : Hid (Bs w3 u2 d2 L) := by rw [hw3]; exact HS2.out.old ((Below.refl _ w2).alloc (Nat.le_refl _) _)
            have HA3 : Hid (SAt w3 w2.heap.size kk ee nn aa u2 m2 d2) := by rw [hw3]; exact SAt.new w2 _ _ _ _ _ _ _
            have H23 : Hid (w2.heap.size < w3.heap.size) := HA3.out.lt
            change Code.wp _ _ _ _ (w2.alloc (SO kk ee nn aa u2 m2 d2))
            rw [← hw3]
            clear hw3 HB1 HO2 HS2 HGET HRD
            generalize w2.heap.size = gs at *
            obtain ⟨A, eA, HAS', HA1', HEP⟩ := HRK.out HS3.out.bat.1
            have HAS := Lib.hid HAS'
            have HA1 := Lib.hid HA1'
            have HH := Lib.hid (fun y => HH2.out y HS3.out.bat.1)
            have HGG := Lib.hid (fun y (hy : Below w3.heap.size w3 y) => HG2.out y u2 m2 d2 HN2.out (HS3.out.old hy))
            unfold GotSay at HGG
            rw [eA] at HGG HH
            clear HRK HAS' HA1' HG2 HH2
            rw [HER.out] at HGG
            rw [HEE.out] at HEP
            clear HER HEE
            generalize Rg.home (Rg.gt L) = hom at *
            have c4 := HA3.out.c4
            go_upto_region 8 with (first
              | (go_at_call 67; refine (HGG.out _ (Below.refl _ _)).mono ?_; rintro e4 w4 ⟨rfl, HB4⟩)
              | ((with_reducible refine row_store _ _ _ _ _ _ _ ?_ ?_ (heap_alloc_new _ _) (row_size Try.sizeRec HAS) ?_ HA1.out ?_); (exact rfl); (exact rfl); (rw [HAS.out, HZS.out]); intro w5 G5 ch5))
            have HB5 : Hid (Below w3.heap.size w3 w5) := ch5.below (HB4.out.alloc HB4.out.size _) HB4.out.size
            have HB6 : Hid (Below w1.heap.size w1 w5) := HB3.out.trans (HB5.out.mono HB3.out.size)
            have R5 : Hid (∀ y, Below w5.heap.size w5 y → y.heap[w4.heap.size]? = some (.cells A 40 (0, 0))) := fun y hy => (hy.block _ (lt_of_block G5)).trans G5
            have c1 := (HA3.out.old HB5.out).c1
            have c2 := HEP _ _ _ G5
            clear ch5 HB4 HGG c4
            generalize w4.heap.size = gr at *
            go_wp2_with (first
              | ((with_reducible refine row_load_g _ _ _ _ _ _ _ ?_ ?_ G5.out Try.underlying40 ?_ (row_size Try.sizeRec HAS) ?_); (exact rfl); (exact rfl); (exact rfl))
              | (go_at_call 35; refine (HH.out _).mono ?_; rintro e6 w6 ⟨rfl, hb6⟩; have HB7 := Lib.hid (HB6.out.trans (hb6.mono HB6.out.size)); have R6 := Lib.hid (R5.out _ hb6); clear hb6)
              | ((with_reducible refine row_build0 _ _ HBT.out ?_))
              | ((with_reducible refine row_store _ _ _ _ _ _ _ ?_ ?_ (HZ2.out _ _ hm1.out HB7.out) (row_size Try.sizeRec HZS) ?_ HZ1.out ?_); (exact rfl); (exact rfl); (exact rfl); intro w9 G9 ch9))
            refine bodyPost_ret (results_cell_tmp rfl _ _ w.heap.size 40 Z (0, 0) _ rfl G9 Try.underlying40 rfl (row_size Try.sizeRec HZS)) rfl (HF.out w1 _ _ _ _ hd1.out hm1.out HB7.out ch9 (by rw [HN.out, HRZ.out]) (by rw [HN.out]; rfl))
          case pos =>
            have HN : Hid (Rg.hd m at_ G = some (Rg.gt L)) := by show _ = _; rw [HBB]; exact Rg.hb_5 rfl h2 h3 h4
            have HV : Hid (RVo (Rg.hd m at_ G) = RV (Rg.gt L)) := HV5.out _ HN.out
            have HHM := Lib.hid h4
            have hbe : (ee != ee) = false := by simp
            have hba : (at_ != at_) = false := by simp
            clear HBB hGL h2 HV5 h3 h4
            go_enter Try.func41, Try.ntmps41
            go_upto_region 1 with (fail)
            change Code.wp _ _ _ _ (w.alloc (.cells Z 40))
            rw [← hw0]
            clear hw0
            go_upto_region 5 with (first
              | (go_at_call 17; refine HRD.out.mono ?_; rintro e1 w1 ⟨v1, rfl, hv1, hd1, hm1⟩; obtain ⟨q1, c1, hq1, hB1⟩ := HVB.out _ _ hv1.out; subst hq1; rw [HE0.out]; have HB1 := Lib.hid hB1; have HM1 := Lib.hid (HMV.out _ hm1.out); clear hB1)
              | (go_at_call 66; refine (HGET.out _ _ _ _ HM1.out rfl HB1.out).mono ?_; rintro e2 w2 ⟨u2, m2, d2, rfl, hm2, HO2, HS2, hb2⟩; have HB2 := Lib.hid hb2; have HN2 := Lib.hid hm2; clear hb2 hm2))
            obtain ⟨w3, hw3⟩ : ∃ y, y = w2.alloc (SO kk ee nn aa u2 m2 d2) := ⟨_, rfl⟩
            have HB3 : Hid (Below w1.heap.size w1 w3) := by rw [hw3]; exact HB2.out.alloc HB2.out.size _
            have HS3 : Hid (Bs w3 u2 d2 L) := by rw [hw3]; exact HS2.out.old ((Below.refl _ w2).alloc (Nat.le_refl _) _)
            have HA3 : Hid (SAt w3 w2.heap.size kk ee nn aa u2 m2 d2) := by rw [hw3]; exact SAt.new w2 _ _ _ _ _ _ _
            have H23 : Hid (w2.heap.size < w3.heap.size) := HA3.out.lt
            change Code.wp _ _ _ _ (w2.alloc (SO kk ee nn aa u2 m2 d2))
            rw [← hw3]
            clear hw3 HB1 HO2 HS2 HGET HRD
            generalize w2.heap.size = gs at *
            obtain ⟨A, eA, HAS', HA1', HEP⟩ := HRK.out HS3.out.bat.1
            have HAS := Lib.hid HAS'
            have HA1 := Lib.hid HA1'
            have HH := Lib.hid (fun y => HH2.out y HS3.out.bat.1)
            have HGG := Lib.hid (fun y (hy : Below w3.heap.size w3 y) => HG2.out y u2 m2 d2 HN2.out (HS3.out.old hy))
            unfold GotSay at HGG
            rw [eA] at HGG HH
            clear HRK HAS' HA1' HG2 HH2
            rw [HER.out] at HGG
            rw [HEE.out] at HEP
            rw [HHM.out] at HH
            rw [eA] at HV
            clear HER HEE HHM
            have c4 := HA3.out.c4
            go_upto_region 8 with (first
              | (go_at_call 67; refine (HGG.out _ (Below.refl _ _)).mono ?_; rintro e4 w4 ⟨rfl, HB4⟩)
              | ((with_reducible refine row_store _ _ _ _ _ _ _ ?_ ?_ (heap_alloc_new _ _) (row_size Try.sizeRec HAS) ?_ HA1.out ?_); (exact rfl); (exact rfl); (rw [HAS.out, HZS.out]); intro w5 G5 ch5))
            have HB5 : Hid (Below w3.heap.size w3 w5) := ch5.below (HB4.out.alloc HB4.out.size _) HB4.out.size
            have HB6 : Hid (Below w1.heap.size w1 w5) := HB3.out.trans (HB5.out.mono HB3.out.size)
            have R5 : Hid (∀ y, Below w5.heap.size w5 y → y.heap[w4.heap.size]? = some (.cells A 40 (0, 0))) := fun y hy => (hy.block _ (lt_of_block G5)).trans G5
            have c1 := (HA3.out.old HB5.out).c1
            have c2 := HEP _ _ _ G5
            clear ch5 HB4 HGG c4
            generalize w4.heap.size = gr at *
            go_wp2_with (first
              | ((with_reducible refine row_load_g _ _ _ _ _ _ _ ?_ ?_ G5.out Try.underlying40 ?_ (row_size Try.sizeRec HAS) ?_); (exact rfl); (exact rfl); (exact rfl))
              | (go_at_call 35; refine (HH.out _).mono ?_; rintro e6 w6 ⟨rfl, hb6⟩; have HB7 := Lib.hid (HB6.out.trans (hb6.mono HB6.out.size)); have R6 := Lib.hid (R5.out _ hb6); clear hb6)
              | ((with_reducible refine row_load _ _ _ _ _ _ _ ?_ R6.out Try.underlying40 ?_ (row_size Try.sizeRec HAS) ?_); (exact rfl); (exact rfl))
              | ((with_reducible refine row_store _ _ _ _ _ _ _ ?_ ?_ (HZ2.out _ _ hm1.out HB7.out) (row_size Try.sizeRec HAS) ?_ HA1.out ?_); (exact rfl); (exact rfl); (rw [HAS.out, HZS.out]); intro w9 G9 ch9))
            refine bodyPost_ret (results_cell_tmp rfl _ _ w.heap.size 40 A (0, 0) _ rfl G9 Try.underlying40 rfl (row_size Try.sizeRec HAS)) rfl (HF.out w1 _ _ _ _ hd1.out hm1.out HB7.out ch9 (by rw [HV.out]) (by rw [HN.out]; rfl))
end

/-! RgH: Contract: region.All, whoever opens. -/
section
open Go.RowKit

namespace Rg
/-- What All tells, and the disk then. -/
def alH (m : Dk.M) (G : Int → List Int → Int × Sc.S) (k : Nat) : Option R := hd m ((k : Int) + 1) (G ((k : Int) + 1))
def alL (m : Dk.M) (G : Int → List Int → Int × Sc.S) : Nat → List R
  | 0 => []
  | k + 1 => alL m G k ++ (alH m G k).toList
def alM (m : Dk.M) : Nat → Dk.M
  | 0 => m
  | k + 1 => Dk.rdM (alM m k) ((k : Int) + 1)
def al (m : Dk.M) (G : Int → List Int → Int × Sc.S) : List R := alL m G 2
theorem rdM_same (m : Dk.M) (i : Int) : (Dk.rdM m i).n = m.n ∧ (Dk.rdM m i).ls = m.ls ∧ (Dk.rdM m i).ca = m.ca ∧ (Dk.rdM m i).wr = m.wr ∧ (Dk.rdM m i).left = m.left ∧ (Dk.rdM m i).down = m.down := by
  unfold Dk.rdM
  split <;> exact ⟨rfl, rfl, rfl, rfl, rfl, rfl⟩
theorem rdM_rd (m : Dk.M) (i : Int) (B : Nat) (h : ∀ j, m.rd j ≤ B) : ∀ j, (Dk.rdM m i).rd j ≤ B + 1 := fun j => by
  unfold Dk.rdM
  split
  · show upd m.rd i.toNat (m.rd i.toNat + 1) j ≤ B + 1
    unfold upd
    split
    · have := h i.toNat; omega
    · have := h j; omega
  · have := h j; omega
theorem alM_same (m : Dk.M) : ∀ k, (alM m k).n = m.n ∧ (alM m k).ls = m.ls ∧ (alM m k).ca = m.ca ∧ (alM m k).wr = m.wr ∧ (alM m k).left = m.left ∧ (alM m k).down = m.down
  | 0 => ⟨rfl, rfl, rfl, rfl, rfl, rfl⟩
  | k + 1 => by
    obtain ⟨h1, h2, h3, h4, h5, h6⟩ := alM_same m k
    obtain ⟨g1, g2, g3, g4, g5, g6⟩ := rdM_same (alM m k) ((k : Int) + 1)
    exact ⟨g1.trans h1, g2.trans h2, g3.trans h3, g4.trans h4, g5.trans h5, g6.trans h6⟩
theorem alM_rd (m : Dk.M) (B : Nat) (h : ∀ j, m.rd j ≤ B) : ∀ k j, (alM m k).rd j ≤ B + k
  | 0, j => h j
  | k + 1, j => rdM_rd (alM m k) _ (B + k) (fun j => alM_rd m B h k j) j
theorem rdX_same {m m' : Dk.M} (h1 : m'.n = m.n) (h2 : m'.ls = m.ls) (h3 : m'.ca = m.ca) (i : Int) : Dk.rdX m' i = Dk.rdX m i ∧ Dk.here m' i = Dk.here m i := by
  unfold Dk.rdX Dk.here Dk.peek
  rw [h1, h2, h3]
  exact ⟨rfl, rfl⟩
theorem alM_rdX (m : Dk.M) (k : Nat) (i : Int) : Dk.rdX (alM m k) i = Dk.rdX m i ∧ Dk.here (alM m k) i = Dk.here m i := by
  obtain ⟨h1, h2, h3, _⟩ := alM_same m k
  exact rdX_same h1 h2 h3 i
theorem hd_same {m m' : Dk.M} (at_ : Int) (G : List Int → Int × Sc.S) (h : Dk.rdX m' at_ = Dk.rdX m at_ ∧ Dk.here m' at_ = Dk.here m at_) : hd m' at_ G = hd m at_ G := by
  unfold hd
  rw [h.1, h.2]
theorem hd_ok {m : Dk.M} {at_ : Int} {G : List Int → Int × Sc.S} (hb : Sha.Byt (G (Dk.rdX m at_)).2.L) {r : R} (h : hd m at_ G = some r) : Ok r := by
  cases hh : Dk.here m at_ with
  | false => rw [hd_no G hh] at h; cases h
  | true =>
    rw [hd_yes G hh] at h
    rw [(hb_some h).2.2.2.2]
    exact gt_ok hb
end Rg
theorem own_mv {B e s n : Nat} {ks : List Nat} {y z : World} {v : Value} {xs : List Value} (h : y.ownsRow B e s v n xs) (hm : Mv ks y z) (hk : ∀ k ∈ ks, k < B) : z.ownsRow B e s v n xs := by
  refine ⟨h.1, ?_⟩
  rcases h.2 with h1 | ⟨g, cap, cur, h1, h2, h3, h4⟩
  · exact Or.inl h1
  · exact Or.inr ⟨g, cap, cur, h1, h2, (hm.block g (lt_of_block h3) (fun q => by have := hk g q; omega)).trans h3, h4⟩
theorem mv_low {ks : List Nat} {w y z : World} (h : Mv ks w y) (hb : Below w.heap.size y z) : Mv ks w z :=
  ⟨hb.os.trans h.os, hb.tape.trans h.tape, hb.output.trans h.output, Nat.le_trans h.size hb.size, fun k hk hn => (hb.block k hk).trans (h.block k hk hn)⟩
/-- Behind All. -/
def AlSay (L : List Rg.R) (T : Nat → Prop) (d lb rb cb : Nat) (m' : Dk.M) (w : World) (e : Ending) (w' : World) : Prop :=
  ∃ v, e = .returned v ∧ Hid (RsO w.heap.size w' v L) ∧ Hid (∀ x ∈ L, Rg.Ok x) ∧ Hid (DkAt w' T d lb rb cb m') ∧ Hid (Mv [d, lb, rb, cb] w w')
set_option maxHeartbeats 4000000 in
set_option maxRecDepth 100000 in
theorem all_gen (TT : TypeId) (vv : Value) (G : Int → List Int → Int × Sc.S) {T : Nat → Prop} {d lb rb cb : Nat} {m : Dk.M} (w : World) (hd : DkAt w T d lb rb cb m) (hrd : ∀ j, m.rd j ≤ 999999990)
    (hGL : ∀ k : Nat, k < 2 → (G ((k : Int) + 1) (Dk.rdX m ((k : Int) + 1))).2.L.length ≤ 900000)
    (hGB : ∀ k : Nat, k < 2 → Sha.Byt (G ((k : Int) + 1) (Dk.rdX m ((k : Int) + 1))).2.L)
    (hget : ∀ k : Nat, k < 2 → ∀ y q n c, Mv [d, lb, rb, cb] w y → (Dk.rdX m ((k : Int) + 1)).length = n → Bs y q c (Dk.rdX m ((k : Int) + 1)) → Calls Try.prog 66 #[.iface TT vv, .int .i64 2, .int .i64 ((k : Int) + 1), .slice q n c] y (LGet (G ((k : Int) + 1) (Dk.rdX m ((k : Int) + 1))) y)) :
    Calls Try.prog 15 #[.pointer (some ⟨d, 0, none⟩), .iface TT vv] w (AlSay (Rg.al m G) T d lb rb cb (Rg.alM m 2) w) := by
  have HC : Hid (∀ k : Nat, k < 2 → ∀ y, DkAt y T d lb rb cb (Rg.alM m k) → Mv [d, lb, rb, cb] w y → Calls Try.prog 41 #[.pointer (some ⟨d, 0, none⟩), .iface TT vv, .int .i64 ((k : Int) + 1)] y (HdSay (Rg.alH m G k) T d lb rb cb (Rg.alM m (k + 1)) y)) := fun k hk y hy hm => by
    have hx := Rg.alM_rdX m k ((k : Int) + 1)
    have h := held_gen TT vv ((k : Int) + 1) (G ((k : Int) + 1)) y hy (fun j => Nat.le_trans (Rg.alM_rd m 999999990 hrd k j) (by omega)) (by rw [hx.1]; exact hGL k hk) (fun z q n c hz hn hb => by
      rw [hx.1] at hn hb ⊢
      exact hget k hk z q n c (hm.trans hz) hn hb)
    rw [Rg.hd_same ((k : Int) + 1) (G ((k : Int) + 1)) hx] at h
    exact h
  have HO : Hid (∀ k : Nat, k < 2 → ∀ r, Rg.alH m G k = some r → Rg.Ok r) := fun k hk r hr => Rg.hd_ok (hGB k hk) hr
  have HLS : Hid (∀ k, Rg.alL m G (k + 1) = Rg.alL m G k ++ (Rg.alH m G k).toList) := fun k => rfl
  have HAL : Hid (Rg.al m G = Rg.alL m G 2) := rfl
  have HL0 : Hid (Rg.alL m G 0 = []) := rfl
  have HL2 : Hid (∀ k : Nat, k ≤ 2 → (∀ x ∈ Rg.alL m G k, Rg.Ok x) ∧ (Rg.alL m G k).length ≤ k) := fun k => by
    induction k with
    | zero => exact fun _ => ⟨fun x hx => (by cases hx), Nat.le_refl _⟩
    | succ k ih =>
      intro hk
      obtain ⟨h1, h2⟩ := ih (by omega)
      rw [HLS.out]
      cases q : Rg.alH m G k with
      | none => simp only [Option.toList_none, List.append_nil]; exact ⟨h1, by omega⟩
      | some r =>
        simp only [Option.toList_some]
        refine ⟨Rg.ok_app h1 (fun x hx => by rw [List.mem_singleton] at hx; rw [hx]; exact HO.out k (by omega) r q), ?_⟩
        rw [List.length_append, List.length_singleton]
        omega
  have HD0 : Hid (DkAt w T d lb rb cb (Rg.alM m 0)) := hd
  have HTP : Hid (∀ k, T k → k < w.heap.size) := hd.top
  have HKS : Hid (∀ k ∈ [d, lb, rb, cb], k < w.heap.size) := fun k hk => by
    simp only [List.mem_cons, List.not_mem_nil, or_false] at hk
    rcases hk with rfl | rfl | rfl | rfl
    · exact hd.top _ hd.lt.1
    · exact hd.top _ hd.lt.2.1
    · exact hd.top _ hd.lt.2.2.1
    · exact hd.top _ hd.lt.2.2.2
  rw [HAL.out]
  clear hGL hGB hget hrd hd HAL
  generalize Rg.alL m G = LL at *
  generalize Rg.alH m G = HH at *
  generalize Rg.alM m = MM at *
  obtain ⟨Z, hZ⟩ : ∃ Z, Hid ((cv Rg.zero).toArray = Z) := ⟨_, rfl⟩
  have HZS : Hid (Z.size = 136) := by show _ = _; rw [← hZ.out, List.size_toArray, cv_len Rg.ok_zero]
  have hz := (zero_of_info Try.zeroRec).1
  rw [hZ.out] at hz
  have hzn : ¬ Z = #[] := fun h => by have := HZS.out; rw [h] at this; simp at this
  have hsz := row_size Try.sizeRec HZS
  have HZA : Hid (RAr Rg.zero = Z) := hZ.out
  go_enter Try.func15, Try.ntmps15
  go_wp2
  go_loopw [5, 6] (fun v5 v6 wr => ∃ k : Nat, k ≤ 2 ∧ v6 = .int .i64 ((k : Int) + 1) ∧ Hid (RsO w.heap.size wr v5 (LL k)) ∧ Hid (DkAt wr T d lb rb cb (MM k)) ∧ Hid (Mv [d, lb, rb, cb] w wr)) (fun _ v6 _ => 4 - (intOf v6).toNat)
  case atStart => exact ⟨0, by omega, rfl, by rw [HL0.out]; exact rso_nil _ _, HD0.out, Mv.refl _ _⟩
  case round =>
    obtain ⟨k, hk, rfl, HO1, HD1, HM1⟩ := hrel
    by_cases hlt : k < 2
    · have hle : (k : Int) + 1 ≤ 2 := by omega
      have HK := Lib.hid (HC.out k hlt wr HD1.out HM1.out)
      have HLK := Lib.hid (HLS.out k)
      have HOK := Lib.hid (HO.out k hlt)
      have HL3 := Lib.hid (HL2.out k hk)
      cases hq : HH k with
      | none =>
        rw [hq] at HK HLK
        have HV : Hid (RVo none = .agg Z) := by show _ = _; unfold RVo; rw [← HZA.out, ← rv_eq]; rfl
        have HZ1 : Hid (Z.all (·.oneCell') = true) := by show _ = _; rw [← HZA.out]; exact rar_one _
        unfold HdSay at HK
        rw [HV.out] at HK
        clear HC HO HL2 HLS hq
        go_wp2_with (first
          | (go_at_call 41; refine HK.out.mono ?_; rintro e1 w1 ⟨rfl, HD2, HM2⟩)
          | ((with_reducible refine row_store _ _ _ _ _ _ _ ?_ ?_ (heap_alloc_new _ _) (row_size Try.sizeRec HZS) ?_ HZ1.out ?_); (exact rfl); (exact rfl); (exact rfl); intro w2 G2 ch2))
        have HB2 : Hid (Below w1.heap.size w1 w2) := ch2.below ((Below.refl _ w1).alloc (Nat.le_refl _) _) (Nat.le_refl _)
        exact ⟨⟨k + 1, by omega, by go_num, by rw [HLK.out]; simp only [Option.toList_none, List.append_nil]; exact (own_mv HO1.out HM2.out HKS.out |> fun h => own_keepX h HB2.out), HD2.out.old HB2.out, (HM1.out.trans HM2.out).trans (Mv.of_below HB2.out)⟩, by simp [intOf]; omega⟩
      | some r =>
        rw [hq] at HK HLK
        have HRO : Hid (Rg.Ok r) := HOK.out r hq
        have HV : Hid (RVo (some r) = .agg (RAr r)) := by show _ = _; unfold RVo; rw [← rv_eq]; rfl
        have HA1 : Hid ((RAr r).all (·.oneCell') = true) := rar_one _
        have HAI := Lib.hid (rc_info HRO.out)
        have HAS : Hid ((RAr r).size = 136) := rar_size HRO.out
        unfold HdSay at HK
        rw [HV.out] at HK
        clear HC HO HL2 HLS hq HOK
        obtain ⟨N, hN⟩ : ∃ N, (LL k).length = N := ⟨_, rfl⟩
        have HNL : Hid (N ≤ 100000) := by have := HL3.out.2; show _ ≤ _; omega
        have HNN := Lib.hid hN
        clear hN
        go_upto_region 7 with (first
          | (go_at_call 41; refine HK.out.mono ?_; rintro e1 w1 ⟨rfl, HD2, HM2⟩)
          | ((with_reducible refine row_store _ _ _ _ _ _ _ ?_ ?_ (heap_alloc_new _ _) (row_size Try.sizeRec HAS) ?_ HA1.out ?_); (exact rfl); (exact rfl); (rw [HAS.out, HZS.out]); intro w2 G2 ch2))
        have HB2 : Hid (Below w1.heap.size w1 w2) := ch2.below ((Below.refl _ w1).alloc (Nat.le_refl _) _) (Nat.le_refl _)
        have HO2 : Hid (RsO w.heap.size w2 u5 (LL k)) := own_keepX (own_mv HO1.out HM2.out HKS.out) HB2.out
        have HW2 : Hid (w.heap.size ≤ w2.heap.size) := Nat.le_trans (Nat.le_trans HM1.out.size HM2.out.size) HB2.out.size
        go_wp2_with (first
          | ((with_reducible refine row_load _ _ _ _ _ _ _ ?_ G2.out Try.underlying40 ?_ HAI.out ?_); (exact rfl); (exact rfl))
          | ((with_reducible refine bs_one _ r HRO.out ?_ ?_); (exact rfl))
          | ((with_reducible refine app_rc _ _ w.heap.size _ (LL k) r ?_ ?_ HO2.out HL3.out.1 HRO.out N HNN.out HNL.out HW2.out ?_); (exact rfl); (exact rfl); intro q1 d1 w3 O3 K3 _))
        have HB3 : Hid (Below w.heap.size w2 w3) := K3
        exact ⟨⟨k + 1, by omega, by go_num, by rw [HLK.out]; simp only [Option.toList_some]; exact O3.out, (HD2.out.old HB2.out).below HB3.out HTP.out, mv_low ((HM1.out.trans HM2.out).trans (Mv.of_below HB2.out)) HB3.out⟩, by simp [intOf]; omega⟩
    · have E : k = 2 := by omega
      subst E
      have hge : ¬ ((2 : Nat) : Int) + 1 ≤ 2 := by omega
      clear hlt
      go_wp2
      go_ret
      exact ⟨_, rfl, HO1, (HL2.out 2 (by omega)).1, HD1, HM1⟩
end
end Go.Proofs.Ytpfghjnhoafcmaa

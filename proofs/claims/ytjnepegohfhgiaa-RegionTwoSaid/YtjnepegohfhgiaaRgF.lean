/-
  Contract: region.Write, whoever seals.
-/
import Derived.Test.YtjnepegohfhgiaaRgE
import Derived.Test.YtjnepegohfhgiaaSc3
import Derived.Test.YtjnepegohfhgiaaDk3
namespace Go.Proofs.Ytjnepegohfhgiaa
open Go.RowKit

namespace Rg
/-- What Write answers, and what the disk is then; X: what sector.Put answers. -/
def wE (m : Dk.M) (r : R) (X : Int × List Int) : Int := if may r then (if X.1 = 0 then Dk.wrE m (home r) X.2 else X.1) else 7
def wM (m : Dk.M) (r : R) (X : Int × List Int) : Dk.M := if may r then (if X.1 = 0 then Dk.wrM m (home r) X.2 else m) else m
theorem wE_no {m : Dk.M} {r : R} (X : Int × List Int) (h : may r = false) : wE m r X = 7 := by unfold wE; rw [h]; rfl
theorem wM_no {m : Dk.M} {r : R} (X : Int × List Int) (h : may r = false) : wM m r X = m := by unfold wM; rw [h]; rfl
theorem wE_er {m : Dk.M} {r : R} {X : Int × List Int} (h : may r = true) (hx : X.1 ≠ 0) : wE m r X = X.1 := by unfold wE; rw [if_pos h, if_neg hx]
theorem wM_er {m : Dk.M} {r : R} {X : Int × List Int} (h : may r = true) (hx : X.1 ≠ 0) : wM m r X = m := by unfold wM; rw [if_pos h, if_neg hx]
theorem wE_ok {m : Dk.M} {r : R} {X : Int × List Int} (h : may r = true) (hx : X.1 = 0) : wE m r X = Dk.wrE m (home r) X.2 := by unfold wE; rw [if_pos h, if_pos hx]
theorem wM_ok {m : Dk.M} {r : R} {X : Int × List Int} (h : may r = true) (hx : X.1 = 0) : wM m r X = Dk.wrM m (home r) X.2 := by unfold wM; rw [if_pos h, if_pos hx]
/-- The sector of a record. -/
def sec (r : R) (n : Int) : Sc.S := ⟨2, r.ep, n, home r, pt r⟩
theorem sec_len {r : R} (h : Ok r) (n : Int) : (sec r n).L.length = 192 := pt_len h
attribute [irreducible] wE wM
end Rg
/-- Behind a Write: the answer, the disk; which blocks have turned; what became of the crypt. -/
def WrSay (r : Rg.R) (X : Int × List Int) (T : Nat → Prop) (d lb rb cb : Nat) (m : Dk.M) (ks : List Nat) (C : World → World → Prop) (w : World) (e : Ending) (w' : World) : Prop :=
  e = .returned (.int .i64 (Rg.wE m r X)) ∧ Hid (DkAt w' (Own T w w') d lb rb cb (Rg.wM m r X)) ∧ Hid (Mv (d :: lb :: rb :: cb :: ks) w w') ∧ Hid (∃ y z, Below w.heap.size w y ∧ (if Rg.may r then C y z else z = y) ∧ Mv [d, lb, rb, cb] z w')
theorem ks4 {d lb rb cb : Nat} {ks : List Nat} : ∀ k ∈ [d, lb, rb, cb], k ∈ d :: lb :: rb :: cb :: ks := fun k hk => by
  simp only [List.mem_cons, List.not_mem_nil, or_false] at hk ⊢
  rcases hk with h | h | h | h <;> simp [h]
theorem ks5 {d lb rb cb : Nat} {ks : List Nat} : ∀ k ∈ ks, k ∈ d :: lb :: rb :: cb :: ks := fun k hk => by simp [hk]
theorem own_up {T : Nat → Prop} {w z y : World} (h : w.heap.size ≤ z.heap.size) : ∀ g, Own T z y g → Own T w y g := fun g hg => by
  rcases hg with h1 | h1
  · exact Or.inl h1
  · exact Or.inr ⟨Nat.le_trans h h1.1, h1.2⟩
set_option maxHeartbeats 2000000 in
set_option maxRecDepth 100000 in
theorem write_gen (TT : TypeId) (vv : Value) (r : Rg.R) (h : Rg.Ok r) (num : Int) (X : Int × List Int) (ks : List Nat) (C : World → World → Prop) {T : Nat → Prop} {d lb rb cb : Nat} {m : Dk.M} (w : World) (hd : DkAt w T d lb rb cb m) (hks : ∀ k ∈ ks, ¬ T k)
    (hX : X.2.length ≤ 1000000) (hwr : m.wr ≤ 1000000000)
    (hput : Rg.may r = true → ∀ y p c, Below w.heap.size w y → Bs y p c (Rg.pt r) → Calls Try.prog 60 #[.iface TT vv, SV 2 r.ep num (Rg.home r) p 192 c] y (LPut X y (fun z => C y z ∧ Mv ks y z))) :
    Calls Try.prog 26 #[.pointer (some ⟨d, 0, none⟩), .iface TT vv, RV r, .int .i64 num] w (WrSay r X T d lb rb cb m ks C w) := by
  obtain ⟨A, SU, RT, B1, B2, eA, hk⟩ := rck h
  have HH : Hid (∀ y, Calls Try.prog 59 #[.agg A] y fun e w' => e = .returned (.int .i64 (Rg.home r)) ∧ Below y.heap.size y w') := fun y => by rw [← eA]; exact home_any r h y
  obtain ⟨w0, hw0⟩ : ∃ x, x = w.alloc (.cells A 29) := ⟨_, rfl⟩
  have R0 : Hid (w0.heap[w.heap.size]? = some (.cells A 29 (0, 0))) := by rw [hw0]; exact heap_alloc_new w _
  have B0 : Hid (Below w.heap.size w w0) := by rw [hw0]; exact (Below.refl _ w).alloc (Nat.le_refl _) _
  have HR : Hid (∀ y, Below w0.heap.size w0 y → y.heap[w.heap.size]? = some (.cells A 29 (0, 0))) := fun y hy => (hy.block _ (lt_of_block R0.out)).trans R0.out
  have HE : Hid (∀ y, Below w0.heap.size w0 y → y.cell? ⟨w.heap.size, 2, none⟩ = some (.int .i64 r.ep)) := fun y hy => (hk.ints y w.heap.size _ (HR.out y hy)).2.2.1
  have HAS := Lib.hid hk.size
  have h1 := hk.one
  have HB : Hid (∀ y, Below w0.heap.size w0 y → Below w.heap.size w y) := fun y hy => B0.out.trans (hy.mono B0.out.size)
  have HD := Lib.hid hd
  have HKS := Lib.hid hks
  have RF : Hid (Below w0.heap.size w0 w0) := Below.refl _ _
  clear hd hks hk
  cases hm : Rg.may r with
  | false =>
    have HP : Hid (∀ y, Calls Try.prog 11 #[.agg A] y (GPutNo y)) := fun y => by rw [← eA]; exact gput_no r h hm y
    have HF : Hid (∀ y, Below w.heap.size w y → WrSay r X T d lb rb cb m ks C w (.returned (.int .i64 7)) y) := fun y hy => by
      refine ⟨by rw [Rg.wE_no X hm], ?_, Lib.hid (Mv.of_below hy), Lib.hid ⟨y, y, hy, ?_, Mv.refl _ _⟩⟩
      · show DkAt _ _ _ _ _ _ _
        rw [Rg.wM_no X hm]
        exact (HD.out.old hy).own
      · rw [hm]; rfl
    rw [eA]
    clear hput hm eA h HH HE
    go_enter Try.func26, Try.ntmps26
    go_upto_region 1 with (fail)
    change Code.wp _ _ _ _ (w.alloc (.cells A 29))
    rw [← hw0]
    clear hw0
    go_wp2_with (first
      | ((with_reducible refine row_load _ _ _ _ _ _ _ ?_ R0.out Try.underlying29 ?_ (row_size Try.sizeRec HAS) ?_); (exact rfl); (exact rfl))
      | (go_at_call 11; refine (HP.out _).mono ?_; rintro e1 w1 ⟨rfl, HB1⟩))
    go_ret
    exact HF.out _ (HB.out _ HB1.out)
  | true =>
    have HP : Hid (∀ y, Calls Try.prog 11 #[.agg A] y (GPutYes (Rg.pt r) y)) := fun y => by rw [← eA]; exact gput_yes r h hm y
    have HPUT := Lib.hid (hput hm)
    have HSP : Hid (∀ y z, Mv [] y z → ∀ p c L, Bs y p c L → True) := fun _ _ _ _ _ _ _ => trivial
    clear hput HSP
    obtain ⟨x1, L⟩ := X
    dsimp only at hX HPUT
    by_cases hx : x1 = 0
    · subst hx
      have HF : Hid (∀ y z e w', Below w.heap.size w y → C y z → Mv ks y z → WSay T d lb rb cb (.int .i64 (Dk.wrE m (Rg.home r) L)) (Dk.wrM m (Rg.home r) L) z e w' → WrSay r (0, L) T d lb rb cb m ks C w e w') := fun y z e w' hy hc hz ⟨h1, h2, h3⟩ => by
        have hz2 : w.heap.size ≤ z.heap.size := Nat.le_trans hy.size hz.size
        refine ⟨by rw [h1, Rg.wE_ok hm rfl], ?_, ?_, Lib.hid ⟨y, z, hy, by rw [if_pos hm]; exact hc, h3.out⟩⟩
        · show DkAt _ _ _ _ _ _ _
          rw [Rg.wM_ok hm rfl]
          exact h2.out.lift (own_up hz2) (fun g hg => hg.elim (fun q => h2.out.top g (Or.inl q)) (fun q => q.2))
        · exact ((Mv.of_below hy).trans (hz.more ks5)).trans (h3.out.more ks4)
      have HZ : Hid (∀ y z, Below w.heap.size w y → Mv ks y z → DkAt z T d lb rb cb m) := fun y z hy hz => (HD.out.old hy).mv hz HKS.out
      have HW : Hid (∀ z p n c, L.length = n → DkAt z T d lb rb cb m → Bs z p c L → Calls Try.prog 61 #[.pointer (some ⟨d, 0, none⟩), .int .i64 (Rg.home r), .slice p n c] z (WSay T d lb rb cb (.int .i64 (Dk.wrE m (Rg.home r) L)) (Dk.wrM m (Rg.home r) L) z)) := fun z p n c hn hz hb => write_any (Rg.home r) L p n c hn (by omega) hwr z hz hb
      rw [eA]
      clear hm eA h hX hwr
      generalize Rg.home r = hom at *
      generalize r.ep = ep at *
      go_enter Try.func26, Try.ntmps26
      go_upto_region 1 with (fail)
      change Code.wp _ _ _ _ (w.alloc (.cells A 29))
      rw [← hw0]
      clear hw0
      go_upto_region 4 with (first
        | ((with_reducible refine row_load _ _ _ _ _ _ _ ?_ R0.out Try.underlying29 ?_ (row_size Try.sizeRec HAS) ?_); (exact rfl); (exact rfl))
        | (go_at_call 11; refine (HP.out _).mono ?_; rintro e1 w1 ⟨p1, c1, rfl, HO1, HS1, HB1⟩))
      have R1 := Lib.hid (HR.out _ HB1.out)
      go_upto_region 5 with (first
        | ((with_reducible refine row_load _ _ _ _ _ _ _ ?_ R1.out Try.underlying29 ?_ (row_size Try.sizeRec HAS) ?_); (exact rfl); (exact rfl))
        | (go_at_call 59; refine (HH.out _).mono ?_; rintro e2 w2 ⟨rfl, hb2⟩))
      have HB2 : Hid (Below w0.heap.size w0 w2) := HB1.out.trans (hb2.mono HB1.out.size)
      have HS2 := Lib.hid (HS1.out.old hb2)
      have c2 := HE.out _ HB2.out
      clear hb2
      go_upto_region 8 with (go_at_call 60; refine (HPUT.out _ _ _ (HB.out _ HB2.out) HS2.out).mono ?_; rintro e3 w3 ⟨u3, m3, d3, rfl, hm3, HO3, HS3, hC3, hM3⟩)
      have HC3 := Lib.hid hC3
      have HM3 := Lib.hid hM3
      have HN3 := Lib.hid hm3
      clear hC3 hM3 hm3 c2
      go_wp2_with (go_at_call 61; refine (HW.out _ _ _ _ HN3.out (HZ.out _ _ (HB.out _ HB2.out) HM3.out) HS3.out).mono ?_; intro e4 w4 hw4; have HW4 := Lib.hid (HF.out _ _ _ _ (HB.out _ HB2.out) HC3.out HM3.out hw4); obtain ⟨rfl, _, _⟩ := hw4)
      go_ret
      exact HW4.out
    · have HF : Hid (∀ y z, Below w.heap.size w y → C y z → Mv ks y z → WrSay r (x1, L) T d lb rb cb m ks C w (.returned (.int .i64 x1)) z) := fun y z hy hc hz => by
        have hb : Mv (d :: lb :: rb :: cb :: ks) w z := (Mv.of_below hy).trans (hz.more ks5)
        refine ⟨by rw [Rg.wE_er hm hx], ?_, hb, Lib.hid ⟨y, z, hy, by rw [if_pos hm]; exact hc, Mv.refl _ _⟩⟩
        show DkAt _ _ _ _ _ _ _
        rw [Rg.wM_er hm hx]
        exact ((HD.out.old hy).mv hz HKS.out).own
      have hb0 : (x1 == 0) = false := by simpa using hx
      rw [eA]
      clear hm eA h hX hwr hx
      generalize Rg.home r = hom at *
      generalize r.ep = ep at *
      go_enter Try.func26, Try.ntmps26
      go_upto_region 1 with (fail)
      change Code.wp _ _ _ _ (w.alloc (.cells A 29))
      rw [← hw0]
      clear hw0
      go_upto_region 4 with (first
        | ((with_reducible refine row_load _ _ _ _ _ _ _ ?_ R0.out Try.underlying29 ?_ (row_size Try.sizeRec HAS) ?_); (exact rfl); (exact rfl))
        | (go_at_call 11; refine (HP.out _).mono ?_; rintro e1 w1 ⟨p1, c1, rfl, HO1, HS1, HB1⟩))
      have R1 := Lib.hid (HR.out _ HB1.out)
      go_upto_region 5 with (first
        | ((with_reducible refine row_load _ _ _ _ _ _ _ ?_ R1.out Try.underlying29 ?_ (row_size Try.sizeRec HAS) ?_); (exact rfl); (exact rfl))
        | (go_at_call 59; refine (HH.out _).mono ?_; rintro e2 w2 ⟨rfl, hb2⟩))
      have HB2 : Hid (Below w0.heap.size w0 w2) := HB1.out.trans (hb2.mono HB1.out.size)
      have HS2 := Lib.hid (HS1.out.old hb2)
      have c2 := HE.out _ HB2.out
      clear hb2
      go_wp2_with (go_at_call 60; refine (HPUT.out _ _ _ (HB.out _ HB2.out) HS2.out).mono ?_; rintro e3 w3 ⟨u3, m3, d3, rfl, hm3, HO3, HS3, hC3, hM3⟩; have HW4 := Lib.hid (HF.out _ _ (HB.out _ HB2.out) hC3 hM3); clear hC3 hM3)
      go_ret
      exact HW4.out
end Go.Proofs.Ytjnepegohfhgiaa

/-
  The law RegionPuts walked.
-/
import Derived.Test.YtjnepegohfhgiaaRgN
import Derived.Test.YtjnepegohfhgiaaRgQ
namespace Go.Proofs.Ytjnepegohfhgiaa
open Go.RowKit

/-- Put, whatever it answers: a row of its own and a number. -/
def PutG (R : List Int) (m : Nat) (r : Int) (w : World) (e : Ending) (w' : World) : Prop :=
  ∃ p c, e = .returned (.tuple #[.slice p m c, .int .i64 r]) ∧ Hid (w'.ownsRow w.heap.size 5 1 (.slice p m c) m (U8s R)) ∧ Hid (Bs w' p c R) ∧ Hid (Below w.heap.size w w')
theorem putg_yes {L : List Int} {w w' : World} {e : Ending} (h : GPutYes L w e w') : PutG L 192 0 w e w' := h
theorem putg_no {w w' : World} {e : Ending} (h : GPutNo w e w') : PutG [] 0 7 w e w' := ⟨none, 0, h.1, Lib.hid (by unfold U8s; exact World.ownsRow_nil _ _ _ _), Lib.hid (bs_none _), h.2⟩
theorem own_far {B n c : Nat} {p : Option Addr} {y : World} {R : List Int} (h : y.ownsRow B 5 1 (.slice p n c) n (U8s R)) : ∀ b o s, p = some ⟨b, o, s⟩ → B ≤ b := fun b o s e => by
  subst e
  obtain ⟨h1, h2⟩ := h
  rcases h2 with ⟨h3, _⟩ | ⟨g, cap, cur, h3, h4, _⟩
  · cases h3
  · cases h3; exact h4
set_option maxHeartbeats 2000000 in
set_option maxRecDepth 100000 in
theorem puts_core (A : Array Value) (R : List Int) (m : Nat) (r : Int) (hA : A.size = 136) (hR : R.length = m) (hm : m ≤ 1000) (w : World)
    (hput : ∀ y, Calls Try.prog 11 #[.agg A] y (PutG R m r y)) (href : ∀ y, Calls Try.prog 12 #[.agg A] y (PutG R m r y)) :
    Calls Try.prog 3 #[.agg A] w (YesSay w) := by
  have HWK : Hid (∀ y, Calls Try.prog 15 #[] y (YesSay y)) := fun y => works_any y
  have HC1 := Lib.hid hput
  have HC2 := Lib.hid hput
  have HC3 := Lib.hid href
  have HSA : Hid (∀ y q d q' d', BAt y q R → BAt y q' R → Calls Try.prog 13 #[.slice q m d, .slice q' m d'] y (YesSay y)) := fun y q d q' d' h1 h2 => same_any R q q' m m d d' hR hR y h1 h2 (by omega)
  have HM : Hid (m ≤ 1000000) := by show m ≤ 1000000; omega
  have hsz := row_size Try.sizeRec (Lib.hid hA)
  have R0 : Hid ((w.alloc (.cells A 29)).heap[w.heap.size]? = some (.cells A 29 (0, 0))) := heap_alloc_new w _
  have B0 : Hid (Below w.heap.size w (w.alloc (.cells A 29))) := (Below.refl _ w).alloc (Nat.le_refl _) _
  clear hput href hR hm hA
  go_enter Try.func3, Try.ntmps3
  go_upto_region 6 with (first
    | ((with_reducible refine row_load _ _ _ _ _ _ _ ?_ R0.out Try.underlying29 ?_ hsz ?_); (exact rfl); (exact rfl))
    | (go_at_call 11; refine (HC1.out _).mono ?_; rintro e1 w1 ⟨p1, c1, rfl, HO1, HS1, HB1⟩; clear HC1; have B1 := Lib.hid (B0.out.trans (HB1.out.mono B0.out.size)); have R1 := Lib.hid ((HB1.out.block _ (lt_of_block R0.out)).trans R0.out))
    | ((with_reducible refine row_load _ _ _ _ _ _ _ ?_ R1.out Try.underlying29 ?_ hsz ?_); (exact rfl); (exact rfl))
    | (go_at_call 11; refine (HC2.out _).mono ?_; rintro e2 w2 ⟨p2, c2, rfl, HO2, HS2, HB2⟩; clear HC2; have B2 := Lib.hid (B1.out.trans (HB2.out.mono B1.out.size)); have R2 := Lib.hid ((HB2.out.block _ (lt_of_block R1.out)).trans R1.out))
    | ((with_reducible refine row_load _ _ _ _ _ _ _ ?_ R2.out Try.underlying29 ?_ hsz ?_); (exact rfl); (exact rfl))
    | (go_at_call 12; refine (HC3.out _).mono ?_; rintro e3 w3 ⟨p3, c3, rfl, HO3, HS3, HB3⟩; clear HC3; have B3 := Lib.hid (B2.out.trans (HB3.out.mono B2.out.size)); have HB13 := Lib.hid (HB2.out.trans (HB3.out.mono HB2.out.size)))
    | (go_at_call 13; refine (HSA.out _ _ _ _ _ (HS1.out.old HB13.out).bat HS3.out.bat).mono ?_; rintro e4 w4 ⟨rfl, hb4⟩; have HB4 := Lib.hid hb4; clear hb4))
  have B4 : Hid (Below w.heap.size w w4) := B3.out.trans (HB4.out.mono B3.out.size)
  have HB14 : Hid (Below w1.heap.size w1 w4) := HB13.out.trans (HB4.out.mono HB13.out.size)
  have O14 := Lib.hid (own_keepX HO1.out HB14.out)
  have HB24 : Hid (Below w2.heap.size w2 w4) := HB3.out.trans (HB4.out.mono HB3.out.size)
  have S24 := Lib.hid (HS2.out.old HB24.out)
  have S34 := Lib.hid (HS3.out.old HB4.out)
  have HLO : Hid (∀ g, (Value.slice p1 m c1).ownBlock = some g → w.heap.size ≤ g ∧ g < w1.heap.size) := fun g hg => ⟨Nat.le_trans B0.out.size (World.ownsRow.lt HO1.out g hg).1, (World.ownsRow.lt HO1.out g hg).2⟩
  have HF2 : Hid (∀ b o s, p2 = some ⟨b, o, s⟩ → w1.heap.size ≤ b) := own_far HO2.out
  have HF3 : Hid (∀ b o s, p3 = some ⟨b, o, s⟩ → w1.heap.size ≤ b) := fun b o s h => Nat.le_trans HB2.out.size (own_far HO3.out b o s h)
  clear HO1 HO2 HO3 HS1 HS2 HS3 HB1 HB2 HB3 HB13 HB4 HB14 HB24 B0 B1 B2 B3 R0 R1 R2
  go_wp2_with (first
    | (go_at_call 14; refine (spoil_own O14.out HM.out).mono ?_; rintro e5 w5 ⟨rfl, hs⟩; have HSP := Lib.hid hs; clear hs; have S25 : Hid (BAt w5 p2 R) := HSP.out.bat S24.out.bat (fun _ g hg b o s h => by have h1 := (HLO.out g hg).2; have h2 := HF2.out b o s h; omega); have S35 : Hid (BAt w5 p3 R) := HSP.out.bat S34.out.bat (fun _ g hg b o s h => by have h1 := (HLO.out g hg).2; have h2 := HF3.out b o s h; omega); have B5 : Hid (Below w.heap.size w w5) := HSP.out.below B4.out B4.out.size (fun g hg => (HLO.out g hg).1))
    | (go_at_call 13; refine (HSA.out _ _ _ _ _ S25.out S35.out).mono ?_; rintro e6 w6 ⟨rfl, hb6⟩; have B6 := Lib.hid (B5.out.trans (hb6.mono B5.out.size)); clear hb6)
    | (go_at_call 15; refine (HWK.out _).mono ?_; rintro e7 w7 ⟨rfl, hb7⟩; have B7 := Lib.hid (B6.out.trans (hb7.mono B6.out.size)); clear hb7))
  go_ret
  exact ⟨rfl, B7.out⟩
theorem puts_any (x : Rg.R) (h : Rg.Ok x) (w : World) : Calls Try.prog 3 #[RV x] w (YesSay w) := by
  rw [rv_eq]
  by_cases hm : Rg.may x = true
  · exact puts_core _ (Rg.pt x) 192 0 (rar_size h) (Rg.pt_len h) (by omega) w (fun y => by rw [← rv_eq]; exact (gput_yes x h hm y).mono fun _ _ q => putg_yes q) (fun y => by rw [← rv_eq]; exact (fput_yes x h hm y).mono fun _ _ q => putg_yes q)
  · have hm : Rg.may x = false := by simpa using hm
    exact puts_core _ [] 0 7 (rar_size h) rfl (by omega) w (fun y => by rw [← rv_eq]; exact (gput_no x h hm y).mono fun _ _ q => putg_no q) (fun y => by rw [← rv_eq]; exact (fput_no x h hm y).mono fun _ _ q => putg_no q)
end Go.Proofs.Ytjnepegohfhgiaa

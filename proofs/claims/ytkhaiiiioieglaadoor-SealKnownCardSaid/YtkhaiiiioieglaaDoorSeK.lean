/-
  The law SealBack walked.
-/
import Derived.Test.YtkhaiiiioieglaaDoorSeJ
namespace Go.Proofs.YtkhaiiiioieglaaDoor
open Go.RowKit

/-- An epoch, a number and a head in memory. -/
def WAt (x : World) (b : Nat) (e n : Int) (ph : Option Addr) (nh ch : Nat) : Prop := x.heap[b]? = some (.cells #[.int .i64 e, .int .i64 n, .slice ph nh ch] 24 (0, 0))
theorem WAt.old {x y : World} {b nh ch : Nat} {e n : Int} {ph : Option Addr} (h : WAt x b e n ph nh ch) (hb : Below x.heap.size x y) : WAt y b e n ph nh ch := (hb.block _ (lt_of_block h)).trans h
theorem WAt.c0 {x : World} {b nh ch : Nat} {e n : Int} {ph : Option Addr} (h : WAt x b e n ph nh ch) : x.cell? ⟨b, 0, none⟩ = some (.int .i64 e) := by rw [cell_of_row x b 0 _ _ _ h]; rfl
theorem WAt.c1 {x : World} {b nh ch : Nat} {e n : Int} {ph : Option Addr} (h : WAt x b e n ph nh ch) : x.cell? ⟨b, 1, none⟩ = some (.int .i64 n) := by rw [cell_of_row x b 1 _ _ _ h]; rfl
theorem WAt.c2 {x : World} {b nh ch : Nat} {e n : Int} {ph : Option Addr} (h : WAt x b e n ph nh ch) : x.cell? ⟨b, 2, none⟩ = some (.slice ph nh ch) := by rw [cell_of_row x b 2 _ _ _ h]; rfl
def wobj (e n : Int) (ph : Option Addr) (nh ch : Nat) : Obj := .cells #[.int .i64 e, .int .i64 n, .slice ph nh ch] 24
theorem what_new (w : World) (e n : Int) (ph : Option Addr) (nh ch : Nat) : WAt (w.alloc (wobj e n ph nh ch)) w.heap.size e n ph nh ch := heap_alloc_new w _

set_option maxHeartbeats 2000000 in
set_option maxRecDepth 100000 in
theorem back_long (hT : TakeSaid) (e n : Int) (p0 ph p1 : Option Addr) (n0 nh n1 c0 ch c1 : Nat) (h : 4096 < n0 ∨ 4096 < nh ∨ 4096 < n1) (w : World) (ht : Tab w 1) :
    Calls Tryd.prog 4 #[.slice p0 n0 c0, .agg #[.int .i64 e, .int .i64 n, .slice ph nh ch], .slice p1 n1 c1] w (YesSay w) := by
  have B0 : Hid (Below w.heap.size w (w.alloc (wobj e n ph nh ch))) := (Below.refl _ w).alloc (Nat.le_refl _) _
  have HK : Hid (Calls Tryd.prog 8 #[] (w.alloc (wobj e n ph nh ch)) (YesSay (w.alloc (wobj e n ph nh ch)))) := known_any hT _ (ht.below B0.out ht.lt)
  clear ht hT
  by_cases h1 : (4096 : Int) < (n0 : Int)
  · go_enter Tryd.func4, Tryd.ntmps4
    go_wp2_with (go_at_call 8; refine HK.out.mono ?_; rintro e1 w1 ⟨rfl, hb1⟩)
    go_ret
    exact ⟨rfl, B0.out.trans (hb1.mono B0.out.size)⟩
  · by_cases h2 : (4096 : Int) < (nh : Int)
    · go_enter Tryd.func4, Tryd.ntmps4
      go_wp2_with (go_at_call 8; refine HK.out.mono ?_; rintro e1 w1 ⟨rfl, hb1⟩)
      go_ret
      exact ⟨rfl, B0.out.trans (hb1.mono B0.out.size)⟩
    · have h3 : (4096 : Int) < (n1 : Int) := by omega
      go_enter Tryd.func4, Tryd.ntmps4
      go_wp2_with (go_at_call 8; refine HK.out.mono ?_; rintro e1 w1 ⟨rfl, hb1⟩)
      go_ret
      exact ⟨rfl, B0.out.trans (hb1.mono B0.out.size)⟩

set_option maxHeartbeats 2000000 in
set_option maxRecDepth 100000 in
theorem back_short (hT : TakeSaid) (K h L : List Int) (e n : Int) (p0 ph p1 : Option Addr) (n0 nh n1 c0 ch c1 : Nat) (hK : K.length = n0) (hh : h.length = nh) (hL : L.length = n1) (l0 : n0 ≤ 4096) (lh : nh ≤ 4096) (l1 : n1 ≤ 4096)
    (w : World) (hb0 : Bs w p0 c0 K) (hbh : Bs w ph ch h) (hb1 : Bs w p1 c1 L) (ht : Tab w 1) :
    Calls Tryd.prog 4 #[.slice p0 n0 c0, .agg #[.int .i64 e, .int .i64 n, .slice ph nh ch], .slice p1 n1 c1] w (YesSay w) := by
  have HT := Lib.hid hT; clear hT
  have Ht := Lib.hid ht; clear ht
  have H0 := Lib.hid hb0; clear hb0
  have HH := Lib.hid hbh; clear hbh
  have H1 := Lib.hid hb1; clear hb1
  have HLN := Lib.hid (And.intro hK (And.intro hh hL)); clear hK hh hL
  have B0 : Hid (Below w.heap.size w (w.alloc (wobj e n ph nh ch))) := (Below.refl _ w).alloc (Nat.le_refl _) _
  have HW0 : Hid (WAt (w.alloc (wobj e n ph nh ch)) w.heap.size e n ph nh ch) := what_new _ _ _ _ _ _
  have HKN : Hid (∀ x, Below w.heap.size w x → Calls Tryd.prog 8 #[] x (YesSay x)) := fun x hx => known_any HT.out x (Ht.out.below hx Ht.out.lt)
  have l0' : ¬ ((4096 : Int) < (n0 : Int)) := by omega
  have lh' : ¬ ((4096 : Int) < (nh : Int)) := by omega
  have l1' : ¬ ((4096 : Int) < (n1 : Int)) := by omega
  cases hin : (inR e && inR n) with
  | false =>
    have hbad : e < 0 ∨ 1099511627776 < e ∨ n < 0 ∨ 1099511627776 < n := by
      unfold inR at hin
      simp only [Bool.and_eq_false_iff, decide_eq_false_iff_not] at hin
      omega
    have HIN := Lib.hid hin; clear hin
    have HBAD := Lib.hid hbad; clear hbad
    go_enter Tryd.func4, Tryd.ntmps4
    go_wp2_with (first
      | (go_at_call 10; refine (newbox_any HT.out K p0 n0 c0 HLN.out.1 (by omega) _ (H0.out.old B0.out) (Ht.out.below B0.out Ht.out.lt)).mono ?_; rintro e1 w1 ⟨g, rfl, HG1, hb1⟩; have B1 : Hid (Below w.heap.size w w1) := B0.out.trans (hb1.mono B0.out.size); have HW1 := Lib.hid (HW0.out.old hb1); have q0 := HW1.out.c0; have q1 := HW1.out.c1; have q2 := HW1.out.c2; clear hb1)
      | (go_at_call 14; refine (seal_none g e n _ _ HIN.out _).mono ?_; rintro e2 w2 ⟨rfl, rfl⟩)
      | (go_at_call 15; refine (open_any HT.out K h [] g e n ph none nh 0 ch 0 HLN.out.2.1 rfl _ HG1.out (HH.out.old B1.out) (bs_none _) (by omega) (Ht.out.below B1.out Ht.out.lt)).mono ?_; rw [Seal.op_bad HIN.out]; rintro e3 w3 ⟨p3, c3, m3, rfl, hm3, _, HS3, hb3⟩; obtain rfl : m3 = 0 := hm3.symm; have B3 : Hid (Below w.heap.size w w3) := B1.out.trans (hb3.mono B1.out.size); have HW3 := Lib.hid (HW1.out.old hb3); have s0 := HW3.out.c0; have s1 := HW3.out.c1; have s2 := HW3.out.c2; clear hb3; rcases HBAD.out with hbd | hbd | hbd | hbd)
      | (go_at_call 8; refine (HKN.out _ B3.out).mono ?_; rintro e5 w5 ⟨rfl, hb5⟩; have B5 : Hid (Below w.heap.size w w5) := B3.out.trans (hb5.mono B3.out.size); clear hb5))
    all_goals (go_ret; exact ⟨rfl, B5.out⟩)
  | true =>
    have hin2 := hin
    simp only [Bool.and_eq_true] at hin2
    obtain ⟨he, hn⟩ := hin2
    have he2 : 0 ≤ e ∧ e ≤ 1099511627776 := by unfold inR at he; simpa using he
    have hn2 : 0 ≤ n ∧ n ≤ 1099511627776 := by unfold inR at hn; simpa using hn
    have HE := Lib.hid he; clear he
    have HN := Lib.hid hn; clear hn
    clear hin
    go_enter Tryd.func4, Tryd.ntmps4
    go_wp2_with (first
      | (go_at_call 10; refine (newbox_any HT.out K p0 n0 c0 HLN.out.1 (by omega) _ (H0.out.old B0.out) (Ht.out.below B0.out Ht.out.lt)).mono ?_; rintro e1 w1 ⟨g, rfl, HG1, hb1⟩; have B1 : Hid (Below w.heap.size w w1) := B0.out.trans (hb1.mono B0.out.size); have HW1 := Lib.hid (HW0.out.old hb1); have q0 := HW1.out.c0; have q1 := HW1.out.c1; have q2 := HW1.out.c2; clear hb1)
      | (go_at_call 14; refine (seal_any HT.out K h L g e n ph p1 nh n1 ch c1 HLN.out.2.1 HLN.out.2.2 _ HG1.out (HH.out.old B1.out) (H1.out.old B1.out) (by omega) (Ht.out.below B1.out Ht.out.lt)).mono ?_; rintro e2 w2 ⟨p2, c2, m2, rfl, hm2, _, HS2, hb2⟩; obtain rfl : m2 = n1 + 32 := (by rw [← hm2, Seal.sl_len HE.out HN.out, HLN.out.2.2]); have B2 : Hid (Below w.heap.size w w2) := B1.out.trans (hb2.mono B1.out.size); have HG2 : Hid (BoxAt w2 g K) := HG1.out.old hb2; have HW2 := Lib.hid (HW1.out.old hb2); have r0 := HW2.out.c0; have r1 := HW2.out.c1; have r2 := HW2.out.c2; clear hb2)
      | (go_at_call 15; refine (open_any HT.out K h (Seal.sl K e n h L) g e n ph p2 nh (n1 + 32) ch c2 HLN.out.2.1 hm2 _ HG2.out (HH.out.old B2.out) HS2.out (by omega) (Ht.out.below B2.out Ht.out.lt)).mono ?_; rw [Seal.op_sl HE.out HN.out _ _ _ H1.out.byt]; rintro e3 w3 ⟨p3, c3, m3, rfl, hm3, _, HS3, hb3⟩; obtain rfl : m3 = n1 := hm3.symm.trans HLN.out.2.2; have B3 : Hid (Below w.heap.size w w3) := B2.out.trans (hb3.mono B2.out.size); have HW3 := Lib.hid (HW2.out.old hb3); have s0 := HW3.out.c0; have s1 := HW3.out.c1; have s2 := HW3.out.c2; clear hb3)
      | (go_at_call 17; refine (same_any L p3 p1 m3 m3 c3 c1 HLN.out.2.2 HLN.out.2.2 _ HS3.out.bat (H1.out.old B3.out).bat (by have := HLN.out.2.2; omega)).mono ?_; rintro e4 w4 ⟨rfl, hb4⟩; have B4 : Hid (Below w.heap.size w w4) := B3.out.trans (hb4.mono B3.out.size); clear hb4)
      | (go_at_call 8; refine (HKN.out _ B4.out).mono ?_; rintro e5 w5 ⟨rfl, hb5⟩; have B5 : Hid (Below w.heap.size w w5) := B4.out.trans (hb5.mono B4.out.size); clear hb5))
    all_goals (go_ret; exact ⟨rfl, B5.out⟩)
/-- SealBack is true. -/
theorem back_any (K h L : List Int) (e n : Int) (p0 ph p1 : Option Addr) (c0 ch c1 : Nat) (w : World) (hb0 : Bs w p0 c0 K) (hbh : Bs w ph ch h) (hb1 : Bs w p1 c1 L) (ht : Tab w 1) :
    Calls Tryd.prog 4 #[.slice p0 K.length c0, .agg #[.int .i64 e, .int .i64 n, .slice ph h.length ch], .slice p1 L.length c1] w (YesSay w) := by
  by_cases hl : 4096 < K.length ∨ 4096 < h.length ∨ 4096 < L.length
  · exact back_long take_any e n p0 ph p1 _ _ _ c0 ch c1 hl w ht
  · exact back_short take_any K h L e n p0 ph p1 _ _ _ c0 ch c1 rfl rfl rfl (by omega) (by omega) (by omega) w hb0 hbh hb1 ht
end Go.Proofs.YtkhaiiiioieglaaDoor

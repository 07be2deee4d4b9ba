/-
  The law SealOnly walked.
-/
import Derived.Test.YtkhaiiiioieglaaDoorSeK
namespace Go.Proofs.YtkhaiiiioieglaaDoor
open Go.RowKit

set_option maxHeartbeats 2000000 in
set_option maxRecDepth 100000 in
theorem only_long (hT : TakeSaid) (e n : Int) (p0 ph p1 : Option Addr) (n0 nh n1 c0 ch c1 : Nat) (h : 4096 < n0 ∨ 4096 < nh ∨ 4096 < n1) (w : World) (ht : Tab w 1) :
    Calls Tryd.prog 5 #[.slice p0 n0 c0, .agg #[.int .i64 e, .int .i64 n, .slice ph nh ch], .slice p1 n1 c1] w (YesSay w) := by
  have B0 : Hid (Below w.heap.size w (w.alloc (wobj e n ph nh ch))) := (Below.refl _ w).alloc (Nat.le_refl _) _
  have HK : Hid (Calls Tryd.prog 8 #[] (w.alloc (wobj e n ph nh ch)) (YesSay (w.alloc (wobj e n ph nh ch)))) := known_any hT _ (ht.below B0.out ht.lt)
  clear ht hT
  by_cases h1 : (4096 : Int) < (n0 : Int)
  · go_enter Tryd.func5, Tryd.ntmps5
    go_wp2_with (go_at_call 8; refine HK.out.mono ?_; rintro e1 w1 ⟨rfl, hb1⟩)
    go_ret
    exact ⟨rfl, B0.out.trans (hb1.mono B0.out.size)⟩
  · by_cases h2 : (4096 : Int) < (nh : Int)
    · go_enter Tryd.func5, Tryd.ntmps5
      go_wp2_with (go_at_call 8; refine HK.out.mono ?_; rintro e1 w1 ⟨rfl, hb1⟩)
      go_ret
      exact ⟨rfl, B0.out.trans (hb1.mono B0.out.size)⟩
    · have h3 : (4096 : Int) < (n1 : Int) := by omega
      go_enter Tryd.func5, Tryd.ntmps5
      go_wp2_with (go_at_call 8; refine HK.out.mono ?_; rintro e1 w1 ⟨rfl, hb1⟩)
      go_ret
      exact ⟨rfl, B0.out.trans (hb1.mono B0.out.size)⟩

set_option maxHeartbeats 1000000 in
set_option maxRecDepth 100000 in
theorem only_short (hT : TakeSaid) (K h L : List Int) (e n : Int) (p0 ph p1 : Option Addr) (n0 nh n1 c0 ch c1 : Nat) (hK : K.length = n0) (hh : h.length = nh) (hL : L.length = n1) (l0 : n0 ≤ 4096) (lh : nh ≤ 4096) (l1 : n1 ≤ 4096)
    (w : World) (hb0 : Bs w p0 c0 K) (hbh : Bs w ph ch h) (hb1 : Bs w p1 c1 L) (ht : Tab w 1) :
    Calls Tryd.prog 5 #[.slice p0 n0 c0, .agg #[.int .i64 e, .int .i64 n, .slice ph nh ch], .slice p1 n1 c1] w (YesSay w) := by
  have HT := Lib.hid hT; clear hT
  have Ht := Lib.hid ht; clear ht
  have H0 := Lib.hid hb0; clear hb0
  have HH := Lib.hid hbh; clear hbh
  have H1 := Lib.hid hb1; clear hb1
  have HLN := Lib.hid (And.intro hK (And.intro hh hL)); clear hK hh hL
  have B0 : Hid (Below w.heap.size w (w.alloc (wobj e n ph nh ch))) := (Below.refl _ w).alloc (Nat.le_refl _) _
  have HW0 : Hid (WAt (w.alloc (wobj e n ph nh ch)) w.heap.size e n ph nh ch) := what_new _ _ _ _ _ _
  have HKN : Hid (∀ x, Below w.heap.size w x → Calls Tryd.prog 8 #[] x (YesSay x)) := fun x hx => known_any HT.out x (Ht.out.below hx Ht.out.lt)
  have l0' : ¬ ((4096 : Int) < (n0 : Int)) := by omega
  have lh' : ¬ ((4096 : Int) < (nh : Int)) := by omega
  have l1' : ¬ ((4096 : Int) < (n1 : Int)) := by omega
  have HNEW : Hid (Calls Tryd.prog 10 #[.slice p0 n0 c0] (w.alloc (wobj e n ph nh ch)) (NewBox K (w.alloc (wobj e n ph nh ch)))) := newbox_any HT.out K p0 n0 c0 HLN.out.1 (by omega) _ (H0.out.old B0.out) (Ht.out.below B0.out Ht.out.lt)
  have HOPEN : Hid (∀ g x, Below w.heap.size w x → BoxAt x g K → Calls Tryd.prog 15 #[.pointer (some ⟨g, 0, none⟩), .int .i64 e, .int .i64 n, .slice ph nh ch, .slice p1 n1 c1] x (OpenSay (Seal.op K e n h L) x)) := fun g x hx hg =>
    open_any HT.out K h L g e n ph p1 nh n1 ch c1 HLN.out.2.1 HLN.out.2.2 x hg (HH.out.old hx) (H1.out.old hx) (by omega) (Ht.out.below hx Ht.out.lt)
  cases hop : Seal.op K e n h L with
  | none =>
    rw [hop] at HOPEN
    clear hop
    go_enter Tryd.func5, Tryd.ntmps5
    go_wp2_with (first
      | (go_at_call 10; refine HNEW.out.mono ?_; rintro e1 w1 ⟨g, rfl, HG1, hb1⟩; have B1 : Hid (Below w.heap.size w w1) := B0.out.trans (hb1.mono B0.out.size); have HW1 := Lib.hid (HW0.out.old hb1); have q0 := HW1.out.c0; have q1 := HW1.out.c1; have q2 := HW1.out.c2; clear hb1 HNEW)
      | (go_at_call 15; refine (HOPEN.out _ _ B1.out HG1.out).mono ?_; rintro e3 w3 ⟨p3, c3, m3, rfl, hm3, _, HS3, hb3⟩; obtain rfl : m3 = 0 := hm3.symm; have B3 : Hid (Below w.heap.size w w3) := B1.out.trans (hb3.mono B1.out.size); clear hb3)
      | (go_at_call 8; refine (HKN.out _ B3.out).mono ?_; rintro e5 w5 ⟨rfl, hb5⟩; have B5 : Hid (Below w.heap.size w w5) := B3.out.trans (hb5.mono B3.out.size); clear hb5))
    go_ret
    exact ⟨rfl, B5.out⟩
  | some p =>
    obtain ⟨hsl, hpl⟩ := Seal.sl_op H1.out.byt hop
    rw [hop] at HOPEN
    clear hop
    have HSL := Lib.hid hsl; clear hsl
    rw [HLN.out.2.2] at hpl
    obtain ⟨m, hm⟩ : ∃ m, p.length = m := ⟨_, rfl⟩
    have HN1 : Hid (n1 = m + 32) := by show _ = _; omega
    have HPM := Lib.hid hm; clear hm hpl
    have HSEAL : Hid (∀ g x q cq, Below w.heap.size w x → BoxAt x g K → Bs x q cq p → Calls Tryd.prog 14 #[.pointer (some ⟨g, 0, none⟩), .int .i64 e, .int .i64 n, .slice ph nh ch, .slice q m cq] x (OwnSay L x)) := fun g x q cq hx hg hq => by
      rw [← HSL.out]
      exact seal_any HT.out K h p g e n ph q nh m ch cq HLN.out.2.1 HPM.out x hg (HH.out.old hx) hq (by have := HN1.out; omega) (Ht.out.below hx Ht.out.lt)
    go_enter Tryd.func5, Tryd.ntmps5
    go_wp2_with (first
      | (go_at_call 10; refine HNEW.out.mono ?_; rintro e1 w1 ⟨g, rfl, HG1, hb1⟩; have B1 : Hid (Below w.heap.size w w1) := B0.out.trans (hb1.mono B0.out.size); have HW1 := Lib.hid (HW0.out.old hb1); have q0 := HW1.out.c0; have q1 := HW1.out.c1; have q2 := HW1.out.c2; clear hb1 HNEW)
      | (go_at_call 15; refine (HOPEN.out _ _ B1.out HG1.out).mono ?_; rintro e3 w3 ⟨p3, c3, m3, rfl, hm3, _, HS3, hb3⟩; obtain rfl : m3 = m := hm3.symm.trans HPM.out; have B3 : Hid (Below w.heap.size w w3) := B1.out.trans (hb3.mono B1.out.size); have HG3 : Hid (BoxAt w3 g K) := HG1.out.old hb3; have HW3 := Lib.hid (HW1.out.old hb3); have s0 := HW3.out.c0; have s1 := HW3.out.c1; have s2 := HW3.out.c2; have hwq : wrap64 ((m3 : Int) + 32) = (n1 : Int) := (by have := HN1.out; unfold wrap64; omega); clear hb3)
      | (go_at_call 14; refine (HSEAL.out _ _ _ _ B3.out HG3.out HS3.out).mono ?_; rintro e4 w4 ⟨p4, c4, m4, rfl, hm4, _, HS4, hb4⟩; obtain rfl : m4 = n1 := hm4.symm.trans HLN.out.2.2; have B4 : Hid (Below w.heap.size w w4) := B3.out.trans (hb4.mono B3.out.size); clear hb4)
      | (go_at_call 17; refine (same_any L p4 p1 _ _ c4 c1 HLN.out.2.2 HLN.out.2.2 _ HS4.out.bat (H1.out.old B4.out).bat (by have := HLN.out.2.2; omega)).mono ?_; rintro e6 w6 ⟨rfl, hb6⟩; have B6 : Hid (Below w.heap.size w w6) := B4.out.trans (hb6.mono B4.out.size); clear hb6)
      | (go_at_call 8; refine (HKN.out _ B6.out).mono ?_; rintro e5 w5 ⟨rfl, hb5⟩; have B5 : Hid (Below w.heap.size w w5) := B6.out.trans (hb5.mono B6.out.size); clear hb5))
    go_ret
    exact ⟨rfl, B5.out⟩

/-- SealOnly is true. -/
theorem only_any (K h L : List Int) (e n : Int) (p0 ph p1 : Option Addr) (c0 ch c1 : Nat) (w : World) (hb0 : Bs w p0 c0 K) (hbh : Bs w ph ch h) (hb1 : Bs w p1 c1 L) (ht : Tab w 1) :
    Calls Tryd.prog 5 #[.slice p0 K.length c0, .agg #[.int .i64 e, .int .i64 n, .slice ph h.length ch], .slice p1 L.length c1] w (YesSay w) := by
  by_cases hl : 4096 < K.length ∨ 4096 < h.length ∨ 4096 < L.length
  · exact only_long take_any e n p0 ph p1 _ _ _ c0 ch c1 hl w ht
  · exact only_short take_any K h L e n p0 ph p1 _ _ _ c0 ch c1 rfl rfl rfl (by omega) (by omega) (by omega) w hb0 hbh hb1 ht
end Go.Proofs.YtkhaiiiioieglaaDoor

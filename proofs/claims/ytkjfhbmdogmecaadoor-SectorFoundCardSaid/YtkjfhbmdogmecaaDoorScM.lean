/-
  What names make of sectors, in plain lists; the law SectorUnlike walked.
-/
import Derived.Test.YtkjfhbmdogmecaaDoorScL
namespace Go.Proofs.YtkjfhbmdogmecaaDoor
open Go.RowKit

namespace Sc
/-- A sector's bytes, where T is remembered. -/
def bys (T : Nm.St) (s : S) : List Int := fr s.k s.e s.n ++ (s.L ++ Nm.tg 0 (Nm.place (four s) T.ss))
theorem bys_len (T : Nm.St) (s : S) : (bys T s).length = 49 + s.L.length := by
  unfold bys
  rw [List.length_append, fr_len, List.length_append, Nm.tg_len]
  omega
theorem put_bys (T : Nm.St) {s : S} (h : ers s = 0) : pt (nsl T) s = (0, bys (nd T s) s) := by
  rw [pt_ok h, nsl_eq h]
  unfold bys
  rw [nd_ss h, Nm.num_place]
theorem place_nd (T : Nm.St) (t : S) {s : S} (h : Nm.place (four s) T.ss ≠ 0) : Nm.place (four s) (nd T t).ss = Nm.place (four s) T.ss := by
  by_cases h0 : ers t = 0
  · rw [nd_ss h0]; exact Nm.place_put h
  · rw [nd_no h0]
theorem bys_nd (T : Nm.St) (t : S) {s : S} (h : Nm.place (four s) T.ss ≠ 0) : bys (nd T t) s = bys T s := by unfold bys; rw [place_nd T t h]
theorem place_self (T : Nm.St) {s : S} (h : ers s = 0) : Nm.place (four s) (nd T s).ss ≠ 0 := by rw [nd_ss h]; exact Nm.put_self
theorem nd_le (T : Nm.St) (s : S) : (nd T s).ss.length ≤ T.ss.length + 1 := by
  by_cases h0 : ers s = 0
  · rw [nd_ss h0]; exact Nm.put_len
  · rw [nd_no h0]; omega
theorem four_inj {s t : S} (hs : ers s = 0) (ht : ers t = 0) (h : four s = four t) : s = t := by
  obtain ⟨k, e, n, a, L⟩ := s
  obtain ⟨k', e', n', a', L'⟩ := t
  unfold four at h
  simp only [Prod.mk.injEq] at h
  obtain ⟨rfl, rfl, h3, rfl⟩ := h
  obtain ⟨rfl, rfl⟩ := mk_inj (a64 hs) (a64 ht) h3
  rfl
theorem bys_inj {T : Nm.St} {s t : S} (hs : ers s = 0) (ht : ers t = 0) (hp : Nm.place (four s) T.ss ≠ 0) (hl : T.ss.length ≤ 100000) (h : bys T s = bys T t) : s = t := by
  have h4 := inP_iff.1 (ers_parts hs).2.1
  have h5 := inP_iff.1 (ers_parts ht).2.1
  have hlen : s.L.length = t.L.length := by have := congrArg List.length h; rw [bys_len, bys_len] at this; omega
  unfold bys at h
  obtain ⟨h1, h2⟩ := List.append_inj h (by rw [fr_len, fr_len])
  obtain ⟨h6, h7⟩ := List.append_inj h2 hlen
  have hpl := Nm.tg_inj 0 _ _ (by have := Nm.place_le (x := four s) (l := T.ss); omega) (by have := Nm.place_le (x := four t) (l := T.ss); omega) h7
  exact four_inj hs ht (Nm.place_inj (by omega) hp)
theorem unlike (s t : S) (hs : ers s = 0) (ht : ers t = 0) : (pt (nsl Nm.St.none) s).2 = (pt (nsl (nd Nm.St.none s)) t).2 ↔ s = t := by
  have p1 := place_self Nm.St.none hs
  rw [put_bys _ hs, put_bys _ ht, ← bys_nd _ t p1]
  have hl : (nd (nd Nm.St.none s) t).ss.length ≤ 100000 := by have h1 := nd_le (nd Nm.St.none s) t; have h2 := nd_le Nm.St.none s; have h3 : Nm.St.none.ss.length = 0 := rfl; omega
  constructor
  · intro h
    exact bys_inj hs ht (by rw [place_nd _ _ p1]; exact p1) hl h
  · rintro rfl
    rfl
end Sc

set_option maxHeartbeats 4000000 in
set_option maxRecDepth 100000 in
theorem unlike_any (hT : TakeSaid) (s t : Sc.S) (p q : Option Addr) (m n c d : Nat) (hm : s.L.length = m) (hn : t.L.length = n) (w : World) (hp : Bs w p c s.L) (hq : Bs w q d t.L) (ht : Tab w 0) :
    Calls Tryd.prog 7 #[Sv s p m c, Sv t q n d] w (YesSay w) := by
  have Ht := Lib.hid ht; clear ht
  have B0 : Hid (Below w.heap.size w ((w.alloc (SO s.k s.e s.n s.a p m c)).alloc (SO t.k t.e t.n t.a q n d))) := ((Below.refl _ w).alloc (Nat.le_refl _) _).alloc (by simp) _
  have HA : Hid (∀ y, Below ((w.alloc (SO s.k s.e s.n s.a p m c)).alloc (SO t.k t.e t.n t.a q n d)).heap.size ((w.alloc (SO s.k s.e s.n s.a p m c)).alloc (SO t.k t.e t.n t.a q n d)) y → SAt y w.heap.size s.k s.e s.n s.a p m c ∧ SAt y (w.heap.size + 1) t.k t.e t.n t.a q n d) := fun y hy => by
    have h := SAt.new (w.alloc (SO s.k s.e s.n s.a p m c)) t.k t.e t.n t.a q n d
    rw [show (w.alloc (SO s.k s.e s.n s.a p m c)).heap.size = w.heap.size + 1 by simp] at h
    exact ⟨((SAt.new w s.k s.e s.n s.a p m c).old ((Below.refl _ _).alloc (Nat.le_refl _) _)).old hy, h.old hy⟩
  have HKN : Hid (∀ x, Below w.heap.size w x → Calls Tryd.prog 8 #[] x (YesSay x)) := fun x hx => known_any hT x (Ht.out.below hx Ht.out.lt)
  have HNW : Hid (∀ x, Calls Tryd.prog 10 #[] x (NewNam x)) := newnam_any
  obtain ⟨w0, hw0⟩ : ∃ x, x = (w.alloc (SO s.k s.e s.n s.a p m c)).alloc (SO t.k t.e t.n t.a q n d) := ⟨_, rfl⟩
  rw [← hw0] at B0 HA
  obtain ⟨x0, x1, x2, x3, x4⟩ := (HA.out _ (Below.refl _ _)).1.all
  obtain ⟨y0, y1, y2, y3, y4⟩ := (HA.out _ (Below.refl _ _)).2.all
  by_cases hl0 : (m : Int) > 4096
  · go_enter Tryd.func7, Tryd.ntmps7
    go_upto_region 1 with (fail)
    change Code.wp _ _ _ _ ((w.alloc (SO s.k s.e s.n s.a p m c)).alloc (SO t.k t.e t.n t.a q n d))
    rw [← hw0]
    clear hw0
    go_wp2_with (go_at_call 8; refine (HKN.out _ B0.out).mono ?_; rintro e1 w1 ⟨rfl, hb1⟩)
    go_ret
    exact ⟨rfl, B0.out.trans (hb1.mono B0.out.size)⟩
  by_cases hl1 : (n : Int) > 4096
  · go_enter Tryd.func7, Tryd.ntmps7
    go_upto_region 1 with (fail)
    change Code.wp _ _ _ _ ((w.alloc (SO s.k s.e s.n s.a p m c)).alloc (SO t.k t.e t.n t.a q n d))
    rw [← hw0]
    clear hw0
    go_wp2_with (go_at_call 8; refine (HKN.out _ B0.out).mono ?_; rintro e1 w1 ⟨rfl, hb1⟩)
    go_ret
    exact ⟨rfl, B0.out.trans (hb1.mono B0.out.size)⟩
  have hm4 : m ≤ 4096 := by omega
  have hn4 : n ≤ 4096 := by omega
  obtain ⟨X, hX⟩ : ∃ X, X = Sc.pt (Sc.nsl Nm.St.none) s := ⟨_, rfl⟩
  obtain ⟨T1, hT1⟩ : ∃ T, T = Sc.nd Nm.St.none s := ⟨_, rfl⟩
  obtain ⟨Y, hY⟩ : ∃ X, X = Sc.pt (Sc.nsl T1) t := ⟨_, rfl⟩
  obtain ⟨T2, hT2⟩ : ∃ T, T = Sc.nd T1 t := ⟨_, rfl⟩
  have hl2 : T1.ss.length ≤ 100000 := by have h2 := Sc.nd_le Nm.St.none s; have h3 : Nm.St.none.ss.length = 0 := rfl; rw [hT1]; omega
  have hX1 : X.1 = Sc.ers s := by rw [hX, Sc.pt_fst]
  have hY1 : Y.1 = Sc.ers t := by rw [hY, Sc.pt_fst]
  have hXl : X.1 = 0 → X.2.length = 49 + m := fun h => by rw [hX, Sc.nam_put_len _ (hX1.symm.trans h), hm]
  have hYl : Y.1 = 0 → Y.2.length = 49 + n := fun h => by rw [hY, Sc.nam_put_len _ (hY1.symm.trans h), hn]
  have HXY : Hid (X.1 = 0 → Y.1 = 0 → (X.2 = Y.2 ↔ s = t)) := fun h1 h2 => by rw [hX, hY, hT1]; exact Sc.unlike s t (hX1.symm.trans h1) (hY1.symm.trans h2)
  have HPA : Hid (∀ x g b cc, Below w.heap.size w x → StAt x g b cc Nm.St.none → Calls Tryd.prog 11 #[.iface 28 (.pointer (some ⟨g, 0, none⟩)), Sv s p m c] x (LPut X x (fun z => StAt z g b cc T1 ∧ Only b x z))) := fun x g b cc hx hg => by
    rw [hX, hT1]
    exact nput_any Nm.St.none g b cc s p m c hm x hg (hp.old hx) (by decide)
  have HPB : Hid (∀ x g b cc, Below w.heap.size w x → StAt x g b cc T1 → Calls Tryd.prog 11 #[.iface 28 (.pointer (some ⟨g, 0, none⟩)), Sv t q n d] x (LPut Y x (fun z => StAt z g b cc T2 ∧ Only b x z))) := fun x g b cc hx hg => by
    rw [hY, hT2]
    exact nput_any T1 g b cc t q n d hn x hg (hq.old hx) hl2
  have HSS : Hid (∀ x, Below w.heap.size w x → Calls Tryd.prog 14 #[Sv s p m c, Sv t q n d] x fun r x' => r = .returned (.bool (decide (s = t))) ∧ Below x.heap.size x x') := fun x hx =>
    samesec_any s t p q m n c d hm hn x (hp.old hx) (hq.old hx) (by omega)
  have HXL := Lib.hid hXl; clear hXl
  have HYL := Lib.hid hYl; clear hYl
  clear hX hY hT1 hT2 hX1 hY1 hT hp hq hm hn
  have HPA := Lib.hid HPA
  have HPB := Lib.hid HPB
  have HSS := Lib.hid HSS
  obtain ⟨xe, XL⟩ := X
  obtain ⟨ye, YL⟩ := Y
  simp only at HXL HYL HXY
  by_cases hx : xe = 0
  · by_cases hy : ye = 0
    · have HEQ : decide (XL = YL) = decide (s = t) := decide_eq_decide.2 (HXY.out hx hy)
      have HXM : Hid (XL.length ≤ 10000) := by show _ ≤ _; have := HXL.out hx; omega
      have HSB : Hid (∀ x p q c d m n, Bs x p c XL → Bs x q d YL → XL.length = m → YL.length = n → Calls Tryd.prog 16 #[.slice p m c, .slice q n d] x fun r x' => r = .returned (.bool (decide (XL = YL))) ∧ Below x.heap.size x x') := fun x p q c d m n h1 h2 h3 h4 => same_all XL YL p q m n c d h3 h4 x h1.bat h2.bat (by have := HXM.out; omega)
      rw [HEQ] at HSB
      clear HEQ HXY HXL HYL
      subst hx
      subst hy
      generalize decide (s = t) = EQ at *
      go_enter Tryd.func7, Tryd.ntmps7
      go_upto_region 1 with (fail)
      change Code.wp _ _ _ _ ((w.alloc (SO s.k s.e s.n s.a p m c)).alloc (SO t.k t.e t.n t.a q n d))
      rw [← hw0]
      clear hw0
      go_upto_region 5 with (first
        | (go_at_call 10; refine (HNW.out _).mono ?_; rintro e1 w1 ⟨g, b, cc, rfl, L1, St1, B1⟩; obtain ⟨x0, x1, x2, x3, x4⟩ := (HA.out _ B1.out).1.all)
        | (go_at_call 11; refine (HPA.out _ g b cc (B0.out.trans (B1.out.mono B0.out.size)) St1.out).mono ?_; rintro e2 w2 ⟨u2, m2, d2, rfl, hl2, O2, H2, F2⟩))
      have B2 : Hid (Below w0.heap.size w0 w2) := F2.2.below B1.out L1.out.2.1 B1.out.size
      have FF2 := Lib.hid F2; clear F2
      have BB : Hid (b < w1.heap.size) := St1.out.lt.2.1
      obtain ⟨y0, y1, y2, y3, y4⟩ := (HA.out _ B2.out).2.all
      clear x0 x1 x2 x3 x4
      go_upto_region 8 with (go_at_call 11; refine (HPB.out _ g b cc (B0.out.trans (B2.out.mono B0.out.size)) FF2.out.1).mono ?_; rintro e3 w3 ⟨u3, m3, d3, rfl, hl3, O3, H3, F3⟩)
      have B3 : Hid (Below w0.heap.size w0 w3) := F3.2.below B2.out L1.out.2.1 B2.out.size
      have H23 : Hid (Bs w3 u2 d2 XL) := bs_own_only H2.out O2.out F3.2 BB.out
      clear y0 y1 y2 y3 y4 O2 H2 F3 O3 FF2 HPA HPB HNW
      have B3d : Hid (Below w0.heap.size w0 w3.drew) := B3.out.drew
      have W3d : Hid (Below w3.heap.size w3 w3.drew) := (Below.refl _ w3).drew
      have hl2 := Lib.hid hl2
      have hl3 := Lib.hid hl3
      have HKC : Hid (∀ y, Below w0.heap.size w0 y → (y.cell? ⟨w.heap.size, 0, none⟩ = some (.int .i64 s.k) ∧ y.cell? ⟨w.heap.size, 1, none⟩ = some (.int .i64 s.e) ∧ y.cell? ⟨w.heap.size, 2, none⟩ = some (.int .i64 s.n) ∧ y.cell? ⟨w.heap.size, 3, none⟩ = some (.int .i64 s.a) ∧ y.cell? ⟨w.heap.size, 4, none⟩ = some (.slice p m c)) ∧ (y.cell? ⟨w.heap.size + 1, 0, none⟩ = some (.int .i64 t.k) ∧ y.cell? ⟨w.heap.size + 1, 1, none⟩ = some (.int .i64 t.e) ∧ y.cell? ⟨w.heap.size + 1, 2, none⟩ = some (.int .i64 t.n) ∧ y.cell? ⟨w.heap.size + 1, 3, none⟩ = some (.int .i64 t.a) ∧ y.cell? ⟨w.heap.size + 1, 4, none⟩ = some (.slice q n d))) := fun y hy => ⟨(HA.out y hy).1.all, (HA.out y hy).2.all⟩
      cases EQ
      all_goals
        go_region_held3 (fun y => (y.cell? ⟨w.heap.size, 0, none⟩ = some (.int .i64 s.k) ∧ y.cell? ⟨w.heap.size, 1, none⟩ = some (.int .i64 s.e) ∧ y.cell? ⟨w.heap.size, 2, none⟩ = some (.int .i64 s.n) ∧ y.cell? ⟨w.heap.size, 3, none⟩ = some (.int .i64 s.a) ∧ y.cell? ⟨w.heap.size, 4, none⟩ = some (.slice p m c)) ∧ (y.cell? ⟨w.heap.size + 1, 0, none⟩ = some (.int .i64 t.k) ∧ y.cell? ⟨w.heap.size + 1, 1, none⟩ = some (.int .i64 t.e) ∧ y.cell? ⟨w.heap.size + 1, 2, none⟩ = some (.int .i64 t.n) ∧ y.cell? ⟨w.heap.size + 1, 3, none⟩ = some (.int .i64 t.a) ∧ y.cell? ⟨w.heap.size + 1, 4, none⟩ = some (.slice q n d)))
          (exact HKC.out _ (Hid.out (by assumption)))
          ((first
            | (go_at_call 16; refine (HSB.out _ _ _ _ _ m2 m3 (H23.out.old W3d.out) (H3.out.old W3d.out) hl2.out hl3.out).mono ?_; rintro e4 w4 ⟨rfl, b4⟩; have B4 : Hid (Below w0.heap.size w0 w4) := B3d.out.trans (b4.mono B3d.out.size))
            | (go_at_call 14; refine (HSS.out _ (B0.out.trans (B4.out.mono B0.out.size))).mono ?_; rintro e5 w5 ⟨rfl, b5⟩; have B5 : Hid (Below w0.heap.size w0 w5) := B4.out.trans (b5.mono B4.out.size))
            | (go_at_call 8; refine (HKN.out _ (B0.out.trans (B5.out.mono B0.out.size))).mono ?_; rintro e6 w6 ⟨rfl, b6⟩; have B6 : Hid (Below w0.heap.size w0 w6) := B5.out.trans (b6.mono B5.out.size))))
        all_goals (go_wp2; go_ret; exact ⟨rfl, B0.out.trans (B6.out.mono B0.out.size)⟩)
    · have hy' : (ye == 0) = false := by simpa using hy
      subst hx
      clear HXY HXL HYL HSS hy
      go_enter Tryd.func7, Tryd.ntmps7
      go_upto_region 1 with (fail)
      change Code.wp _ _ _ _ ((w.alloc (SO s.k s.e s.n s.a p m c)).alloc (SO t.k t.e t.n t.a q n d))
      rw [← hw0]
      clear hw0
      go_upto_region 5 with (first
        | (go_at_call 10; refine (HNW.out _).mono ?_; rintro e1 w1 ⟨g, b, cc, rfl, L1, St1, B1⟩; obtain ⟨x0, x1, x2, x3, x4⟩ := (HA.out _ B1.out).1.all)
        | (go_at_call 11; refine (HPA.out _ g b cc (B0.out.trans (B1.out.mono B0.out.size)) St1.out).mono ?_; rintro e2 w2 ⟨u2, m2, d2, rfl, hl2, O2, H2, F2⟩))
      have B2 : Hid (Below w0.heap.size w0 w2) := F2.2.below B1.out L1.out.2.1 B1.out.size
      have FF2 := Lib.hid F2; clear F2
      have BB : Hid (b < w1.heap.size) := St1.out.lt.2.1
      obtain ⟨y0, y1, y2, y3, y4⟩ := (HA.out _ B2.out).2.all
      clear x0 x1 x2 x3 x4
      go_wp2_with (first
        | (go_at_call 11; refine (HPB.out _ g b cc (B0.out.trans (B2.out.mono B0.out.size)) FF2.out.1).mono ?_; rintro e3 w3 ⟨u3, m3, d3, rfl, hl3, O3, H3, F3⟩; have B3 : Hid (Below w0.heap.size w0 w3) := F3.2.below B2.out L1.out.2.1 B2.out.size; clear F3)
        | (go_at_call 8; refine (HKN.out _ (B0.out.trans (B3.out.mono B0.out.size))).mono ?_; rintro e6 w6 ⟨rfl, b6⟩; have B6 : Hid (Below w0.heap.size w0 w6) := B3.out.trans (b6.mono B3.out.size)))
      go_ret
      exact ⟨rfl, B0.out.trans (B6.out.mono B0.out.size)⟩
  · have hx' : (xe == 0) = false := by simpa using hx
    clear HXY HXL HYL HSS hx
    go_enter Tryd.func7, Tryd.ntmps7
    go_upto_region 1 with (fail)
    change Code.wp _ _ _ _ ((w.alloc (SO s.k s.e s.n s.a p m c)).alloc (SO t.k t.e t.n t.a q n d))
    rw [← hw0]
    clear hw0
    go_upto_region 5 with (first
      | (go_at_call 10; refine (HNW.out _).mono ?_; rintro e1 w1 ⟨g, b, cc, rfl, L1, St1, B1⟩; obtain ⟨x0, x1, x2, x3, x4⟩ := (HA.out _ B1.out).1.all)
      | (go_at_call 11; refine (HPA.out _ g b cc (B0.out.trans (B1.out.mono B0.out.size)) St1.out).mono ?_; rintro e2 w2 ⟨u2, m2, d2, rfl, hl2, O2, H2, F2⟩))
    have B2 : Hid (Below w0.heap.size w0 w2) := F2.2.below B1.out L1.out.2.1 B1.out.size
    have FF2 := Lib.hid F2; clear F2
    have BB : Hid (b < w1.heap.size) := St1.out.lt.2.1
    obtain ⟨y0, y1, y2, y3, y4⟩ := (HA.out _ B2.out).2.all
    clear x0 x1 x2 x3 x4
    go_wp2_with (first
      | (go_at_call 11; refine (HPB.out _ g b cc (B0.out.trans (B2.out.mono B0.out.size)) FF2.out.1).mono ?_; rintro e3 w3 ⟨u3, m3, d3, rfl, hl3, O3, H3, F3⟩; have B3 : Hid (Below w0.heap.size w0 w3) := F3.2.below B2.out L1.out.2.1 B2.out.size; clear F3)
      | (go_at_call 8; refine (HKN.out _ (B0.out.trans (B3.out.mono B0.out.size))).mono ?_; rintro e6 w6 ⟨rfl, b6⟩; have B6 : Hid (Below w0.heap.size w0 w6) := B3.out.trans (b6.mono B3.out.size)))
    go_ret
    exact ⟨rfl, B0.out.trans (B6.out.mono B0.out.size)⟩
end Go.Proofs.YtkjfhbmdogmecaaDoor

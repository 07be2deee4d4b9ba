/-
  Contract: the reference's Put.
-/
import Derived.Test.YtjnepegohfhgiaaRgM
namespace Go.Proofs.Ytjnepegohfhgiaa
open Go.RowKit

set_option maxHeartbeats 1000000 in
set_option maxRecDepth 100000 in
theorem fput_no (r : Rg.R) (h : Rg.Ok r) (hn : Rg.may r = false) (w : World) : Calls Try.prog 12 #[RV r] w (GPutNo w) := by
  obtain ⟨A, SU, RT, B1, B2, eA, hk⟩ := rck h
  have HC0 : Hid (∀ y, Calls Try.prog 42 #[.agg A] y (BoSay false y)) := fun y => by
    have := fmay_any r h y
    rw [hn, eA] at this
    exact this
  rw [eA]
  have HAS := Lib.hid hk.size
  have h1 := hk.one
  have R0 : Hid ((w.alloc (.cells A 29)).heap[w.heap.size]? = some (.cells A 29 (0, 0))) := heap_alloc_new w _
  have B0 : Hid (Below w.heap.size w (w.alloc (.cells A 29))) := (Below.refl _ w).alloc (Nat.le_refl _) _
  clear hk h eA hn
  go_enter Try.func12, Try.ntmps12
  go_wp2_with (first
      | ((with_reducible refine row_load _ _ _ _ _ _ _ ?_ R0.out Try.underlying29 ?_ (row_size Try.sizeRec HAS) ?_); (exact rfl); (exact rfl))
      | (go_at_call 42; refine (HC0.out _).mono ?_; rintro e1 w1 ⟨rfl, HB1⟩; have B1 := Lib.hid (B0.out.trans (HB1.out.mono B0.out.size))))
  go_ret2
  exact ⟨rfl, B1.out⟩
namespace Rg
/-- The four numbers that are put in a loop. -/
def four (r : R) (k : Nat) : Int := [r.bs, r.bl, r.ts, r.tl].getD k 0
end Rg
set_option maxHeartbeats 4000000 in
set_option maxRecDepth 100000 in
theorem fput_yes (r : Rg.R) (h : Rg.Ok r) (hn : Rg.may r = true) (w : World) : Calls Try.prog 12 #[RV r] w (GPutYes (Rg.pt r) w) := by
  obtain ⟨A, SU, RT, B1, B2, eA, hk⟩ := rck h
  have HC0 : Hid (∀ y, Calls Try.prog 42 #[.agg A] y (BoSay true y)) := fun y => by
    have := fmay_any r h y
    rw [hn, eA] at this
    exact this
  have H0 : Hid (∀ y, Calls Try.prog 43 #[.slice none 0 0, .int .i64 r.gen] y (RowOf (Rg.ptk r 1) 8 y)) := fun y => by
    have := refint_any [] r.gen none 0 0 8 rfl rfl (by omega) y (bs_none y)
    rw [Rg.st0] at this
    exact this
  have H1 : Hid (∀ y q d, Bs y q d (Rg.ptk r 1) → Calls Try.prog 43 #[.slice q 8 d, .int .i64 r.st] y (RowOf (Rg.ptk r 2) 16 y)) := fun y q d hy => by
    have := refint_any (Rg.ptk r 1) r.st q 8 d 16 (Rg.pl1 h) rfl (by omega) y hy
    rw [Rg.st1] at this
    exact this
  have H2 : Hid (∀ y q d, Bs y q d (Rg.ptk r 2) → Calls Try.prog 43 #[.slice q 16 d, .int .i64 r.ep] y (RowOf (Rg.ptk r 3) 24 y)) := fun y q d hy => by
    have := refint_any (Rg.ptk r 2) r.ep q 16 d 24 (Rg.pl2 h) rfl (by omega) y hy
    rw [Rg.st2] at this
    exact this
  have H3 : Hid (∀ y q d, Bs y q d (Rg.ptk r 3) → Calls Try.prog 44 #[.slice q 24 d, .agg SU] y (RowOf (Rg.ptk r 4) 56 y)) := fun y q d hy => by
    have := refsum_any (Rg.ptk r 3) r.su h.su.1 h.su.2 q 24 d 56 (Rg.pl3 h) rfl (by omega) y hy
    rw [Rg.st3, hk.vals.1] at this
    exact this
  have H4 : Hid (∀ y q d, Bs y q d (Rg.ptk r 4) → Calls Try.prog 45 #[.slice q 56 d, .agg RT] y (RowOf (Rg.ptk r 5) 96 y)) := fun y q d hy => by
    have := refref_any (Rg.ptk r 4) r.rt h.rt.2.1 h.rt.2.2 q 56 d 96 (Rg.pl4 h) rfl (by omega) y hy
    rw [Rg.st4, hk.vals.2.1] at this
    exact this
  have H5 : Hid (∀ y q d, Bs y q d (Rg.ptk r 5) → Calls Try.prog 43 #[.slice q 96 d, .int .i64 r.bs] y (RowOf (Rg.ptk r 6) 104 y)) := fun y q d hy => by
    have := refint_any (Rg.ptk r 5) r.bs q 96 d 104 (Rg.pl5 h) rfl (by omega) y hy
    rw [Rg.st5] at this
    exact this
  have H6 : Hid (∀ y q d, Bs y q d (Rg.ptk r 6) → Calls Try.prog 43 #[.slice q 104 d, .int .i64 r.bl] y (RowOf (Rg.ptk r 7) 112 y)) := fun y q d hy => by
    have := refint_any (Rg.ptk r 6) r.bl q 104 d 112 (Rg.pl6 h) rfl (by omega) y hy
    rw [Rg.st6] at this
    exact this
  have H7 : Hid (∀ y q d, Bs y q d (Rg.ptk r 7) → Calls Try.prog 43 #[.slice q 112 d, .int .i64 r.ts] y (RowOf (Rg.ptk r 8) 120 y)) := fun y q d hy => by
    have := refint_any (Rg.ptk r 7) r.ts q 112 d 120 (Rg.pl7 h) rfl (by omega) y hy
    rw [Rg.st7] at this
    exact this
  have H8 : Hid (∀ y q d, Bs y q d (Rg.ptk r 8) → Calls Try.prog 43 #[.slice q 120 d, .int .i64 r.tl] y (RowOf (Rg.ptk r 9) 128 y)) := fun y q d hy => by
    have := refint_any (Rg.ptk r 8) r.tl q 120 d 128 (Rg.pl8 h) rfl (by omega) y hy
    rw [Rg.st8] at this
    exact this
  have H9 : Hid (∀ y q d, Bs y q d (Rg.ptk r 9) → Calls Try.prog 44 #[.slice q 128 d, .agg B1] y (RowOf (Rg.ptk r 10) 160 y)) := fun y q d hy => by
    have := refsum_any (Rg.ptk r 9) r.b1 h.b1.1 h.b1.2 q 128 d 160 (Rg.pl9 h) rfl (by omega) y hy
    rw [Rg.st9, hk.vals.2.2.1] at this
    exact this
  have H10 : Hid (∀ y q d, Bs y q d (Rg.ptk r 10) → Calls Try.prog 44 #[.slice q 160 d, .agg B2] y (RowOf (Rg.ptk r 11) 192 y)) := fun y q d hy => by
    have := refsum_any (Rg.ptk r 10) r.b2 h.b2.1 h.b2.2 q 160 d 192 (Rg.pl10 h) rfl (by omega) y hy
    rw [Rg.st10, hk.vals.2.2.2] at this
    exact this
  have HF : Hid (∀ k, k < 4 → ∀ y q d, Bs y q d (Rg.ptk r (5 + k)) → Calls Try.prog 43 #[.slice q (96 + 8 * k) d, .int .i64 (Rg.four r k)] y (RowOf (Rg.ptk r (5 + (k + 1))) (96 + 8 * (k + 1)) y)) := fun k hk => by
    match k, hk with
    | 0, _ => exact H5.out
    | 1, _ => exact H6.out
    | 2, _ => exact H7.out
    | 3, _ => exact H8.out
  have HFC : Hid (∀ (y : World) (g k : Nat), k < 4 → y.heap[g]? = some (.cells #[.int .i64 r.bs, .int .i64 r.bl, .int .i64 r.ts, .int .i64 r.tl] 3 (0, 0)) → y.cell? ⟨g, k, none⟩ = some (.int .i64 (Rg.four r k))) := fun y g k hk hg => by
    rw [cell_of_row y g k _ _ _ hg]
    match k, hk with
    | 0, _ => rfl
    | 1, _ => rfl
    | 2, _ => rfl
    | 3, _ => rfl
  rw [eA]
  have HAS := Lib.hid hk.size
  have HX := Lib.hid hk.ints
  have HXR := Lib.hid hk.rngs
  have HSSU := Lib.hid hk.sizes.1
  have HSRT := Lib.hid hk.sizes.2.1
  have HSB1 := Lib.hid hk.sizes.2.2.1
  have HSB2 := Lib.hid hk.sizes.2.2.2
  have HEND : Hid (∀ e w', GPutYes (Rg.ptk r 11) w e w' → GPutYes (Rg.pt r) w e w') := fun e w' q => by rw [← Rg.st11]; exact q
  have h1 := hk.one
  have R0 : Hid ((w.alloc (.cells A 29)).heap[w.heap.size]? = some (.cells A 29 (0, 0))) := heap_alloc_new w _
  have B0 : Hid (Below w.heap.size w (w.alloc (.cells A 29))) := (Below.refl _ w).alloc (Nat.le_refl _) _
  clear hk h eA hn H5 H6 H7 H8
  refine Calls.mono ?_ (fun e w' q => HEND.out e w' q)
  go_enter Try.func12, Try.ntmps12
  go_upto_region 3 with (first
      | ((with_reducible refine row_load _ _ _ _ _ _ _ ?_ R0.out Try.underlying29 ?_ (row_size Try.sizeRec HAS) ?_); (exact rfl); (exact rfl))
      | (go_at_call 42; refine (HC0.out _).mono ?_; rintro e1 w1 ⟨rfl, HB1⟩))
  have Bw1 : Hid (Below w.heap.size w w1) := B0.out.trans (HB1.out.mono B0.out.size)
  have Gw1 : Hid (w1.heap[w.heap.size]? = some (.cells A 29 (0, 0))) := (HB1.out.block _ (lt_of_block R0.out)).trans R0.out
  clear HB1 R0 B0 HC0
  obtain ⟨c0, _, _, _, _, _, _, _⟩ := HX.out _ _ _ Gw1.out
  go_upto_region 8 with (first
      | (go_at_call 45; have TT := HBw5.out; refine (H4.out _ _ _ HBw5.out).mono ?_; rintro e6 w6 ⟨p6, c6', rfl, HO6, HBw6, HL6⟩; have Bw6 : Hid (Below w.heap.size w w6) := Bw5.out.trans (HL6.out.mono Bw5.out.size); have Gw6 : Hid (w6.heap[w.heap.size]? = some (.cells A 29 (0, 0))) := (HL6.out.block _ (lt_of_block Gw5.out)).trans Gw5.out; skip)
      | ((with_reducible refine rng_load _ _ w.heap.size 35 RT _ ?_ (HXR.out _ _ _ Gw5.out).2.1 Try.underlying25 ?_ (row_size Try.sizeRef HSRT) ?_); (first | exact rfl | go_simp); (exact rfl))
      | (go_at_call 44; have TT := HBw4.out; refine (H3.out _ _ _ HBw4.out).mono ?_; rintro e5 w5 ⟨p5, c5', rfl, HO5, HBw5, HL5⟩; have Bw5 : Hid (Below w.heap.size w w5) := Bw4.out.trans (HL5.out.mono Bw4.out.size); have Gw5 : Hid (w5.heap[w.heap.size]? = some (.cells A 29 (0, 0))) := (HL5.out.block _ (lt_of_block Gw4.out)).trans Gw4.out; skip)
      | ((with_reducible refine rng_load _ _ w.heap.size 3 SU _ ?_ (HXR.out _ _ _ Gw4.out).1 Try.underlying23 ?_ (row_size Try.sizeSum HSSU) ?_); (first | exact rfl | go_simp); (exact rfl))
      | (go_at_call 43; have TT := HBw3.out; refine (H2.out _ _ _ HBw3.out).mono ?_; rintro e4 w4 ⟨p4, c4', rfl, HO4, HBw4, HL4⟩; have Bw4 : Hid (Below w.heap.size w w4) := Bw3.out.trans (HL4.out.mono Bw3.out.size); have Gw4 : Hid (w4.heap[w.heap.size]? = some (.cells A 29 (0, 0))) := (HL4.out.block _ (lt_of_block Gw3.out)).trans Gw3.out; skip)
      | (go_at_call 43; have TT := HBw2.out; refine (H1.out _ _ _ HBw2.out).mono ?_; rintro e3 w3 ⟨p3, c3', rfl, HO3, HBw3, HL3⟩; have Bw3 : Hid (Below w.heap.size w w3) := Bw2.out.trans (HL3.out.mono Bw2.out.size); have Gw3 : Hid (w3.heap[w.heap.size]? = some (.cells A 29 (0, 0))) := (HL3.out.block _ (lt_of_block Gw2.out)).trans Gw2.out; obtain ⟨_, _, c2, _, _, _, _, _⟩ := HX.out _ _ _ Gw3.out)
      | (go_at_call 43; refine (H0.out _).mono ?_; rintro e2 w2 ⟨p2, c2', rfl, HO2, HBw2, HL2⟩; have Bw2 : Hid (Below w.heap.size w w2) := Bw1.out.trans (HL2.out.mono Bw1.out.size); have Gw2 : Hid (w2.heap[w.heap.size]? = some (.cells A 29 (0, 0))) := (HL2.out.block _ (lt_of_block Gw1.out)).trans Gw1.out; obtain ⟨_, c1, _, _, _, _, _, _⟩ := HX.out _ _ _ Gw2.out))
  have OW6 := Lib.hid (own_base HO6.out Bw5.out.size)
  obtain ⟨_, _, _, _, c68, c69, c70, c71⟩ := HX.out _ _ _ Gw6.out
  clear H0 H1 H2 H3 H4 Bw1 Bw2 Bw3 Bw4 Bw5 Gw1 Gw2 Gw3 Gw4 Gw5 HBw2 HBw3 HBw4 HBw5 HO2 HO3 HO4 HO5 HO6 HL2 HL3 HL4 HL5 HL6 c0 c1 c2
  go_upto_region 9 with (fail)
  obtain ⟨w7, hw7⟩ : ∃ y, y = w6.alloc (.cells #[.int .i64 r.bs, .int .i64 r.bl, .int .i64 r.ts, .int .i64 r.tl] 3) := ⟨_, rfl⟩
  have BE : Below w6.heap.size w6 (w6.alloc (.cells #[.int .i64 r.bs, .int .i64 r.bl, .int .i64 r.ts, .int .i64 r.tl] 3)) := (Below.refl _ w6).alloc (Nat.le_refl _) _
  have Bw7 : Hid (Below w.heap.size w w7) := by rw [hw7]; exact Bw6.out.trans (BE.mono Bw6.out.size)
  have Gw7 : Hid (w7.heap[w.heap.size]? = some (.cells A 29 (0, 0))) := by rw [hw7]; exact (BE.block _ (lt_of_block Gw6.out)).trans Gw6.out
  have OW7 : Hid (w7.ownsRow w.heap.size 5 1 (.slice p6 96 c6') 96 (U8s (Rg.ptk r 5))) := by rw [hw7]; exact own_keepX OW6.out BE
  have HBw7 : Hid (Bs w7 p6 c6' (Rg.ptk r 5)) := by rw [hw7]; exact HBw6.out.old BE
  have LW7 : Hid (w7.heap[w6.heap.size]? = some (.cells #[.int .i64 r.bs, .int .i64 r.bl, .int .i64 r.ts, .int .i64 r.tl] 3 (0, 0))) := by rw [hw7]; exact heap_alloc_new w6 _
  change Code.wp _ _ _ _ (w6.alloc (.cells #[.int .i64 r.bs, .int .i64 r.bl, .int .i64 r.ts, .int .i64 r.tl] 3))
  rw [← hw7]
  clear hw7 BE Bw6 Gw6 OW6 HBw6 c68 c69 c70 c71
  generalize w6.heap.size = gl at *
  go_wp2
  go_loopw [4, 6] (fun v4 v6 wr => ∃ (k : Nat) (q : Option Addr) (d : Nat), k ≤ 4 ∧ v6 = .int .i64 k ∧ v4 = .slice q (96 + 8 * k) d ∧ Hid (wr.ownsRow w.heap.size 5 1 (.slice q (96 + 8 * k) d) (96 + 8 * k) (U8s (Rg.ptk r (5 + k)))) ∧ Hid (Bs wr q d (Rg.ptk r (5 + k))) ∧ Hid (Below w.heap.size w wr) ∧ Hid (wr.heap[w.heap.size]? = some (.cells A 29 (0, 0))) ∧ Hid (wr.heap[gl]? = some (.cells #[.int .i64 r.bs, .int .i64 r.bl, .int .i64 r.ts, .int .i64 r.tl] 3 (0, 0)))) (fun _ v6 _ => 4 - (intOf v6).toNat)
  case atStart => exact ⟨0, p6, c6', by omega, rfl, rfl, OW7.out, HBw7.out, Bw7.out, Gw7.out, LW7.out⟩
  case round =>
    clear Bw7 Gw7 OW7 HBw7 LW7
    obtain ⟨k, q, d, hk, rfl, rfl, HO, HB, HL, HG, HI⟩ := hrel
    by_cases hlt : k < 4
    · have hx : (k : Int) < 4 := by omega
      have hx0 : (0 : Int) ≤ (k : Int) := by omega
      have ck := HFC.out wr gl k hlt HI.out
      have RC := Lib.hid (HF.out k hlt wr q d HB.out)
      generalize Rg.four r k = x at *
      clear HF HFC hlt
      go_wp2_with (go_at_call 43; refine RC.out.mono ?_; rintro e8 w8 ⟨p8, c8, rfl, HO8, HB8, HL8⟩)
      have HL9 : Hid (Below w.heap.size w w8) := HL.out.trans (HL8.out.mono HL.out.size)
      have HO9 := Lib.hid (own_base HO8.out HL.out.size)
      have HG9 := Lib.hid ((HL8.out.block _ (lt_of_block HG.out)).trans HG.out)
      have HI9 := Lib.hid ((HL8.out.block _ (lt_of_block HI.out)).trans HI.out)
      exact ⟨⟨k + 1, p8, c8, by omega, by go_num, rfl, HO9.out, HB8.out, HL9.out, HG9.out, HI9.out⟩, by simp [intOf]; omega⟩
    · obtain rfl : k = 4 := by omega
      clear hlt HF HFC HO HI
      have Bw10 := HL
      have Gw10 := HG
      have HBw10 : Hid (Bs wr q d (Rg.ptk r 9)) := HB
      clear HL HG HB
      go_wp2_with (first
        | (go_at_call 44; have TT := HBw11.out; refine (H10.out _ _ _ HBw11.out).mono ?_; rintro e12 w12 ⟨p12, c12', rfl, HO12, HBw12, HL12⟩; have Bw12 : Hid (Below w.heap.size w w12) := Bw11.out.trans (HL12.out.mono Bw11.out.size); have Gw12 : Hid (w12.heap[w.heap.size]? = some (.cells A 29 (0, 0))) := (HL12.out.block _ (lt_of_block Gw11.out)).trans Gw11.out)
        | ((with_reducible refine rng_load _ _ w.heap.size 104 B2 _ ?_ (HXR.out _ _ _ Gw11.out).2.2.2 Try.underlying23 ?_ (row_size Try.sizeSum HSB2) ?_); (first | exact rfl | go_simp); (exact rfl))
        | (go_at_call 44; have TT := HBw10.out; refine (H9.out _ _ _ HBw10.out).mono ?_; rintro e11 w11 ⟨p11, c11', rfl, HO11, HBw11, HL11⟩; have Bw11 : Hid (Below w.heap.size w w11) := Bw10.out.trans (HL11.out.mono Bw10.out.size); have Gw11 : Hid (w11.heap[w.heap.size]? = some (.cells A 29 (0, 0))) := (HL11.out.block _ (lt_of_block Gw10.out)).trans Gw10.out)
        | ((with_reducible refine rng_load _ _ w.heap.size 72 B1 _ ?_ (HXR.out _ _ _ Gw10.out).2.2.1 Try.underlying23 ?_ (row_size Try.sizeSum HSB1) ?_); (first | exact rfl | go_simp); (exact rfl)))
      have OW12 := Lib.hid (own_base HO12.out Bw11.out.size)
      go_ret2
      exact ⟨_, _, rfl, OW12.out, HBw12.out, Bw12.out⟩
end Go.Proofs.Ytjnepegohfhgiaa

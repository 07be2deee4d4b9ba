/-
  The law NamesBack walked.
-/
import Derived.Test.YtdmnlooghamngaaNaB1
import Derived.Test.YtdmnlooghamngaaNaY
import Derived.Deep.CutRange
namespace Go.Proofs.Ytdmnlooghamngaa
open Go.RowKit

theorem FourAt.drew {w : World} {tb k ch cp : Nat} {x : Nm.Four} {ph pp : Option Addr} (h : FourAt w tb k x ph ch pp cp) : FourAt w.drew tb k x ph ch pp cp := ⟨h.c0, h.c1, h.c2, h.c3, h.bh.drew, h.bp.drew, h.i1, h.i2⟩
theorem Got.drew {B k : Nat} {w : World} {v : Value} {Q : Nat → List Int} (h : Got B w v k Q) : Got B w.drew v k Q := h

set_option maxHeartbeats 16000000 in
set_option maxRecDepth 100000 in
theorem back_small (L : List Nm.Four) (tp : Option Addr) (m cap : Nat) (hm : L.length = m) (hs : SmallL L) (w : World) (hr : FRows w tp L) (hg : Calls Try.prog 25 #[.slice tp m cap] w (EqSay false w)) :
    Calls Try.prog 4 #[.slice tp m cap] w (YesSay w) := by
  have HN := Lib.hid hm; clear hm
  have HG := Lib.hid hg; clear hg
  have hm60 : m ≤ 60 := by have := hs.1; have := HN.out; omega
  have HSM := Lib.hid hs; clear hs
  have HROW : Hid (∀ (r : Nat) (x : Nm.Four), L[r]? = some x → ∃ tb tf ph ch pp cp, tp = some ⟨tb, tf, none⟩ ∧ ∀ y, Below w.heap.size w y → FourAt y tb (tf + r * 4) x ph ch pp cp) := fun r x hx => by
    have hlt := (List.getElem?_eq_some_iff.1 hx).1
    obtain ⟨tb, tf, h1, h2⟩ := hr (by omega)
    obtain ⟨ph, ch, pp, cp, h3⟩ := h2 r x hx
    exact ⟨tb, tf, ph, ch, pp, cp, h1, fun y hy => h3.old hy⟩
  clear hr
  go_enter Try.func4, Try.ntmps4
  go_wp2_with (first
    | (go_at_call 25; refine HG.out.mono ?_; rintro e1 w1 ⟨rfl, hb1⟩; have B1 := Lib.hid hb1; clear hb1)
    | (go_at_call 11; refine (new_any _).mono ?_; rintro e2 w2 ⟨g, b, c, rfl, LX, S2, hb2⟩; have B2 : Hid (Below w.heap.size w w2) := B1.out.trans (hb2.mono B1.out.size); have NE : Hid (w.heap.size ≤ b ∧ w.heap.size ≤ c ∧ g < w2.heap.size ∧ b < w2.heap.size ∧ c < w2.heap.size) := (by have := LX.out; have := B1.out.size; have := S2.out.lt; exact ⟨by omega, by omega, by omega, by omega, by omega⟩); clear hb2 LX B1))
  obtain ⟨N2, HN2⟩ : ∃ N2, Hid (N2 = w2.heap.size) := ⟨_, rfl⟩
  have HW2 : Hid (N2 ≤ w2.heap.size ∧ w.heap.size ≤ N2) := ⟨by rw [HN2.out]; exact Nat.le_refl _, by rw [HN2.out]; exact B2.out.size⟩
  rw [← HN2.out] at NE
  clear HN2
  go_loopw [4, 5] (fun v4 v5 wr => ∃ (k : Nat) (V : Value), k ≤ m ∧ v5 = .int .i64 k ∧ V = v4 ∧ Hid (StAt wr g b c (Nm.stl L k)) ∧ Hid (Got N2 wr V k (Nm.gq L)) ∧ Hid (Below w.heap.size w wr ∧ N2 ≤ wr.heap.size)) (fun _ v5 _ => m - (intOf v5).toNat)
  case atStart => exact ⟨0, _, Nat.zero_le _, rfl, rfl, by unfold Nm.stl; exact S2.out, got_nil _ _ _, B2.out, HW2.out.1⟩
  case round =>
    clear S2 B2
    obtain ⟨k, V, hk, rfl, rfl, HS, HO, HB⟩ := hrel
    by_cases hlt : k < m
    · obtain ⟨x, hx⟩ : ∃ x, L[k]? = some x := ⟨L[k]'(by rw [HN.out]; exact hlt), List.getElem?_eq_getElem _⟩
      obtain ⟨tb, tf, xh, xch, xp, xcp, rfl, hrow⟩ := HROW.out k x hx
      have HFA := Lib.hid hrow; clear hrow
      have HXS := Lib.hid (HSM.out.2 x (List.mem_of_getElem? hx))
      have HLN := Lib.hid (Nm.stl_len L k)
      have E1 := Lib.hid (Nm.gq_seal hx)
      have E2 := Lib.hid (Nm.stl_succ hx)
      have E3 := Lib.hid (Nm.gq_len hx)
      clear hx
      have hk0 : 0 ≤ (k : Int) := by omega
      have hk1 : (k : Int) < (m : Int) := by omega
      go_upto_region 8 with (fail)
      go_region_held3 (fun y => y.cell? ⟨tb, tf + k * 4, none⟩ = some (.int .i64 x.1) ∧ y.cell? ⟨tb, tf + k * 4 + 1, none⟩ = some (.int .i64 x.2.1) ∧ y.cell? ⟨tb, tf + k * 4 + 2, none⟩ = some (.slice xh x.2.2.1.length xch) ∧ y.cell? ⟨tb, tf + k * 4 + 3, none⟩ = some (.slice xp x.2.2.2.length xcp))
        (exact (fun q => ⟨q.c0, q.c1, q.c2, q.c3⟩) (HFA.out _ (by first | exact Hid.out (by assumption) | exact HB.out.1.drew)))
        (first
          | (go_at_call 16; refine (seal_any (Nm.stl L k) x g b c xh xp _ _ xch xcp rfl rfl (by have := HXS.out; omega) _ HS.out.drew (HFA.out _ HB.out.1.drew).bh (HFA.out _ HB.out.1.drew).bp (by have := HLN.out; omega)).mono ?_; rintro e1 w1 ⟨p1, k1, m1, rfl, hm1, R1, _, S1, o1⟩; rw [E1.out] at hm1 R1; have B1 : Hid (Below w.heap.size w w1) := o1.below HB.out.1.drew NE.out.1 HB.out.1.size; have HM1 := Lib.hid hm1; have G1 := Lib.hid (HO.out.drew.only o1 NE.out.2.2.2.1); have RR1 := Lib.hid (own_base R1.out HB.out.2); have Z1 : Hid (N2 ≤ w1.heap.size) := Nat.le_trans HB.out.2 o1.size; clear o1 hm1 R1))
      clear HS HO HB
      have HWR : Hid (∀ y, Below w1.heap.size w1 y → Below w.heap.size w y) := fun y hy => B1.out.trans (hy.mono B1.out.size)
      have D1 : Hid (Below w1.heap.size w1 w1) := Below.refl _ _
      have HSD : Hid (∀ y, Below w1.heap.size w1 y → y.cell? ⟨tb, tf + k * 4, none⟩ = some (.int .i64 x.1) ∧ y.cell? ⟨tb, tf + k * 4 + 1, none⟩ = some (.int .i64 x.2.1) ∧ y.cell? ⟨tb, tf + k * 4 + 2, none⟩ = some (.slice xh x.2.2.1.length xch) ∧ y.cell? ⟨tb, tf + k * 4 + 3, none⟩ = some (.slice xp x.2.2.2.length xcp)) := fun y hy => (fun q => ⟨q.c0, q.c1, q.c2, q.c3⟩) (HFA.out _ (HWR.out _ hy))
      have hw : IntKind.i64.wrap ((x.2.2.2.length : Int) + 32) = (x.2.2.2.length : Int) + 32 := IntWalk.i64_in _ ⟨by omega, by have := HXS.out; omega⟩
      have HRR : Hid (∀ y, Below w1.heap.size w1 y → y.ownsRow N2 5 1 (.slice p1 m1 k1) m1 (U8s (Nm.gq L k))) := fun y hy => own_keepX RR1.out hy
      have HGG : Hid (∀ y, Below w1.heap.size w1 y → Got N2 y V k (Nm.gq L)) := fun y hy => G1.out.old hy
      have HMAY : Hid (∀ y, Below w1.heap.size w1 y → Calls Try.prog 26 #[.agg #[.int .i64 x.1, .int .i64 x.2.1, .slice xh x.2.2.1.length xch, .slice xp x.2.2.2.length xcp]] y (EqSay (Nm.may x) y)) := fun y _ => may_any x _ _ y
      go_upto_region 9 with (fail)
      go_cut [72] from 44 to 72 (fun v72 y => v72 = .bool false ∧ Hid (Below w1.heap.size w1 y))
      case first =>
       clear RR1 HRR HGG G1 NE
       cases hmx : Nm.may x with
       | true =>
        rw [hmx] at HMAY
        obtain rfl : m1 = x.2.2.2.length + 32 := by rw [← HM1.out, E3.out, hmx]; rfl
        clear hmx
        as_aux_lemma =>
          refine wp_region_any (by kernel_rfl) ?_
          change wpAny _ _ _ _ _ _ _ (World.drew _)
          have D0 : Hid (Below w1.heap.size w1 w1.drew) := D1.out.drew
          generalize w1.drew = z0 at *
          refine wpAny_of_held (S := (fun y => y.cell? ⟨tb, tf + k * 4, none⟩ = some (.int .i64 x.1) ∧ y.cell? ⟨tb, tf + k * 4 + 1, none⟩ = some (.int .i64 x.2.1) ∧ y.cell? ⟨tb, tf + k * 4 + 2, none⟩ = some (.slice xh x.2.2.1.length xch) ∧ y.cell? ⟨tb, tf + k * 4 + 3, none⟩ = some (.slice xp x.2.2.2.length xcp))) _ _ _ _ ?_
          have SD0 := Lib.hid (HSD.out _ D0.out)
          refine anyH_take 0 44 (.slice (some ⟨tb, tf, none⟩) m cap) SD0.out rfl (by kernel_rfl) (by kernel_rfl) (by kernel_rfl) (fun _ _ _ h => h) (by rfl) (by intro x hx; obtain ⟨y0, y1, y2, y3⟩ := hx; go_simp; try (intro h; omega)) ?_
          try simp only [Act.put, List.setIfInBounds_toArray, List.set_cons_zero, List.set_cons_succ]
          refine anyH_take 1 45 (.int .i64 (k : Int)) SD0.out rfl (by kernel_rfl) (by kernel_rfl) (by kernel_rfl) (fun _ _ _ h => h) (by rfl) (by intro x hx; obtain ⟨y0, y1, y2, y3⟩ := hx; go_simp; try (intro h; omega)) ?_
          try simp only [Act.put, List.setIfInBounds_toArray, List.set_cons_zero, List.set_cons_succ]
          refine anyH_take 2 46 (.pointer (some ⟨tb, tf + k * 4, none⟩)) SD0.out rfl (by kernel_rfl) (by kernel_rfl) (by kernel_rfl) (fun _ _ _ h => h) (by rfl) (by intro x hx; obtain ⟨y0, y1, y2, y3⟩ := hx; go_simp; try (intro h; omega)) ?_
          try simp only [Act.put, List.setIfInBounds_toArray, List.set_cons_zero, List.set_cons_succ]
          refine anyH_take 3 47 (.agg #[.int .i64 x.1, .int .i64 x.2.1, .slice xh x.2.2.1.length xch, .slice xp x.2.2.2.length xcp]) SD0.out rfl (by kernel_rfl) (by kernel_rfl) (by kernel_rfl) (fun _ _ _ h => h) (by rfl) (by intro x hx; obtain ⟨y0, y1, y2, y3⟩ := hx; go_simp; try (intro h; omega)) ?_
          try simp only [Act.put, List.setIfInBounds_toArray, List.set_cons_zero, List.set_cons_succ]
          refine anyH_take 5 49 (.slice p1 (x.2.2.2.length + 32) k1) SD0.out rfl (by kernel_rfl) (by kernel_rfl) (by kernel_rfl) (fun _ _ _ h => h) (by rfl) (by intro x hx; obtain ⟨y0, y1, y2, y3⟩ := hx; go_simp; try (intro h; omega)) ?_
          try simp only [Act.put, List.setIfInBounds_toArray, List.set_cons_zero, List.set_cons_succ]
          refine anyH_take 6 50 (.int .i64 ((x.2.2.2.length + 32 : Nat) : Int)) SD0.out rfl (by kernel_rfl) (by kernel_rfl) (by kernel_rfl) (fun _ _ _ h => h) (by rfl) (by intro x hx; obtain ⟨y0, y1, y2, y3⟩ := hx; go_simp; try (intro h; omega)) ?_
          try simp only [Act.put, List.setIfInBounds_toArray, List.set_cons_zero, List.set_cons_succ]
          refine anyH_take 7 51 (.slice (some ⟨tb, tf, none⟩) m cap) SD0.out rfl (by kernel_rfl) (by kernel_rfl) (by kernel_rfl) (fun _ _ _ h => h) (by rfl) (by intro x hx; obtain ⟨y0, y1, y2, y3⟩ := hx; go_simp; try (intro h; omega)) ?_
          try simp only [Act.put, List.setIfInBounds_toArray, List.set_cons_zero, List.set_cons_succ]
          refine anyH_take 8 52 (.int .i64 (k : Int)) SD0.out rfl (by kernel_rfl) (by kernel_rfl) (by kernel_rfl) (fun _ _ _ h => h) (by rfl) (by intro x hx; obtain ⟨y0, y1, y2, y3⟩ := hx; go_simp; try (intro h; omega)) ?_
          try simp only [Act.put, List.setIfInBounds_toArray, List.set_cons_zero, List.set_cons_succ]
          refine anyH_take 9 53 (.pointer (some ⟨tb, tf + k * 4, none⟩)) SD0.out rfl (by kernel_rfl) (by kernel_rfl) (by kernel_rfl) (fun _ _ _ h => h) (by rfl) (by intro x hx; obtain ⟨y0, y1, y2, y3⟩ := hx; go_simp; try (intro h; omega)) ?_
          try simp only [Act.put, List.setIfInBounds_toArray, List.set_cons_zero, List.set_cons_succ]
          refine anyH_take 10 54 (.pointer (some ⟨tb, tf + k * 4 + 3, none⟩)) SD0.out rfl (by kernel_rfl) (by kernel_rfl) (by kernel_rfl) (fun _ _ _ h => h) (by rfl) (by intro x hx; obtain ⟨y0, y1, y2, y3⟩ := hx; go_simp; try (intro h; omega)) ?_
          try simp only [Act.put, List.setIfInBounds_toArray, List.set_cons_zero, List.set_cons_succ]
          refine anyH_take 11 55 (.slice xp x.2.2.2.length xcp) SD0.out rfl (by kernel_rfl) (by kernel_rfl) (by kernel_rfl) (fun _ _ _ h => h) (by rfl) (by intro x hx; obtain ⟨y0, y1, y2, y3⟩ := hx; go_simp; try (intro h; omega)) ?_
          try simp only [Act.put, List.setIfInBounds_toArray, List.set_cons_zero, List.set_cons_succ]
          refine anyH_take 12 56 (.int .i64 (x.2.2.2.length : Int)) SD0.out rfl (by kernel_rfl) (by kernel_rfl) (by kernel_rfl) (fun _ _ _ h => h) (by rfl) (by intro x hx; obtain ⟨y0, y1, y2, y3⟩ := hx; go_simp; try (intro h; omega)) ?_
          try simp only [Act.put, List.setIfInBounds_toArray, List.set_cons_zero, List.set_cons_succ]
          refine anyH_take 13 57 (.int .i64 ((x.2.2.2.length : Int) + 32)) SD0.out rfl (by kernel_rfl) (by kernel_rfl) (by kernel_rfl) (fun _ _ _ h => h) (by rfl) (by intro x hx; obtain ⟨y0, y1, y2, y3⟩ := hx; go_simp; try (intro h; omega)) ?_
          try simp only [Act.put, List.setIfInBounds_toArray, List.set_cons_zero, List.set_cons_succ]
          refine anyH_take 14 58 (.bool true) SD0.out rfl (by kernel_rfl) (by kernel_rfl) (by kernel_rfl) (fun _ _ _ h => h) (by rfl) (by intro x hx; obtain ⟨y0, y1, y2, y3⟩ := hx; go_simp; try (intro h; omega)) ?_
          try simp only [Act.put, List.setIfInBounds_toArray, List.set_cons_zero, List.set_cons_succ]
          refine anyH_one 4 (by kernel_rfl) ?_
          refine wpOp_step rfl (fun Kc hKc => ?_)
          go_simp
          refine (HMAY.out _ D0.out).mono ?_
          rintro e1 z1 ⟨rfl, hb1⟩
          have D1 : Hid (Below w1.heap.size w1 z1) := D0.out.trans (hb1.mono D0.out.size)
          have SD1 := Lib.hid (HSD.out _ D1.out)
          clear hb1 SD0
          dsimp only
          refine hKc _ _ ⟨SD1.out, ?_⟩
          clear hKc Kc
          try simp only [Act.put, List.setIfInBounds_toArray, List.set_cons_zero, List.set_cons_succ]
          refine anyH_take 15 59 (.bool false) SD1.out rfl (by kernel_rfl) (by kernel_rfl) (by kernel_rfl) (fun _ _ _ h => h) (by rfl) (by intro x hx; obtain ⟨y0, y1, y2, y3⟩ := hx; go_simp; try (intro h; omega)) ?_
          try simp only [Act.put, List.setIfInBounds_toArray, List.set_cons_zero, List.set_cons_succ]
          refine anyH_take 16 60 (.bool false) SD1.out rfl (by kernel_rfl) (by kernel_rfl) (by kernel_rfl) (fun _ _ _ h => h) (by rfl) (by intro x hx; obtain ⟨y0, y1, y2, y3⟩ := hx; go_simp; try (intro h; omega)) ?_
          try simp only [Act.put, List.setIfInBounds_toArray, List.set_cons_zero, List.set_cons_succ]
          refine anyH_take 17 61 (.slice (some ⟨tb, tf, none⟩) m cap) SD1.out rfl (by kernel_rfl) (by kernel_rfl) (by kernel_rfl) (fun _ _ _ h => h) (by rfl) (by intro x hx; obtain ⟨y0, y1, y2, y3⟩ := hx; go_simp; try (intro h; omega)) ?_
          try simp only [Act.put, List.setIfInBounds_toArray, List.set_cons_zero, List.set_cons_succ]
          refine anyH_take 18 62 (.int .i64 (k : Int)) SD1.out rfl (by kernel_rfl) (by kernel_rfl) (by kernel_rfl) (fun _ _ _ h => h) (by rfl) (by intro x hx; obtain ⟨y0, y1, y2, y3⟩ := hx; go_simp; try (intro h; omega)) ?_
          try simp only [Act.put, List.setIfInBounds_toArray, List.set_cons_zero, List.set_cons_succ]
          refine anyH_take 19 63 (.pointer (some ⟨tb, tf + k * 4, none⟩)) SD1.out rfl (by kernel_rfl) (by kernel_rfl) (by kernel_rfl) (fun _ _ _ h => h) (by rfl) (by intro x hx; obtain ⟨y0, y1, y2, y3⟩ := hx; go_simp; try (intro h; omega)) ?_
          try simp only [Act.put, List.setIfInBounds_toArray, List.set_cons_zero, List.set_cons_succ]
          refine anyH_take 20 64 (.agg #[.int .i64 x.1, .int .i64 x.2.1, .slice xh x.2.2.1.length xch, .slice xp x.2.2.2.length xcp]) SD1.out rfl (by kernel_rfl) (by kernel_rfl) (by kernel_rfl) (fun _ _ _ h => h) (by rfl) (by intro x hx; obtain ⟨y0, y1, y2, y3⟩ := hx; go_simp; try (intro h; omega)) ?_
          try simp only [Act.put, List.setIfInBounds_toArray, List.set_cons_zero, List.set_cons_succ]
          refine anyH_one 21 (by kernel_rfl) ?_
          refine wpOp_step rfl (fun Kc hKc => ?_)
          go_simp
          refine (HMAY.out _ D1.out).mono ?_
          rintro e2 z2 ⟨rfl, hb2⟩
          have D2 : Hid (Below w1.heap.size w1 z2) := D1.out.trans (hb2.mono D1.out.size)
          have SD2 := Lib.hid (HSD.out _ D2.out)
          clear hb2 SD1
          dsimp only
          refine hKc _ _ ⟨SD2.out, ?_⟩
          clear hKc Kc
          try simp only [Act.put, List.setIfInBounds_toArray, List.set_cons_zero, List.set_cons_succ]
          refine anyH_take 22 66 (.bool false) SD2.out rfl (by kernel_rfl) (by kernel_rfl) (by kernel_rfl) (fun _ _ _ h => h) (by rfl) (by intro x hx; obtain ⟨y0, y1, y2, y3⟩ := hx; go_simp; try (intro h; omega)) ?_
          try simp only [Act.put, List.setIfInBounds_toArray, List.set_cons_zero, List.set_cons_succ]
          refine anyH_take 23 67 (.bool false) SD2.out rfl (by kernel_rfl) (by kernel_rfl) (by kernel_rfl) (fun _ _ _ h => h) (by rfl) (by intro x hx; obtain ⟨y0, y1, y2, y3⟩ := hx; go_simp; try (intro h; omega)) ?_
          try simp only [Act.put, List.setIfInBounds_toArray, List.set_cons_zero, List.set_cons_succ]
          refine anyH_skip 24 68 SD2.out rfl (by kernel_rfl) (by kernel_rfl) (by kernel_rfl) (fun _ _ _ h => h) (by rfl) ?_
          try simp only [Act.put, List.setIfInBounds_toArray, List.set_cons_zero, List.set_cons_succ]
          refine anyH_skip 25 69 SD2.out rfl (by kernel_rfl) (by kernel_rfl) (by kernel_rfl) (fun _ _ _ h => h) (by rfl) ?_
          try simp only [Act.put, List.setIfInBounds_toArray, List.set_cons_zero, List.set_cons_succ]
          refine anyH_skip 26 70 SD2.out rfl (by kernel_rfl) (by kernel_rfl) (by kernel_rfl) (fun _ _ _ h => h) (by rfl) ?_
          try simp only [Act.put, List.setIfInBounds_toArray, List.set_cons_zero, List.set_cons_succ]
          refine anyH_take 27 71 (.bool false) SD2.out rfl (by kernel_rfl) (by kernel_rfl) (by kernel_rfl) (fun _ _ _ h => h) (by rfl) (by intro x hx; obtain ⟨y0, y1, y2, y3⟩ := hx; go_simp; try (intro h; omega)) ?_
          try simp only [Act.put, List.setIfInBounds_toArray, List.set_cons_zero, List.set_cons_succ]
          refine anyH_take 28 72 (.bool false) SD2.out rfl (by kernel_rfl) (by kernel_rfl) (by kernel_rfl) (fun _ _ _ h => h) (by rfl) (by intro x hx; obtain ⟨y0, y1, y2, y3⟩ := hx; go_simp; try (intro h; omega)) ?_
          try simp only [Act.put, List.setIfInBounds_toArray, List.set_cons_zero, List.set_cons_succ]
          refine wpAnyH_done (by kernel_rfl) ?_ _
          go_wp2
          go_meet
          case rel => exact ⟨rfl, D2.out⟩
       | false =>
        rw [hmx] at HMAY
        obtain rfl : m1 = 0 := by rw [← HM1.out, E3.out, hmx]; rfl
        have hEq : ((0 : Int) == (x.2.2.2.length : Int) + 32) = false := by rw [beq_eq_false_iff_ne]; omega
        have hEq2 : ¬ ((0 : Int) = (x.2.2.2.length : Int) + 32) := by omega
        clear hmx
        as_aux_lemma =>
          refine wp_region_any (by kernel_rfl) ?_
          change wpAny _ _ _ _ _ _ _ (World.drew _)
          have D0 : Hid (Below w1.heap.size w1 w1.drew) := D1.out.drew
          generalize w1.drew = z0 at *
          refine wpAny_of_held (S := (fun y => y.cell? ⟨tb, tf + k * 4, none⟩ = some (.int .i64 x.1) ∧ y.cell? ⟨tb, tf + k * 4 + 1, none⟩ = some (.int .i64 x.2.1) ∧ y.cell? ⟨tb, tf + k * 4 + 2, none⟩ = some (.slice xh x.2.2.1.length xch) ∧ y.cell? ⟨tb, tf + k * 4 + 3, none⟩ = some (.slice xp x.2.2.2.length xcp))) _ _ _ _ ?_
          have SD0 := Lib.hid (HSD.out _ D0.out)
          refine anyH_take 0 44 (.slice (some ⟨tb, tf, none⟩) m cap) SD0.out rfl (by kernel_rfl) (by kernel_rfl) (by kernel_rfl) (fun _ _ _ h => h) (by rfl) (by intro x hx; obtain ⟨y0, y1, y2, y3⟩ := hx; go_simp; try (intro h; omega)) ?_
          try simp only [Act.put, List.setIfInBounds_toArray, List.set_cons_zero, List.set_cons_succ]
          refine anyH_take 1 45 (.int .i64 (k : Int)) SD0.out rfl (by kernel_rfl) (by kernel_rfl) (by kernel_rfl) (fun _ _ _ h => h) (by rfl) (by intro x hx; obtain ⟨y0, y1, y2, y3⟩ := hx; go_simp; try (intro h; omega)) ?_
          try simp only [Act.put, List.setIfInBounds_toArray, List.set_cons_zero, List.set_cons_succ]
          refine anyH_take 2 46 (.pointer (some ⟨tb, tf + k * 4, none⟩)) SD0.out rfl (by kernel_rfl) (by kernel_rfl) (by kernel_rfl) (fun _ _ _ h => h) (by rfl) (by intro x hx; obtain ⟨y0, y1, y2, y3⟩ := hx; go_simp; try (intro h; omega)) ?_
          try simp only [Act.put, List.setIfInBounds_toArray, List.set_cons_zero, List.set_cons_succ]
          refine anyH_take 3 47 (.agg #[.int .i64 x.1, .int .i64 x.2.1, .slice xh x.2.2.1.length xch, .slice xp x.2.2.2.length xcp]) SD0.out rfl (by kernel_rfl) (by kernel_rfl) (by kernel_rfl) (fun _ _ _ h => h) (by rfl) (by intro x hx; obtain ⟨y0, y1, y2, y3⟩ := hx; go_simp; try (intro h; omega)) ?_
          try simp only [Act.put, List.setIfInBounds_toArray, List.set_cons_zero, List.set_cons_succ]
          refine anyH_take 5 49 (.slice p1 0 k1) SD0.out rfl (by kernel_rfl) (by kernel_rfl) (by kernel_rfl) (fun _ _ _ h => h) (by rfl) (by intro x hx; obtain ⟨y0, y1, y2, y3⟩ := hx; go_simp; try (intro h; omega)) ?_
          try simp only [Act.put, List.setIfInBounds_toArray, List.set_cons_zero, List.set_cons_succ]
          refine anyH_take 6 50 (.int .i64 0) SD0.out rfl (by kernel_rfl) (by kernel_rfl) (by kernel_rfl) (fun _ _ _ h => h) (by rfl) (by intro x hx; obtain ⟨y0, y1, y2, y3⟩ := hx; go_simp; try (intro h; omega)) ?_
          try simp only [Act.put, List.setIfInBounds_toArray, List.set_cons_zero, List.set_cons_succ]
          refine anyH_take 7 51 (.slice (some ⟨tb, tf, none⟩) m cap) SD0.out rfl (by kernel_rfl) (by kernel_rfl) (by kernel_rfl) (fun _ _ _ h => h) (by rfl) (by intro x hx; obtain ⟨y0, y1, y2, y3⟩ := hx; go_simp; try (intro h; omega)) ?_
          try simp only [Act.put, List.setIfInBounds_toArray, List.set_cons_zero, List.set_cons_succ]
          refine anyH_take 8 52 (.int .i64 (k : Int)) SD0.out rfl (by kernel_rfl) (by kernel_rfl) (by kernel_rfl) (fun _ _ _ h => h) (by rfl) (by intro x hx; obtain ⟨y0, y1, y2, y3⟩ := hx; go_simp; try (intro h; omega)) ?_
          try simp only [Act.put, List.setIfInBounds_toArray, List.set_cons_zero, List.set_cons_succ]
          refine anyH_take 9 53 (.pointer (some ⟨tb, tf + k * 4, none⟩)) SD0.out rfl (by kernel_rfl) (by kernel_rfl) (by kernel_rfl) (fun _ _ _ h => h) (by rfl) (by intro x hx; obtain ⟨y0, y1, y2, y3⟩ := hx; go_simp; try (intro h; omega)) ?_
          try simp only [Act.put, List.setIfInBounds_toArray, List.set_cons_zero, List.set_cons_succ]
          refine anyH_take 10 54 (.pointer (some ⟨tb, tf + k * 4 + 3, none⟩)) SD0.out rfl (by kernel_rfl) (by kernel_rfl) (by kernel_rfl) (fun _ _ _ h => h) (by rfl) (by intro x hx; obtain ⟨y0, y1, y2, y3⟩ := hx; go_simp; try (intro h; omega)) ?_
          try simp only [Act.put, List.setIfInBounds_toArray, List.set_cons_zero, List.set_cons_succ]
          refine anyH_take 11 55 (.slice xp x.2.2.2.length xcp) SD0.out rfl (by kernel_rfl) (by kernel_rfl) (by kernel_rfl) (fun _ _ _ h => h) (by rfl) (by intro x hx; obtain ⟨y0, y1, y2, y3⟩ := hx; go_simp; try (intro h; omega)) ?_
          try simp only [Act.put, List.setIfInBounds_toArray, List.set_cons_zero, List.set_cons_succ]
          refine anyH_take 12 56 (.int .i64 (x.2.2.2.length : Int)) SD0.out rfl (by kernel_rfl) (by kernel_rfl) (by kernel_rfl) (fun _ _ _ h => h) (by rfl) (by intro x hx; obtain ⟨y0, y1, y2, y3⟩ := hx; go_simp; try (intro h; omega)) ?_
          try simp only [Act.put, List.setIfInBounds_toArray, List.set_cons_zero, List.set_cons_succ]
          refine anyH_take 13 57 (.int .i64 ((x.2.2.2.length : Int) + 32)) SD0.out rfl (by kernel_rfl) (by kernel_rfl) (by kernel_rfl) (fun _ _ _ h => h) (by rfl) (by intro x hx; obtain ⟨y0, y1, y2, y3⟩ := hx; go_simp; try (intro h; omega)) ?_
          try simp only [Act.put, List.setIfInBounds_toArray, List.set_cons_zero, List.set_cons_succ]
          refine anyH_take 14 58 (.bool false) SD0.out rfl (by kernel_rfl) (by kernel_rfl) (by kernel_rfl) (fun _ _ _ h => h) (by rfl) (by intro x hx; obtain ⟨y0, y1, y2, y3⟩ := hx; go_simp; try (intro h; omega)) ?_
          try simp only [Act.put, List.setIfInBounds_toArray, List.set_cons_zero, List.set_cons_succ]
          refine anyH_one 4 (by kernel_rfl) ?_
          refine wpOp_step rfl (fun Kc hKc => ?_)
          go_simp
          refine (HMAY.out _ D0.out).mono ?_
          rintro e1 z1 ⟨rfl, hb1⟩
          have D1 : Hid (Below w1.heap.size w1 z1) := D0.out.trans (hb1.mono D0.out.size)
          have SD1 := Lib.hid (HSD.out _ D1.out)
          clear hb1 SD0
          dsimp only
          refine hKc _ _ ⟨SD1.out, ?_⟩
          clear hKc Kc
          try simp only [Act.put, List.setIfInBounds_toArray, List.set_cons_zero, List.set_cons_succ]
          refine anyH_take 15 59 (.bool false) SD1.out rfl (by kernel_rfl) (by kernel_rfl) (by kernel_rfl) (fun _ _ _ h => h) (by rfl) (by intro x hx; obtain ⟨y0, y1, y2, y3⟩ := hx; go_simp; try (intro h; omega)) ?_
          try simp only [Act.put, List.setIfInBounds_toArray, List.set_cons_zero, List.set_cons_succ]
          refine anyH_take 16 60 (.bool false) SD1.out rfl (by kernel_rfl) (by kernel_rfl) (by kernel_rfl) (fun _ _ _ h => h) (by rfl) (by intro x hx; obtain ⟨y0, y1, y2, y3⟩ := hx; go_simp; try (intro h; omega)) ?_
          try simp only [Act.put, List.setIfInBounds_toArray, List.set_cons_zero, List.set_cons_succ]
          refine anyH_take 17 61 (.slice (some ⟨tb, tf, none⟩) m cap) SD1.out rfl (by kernel_rfl) (by kernel_rfl) (by kernel_rfl) (fun _ _ _ h => h) (by rfl) (by intro x hx; obtain ⟨y0, y1, y2, y3⟩ := hx; go_simp; try (intro h; omega)) ?_
          try simp only [Act.put, List.setIfInBounds_toArray, List.set_cons_zero, List.set_cons_succ]
          refine anyH_take 18 62 (.int .i64 (k : Int)) SD1.out rfl (by kernel_rfl) (by kernel_rfl) (by kernel_rfl) (fun _ _ _ h => h) (by rfl) (by intro x hx; obtain ⟨y0, y1, y2, y3⟩ := hx; go_simp; try (intro h; omega)) ?_
          try simp only [Act.put, List.setIfInBounds_toArray, List.set_cons_zero, List.set_cons_succ]
          refine anyH_take 19 63 (.pointer (some ⟨tb, tf + k * 4, none⟩)) SD1.out rfl (by kernel_rfl) (by kernel_rfl) (by kernel_rfl) (fun _ _ _ h => h) (by rfl) (by intro x hx; obtain ⟨y0, y1, y2, y3⟩ := hx; go_simp; try (intro h; omega)) ?_
          try simp only [Act.put, List.setIfInBounds_toArray, List.set_cons_zero, List.set_cons_succ]
          refine anyH_take 20 64 (.agg #[.int .i64 x.1, .int .i64 x.2.1, .slice xh x.2.2.1.length xch, .slice xp x.2.2.2.length xcp]) SD1.out rfl (by kernel_rfl) (by kernel_rfl) (by kernel_rfl) (fun _ _ _ h => h) (by rfl) (by intro x hx; obtain ⟨y0, y1, y2, y3⟩ := hx; go_simp; try (intro h; omega)) ?_
          try simp only [Act.put, List.setIfInBounds_toArray, List.set_cons_zero, List.set_cons_succ]
          refine anyH_one 21 (by kernel_rfl) ?_
          refine wpOp_step rfl (fun Kc hKc => ?_)
          go_simp
          refine (HMAY.out _ D1.out).mono ?_
          rintro e2 z2 ⟨rfl, hb2⟩
          have D2 : Hid (Below w1.heap.size w1 z2) := D1.out.trans (hb2.mono D1.out.size)
          have SD2 := Lib.hid (HSD.out _ D2.out)
          clear hb2 SD1
          dsimp only
          refine hKc _ _ ⟨SD2.out, ?_⟩
          clear hKc Kc
          try simp only [Act.put, List.setIfInBounds_toArray, List.set_cons_zero, List.set_cons_succ]
          refine anyH_take 22 66 (.bool true) SD2.out rfl (by kernel_rfl) (by kernel_rfl) (by kernel_rfl) (fun _ _ _ h => h) (by rfl) (by intro x hx; obtain ⟨y0, y1, y2, y3⟩ := hx; go_simp; try (intro h; omega)) ?_
          try simp only [Act.put, List.setIfInBounds_toArray, List.set_cons_zero, List.set_cons_succ]
          refine anyH_take 23 67 (.bool true) SD2.out rfl (by kernel_rfl) (by kernel_rfl) (by kernel_rfl) (fun _ _ _ h => h) (by rfl) (by intro x hx; obtain ⟨y0, y1, y2, y3⟩ := hx; go_simp; try (intro h; omega)) ?_
          try simp only [Act.put, List.setIfInBounds_toArray, List.set_cons_zero, List.set_cons_succ]
          refine anyH_take 24 68 (.slice p1 0 k1) SD2.out rfl (by kernel_rfl) (by kernel_rfl) (by kernel_rfl) (fun _ _ _ h => h) (by rfl) (by intro x hx; obtain ⟨y0, y1, y2, y3⟩ := hx; go_simp; try (intro h; omega)) ?_
          try simp only [Act.put, List.setIfInBounds_toArray, List.set_cons_zero, List.set_cons_succ]
          refine anyH_take 25 69 (.int .i64 0) SD2.out rfl (by kernel_rfl) (by kernel_rfl) (by kernel_rfl) (fun _ _ _ h => h) (by rfl) (by intro x hx; obtain ⟨y0, y1, y2, y3⟩ := hx; go_simp; try (intro h; omega)) ?_
          try simp only [Act.put, List.setIfInBounds_toArray, List.set_cons_zero, List.set_cons_succ]
          refine anyH_take 26 70 (.bool false) SD2.out rfl (by kernel_rfl) (by kernel_rfl) (by kernel_rfl) (fun _ _ _ h => h) (by rfl) (by intro x hx; obtain ⟨y0, y1, y2, y3⟩ := hx; go_simp; try (intro h; omega)) ?_
          try simp only [Act.put, List.setIfInBounds_toArray, List.set_cons_zero, List.set_cons_succ]
          refine anyH_take 27 71 (.bool false) SD2.out rfl (by kernel_rfl) (by kernel_rfl) (by kernel_rfl) (fun _ _ _ h => h) (by rfl) (by intro x hx; obtain ⟨y0, y1, y2, y3⟩ := hx; go_simp; try (intro h; omega)) ?_
          try simp only [Act.put, List.setIfInBounds_toArray, List.set_cons_zero, List.set_cons_succ]
          refine anyH_take 28 72 (.bool false) SD2.out rfl (by kernel_rfl) (by kernel_rfl) (by kernel_rfl) (fun _ _ _ h => h) (by rfl) (by intro x hx; obtain ⟨y0, y1, y2, y3⟩ := hx; go_simp; try (intro h; omega)) ?_
          try simp only [Act.put, List.setIfInBounds_toArray, List.set_cons_zero, List.set_cons_succ]
          refine wpAnyH_done (by kernel_rfl) ?_ _
          go_wp2
          go_meet
          case rel => exact ⟨rfl, D2.out⟩
      case rest =>
        obtain ⟨rfl, D9⟩ := hcut
        have DA : Hid (Below w1.heap.size w1 (wc.alloc (.cells #[.slice p1 m1 k1] 30))) := D9.out.alloc D9.out.size _
        go_wp2_with (first
          | (at_builtin; refine append_got _ _ N2 V k (Nm.gq L) ⟨wc.heap.size, 0, none⟩ p1 _ k1 rfl rfl (HGG.out _ DA.out) (by rw [cell_of_row _ _ 0 _ _ _ (heap_alloc_new wc _)]; rfl) HM1.out (HRR.out _ DA.out) (by omega) (Nat.le_trans Z1.out DA.out.size) ?_; intro v5 w5 g5 gr5; have G5 := Lib.hid g5; have GR5 := Lib.hid gr5; clear g5 gr5)
          | go_in)
        refine ⟨⟨k + 1, _, by omega, by go_num, rfl, ?_, G5.out, ?_, ?_⟩, by simp [intOf]; omega⟩
        · have hs2 := S1.out.old DA.out
          have hne : ∀ q, q < N2 → some q ≠ V.ownBlock := fun q hq e => by have := (G1.out.lt q e.symm).1; omega
          show StAt _ _ _ _ _
          rw [E2.out]
          exact hs2.keep (GR5.out.block _ hs2.lt.1 (hne _ NE.out.2.2.1)) (GR5.out.block _ hs2.lt.2.1 (hne _ NE.out.2.2.2.1)) (GR5.out.block _ hs2.lt.2.2 (hne _ NE.out.2.2.2.2))
        · exact (HWR.out _ DA.out).grown GR5.out (HWR.out _ DA.out).size (fun q hq => Nat.le_trans HW2.out.2 (G1.out.lt q hq).1)
        · exact Nat.le_trans (Nat.le_trans Z1.out DA.out.size) GR5.out.size
    · obtain rfl : k = m := by omega
      clear hlt
      have HV : Hid (0 < k → ∃ gs cs, V = .slice (some ⟨gs, 0, none⟩) k cs) := fun h0 => got_some HO.out h0
      generalize hwL : wr = wL at *
      clear hwL
      go_wp2
      go_loopw [7] (fun v7 wr => ∃ i : Nat, i ≤ k ∧ v7 = .int .i64 i ∧ Hid (StAt wr g b c (Nm.stl L k)) ∧ Hid (Got N2 wr V k (Nm.gq L)) ∧ Hid (Below w.heap.size w wr ∧ N2 ≤ wr.heap.size)) (fun v7 _ => k - (intOf v7).toNat)
      case atStart => exact ⟨0, Nat.zero_le _, rfl, HS.out, HO.out, HB.out⟩
      case round =>
        clear HS HO HB
        obtain ⟨i, hi', rfl, HS, HO, HB⟩ := hrel
        by_cases hlt : i < k
        · obtain ⟨x, hx⟩ : ∃ x, L[i]? = some x := ⟨L[i]'(by rw [HN.out]; exact hlt), List.getElem?_eq_getElem _⟩
          obtain ⟨gs, cs, rfl⟩ := HV.out (by omega)
          obtain ⟨tb, tf, xh, xch, xp, xcp, rfl, hrow⟩ := HROW.out i x hx
          have HFA := Lib.hid hrow; clear hrow
          have HXS := Lib.hid (HSM.out.2 x (List.mem_of_getElem? hx))
          have HL := Lib.hid hx
          have E3 := Lib.hid (Nm.gq_len hx)
          clear hx
          have i0' : 0 ≤ (i : Int) := by omega
          have i1' : (i : Int) < (k : Int) := by omega
          have HBY : Hid (Sha.Byt (Nm.gq L i)) := Nm.gq_byt HL.out (HFA.out _ HB.out.1).bp.bat.1
          generalize hwL : wr = wM at *
          clear hwL
          go_wp2
          go_loopw [8] (fun v8 wr => ∃ j : Nat, j ≤ k ∧ v8 = .int .i64 j ∧ Hid (StAt wr g b c (Nm.stl L k)) ∧ Hid (Got N2 wr (.slice (some ⟨gs, 0, none⟩) k cs) k (Nm.gq L)) ∧ Hid (Below w.heap.size w wr ∧ N2 ≤ wr.heap.size)) (fun v8 _ => k - (intOf v8).toNat)
          case atStart => exact ⟨0, Nat.zero_le _, rfl, HS.out, HO.out, HB.out⟩
          case round =>
            clear HS HO HB
            obtain ⟨j, hj', rfl, HS, HO, HB⟩ := hrel
            by_cases hlj : j < k
            · obtain ⟨z, hz⟩ : ∃ z, L[j]? = some z := ⟨L[j]'(by rw [HN.out]; exact hlj), List.getElem?_eq_getElem _⟩
              obtain ⟨tb', tf', zh, zch, zp, zcp, ej, hrow⟩ := HROW.out j z hz
              obtain ⟨rfl, rfl⟩ : tb = tb' ∧ tf = tf' := by cases ej; exact ⟨rfl, rfl⟩
              clear ej
              have HFZ := Lib.hid hrow; clear hrow
              have HZS := Lib.hid (HSM.out.2 z (List.mem_of_getElem? hz))
              have j0' : 0 ≤ (j : Int) := by omega
              have j1' : (j : Int) < (k : Int) := by omega
              have D1 : Hid (Below wr.heap.size wr wr) := Below.refl _ _
              have HWR : Hid (∀ y, Below wr.heap.size wr y → Below w.heap.size w y) := fun y hy => HB.out.1.trans (hy.mono HB.out.1.size)
              have HFI : Hid (∀ y, Below wr.heap.size wr y → FourAt y tb (tf + i * 4) x xh xch xp xcp) := fun y hy => HFA.out _ (HWR.out _ hy)
              have HFJ : Hid (∀ y, Below wr.heap.size wr y → FourAt y tb (tf + j * 4) z zh zch zp zcp) := fun y hy => HFZ.out _ (HWR.out _ hy)
              have HST : Hid (∀ y, Below wr.heap.size wr y → StAt y g b c (Nm.stl L k)) := fun y hy => HS.out.old hy
              have HGT : Hid (∀ y, Below wr.heap.size wr y → Got N2 y (.slice (some ⟨gs, 0, none⟩) k cs) k (Nm.gq L)) := fun y hy => HO.out.old hy
              have HBN : Hid (∀ y, Below wr.heap.size wr y → Below w.heap.size w y ∧ N2 ≤ y.heap.size) := fun y hy => ⟨HWR.out _ hy, Nat.le_trans HB.out.2 hy.size⟩
              obtain ⟨pi, mi, ci, hgi1, hgi2, hgi3⟩ := HO.out.at hlt
              obtain ⟨pj, mj, cj, hgj1, hgj2, hgj3⟩ := HO.out.at hlj
              have HMI := Lib.hid hgi2
              have HMJ := Lib.hid hgj2
              have HBZ : Hid (Sha.Byt (Nm.gq L j)) := Nm.gq_byt hz (HFJ.out _ D1.out).bp.bat.1
              have HGI : Hid (∀ y, Below wr.heap.size wr y → y.cell? ⟨gs, i, none⟩ = some (.slice pi mi ci) ∧ Bs y pi ci (Nm.gq L i)) := fun y hy => by
                obtain ⟨p', c', h1, h2, h3⟩ := own_bs (own_keepX hgi3 hy) HBY.out
                cases h1
                exact ⟨(hy.cell (World.block_lt_of_cell? _ _ hgi1)).trans hgi1, h2⟩
              have HGJ : Hid (∀ y, Below wr.heap.size wr y → y.cell? ⟨gs, j, none⟩ = some (.slice pj mj cj) ∧ Bs y pj cj (Nm.gq L j)) := fun y hy => by
                obtain ⟨p', c', h1, h2, h3⟩ := own_bs (own_keepX hgj3 hy) HBZ.out
                cases h1
                exact ⟨(hy.cell (World.block_lt_of_cell? _ _ hgj1)).trans hgj1, h2⟩
              have HMIL : Hid (mi ≤ 10000) := by show _ ≤ _; have h1 := E3.out; rw [HMI.out] at h1; have := HXS.out; split at h1 <;> omega
              clear hgi1 hgi2 hgi3 hgj1 hgj2 hgj3 HS HO HB
              have HMAYX : Hid (∀ y, Below wr.heap.size wr y → Calls Try.prog 26 #[.agg #[.int .i64 x.1, .int .i64 x.2.1, .slice xh x.2.2.1.length xch, .slice xp x.2.2.2.length xcp]] y (EqSay (Nm.may x) y)) := fun y _ => may_any x _ _ y
              have F0 := HFI.out _ D1.out
              have c0 := F0.c0
              have c1 := F0.c1
              have c2 := F0.c2
              have c3 := F0.c3
              clear F0
              cases hmx : Nm.may x with
              | false =>
                rw [hmx] at HMAYX
                go_wp2_with (go_at_call 26; refine (HMAYX.out _ D1.out).mono ?_; rintro e2 w2 ⟨rfl, hb2⟩)
                exact ⟨⟨j + 1, by omega, by go_num, HST.out _ hb2, HGT.out _ hb2, HBN.out _ hb2⟩, by simp [intOf]; omega⟩
              | true =>
                rw [hmx] at HMAYX
                have HOP := Lib.hid (Nm.gq_open (by rw [HN.out]; omega) HL.out hmx z)
                rw [HN.out] at HOP
                obtain ⟨O, HO1⟩ : ∃ O, Hid (Nm.opn (Nm.stl L k) z.1 z.2.1 z.2.2.1 (Nm.gq L i) = O) := ⟨_, rfl⟩
                have HIS : Hid (O.isSome = Nm.hd z x) := by show _ = _; rw [← HO1.out, HOP.out]; cases Nm.hd z x <;> rfl
                have HOG : Hid (Nm.hd z x = true → O.getD [] = x.2.2.2) := fun q => by rw [← HO1.out, HOP.out, if_pos q]; rfl
                clear HOP
                go_upto_region 19 with (go_at_call 26; refine (HMAYX.out _ D1.out).mono ?_; rintro e2 w2 ⟨rfl, hb2⟩; have D2 := Lib.hid hb2; clear hb2)
                clear c0 c1 c2 c3
                go_region_held3 (fun y => y.cell? ⟨tb, tf + j * 4, none⟩ = some (.int .i64 z.1) ∧ y.cell? ⟨tb, tf + j * 4 + 1, none⟩ = some (.int .i64 z.2.1) ∧ y.cell? ⟨tb, tf + j * 4 + 2, none⟩ = some (.slice zh z.2.2.1.length zch) ∧ y.cell? ⟨gs, i, none⟩ = some (.slice pi mi ci))
                  (exact (fun q r => ⟨q.c0, q.c1, q.c2, r.1⟩) (HFJ.out _ (by first | exact Hid.out (by assumption) | exact D2.out.drew)) (HGI.out _ (by first | exact Hid.out (by assumption) | exact D2.out.drew)))
                  (first
                    | (go_at_call 20; refine (open_any (Nm.stl L k) z.1 z.2.1 z.2.2.1 (Nm.gq L i) g b c zh pi _ mi zch ci rfl HMI.out (by have := HMIL.out; omega) (HFJ.out _ D1.out).i1 (HFJ.out _ D1.out).i2 _ (HST.out _ D2.out.drew) (HFJ.out _ D2.out.drew).bh (HGI.out _ D2.out.drew).2).mono ?_; rw [HO1.out]; rintro e3 w3 ⟨p3, k3, m3, rfl, hm3, _, P3, hb3⟩; rw [HIS.out]; have HM3 := Lib.hid hm3; have D3 : Hid (Below wr.heap.size wr w3) := D2.out.drew.trans (hb3.mono D2.out.size); clear hm3 hb3))
                have HP3 : Hid (∀ y, Below w3.heap.size w3 y → Bs y p3 k3 (O.getD [])) := fun y hy => P3.out.old hy
                have HDD : Hid (∀ y, Below w3.heap.size w3 y → Below wr.heap.size wr y) := fun y hy => D3.out.trans (hy.mono D3.out.size)
                have D4 : Hid (Below w3.heap.size w3 w3) := Below.refl _ _
                clear D2 P3
                go_upto_region 20 with (fail)
                go_cut [11] from 119 to 155 (fun v11 y => v11 = .bool (Nm.hd z x) ∧ Hid (Below w3.heap.size w3 y))
                case first =>
                  have HHD := Lib.hid (Nm.hd_eq z x)
                  have HSD : Hid (∀ y, Below w3.heap.size w3 y → y.cell? ⟨tb, tf + i * 4, none⟩ = some (.int .i64 x.1) ∧ y.cell? ⟨tb, tf + i * 4 + 1, none⟩ = some (.int .i64 x.2.1) ∧ y.cell? ⟨tb, tf + i * 4 + 2, none⟩ = some (.slice xh x.2.2.1.length xch) ∧ y.cell? ⟨tb, tf + j * 4, none⟩ = some (.int .i64 z.1) ∧ y.cell? ⟨tb, tf + j * 4 + 1, none⟩ = some (.int .i64 z.2.1) ∧ y.cell? ⟨tb, tf + j * 4 + 2, none⟩ = some (.slice zh z.2.2.1.length zch)) := fun y hy => (fun q r => ⟨q.c0, q.c1, q.c2, r.c0, r.c1, r.c2⟩) (HFI.out _ (HDD.out _ hy)) (HFJ.out _ (HDD.out _ hy))
                  have HSH : Hid (∀ y, Below w3.heap.size w3 y → Calls Try.prog 18 #[.slice zh z.2.2.1.length zch, .slice xh x.2.2.1.length xch] y (EqSay (decide (z.2.2.1 = x.2.2.1)) y)) := fun y hy => same_all z.2.2.1 x.2.2.1 _ _ _ _ _ _ rfl rfl y (HFJ.out _ (HDD.out _ hy)).bh.bat (HFI.out _ (HDD.out _ hy)).bh.bat (by have := HZS.out; omega)
                  cases he1 : (z.1 == x.1) with
                  | false =>
                    as_aux_lemma =>
                      refine wp_region_any (by kernel_rfl) ?_
                      change wpAny _ _ _ _ _ _ _ (World.drew _)
                      have D0 : Hid (Below w3.heap.size w3 w3.drew) := D4.out.drew
                      generalize w3.drew = z0 at *
                      refine wpAny_of_held (S := (fun y => y.cell? ⟨tb, tf + i * 4, none⟩ = some (.int .i64 x.1) ∧ y.cell? ⟨tb, tf + i * 4 + 1, none⟩ = some (.int .i64 x.2.1) ∧ y.cell? ⟨tb, tf + i * 4 + 2, none⟩ = some (.slice xh x.2.2.1.length xch) ∧ y.cell? ⟨tb, tf + j * 4, none⟩ = some (.int .i64 z.1) ∧ y.cell? ⟨tb, tf + j * 4 + 1, none⟩ = some (.int .i64 z.2.1) ∧ y.cell? ⟨tb, tf + j * 4 + 2, none⟩ = some (.slice zh z.2.2.1.length zch))) _ _ _ _ ?_
                      have SD0 := Lib.hid (HSD.out _ D0.out)
                      refine anyH_take 0 119 (.slice (some ⟨tb, tf, none⟩) k cap) SD0.out rfl (by kernel_rfl) (by kernel_rfl) (by kernel_rfl) (fun _ _ _ h => h) (by rfl) (by intro x hx; obtain ⟨y0, y1, y2, y3, y4, y5⟩ := hx; go_simp; try (intro h; omega)) ?_
                      try simp only [Act.put, List.setIfInBounds_toArray, List.set_cons_zero, List.set_cons_succ]
                      refine anyH_take 1 120 (.int .i64 (j : Int)) SD0.out rfl (by kernel_rfl) (by kernel_rfl) (by kernel_rfl) (fun _ _ _ h => h) (by rfl) (by intro x hx; obtain ⟨y0, y1, y2, y3, y4, y5⟩ := hx; go_simp; try (intro h; omega)) ?_
                      try simp only [Act.put, List.setIfInBounds_toArray, List.set_cons_zero, List.set_cons_succ]
                      refine anyH_take 2 121 (.pointer (some ⟨tb, tf + j * 4, none⟩)) SD0.out rfl (by kernel_rfl) (by kernel_rfl) (by kernel_rfl) (fun _ _ _ h => h) (by rfl) (by intro x hx; obtain ⟨y0, y1, y2, y3, y4, y5⟩ := hx; go_simp; try (intro h; omega)) ?_
                      try simp only [Act.put, List.setIfInBounds_toArray, List.set_cons_zero, List.set_cons_succ]
                      refine anyH_take 3 122 (.pointer (some ⟨tb, tf + j * 4, none⟩)) SD0.out rfl (by kernel_rfl) (by kernel_rfl) (by kernel_rfl) (fun _ _ _ h => h) (by rfl) (by intro x hx; obtain ⟨y0, y1, y2, y3, y4, y5⟩ := hx; go_simp; try (intro h; omega)) ?_
                      try simp only [Act.put, List.setIfInBounds_toArray, List.set_cons_zero, List.set_cons_succ]
                      refine anyH_take 4 123 (.int .i64 z.1) SD0.out rfl (by kernel_rfl) (by kernel_rfl) (by kernel_rfl) (fun _ _ _ h => h) (by rfl) (by intro x hx; obtain ⟨y0, y1, y2, y3, y4, y5⟩ := hx; go_simp; try (intro h; omega)) ?_
                      try simp only [Act.put, List.setIfInBounds_toArray, List.set_cons_zero, List.set_cons_succ]
                      refine anyH_take 5 124 (.slice (some ⟨tb, tf, none⟩) k cap) SD0.out rfl (by kernel_rfl) (by kernel_rfl) (by kernel_rfl) (fun _ _ _ h => h) (by rfl) (by intro x hx; obtain ⟨y0, y1, y2, y3, y4, y5⟩ := hx; go_simp; try (intro h; omega)) ?_
                      try simp only [Act.put, List.setIfInBounds_toArray, List.set_cons_zero, List.set_cons_succ]
                      refine anyH_take 6 125 (.int .i64 (i : Int)) SD0.out rfl (by kernel_rfl) (by kernel_rfl) (by kernel_rfl) (fun _ _ _ h => h) (by rfl) (by intro x hx; obtain ⟨y0, y1, y2, y3, y4, y5⟩ := hx; go_simp; try (intro h; omega)) ?_
                      try simp only [Act.put, List.setIfInBounds_toArray, List.set_cons_zero, List.set_cons_succ]
                      refine anyH_take 7 126 (.pointer (some ⟨tb, tf + i * 4, none⟩)) SD0.out rfl (by kernel_rfl) (by kernel_rfl) (by kernel_rfl) (fun _ _ _ h => h) (by rfl) (by intro x hx; obtain ⟨y0, y1, y2, y3, y4, y5⟩ := hx; go_simp; try (intro h; omega)) ?_
                      try simp only [Act.put, List.setIfInBounds_toArray, List.set_cons_zero, List.set_cons_succ]
                      refine anyH_take 8 127 (.pointer (some ⟨tb, tf + i * 4, none⟩)) SD0.out rfl (by kernel_rfl) (by kernel_rfl) (by kernel_rfl) (fun _ _ _ h => h) (by rfl) (by intro x hx; obtain ⟨y0, y1, y2, y3, y4, y5⟩ := hx; go_simp; try (intro h; omega)) ?_
                      try simp only [Act.put, List.setIfInBounds_toArray, List.set_cons_zero, List.set_cons_succ]
                      refine anyH_take 9 128 (.int .i64 x.1) SD0.out rfl (by kernel_rfl) (by kernel_rfl) (by kernel_rfl) (fun _ _ _ h => h) (by rfl) (by intro x hx; obtain ⟨y0, y1, y2, y3, y4, y5⟩ := hx; go_simp; try (intro h; omega)) ?_
                      try simp only [Act.put, List.setIfInBounds_toArray, List.set_cons_zero, List.set_cons_succ]
                      refine anyH_take 10 129 (.bool false) SD0.out rfl (by kernel_rfl) (by kernel_rfl) (by kernel_rfl) (fun _ _ _ h => h) (by rfl) (by intro x hx; obtain ⟨y0, y1, y2, y3, y4, y5⟩ := hx; go_simp; try (intro h; omega)) ?_
                      try simp only [Act.put, List.setIfInBounds_toArray, List.set_cons_zero, List.set_cons_succ]
                      refine anyH_take 11 130 (.bool false) SD0.out rfl (by kernel_rfl) (by kernel_rfl) (by kernel_rfl) (fun _ _ _ h => h) (by rfl) (by intro x hx; obtain ⟨y0, y1, y2, y3, y4, y5⟩ := hx; go_simp; try (intro h; omega)) ?_
                      try simp only [Act.put, List.setIfInBounds_toArray, List.set_cons_zero, List.set_cons_succ]
                      refine anyH_skip 12 131 SD0.out rfl (by kernel_rfl) (by kernel_rfl) (by kernel_rfl) (fun _ _ _ h => h) (by rfl) ?_
                      try simp only [Act.put, List.setIfInBounds_toArray, List.set_cons_zero, List.set_cons_succ]
                      refine anyH_skip 13 132 SD0.out rfl (by kernel_rfl) (by kernel_rfl) (by kernel_rfl) (fun _ _ _ h => h) (by rfl) ?_
                      try simp only [Act.put, List.setIfInBounds_toArray, List.set_cons_zero, List.set_cons_succ]
                      refine anyH_skip 14 133 SD0.out rfl (by kernel_rfl) (by kernel_rfl) (by kernel_rfl) (fun _ _ _ h => h) (by rfl) ?_
                      try simp only [Act.put, List.setIfInBounds_toArray, List.set_cons_zero, List.set_cons_succ]
                      refine anyH_skip 15 134 SD0.out rfl (by kernel_rfl) (by kernel_rfl) (by kernel_rfl) (fun _ _ _ h => h) (by rfl) ?_
                      try simp only [Act.put, List.setIfInBounds_toArray, List.set_cons_zero, List.set_cons_succ]
                      refine anyH_skip 16 135 SD0.out rfl (by kernel_rfl) (by kernel_rfl) (by kernel_rfl) (fun _ _ _ h => h) (by rfl) ?_
                      try simp only [Act.put, List.setIfInBounds_toArray, List.set_cons_zero, List.set_cons_succ]
                      refine anyH_skip 17 136 SD0.out rfl (by kernel_rfl) (by kernel_rfl) (by kernel_rfl) (fun _ _ _ h => h) (by rfl) ?_
                      try simp only [Act.put, List.setIfInBounds_toArray, List.set_cons_zero, List.set_cons_succ]
                      refine anyH_skip 18 137 SD0.out rfl (by kernel_rfl) (by kernel_rfl) (by kernel_rfl) (fun _ _ _ h => h) (by rfl) ?_
                      try simp only [Act.put, List.setIfInBounds_toArray, List.set_cons_zero, List.set_cons_succ]
                      refine anyH_skip 19 138 SD0.out rfl (by kernel_rfl) (by kernel_rfl) (by kernel_rfl) (fun _ _ _ h => h) (by rfl) ?_
                      try simp only [Act.put, List.setIfInBounds_toArray, List.set_cons_zero, List.set_cons_succ]
                      refine anyH_skip 20 139 SD0.out rfl (by kernel_rfl) (by kernel_rfl) (by kernel_rfl) (fun _ _ _ h => h) (by rfl) ?_
                      try simp only [Act.put, List.setIfInBounds_toArray, List.set_cons_zero, List.set_cons_succ]
                      refine anyH_skip 21 140 SD0.out rfl (by kernel_rfl) (by kernel_rfl) (by kernel_rfl) (fun _ _ _ h => h) (by rfl) ?_
                      try simp only [Act.put, List.setIfInBounds_toArray, List.set_cons_zero, List.set_cons_succ]
                      refine anyH_skip 22 141 SD0.out rfl (by kernel_rfl) (by kernel_rfl) (by kernel_rfl) (fun _ _ _ h => h) (by rfl) ?_
                      try simp only [Act.put, List.setIfInBounds_toArray, List.set_cons_zero, List.set_cons_succ]
                      refine anyH_take 23 142 (.bool false) SD0.out rfl (by kernel_rfl) (by kernel_rfl) (by kernel_rfl) (fun _ _ _ h => h) (by rfl) (by intro x hx; obtain ⟨y0, y1, y2, y3, y4, y5⟩ := hx; go_simp; try (intro h; omega)) ?_
                      try simp only [Act.put, List.setIfInBounds_toArray, List.set_cons_zero, List.set_cons_succ]
                      refine anyH_take 24 143 (.bool false) SD0.out rfl (by kernel_rfl) (by kernel_rfl) (by kernel_rfl) (fun _ _ _ h => h) (by rfl) (by intro x hx; obtain ⟨y0, y1, y2, y3, y4, y5⟩ := hx; go_simp; try (intro h; omega)) ?_
                      try simp only [Act.put, List.setIfInBounds_toArray, List.set_cons_zero, List.set_cons_succ]
                      refine anyH_skip 25 144 SD0.out rfl (by kernel_rfl) (by kernel_rfl) (by kernel_rfl) (fun _ _ _ h => h) (by rfl) ?_
                      try simp only [Act.put, List.setIfInBounds_toArray, List.set_cons_zero, List.set_cons_succ]
                      refine anyH_skip 26 145 SD0.out rfl (by kernel_rfl) (by kernel_rfl) (by kernel_rfl) (fun _ _ _ h => h) (by rfl) ?_
                      try simp only [Act.put, List.setIfInBounds_toArray, List.set_cons_zero, List.set_cons_succ]
                      refine anyH_skip 27 146 SD0.out rfl (by kernel_rfl) (by kernel_rfl) (by kernel_rfl) (fun _ _ _ h => h) (by rfl) ?_
                      try simp only [Act.put, List.setIfInBounds_toArray, List.set_cons_zero, List.set_cons_succ]
                      refine anyH_skip 28 147 SD0.out rfl (by kernel_rfl) (by kernel_rfl) (by kernel_rfl) (fun _ _ _ h => h) (by rfl) ?_
                      try simp only [Act.put, List.setIfInBounds_toArray, List.set_cons_zero, List.set_cons_succ]
                      refine anyH_skip 29 148 SD0.out rfl (by kernel_rfl) (by kernel_rfl) (by kernel_rfl) (fun _ _ _ h => h) (by rfl) ?_
                      try simp only [Act.put, List.setIfInBounds_toArray, List.set_cons_zero, List.set_cons_succ]
                      refine anyH_skip 30 149 SD0.out rfl (by kernel_rfl) (by kernel_rfl) (by kernel_rfl) (fun _ _ _ h => h) (by rfl) ?_
                      try simp only [Act.put, List.setIfInBounds_toArray, List.set_cons_zero, List.set_cons_succ]
                      refine anyH_skip 31 150 SD0.out rfl (by kernel_rfl) (by kernel_rfl) (by kernel_rfl) (fun _ _ _ h => h) (by rfl) ?_
                      try simp only [Act.put, List.setIfInBounds_toArray, List.set_cons_zero, List.set_cons_succ]
                      refine anyH_skip 32 151 SD0.out rfl (by kernel_rfl) (by kernel_rfl) (by kernel_rfl) (fun _ _ _ h => h) (by rfl) ?_
                      try simp only [Act.put, List.setIfInBounds_toArray, List.set_cons_zero, List.set_cons_succ]
                      refine anyH_skip 33 152 SD0.out rfl (by kernel_rfl) (by kernel_rfl) (by kernel_rfl) (fun _ _ _ h => h) (by rfl) ?_
                      try simp only [Act.put, List.setIfInBounds_toArray, List.set_cons_zero, List.set_cons_succ]
                      refine anyH_skip 34 153 SD0.out rfl (by kernel_rfl) (by kernel_rfl) (by kernel_rfl) (fun _ _ _ h => h) (by rfl) ?_
                      try simp only [Act.put, List.setIfInBounds_toArray, List.set_cons_zero, List.set_cons_succ]
                      refine anyH_skip 35 154 SD0.out rfl (by kernel_rfl) (by kernel_rfl) (by kernel_rfl) (fun _ _ _ h => h) (by rfl) ?_
                      try simp only [Act.put, List.setIfInBounds_toArray, List.set_cons_zero, List.set_cons_succ]
                      refine anyH_take 36 155 (.bool false) SD0.out rfl (by kernel_rfl) (by kernel_rfl) (by kernel_rfl) (fun _ _ _ h => h) (by rfl) (by intro x hx; obtain ⟨y0, y1, y2, y3, y4, y5⟩ := hx; go_simp; try (intro h; omega)) ?_
                      try simp only [Act.put, List.setIfInBounds_toArray, List.set_cons_zero, List.set_cons_succ]
                      refine anyH_take 37 11 (.bool false) SD0.out rfl (by kernel_rfl) (by kernel_rfl) (by kernel_rfl) (fun _ _ _ h => h) (by rfl) (by intro x hx; obtain ⟨y0, y1, y2, y3, y4, y5⟩ := hx; go_simp; try (intro h; omega)) ?_
                      try simp only [Act.put, List.setIfInBounds_toArray, List.set_cons_zero, List.set_cons_succ]
                      refine wpAnyH_done (by kernel_rfl) ?_ _
                      go_wp2
                      go_meet
                      case rel => exact ⟨by rw [HHD.out, he1]; rfl, D0.out⟩
                  | true =>
                    cases hn1 : (z.2.1 == x.2.1) with
                    | false =>
                      as_aux_lemma =>
                        refine wp_region_any (by kernel_rfl) ?_
                        change wpAny _ _ _ _ _ _ _ (World.drew _)
                        have D0 : Hid (Below w3.heap.size w3 w3.drew) := D4.out.drew
                        generalize w3.drew = z0 at *
                        refine wpAny_of_held (S := (fun y => y.cell? ⟨tb, tf + i * 4, none⟩ = some (.int .i64 x.1) ∧ y.cell? ⟨tb, tf + i * 4 + 1, none⟩ = some (.int .i64 x.2.1) ∧ y.cell? ⟨tb, tf + i * 4 + 2, none⟩ = some (.slice xh x.2.2.1.length xch) ∧ y.cell? ⟨tb, tf + j * 4, none⟩ = some (.int .i64 z.1) ∧ y.cell? ⟨tb, tf + j * 4 + 1, none⟩ = some (.int .i64 z.2.1) ∧ y.cell? ⟨tb, tf + j * 4 + 2, none⟩ = some (.slice zh z.2.2.1.length zch))) _ _ _ _ ?_
                        have SD0 := Lib.hid (HSD.out _ D0.out)
                        refine anyH_take 0 119 (.slice (some ⟨tb, tf, none⟩) k cap) SD0.out rfl (by kernel_rfl) (by kernel_rfl) (by kernel_rfl) (fun _ _ _ h => h) (by rfl) (by intro x hx; obtain ⟨y0, y1, y2, y3, y4, y5⟩ := hx; go_simp; try (intro h; omega)) ?_
                        try simp only [Act.put, List.setIfInBounds_toArray, List.set_cons_zero, List.set_cons_succ]
                        refine anyH_take 1 120 (.int .i64 (j : Int)) SD0.out rfl (by kernel_rfl) (by kernel_rfl) (by kernel_rfl) (fun _ _ _ h => h) (by rfl) (by intro x hx; obtain ⟨y0, y1, y2, y3, y4, y5⟩ := hx; go_simp; try (intro h; omega)) ?_
                        try simp only [Act.put, List.setIfInBounds_toArray, List.set_cons_zero, List.set_cons_succ]
                        refine anyH_take 2 121 (.pointer (some ⟨tb, tf + j * 4, none⟩)) SD0.out rfl (by kernel_rfl) (by kernel_rfl) (by kernel_rfl) (fun _ _ _ h => h) (by rfl) (by intro x hx; obtain ⟨y0, y1, y2, y3, y4, y5⟩ := hx; go_simp; try (intro h; omega)) ?_
                        try simp only [Act.put, List.setIfInBounds_toArray, List.set_cons_zero, List.set_cons_succ]
                        refine anyH_take 3 122 (.pointer (some ⟨tb, tf + j * 4, none⟩)) SD0.out rfl (by kernel_rfl) (by kernel_rfl) (by kernel_rfl) (fun _ _ _ h => h) (by rfl) (by intro x hx; obtain ⟨y0, y1, y2, y3, y4, y5⟩ := hx; go_simp; try (intro h; omega)) ?_
                        try simp only [Act.put, List.setIfInBounds_toArray, List.set_cons_zero, List.set_cons_succ]
                        refine anyH_take 4 123 (.int .i64 z.1) SD0.out rfl (by kernel_rfl) (by kernel_rfl) (by kernel_rfl) (fun _ _ _ h => h) (by rfl) (by intro x hx; obtain ⟨y0, y1, y2, y3, y4, y5⟩ := hx; go_simp; try (intro h; omega)) ?_
                        try simp only [Act.put, List.setIfInBounds_toArray, List.set_cons_zero, List.set_cons_succ]
                        refine anyH_take 5 124 (.slice (some ⟨tb, tf, none⟩) k cap) SD0.out rfl (by kernel_rfl) (by kernel_rfl) (by kernel_rfl) (fun _ _ _ h => h) (by rfl) (by intro x hx; obtain ⟨y0, y1, y2, y3, y4, y5⟩ := hx; go_simp; try (intro h; omega)) ?_
                        try simp only [Act.put, List.setIfInBounds_toArray, List.set_cons_zero, List.set_cons_succ]
                        refine anyH_take 6 125 (.int .i64 (i : Int)) SD0.out rfl (by kernel_rfl) (by kernel_rfl) (by kernel_rfl) (fun _ _ _ h => h) (by rfl) (by intro x hx; obtain ⟨y0, y1, y2, y3, y4, y5⟩ := hx; go_simp; try (intro h; omega)) ?_
                        try simp only [Act.put, List.setIfInBounds_toArray, List.set_cons_zero, List.set_cons_succ]
                        refine anyH_take 7 126 (.pointer (some ⟨tb, tf + i * 4, none⟩)) SD0.out rfl (by kernel_rfl) (by kernel_rfl) (by kernel_rfl) (fun _ _ _ h => h) (by rfl) (by intro x hx; obtain ⟨y0, y1, y2, y3, y4, y5⟩ := hx; go_simp; try (intro h; omega)) ?_
                        try simp only [Act.put, List.setIfInBounds_toArray, List.set_cons_zero, List.set_cons_succ]
                        refine anyH_take 8 127 (.pointer (some ⟨tb, tf + i * 4, none⟩)) SD0.out rfl (by kernel_rfl) (by kernel_rfl) (by kernel_rfl) (fun _ _ _ h => h) (by rfl) (by intro x hx; obtain ⟨y0, y1, y2, y3, y4, y5⟩ := hx; go_simp; try (intro h; omega)) ?_
                        try simp only [Act.put, List.setIfInBounds_toArray, List.set_cons_zero, List.set_cons_succ]
                        refine anyH_take 9 128 (.int .i64 x.1) SD0.out rfl (by kernel_rfl) (by kernel_rfl) (by kernel_rfl) (fun _ _ _ h => h) (by rfl) (by intro x hx; obtain ⟨y0, y1, y2, y3, y4, y5⟩ := hx; go_simp; try (intro h; omega)) ?_
                        try simp only [Act.put, List.setIfInBounds_toArray, List.set_cons_zero, List.set_cons_succ]
                        refine anyH_take 10 129 (.bool true) SD0.out rfl (by kernel_rfl) (by kernel_rfl) (by kernel_rfl) (fun _ _ _ h => h) (by rfl) (by intro x hx; obtain ⟨y0, y1, y2, y3, y4, y5⟩ := hx; go_simp; try (intro h; omega)) ?_
                        try simp only [Act.put, List.setIfInBounds_toArray, List.set_cons_zero, List.set_cons_succ]
                        refine anyH_take 11 130 (.bool true) SD0.out rfl (by kernel_rfl) (by kernel_rfl) (by kernel_rfl) (fun _ _ _ h => h) (by rfl) (by intro x hx; obtain ⟨y0, y1, y2, y3, y4, y5⟩ := hx; go_simp; try (intro h; omega)) ?_
                        try simp only [Act.put, List.setIfInBounds_toArray, List.set_cons_zero, List.set_cons_succ]
                        refine anyH_take 12 131 (.slice (some ⟨tb, tf, none⟩) k cap) SD0.out rfl (by kernel_rfl) (by kernel_rfl) (by kernel_rfl) (fun _ _ _ h => h) (by rfl) (by intro x hx; obtain ⟨y0, y1, y2, y3, y4, y5⟩ := hx; go_simp; try (intro h; omega)) ?_
                        try simp only [Act.put, List.setIfInBounds_toArray, List.set_cons_zero, List.set_cons_succ]
                        refine anyH_take 13 132 (.int .i64 (j : Int)) SD0.out rfl (by kernel_rfl) (by kernel_rfl) (by kernel_rfl) (fun _ _ _ h => h) (by rfl) (by intro x hx; obtain ⟨y0, y1, y2, y3, y4, y5⟩ := hx; go_simp; try (intro h; omega)) ?_
                        try simp only [Act.put, List.setIfInBounds_toArray, List.set_cons_zero, List.set_cons_succ]
                        refine anyH_take 14 133 (.pointer (some ⟨tb, tf + j * 4, none⟩)) SD0.out rfl (by kernel_rfl) (by kernel_rfl) (by kernel_rfl) (fun _ _ _ h => h) (by rfl) (by intro x hx; obtain ⟨y0, y1, y2, y3, y4, y5⟩ := hx; go_simp; try (intro h; omega)) ?_
                        try simp only [Act.put, List.setIfInBounds_toArray, List.set_cons_zero, List.set_cons_succ]
                        refine anyH_take 15 134 (.pointer (some ⟨tb, tf + j * 4 + 1, none⟩)) SD0.out rfl (by kernel_rfl) (by kernel_rfl) (by kernel_rfl) (fun _ _ _ h => h) (by rfl) (by intro x hx; obtain ⟨y0, y1, y2, y3, y4, y5⟩ := hx; go_simp; try (intro h; omega)) ?_
                        try simp only [Act.put, List.setIfInBounds_toArray, List.set_cons_zero, List.set_cons_succ]
                        refine anyH_take 16 135 (.int .i64 z.2.1) SD0.out rfl (by kernel_rfl) (by kernel_rfl) (by kernel_rfl) (fun _ _ _ h => h) (by rfl) (by intro x hx; obtain ⟨y0, y1, y2, y3, y4, y5⟩ := hx; go_simp; try (intro h; omega)) ?_
                        try simp only [Act.put, List.setIfInBounds_toArray, List.set_cons_zero, List.set_cons_succ]
                        refine anyH_take 17 136 (.slice (some ⟨tb, tf, none⟩) k cap) SD0.out rfl (by kernel_rfl) (by kernel_rfl) (by kernel_rfl) (fun _ _ _ h => h) (by rfl) (by intro x hx; obtain ⟨y0, y1, y2, y3, y4, y5⟩ := hx; go_simp; try (intro h; omega)) ?_
                        try simp only [Act.put, List.setIfInBounds_toArray, List.set_cons_zero, List.set_cons_succ]
                        refine anyH_take 18 137 (.int .i64 (i : Int)) SD0.out rfl (by kernel_rfl) (by kernel_rfl) (by kernel_rfl) (fun _ _ _ h => h) (by rfl) (by intro x hx; obtain ⟨y0, y1, y2, y3, y4, y5⟩ := hx; go_simp; try (intro h; omega)) ?_
                        try simp only [Act.put, List.setIfInBounds_toArray, List.set_cons_zero, List.set_cons_succ]
                        refine anyH_take 19 138 (.pointer (some ⟨tb, tf + i * 4, none⟩)) SD0.out rfl (by kernel_rfl) (by kernel_rfl) (by kernel_rfl) (fun _ _ _ h => h) (by rfl) (by intro x hx; obtain ⟨y0, y1, y2, y3, y4, y5⟩ := hx; go_simp; try (intro h; omega)) ?_
                        try simp only [Act.put, List.setIfInBounds_toArray, List.set_cons_zero, List.set_cons_succ]
                        refine anyH_take 20 139 (.pointer (some ⟨tb, tf + i * 4 + 1, none⟩)) SD0.out rfl (by kernel_rfl) (by kernel_rfl) (by kernel_rfl) (fun _ _ _ h => h) (by rfl) (by intro x hx; obtain ⟨y0, y1, y2, y3, y4, y5⟩ := hx; go_simp; try (intro h; omega)) ?_
                        try simp only [Act.put, List.setIfInBounds_toArray, List.set_cons_zero, List.set_cons_succ]
                        refine anyH_take 21 140 (.int .i64 x.2.1) SD0.out rfl (by kernel_rfl) (by kernel_rfl) (by kernel_rfl) (fun _ _ _ h => h) (by rfl) (by intro x hx; obtain ⟨y0, y1, y2, y3, y4, y5⟩ := hx; go_simp; try (intro h; omega)) ?_
                        try simp only [Act.put, List.setIfInBounds_toArray, List.set_cons_zero, List.set_cons_succ]
                        refine anyH_take 22 141 (.bool false) SD0.out rfl (by kernel_rfl) (by kernel_rfl) (by kernel_rfl) (fun _ _ _ h => h) (by rfl) (by intro x hx; obtain ⟨y0, y1, y2, y3, y4, y5⟩ := hx; go_simp; try (intro h; omega)) ?_
                        try simp only [Act.put, List.setIfInBounds_toArray, List.set_cons_zero, List.set_cons_succ]
                        refine anyH_take 23 142 (.bool false) SD0.out rfl (by kernel_rfl) (by kernel_rfl) (by kernel_rfl) (fun _ _ _ h => h) (by rfl) (by intro x hx; obtain ⟨y0, y1, y2, y3, y4, y5⟩ := hx; go_simp; try (intro h; omega)) ?_
                        try simp only [Act.put, List.setIfInBounds_toArray, List.set_cons_zero, List.set_cons_succ]
                        refine anyH_take 24 143 (.bool false) SD0.out rfl (by kernel_rfl) (by kernel_rfl) (by kernel_rfl) (fun _ _ _ h => h) (by rfl) (by intro x hx; obtain ⟨y0, y1, y2, y3, y4, y5⟩ := hx; go_simp; try (intro h; omega)) ?_
                        try simp only [Act.put, List.setIfInBounds_toArray, List.set_cons_zero, List.set_cons_succ]
                        refine anyH_skip 25 144 SD0.out rfl (by kernel_rfl) (by kernel_rfl) (by kernel_rfl) (fun _ _ _ h => h) (by rfl) ?_
                        try simp only [Act.put, List.setIfInBounds_toArray, List.set_cons_zero, List.set_cons_succ]
                        refine anyH_skip 26 145 SD0.out rfl (by kernel_rfl) (by kernel_rfl) (by kernel_rfl) (fun _ _ _ h => h) (by rfl) ?_
                        try simp only [Act.put, List.setIfInBounds_toArray, List.set_cons_zero, List.set_cons_succ]
                        refine anyH_skip 27 146 SD0.out rfl (by kernel_rfl) (by kernel_rfl) (by kernel_rfl) (fun _ _ _ h => h) (by rfl) ?_
                        try simp only [Act.put, List.setIfInBounds_toArray, List.set_cons_zero, List.set_cons_succ]
                        refine anyH_skip 28 147 SD0.out rfl (by kernel_rfl) (by kernel_rfl) (by kernel_rfl) (fun _ _ _ h => h) (by rfl) ?_
                        try simp only [Act.put, List.setIfInBounds_toArray, List.set_cons_zero, List.set_cons_succ]
                        refine anyH_skip 29 148 SD0.out rfl (by kernel_rfl) (by kernel_rfl) (by kernel_rfl) (fun _ _ _ h => h) (by rfl) ?_
                        try simp only [Act.put, List.setIfInBounds_toArray, List.set_cons_zero, List.set_cons_succ]
                        refine anyH_skip 30 149 SD0.out rfl (by kernel_rfl) (by kernel_rfl) (by kernel_rfl) (fun _ _ _ h => h) (by rfl) ?_
                        try simp only [Act.put, List.setIfInBounds_toArray, List.set_cons_zero, List.set_cons_succ]
                        refine anyH_skip 31 150 SD0.out rfl (by kernel_rfl) (by kernel_rfl) (by kernel_rfl) (fun _ _ _ h => h) (by rfl) ?_
                        try simp only [Act.put, List.setIfInBounds_toArray, List.set_cons_zero, List.set_cons_succ]
                        refine anyH_skip 32 151 SD0.out rfl (by kernel_rfl) (by kernel_rfl) (by kernel_rfl) (fun _ _ _ h => h) (by rfl) ?_
                        try simp only [Act.put, List.setIfInBounds_toArray, List.set_cons_zero, List.set_cons_succ]
                        refine anyH_skip 33 152 SD0.out rfl (by kernel_rfl) (by kernel_rfl) (by kernel_rfl) (fun _ _ _ h => h) (by rfl) ?_
                        try simp only [Act.put, List.setIfInBounds_toArray, List.set_cons_zero, List.set_cons_succ]
                        refine anyH_skip 34 153 SD0.out rfl (by kernel_rfl) (by kernel_rfl) (by kernel_rfl) (fun _ _ _ h => h) (by rfl) ?_
                        try simp only [Act.put, List.setIfInBounds_toArray, List.set_cons_zero, List.set_cons_succ]
                        refine anyH_skip 35 154 SD0.out rfl (by kernel_rfl) (by kernel_rfl) (by kernel_rfl) (fun _ _ _ h => h) (by rfl) ?_
                        try simp only [Act.put, List.setIfInBounds_toArray, List.set_cons_zero, List.set_cons_succ]
                        refine anyH_take 36 155 (.bool false) SD0.out rfl (by kernel_rfl) (by kernel_rfl) (by kernel_rfl) (fun _ _ _ h => h) (by rfl) (by intro x hx; obtain ⟨y0, y1, y2, y3, y4, y5⟩ := hx; go_simp; try (intro h; omega)) ?_
                        try simp only [Act.put, List.setIfInBounds_toArray, List.set_cons_zero, List.set_cons_succ]
                        refine anyH_take 37 11 (.bool false) SD0.out rfl (by kernel_rfl) (by kernel_rfl) (by kernel_rfl) (fun _ _ _ h => h) (by rfl) (by intro x hx; obtain ⟨y0, y1, y2, y3, y4, y5⟩ := hx; go_simp; try (intro h; omega)) ?_
                        try simp only [Act.put, List.setIfInBounds_toArray, List.set_cons_zero, List.set_cons_succ]
                        refine wpAnyH_done (by kernel_rfl) ?_ _
                        go_wp2
                        go_meet
                        case rel => exact ⟨by rw [HHD.out, he1, hn1]; rfl, D0.out⟩
                    | true =>
                      as_aux_lemma =>
                        refine wp_region_any (by kernel_rfl) ?_
                        change wpAny _ _ _ _ _ _ _ (World.drew _)
                        have D0 : Hid (Below w3.heap.size w3 w3.drew) := D4.out.drew
                        generalize w3.drew = z0 at *
                        refine wpAny_of_held (S := (fun y => y.cell? ⟨tb, tf + i * 4, none⟩ = some (.int .i64 x.1) ∧ y.cell? ⟨tb, tf + i * 4 + 1, none⟩ = some (.int .i64 x.2.1) ∧ y.cell? ⟨tb, tf + i * 4 + 2, none⟩ = some (.slice xh x.2.2.1.length xch) ∧ y.cell? ⟨tb, tf + j * 4, none⟩ = some (.int .i64 z.1) ∧ y.cell? ⟨tb, tf + j * 4 + 1, none⟩ = some (.int .i64 z.2.1) ∧ y.cell? ⟨tb, tf + j * 4 + 2, none⟩ = some (.slice zh z.2.2.1.length zch))) _ _ _ _ ?_
                        have SD0 := Lib.hid (HSD.out _ D0.out)
                        refine anyH_take 0 119 (.slice (some ⟨tb, tf, none⟩) k cap) SD0.out rfl (by kernel_rfl) (by kernel_rfl) (by kernel_rfl) (fun _ _ _ h => h) (by rfl) (by intro x hx; obtain ⟨y0, y1, y2, y3, y4, y5⟩ := hx; go_simp; try (intro h; omega)) ?_
                        try simp only [Act.put, List.setIfInBounds_toArray, List.set_cons_zero, List.set_cons_succ]
                        refine anyH_take 1 120 (.int .i64 (j : Int)) SD0.out rfl (by kernel_rfl) (by kernel_rfl) (by kernel_rfl) (fun _ _ _ h => h) (by rfl) (by intro x hx; obtain ⟨y0, y1, y2, y3, y4, y5⟩ := hx; go_simp; try (intro h; omega)) ?_
                        try simp only [Act.put, List.setIfInBounds_toArray, List.set_cons_zero, List.set_cons_succ]
                        refine anyH_take 2 121 (.pointer (some ⟨tb, tf + j * 4, none⟩)) SD0.out rfl (by kernel_rfl) (by kernel_rfl) (by kernel_rfl) (fun _ _ _ h => h) (by rfl) (by intro x hx; obtain ⟨y0, y1, y2, y3, y4, y5⟩ := hx; go_simp; try (intro h; omega)) ?_
                        try simp only [Act.put, List.setIfInBounds_toArray, List.set_cons_zero, List.set_cons_succ]
                        refine anyH_take 3 122 (.pointer (some ⟨tb, tf + j * 4, none⟩)) SD0.out rfl (by kernel_rfl) (by kernel_rfl) (by kernel_rfl) (fun _ _ _ h => h) (by rfl) (by intro x hx; obtain ⟨y0, y1, y2, y3, y4, y5⟩ := hx; go_simp; try (intro h; omega)) ?_
                        try simp only [Act.put, List.setIfInBounds_toArray, List.set_cons_zero, List.set_cons_succ]
                        refine anyH_take 4 123 (.int .i64 z.1) SD0.out rfl (by kernel_rfl) (by kernel_rfl) (by kernel_rfl) (fun _ _ _ h => h) (by rfl) (by intro x hx; obtain ⟨y0, y1, y2, y3, y4, y5⟩ := hx; go_simp; try (intro h; omega)) ?_
                        try simp only [Act.put, List.setIfInBounds_toArray, List.set_cons_zero, List.set_cons_succ]
                        refine anyH_take 5 124 (.slice (some ⟨tb, tf, none⟩) k cap) SD0.out rfl (by kernel_rfl) (by kernel_rfl) (by kernel_rfl) (fun _ _ _ h => h) (by rfl) (by intro x hx; obtain ⟨y0, y1, y2, y3, y4, y5⟩ := hx; go_simp; try (intro h; omega)) ?_
                        try simp only [Act.put, List.setIfInBounds_toArray, List.set_cons_zero, List.set_cons_succ]
                        refine anyH_take 6 125 (.int .i64 (i : Int)) SD0.out rfl (by kernel_rfl) (by kernel_rfl) (by kernel_rfl) (fun _ _ _ h => h) (by rfl) (by intro x hx; obtain ⟨y0, y1, y2, y3, y4, y5⟩ := hx; go_simp; try (intro h; omega)) ?_
                        try simp only [Act.put, List.setIfInBounds_toArray, List.set_cons_zero, List.set_cons_succ]
                        refine anyH_take 7 126 (.pointer (some ⟨tb, tf + i * 4, none⟩)) SD0.out rfl (by kernel_rfl) (by kernel_rfl) (by kernel_rfl) (fun _ _ _ h => h) (by rfl) (by intro x hx; obtain ⟨y0, y1, y2, y3, y4, y5⟩ := hx; go_simp; try (intro h; omega)) ?_
                        try simp only [Act.put, List.setIfInBounds_toArray, List.set_cons_zero, List.set_cons_succ]
                        refine anyH_take 8 127 (.pointer (some ⟨tb, tf + i * 4, none⟩)) SD0.out rfl (by kernel_rfl) (by kernel_rfl) (by kernel_rfl) (fun _ _ _ h => h) (by rfl) (by intro x hx; obtain ⟨y0, y1, y2, y3, y4, y5⟩ := hx; go_simp; try (intro h; omega)) ?_
                        try simp only [Act.put, List.setIfInBounds_toArray, List.set_cons_zero, List.set_cons_succ]
                        refine anyH_take 9 128 (.int .i64 x.1) SD0.out rfl (by kernel_rfl) (by kernel_rfl) (by kernel_rfl) (fun _ _ _ h => h) (by rfl) (by intro x hx; obtain ⟨y0, y1, y2, y3, y4, y5⟩ := hx; go_simp; try (intro h; omega)) ?_
                        try simp only [Act.put, List.setIfInBounds_toArray, List.set_cons_zero, List.set_cons_succ]
                        refine anyH_take 10 129 (.bool true) SD0.out rfl (by kernel_rfl) (by kernel_rfl) (by kernel_rfl) (fun _ _ _ h => h) (by rfl) (by intro x hx; obtain ⟨y0, y1, y2, y3, y4, y5⟩ := hx; go_simp; try (intro h; omega)) ?_
                        try simp only [Act.put, List.setIfInBounds_toArray, List.set_cons_zero, List.set_cons_succ]
                        refine anyH_take 11 130 (.bool true) SD0.out rfl (by kernel_rfl) (by kernel_rfl) (by kernel_rfl) (fun _ _ _ h => h) (by rfl) (by intro x hx; obtain ⟨y0, y1, y2, y3, y4, y5⟩ := hx; go_simp; try (intro h; omega)) ?_
                        try simp only [Act.put, List.setIfInBounds_toArray, List.set_cons_zero, List.set_cons_succ]
                        refine anyH_take 12 131 (.slice (some ⟨tb, tf, none⟩) k cap) SD0.out rfl (by kernel_rfl) (by kernel_rfl) (by kernel_rfl) (fun _ _ _ h => h) (by rfl) (by intro x hx; obtain ⟨y0, y1, y2, y3, y4, y5⟩ := hx; go_simp; try (intro h; omega)) ?_
                        try simp only [Act.put, List.setIfInBounds_toArray, List.set_cons_zero, List.set_cons_succ]
                        refine anyH_take 13 132 (.int .i64 (j : Int)) SD0.out rfl (by kernel_rfl) (by kernel_rfl) (by kernel_rfl) (fun _ _ _ h => h) (by rfl) (by intro x hx; obtain ⟨y0, y1, y2, y3, y4, y5⟩ := hx; go_simp; try (intro h; omega)) ?_
                        try simp only [Act.put, List.setIfInBounds_toArray, List.set_cons_zero, List.set_cons_succ]
                        refine anyH_take 14 133 (.pointer (some ⟨tb, tf + j * 4, none⟩)) SD0.out rfl (by kernel_rfl) (by kernel_rfl) (by kernel_rfl) (fun _ _ _ h => h) (by rfl) (by intro x hx; obtain ⟨y0, y1, y2, y3, y4, y5⟩ := hx; go_simp; try (intro h; omega)) ?_
                        try simp only [Act.put, List.setIfInBounds_toArray, List.set_cons_zero, List.set_cons_succ]
                        refine anyH_take 15 134 (.pointer (some ⟨tb, tf + j * 4 + 1, none⟩)) SD0.out rfl (by kernel_rfl) (by kernel_rfl) (by kernel_rfl) (fun _ _ _ h => h) (by rfl) (by intro x hx; obtain ⟨y0, y1, y2, y3, y4, y5⟩ := hx; go_simp; try (intro h; omega)) ?_
                        try simp only [Act.put, List.setIfInBounds_toArray, List.set_cons_zero, List.set_cons_succ]
                        refine anyH_take 16 135 (.int .i64 z.2.1) SD0.out rfl (by kernel_rfl) (by kernel_rfl) (by kernel_rfl) (fun _ _ _ h => h) (by rfl) (by intro x hx; obtain ⟨y0, y1, y2, y3, y4, y5⟩ := hx; go_simp; try (intro h; omega)) ?_
                        try simp only [Act.put, List.setIfInBounds_toArray, List.set_cons_zero, List.set_cons_succ]
                        refine anyH_take 17 136 (.slice (some ⟨tb, tf, none⟩) k cap) SD0.out rfl (by kernel_rfl) (by kernel_rfl) (by kernel_rfl) (fun _ _ _ h => h) (by rfl) (by intro x hx; obtain ⟨y0, y1, y2, y3, y4, y5⟩ := hx; go_simp; try (intro h; omega)) ?_
                        try simp only [Act.put, List.setIfInBounds_toArray, List.set_cons_zero, List.set_cons_succ]
                        refine anyH_take 18 137 (.int .i64 (i : Int)) SD0.out rfl (by kernel_rfl) (by kernel_rfl) (by kernel_rfl) (fun _ _ _ h => h) (by rfl) (by intro x hx; obtain ⟨y0, y1, y2, y3, y4, y5⟩ := hx; go_simp; try (intro h; omega)) ?_
                        try simp only [Act.put, List.setIfInBounds_toArray, List.set_cons_zero, List.set_cons_succ]
                        refine anyH_take 19 138 (.pointer (some ⟨tb, tf + i * 4, none⟩)) SD0.out rfl (by kernel_rfl) (by kernel_rfl) (by kernel_rfl) (fun _ _ _ h => h) (by rfl) (by intro x hx; obtain ⟨y0, y1, y2, y3, y4, y5⟩ := hx; go_simp; try (intro h; omega)) ?_
                        try simp only [Act.put, List.setIfInBounds_toArray, List.set_cons_zero, List.set_cons_succ]
                        refine anyH_take 20 139 (.pointer (some ⟨tb, tf + i * 4 + 1, none⟩)) SD0.out rfl (by kernel_rfl) (by kernel_rfl) (by kernel_rfl) (fun _ _ _ h => h) (by rfl) (by intro x hx; obtain ⟨y0, y1, y2, y3, y4, y5⟩ := hx; go_simp; try (intro h; omega)) ?_
                        try simp only [Act.put, List.setIfInBounds_toArray, List.set_cons_zero, List.set_cons_succ]
                        refine anyH_take 21 140 (.int .i64 x.2.1) SD0.out rfl (by kernel_rfl) (by kernel_rfl) (by kernel_rfl) (fun _ _ _ h => h) (by rfl) (by intro x hx; obtain ⟨y0, y1, y2, y3, y4, y5⟩ := hx; go_simp; try (intro h; omega)) ?_
                        try simp only [Act.put, List.setIfInBounds_toArray, List.set_cons_zero, List.set_cons_succ]
                        refine anyH_take 22 141 (.bool true) SD0.out rfl (by kernel_rfl) (by kernel_rfl) (by kernel_rfl) (fun _ _ _ h => h) (by rfl) (by intro x hx; obtain ⟨y0, y1, y2, y3, y4, y5⟩ := hx; go_simp; try (intro h; omega)) ?_
                        try simp only [Act.put, List.setIfInBounds_toArray, List.set_cons_zero, List.set_cons_succ]
                        refine anyH_take 23 142 (.bool true) SD0.out rfl (by kernel_rfl) (by kernel_rfl) (by kernel_rfl) (fun _ _ _ h => h) (by rfl) (by intro x hx; obtain ⟨y0, y1, y2, y3, y4, y5⟩ := hx; go_simp; try (intro h; omega)) ?_
                        try simp only [Act.put, List.setIfInBounds_toArray, List.set_cons_zero, List.set_cons_succ]
                        refine anyH_take 24 143 (.bool true) SD0.out rfl (by kernel_rfl) (by kernel_rfl) (by kernel_rfl) (fun _ _ _ h => h) (by rfl) (by intro x hx; obtain ⟨y0, y1, y2, y3, y4, y5⟩ := hx; go_simp; try (intro h; omega)) ?_
                        try simp only [Act.put, List.setIfInBounds_toArray, List.set_cons_zero, List.set_cons_succ]
                        refine anyH_take 25 144 (.slice (some ⟨tb, tf, none⟩) k cap) SD0.out rfl (by kernel_rfl) (by kernel_rfl) (by kernel_rfl) (fun _ _ _ h => h) (by rfl) (by intro x hx; obtain ⟨y0, y1, y2, y3, y4, y5⟩ := hx; go_simp; try (intro h; omega)) ?_
                        try simp only [Act.put, List.setIfInBounds_toArray, List.set_cons_zero, List.set_cons_succ]
                        refine anyH_take 26 145 (.int .i64 (j : Int)) SD0.out rfl (by kernel_rfl) (by kernel_rfl) (by kernel_rfl) (fun _ _ _ h => h) (by rfl) (by intro x hx; obtain ⟨y0, y1, y2, y3, y4, y5⟩ := hx; go_simp; try (intro h; omega)) ?_
                        try simp only [Act.put, List.setIfInBounds_toArray, List.set_cons_zero, List.set_cons_succ]
                        refine anyH_take 27 146 (.pointer (some ⟨tb, tf + j * 4, none⟩)) SD0.out rfl (by kernel_rfl) (by kernel_rfl) (by kernel_rfl) (fun _ _ _ h => h) (by rfl) (by intro x hx; obtain ⟨y0, y1, y2, y3, y4, y5⟩ := hx; go_simp; try (intro h; omega)) ?_
                        try simp only [Act.put, List.setIfInBounds_toArray, List.set_cons_zero, List.set_cons_succ]
                        refine anyH_take 28 147 (.pointer (some ⟨tb, tf + j * 4 + 2, none⟩)) SD0.out rfl (by kernel_rfl) (by kernel_rfl) (by kernel_rfl) (fun _ _ _ h => h) (by rfl) (by intro x hx; obtain ⟨y0, y1, y2, y3, y4, y5⟩ := hx; go_simp; try (intro h; omega)) ?_
                        try simp only [Act.put, List.setIfInBounds_toArray, List.set_cons_zero, List.set_cons_succ]
                        refine anyH_take 29 148 (.slice zh z.2.2.1.length zch) SD0.out rfl (by kernel_rfl) (by kernel_rfl) (by kernel_rfl) (fun _ _ _ h => h) (by rfl) (by intro x hx; obtain ⟨y0, y1, y2, y3, y4, y5⟩ := hx; go_simp; try (intro h; omega)) ?_
                        try simp only [Act.put, List.setIfInBounds_toArray, List.set_cons_zero, List.set_cons_succ]
                        refine anyH_take 30 149 (.slice (some ⟨tb, tf, none⟩) k cap) SD0.out rfl (by kernel_rfl) (by kernel_rfl) (by kernel_rfl) (fun _ _ _ h => h) (by rfl) (by intro x hx; obtain ⟨y0, y1, y2, y3, y4, y5⟩ := hx; go_simp; try (intro h; omega)) ?_
                        try simp only [Act.put, List.setIfInBounds_toArray, List.set_cons_zero, List.set_cons_succ]
                        refine anyH_take 31 150 (.int .i64 (i : Int)) SD0.out rfl (by kernel_rfl) (by kernel_rfl) (by kernel_rfl) (fun _ _ _ h => h) (by rfl) (by intro x hx; obtain ⟨y0, y1, y2, y3, y4, y5⟩ := hx; go_simp; try (intro h; omega)) ?_
                        try simp only [Act.put, List.setIfInBounds_toArray, List.set_cons_zero, List.set_cons_succ]
                        refine anyH_take 32 151 (.pointer (some ⟨tb, tf + i * 4, none⟩)) SD0.out rfl (by kernel_rfl) (by kernel_rfl) (by kernel_rfl) (fun _ _ _ h => h) (by rfl) (by intro x hx; obtain ⟨y0, y1, y2, y3, y4, y5⟩ := hx; go_simp; try (intro h; omega)) ?_
                        try simp only [Act.put, List.setIfInBounds_toArray, List.set_cons_zero, List.set_cons_succ]
                        refine anyH_take 33 152 (.pointer (some ⟨tb, tf + i * 4 + 2, none⟩)) SD0.out rfl (by kernel_rfl) (by kernel_rfl) (by kernel_rfl) (fun _ _ _ h => h) (by rfl) (by intro x hx; obtain ⟨y0, y1, y2, y3, y4, y5⟩ := hx; go_simp; try (intro h; omega)) ?_
                        try simp only [Act.put, List.setIfInBounds_toArray, List.set_cons_zero, List.set_cons_succ]
                        refine anyH_take 34 153 (.slice xh x.2.2.1.length xch) SD0.out rfl (by kernel_rfl) (by kernel_rfl) (by kernel_rfl) (fun _ _ _ h => h) (by rfl) (by intro x hx; obtain ⟨y0, y1, y2, y3, y4, y5⟩ := hx; go_simp; try (intro h; omega)) ?_
                        try simp only [Act.put, List.setIfInBounds_toArray, List.set_cons_zero, List.set_cons_succ]
                        refine anyH_one 35 (by kernel_rfl) ?_
                        refine wpOp_step rfl (fun Kc hKc => ?_)
                        go_simp
                        refine (HSH.out _ D0.out).mono ?_
                        rintro e1 z1 ⟨rfl, hb1⟩
                        have D1 : Hid (Below w3.heap.size w3 z1) := D0.out.trans (hb1.mono D0.out.size)
                        have SD1 := Lib.hid (HSD.out _ D1.out)
                        clear hb1 SD0
                        dsimp only
                        refine hKc _ _ ⟨SD1.out, ?_⟩
                        clear hKc Kc
                        try simp only [Act.put, List.setIfInBounds_toArray, List.set_cons_zero, List.set_cons_succ]
                        refine anyH_take 36 155 (.bool (decide (z.2.2.1 = x.2.2.1))) SD1.out rfl (by kernel_rfl) (by kernel_rfl) (by kernel_rfl) (fun _ _ _ h => h) (by rfl) (by intro x hx; obtain ⟨y0, y1, y2, y3, y4, y5⟩ := hx; go_simp; try (intro h; omega)) ?_
                        try simp only [Act.put, List.setIfInBounds_toArray, List.set_cons_zero, List.set_cons_succ]
                        refine anyH_take 37 11 (.bool (decide (z.2.2.1 = x.2.2.1))) SD1.out rfl (by kernel_rfl) (by kernel_rfl) (by kernel_rfl) (fun _ _ _ h => h) (by rfl) (by intro x hx; obtain ⟨y0, y1, y2, y3, y4, y5⟩ := hx; go_simp; try (intro h; omega)) ?_
                        try simp only [Act.put, List.setIfInBounds_toArray, List.set_cons_zero, List.set_cons_succ]
                        refine wpAnyH_done (by kernel_rfl) ?_ _
                        go_wp2
                        go_meet
                        case rel => exact ⟨by rw [HHD.out, he1, hn1]; rfl, D1.out⟩
                case rest =>
                  obtain ⟨rfl, D5⟩ := hcut
                  have HSD : Hid (∀ y, Below w3.heap.size w3 y → y.cell? ⟨tb, tf + i * 4, none⟩ = some (.int .i64 x.1) ∧ y.cell? ⟨tb, tf + i * 4 + 1, none⟩ = some (.int .i64 x.2.1) ∧ y.cell? ⟨tb, tf + i * 4 + 2, none⟩ = some (.slice xh x.2.2.1.length xch) ∧ y.cell? ⟨tb, tf + i * 4 + 3, none⟩ = some (.slice xp x.2.2.2.length xcp) ∧ y.cell? ⟨tb, tf + j * 4, none⟩ = some (.int .i64 z.1) ∧ y.cell? ⟨tb, tf + j * 4 + 1, none⟩ = some (.int .i64 z.2.1) ∧ y.cell? ⟨tb, tf + j * 4 + 2, none⟩ = some (.slice zh z.2.2.1.length zch) ∧ y.cell? ⟨tb, tf + j * 4 + 3, none⟩ = some (.slice zp z.2.2.2.length zcp) ∧ y.cell? ⟨gs, i, none⟩ = some (.slice pi mi ci) ∧ y.cell? ⟨gs, j, none⟩ = some (.slice pj mj cj)) := fun y hy => (fun q r s t => ⟨q.c0, q.c1, q.c2, q.c3, r.c0, r.c1, r.c2, r.c3, s.1, t.1⟩) (HFI.out _ (HDD.out _ hy)) (HFJ.out _ (HDD.out _ hy)) (HGI.out _ (HDD.out _ hy)) (HGJ.out _ (HDD.out _ hy))
                  have HMAYZ : Hid (∀ y, Below w3.heap.size w3 y → Calls Try.prog 26 #[.agg #[.int .i64 z.1, .int .i64 z.2.1, .slice zh z.2.2.1.length zch, .slice zp z.2.2.2.length zcp]] y (EqSay (Nm.may z) y)) := fun y _ => may_any z _ _ y
                  have HSAME : Hid (∀ y, Below w3.heap.size w3 y → Calls Try.prog 27 #[.agg #[.int .i64 x.1, .int .i64 x.2.1, .slice xh x.2.2.1.length xch, .slice xp x.2.2.2.length xcp], .agg #[.int .i64 z.1, .int .i64 z.2.1, .slice zh z.2.2.1.length zch, .slice zp z.2.2.2.length zcp]] y (EqSay (decide (x = z)) y)) := fun y hy => samefour_any x z _ _ _ _ _ _ _ _ (by have := HXS.out; omega) y (HFI.out _ (HDD.out _ hy)).bh (HFJ.out _ (HDD.out _ hy)).bh (HFI.out _ (HDD.out _ hy)).bp (HFJ.out _ (HDD.out _ hy)).bp
                  have HGQ : Hid (∀ y, Below w3.heap.size w3 y → Calls Try.prog 18 #[.slice pi mi ci, .slice pj mj cj] y (EqSay (decide (Nm.gq L i = Nm.gq L j)) y)) := fun y hy => same_all _ _ _ _ _ _ _ _ HMI.out HMJ.out y (HGI.out _ (HDD.out _ hy)).2.bat (HGJ.out _ (HDD.out _ hy)).2.bat (by have := HMIL.out; omega)
                  have FIN : Hid (∀ y, Below w3.heap.size w3 y → ∃ j' : Nat, j' ≤ k ∧ Value.int .i64 ((j : Int) + 1) = .int .i64 j' ∧ Hid (StAt y g b c (Nm.stl L k)) ∧ Hid (Got N2 y (.slice (some ⟨gs, 0, none⟩) k cs) k (Nm.gq L)) ∧ Hid (Below w.heap.size w y ∧ N2 ≤ y.heap.size)) := fun y hy => ⟨j + 1, by omega, by go_num, HST.out _ (HDD.out _ hy), HGT.out _ (HDD.out _ hy), HBN.out _ (HDD.out _ hy)⟩
                  have HPP : Hid (Nm.hd z x = true → ∀ y, Below w3.heap.size w3 y → Calls Try.prog 18 #[.slice p3 m3 k3, .slice xp x.2.2.2.length xcp] y (EqSay true y)) := fun hh y hy => by
                    have h1 := HP3.out y hy
                    have h2 := HM3.out
                    rw [HOG.out hh] at h1 h2
                    exact same_any x.2.2.2 _ _ _ _ _ _ h2 rfl y h1.bat (HFI.out _ (HDD.out _ hy)).bp.bat (by have := HXS.out; omega)
                  have HQQ : Hid (Nm.may z = true → decide (Nm.gq L i = Nm.gq L j) = decide (x = z)) := fun hmz => by
                    have h1 := Nm.gq_same (by rw [HN.out]; omega) HL.out hz hmx hmz
                    by_cases q : x = z
                    · rw [decide_eq_true q, decide_eq_true (h1.2 q)]
                    · rw [decide_eq_false q, decide_eq_false (fun u => q (h1.1 u))]
                  clear HP3 HM3 hz hmx HIS HOG HO1
                  cases hh : Nm.hd z x with
                  | false =>
                    go_upto_region 21 with (fail)
                    go_cut [212] from 156 to 212 (fun v212 y => v212 = .bool false ∧ Hid (Below w3.heap.size w3 y))
                    case rest =>
                      obtain ⟨rfl, D9⟩ := hcut
                      go_wp2
                      exact ⟨FIN.out _ D9.out, by simp [intOf]; omega⟩
                    clear FIN
                    cases hmz : Nm.may z with
                    | false =>
                      rw [hmz] at HMAYZ
                      clear HPP HQQ hmz
                      clear hh
                      as_aux_lemma =>
                        refine wp_region_any (by kernel_rfl) ?_
                        change wpAny _ _ _ _ _ _ _ (World.drew _)
                        have D0 : Hid (Below w3.heap.size w3 wc.drew) := D5.out.drew
                        generalize wc.drew = z0 at *
                        refine wpAny_of_held (S := (fun y => y.cell? ⟨tb, tf + i * 4, none⟩ = some (.int .i64 x.1) ∧ y.cell? ⟨tb, tf + i * 4 + 1, none⟩ = some (.int .i64 x.2.1) ∧ y.cell? ⟨tb, tf + i * 4 + 2, none⟩ = some (.slice xh x.2.2.1.length xch) ∧ y.cell? ⟨tb, tf + i * 4 + 3, none⟩ = some (.slice xp x.2.2.2.length xcp) ∧ y.cell? ⟨tb, tf + j * 4, none⟩ = some (.int .i64 z.1) ∧ y.cell? ⟨tb, tf + j * 4 + 1, none⟩ = some (.int .i64 z.2.1) ∧ y.cell? ⟨tb, tf + j * 4 + 2, none⟩ = some (.slice zh z.2.2.1.length zch) ∧ y.cell? ⟨tb, tf + j * 4 + 3, none⟩ = some (.slice zp z.2.2.2.length zcp) ∧ y.cell? ⟨gs, i, none⟩ = some (.slice pi mi ci) ∧ y.cell? ⟨gs, j, none⟩ = some (.slice pj mj cj))) _ _ _ _ ?_
                        have SD0 := Lib.hid (HSD.out _ D0.out)
                        refine anyH_take 0 156 (.bool false) SD0.out rfl (by kernel_rfl) (by kernel_rfl) (by kernel_rfl) (fun _ _ _ h => h) (by rfl) (by intro x hx; obtain ⟨y0, y1, y2, y3, y4, y5, y6, y7, y8, y9⟩ := hx; go_simp; try (intro h; omega)) ?_
                        try simp only [Act.put, List.setIfInBounds_toArray, List.set_cons_zero, List.set_cons_succ]
                        refine anyH_take 1 157 (.bool false) SD0.out rfl (by kernel_rfl) (by kernel_rfl) (by kernel_rfl) (fun _ _ _ h => h) (by rfl) (by intro x hx; obtain ⟨y0, y1, y2, y3, y4, y5, y6, y7, y8, y9⟩ := hx; go_simp; try (intro h; omega)) ?_
                        try simp only [Act.put, List.setIfInBounds_toArray, List.set_cons_zero, List.set_cons_succ]
                        refine anyH_take 2 158 (.bool false) SD0.out rfl (by kernel_rfl) (by kernel_rfl) (by kernel_rfl) (fun _ _ _ h => h) (by rfl) (by intro x hx; obtain ⟨y0, y1, y2, y3, y4, y5, y6, y7, y8, y9⟩ := hx; go_simp; try (intro h; omega)) ?_
                        try simp only [Act.put, List.setIfInBounds_toArray, List.set_cons_zero, List.set_cons_succ]
                        refine anyH_take 3 159 (.bool false) SD0.out rfl (by kernel_rfl) (by kernel_rfl) (by kernel_rfl) (fun _ _ _ h => h) (by rfl) (by intro x hx; obtain ⟨y0, y1, y2, y3, y4, y5, y6, y7, y8, y9⟩ := hx; go_simp; try (intro h; omega)) ?_
                        try simp only [Act.put, List.setIfInBounds_toArray, List.set_cons_zero, List.set_cons_succ]
                        refine anyH_take 4 160 (.bool false) SD0.out rfl (by kernel_rfl) (by kernel_rfl) (by kernel_rfl) (fun _ _ _ h => h) (by rfl) (by intro x hx; obtain ⟨y0, y1, y2, y3, y4, y5, y6, y7, y8, y9⟩ := hx; go_simp; try (intro h; omega)) ?_
                        try simp only [Act.put, List.setIfInBounds_toArray, List.set_cons_zero, List.set_cons_succ]
                        refine anyH_take 5 161 (.bool false) SD0.out rfl (by kernel_rfl) (by kernel_rfl) (by kernel_rfl) (fun _ _ _ h => h) (by rfl) (by intro x hx; obtain ⟨y0, y1, y2, y3, y4, y5, y6, y7, y8, y9⟩ := hx; go_simp; try (intro h; omega)) ?_
                        try simp only [Act.put, List.setIfInBounds_toArray, List.set_cons_zero, List.set_cons_succ]
                        refine anyH_skip 6 162 SD0.out rfl (by kernel_rfl) (by kernel_rfl) (by kernel_rfl) (fun _ _ _ h => h) (by rfl) ?_
                        try simp only [Act.put, List.setIfInBounds_toArray, List.set_cons_zero, List.set_cons_succ]
                        refine anyH_skip 7 163 SD0.out rfl (by kernel_rfl) (by kernel_rfl) (by kernel_rfl) (fun _ _ _ h => h) (by rfl) ?_
                        try simp only [Act.put, List.setIfInBounds_toArray, List.set_cons_zero, List.set_cons_succ]
                        refine anyH_skip 8 164 SD0.out rfl (by kernel_rfl) (by kernel_rfl) (by kernel_rfl) (fun _ _ _ h => h) (by rfl) ?_
                        try simp only [Act.put, List.setIfInBounds_toArray, List.set_cons_zero, List.set_cons_succ]
                        refine anyH_skip 9 165 SD0.out rfl (by kernel_rfl) (by kernel_rfl) (by kernel_rfl) (fun _ _ _ h => h) (by rfl) ?_
                        try simp only [Act.put, List.setIfInBounds_toArray, List.set_cons_zero, List.set_cons_succ]
                        refine anyH_skip 10 166 SD0.out rfl (by kernel_rfl) (by kernel_rfl) (by kernel_rfl) (fun _ _ _ h => h) (by rfl) ?_
                        try simp only [Act.put, List.setIfInBounds_toArray, List.set_cons_zero, List.set_cons_succ]
                        refine anyH_skip 11 167 SD0.out rfl (by kernel_rfl) (by kernel_rfl) (by kernel_rfl) (fun _ _ _ h => h) (by rfl) ?_
                        try simp only [Act.put, List.setIfInBounds_toArray, List.set_cons_zero, List.set_cons_succ]
                        refine anyH_skip 12 168 SD0.out rfl (by kernel_rfl) (by kernel_rfl) (by kernel_rfl) (fun _ _ _ h => h) (by rfl) ?_
                        try simp only [Act.put, List.setIfInBounds_toArray, List.set_cons_zero, List.set_cons_succ]
                        refine anyH_skip 13 169 SD0.out rfl (by kernel_rfl) (by kernel_rfl) (by kernel_rfl) (fun _ _ _ h => h) (by rfl) ?_
                        try simp only [Act.put, List.setIfInBounds_toArray, List.set_cons_zero, List.set_cons_succ]
                        refine anyH_take 14 170 (.bool false) SD0.out rfl (by kernel_rfl) (by kernel_rfl) (by kernel_rfl) (fun _ _ _ h => h) (by rfl) (by intro x hx; obtain ⟨y0, y1, y2, y3, y4, y5, y6, y7, y8, y9⟩ := hx; go_simp; try (intro h; omega)) ?_
                        try simp only [Act.put, List.setIfInBounds_toArray, List.set_cons_zero, List.set_cons_succ]
                        refine anyH_take 15 171 (.bool false) SD0.out rfl (by kernel_rfl) (by kernel_rfl) (by kernel_rfl) (fun _ _ _ h => h) (by rfl) (by intro x hx; obtain ⟨y0, y1, y2, y3, y4, y5, y6, y7, y8, y9⟩ := hx; go_simp; try (intro h; omega)) ?_
                        try simp only [Act.put, List.setIfInBounds_toArray, List.set_cons_zero, List.set_cons_succ]
                        refine anyH_take 16 172 (.bool false) SD0.out rfl (by kernel_rfl) (by kernel_rfl) (by kernel_rfl) (fun _ _ _ h => h) (by rfl) (by intro x hx; obtain ⟨y0, y1, y2, y3, y4, y5, y6, y7, y8, y9⟩ := hx; go_simp; try (intro h; omega)) ?_
                        try simp only [Act.put, List.setIfInBounds_toArray, List.set_cons_zero, List.set_cons_succ]
                        refine anyH_take 17 173 (.slice (some ⟨tb, tf, none⟩) k cap) SD0.out rfl (by kernel_rfl) (by kernel_rfl) (by kernel_rfl) (fun _ _ _ h => h) (by rfl) (by intro x hx; obtain ⟨y0, y1, y2, y3, y4, y5, y6, y7, y8, y9⟩ := hx; go_simp; try (intro h; omega)) ?_
                        try simp only [Act.put, List.setIfInBounds_toArray, List.set_cons_zero, List.set_cons_succ]
                        refine anyH_take 18 174 (.int .i64 (j : Int)) SD0.out rfl (by kernel_rfl) (by kernel_rfl) (by kernel_rfl) (fun _ _ _ h => h) (by rfl) (by intro x hx; obtain ⟨y0, y1, y2, y3, y4, y5, y6, y7, y8, y9⟩ := hx; go_simp; try (intro h; omega)) ?_
                        try simp only [Act.put, List.setIfInBounds_toArray, List.set_cons_zero, List.set_cons_succ]
                        refine anyH_take 19 175 (.pointer (some ⟨tb, tf + j * 4, none⟩)) SD0.out rfl (by kernel_rfl) (by kernel_rfl) (by kernel_rfl) (fun _ _ _ h => h) (by rfl) (by intro x hx; obtain ⟨y0, y1, y2, y3, y4, y5, y6, y7, y8, y9⟩ := hx; go_simp; try (intro h; omega)) ?_
                        try simp only [Act.put, List.setIfInBounds_toArray, List.set_cons_zero, List.set_cons_succ]
                        refine anyH_take 20 176 (.agg #[.int .i64 z.1, .int .i64 z.2.1, .slice zh z.2.2.1.length zch, .slice zp z.2.2.2.length zcp]) SD0.out rfl (by kernel_rfl) (by kernel_rfl) (by kernel_rfl) (fun _ _ _ h => h) (by rfl) (by intro x hx; obtain ⟨y0, y1, y2, y3, y4, y5, y6, y7, y8, y9⟩ := hx; go_simp; try (intro h; omega)) ?_
                        try simp only [Act.put, List.setIfInBounds_toArray, List.set_cons_zero, List.set_cons_succ]
                        refine anyH_one 21 (by kernel_rfl) ?_
                        refine wpOp_step rfl (fun Kc hKc => ?_)
                        go_simp
                        refine (HMAYZ.out _ D0.out).mono ?_
                        rintro e1 z1 ⟨rfl, hb1⟩
                        have D1 : Hid (Below w3.heap.size w3 z1) := D0.out.trans (hb1.mono D0.out.size)
                        have SD1 := Lib.hid (HSD.out _ D1.out)
                        clear hb1 SD0
                        dsimp only
                        refine hKc _ _ ⟨SD1.out, ?_⟩
                        clear hKc Kc
                        try simp only [Act.put, List.setIfInBounds_toArray, List.set_cons_zero, List.set_cons_succ]
                        refine anyH_take 22 178 (.bool false) SD1.out rfl (by kernel_rfl) (by kernel_rfl) (by kernel_rfl) (fun _ _ _ h => h) (by rfl) (by intro x hx; obtain ⟨y0, y1, y2, y3, y4, y5, y6, y7, y8, y9⟩ := hx; go_simp; try (intro h; omega)) ?_
                        try simp only [Act.put, List.setIfInBounds_toArray, List.set_cons_zero, List.set_cons_succ]
                        refine anyH_skip 23 179 SD1.out rfl (by kernel_rfl) (by kernel_rfl) (by kernel_rfl) (fun _ _ _ h => h) (by rfl) ?_
                        try simp only [Act.put, List.setIfInBounds_toArray, List.set_cons_zero, List.set_cons_succ]
                        refine anyH_skip 24 180 SD1.out rfl (by kernel_rfl) (by kernel_rfl) (by kernel_rfl) (fun _ _ _ h => h) (by rfl) ?_
                        try simp only [Act.put, List.setIfInBounds_toArray, List.set_cons_zero, List.set_cons_succ]
                        refine anyH_skip 25 181 SD1.out rfl (by kernel_rfl) (by kernel_rfl) (by kernel_rfl) (fun _ _ _ h => h) (by rfl) ?_
                        try simp only [Act.put, List.setIfInBounds_toArray, List.set_cons_zero, List.set_cons_succ]
                        refine anyH_skip 26 182 SD1.out rfl (by kernel_rfl) (by kernel_rfl) (by kernel_rfl) (fun _ _ _ h => h) (by rfl) ?_
                        try simp only [Act.put, List.setIfInBounds_toArray, List.set_cons_zero, List.set_cons_succ]
                        refine anyH_skip 27 183 SD1.out rfl (by kernel_rfl) (by kernel_rfl) (by kernel_rfl) (fun _ _ _ h => h) (by rfl) ?_
                        try simp only [Act.put, List.setIfInBounds_toArray, List.set_cons_zero, List.set_cons_succ]
                        refine anyH_skip 28 184 SD1.out rfl (by kernel_rfl) (by kernel_rfl) (by kernel_rfl) (fun _ _ _ h => h) (by rfl) ?_
                        try simp only [Act.put, List.setIfInBounds_toArray, List.set_cons_zero, List.set_cons_succ]
                        refine anyH_skip 29 185 SD1.out rfl (by kernel_rfl) (by kernel_rfl) (by kernel_rfl) (fun _ _ _ h => h) (by rfl) ?_
                        try simp only [Act.put, List.setIfInBounds_toArray, List.set_cons_zero, List.set_cons_succ]
                        refine anyH_skip 30 186 SD1.out rfl (by kernel_rfl) (by kernel_rfl) (by kernel_rfl) (fun _ _ _ h => h) (by rfl) ?_
                        try simp only [Act.put, List.setIfInBounds_toArray, List.set_cons_zero, List.set_cons_succ]
                        refine anyH_skip 31 187 SD1.out rfl (by kernel_rfl) (by kernel_rfl) (by kernel_rfl) (fun _ _ _ h => h) (by rfl) ?_
                        try simp only [Act.put, List.setIfInBounds_toArray, List.set_cons_zero, List.set_cons_succ]
                        refine anyH_skip 32 188 SD1.out rfl (by kernel_rfl) (by kernel_rfl) (by kernel_rfl) (fun _ _ _ h => h) (by rfl) ?_
                        try simp only [Act.put, List.setIfInBounds_toArray, List.set_cons_zero, List.set_cons_succ]
                        refine anyH_skip 33 189 SD1.out rfl (by kernel_rfl) (by kernel_rfl) (by kernel_rfl) (fun _ _ _ h => h) (by rfl) ?_
                        try simp only [Act.put, List.setIfInBounds_toArray, List.set_cons_zero, List.set_cons_succ]
                        refine anyH_skip 34 190 SD1.out rfl (by kernel_rfl) (by kernel_rfl) (by kernel_rfl) (fun _ _ _ h => h) (by rfl) ?_
                        try simp only [Act.put, List.setIfInBounds_toArray, List.set_cons_zero, List.set_cons_succ]
                        refine anyH_skip 35 191 SD1.out rfl (by kernel_rfl) (by kernel_rfl) (by kernel_rfl) (fun _ _ _ h => h) (by rfl) ?_
                        try simp only [Act.put, List.setIfInBounds_toArray, List.set_cons_zero, List.set_cons_succ]
                        refine anyH_skip 36 192 SD1.out rfl (by kernel_rfl) (by kernel_rfl) (by kernel_rfl) (fun _ _ _ h => h) (by rfl) ?_
                        try simp only [Act.put, List.setIfInBounds_toArray, List.set_cons_zero, List.set_cons_succ]
                        refine anyH_skip 37 193 SD1.out rfl (by kernel_rfl) (by kernel_rfl) (by kernel_rfl) (fun _ _ _ h => h) (by rfl) ?_
                        try simp only [Act.put, List.setIfInBounds_toArray, List.set_cons_zero, List.set_cons_succ]
                        refine anyH_skip 38 194 SD1.out rfl (by kernel_rfl) (by kernel_rfl) (by kernel_rfl) (fun _ _ _ h => h) (by rfl) ?_
                        try simp only [Act.put, List.setIfInBounds_toArray, List.set_cons_zero, List.set_cons_succ]
                        refine anyH_skip 39 195 SD1.out rfl (by kernel_rfl) (by kernel_rfl) (by kernel_rfl) (fun _ _ _ h => h) (by rfl) ?_
                        try simp only [Act.put, List.setIfInBounds_toArray, List.set_cons_zero, List.set_cons_succ]
                        refine anyH_skip 40 196 SD1.out rfl (by kernel_rfl) (by kernel_rfl) (by kernel_rfl) (fun _ _ _ h => h) (by rfl) ?_
                        try simp only [Act.put, List.setIfInBounds_toArray, List.set_cons_zero, List.set_cons_succ]
                        refine anyH_skip 41 197 SD1.out rfl (by kernel_rfl) (by kernel_rfl) (by kernel_rfl) (fun _ _ _ h => h) (by rfl) ?_
                        try simp only [Act.put, List.setIfInBounds_toArray, List.set_cons_zero, List.set_cons_succ]
                        refine anyH_take 42 198 (.bool false) SD1.out rfl (by kernel_rfl) (by kernel_rfl) (by kernel_rfl) (fun _ _ _ h => h) (by rfl) (by intro x hx; obtain ⟨y0, y1, y2, y3, y4, y5, y6, y7, y8, y9⟩ := hx; go_simp; try (intro h; omega)) ?_
                        try simp only [Act.put, List.setIfInBounds_toArray, List.set_cons_zero, List.set_cons_succ]
                        refine anyH_take 43 199 (.bool false) SD1.out rfl (by kernel_rfl) (by kernel_rfl) (by kernel_rfl) (fun _ _ _ h => h) (by rfl) (by intro x hx; obtain ⟨y0, y1, y2, y3, y4, y5, y6, y7, y8, y9⟩ := hx; go_simp; try (intro h; omega)) ?_
                        try simp only [Act.put, List.setIfInBounds_toArray, List.set_cons_zero, List.set_cons_succ]
                        refine anyH_skip 44 200 SD1.out rfl (by kernel_rfl) (by kernel_rfl) (by kernel_rfl) (fun _ _ _ h => h) (by rfl) ?_
                        try simp only [Act.put, List.setIfInBounds_toArray, List.set_cons_zero, List.set_cons_succ]
                        refine anyH_skip 45 201 SD1.out rfl (by kernel_rfl) (by kernel_rfl) (by kernel_rfl) (fun _ _ _ h => h) (by rfl) ?_
                        try simp only [Act.put, List.setIfInBounds_toArray, List.set_cons_zero, List.set_cons_succ]
                        refine anyH_skip 46 202 SD1.out rfl (by kernel_rfl) (by kernel_rfl) (by kernel_rfl) (fun _ _ _ h => h) (by rfl) ?_
                        try simp only [Act.put, List.setIfInBounds_toArray, List.set_cons_zero, List.set_cons_succ]
                        refine anyH_skip 47 203 SD1.out rfl (by kernel_rfl) (by kernel_rfl) (by kernel_rfl) (fun _ _ _ h => h) (by rfl) ?_
                        try simp only [Act.put, List.setIfInBounds_toArray, List.set_cons_zero, List.set_cons_succ]
                        refine anyH_skip 48 204 SD1.out rfl (by kernel_rfl) (by kernel_rfl) (by kernel_rfl) (fun _ _ _ h => h) (by rfl) ?_
                        try simp only [Act.put, List.setIfInBounds_toArray, List.set_cons_zero, List.set_cons_succ]
                        refine anyH_skip 49 205 SD1.out rfl (by kernel_rfl) (by kernel_rfl) (by kernel_rfl) (fun _ _ _ h => h) (by rfl) ?_
                        try simp only [Act.put, List.setIfInBounds_toArray, List.set_cons_zero, List.set_cons_succ]
                        refine anyH_skip 50 206 SD1.out rfl (by kernel_rfl) (by kernel_rfl) (by kernel_rfl) (fun _ _ _ h => h) (by rfl) ?_
                        try simp only [Act.put, List.setIfInBounds_toArray, List.set_cons_zero, List.set_cons_succ]
                        refine anyH_skip 51 207 SD1.out rfl (by kernel_rfl) (by kernel_rfl) (by kernel_rfl) (fun _ _ _ h => h) (by rfl) ?_
                        try simp only [Act.put, List.setIfInBounds_toArray, List.set_cons_zero, List.set_cons_succ]
                        refine anyH_skip 52 208 SD1.out rfl (by kernel_rfl) (by kernel_rfl) (by kernel_rfl) (fun _ _ _ h => h) (by rfl) ?_
                        try simp only [Act.put, List.setIfInBounds_toArray, List.set_cons_zero, List.set_cons_succ]
                        refine anyH_skip 53 209 SD1.out rfl (by kernel_rfl) (by kernel_rfl) (by kernel_rfl) (fun _ _ _ h => h) (by rfl) ?_
                        try simp only [Act.put, List.setIfInBounds_toArray, List.set_cons_zero, List.set_cons_succ]
                        refine anyH_skip 54 210 SD1.out rfl (by kernel_rfl) (by kernel_rfl) (by kernel_rfl) (fun _ _ _ h => h) (by rfl) ?_
                        try simp only [Act.put, List.setIfInBounds_toArray, List.set_cons_zero, List.set_cons_succ]
                        refine anyH_take 55 211 (.bool false) SD1.out rfl (by kernel_rfl) (by kernel_rfl) (by kernel_rfl) (fun _ _ _ h => h) (by rfl) (by intro x hx; obtain ⟨y0, y1, y2, y3, y4, y5, y6, y7, y8, y9⟩ := hx; go_simp; try (intro h; omega)) ?_
                        try simp only [Act.put, List.setIfInBounds_toArray, List.set_cons_zero, List.set_cons_succ]
                        refine anyH_take 56 212 (.bool false) SD1.out rfl (by kernel_rfl) (by kernel_rfl) (by kernel_rfl) (fun _ _ _ h => h) (by rfl) (by intro x hx; obtain ⟨y0, y1, y2, y3, y4, y5, y6, y7, y8, y9⟩ := hx; go_simp; try (intro h; omega)) ?_
                        try simp only [Act.put, List.setIfInBounds_toArray, List.set_cons_zero, List.set_cons_succ]
                        refine wpAnyH_done (by kernel_rfl) ?_ _
                        go_wp2
                        go_meet
                        case rel => exact ⟨rfl, D1.out⟩
                    | true =>
                      rw [hmz] at HMAYZ
                      rw [HQQ.out hmz] at HGQ
                      generalize decide (x = z) = q at *
                      clear HPP HQQ hmz
                      clear hh
                      as_aux_lemma =>
                        refine wp_region_any (by kernel_rfl) ?_
                        change wpAny _ _ _ _ _ _ _ (World.drew _)
                        have D0 : Hid (Below w3.heap.size w3 wc.drew) := D5.out.drew
                        generalize wc.drew = z0 at *
                        refine wpAny_of_held (S := (fun y => y.cell? ⟨tb, tf + i * 4, none⟩ = some (.int .i64 x.1) ∧ y.cell? ⟨tb, tf + i * 4 + 1, none⟩ = some (.int .i64 x.2.1) ∧ y.cell? ⟨tb, tf + i * 4 + 2, none⟩ = some (.slice xh x.2.2.1.length xch) ∧ y.cell? ⟨tb, tf + i * 4 + 3, none⟩ = some (.slice xp x.2.2.2.length xcp) ∧ y.cell? ⟨tb, tf + j * 4, none⟩ = some (.int .i64 z.1) ∧ y.cell? ⟨tb, tf + j * 4 + 1, none⟩ = some (.int .i64 z.2.1) ∧ y.cell? ⟨tb, tf + j * 4 + 2, none⟩ = some (.slice zh z.2.2.1.length zch) ∧ y.cell? ⟨tb, tf + j * 4 + 3, none⟩ = some (.slice zp z.2.2.2.length zcp) ∧ y.cell? ⟨gs, i, none⟩ = some (.slice pi mi ci) ∧ y.cell? ⟨gs, j, none⟩ = some (.slice pj mj cj))) _ _ _ _ ?_
                        have SD0 := Lib.hid (HSD.out _ D0.out)
                        refine anyH_take 0 156 (.bool false) SD0.out rfl (by kernel_rfl) (by kernel_rfl) (by kernel_rfl) (fun _ _ _ h => h) (by rfl) (by intro x hx; obtain ⟨y0, y1, y2, y3, y4, y5, y6, y7, y8, y9⟩ := hx; go_simp; try (intro h; omega)) ?_
                        try simp only [Act.put, List.setIfInBounds_toArray, List.set_cons_zero, List.set_cons_succ]
                        refine anyH_take 1 157 (.bool false) SD0.out rfl (by kernel_rfl) (by kernel_rfl) (by kernel_rfl) (fun _ _ _ h => h) (by rfl) (by intro x hx; obtain ⟨y0, y1, y2, y3, y4, y5, y6, y7, y8, y9⟩ := hx; go_simp; try (intro h; omega)) ?_
                        try simp only [Act.put, List.setIfInBounds_toArray, List.set_cons_zero, List.set_cons_succ]
                        refine anyH_take 2 158 (.bool false) SD0.out rfl (by kernel_rfl) (by kernel_rfl) (by kernel_rfl) (fun _ _ _ h => h) (by rfl) (by intro x hx; obtain ⟨y0, y1, y2, y3, y4, y5, y6, y7, y8, y9⟩ := hx; go_simp; try (intro h; omega)) ?_
                        try simp only [Act.put, List.setIfInBounds_toArray, List.set_cons_zero, List.set_cons_succ]
                        refine anyH_take 3 159 (.bool false) SD0.out rfl (by kernel_rfl) (by kernel_rfl) (by kernel_rfl) (fun _ _ _ h => h) (by rfl) (by intro x hx; obtain ⟨y0, y1, y2, y3, y4, y5, y6, y7, y8, y9⟩ := hx; go_simp; try (intro h; omega)) ?_
                        try simp only [Act.put, List.setIfInBounds_toArray, List.set_cons_zero, List.set_cons_succ]
                        refine anyH_take 4 160 (.bool false) SD0.out rfl (by kernel_rfl) (by kernel_rfl) (by kernel_rfl) (fun _ _ _ h => h) (by rfl) (by intro x hx; obtain ⟨y0, y1, y2, y3, y4, y5, y6, y7, y8, y9⟩ := hx; go_simp; try (intro h; omega)) ?_
                        try simp only [Act.put, List.setIfInBounds_toArray, List.set_cons_zero, List.set_cons_succ]
                        refine anyH_take 5 161 (.bool false) SD0.out rfl (by kernel_rfl) (by kernel_rfl) (by kernel_rfl) (fun _ _ _ h => h) (by rfl) (by intro x hx; obtain ⟨y0, y1, y2, y3, y4, y5, y6, y7, y8, y9⟩ := hx; go_simp; try (intro h; omega)) ?_
                        try simp only [Act.put, List.setIfInBounds_toArray, List.set_cons_zero, List.set_cons_succ]
                        refine anyH_skip 6 162 SD0.out rfl (by kernel_rfl) (by kernel_rfl) (by kernel_rfl) (fun _ _ _ h => h) (by rfl) ?_
                        try simp only [Act.put, List.setIfInBounds_toArray, List.set_cons_zero, List.set_cons_succ]
                        refine anyH_skip 7 163 SD0.out rfl (by kernel_rfl) (by kernel_rfl) (by kernel_rfl) (fun _ _ _ h => h) (by rfl) ?_
                        try simp only [Act.put, List.setIfInBounds_toArray, List.set_cons_zero, List.set_cons_succ]
                        refine anyH_skip 8 164 SD0.out rfl (by kernel_rfl) (by kernel_rfl) (by kernel_rfl) (fun _ _ _ h => h) (by rfl) ?_
                        try simp only [Act.put, List.setIfInBounds_toArray, List.set_cons_zero, List.set_cons_succ]
                        refine anyH_skip 9 165 SD0.out rfl (by kernel_rfl) (by kernel_rfl) (by kernel_rfl) (fun _ _ _ h => h) (by rfl) ?_
                        try simp only [Act.put, List.setIfInBounds_toArray, List.set_cons_zero, List.set_cons_succ]
                        refine anyH_skip 10 166 SD0.out rfl (by kernel_rfl) (by kernel_rfl) (by kernel_rfl) (fun _ _ _ h => h) (by rfl) ?_
                        try simp only [Act.put, List.setIfInBounds_toArray, List.set_cons_zero, List.set_cons_succ]
                        refine anyH_skip 11 167 SD0.out rfl (by kernel_rfl) (by kernel_rfl) (by kernel_rfl) (fun _ _ _ h => h) (by rfl) ?_
                        try simp only [Act.put, List.setIfInBounds_toArray, List.set_cons_zero, List.set_cons_succ]
                        refine anyH_skip 12 168 SD0.out rfl (by kernel_rfl) (by kernel_rfl) (by kernel_rfl) (fun _ _ _ h => h) (by rfl) ?_
                        try simp only [Act.put, List.setIfInBounds_toArray, List.set_cons_zero, List.set_cons_succ]
                        refine anyH_skip 13 169 SD0.out rfl (by kernel_rfl) (by kernel_rfl) (by kernel_rfl) (fun _ _ _ h => h) (by rfl) ?_
                        try simp only [Act.put, List.setIfInBounds_toArray, List.set_cons_zero, List.set_cons_succ]
                        refine anyH_take 14 170 (.bool false) SD0.out rfl (by kernel_rfl) (by kernel_rfl) (by kernel_rfl) (fun _ _ _ h => h) (by rfl) (by intro x hx; obtain ⟨y0, y1, y2, y3, y4, y5, y6, y7, y8, y9⟩ := hx; go_simp; try (intro h; omega)) ?_
                        try simp only [Act.put, List.setIfInBounds_toArray, List.set_cons_zero, List.set_cons_succ]
                        refine anyH_take 15 171 (.bool false) SD0.out rfl (by kernel_rfl) (by kernel_rfl) (by kernel_rfl) (fun _ _ _ h => h) (by rfl) (by intro x hx; obtain ⟨y0, y1, y2, y3, y4, y5, y6, y7, y8, y9⟩ := hx; go_simp; try (intro h; omega)) ?_
                        try simp only [Act.put, List.setIfInBounds_toArray, List.set_cons_zero, List.set_cons_succ]
                        refine anyH_take 16 172 (.bool false) SD0.out rfl (by kernel_rfl) (by kernel_rfl) (by kernel_rfl) (fun _ _ _ h => h) (by rfl) (by intro x hx; obtain ⟨y0, y1, y2, y3, y4, y5, y6, y7, y8, y9⟩ := hx; go_simp; try (intro h; omega)) ?_
                        try simp only [Act.put, List.setIfInBounds_toArray, List.set_cons_zero, List.set_cons_succ]
                        refine anyH_take 17 173 (.slice (some ⟨tb, tf, none⟩) k cap) SD0.out rfl (by kernel_rfl) (by kernel_rfl) (by kernel_rfl) (fun _ _ _ h => h) (by rfl) (by intro x hx; obtain ⟨y0, y1, y2, y3, y4, y5, y6, y7, y8, y9⟩ := hx; go_simp; try (intro h; omega)) ?_
                        try simp only [Act.put, List.setIfInBounds_toArray, List.set_cons_zero, List.set_cons_succ]
                        refine anyH_take 18 174 (.int .i64 (j : Int)) SD0.out rfl (by kernel_rfl) (by kernel_rfl) (by kernel_rfl) (fun _ _ _ h => h) (by rfl) (by intro x hx; obtain ⟨y0, y1, y2, y3, y4, y5, y6, y7, y8, y9⟩ := hx; go_simp; try (intro h; omega)) ?_
                        try simp only [Act.put, List.setIfInBounds_toArray, List.set_cons_zero, List.set_cons_succ]
                        refine anyH_take 19 175 (.pointer (some ⟨tb, tf + j * 4, none⟩)) SD0.out rfl (by kernel_rfl) (by kernel_rfl) (by kernel_rfl) (fun _ _ _ h => h) (by rfl) (by intro x hx; obtain ⟨y0, y1, y2, y3, y4, y5, y6, y7, y8, y9⟩ := hx; go_simp; try (intro h; omega)) ?_
                        try simp only [Act.put, List.setIfInBounds_toArray, List.set_cons_zero, List.set_cons_succ]
                        refine anyH_take 20 176 (.agg #[.int .i64 z.1, .int .i64 z.2.1, .slice zh z.2.2.1.length zch, .slice zp z.2.2.2.length zcp]) SD0.out rfl (by kernel_rfl) (by kernel_rfl) (by kernel_rfl) (fun _ _ _ h => h) (by rfl) (by intro x hx; obtain ⟨y0, y1, y2, y3, y4, y5, y6, y7, y8, y9⟩ := hx; go_simp; try (intro h; omega)) ?_
                        try simp only [Act.put, List.setIfInBounds_toArray, List.set_cons_zero, List.set_cons_succ]
                        refine anyH_one 21 (by kernel_rfl) ?_
                        refine wpOp_step rfl (fun Kc hKc => ?_)
                        go_simp
                        refine (HMAYZ.out _ D0.out).mono ?_
                        rintro e1 z1 ⟨rfl, hb1⟩
                        have D1 : Hid (Below w3.heap.size w3 z1) := D0.out.trans (hb1.mono D0.out.size)
                        have SD1 := Lib.hid (HSD.out _ D1.out)
                        clear hb1 SD0
                        dsimp only
                        refine hKc _ _ ⟨SD1.out, ?_⟩
                        clear hKc Kc
                        try simp only [Act.put, List.setIfInBounds_toArray, List.set_cons_zero, List.set_cons_succ]
                        refine anyH_take 22 178 (.bool true) SD1.out rfl (by kernel_rfl) (by kernel_rfl) (by kernel_rfl) (fun _ _ _ h => h) (by rfl) (by intro x hx; obtain ⟨y0, y1, y2, y3, y4, y5, y6, y7, y8, y9⟩ := hx; go_simp; try (intro h; omega)) ?_
                        try simp only [Act.put, List.setIfInBounds_toArray, List.set_cons_zero, List.set_cons_succ]
                        refine anyH_take 23 179 (.slice (some ⟨gs, 0, none⟩) k cs) SD1.out rfl (by kernel_rfl) (by kernel_rfl) (by kernel_rfl) (fun _ _ _ h => h) (by rfl) (by intro x hx; obtain ⟨y0, y1, y2, y3, y4, y5, y6, y7, y8, y9⟩ := hx; go_simp; try (intro h; omega)) ?_
                        try simp only [Act.put, List.setIfInBounds_toArray, List.set_cons_zero, List.set_cons_succ]
                        refine anyH_take 24 180 (.int .i64 (i : Int)) SD1.out rfl (by kernel_rfl) (by kernel_rfl) (by kernel_rfl) (fun _ _ _ h => h) (by rfl) (by intro x hx; obtain ⟨y0, y1, y2, y3, y4, y5, y6, y7, y8, y9⟩ := hx; go_simp; try (intro h; omega)) ?_
                        try simp only [Act.put, List.setIfInBounds_toArray, List.set_cons_zero, List.set_cons_succ]
                        refine anyH_take 25 181 (.pointer (some ⟨gs, i, none⟩)) SD1.out rfl (by kernel_rfl) (by kernel_rfl) (by kernel_rfl) (fun _ _ _ h => h) (by rfl) (by intro x hx; obtain ⟨y0, y1, y2, y3, y4, y5, y6, y7, y8, y9⟩ := hx; go_simp; try (intro h; omega)) ?_
                        try simp only [Act.put, List.setIfInBounds_toArray, List.set_cons_zero, List.set_cons_succ]
                        refine anyH_take 26 182 (.slice pi mi ci) SD1.out rfl (by kernel_rfl) (by kernel_rfl) (by kernel_rfl) (fun _ _ _ h => h) (by rfl) (by intro x hx; obtain ⟨y0, y1, y2, y3, y4, y5, y6, y7, y8, y9⟩ := hx; go_simp; try (intro h; omega)) ?_
                        try simp only [Act.put, List.setIfInBounds_toArray, List.set_cons_zero, List.set_cons_succ]
                        refine anyH_take 27 183 (.slice (some ⟨gs, 0, none⟩) k cs) SD1.out rfl (by kernel_rfl) (by kernel_rfl) (by kernel_rfl) (fun _ _ _ h => h) (by rfl) (by intro x hx; obtain ⟨y0, y1, y2, y3, y4, y5, y6, y7, y8, y9⟩ := hx; go_simp; try (intro h; omega)) ?_
                        try simp only [Act.put, List.setIfInBounds_toArray, List.set_cons_zero, List.set_cons_succ]
                        refine anyH_take 28 184 (.int .i64 (j : Int)) SD1.out rfl (by kernel_rfl) (by kernel_rfl) (by kernel_rfl) (fun _ _ _ h => h) (by rfl) (by intro x hx; obtain ⟨y0, y1, y2, y3, y4, y5, y6, y7, y8, y9⟩ := hx; go_simp; try (intro h; omega)) ?_
                        try simp only [Act.put, List.setIfInBounds_toArray, List.set_cons_zero, List.set_cons_succ]
                        refine anyH_take 29 185 (.pointer (some ⟨gs, j, none⟩)) SD1.out rfl (by kernel_rfl) (by kernel_rfl) (by kernel_rfl) (fun _ _ _ h => h) (by rfl) (by intro x hx; obtain ⟨y0, y1, y2, y3, y4, y5, y6, y7, y8, y9⟩ := hx; go_simp; try (intro h; omega)) ?_
                        try simp only [Act.put, List.setIfInBounds_toArray, List.set_cons_zero, List.set_cons_succ]
                        refine anyH_take 30 186 (.slice pj mj cj) SD1.out rfl (by kernel_rfl) (by kernel_rfl) (by kernel_rfl) (fun _ _ _ h => h) (by rfl) (by intro x hx; obtain ⟨y0, y1, y2, y3, y4, y5, y6, y7, y8, y9⟩ := hx; go_simp; try (intro h; omega)) ?_
                        try simp only [Act.put, List.setIfInBounds_toArray, List.set_cons_zero, List.set_cons_succ]
                        refine anyH_take 32 188 (.slice (some ⟨tb, tf, none⟩) k cap) SD1.out rfl (by kernel_rfl) (by kernel_rfl) (by kernel_rfl) (fun _ _ _ h => h) (by rfl) (by intro x hx; obtain ⟨y0, y1, y2, y3, y4, y5, y6, y7, y8, y9⟩ := hx; go_simp; try (intro h; omega)) ?_
                        try simp only [Act.put, List.setIfInBounds_toArray, List.set_cons_zero, List.set_cons_succ]
                        refine anyH_take 33 189 (.int .i64 (i : Int)) SD1.out rfl (by kernel_rfl) (by kernel_rfl) (by kernel_rfl) (fun _ _ _ h => h) (by rfl) (by intro x hx; obtain ⟨y0, y1, y2, y3, y4, y5, y6, y7, y8, y9⟩ := hx; go_simp; try (intro h; omega)) ?_
                        try simp only [Act.put, List.setIfInBounds_toArray, List.set_cons_zero, List.set_cons_succ]
                        refine anyH_take 34 190 (.pointer (some ⟨tb, tf + i * 4, none⟩)) SD1.out rfl (by kernel_rfl) (by kernel_rfl) (by kernel_rfl) (fun _ _ _ h => h) (by rfl) (by intro x hx; obtain ⟨y0, y1, y2, y3, y4, y5, y6, y7, y8, y9⟩ := hx; go_simp; try (intro h; omega)) ?_
                        try simp only [Act.put, List.setIfInBounds_toArray, List.set_cons_zero, List.set_cons_succ]
                        refine anyH_take 35 191 (.agg #[.int .i64 x.1, .int .i64 x.2.1, .slice xh x.2.2.1.length xch, .slice xp x.2.2.2.length xcp]) SD1.out rfl (by kernel_rfl) (by kernel_rfl) (by kernel_rfl) (fun _ _ _ h => h) (by rfl) (by intro x hx; obtain ⟨y0, y1, y2, y3, y4, y5, y6, y7, y8, y9⟩ := hx; go_simp; try (intro h; omega)) ?_
                        try simp only [Act.put, List.setIfInBounds_toArray, List.set_cons_zero, List.set_cons_succ]
                        refine anyH_take 36 192 (.slice (some ⟨tb, tf, none⟩) k cap) SD1.out rfl (by kernel_rfl) (by kernel_rfl) (by kernel_rfl) (fun _ _ _ h => h) (by rfl) (by intro x hx; obtain ⟨y0, y1, y2, y3, y4, y5, y6, y7, y8, y9⟩ := hx; go_simp; try (intro h; omega)) ?_
                        try simp only [Act.put, List.setIfInBounds_toArray, List.set_cons_zero, List.set_cons_succ]
                        refine anyH_take 37 193 (.int .i64 (j : Int)) SD1.out rfl (by kernel_rfl) (by kernel_rfl) (by kernel_rfl) (fun _ _ _ h => h) (by rfl) (by intro x hx; obtain ⟨y0, y1, y2, y3, y4, y5, y6, y7, y8, y9⟩ := hx; go_simp; try (intro h; omega)) ?_
                        try simp only [Act.put, List.setIfInBounds_toArray, List.set_cons_zero, List.set_cons_succ]
                        refine anyH_take 38 194 (.pointer (some ⟨tb, tf + j * 4, none⟩)) SD1.out rfl (by kernel_rfl) (by kernel_rfl) (by kernel_rfl) (fun _ _ _ h => h) (by rfl) (by intro x hx; obtain ⟨y0, y1, y2, y3, y4, y5, y6, y7, y8, y9⟩ := hx; go_simp; try (intro h; omega)) ?_
                        try simp only [Act.put, List.setIfInBounds_toArray, List.set_cons_zero, List.set_cons_succ]
                        refine anyH_take 39 195 (.agg #[.int .i64 z.1, .int .i64 z.2.1, .slice zh z.2.2.1.length zch, .slice zp z.2.2.2.length zcp]) SD1.out rfl (by kernel_rfl) (by kernel_rfl) (by kernel_rfl) (fun _ _ _ h => h) (by rfl) (by intro x hx; obtain ⟨y0, y1, y2, y3, y4, y5, y6, y7, y8, y9⟩ := hx; go_simp; try (intro h; omega)) ?_
                        try simp only [Act.put, List.setIfInBounds_toArray, List.set_cons_zero, List.set_cons_succ]
                        refine anyH_one 31 (by kernel_rfl) ?_
                        refine wpOp_step rfl (fun Kc hKc => ?_)
                        go_simp
                        refine (HGQ.out _ D1.out).mono ?_
                        rintro e2 z2 ⟨rfl, hb2⟩
                        have D2 : Hid (Below w3.heap.size w3 z2) := D1.out.trans (hb2.mono D1.out.size)
                        have SD2 := Lib.hid (HSD.out _ D2.out)
                        clear hb2 SD1
                        dsimp only
                        refine hKc _ _ ⟨SD2.out, ?_⟩
                        clear hKc Kc
                        try simp only [Act.put, List.setIfInBounds_toArray, List.set_cons_zero, List.set_cons_succ]
                        refine anyH_one 40 (by kernel_rfl) ?_
                        refine wpOp_step rfl (fun Kc hKc => ?_)
                        go_simp
                        refine (HSAME.out _ D2.out).mono ?_
                        rintro e3 z3 ⟨rfl, hb3⟩
                        have D3 : Hid (Below w3.heap.size w3 z3) := D2.out.trans (hb3.mono D2.out.size)
                        have SD3 := Lib.hid (HSD.out _ D3.out)
                        clear hb3 SD2
                        dsimp only
                        refine hKc _ _ ⟨SD3.out, ?_⟩
                        clear hKc Kc
                        try simp only [Act.put, List.setIfInBounds_toArray, List.set_cons_zero, List.set_cons_succ]
                        refine anyH_take 41 197 (.bool false) SD3.out rfl (by kernel_rfl) (by kernel_rfl) (by kernel_rfl) (fun _ _ _ h => h) (by rfl) (by intro x hx; obtain ⟨y0, y1, y2, y3, y4, y5, y6, y7, y8, y9⟩ := hx; go_simp; try (intro h; omega)) ?_
                        try simp only [Act.put, List.setIfInBounds_toArray, List.set_cons_zero, List.set_cons_succ]
                        refine anyH_take 42 198 (.bool false) SD3.out rfl (by kernel_rfl) (by kernel_rfl) (by kernel_rfl) (fun _ _ _ h => h) (by rfl) (by intro x hx; obtain ⟨y0, y1, y2, y3, y4, y5, y6, y7, y8, y9⟩ := hx; go_simp; try (intro h; omega)) ?_
                        try simp only [Act.put, List.setIfInBounds_toArray, List.set_cons_zero, List.set_cons_succ]
                        refine anyH_take 43 199 (.bool false) SD3.out rfl (by kernel_rfl) (by kernel_rfl) (by kernel_rfl) (fun _ _ _ h => h) (by rfl) (by intro x hx; obtain ⟨y0, y1, y2, y3, y4, y5, y6, y7, y8, y9⟩ := hx; go_simp; try (intro h; omega)) ?_
                        try simp only [Act.put, List.setIfInBounds_toArray, List.set_cons_zero, List.set_cons_succ]
                        refine anyH_skip 44 200 SD3.out rfl (by kernel_rfl) (by kernel_rfl) (by kernel_rfl) (fun _ _ _ h => h) (by rfl) ?_
                        try simp only [Act.put, List.setIfInBounds_toArray, List.set_cons_zero, List.set_cons_succ]
                        refine anyH_skip 45 201 SD3.out rfl (by kernel_rfl) (by kernel_rfl) (by kernel_rfl) (fun _ _ _ h => h) (by rfl) ?_
                        try simp only [Act.put, List.setIfInBounds_toArray, List.set_cons_zero, List.set_cons_succ]
                        refine anyH_skip 46 202 SD3.out rfl (by kernel_rfl) (by kernel_rfl) (by kernel_rfl) (fun _ _ _ h => h) (by rfl) ?_
                        try simp only [Act.put, List.setIfInBounds_toArray, List.set_cons_zero, List.set_cons_succ]
                        refine anyH_skip 47 203 SD3.out rfl (by kernel_rfl) (by kernel_rfl) (by kernel_rfl) (fun _ _ _ h => h) (by rfl) ?_
                        try simp only [Act.put, List.setIfInBounds_toArray, List.set_cons_zero, List.set_cons_succ]
                        refine anyH_skip 48 204 SD3.out rfl (by kernel_rfl) (by kernel_rfl) (by kernel_rfl) (fun _ _ _ h => h) (by rfl) ?_
                        try simp only [Act.put, List.setIfInBounds_toArray, List.set_cons_zero, List.set_cons_succ]
                        refine anyH_skip 49 205 SD3.out rfl (by kernel_rfl) (by kernel_rfl) (by kernel_rfl) (fun _ _ _ h => h) (by rfl) ?_
                        try simp only [Act.put, List.setIfInBounds_toArray, List.set_cons_zero, List.set_cons_succ]
                        refine anyH_skip 50 206 SD3.out rfl (by kernel_rfl) (by kernel_rfl) (by kernel_rfl) (fun _ _ _ h => h) (by rfl) ?_
                        try simp only [Act.put, List.setIfInBounds_toArray, List.set_cons_zero, List.set_cons_succ]
                        refine anyH_skip 51 207 SD3.out rfl (by kernel_rfl) (by kernel_rfl) (by kernel_rfl) (fun _ _ _ h => h) (by rfl) ?_
                        try simp only [Act.put, List.setIfInBounds_toArray, List.set_cons_zero, List.set_cons_succ]
                        refine anyH_skip 52 208 SD3.out rfl (by kernel_rfl) (by kernel_rfl) (by kernel_rfl) (fun _ _ _ h => h) (by rfl) ?_
                        try simp only [Act.put, List.setIfInBounds_toArray, List.set_cons_zero, List.set_cons_succ]
                        refine anyH_skip 53 209 SD3.out rfl (by kernel_rfl) (by kernel_rfl) (by kernel_rfl) (fun _ _ _ h => h) (by rfl) ?_
                        try simp only [Act.put, List.setIfInBounds_toArray, List.set_cons_zero, List.set_cons_succ]
                        refine anyH_skip 54 210 SD3.out rfl (by kernel_rfl) (by kernel_rfl) (by kernel_rfl) (fun _ _ _ h => h) (by rfl) ?_
                        try simp only [Act.put, List.setIfInBounds_toArray, List.set_cons_zero, List.set_cons_succ]
                        refine anyH_take 55 211 (.bool false) SD3.out rfl (by kernel_rfl) (by kernel_rfl) (by kernel_rfl) (fun _ _ _ h => h) (by rfl) (by intro x hx; obtain ⟨y0, y1, y2, y3, y4, y5, y6, y7, y8, y9⟩ := hx; go_simp; try (intro h; omega)) ?_
                        try simp only [Act.put, List.setIfInBounds_toArray, List.set_cons_zero, List.set_cons_succ]
                        refine anyH_take 56 212 (.bool false) SD3.out rfl (by kernel_rfl) (by kernel_rfl) (by kernel_rfl) (fun _ _ _ h => h) (by rfl) (by intro x hx; obtain ⟨y0, y1, y2, y3, y4, y5, y6, y7, y8, y9⟩ := hx; go_simp; try (intro h; omega)) ?_
                        try simp only [Act.put, List.setIfInBounds_toArray, List.set_cons_zero, List.set_cons_succ]
                        refine wpAnyH_done (by kernel_rfl) ?_ _
                        go_wp2
                        go_meet
                        case rel => exact ⟨rfl, D3.out⟩
                  | true =>
                    go_upto_region 21 with (fail)
                    go_cut [212] from 156 to 212 (fun v212 y => v212 = .bool false ∧ Hid (Below w3.heap.size w3 y))
                    case rest =>
                      obtain ⟨rfl, D9⟩ := hcut
                      go_wp2
                      exact ⟨FIN.out _ D9.out, by simp [intOf]; omega⟩
                    clear FIN
                    cases hmz : Nm.may z with
                    | false =>
                      rw [hmz] at HMAYZ
                      have HPX := Lib.hid (HPP.out hh)
                      clear HPP HQQ hmz
                      clear hh
                      as_aux_lemma =>
                        refine wp_region_any (by kernel_rfl) ?_
                        change wpAny _ _ _ _ _ _ _ (World.drew _)
                        have D0 : Hid (Below w3.heap.size w3 wc.drew) := D5.out.drew
                        generalize wc.drew = z0 at *
                        refine wpAny_of_held (S := (fun y => y.cell? ⟨tb, tf + i * 4, none⟩ = some (.int .i64 x.1) ∧ y.cell? ⟨tb, tf + i * 4 + 1, none⟩ = some (.int .i64 x.2.1) ∧ y.cell? ⟨tb, tf + i * 4 + 2, none⟩ = some (.slice xh x.2.2.1.length xch) ∧ y.cell? ⟨tb, tf + i * 4 + 3, none⟩ = some (.slice xp x.2.2.2.length xcp) ∧ y.cell? ⟨tb, tf + j * 4, none⟩ = some (.int .i64 z.1) ∧ y.cell? ⟨tb, tf + j * 4 + 1, none⟩ = some (.int .i64 z.2.1) ∧ y.cell? ⟨tb, tf + j * 4 + 2, none⟩ = some (.slice zh z.2.2.1.length zch) ∧ y.cell? ⟨tb, tf + j * 4 + 3, none⟩ = some (.slice zp z.2.2.2.length zcp) ∧ y.cell? ⟨gs, i, none⟩ = some (.slice pi mi ci) ∧ y.cell? ⟨gs, j, none⟩ = some (.slice pj mj cj))) _ _ _ _ ?_
                        have SD0 := Lib.hid (HSD.out _ D0.out)
                        refine anyH_take 0 156 (.bool true) SD0.out rfl (by kernel_rfl) (by kernel_rfl) (by kernel_rfl) (fun _ _ _ h => h) (by rfl) (by intro x hx; obtain ⟨y0, y1, y2, y3, y4, y5, y6, y7, y8, y9⟩ := hx; go_simp; try (intro h; omega)) ?_
                        try simp only [Act.put, List.setIfInBounds_toArray, List.set_cons_zero, List.set_cons_succ]
                        refine anyH_take 1 157 (.bool true) SD0.out rfl (by kernel_rfl) (by kernel_rfl) (by kernel_rfl) (fun _ _ _ h => h) (by rfl) (by intro x hx; obtain ⟨y0, y1, y2, y3, y4, y5, y6, y7, y8, y9⟩ := hx; go_simp; try (intro h; omega)) ?_
                        try simp only [Act.put, List.setIfInBounds_toArray, List.set_cons_zero, List.set_cons_succ]
                        refine anyH_take 2 158 (.bool false) SD0.out rfl (by kernel_rfl) (by kernel_rfl) (by kernel_rfl) (fun _ _ _ h => h) (by rfl) (by intro x hx; obtain ⟨y0, y1, y2, y3, y4, y5, y6, y7, y8, y9⟩ := hx; go_simp; try (intro h; omega)) ?_
                        try simp only [Act.put, List.setIfInBounds_toArray, List.set_cons_zero, List.set_cons_succ]
                        refine anyH_take 3 159 (.bool false) SD0.out rfl (by kernel_rfl) (by kernel_rfl) (by kernel_rfl) (fun _ _ _ h => h) (by rfl) (by intro x hx; obtain ⟨y0, y1, y2, y3, y4, y5, y6, y7, y8, y9⟩ := hx; go_simp; try (intro h; omega)) ?_
                        try simp only [Act.put, List.setIfInBounds_toArray, List.set_cons_zero, List.set_cons_succ]
                        refine anyH_take 4 160 (.bool true) SD0.out rfl (by kernel_rfl) (by kernel_rfl) (by kernel_rfl) (fun _ _ _ h => h) (by rfl) (by intro x hx; obtain ⟨y0, y1, y2, y3, y4, y5, y6, y7, y8, y9⟩ := hx; go_simp; try (intro h; omega)) ?_
                        try simp only [Act.put, List.setIfInBounds_toArray, List.set_cons_zero, List.set_cons_succ]
                        refine anyH_take 5 161 (.bool true) SD0.out rfl (by kernel_rfl) (by kernel_rfl) (by kernel_rfl) (fun _ _ _ h => h) (by rfl) (by intro x hx; obtain ⟨y0, y1, y2, y3, y4, y5, y6, y7, y8, y9⟩ := hx; go_simp; try (intro h; omega)) ?_
                        try simp only [Act.put, List.setIfInBounds_toArray, List.set_cons_zero, List.set_cons_succ]
                        refine anyH_take 6 162 (.slice p3 m3 k3) SD0.out rfl (by kernel_rfl) (by kernel_rfl) (by kernel_rfl) (fun _ _ _ h => h) (by rfl) (by intro x hx; obtain ⟨y0, y1, y2, y3, y4, y5, y6, y7, y8, y9⟩ := hx; go_simp; try (intro h; omega)) ?_
                        try simp only [Act.put, List.setIfInBounds_toArray, List.set_cons_zero, List.set_cons_succ]
                        refine anyH_take 7 163 (.slice (some ⟨tb, tf, none⟩) k cap) SD0.out rfl (by kernel_rfl) (by kernel_rfl) (by kernel_rfl) (fun _ _ _ h => h) (by rfl) (by intro x hx; obtain ⟨y0, y1, y2, y3, y4, y5, y6, y7, y8, y9⟩ := hx; go_simp; try (intro h; omega)) ?_
                        try simp only [Act.put, List.setIfInBounds_toArray, List.set_cons_zero, List.set_cons_succ]
                        refine anyH_take 8 164 (.int .i64 (i : Int)) SD0.out rfl (by kernel_rfl) (by kernel_rfl) (by kernel_rfl) (fun _ _ _ h => h) (by rfl) (by intro x hx; obtain ⟨y0, y1, y2, y3, y4, y5, y6, y7, y8, y9⟩ := hx; go_simp; try (intro h; omega)) ?_
                        try simp only [Act.put, List.setIfInBounds_toArray, List.set_cons_zero, List.set_cons_succ]
                        refine anyH_take 9 165 (.pointer (some ⟨tb, tf + i * 4, none⟩)) SD0.out rfl (by kernel_rfl) (by kernel_rfl) (by kernel_rfl) (fun _ _ _ h => h) (by rfl) (by intro x hx; obtain ⟨y0, y1, y2, y3, y4, y5, y6, y7, y8, y9⟩ := hx; go_simp; try (intro h; omega)) ?_
                        try simp only [Act.put, List.setIfInBounds_toArray, List.set_cons_zero, List.set_cons_succ]
                        refine anyH_take 10 166 (.pointer (some ⟨tb, tf + i * 4 + 3, none⟩)) SD0.out rfl (by kernel_rfl) (by kernel_rfl) (by kernel_rfl) (fun _ _ _ h => h) (by rfl) (by intro x hx; obtain ⟨y0, y1, y2, y3, y4, y5, y6, y7, y8, y9⟩ := hx; go_simp; try (intro h; omega)) ?_
                        try simp only [Act.put, List.setIfInBounds_toArray, List.set_cons_zero, List.set_cons_succ]
                        refine anyH_take 11 167 (.slice xp x.2.2.2.length xcp) SD0.out rfl (by kernel_rfl) (by kernel_rfl) (by kernel_rfl) (fun _ _ _ h => h) (by rfl) (by intro x hx; obtain ⟨y0, y1, y2, y3, y4, y5, y6, y7, y8, y9⟩ := hx; go_simp; try (intro h; omega)) ?_
                        try simp only [Act.put, List.setIfInBounds_toArray, List.set_cons_zero, List.set_cons_succ]
                        refine anyH_one 12 (by kernel_rfl) ?_
                        refine wpOp_step rfl (fun Kc hKc => ?_)
                        go_simp
                        refine (HPX.out _ D0.out).mono ?_
                        rintro e1 z1 ⟨rfl, hb1⟩
                        have D1 : Hid (Below w3.heap.size w3 z1) := D0.out.trans (hb1.mono D0.out.size)
                        have SD1 := Lib.hid (HSD.out _ D1.out)
                        clear hb1 SD0
                        dsimp only
                        refine hKc _ _ ⟨SD1.out, ?_⟩
                        clear hKc Kc
                        try simp only [Act.put, List.setIfInBounds_toArray, List.set_cons_zero, List.set_cons_succ]
                        refine anyH_take 13 169 (.bool false) SD1.out rfl (by kernel_rfl) (by kernel_rfl) (by kernel_rfl) (fun _ _ _ h => h) (by rfl) (by intro x hx; obtain ⟨y0, y1, y2, y3, y4, y5, y6, y7, y8, y9⟩ := hx; go_simp; try (intro h; omega)) ?_
                        try simp only [Act.put, List.setIfInBounds_toArray, List.set_cons_zero, List.set_cons_succ]
                        refine anyH_take 14 170 (.bool false) SD1.out rfl (by kernel_rfl) (by kernel_rfl) (by kernel_rfl) (fun _ _ _ h => h) (by rfl) (by intro x hx; obtain ⟨y0, y1, y2, y3, y4, y5, y6, y7, y8, y9⟩ := hx; go_simp; try (intro h; omega)) ?_
                        try simp only [Act.put, List.setIfInBounds_toArray, List.set_cons_zero, List.set_cons_succ]
                        refine anyH_take 15 171 (.bool false) SD1.out rfl (by kernel_rfl) (by kernel_rfl) (by kernel_rfl) (fun _ _ _ h => h) (by rfl) (by intro x hx; obtain ⟨y0, y1, y2, y3, y4, y5, y6, y7, y8, y9⟩ := hx; go_simp; try (intro h; omega)) ?_
                        try simp only [Act.put, List.setIfInBounds_toArray, List.set_cons_zero, List.set_cons_succ]
                        refine anyH_take 16 172 (.bool false) SD1.out rfl (by kernel_rfl) (by kernel_rfl) (by kernel_rfl) (fun _ _ _ h => h) (by rfl) (by intro x hx; obtain ⟨y0, y1, y2, y3, y4, y5, y6, y7, y8, y9⟩ := hx; go_simp; try (intro h; omega)) ?_
                        try simp only [Act.put, List.setIfInBounds_toArray, List.set_cons_zero, List.set_cons_succ]
                        refine anyH_take 17 173 (.slice (some ⟨tb, tf, none⟩) k cap) SD1.out rfl (by kernel_rfl) (by kernel_rfl) (by kernel_rfl) (fun _ _ _ h => h) (by rfl) (by intro x hx; obtain ⟨y0, y1, y2, y3, y4, y5, y6, y7, y8, y9⟩ := hx; go_simp; try (intro h; omega)) ?_
                        try simp only [Act.put, List.setIfInBounds_toArray, List.set_cons_zero, List.set_cons_succ]
                        refine anyH_take 18 174 (.int .i64 (j : Int)) SD1.out rfl (by kernel_rfl) (by kernel_rfl) (by kernel_rfl) (fun _ _ _ h => h) (by rfl) (by intro x hx; obtain ⟨y0, y1, y2, y3, y4, y5, y6, y7, y8, y9⟩ := hx; go_simp; try (intro h; omega)) ?_
                        try simp only [Act.put, List.setIfInBounds_toArray, List.set_cons_zero, List.set_cons_succ]
                        refine anyH_take 19 175 (.pointer (some ⟨tb, tf + j * 4, none⟩)) SD1.out rfl (by kernel_rfl) (by kernel_rfl) (by kernel_rfl) (fun _ _ _ h => h) (by rfl) (by intro x hx; obtain ⟨y0, y1, y2, y3, y4, y5, y6, y7, y8, y9⟩ := hx; go_simp; try (intro h; omega)) ?_
                        try simp only [Act.put, List.setIfInBounds_toArray, List.set_cons_zero, List.set_cons_succ]
                        refine anyH_take 20 176 (.agg #[.int .i64 z.1, .int .i64 z.2.1, .slice zh z.2.2.1.length zch, .slice zp z.2.2.2.length zcp]) SD1.out rfl (by kernel_rfl) (by kernel_rfl) (by kernel_rfl) (fun _ _ _ h => h) (by rfl) (by intro x hx; obtain ⟨y0, y1, y2, y3, y4, y5, y6, y7, y8, y9⟩ := hx; go_simp; try (intro h; omega)) ?_
                        try simp only [Act.put, List.setIfInBounds_toArray, List.set_cons_zero, List.set_cons_succ]
                        refine anyH_one 21 (by kernel_rfl) ?_
                        refine wpOp_step rfl (fun Kc hKc => ?_)
                        go_simp
                        refine (HMAYZ.out _ D1.out).mono ?_
                        rintro e2 z2 ⟨rfl, hb2⟩
                        have D2 : Hid (Below w3.heap.size w3 z2) := D1.out.trans (hb2.mono D1.out.size)
                        have SD2 := Lib.hid (HSD.out _ D2.out)
                        clear hb2 SD1
                        dsimp only
                        refine hKc _ _ ⟨SD2.out, ?_⟩
                        clear hKc Kc
                        try simp only [Act.put, List.setIfInBounds_toArray, List.set_cons_zero, List.set_cons_succ]
                        refine anyH_take 22 178 (.bool false) SD2.out rfl (by kernel_rfl) (by kernel_rfl) (by kernel_rfl) (fun _ _ _ h => h) (by rfl) (by intro x hx; obtain ⟨y0, y1, y2, y3, y4, y5, y6, y7, y8, y9⟩ := hx; go_simp; try (intro h; omega)) ?_
                        try simp only [Act.put, List.setIfInBounds_toArray, List.set_cons_zero, List.set_cons_succ]
                        refine anyH_skip 23 179 SD2.out rfl (by kernel_rfl) (by kernel_rfl) (by kernel_rfl) (fun _ _ _ h => h) (by rfl) ?_
                        try simp only [Act.put, List.setIfInBounds_toArray, List.set_cons_zero, List.set_cons_succ]
                        refine anyH_skip 24 180 SD2.out rfl (by kernel_rfl) (by kernel_rfl) (by kernel_rfl) (fun _ _ _ h => h) (by rfl) ?_
                        try simp only [Act.put, List.setIfInBounds_toArray, List.set_cons_zero, List.set_cons_succ]
                        refine anyH_skip 25 181 SD2.out rfl (by kernel_rfl) (by kernel_rfl) (by kernel_rfl) (fun _ _ _ h => h) (by rfl) ?_
                        try simp only [Act.put, List.setIfInBounds_toArray, List.set_cons_zero, List.set_cons_succ]
                        refine anyH_skip 26 182 SD2.out rfl (by kernel_rfl) (by kernel_rfl) (by kernel_rfl) (fun _ _ _ h => h) (by rfl) ?_
                        try simp only [Act.put, List.setIfInBounds_toArray, List.set_cons_zero, List.set_cons_succ]
                        refine anyH_skip 27 183 SD2.out rfl (by kernel_rfl) (by kernel_rfl) (by kernel_rfl) (fun _ _ _ h => h) (by rfl) ?_
                        try simp only [Act.put, List.setIfInBounds_toArray, List.set_cons_zero, List.set_cons_succ]
                        refine anyH_skip 28 184 SD2.out rfl (by kernel_rfl) (by kernel_rfl) (by kernel_rfl) (fun _ _ _ h => h) (by rfl) ?_
                        try simp only [Act.put, List.setIfInBounds_toArray, List.set_cons_zero, List.set_cons_succ]
                        refine anyH_skip 29 185 SD2.out rfl (by kernel_rfl) (by kernel_rfl) (by kernel_rfl) (fun _ _ _ h => h) (by rfl) ?_
                        try simp only [Act.put, List.setIfInBounds_toArray, List.set_cons_zero, List.set_cons_succ]
                        refine anyH_skip 30 186 SD2.out rfl (by kernel_rfl) (by kernel_rfl) (by kernel_rfl) (fun _ _ _ h => h) (by rfl) ?_
                        try simp only [Act.put, List.setIfInBounds_toArray, List.set_cons_zero, List.set_cons_succ]
                        refine anyH_skip 31 187 SD2.out rfl (by kernel_rfl) (by kernel_rfl) (by kernel_rfl) (fun _ _ _ h => h) (by rfl) ?_
                        try simp only [Act.put, List.setIfInBounds_toArray, List.set_cons_zero, List.set_cons_succ]
                        refine anyH_skip 32 188 SD2.out rfl (by kernel_rfl) (by kernel_rfl) (by kernel_rfl) (fun _ _ _ h => h) (by rfl) ?_
                        try simp only [Act.put, List.setIfInBounds_toArray, List.set_cons_zero, List.set_cons_succ]
                        refine anyH_skip 33 189 SD2.out rfl (by kernel_rfl) (by kernel_rfl) (by kernel_rfl) (fun _ _ _ h => h) (by rfl) ?_
                        try simp only [Act.put, List.setIfInBounds_toArray, List.set_cons_zero, List.set_cons_succ]
                        refine anyH_skip 34 190 SD2.out rfl (by kernel_rfl) (by kernel_rfl) (by kernel_rfl) (fun _ _ _ h => h) (by rfl) ?_
                        try simp only [Act.put, List.setIfInBounds_toArray, List.set_cons_zero, List.set_cons_succ]
                        refine anyH_skip 35 191 SD2.out rfl (by kernel_rfl) (by kernel_rfl) (by kernel_rfl) (fun _ _ _ h => h) (by rfl) ?_
                        try simp only [Act.put, List.setIfInBounds_toArray, List.set_cons_zero, List.set_cons_succ]
                        refine anyH_skip 36 192 SD2.out rfl (by kernel_rfl) (by kernel_rfl) (by kernel_rfl) (fun _ _ _ h => h) (by rfl) ?_
                        try simp only [Act.put, List.setIfInBounds_toArray, List.set_cons_zero, List.set_cons_succ]
                        refine anyH_skip 37 193 SD2.out rfl (by kernel_rfl) (by kernel_rfl) (by kernel_rfl) (fun _ _ _ h => h) (by rfl) ?_
                        try simp only [Act.put, List.setIfInBounds_toArray, List.set_cons_zero, List.set_cons_succ]
                        refine anyH_skip 38 194 SD2.out rfl (by kernel_rfl) (by kernel_rfl) (by kernel_rfl) (fun _ _ _ h => h) (by rfl) ?_
                        try simp only [Act.put, List.setIfInBounds_toArray, List.set_cons_zero, List.set_cons_succ]
                        refine anyH_skip 39 195 SD2.out rfl (by kernel_rfl) (by kernel_rfl) (by kernel_rfl) (fun _ _ _ h => h) (by rfl) ?_
                        try simp only [Act.put, List.setIfInBounds_toArray, List.set_cons_zero, List.set_cons_succ]
                        refine anyH_skip 40 196 SD2.out rfl (by kernel_rfl) (by kernel_rfl) (by kernel_rfl) (fun _ _ _ h => h) (by rfl) ?_
                        try simp only [Act.put, List.setIfInBounds_toArray, List.set_cons_zero, List.set_cons_succ]
                        refine anyH_skip 41 197 SD2.out rfl (by kernel_rfl) (by kernel_rfl) (by kernel_rfl) (fun _ _ _ h => h) (by rfl) ?_
                        try simp only [Act.put, List.setIfInBounds_toArray, List.set_cons_zero, List.set_cons_succ]
                        refine anyH_take 42 198 (.bool false) SD2.out rfl (by kernel_rfl) (by kernel_rfl) (by kernel_rfl) (fun _ _ _ h => h) (by rfl) (by intro x hx; obtain ⟨y0, y1, y2, y3, y4, y5, y6, y7, y8, y9⟩ := hx; go_simp; try (intro h; omega)) ?_
                        try simp only [Act.put, List.setIfInBounds_toArray, List.set_cons_zero, List.set_cons_succ]
                        refine anyH_take 43 199 (.bool false) SD2.out rfl (by kernel_rfl) (by kernel_rfl) (by kernel_rfl) (fun _ _ _ h => h) (by rfl) (by intro x hx; obtain ⟨y0, y1, y2, y3, y4, y5, y6, y7, y8, y9⟩ := hx; go_simp; try (intro h; omega)) ?_
                        try simp only [Act.put, List.setIfInBounds_toArray, List.set_cons_zero, List.set_cons_succ]
                        refine anyH_skip 44 200 SD2.out rfl (by kernel_rfl) (by kernel_rfl) (by kernel_rfl) (fun _ _ _ h => h) (by rfl) ?_
                        try simp only [Act.put, List.setIfInBounds_toArray, List.set_cons_zero, List.set_cons_succ]
                        refine anyH_skip 45 201 SD2.out rfl (by kernel_rfl) (by kernel_rfl) (by kernel_rfl) (fun _ _ _ h => h) (by rfl) ?_
                        try simp only [Act.put, List.setIfInBounds_toArray, List.set_cons_zero, List.set_cons_succ]
                        refine anyH_skip 46 202 SD2.out rfl (by kernel_rfl) (by kernel_rfl) (by kernel_rfl) (fun _ _ _ h => h) (by rfl) ?_
                        try simp only [Act.put, List.setIfInBounds_toArray, List.set_cons_zero, List.set_cons_succ]
                        refine anyH_skip 47 203 SD2.out rfl (by kernel_rfl) (by kernel_rfl) (by kernel_rfl) (fun _ _ _ h => h) (by rfl) ?_
                        try simp only [Act.put, List.setIfInBounds_toArray, List.set_cons_zero, List.set_cons_succ]
                        refine anyH_skip 48 204 SD2.out rfl (by kernel_rfl) (by kernel_rfl) (by kernel_rfl) (fun _ _ _ h => h) (by rfl) ?_
                        try simp only [Act.put, List.setIfInBounds_toArray, List.set_cons_zero, List.set_cons_succ]
                        refine anyH_skip 49 205 SD2.out rfl (by kernel_rfl) (by kernel_rfl) (by kernel_rfl) (fun _ _ _ h => h) (by rfl) ?_
                        try simp only [Act.put, List.setIfInBounds_toArray, List.set_cons_zero, List.set_cons_succ]
                        refine anyH_skip 50 206 SD2.out rfl (by kernel_rfl) (by kernel_rfl) (by kernel_rfl) (fun _ _ _ h => h) (by rfl) ?_
                        try simp only [Act.put, List.setIfInBounds_toArray, List.set_cons_zero, List.set_cons_succ]
                        refine anyH_skip 51 207 SD2.out rfl (by kernel_rfl) (by kernel_rfl) (by kernel_rfl) (fun _ _ _ h => h) (by rfl) ?_
                        try simp only [Act.put, List.setIfInBounds_toArray, List.set_cons_zero, List.set_cons_succ]
                        refine anyH_skip 52 208 SD2.out rfl (by kernel_rfl) (by kernel_rfl) (by kernel_rfl) (fun _ _ _ h => h) (by rfl) ?_
                        try simp only [Act.put, List.setIfInBounds_toArray, List.set_cons_zero, List.set_cons_succ]
                        refine anyH_skip 53 209 SD2.out rfl (by kernel_rfl) (by kernel_rfl) (by kernel_rfl) (fun _ _ _ h => h) (by rfl) ?_
                        try simp only [Act.put, List.setIfInBounds_toArray, List.set_cons_zero, List.set_cons_succ]
                        refine anyH_skip 54 210 SD2.out rfl (by kernel_rfl) (by kernel_rfl) (by kernel_rfl) (fun _ _ _ h => h) (by rfl) ?_
                        try simp only [Act.put, List.setIfInBounds_toArray, List.set_cons_zero, List.set_cons_succ]
                        refine anyH_take 55 211 (.bool false) SD2.out rfl (by kernel_rfl) (by kernel_rfl) (by kernel_rfl) (fun _ _ _ h => h) (by rfl) (by intro x hx; obtain ⟨y0, y1, y2, y3, y4, y5, y6, y7, y8, y9⟩ := hx; go_simp; try (intro h; omega)) ?_
                        try simp only [Act.put, List.setIfInBounds_toArray, List.set_cons_zero, List.set_cons_succ]
                        refine anyH_take 56 212 (.bool false) SD2.out rfl (by kernel_rfl) (by kernel_rfl) (by kernel_rfl) (fun _ _ _ h => h) (by rfl) (by intro x hx; obtain ⟨y0, y1, y2, y3, y4, y5, y6, y7, y8, y9⟩ := hx; go_simp; try (intro h; omega)) ?_
                        try simp only [Act.put, List.setIfInBounds_toArray, List.set_cons_zero, List.set_cons_succ]
                        refine wpAnyH_done (by kernel_rfl) ?_ _
                        go_wp2
                        go_meet
                        case rel => exact ⟨rfl, D2.out⟩
                    | true =>
                      rw [hmz] at HMAYZ
                      have HPX := Lib.hid (HPP.out hh)
                      rw [HQQ.out hmz] at HGQ
                      generalize decide (x = z) = q at *
                      clear HPP HQQ hmz
                      clear hh
                      as_aux_lemma =>
                        refine wp_region_any (by kernel_rfl) ?_
                        change wpAny _ _ _ _ _ _ _ (World.drew _)
                        have D0 : Hid (Below w3.heap.size w3 wc.drew) := D5.out.drew
                        generalize wc.drew = z0 at *
                        refine wpAny_of_held (S := (fun y => y.cell? ⟨tb, tf + i * 4, none⟩ = some (.int .i64 x.1) ∧ y.cell? ⟨tb, tf + i * 4 + 1, none⟩ = some (.int .i64 x.2.1) ∧ y.cell? ⟨tb, tf + i * 4 + 2, none⟩ = some (.slice xh x.2.2.1.length xch) ∧ y.cell? ⟨tb, tf + i * 4 + 3, none⟩ = some (.slice xp x.2.2.2.length xcp) ∧ y.cell? ⟨tb, tf + j * 4, none⟩ = some (.int .i64 z.1) ∧ y.cell? ⟨tb, tf + j * 4 + 1, none⟩ = some (.int .i64 z.2.1) ∧ y.cell? ⟨tb, tf + j * 4 + 2, none⟩ = some (.slice zh z.2.2.1.length zch) ∧ y.cell? ⟨tb, tf + j * 4 + 3, none⟩ = some (.slice zp z.2.2.2.length zcp) ∧ y.cell? ⟨gs, i, none⟩ = some (.slice pi mi ci) ∧ y.cell? ⟨gs, j, none⟩ = some (.slice pj mj cj))) _ _ _ _ ?_
                        have SD0 := Lib.hid (HSD.out _ D0.out)
                        refine anyH_take 0 156 (.bool true) SD0.out rfl (by kernel_rfl) (by kernel_rfl) (by kernel_rfl) (fun _ _ _ h => h) (by rfl) (by intro x hx; obtain ⟨y0, y1, y2, y3, y4, y5, y6, y7, y8, y9⟩ := hx; go_simp; try (intro h; omega)) ?_
                        try simp only [Act.put, List.setIfInBounds_toArray, List.set_cons_zero, List.set_cons_succ]
                        refine anyH_take 1 157 (.bool true) SD0.out rfl (by kernel_rfl) (by kernel_rfl) (by kernel_rfl) (fun _ _ _ h => h) (by rfl) (by intro x hx; obtain ⟨y0, y1, y2, y3, y4, y5, y6, y7, y8, y9⟩ := hx; go_simp; try (intro h; omega)) ?_
                        try simp only [Act.put, List.setIfInBounds_toArray, List.set_cons_zero, List.set_cons_succ]
                        refine anyH_take 2 158 (.bool false) SD0.out rfl (by kernel_rfl) (by kernel_rfl) (by kernel_rfl) (fun _ _ _ h => h) (by rfl) (by intro x hx; obtain ⟨y0, y1, y2, y3, y4, y5, y6, y7, y8, y9⟩ := hx; go_simp; try (intro h; omega)) ?_
                        try simp only [Act.put, List.setIfInBounds_toArray, List.set_cons_zero, List.set_cons_succ]
                        refine anyH_take 3 159 (.bool false) SD0.out rfl (by kernel_rfl) (by kernel_rfl) (by kernel_rfl) (fun _ _ _ h => h) (by rfl) (by intro x hx; obtain ⟨y0, y1, y2, y3, y4, y5, y6, y7, y8, y9⟩ := hx; go_simp; try (intro h; omega)) ?_
                        try simp only [Act.put, List.setIfInBounds_toArray, List.set_cons_zero, List.set_cons_succ]
                        refine anyH_take 4 160 (.bool true) SD0.out rfl (by kernel_rfl) (by kernel_rfl) (by kernel_rfl) (fun _ _ _ h => h) (by rfl) (by intro x hx; obtain ⟨y0, y1, y2, y3, y4, y5, y6, y7, y8, y9⟩ := hx; go_simp; try (intro h; omega)) ?_
                        try simp only [Act.put, List.setIfInBounds_toArray, List.set_cons_zero, List.set_cons_succ]
                        refine anyH_take 5 161 (.bool true) SD0.out rfl (by kernel_rfl) (by kernel_rfl) (by kernel_rfl) (fun _ _ _ h => h) (by rfl) (by intro x hx; obtain ⟨y0, y1, y2, y3, y4, y5, y6, y7, y8, y9⟩ := hx; go_simp; try (intro h; omega)) ?_
                        try simp only [Act.put, List.setIfInBounds_toArray, List.set_cons_zero, List.set_cons_succ]
                        refine anyH_take 6 162 (.slice p3 m3 k3) SD0.out rfl (by kernel_rfl) (by kernel_rfl) (by kernel_rfl) (fun _ _ _ h => h) (by rfl) (by intro x hx; obtain ⟨y0, y1, y2, y3, y4, y5, y6, y7, y8, y9⟩ := hx; go_simp; try (intro h; omega)) ?_
                        try simp only [Act.put, List.setIfInBounds_toArray, List.set_cons_zero, List.set_cons_succ]
                        refine anyH_take 7 163 (.slice (some ⟨tb, tf, none⟩) k cap) SD0.out rfl (by kernel_rfl) (by kernel_rfl) (by kernel_rfl) (fun _ _ _ h => h) (by rfl) (by intro x hx; obtain ⟨y0, y1, y2, y3, y4, y5, y6, y7, y8, y9⟩ := hx; go_simp; try (intro h; omega)) ?_
                        try simp only [Act.put, List.setIfInBounds_toArray, List.set_cons_zero, List.set_cons_succ]
                        refine anyH_take 8 164 (.int .i64 (i : Int)) SD0.out rfl (by kernel_rfl) (by kernel_rfl) (by kernel_rfl) (fun _ _ _ h => h) (by rfl) (by intro x hx; obtain ⟨y0, y1, y2, y3, y4, y5, y6, y7, y8, y9⟩ := hx; go_simp; try (intro h; omega)) ?_
                        try simp only [Act.put, List.setIfInBounds_toArray, List.set_cons_zero, List.set_cons_succ]
                        refine anyH_take 9 165 (.pointer (some ⟨tb, tf + i * 4, none⟩)) SD0.out rfl (by kernel_rfl) (by kernel_rfl) (by kernel_rfl) (fun _ _ _ h => h) (by rfl) (by intro x hx; obtain ⟨y0, y1, y2, y3, y4, y5, y6, y7, y8, y9⟩ := hx; go_simp; try (intro h; omega)) ?_
                        try simp only [Act.put, List.setIfInBounds_toArray, List.set_cons_zero, List.set_cons_succ]
                        refine anyH_take 10 166 (.pointer (some ⟨tb, tf + i * 4 + 3, none⟩)) SD0.out rfl (by kernel_rfl) (by kernel_rfl) (by kernel_rfl) (fun _ _ _ h => h) (by rfl) (by intro x hx; obtain ⟨y0, y1, y2, y3, y4, y5, y6, y7, y8, y9⟩ := hx; go_simp; try (intro h; omega)) ?_
                        try simp only [Act.put, List.setIfInBounds_toArray, List.set_cons_zero, List.set_cons_succ]
                        refine anyH_take 11 167 (.slice xp x.2.2.2.length xcp) SD0.out rfl (by kernel_rfl) (by kernel_rfl) (by kernel_rfl) (fun _ _ _ h => h) (by rfl) (by intro x hx; obtain ⟨y0, y1, y2, y3, y4, y5, y6, y7, y8, y9⟩ := hx; go_simp; try (intro h; omega)) ?_
                        try simp only [Act.put, List.setIfInBounds_toArray, List.set_cons_zero, List.set_cons_succ]
                        refine anyH_one 12 (by kernel_rfl) ?_
                        refine wpOp_step rfl (fun Kc hKc => ?_)
                        go_simp
                        refine (HPX.out _ D0.out).mono ?_
                        rintro e1 z1 ⟨rfl, hb1⟩
                        have D1 : Hid (Below w3.heap.size w3 z1) := D0.out.trans (hb1.mono D0.out.size)
                        have SD1 := Lib.hid (HSD.out _ D1.out)
                        clear hb1 SD0
                        dsimp only
                        refine hKc _ _ ⟨SD1.out, ?_⟩
                        clear hKc Kc
                        try simp only [Act.put, List.setIfInBounds_toArray, List.set_cons_zero, List.set_cons_succ]
                        refine anyH_take 13 169 (.bool false) SD1.out rfl (by kernel_rfl) (by kernel_rfl) (by kernel_rfl) (fun _ _ _ h => h) (by rfl) (by intro x hx; obtain ⟨y0, y1, y2, y3, y4, y5, y6, y7, y8, y9⟩ := hx; go_simp; try (intro h; omega)) ?_
                        try simp only [Act.put, List.setIfInBounds_toArray, List.set_cons_zero, List.set_cons_succ]
                        refine anyH_take 14 170 (.bool false) SD1.out rfl (by kernel_rfl) (by kernel_rfl) (by kernel_rfl) (fun _ _ _ h => h) (by rfl) (by intro x hx; obtain ⟨y0, y1, y2, y3, y4, y5, y6, y7, y8, y9⟩ := hx; go_simp; try (intro h; omega)) ?_
                        try simp only [Act.put, List.setIfInBounds_toArray, List.set_cons_zero, List.set_cons_succ]
                        refine anyH_take 15 171 (.bool false) SD1.out rfl (by kernel_rfl) (by kernel_rfl) (by kernel_rfl) (fun _ _ _ h => h) (by rfl) (by intro x hx; obtain ⟨y0, y1, y2, y3, y4, y5, y6, y7, y8, y9⟩ := hx; go_simp; try (intro h; omega)) ?_
                        try simp only [Act.put, List.setIfInBounds_toArray, List.set_cons_zero, List.set_cons_succ]
                        refine anyH_take 16 172 (.bool false) SD1.out rfl (by kernel_rfl) (by kernel_rfl) (by kernel_rfl) (fun _ _ _ h => h) (by rfl) (by intro x hx; obtain ⟨y0, y1, y2, y3, y4, y5, y6, y7, y8, y9⟩ := hx; go_simp; try (intro h; omega)) ?_
                        try simp only [Act.put, List.setIfInBounds_toArray, List.set_cons_zero, List.set_cons_succ]
                        refine anyH_take 17 173 (.slice (some ⟨tb, tf, none⟩) k cap) SD1.out rfl (by kernel_rfl) (by kernel_rfl) (by kernel_rfl) (fun _ _ _ h => h) (by rfl) (by intro x hx; obtain ⟨y0, y1, y2, y3, y4, y5, y6, y7, y8, y9⟩ := hx; go_simp; try (intro h; omega)) ?_
                        try simp only [Act.put, List.setIfInBounds_toArray, List.set_cons_zero, List.set_cons_succ]
                        refine anyH_take 18 174 (.int .i64 (j : Int)) SD1.out rfl (by kernel_rfl) (by kernel_rfl) (by kernel_rfl) (fun _ _ _ h => h) (by rfl) (by intro x hx; obtain ⟨y0, y1, y2, y3, y4, y5, y6, y7, y8, y9⟩ := hx; go_simp; try (intro h; omega)) ?_
                        try simp only [Act.put, List.setIfInBounds_toArray, List.set_cons_zero, List.set_cons_succ]
                        refine anyH_take 19 175 (.pointer (some ⟨tb, tf + j * 4, none⟩)) SD1.out rfl (by kernel_rfl) (by kernel_rfl) (by kernel_rfl) (fun _ _ _ h => h) (by rfl) (by intro x hx; obtain ⟨y0, y1, y2, y3, y4, y5, y6, y7, y8, y9⟩ := hx; go_simp; try (intro h; omega)) ?_
                        try simp only [Act.put, List.setIfInBounds_toArray, List.set_cons_zero, List.set_cons_succ]
                        refine anyH_take 20 176 (.agg #[.int .i64 z.1, .int .i64 z.2.1, .slice zh z.2.2.1.length zch, .slice zp z.2.2.2.length zcp]) SD1.out rfl (by kernel_rfl) (by kernel_rfl) (by kernel_rfl) (fun _ _ _ h => h) (by rfl) (by intro x hx; obtain ⟨y0, y1, y2, y3, y4, y5, y6, y7, y8, y9⟩ := hx; go_simp; try (intro h; omega)) ?_
                        try simp only [Act.put, List.setIfInBounds_toArray, List.set_cons_zero, List.set_cons_succ]
                        refine anyH_one 21 (by kernel_rfl) ?_
                        refine wpOp_step rfl (fun Kc hKc => ?_)
                        go_simp
                        refine (HMAYZ.out _ D1.out).mono ?_
                        rintro e2 z2 ⟨rfl, hb2⟩
                        have D2 : Hid (Below w3.heap.size w3 z2) := D1.out.trans (hb2.mono D1.out.size)
                        have SD2 := Lib.hid (HSD.out _ D2.out)
                        clear hb2 SD1
                        dsimp only
                        refine hKc _ _ ⟨SD2.out, ?_⟩
                        clear hKc Kc
                        try simp only [Act.put, List.setIfInBounds_toArray, List.set_cons_zero, List.set_cons_succ]
                        refine anyH_take 22 178 (.bool true) SD2.out rfl (by kernel_rfl) (by kernel_rfl) (by kernel_rfl) (fun _ _ _ h => h) (by rfl) (by intro x hx; obtain ⟨y0, y1, y2, y3, y4, y5, y6, y7, y8, y9⟩ := hx; go_simp; try (intro h; omega)) ?_
                        try simp only [Act.put, List.setIfInBounds_toArray, List.set_cons_zero, List.set_cons_succ]
                        refine anyH_take 23 179 (.slice (some ⟨gs, 0, none⟩) k cs) SD2.out rfl (by kernel_rfl) (by kernel_rfl) (by kernel_rfl) (fun _ _ _ h => h) (by rfl) (by intro x hx; obtain ⟨y0, y1, y2, y3, y4, y5, y6, y7, y8, y9⟩ := hx; go_simp; try (intro h; omega)) ?_
                        try simp only [Act.put, List.setIfInBounds_toArray, List.set_cons_zero, List.set_cons_succ]
                        refine anyH_take 24 180 (.int .i64 (i : Int)) SD2.out rfl (by kernel_rfl) (by kernel_rfl) (by kernel_rfl) (fun _ _ _ h => h) (by rfl) (by intro x hx; obtain ⟨y0, y1, y2, y3, y4, y5, y6, y7, y8, y9⟩ := hx; go_simp; try (intro h; omega)) ?_
                        try simp only [Act.put, List.setIfInBounds_toArray, List.set_cons_zero, List.set_cons_succ]
                        refine anyH_take 25 181 (.pointer (some ⟨gs, i, none⟩)) SD2.out rfl (by kernel_rfl) (by kernel_rfl) (by kernel_rfl) (fun _ _ _ h => h) (by rfl) (by intro x hx; obtain ⟨y0, y1, y2, y3, y4, y5, y6, y7, y8, y9⟩ := hx; go_simp; try (intro h; omega)) ?_
                        try simp only [Act.put, List.setIfInBounds_toArray, List.set_cons_zero, List.set_cons_succ]
                        refine anyH_take 26 182 (.slice pi mi ci) SD2.out rfl (by kernel_rfl) (by kernel_rfl) (by kernel_rfl) (fun _ _ _ h => h) (by rfl) (by intro x hx; obtain ⟨y0, y1, y2, y3, y4, y5, y6, y7, y8, y9⟩ := hx; go_simp; try (intro h; omega)) ?_
                        try simp only [Act.put, List.setIfInBounds_toArray, List.set_cons_zero, List.set_cons_succ]
                        refine anyH_take 27 183 (.slice (some ⟨gs, 0, none⟩) k cs) SD2.out rfl (by kernel_rfl) (by kernel_rfl) (by kernel_rfl) (fun _ _ _ h => h) (by rfl) (by intro x hx; obtain ⟨y0, y1, y2, y3, y4, y5, y6, y7, y8, y9⟩ := hx; go_simp; try (intro h; omega)) ?_
                        try simp only [Act.put, List.setIfInBounds_toArray, List.set_cons_zero, List.set_cons_succ]
                        refine anyH_take 28 184 (.int .i64 (j : Int)) SD2.out rfl (by kernel_rfl) (by kernel_rfl) (by kernel_rfl) (fun _ _ _ h => h) (by rfl) (by intro x hx; obtain ⟨y0, y1, y2, y3, y4, y5, y6, y7, y8, y9⟩ := hx; go_simp; try (intro h; omega)) ?_
                        try simp only [Act.put, List.setIfInBounds_toArray, List.set_cons_zero, List.set_cons_succ]
                        refine anyH_take 29 185 (.pointer (some ⟨gs, j, none⟩)) SD2.out rfl (by kernel_rfl) (by kernel_rfl) (by kernel_rfl) (fun _ _ _ h => h) (by rfl) (by intro x hx; obtain ⟨y0, y1, y2, y3, y4, y5, y6, y7, y8, y9⟩ := hx; go_simp; try (intro h; omega)) ?_
                        try simp only [Act.put, List.setIfInBounds_toArray, List.set_cons_zero, List.set_cons_succ]
                        refine anyH_take 30 186 (.slice pj mj cj) SD2.out rfl (by kernel_rfl) (by kernel_rfl) (by kernel_rfl) (fun _ _ _ h => h) (by rfl) (by intro x hx; obtain ⟨y0, y1, y2, y3, y4, y5, y6, y7, y8, y9⟩ := hx; go_simp; try (intro h; omega)) ?_
                        try simp only [Act.put, List.setIfInBounds_toArray, List.set_cons_zero, List.set_cons_succ]
                        refine anyH_take 32 188 (.slice (some ⟨tb, tf, none⟩) k cap) SD2.out rfl (by kernel_rfl) (by kernel_rfl) (by kernel_rfl) (fun _ _ _ h => h) (by rfl) (by intro x hx; obtain ⟨y0, y1, y2, y3, y4, y5, y6, y7, y8, y9⟩ := hx; go_simp; try (intro h; omega)) ?_
                        try simp only [Act.put, List.setIfInBounds_toArray, List.set_cons_zero, List.set_cons_succ]
                        refine anyH_take 33 189 (.int .i64 (i : Int)) SD2.out rfl (by kernel_rfl) (by kernel_rfl) (by kernel_rfl) (fun _ _ _ h => h) (by rfl) (by intro x hx; obtain ⟨y0, y1, y2, y3, y4, y5, y6, y7, y8, y9⟩ := hx; go_simp; try (intro h; omega)) ?_
                        try simp only [Act.put, List.setIfInBounds_toArray, List.set_cons_zero, List.set_cons_succ]
                        refine anyH_take 34 190 (.pointer (some ⟨tb, tf + i * 4, none⟩)) SD2.out rfl (by kernel_rfl) (by kernel_rfl) (by kernel_rfl) (fun _ _ _ h => h) (by rfl) (by intro x hx; obtain ⟨y0, y1, y2, y3, y4, y5, y6, y7, y8, y9⟩ := hx; go_simp; try (intro h; omega)) ?_
                        try simp only [Act.put, List.setIfInBounds_toArray, List.set_cons_zero, List.set_cons_succ]
                        refine anyH_take 35 191 (.agg #[.int .i64 x.1, .int .i64 x.2.1, .slice xh x.2.2.1.length xch, .slice xp x.2.2.2.length xcp]) SD2.out rfl (by kernel_rfl) (by kernel_rfl) (by kernel_rfl) (fun _ _ _ h => h) (by rfl) (by intro x hx; obtain ⟨y0, y1, y2, y3, y4, y5, y6, y7, y8, y9⟩ := hx; go_simp; try (intro h; omega)) ?_
                        try simp only [Act.put, List.setIfInBounds_toArray, List.set_cons_zero, List.set_cons_succ]
                        refine anyH_take 36 192 (.slice (some ⟨tb, tf, none⟩) k cap) SD2.out rfl (by kernel_rfl) (by kernel_rfl) (by kernel_rfl) (fun _ _ _ h => h) (by rfl) (by intro x hx; obtain ⟨y0, y1, y2, y3, y4, y5, y6, y7, y8, y9⟩ := hx; go_simp; try (intro h; omega)) ?_
                        try simp only [Act.put, List.setIfInBounds_toArray, List.set_cons_zero, List.set_cons_succ]
                        refine anyH_take 37 193 (.int .i64 (j : Int)) SD2.out rfl (by kernel_rfl) (by kernel_rfl) (by kernel_rfl) (fun _ _ _ h => h) (by rfl) (by intro x hx; obtain ⟨y0, y1, y2, y3, y4, y5, y6, y7, y8, y9⟩ := hx; go_simp; try (intro h; omega)) ?_
                        try simp only [Act.put, List.setIfInBounds_toArray, List.set_cons_zero, List.set_cons_succ]
                        refine anyH_take 38 194 (.pointer (some ⟨tb, tf + j * 4, none⟩)) SD2.out rfl (by kernel_rfl) (by kernel_rfl) (by kernel_rfl) (fun _ _ _ h => h) (by rfl) (by intro x hx; obtain ⟨y0, y1, y2, y3, y4, y5, y6, y7, y8, y9⟩ := hx; go_simp; try (intro h; omega)) ?_
                        try simp only [Act.put, List.setIfInBounds_toArray, List.set_cons_zero, List.set_cons_succ]
                        refine anyH_take 39 195 (.agg #[.int .i64 z.1, .int .i64 z.2.1, .slice zh z.2.2.1.length zch, .slice zp z.2.2.2.length zcp]) SD2.out rfl (by kernel_rfl) (by kernel_rfl) (by kernel_rfl) (fun _ _ _ h => h) (by rfl) (by intro x hx; obtain ⟨y0, y1, y2, y3, y4, y5, y6, y7, y8, y9⟩ := hx; go_simp; try (intro h; omega)) ?_
                        try simp only [Act.put, List.setIfInBounds_toArray, List.set_cons_zero, List.set_cons_succ]
                        refine anyH_one 31 (by kernel_rfl) ?_
                        refine wpOp_step rfl (fun Kc hKc => ?_)
                        go_simp
                        refine (HGQ.out _ D2.out).mono ?_
                        rintro e3 z3 ⟨rfl, hb3⟩
                        have D3 : Hid (Below w3.heap.size w3 z3) := D2.out.trans (hb3.mono D2.out.size)
                        have SD3 := Lib.hid (HSD.out _ D3.out)
                        clear hb3 SD2
                        dsimp only
                        refine hKc _ _ ⟨SD3.out, ?_⟩
                        clear hKc Kc
                        try simp only [Act.put, List.setIfInBounds_toArray, List.set_cons_zero, List.set_cons_succ]
                        refine anyH_one 40 (by kernel_rfl) ?_
                        refine wpOp_step rfl (fun Kc hKc => ?_)
                        go_simp
                        refine (HSAME.out _ D3.out).mono ?_
                        rintro e4 z4 ⟨rfl, hb4⟩
                        have D4 : Hid (Below w3.heap.size w3 z4) := D3.out.trans (hb4.mono D3.out.size)
                        have SD4 := Lib.hid (HSD.out _ D4.out)
                        clear hb4 SD3
                        dsimp only
                        refine hKc _ _ ⟨SD4.out, ?_⟩
                        clear hKc Kc
                        try simp only [Act.put, List.setIfInBounds_toArray, List.set_cons_zero, List.set_cons_succ]
                        refine anyH_take 41 197 (.bool false) SD4.out rfl (by kernel_rfl) (by kernel_rfl) (by kernel_rfl) (fun _ _ _ h => h) (by rfl) (by intro x hx; obtain ⟨y0, y1, y2, y3, y4, y5, y6, y7, y8, y9⟩ := hx; go_simp; try (intro h; omega)) ?_
                        try simp only [Act.put, List.setIfInBounds_toArray, List.set_cons_zero, List.set_cons_succ]
                        refine anyH_take 42 198 (.bool false) SD4.out rfl (by kernel_rfl) (by kernel_rfl) (by kernel_rfl) (fun _ _ _ h => h) (by rfl) (by intro x hx; obtain ⟨y0, y1, y2, y3, y4, y5, y6, y7, y8, y9⟩ := hx; go_simp; try (intro h; omega)) ?_
                        try simp only [Act.put, List.setIfInBounds_toArray, List.set_cons_zero, List.set_cons_succ]
                        refine anyH_take 43 199 (.bool false) SD4.out rfl (by kernel_rfl) (by kernel_rfl) (by kernel_rfl) (fun _ _ _ h => h) (by rfl) (by intro x hx; obtain ⟨y0, y1, y2, y3, y4, y5, y6, y7, y8, y9⟩ := hx; go_simp; try (intro h; omega)) ?_
                        try simp only [Act.put, List.setIfInBounds_toArray, List.set_cons_zero, List.set_cons_succ]
                        refine anyH_skip 44 200 SD4.out rfl (by kernel_rfl) (by kernel_rfl) (by kernel_rfl) (fun _ _ _ h => h) (by rfl) ?_
                        try simp only [Act.put, List.setIfInBounds_toArray, List.set_cons_zero, List.set_cons_succ]
                        refine anyH_skip 45 201 SD4.out rfl (by kernel_rfl) (by kernel_rfl) (by kernel_rfl) (fun _ _ _ h => h) (by rfl) ?_
                        try simp only [Act.put, List.setIfInBounds_toArray, List.set_cons_zero, List.set_cons_succ]
                        refine anyH_skip 46 202 SD4.out rfl (by kernel_rfl) (by kernel_rfl) (by kernel_rfl) (fun _ _ _ h => h) (by rfl) ?_
                        try simp only [Act.put, List.setIfInBounds_toArray, List.set_cons_zero, List.set_cons_succ]
                        refine anyH_skip 47 203 SD4.out rfl (by kernel_rfl) (by kernel_rfl) (by kernel_rfl) (fun _ _ _ h => h) (by rfl) ?_
                        try simp only [Act.put, List.setIfInBounds_toArray, List.set_cons_zero, List.set_cons_succ]
                        refine anyH_skip 48 204 SD4.out rfl (by kernel_rfl) (by kernel_rfl) (by kernel_rfl) (fun _ _ _ h => h) (by rfl) ?_
                        try simp only [Act.put, List.setIfInBounds_toArray, List.set_cons_zero, List.set_cons_succ]
                        refine anyH_skip 49 205 SD4.out rfl (by kernel_rfl) (by kernel_rfl) (by kernel_rfl) (fun _ _ _ h => h) (by rfl) ?_
                        try simp only [Act.put, List.setIfInBounds_toArray, List.set_cons_zero, List.set_cons_succ]
                        refine anyH_skip 50 206 SD4.out rfl (by kernel_rfl) (by kernel_rfl) (by kernel_rfl) (fun _ _ _ h => h) (by rfl) ?_
                        try simp only [Act.put, List.setIfInBounds_toArray, List.set_cons_zero, List.set_cons_succ]
                        refine anyH_skip 51 207 SD4.out rfl (by kernel_rfl) (by kernel_rfl) (by kernel_rfl) (fun _ _ _ h => h) (by rfl) ?_
                        try simp only [Act.put, List.setIfInBounds_toArray, List.set_cons_zero, List.set_cons_succ]
                        refine anyH_skip 52 208 SD4.out rfl (by kernel_rfl) (by kernel_rfl) (by kernel_rfl) (fun _ _ _ h => h) (by rfl) ?_
                        try simp only [Act.put, List.setIfInBounds_toArray, List.set_cons_zero, List.set_cons_succ]
                        refine anyH_skip 53 209 SD4.out rfl (by kernel_rfl) (by kernel_rfl) (by kernel_rfl) (fun _ _ _ h => h) (by rfl) ?_
                        try simp only [Act.put, List.setIfInBounds_toArray, List.set_cons_zero, List.set_cons_succ]
                        refine anyH_skip 54 210 SD4.out rfl (by kernel_rfl) (by kernel_rfl) (by kernel_rfl) (fun _ _ _ h => h) (by rfl) ?_
                        try simp only [Act.put, List.setIfInBounds_toArray, List.set_cons_zero, List.set_cons_succ]
                        refine anyH_take 55 211 (.bool false) SD4.out rfl (by kernel_rfl) (by kernel_rfl) (by kernel_rfl) (fun _ _ _ h => h) (by rfl) (by intro x hx; obtain ⟨y0, y1, y2, y3, y4, y5, y6, y7, y8, y9⟩ := hx; go_simp; try (intro h; omega)) ?_
                        try simp only [Act.put, List.setIfInBounds_toArray, List.set_cons_zero, List.set_cons_succ]
                        refine anyH_take 56 212 (.bool false) SD4.out rfl (by kernel_rfl) (by kernel_rfl) (by kernel_rfl) (fun _ _ _ h => h) (by rfl) (by intro x hx; obtain ⟨y0, y1, y2, y3, y4, y5, y6, y7, y8, y9⟩ := hx; go_simp; try (intro h; omega)) ?_
                        try simp only [Act.put, List.setIfInBounds_toArray, List.set_cons_zero, List.set_cons_succ]
                        refine wpAnyH_done (by kernel_rfl) ?_ _
                        go_wp2
                        go_meet
                        case rel => exact ⟨rfl, D4.out⟩
            · obtain rfl : j = k := by omega
              clear hlj
              obtain ⟨pi, mi, ci, hgi1, hgi2, hgi3⟩ := HO.out.at hlt
              have HMI := Lib.hid hgi2
              have HCI := Lib.hid hgi1
              have HGI : Hid (∀ y, Only b wr.drew y → y.cell? ⟨gs, i, none⟩ = some (.slice pi mi ci) ∧ Bs y pi ci (Nm.gq L i)) := fun y hy => by
                obtain ⟨p', c', h1, h2, h3⟩ := own_bs (own_onlyX (w := wr.drew) hgi3 hy NE.out.2.2.2.1) HBY.out
                cases h1
                refine ⟨hy.cell ?_ hgi1, h2⟩
                have h4 := HO.out.lt gs rfl
                have h5 := NE.out
                omega
              have E4 := Lib.hid (Nm.gq_again HL.out)
              rw [HN.out] at E4
              have HLN := Lib.hid (Nm.stl_len L j)
              have HMIL : Hid (mi ≤ 10000) := by show _ ≤ _; have h1 := E3.out; rw [HMI.out] at h1; have := HXS.out; split at h1 <;> omega
              have OW : Hid (Only b wr.drew wr.drew) := Only.refl _ _
              have HBW : Hid (∀ y, Only b wr.drew y → Below w.heap.size w y) := fun y hy => hy.below HB.out.1.drew NE.out.1 HB.out.1.size
              clear hgi1 hgi2 hgi3
              go_upto_region 23 with (fail)
              go_region_held3 (fun y => y.cell? ⟨tb, tf + i * 4, none⟩ = some (.int .i64 x.1) ∧ y.cell? ⟨tb, tf + i * 4 + 1, none⟩ = some (.int .i64 x.2.1) ∧ y.cell? ⟨tb, tf + i * 4 + 2, none⟩ = some (.slice xh x.2.2.1.length xch) ∧ y.cell? ⟨tb, tf + i * 4 + 3, none⟩ = some (.slice xp x.2.2.2.length xcp) ∧ y.cell? ⟨gs, i, none⟩ = some (.slice pi mi ci))
                (exact (fun q r => ⟨q.c0, q.c1, q.c2, q.c3, r.1⟩) (HFA.out _ (HBW.out _ (Hid.out (by assumption)))) (HGI.out _ (Hid.out (by assumption))))
                (first
                  | (go_at_call 16; refine (seal_any (Nm.stl L j) x g b c xh xp _ _ xch xcp rfl rfl (by have := HXS.out; omega) _ HS.out.drew (HFA.out _ HB.out.1.drew).bh (HFA.out _ HB.out.1.drew).bp (by have := HLN.out; omega)).mono ?_; rintro e1 w1 ⟨p1, k1, m1, rfl, hm1, _, R1, S1, o1⟩; rw [E4.out.1] at hm1 R1; rw [E4.out.2] at S1; have HM1 := Lib.hid hm1; have O1 := Lib.hid o1; have G1 := Lib.hid (HO.out.drew.only o1 NE.out.2.2.2.1); clear hm1 o1)
                  | (go_at_call 18; refine (same_any (Nm.gq L i) p1 pi m1 mi k1 ci HM1.out HMI.out _ R1.out.bat (HGI.out _ O1.out).2.bat (by have := HMI.out; have := HMIL.out; omega)).mono ?_; rintro e2 w2 ⟨rfl, hb2⟩; have O2 : Hid (Only b wr.drew w2) := O1.out.trans (only_of_below hb2); have S2 := Lib.hid (S1.out.old hb2); have G2 := Lib.hid (G1.out.old hb2); clear hb2))
              go_wp2
              exact ⟨⟨i + 1, by omega, by go_num, S2.out, G2.out, HBW.out _ O2.out, Nat.le_trans HB.out.2 O2.out.size⟩, by simp [intOf]; omega⟩
        · obtain rfl : i = k := by omega
          clear hlt
          go_wp2_with (go_at_call 10; refine (works_any _).mono ?_; rintro e4 w4 ⟨rfl, hb4⟩; have B4 : Hid (Below w.heap.size w w4) := HB.out.1.trans (hb4.mono HB.out.1.size); clear hb4)
          go_ret
          exact ⟨rfl, B4.out⟩

set_option maxHeartbeats 1000000 in
set_option maxRecDepth 100000 in
theorem back_long (tp : Option Addr) (m cap : Nat) (w : World) (hg : Calls Try.prog 25 #[.slice tp m cap] w (EqSay true w)) :
    Calls Try.prog 4 #[.slice tp m cap] w (YesSay w) := by
  have HG := Lib.hid hg; clear hg
  go_enter Try.func4, Try.ntmps4
  go_wp2_with (first
    | (go_at_call 25; refine HG.out.mono ?_; rintro e1 w1 ⟨rfl, hb1⟩)
    | (go_at_call 10; refine (works_any _).mono ?_; rintro e4 w4 ⟨rfl, hb4⟩))
  go_ret
  exact ⟨rfl, hb1.trans (hb4.mono hb1.size)⟩
/-- NamesBack is true. -/
theorem back_any (L : List Nm.Four) (tp : Option Addr) (cap : Nat) (w : World) (hr : FRows w tp L) :
    Calls Try.prog 4 #[.slice tp L.length cap] w (YesSay w) := by
  have hg := great_eq L tp L.length cap rfl w hr
  cases h0 : grt L with
  | true => rw [h0] at hg; exact back_long tp _ cap w hg
  | false => rw [h0] at hg; exact back_small L tp _ cap rfl (grt_small h0) w hr hg
end Go.Proofs.Ytdmnlooghamngaa

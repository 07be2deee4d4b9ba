/-
  The law SectorBack walked.
-/
import Derived.Test.YtkjfhbmdogmecaaDoorScN0
namespace Go.Proofs.YtkjfhbmdogmecaaDoor
open Go.RowKit

section
variable {P : Program} {md : Region.Mode} {ops : Array Oper} {Q : Exit → Act → World → Prop} {S : World → Prop}
theorem anyH_two (i j : Nat) {fuel : Nat} {listed : Array Bool} {a : Act} {w : World} (hr : Region.ready md ops listed = [i, j])
    (h : wpOp P ops Q i (fun a' w' => S w' ∧ wpAnyH P md ops Q S fuel (listed.setIfInBounds i true) a' w') a w) (h2 : wpOp P ops Q j (fun a' w' => S w' ∧ wpAnyH P md ops Q S fuel (listed.setIfInBounds j true) a' w') a w) : wpAnyH P md ops Q S (fuel + 1) listed a w :=
  ⟨fun h0 => absurd (hr ▸ h0) (by simp), fun k hk => by
    rw [hr] at hk
    simp at hk
    rcases hk with rfl | rfl
    · exact h
    · exact h2⟩
end
theorem only_newS {g r : Nat} {w x y : World} (h : Only g w x) (k : Only r x y) (hr : w.heap.size ≤ r) : Only g w y :=
  ⟨k.os.trans h.os, k.tape.trans h.tape, k.output.trans h.output, Nat.le_trans h.size k.size, fun i hi hg => (k.block i (Nat.lt_of_lt_of_le hi h.size) (by omega)).trans (h.block i hi hg)⟩
theorem only_set5 {b G : Nat} {w y : World} (h : Only b w y) (hG : w.heap.size ≤ G) (v0 v1 v2 v3 v4 : Value) : Only b w (((((y.setCell ⟨G, 0, none⟩ v0).setCell ⟨G, 1, none⟩ v1).setCell ⟨G, 2, none⟩ v2).setCell ⟨G, 3, none⟩ v3).setCell ⟨G, 4, none⟩ v4) :=
  only_newS h (sset_chg y G v0 v1 v2 v3 v4).only hG
/-- Behind a Put that is refused. -/
def PutBad (n : Int) (F : World → Prop) (r : Ending) (w' : World) : Prop := ∃ u d, r = .returned (.tuple #[.slice u 0 d, .int .i64 n]) ∧ Hid (F w')
theorem putbad_of {x : Int × List Int} {n : Int} {w : World} {F : World → Prop} (hx : x = (n, [])) {r : Ending} {w' : World} (h : LPut x w F r w') : PutBad n F r w' := by
  subst hx
  obtain ⟨u, m, d, rfl, h1, h2, h3, h4⟩ := h
  have h5 : m = 0 := h1.symm
  subst h5
  exact ⟨u, d, rfl, h4⟩
set_option maxHeartbeats 4000000 in
set_option maxRecDepth 100000 in
theorem back_any (hT : TakeSaid) (K : List Int) (s : Sc.S) (p0 p1 : Option Addr) (n0 m c0 c : Nat) (hn0 : K.length = n0) (hm : s.L.length = m) (w : World) (h0 : Bs w p0 c0 K) (h1 : Bs w p1 c s.L) (ht : Tab w 0) :
    Calls Tryd.prog 3 #[.slice p0 n0 c0, Sv s p1 m c] w (YesSay w) := by
  have Ht := Lib.hid ht; clear ht
  have B0 : Hid (Below w.heap.size w (w.alloc (SO s.k s.e s.n s.a p1 m c))) := (Below.refl _ w).alloc (Nat.le_refl _) _
  have S0 : Hid (SAt (w.alloc (SO s.k s.e s.n s.a p1 m c)) w.heap.size s.k s.e s.n s.a p1 m c) := SAt.new w _ _ _ _ _ _ _
  have HKN : Hid (∀ x, Below w.heap.size w x → Calls Tryd.prog 8 #[] x (YesSay x)) := fun x hx => known_any hT x (Ht.out.below hx Ht.out.lt)
  obtain ⟨w0, hw0⟩ : ∃ x, x = w.alloc (SO s.k s.e s.n s.a p1 m c) := ⟨_, rfl⟩
  rw [← hw0] at B0 S0
  obtain ⟨x0, x1, x2, x3, x4⟩ := S0.out.all
  by_cases hl0 : (n0 : Int) > 4096
  · go_enter Tryd.func3, Tryd.ntmps3
    go_upto_region 1 with (fail)
    change Code.wp _ _ _ _ (w.alloc (SO s.k s.e s.n s.a p1 m c))
    rw [← hw0]
    clear hw0
    go_wp2_with (go_at_call 8; refine (HKN.out _ B0.out).mono ?_; rintro e1 w1 ⟨rfl, hb1⟩)
    go_ret
    exact ⟨rfl, B0.out.trans (hb1.mono B0.out.size)⟩
  by_cases hl1 : (m : Int) > 4096
  · go_enter Tryd.func3, Tryd.ntmps3
    go_upto_region 1 with (fail)
    change Code.wp _ _ _ _ (w.alloc (SO s.k s.e s.n s.a p1 m c))
    rw [← hw0]
    clear hw0
    go_wp2_with (go_at_call 8; refine (HKN.out _ B0.out).mono ?_; rintro e1 w1 ⟨rfl, hb1⟩)
    go_ret
    exact ⟨rfl, B0.out.trans (hb1.mono B0.out.size)⟩
  have HNB : Hid (∀ x, Below w.heap.size w x → Calls Tryd.prog 9 #[.slice p0 n0 c0] x (NewBox K x)) := fun x hx => newbox_any hT K p0 n0 c0 hn0 (by omega) x (h0.old hx) (Ht.out.below hx Ht.out.lt)
  have HNW : Hid (∀ x, Calls Tryd.prog 10 #[] x (NewNam x)) := newnam_any
  have HMY : Hid (∀ x, Calls Tryd.prog 12 #[Sv s p1 m c] x fun r w' => r = .returned (.bool (decide (Sc.ers s = 0))) ∧ Below x.heap.size x w') := fun x => may_any s p1 m c hm x
  have HL1 : Hid (∀ x, Below w.heap.size w x → Bs x p1 c s.L) := fun x hx => h1.old hx
  have HPB : Hid (∀ x g, Below w.heap.size w x → BoxAt x g K → Calls Tryd.prog 11 #[.iface 26 (.pointer (some ⟨g, 0, none⟩)), Sv s p1 m c] x (LPut (Sc.pt (Seal.sl K) s) x (Below x.heap.size x))) := fun x g hx hg =>
    bput_any hT K g s p1 m c hm x hg (HL1.out x hx) (Ht.out.below hx Ht.out.lt)
  have HPN : Hid (∀ x g b cc, Below w.heap.size w x → StAt x g b cc Nm.St.none → Calls Tryd.prog 11 #[.iface 28 (.pointer (some ⟨g, 0, none⟩)), Sv s p1 m c] x (LPut (Sc.pt (Sc.nsl Nm.St.none) s) x (fun z => StAt z g b cc (Sc.nd Nm.St.none s) ∧ Only b x z))) := fun x g b cc hx hg =>
    nput_any Nm.St.none g b cc s p1 m c hm x hg (HL1.out x hx) (by decide)
  rcases Decidable.em (Sc.ers s ≠ 0) with he | he
  · have hee : (Sc.ers s == 0) = false := by simpa using he
    rw [decide_eq_false he] at HMY
    have HPB2 := HPB.out
    have HPN2 := HPN.out
    clear HPB HPN
    have HPB : Hid (∀ x g, Below w.heap.size w x → BoxAt x g K → Calls Tryd.prog 11 #[.iface 26 (.pointer (some ⟨g, 0, none⟩)), Sv s p1 m c] x (PutBad (Sc.ers s) (Below x.heap.size x))) := fun x g hx hg => (HPB2 x g hx hg).mono fun _ _ q => putbad_of (Sc.pt_no he) q
    have HPN : Hid (∀ x g b cc, Below w.heap.size w x → StAt x g b cc Nm.St.none → Calls Tryd.prog 11 #[.iface 28 (.pointer (some ⟨g, 0, none⟩)), Sv s p1 m c] x (PutBad (Sc.ers s) (fun z => StAt z g b cc (Sc.nd Nm.St.none s) ∧ Only b x z))) := fun x g b cc hx hg => (HPN2 x g b cc hx hg).mono fun _ _ q => putbad_of (Sc.pt_no he) q
    clear HPB2 HPN2 he
    generalize Sc.ers s = ee at *
    go_enter Tryd.func3, Tryd.ntmps3
    go_upto_region 1 with (fail)
    change Code.wp _ _ _ _ (w.alloc (SO s.k s.e s.n s.a p1 m c))
    rw [← hw0]
    clear hw0
    go_upto_region 4 with (first
      | (go_at_call 9; refine (HNB.out _ B0.out).mono ?_; rintro e1 w1 ⟨gb, rfl, G1, b1⟩; have B1 : Hid (Below w0.heap.size w0 w1) := Lib.hid b1; clear b1; have W1 : Hid (Below w.heap.size w w1) := B0.out.trans (B1.out.mono B0.out.size))
      | (go_at_call 10; refine (HNW.out _).mono ?_; rintro e2 w2 ⟨g, b, cc, rfl, L1, St2, B2⟩))
    change Code.wp _ _ _ _ (w2.alloc (.cells #[.iface 26 (.pointer (some ⟨gb, 0, none⟩)), .iface 28 (.pointer (some ⟨g, 0, none⟩))] 35))
    have A3 : Hid ((w2.alloc (.cells #[.iface 26 (.pointer (some ⟨gb, 0, none⟩)), .iface 28 (.pointer (some ⟨g, 0, none⟩))] 35)).heap[w2.heap.size]? = some (.cells #[.iface 26 (.pointer (some ⟨gb, 0, none⟩)), .iface 28 (.pointer (some ⟨g, 0, none⟩))] 35 (0, 0))) := heap_alloc_new w2 _
    have B3 : Hid (Below w2.heap.size w2 (w2.alloc (.cells #[.iface 26 (.pointer (some ⟨gb, 0, none⟩)), .iface 28 (.pointer (some ⟨g, 0, none⟩))] 35))) := (Below.refl _ w2).alloc (Nat.le_refl _) _
    obtain ⟨w3, hw3⟩ : ∃ x, x = w2.alloc (.cells #[.iface 26 (.pointer (some ⟨gb, 0, none⟩)), .iface 28 (.pointer (some ⟨g, 0, none⟩))] 35) := ⟨_, rfl⟩
    rw [← hw3] at A3 B3 ⊢
    clear hw3 x0 x1 x2 x3 x4
    have St3 : Hid (StAt w3 g b cc Nm.St.none) := St2.out.old B3.out
    have B13 : Hid (Below w1.heap.size w1 w3) := B2.out.trans (B3.out.mono B2.out.size)
    have BL : Hid (b ≠ w2.heap.size ∧ w1.heap.size ≤ b ∧ b < w2.heap.size) := ⟨by have := St2.out.lt.2.1; omega, L1.out.2.1, St2.out.lt.2.1⟩
    have HW1 : Hid (∀ y, Only b w3 y → Below w1.heap.size w1 y) := fun y hy => hy.below B13.out BL.out.2.1 B13.out.size
    have HWW : Hid (∀ y, Only b w3 y → Below w.heap.size w y) := fun y hy => W1.out.trans ((HW1.out y hy).mono W1.out.size)
    have HGB : Hid (∀ y, Only b w3 y → BoxAt y gb K) := fun y hy => G1.out.old (HW1.out y hy)
    have HSS : Hid (∀ y, Only b w3 y → SAt y w.heap.size s.k s.e s.n s.a p1 m c) := fun y hy => S0.out.old (B1.out.trans ((HW1.out y hy).mono B1.out.size))
    have HKC : Hid (∀ y, Only b w3 y → (y.cell? ⟨w2.heap.size, 0, none⟩ = some (.iface 26 (.pointer (some ⟨gb, 0, none⟩))) ∧ y.cell? ⟨w2.heap.size, 1, none⟩ = some (.iface 28 (.pointer (some ⟨g, 0, none⟩)))) ∧ (y.cell? ⟨w.heap.size, 0, none⟩ = some (.int .i64 s.k) ∧ y.cell? ⟨w.heap.size, 1, none⟩ = some (.int .i64 s.e) ∧ y.cell? ⟨w.heap.size, 2, none⟩ = some (.int .i64 s.n) ∧ y.cell? ⟨w.heap.size, 3, none⟩ = some (.int .i64 s.a) ∧ y.cell? ⟨w.heap.size, 4, none⟩ = some (.slice p1 m c))) := fun y hy => ⟨⟨hy.cell BL.out.1.symm (by rw [cell_of_row _ _ 0 _ _ _ A3.out]; rfl), hy.cell BL.out.1.symm (by rw [cell_of_row _ _ 1 _ _ _ A3.out]; rfl)⟩, (HSS.out y hy).all⟩
    go_wp2
    go_loopw [6] (fun v6 wr => ∃ k : Nat, k ≤ 2 ∧ v6 = .int .i64 k ∧ Hid (Only b w3 wr) ∧ Hid (k ≤ 1 → StAt wr g b cc Nm.St.none)) (fun v6 _ => 2 - (intOf v6).toNat)
    case atStart => exact ⟨0, by omega, rfl, Only.refl _ _, fun _ => St3.out⟩
    case round =>
      obtain ⟨k, hk, rfl, HO, HST⟩ := hrel
      by_cases h2 : k = 2
      · subst h2
        go_wp2_with (go_at_call 8; refine (HKN.out _ (HWW.out _ HO.out)).mono ?_; rintro e9 w9 ⟨rfl, b9⟩)
        go_ret
        exact ⟨rfl, (HWW.out _ HO.out).trans (b9.mono (HWW.out _ HO.out).size)⟩
      have HOd : Hid (Only b w3 wr.drew) := HO.out.drew
      by_cases h0 : k = 0
      · subst h0
        go_upto_region 7 with (fail)
        go_region_held3 (fun y => (y.cell? ⟨w2.heap.size, 0, none⟩ = some (.iface 26 (.pointer (some ⟨gb, 0, none⟩))) ∧ y.cell? ⟨w2.heap.size, 1, none⟩ = some (.iface 28 (.pointer (some ⟨g, 0, none⟩)))) ∧ (y.cell? ⟨w.heap.size, 0, none⟩ = some (.int .i64 s.k) ∧ y.cell? ⟨w.heap.size, 1, none⟩ = some (.int .i64 s.e) ∧ y.cell? ⟨w.heap.size, 2, none⟩ = some (.int .i64 s.n) ∧ y.cell? ⟨w.heap.size, 3, none⟩ = some (.int .i64 s.a) ∧ y.cell? ⟨w.heap.size, 4, none⟩ = some (.slice p1 m c)))
          (exact HKC.out _ (Hid.out (by assumption)))
          ((go_at_call 11; refine (HPB.out _ gb (HWW.out _ HOd.out) (HGB.out _ HOd.out)).mono ?_; rintro e4 w4 ⟨u4, d4, rfl, F4⟩; have O4 : Hid (Only b w3 w4) := HOd.out.trans (only_of_below F4.out)))
        obtain ⟨⟨q0, q1⟩, x0, x1, x2, x3, x4⟩ := HKC.out _ O4.out
        go_wp2_with (go_at_call 12; refine (HMY.out _).mono ?_; rintro e5 w5 ⟨rfl, b5⟩; have O5 : Hid (Only b w3 w5) := O4.out.trans (only_of_below b5))
        exact ⟨⟨1, by omega, by go_num, O5.out, fun h => (StAt.old (StAt.old (StAt.drew (HST.out (by omega))) F4.out) b5)⟩, by simp [intOf]⟩
      · obtain rfl : k = 1 := by omega
        go_upto_region 7 with (fail)
        go_region_held3 (fun y => (y.cell? ⟨w2.heap.size, 0, none⟩ = some (.iface 26 (.pointer (some ⟨gb, 0, none⟩))) ∧ y.cell? ⟨w2.heap.size, 1, none⟩ = some (.iface 28 (.pointer (some ⟨g, 0, none⟩)))) ∧ (y.cell? ⟨w.heap.size, 0, none⟩ = some (.int .i64 s.k) ∧ y.cell? ⟨w.heap.size, 1, none⟩ = some (.int .i64 s.e) ∧ y.cell? ⟨w.heap.size, 2, none⟩ = some (.int .i64 s.n) ∧ y.cell? ⟨w.heap.size, 3, none⟩ = some (.int .i64 s.a) ∧ y.cell? ⟨w.heap.size, 4, none⟩ = some (.slice p1 m c)))
          (exact HKC.out _ (Hid.out (by assumption)))
          ((go_at_call 11; refine (HPN.out _ g b cc (HWW.out _ HOd.out) ((HST.out (by omega)).drew)).mono ?_; rintro e4 w4 ⟨u4, d4, rfl, F4⟩; have O4 : Hid (Only b w3 w4) := HOd.out.trans (F4.out.2)))
        obtain ⟨⟨q0, q1⟩, x0, x1, x2, x3, x4⟩ := HKC.out _ O4.out
        go_wp2_with (go_at_call 12; refine (HMY.out _).mono ?_; rintro e5 w5 ⟨rfl, b5⟩; have O5 : Hid (Only b w3 w5) := O4.out.trans (only_of_below b5))
        exact ⟨⟨2, by omega, by go_num, O5.out, fun h => absurd h (by omega)⟩, by simp [intOf]⟩
  · have he : Sc.ers s = 0 := Decidable.not_not.1 he
    rw [decide_eq_true he] at HMY
    obtain ⟨N, hN⟩ : ∃ N, N = 49 + m := ⟨_, rfl⟩
    obtain ⟨X, hX, hXl⟩ : ∃ X, Sc.pt (Seal.sl K) s = (0, X) ∧ X.length = N := ⟨_, Sc.pt_ok he, by have h := Sc.box_put_len K he; rw [Sc.pt_ok he] at h; rw [hN, ← hm]; exact h⟩
    obtain ⟨Y, hY, hYl⟩ : ∃ Y, Sc.pt (Sc.nsl Nm.St.none) s = (0, Y) ∧ Y.length = N := ⟨_, Sc.pt_ok he, by have h := Sc.nam_put_len Nm.St.none he; rw [Sc.pt_ok he] at h; rw [hN, ← hm]; exact h⟩
    have gX : Sc.gt (Seal.op K) s.k s.a X = (0, s) := by have h := Sc.box_back K he h1.bat.1; rw [hX] at h; exact h
    have gY : Sc.gt (Nm.opn (Sc.nd Nm.St.none s)) s.k s.a Y = (0, s) := by have h := Sc.nam_back Nm.St.none he; rw [hY] at h; exact h
    have kX : Sc.kd X = s.k := by have h := Sc.kd_fr s.k s.e s.n (Sc.ers_parts he).1 (Seal.sl K s.e s.n (Sc.mk s.k s.a) s.L); have q := Sc.pt_ok (f := Seal.sl K) he; rw [hX] at q; cases q; exact h
    have kY : Sc.kd Y = s.k := by have h := Sc.kd_fr s.k s.e s.n (Sc.ers_parts he).1 (Sc.nsl Nm.St.none s.e s.n (Sc.mk s.k s.a) s.L); have q := Sc.pt_ok (f := Sc.nsl Nm.St.none) he; rw [hY] at q; cases q; exact h
    have hw49 : IntKind.i64.wrap (49 + (m : Int)) = (N : Int) := by rw [IntWalk.i64_in _ ⟨by omega, by omega⟩]; omega
    have HPB2 := HPB.out
    have HPN2 := HPN.out
    clear HPB HPN
    obtain ⟨T1, hT1⟩ : ∃ T, T = Sc.nd Nm.St.none s := ⟨_, rfl⟩
    rw [← hT1] at gY HPN2
    have HPB : Hid (∀ x g, Below w.heap.size w x → BoxAt x g K → Calls Tryd.prog 11 #[.iface 26 (.pointer (some ⟨g, 0, none⟩)), Sv s p1 m c] x (PutOk X N x (Below x.heap.size x))) := fun x g hx hg => (HPB2 x g hx hg).mono fun _ _ q => putok_of hX hXl q
    have HPN : Hid (∀ x g b cc, Below w.heap.size w x → StAt x g b cc Nm.St.none → Calls Tryd.prog 11 #[.iface 28 (.pointer (some ⟨g, 0, none⟩)), Sv s p1 m c] x (PutOk Y N x (fun z => StAt z g b cc T1 ∧ Only b x z))) := fun x g b cc hx hg => (HPN2 x g b cc hx hg).mono fun _ _ q => putok_of hY hYl q
    have HGX : Hid (∀ x g p c, Below w.heap.size w x → BoxAt x g K → Bs x p c X → Calls Tryd.prog 13 #[.iface 26 (.pointer (some ⟨g, 0, none⟩)), .int .i64 s.k, .int .i64 s.a, .slice p N c] x (GetOk s m x)) := fun x g p c hx hg hp =>
      (bget_any hT K g s.k s.a X p N c hXl x hg hp (Ht.out.below hx Ht.out.lt)).mono fun _ _ q => getok_of gX hm q
    have HGY : Hid (∀ x g b cc p c, StAt x g b cc T1 → Bs x p c Y → Calls Tryd.prog 13 #[.iface 28 (.pointer (some ⟨g, 0, none⟩)), .int .i64 s.k, .int .i64 s.a, .slice p N c] x (GetOk s m x)) := fun x g b cc p c hg hp =>
      (nget_any T1 g b cc s.k s.a Y p N c hYl x hg hp).mono fun _ _ q => getok_of gY hm q
    have HKX : Hid (∀ x p c, Bs x p c X → Calls Tryd.prog 15 #[.slice p N c] x fun r x' => r = .returned (.int .i64 s.k) ∧ x' = x) := fun x p c hp => by have h := kind_any X p N c hXl x hp; rw [kX] at h; exact h
    have HKY : Hid (∀ x p c, Bs x p c Y → Calls Tryd.prog 15 #[.slice p N c] x fun r x' => r = .returned (.int .i64 s.k) ∧ x' = x) := fun x p c hp => by have h := kind_any Y p N c hYl x hp; rw [kY] at h; exact h
    have HSM : Hid (∀ x p c', Below w.heap.size w x → Bs x p c' s.L → Calls Tryd.prog 14 #[Sv s p m c', Sv s p1 m c] x fun r x' => r = .returned (.bool true) ∧ Below x.heap.size x x') := fun x p c' hx hp => by
      have h := samesec_any s s p p1 m m c' c hm hm x hp (HL1.out x hx) (by omega)
      rw [decide_eq_true rfl] at h
      exact h
    clear hX hXl hY hYl gX gY kX kY hT1 HPB2 HPN2 he hN hT h0 h1
    go_enter Tryd.func3, Tryd.ntmps3
    go_upto_region 1 with (fail)
    change Code.wp _ _ _ _ (w.alloc (SO s.k s.e s.n s.a p1 m c))
    rw [← hw0]
    clear hw0
    go_upto_region 4 with (first
      | (go_at_call 9; refine (HNB.out _ B0.out).mono ?_; rintro e1 w1 ⟨gb, rfl, G1, b1⟩; have B1 : Hid (Below w0.heap.size w0 w1) := Lib.hid b1; clear b1; have W1 : Hid (Below w.heap.size w w1) := B0.out.trans (B1.out.mono B0.out.size))
      | (go_at_call 10; refine (HNW.out _).mono ?_; rintro e2 w2 ⟨g, b, cc, rfl, L1, St2, B2⟩))
    change Code.wp _ _ _ _ (w2.alloc (.cells #[.iface 26 (.pointer (some ⟨gb, 0, none⟩)), .iface 28 (.pointer (some ⟨g, 0, none⟩))] 35))
    have A3 : Hid ((w2.alloc (.cells #[.iface 26 (.pointer (some ⟨gb, 0, none⟩)), .iface 28 (.pointer (some ⟨g, 0, none⟩))] 35)).heap[w2.heap.size]? = some (.cells #[.iface 26 (.pointer (some ⟨gb, 0, none⟩)), .iface 28 (.pointer (some ⟨g, 0, none⟩))] 35 (0, 0))) := heap_alloc_new w2 _
    have B3 : Hid (Below w2.heap.size w2 (w2.alloc (.cells #[.iface 26 (.pointer (some ⟨gb, 0, none⟩)), .iface 28 (.pointer (some ⟨g, 0, none⟩))] 35))) := (Below.refl _ w2).alloc (Nat.le_refl _) _
    obtain ⟨w3, hw3⟩ : ∃ x, x = w2.alloc (.cells #[.iface 26 (.pointer (some ⟨gb, 0, none⟩)), .iface 28 (.pointer (some ⟨g, 0, none⟩))] 35) := ⟨_, rfl⟩
    rw [← hw3] at A3 B3 ⊢
    clear hw3 x0 x1 x2 x3 x4
    have St3 : Hid (StAt w3 g b cc Nm.St.none) := St2.out.old B3.out
    have B13 : Hid (Below w1.heap.size w1 w3) := B2.out.trans (B3.out.mono B2.out.size)
    have BL : Hid (b ≠ w2.heap.size ∧ w1.heap.size ≤ b ∧ b < w2.heap.size) := ⟨by have := St2.out.lt.2.1; omega, L1.out.2.1, St2.out.lt.2.1⟩
    have HW1 : Hid (∀ y, Only b w3 y → Below w1.heap.size w1 y) := fun y hy => hy.below B13.out BL.out.2.1 B13.out.size
    have HWW : Hid (∀ y, Only b w3 y → Below w.heap.size w y) := fun y hy => W1.out.trans ((HW1.out y hy).mono W1.out.size)
    have HGB : Hid (∀ y, Only b w3 y → BoxAt y gb K) := fun y hy => G1.out.old (HW1.out y hy)
    have HSS : Hid (∀ y, Only b w3 y → SAt y w.heap.size s.k s.e s.n s.a p1 m c) := fun y hy => S0.out.old (B1.out.trans ((HW1.out y hy).mono B1.out.size))
    have HKC : Hid (∀ y, Only b w3 y → (y.cell? ⟨w2.heap.size, 0, none⟩ = some (.iface 26 (.pointer (some ⟨gb, 0, none⟩))) ∧ y.cell? ⟨w2.heap.size, 1, none⟩ = some (.iface 28 (.pointer (some ⟨g, 0, none⟩)))) ∧ (y.cell? ⟨w.heap.size, 0, none⟩ = some (.int .i64 s.k) ∧ y.cell? ⟨w.heap.size, 1, none⟩ = some (.int .i64 s.e) ∧ y.cell? ⟨w.heap.size, 2, none⟩ = some (.int .i64 s.n) ∧ y.cell? ⟨w.heap.size, 3, none⟩ = some (.int .i64 s.a) ∧ y.cell? ⟨w.heap.size, 4, none⟩ = some (.slice p1 m c))) := fun y hy => ⟨⟨hy.cell BL.out.1.symm (by rw [cell_of_row _ _ 0 _ _ _ A3.out]; rfl), hy.cell BL.out.1.symm (by rw [cell_of_row _ _ 1 _ _ _ A3.out]; rfl)⟩, (HSS.out y hy).all⟩
    go_wp2
    go_loopw [6] (fun v6 wr => ∃ k : Nat, k ≤ 2 ∧ v6 = .int .i64 k ∧ Hid (Only b w3 wr) ∧ Hid (k ≤ 1 → StAt wr g b cc Nm.St.none)) (fun v6 _ => 2 - (intOf v6).toNat)
    case atStart => exact ⟨0, by omega, rfl, Only.refl _ _, fun _ => St3.out⟩
    case round =>
      obtain ⟨k, hk, rfl, HO, HST⟩ := hrel
      by_cases h2 : k = 2
      · subst h2
        go_wp2_with (go_at_call 8; refine (HKN.out _ (HWW.out _ HO.out)).mono ?_; rintro e9 w9 ⟨rfl, b9⟩)
        go_ret
        exact ⟨rfl, (HWW.out _ HO.out).trans (b9.mono (HWW.out _ HO.out).size)⟩
      have HOd : Hid (Only b w3 wr.drew) := HO.out.drew
      by_cases h0 : k = 0
      · subst h0
        go_upto_region 7 with (fail)
        go_region_held3 (fun y => (y.cell? ⟨w2.heap.size, 0, none⟩ = some (.iface 26 (.pointer (some ⟨gb, 0, none⟩))) ∧ y.cell? ⟨w2.heap.size, 1, none⟩ = some (.iface 28 (.pointer (some ⟨g, 0, none⟩)))) ∧ (y.cell? ⟨w.heap.size, 0, none⟩ = some (.int .i64 s.k) ∧ y.cell? ⟨w.heap.size, 1, none⟩ = some (.int .i64 s.e) ∧ y.cell? ⟨w.heap.size, 2, none⟩ = some (.int .i64 s.n) ∧ y.cell? ⟨w.heap.size, 3, none⟩ = some (.int .i64 s.a) ∧ y.cell? ⟨w.heap.size, 4, none⟩ = some (.slice p1 m c)))
          (exact HKC.out _ (Hid.out (by assumption)))
          ((go_at_call 11; refine (HPB.out _ gb (HWW.out _ HOd.out) (HGB.out _ HOd.out)).mono ?_; rintro e4 w4 ⟨u4, d4, rfl, P4, H4, F4⟩; have O4 : Hid (Only b w3 w4) := HOd.out.trans (only_of_below F4.out)))
        have St4 : Hid (StAt w4 g b cc Nm.St.none) := (StAt.old (StAt.drew (HST.out (by omega))) F4.out)
        obtain ⟨⟨q0, q1⟩, x0, x1, x2, x3, x4⟩ := HKC.out _ O4.out
        go_upto_region 11 with (go_at_call 12; refine (HMY.out _).mono ?_; rintro e5 w5 ⟨rfl, b5⟩; have O5 : Hid (Only b w3 w5) := O4.out.trans (only_of_below b5); have H5 : Hid (Bs w5 u4 d4 X) := H4.out.old b5; have St5 : Hid (StAt w5 g b cc Nm.St.none) := St4.out.old b5; clear b5)
        have Oz : Hid (Only b w3 w5.drew) := O5.out.drew
        have H4z : Hid (Bs w5.drew u4 d4 X) := H5.out.drew
        have Stz : Hid (StAt w5.drew g b cc Nm.St.none) := St5.out.drew
        clear q0 q1 x0 x1 x2 x3 x4 O4 H4 P4 F4 St4 HPB HPN HMY HOd HST HO
        refine wp_region_any (by kernel_rfl) ?_
        change wpAny _ _ _ _ _ _ _ (World.drew _)
        generalize w5.drew = z at *
        clear O5 H5 St5
        have TD := HKC.out _ Oz.out
        refine wpAny_of_held (S := fun y => (y.cell? ⟨w2.heap.size, 0, none⟩ = some (.iface 26 (.pointer (some ⟨gb, 0, none⟩))) ∧ y.cell? ⟨w2.heap.size, 1, none⟩ = some (.iface 28 (.pointer (some ⟨g, 0, none⟩)))) ∧ (y.cell? ⟨w.heap.size, 0, none⟩ = some (.int .i64 s.k) ∧ y.cell? ⟨w.heap.size, 1, none⟩ = some (.int .i64 s.e) ∧ y.cell? ⟨w.heap.size, 2, none⟩ = some (.int .i64 s.n) ∧ y.cell? ⟨w.heap.size, 3, none⟩ = some (.int .i64 s.a) ∧ y.cell? ⟨w.heap.size, 4, none⟩ = some (.slice p1 m c))) _ _ _ _ ?_
        refine anyH_take 0 51 (.slice (some ⟨w2.heap.size, 0, none⟩) 2 2) TD rfl (by kernel_rfl) (by kernel_rfl) (by kernel_rfl) (fun _ _ _ h => h) (by rfl) (by intro x hx; obtain ⟨⟨y0, y1⟩, y2, y3, y4, y5, y6⟩ := hx; go_simp; try (intro h; omega)) ?_
        try simp only [Act.put, List.setIfInBounds_toArray, List.set_cons_zero, List.set_cons_succ]
        refine anyH_take 1 52 (.int .i64 0) TD rfl (by kernel_rfl) (by kernel_rfl) (by kernel_rfl) (fun _ _ _ h => h) (by rfl) (by intro x hx; obtain ⟨⟨y0, y1⟩, y2, y3, y4, y5, y6⟩ := hx; go_simp; try (intro h; omega)) ?_
        try simp only [Act.put, List.setIfInBounds_toArray, List.set_cons_zero, List.set_cons_succ]
        refine anyH_take 2 53 (.pointer (some ⟨w2.heap.size, 0, none⟩)) TD rfl (by kernel_rfl) (by kernel_rfl) (by kernel_rfl) (fun _ _ _ h => h) (by rfl) (by intro x hx; obtain ⟨⟨y0, y1⟩, y2, y3, y4, y5, y6⟩ := hx; go_simp; try (intro h; omega)) ?_
        try simp only [Act.put, List.setIfInBounds_toArray, List.set_cons_zero, List.set_cons_succ]
        refine anyH_take 3 54 (.iface 26 (.pointer (some ⟨gb, 0, none⟩))) TD rfl (by kernel_rfl) (by kernel_rfl) (by kernel_rfl) (fun _ _ _ h => h) (by rfl) (by intro x hx; obtain ⟨⟨y0, y1⟩, y2, y3, y4, y5, y6⟩ := hx; go_simp; try (intro h; omega)) ?_
        try simp only [Act.put, List.setIfInBounds_toArray, List.set_cons_zero, List.set_cons_succ]
        refine anyH_take 4 55 (.pointer (some ⟨w.heap.size, 0, none⟩)) TD rfl (by kernel_rfl) (by kernel_rfl) (by kernel_rfl) (fun _ _ _ h => h) (by rfl) (by intro x hx; obtain ⟨⟨y0, y1⟩, y2, y3, y4, y5, y6⟩ := hx; go_simp; try (intro h; omega)) ?_
        try simp only [Act.put, List.setIfInBounds_toArray, List.set_cons_zero, List.set_cons_succ]
        refine anyH_take 5 56 (.int .i64 s.k) TD rfl (by kernel_rfl) (by kernel_rfl) (by kernel_rfl) (fun _ _ _ h => h) (by rfl) (by intro x hx; obtain ⟨⟨y0, y1⟩, y2, y3, y4, y5, y6⟩ := hx; go_simp; try (intro h; omega)) ?_
        try simp only [Act.put, List.setIfInBounds_toArray, List.set_cons_zero, List.set_cons_succ]
        refine anyH_take 6 57 (.pointer (some ⟨w.heap.size, 3, none⟩)) TD rfl (by kernel_rfl) (by kernel_rfl) (by kernel_rfl) (fun _ _ _ h => h) (by rfl) (by intro x hx; obtain ⟨⟨y0, y1⟩, y2, y3, y4, y5, y6⟩ := hx; go_simp; try (intro h; omega)) ?_
        try simp only [Act.put, List.setIfInBounds_toArray, List.set_cons_zero, List.set_cons_succ]
        refine anyH_take 7 58 (.int .i64 s.a) TD rfl (by kernel_rfl) (by kernel_rfl) (by kernel_rfl) (fun _ _ _ h => h) (by rfl) (by intro x hx; obtain ⟨⟨y0, y1⟩, y2, y3, y4, y5, y6⟩ := hx; go_simp; try (intro h; omega)) ?_
        try simp only [Act.put, List.setIfInBounds_toArray, List.set_cons_zero, List.set_cons_succ]
        refine anyH_take 8 59 (.slice u4 N d4) TD rfl (by kernel_rfl) (by kernel_rfl) (by kernel_rfl) (fun _ _ _ h => h) (by rfl) (by intro x hx; obtain ⟨⟨y0, y1⟩, y2, y3, y4, y5, y6⟩ := hx; go_simp; try (intro h; omega)) ?_
        try simp only [Act.put, List.setIfInBounds_toArray, List.set_cons_zero, List.set_cons_succ]
        refine anyH_two 9 13 (by kernel_rfl) ?_ ?_
        · refine wpOp_step rfl (fun Kc hKc => ?_)
          go_simp
          refine (HGX.out z gb _ _ (HWW.out _ Oz.out) (HGB.out _ Oz.out) H4z.out).mono ?_
          rintro e6 w6 ⟨u6, d6, rfl, P6, H6, b6⟩
          have O6 : Hid (Only b w3 w6) := Oz.out.trans (only_of_below b6.out)
          dsimp only
          refine hKc _ _ ⟨HKC.out _ O6.out, ?_⟩
          clear hKc Kc
          have TE := HKC.out _ O6.out
          try simp only [Act.put, List.setIfInBounds_toArray, List.set_cons_zero, List.set_cons_succ]
          refine anyH_take 10 50 (.tuple #[Sv s u6 m d6, .int .i64 0]) TE rfl (by kernel_rfl) (by kernel_rfl) (by kernel_rfl) (fun _ _ _ h => h) (by rfl) (by intro x hx; obtain ⟨⟨y0, y1⟩, y2, y3, y4, y5, y6⟩ := hx; go_simp; try (intro h; omega)) ?_
          try simp only [Act.put, List.setIfInBounds_toArray, List.set_cons_zero, List.set_cons_succ]
          refine anyH_take 11 61 (Sv s u6 m d6) TE rfl (by kernel_rfl) (by kernel_rfl) (by kernel_rfl) (fun _ _ _ h => h) (by rfl) (by intro x hx; obtain ⟨⟨y0, y1⟩, y2, y3, y4, y5, y6⟩ := hx; go_simp; try (intro h; omega)) ?_
          try simp only [Act.put, List.setIfInBounds_toArray, List.set_cons_zero, List.set_cons_succ]
          refine anyH_take 12 62 (.int .i64 0) TE rfl (by kernel_rfl) (by kernel_rfl) (by kernel_rfl) (fun _ _ _ h => h) (by rfl) (by intro x hx; obtain ⟨⟨y0, y1⟩, y2, y3, y4, y5, y6⟩ := hx; go_simp; try (intro h; omega)) ?_
          try simp only [Act.put, List.setIfInBounds_toArray, List.set_cons_zero, List.set_cons_succ]
          refine anyH_one 13 (by kernel_rfl) ?_
          refine wpOp_step rfl (fun Kc hKc => ?_)
          go_simp
          refine hKc _ _ ⟨HKC.out _ (O6.out.alloc _), ?_⟩
          clear hKc Kc TE
          try simp only [Act.put, List.setIfInBounds_toArray, List.set_cons_zero, List.set_cons_succ]
          refine anyH_one 14 (by kernel_rfl) ?_
          refine op_store 14 24 (.tmp 9) (.tmp 61) rfl w6.heap.size 0 24 [.int .i64 0, .int .i64 0, .int .i64 0, .int .i64 0, .slice none 0 0] #[.int .i64 s.k, .int .i64 s.e, .int .i64 s.n, .int .i64 s.a, .slice u6 m d6] rfl rfl (heap_alloc_new w6 _) (by rw [ssize]; rfl) (by simp) (by simp [Value.oneCell']) ?_
          intro w7 G7 ch7
          have O7 : Hid (Only b w3 w7) := only_newS (O6.out.alloc _) ch7.only O6.out.size
          refine ⟨HKC.out _ O7.out, ?_⟩
          have TF := HKC.out _ O7.out
          have Z7 : Hid (SAt w7 w6.heap.size s.k s.e s.n s.a u6 m d6) := ⟨G7.out⟩
          try simp only [Act.put, List.setIfInBounds_toArray, List.set_cons_zero, List.set_cons_succ]
          refine anyH_take 15 10 (.int .i64 0) TF rfl (by kernel_rfl) (by kernel_rfl) (by kernel_rfl) (fun _ _ _ h => h) (by rfl) (by intro x hx; obtain ⟨⟨y0, y1⟩, y2, y3, y4, y5, y6⟩ := hx; go_simp; try (intro h; omega)) ?_
          try simp only [Act.put, List.setIfInBounds_toArray, List.set_cons_zero, List.set_cons_succ]
          refine anyH_done (by kernel_rfl) ?_ _
          clear TF
          have B67 : Hid (Below w6.heap.size w6 w7) := ch7.below ((Below.refl _ w6).alloc (Nat.le_refl _) _) (Nat.le_refl _)
          have BZ7 : Hid (Below z.heap.size z w7) := b6.out.trans (B67.out.mono b6.out.size)
          have H67 : Hid (Bs w7 u6 d6 s.L) := H6.out.old B67.out
          clear ch7 G7 B67
          have H47 : Hid (Bs w7 u4 d4 X) := H4z.out.old BZ7.out
          have St7 : Hid (StAt w7 g b cc Nm.St.none) := Stz.out.old BZ7.out
          obtain ⟨GG, hGG⟩ : ∃ x, x = w6.heap.size := ⟨_, rfl⟩
          rw [← hGG] at Z7 ⊢
          clear hGG
          have HK2 : Hid (∀ y, Below w7.heap.size w7 y → (y.cell? ⟨GG, 0, none⟩ = some (.int .i64 s.k) ∧ y.cell? ⟨GG, 1, none⟩ = some (.int .i64 s.e) ∧ y.cell? ⟨GG, 2, none⟩ = some (.int .i64 s.n) ∧ y.cell? ⟨GG, 3, none⟩ = some (.int .i64 s.a) ∧ y.cell? ⟨GG, 4, none⟩ = some (.slice u6 m d6)) ∧ (y.cell? ⟨w.heap.size, 0, none⟩ = some (.int .i64 s.k) ∧ y.cell? ⟨w.heap.size, 1, none⟩ = some (.int .i64 s.e) ∧ y.cell? ⟨w.heap.size, 2, none⟩ = some (.int .i64 s.n) ∧ y.cell? ⟨w.heap.size, 3, none⟩ = some (.int .i64 s.a) ∧ y.cell? ⟨w.heap.size, 4, none⟩ = some (.slice p1 m c))) := fun y hy => ⟨(Z7.out.old hy).all, (HSS.out y (O7.out.trans (only_of_below hy))).all⟩
          have B7d : Hid (Below w7.heap.size w7 w7.drew) := (Below.refl _ w7).drew
          go_upto_region 12 with (fail)
          go_region_held3 (fun y => (y.cell? ⟨GG, 0, none⟩ = some (.int .i64 s.k) ∧ y.cell? ⟨GG, 1, none⟩ = some (.int .i64 s.e) ∧ y.cell? ⟨GG, 2, none⟩ = some (.int .i64 s.n) ∧ y.cell? ⟨GG, 3, none⟩ = some (.int .i64 s.a) ∧ y.cell? ⟨GG, 4, none⟩ = some (.slice u6 m d6)) ∧ (y.cell? ⟨w.heap.size, 0, none⟩ = some (.int .i64 s.k) ∧ y.cell? ⟨w.heap.size, 1, none⟩ = some (.int .i64 s.e) ∧ y.cell? ⟨w.heap.size, 2, none⟩ = some (.int .i64 s.n) ∧ y.cell? ⟨w.heap.size, 3, none⟩ = some (.int .i64 s.a) ∧ y.cell? ⟨w.heap.size, 4, none⟩ = some (.slice p1 m c)))
            (exact HK2.out _ (Hid.out (by assumption)))
            ((first
              | (go_at_call 14; refine (HSM.out _ _ _ (HWW.out _ (O7.out.trans (only_of_below B7d.out))) (H67.out.old B7d.out)).mono ?_; rintro e8 w8 ⟨rfl, b8⟩; have B8 : Hid (Below w7.heap.size w7 w8) := B7d.out.trans (b8.mono B7d.out.size))
              | (go_at_call 15; refine (HKX.out _ _ _ (H47.out.old B8.out)).mono ?_; rintro e9 w9 ⟨rfl, rfl⟩)))
          have O9 : Hid (Only b w3 _) := O7.out.trans (only_of_below B8.out)
          have St9 := Lib.hid (St7.out.old B8.out)
          go_wp2
          exact ⟨⟨1, by omega, by go_num, O9.out, fun h => St9.out⟩, by simp [intOf]⟩
        · refine wpOp_step rfl (fun Kc hKc => ?_)
          go_simp
          change Kc _ (z.alloc (SO 0 0 0 0 none 0 0))
          refine hKc _ _ ⟨HKC.out _ (Oz.out.alloc _), ?_⟩
          clear hKc Kc TD
          have Oa : Hid (Only b w3 (z.alloc (SO 0 0 0 0 none 0 0))) := (Oz.out.alloc _)
          have BA : Hid (Below z.heap.size z (z.alloc (SO 0 0 0 0 none 0 0))) := (Below.refl _ _).alloc (Nat.le_refl _) _
          have RA : Hid ((z.alloc (SO 0 0 0 0 none 0 0)).heap[z.heap.size]? = some (SO 0 0 0 0 none 0 0)) := heap_alloc_new _ _
          have LA : Hid (z.heap.size < (z.alloc (SO 0 0 0 0 none 0 0)).heap.size) := by show _ < _; simp
          have H4a : Hid (Bs (z.alloc (SO 0 0 0 0 none 0 0)) u4 d4 X) := H4z.out.old BA.out
          have Sta : Hid (StAt (z.alloc (SO 0 0 0 0 none 0 0)) g b cc Nm.St.none) := Stz.out.old BA.out
          obtain ⟨za, hza⟩ : ∃ x, x = z.alloc (SO 0 0 0 0 none 0 0) := ⟨_, rfl⟩
          rw [← hza] at Oa BA RA LA H4a Sta ⊢
          clear hza
          try simp only [Act.put, List.setIfInBounds_toArray, List.set_cons_zero, List.set_cons_succ]
          have TD := HKC.out _ Oa.out
          refine anyH_one 9 (by kernel_rfl) ?_
          refine wpOp_step rfl (fun Kc hKc => ?_)
          go_simp
          refine (HGX.out za gb _ _ (HWW.out _ Oa.out) (HGB.out _ Oa.out) H4a.out).mono ?_
          rintro e6 w6 ⟨u6, d6, rfl, P6, H6, b6⟩
          have O6 : Hid (Only b w3 w6) := Oa.out.trans (only_of_below b6.out)
          dsimp only
          refine hKc _ _ ⟨HKC.out _ O6.out, ?_⟩
          clear hKc Kc
          have TE := HKC.out _ O6.out
          try simp only [Act.put, List.setIfInBounds_toArray, List.set_cons_zero, List.set_cons_succ]
          refine anyH_take 10 50 (.tuple #[Sv s u6 m d6, .int .i64 0]) TE rfl (by kernel_rfl) (by kernel_rfl) (by kernel_rfl) (fun _ _ _ h => h) (by rfl) (by intro x hx; obtain ⟨⟨y0, y1⟩, y2, y3, y4, y5, y6⟩ := hx; go_simp; try (intro h; omega)) ?_
          try simp only [Act.put, List.setIfInBounds_toArray, List.set_cons_zero, List.set_cons_succ]
          refine anyH_take 11 61 (Sv s u6 m d6) TE rfl (by kernel_rfl) (by kernel_rfl) (by kernel_rfl) (fun _ _ _ h => h) (by rfl) (by intro x hx; obtain ⟨⟨y0, y1⟩, y2, y3, y4, y5, y6⟩ := hx; go_simp; try (intro h; omega)) ?_
          try simp only [Act.put, List.setIfInBounds_toArray, List.set_cons_zero, List.set_cons_succ]
          refine anyH_take 12 62 (.int .i64 0) TE rfl (by kernel_rfl) (by kernel_rfl) (by kernel_rfl) (fun _ _ _ h => h) (by rfl) (by intro x hx; obtain ⟨⟨y0, y1⟩, y2, y3, y4, y5, y6⟩ := hx; go_simp; try (intro h; omega)) ?_
          try simp only [Act.put, List.setIfInBounds_toArray, List.set_cons_zero, List.set_cons_succ]
          have R6 : Hid (w6.heap[z.heap.size]? = some (SO 0 0 0 0 none 0 0)) := (b6.out.block _ (lt_of_block RA.out)).trans RA.out
          refine anyH_one 14 (by kernel_rfl) ?_
          refine op_store 14 24 (.tmp 9) (.tmp 61) rfl z.heap.size 0 24 [.int .i64 0, .int .i64 0, .int .i64 0, .int .i64 0, .slice none 0 0] #[.int .i64 s.k, .int .i64 s.e, .int .i64 s.n, .int .i64 s.a, .slice u6 m d6] rfl rfl R6.out (by rw [ssize]; rfl) (by simp) (by simp [Value.oneCell']) ?_
          intro w7 G7 ch7
          have O7 : Hid (Only b w3 w7) := only_newS O6.out ch7.only Oz.out.size
          refine ⟨HKC.out _ O7.out, ?_⟩
          have TF := HKC.out _ O7.out
          have Z7 : Hid (SAt w7 z.heap.size s.k s.e s.n s.a u6 m d6) := ⟨G7.out⟩
          try simp only [Act.put, List.setIfInBounds_toArray, List.set_cons_zero, List.set_cons_succ]
          refine anyH_take 15 10 (.int .i64 0) TF rfl (by kernel_rfl) (by kernel_rfl) (by kernel_rfl) (fun _ _ _ h => h) (by rfl) (by intro x hx; obtain ⟨⟨y0, y1⟩, y2, y3, y4, y5, y6⟩ := hx; go_simp; try (intro h; omega)) ?_
          try simp only [Act.put, List.setIfInBounds_toArray, List.set_cons_zero, List.set_cons_succ]
          refine anyH_done (by kernel_rfl) ?_ _
          clear TF
          have BZ7 : Hid (Below z.heap.size z w7) := ch7.below (BA.out.trans (b6.out.mono BA.out.size)) (Nat.le_refl _)
          have H67 : Hid (Bs w7 u6 d6 s.L) := bs_own_only H6.out P6.out ch7.only LA.out
          clear ch7 G7 R6 RA LA BA Oa H4a Sta
          have H47 : Hid (Bs w7 u4 d4 X) := H4z.out.old BZ7.out
          have St7 : Hid (StAt w7 g b cc Nm.St.none) := Stz.out.old BZ7.out
          obtain ⟨GG, hGG⟩ : ∃ x, x = z.heap.size := ⟨_, rfl⟩
          rw [← hGG] at Z7 ⊢
          clear hGG
          have HK2 : Hid (∀ y, Below w7.heap.size w7 y → (y.cell? ⟨GG, 0, none⟩ = some (.int .i64 s.k) ∧ y.cell? ⟨GG, 1, none⟩ = some (.int .i64 s.e) ∧ y.cell? ⟨GG, 2, none⟩ = some (.int .i64 s.n) ∧ y.cell? ⟨GG, 3, none⟩ = some (.int .i64 s.a) ∧ y.cell? ⟨GG, 4, none⟩ = some (.slice u6 m d6)) ∧ (y.cell? ⟨w.heap.size, 0, none⟩ = some (.int .i64 s.k) ∧ y.cell? ⟨w.heap.size, 1, none⟩ = some (.int .i64 s.e) ∧ y.cell? ⟨w.heap.size, 2, none⟩ = some (.int .i64 s.n) ∧ y.cell? ⟨w.heap.size, 3, none⟩ = some (.int .i64 s.a) ∧ y.cell? ⟨w.heap.size, 4, none⟩ = some (.slice p1 m c))) := fun y hy => ⟨(Z7.out.old hy).all, (HSS.out y (O7.out.trans (only_of_below hy))).all⟩
          have B7d : Hid (Below w7.heap.size w7 w7.drew) := (Below.refl _ w7).drew
          go_upto_region 12 with (fail)
          go_region_held3 (fun y => (y.cell? ⟨GG, 0, none⟩ = some (.int .i64 s.k) ∧ y.cell? ⟨GG, 1, none⟩ = some (.int .i64 s.e) ∧ y.cell? ⟨GG, 2, none⟩ = some (.int .i64 s.n) ∧ y.cell? ⟨GG, 3, none⟩ = some (.int .i64 s.a) ∧ y.cell? ⟨GG, 4, none⟩ = some (.slice u6 m d6)) ∧ (y.cell? ⟨w.heap.size, 0, none⟩ = some (.int .i64 s.k) ∧ y.cell? ⟨w.heap.size, 1, none⟩ = some (.int .i64 s.e) ∧ y.cell? ⟨w.heap.size, 2, none⟩ = some (.int .i64 s.n) ∧ y.cell? ⟨w.heap.size, 3, none⟩ = some (.int .i64 s.a) ∧ y.cell? ⟨w.heap.size, 4, none⟩ = some (.slice p1 m c)))
            (exact HK2.out _ (Hid.out (by assumption)))
            ((first
              | (go_at_call 14; refine (HSM.out _ _ _ (HWW.out _ (O7.out.trans (only_of_below B7d.out))) (H67.out.old B7d.out)).mono ?_; rintro e8 w8 ⟨rfl, b8⟩; have B8 : Hid (Below w7.heap.size w7 w8) := B7d.out.trans (b8.mono B7d.out.size))
              | (go_at_call 15; refine (HKX.out _ _ _ (H47.out.old B8.out)).mono ?_; rintro e9 w9 ⟨rfl, rfl⟩)))
          have O9 : Hid (Only b w3 _) := O7.out.trans (only_of_below B8.out)
          have St9 := Lib.hid (St7.out.old B8.out)
          go_wp2
          exact ⟨⟨1, by omega, by go_num, O9.out, fun h => St9.out⟩, by simp [intOf]⟩
      · obtain rfl : k = 1 := by omega
        go_upto_region 7 with (fail)
        go_region_held3 (fun y => (y.cell? ⟨w2.heap.size, 0, none⟩ = some (.iface 26 (.pointer (some ⟨gb, 0, none⟩))) ∧ y.cell? ⟨w2.heap.size, 1, none⟩ = some (.iface 28 (.pointer (some ⟨g, 0, none⟩)))) ∧ (y.cell? ⟨w.heap.size, 0, none⟩ = some (.int .i64 s.k) ∧ y.cell? ⟨w.heap.size, 1, none⟩ = some (.int .i64 s.e) ∧ y.cell? ⟨w.heap.size, 2, none⟩ = some (.int .i64 s.n) ∧ y.cell? ⟨w.heap.size, 3, none⟩ = some (.int .i64 s.a) ∧ y.cell? ⟨w.heap.size, 4, none⟩ = some (.slice p1 m c)))
          (exact HKC.out _ (Hid.out (by assumption)))
          ((go_at_call 11; refine (HPN.out _ g b cc (HWW.out _ HOd.out) ((HST.out (by omega)).drew)).mono ?_; rintro e4 w4 ⟨u4, d4, rfl, P4, H4, F4⟩; have O4 : Hid (Only b w3 w4) := HOd.out.trans (F4.out.2)))
        have St4 : Hid (StAt w4 g b cc T1) := F4.out.1
        obtain ⟨⟨q0, q1⟩, x0, x1, x2, x3, x4⟩ := HKC.out _ O4.out
        go_upto_region 11 with (go_at_call 12; refine (HMY.out _).mono ?_; rintro e5 w5 ⟨rfl, b5⟩; have O5 : Hid (Only b w3 w5) := O4.out.trans (only_of_below b5); have H5 : Hid (Bs w5 u4 d4 Y) := H4.out.old b5; have St5 : Hid (StAt w5 g b cc T1) := St4.out.old b5; clear b5)
        have Oz : Hid (Only b w3 w5.drew) := O5.out.drew
        have H4z : Hid (Bs w5.drew u4 d4 Y) := H5.out.drew
        have Stz : Hid (StAt w5.drew g b cc T1) := St5.out.drew
        clear q0 q1 x0 x1 x2 x3 x4 O4 H4 P4 F4 St4 HPB HPN HMY HOd HST HO
        refine wp_region_any (by kernel_rfl) ?_
        change wpAny _ _ _ _ _ _ _ (World.drew _)
        generalize w5.drew = z at *
        clear O5 H5 St5
        have TD := HKC.out _ Oz.out
        refine wpAny_of_held (S := fun y => (y.cell? ⟨w2.heap.size, 0, none⟩ = some (.iface 26 (.pointer (some ⟨gb, 0, none⟩))) ∧ y.cell? ⟨w2.heap.size, 1, none⟩ = some (.iface 28 (.pointer (some ⟨g, 0, none⟩)))) ∧ (y.cell? ⟨w.heap.size, 0, none⟩ = some (.int .i64 s.k) ∧ y.cell? ⟨w.heap.size, 1, none⟩ = some (.int .i64 s.e) ∧ y.cell? ⟨w.heap.size, 2, none⟩ = some (.int .i64 s.n) ∧ y.cell? ⟨w.heap.size, 3, none⟩ = some (.int .i64 s.a) ∧ y.cell? ⟨w.heap.size, 4, none⟩ = some (.slice p1 m c))) _ _ _ _ ?_
        refine anyH_take 0 51 (.slice (some ⟨w2.heap.size, 0, none⟩) 2 2) TD rfl (by kernel_rfl) (by kernel_rfl) (by kernel_rfl) (fun _ _ _ h => h) (by rfl) (by intro x hx; obtain ⟨⟨y0, y1⟩, y2, y3, y4, y5, y6⟩ := hx; go_simp; try (intro h; omega)) ?_
        try simp only [Act.put, List.setIfInBounds_toArray, List.set_cons_zero, List.set_cons_succ]
        refine anyH_take 1 52 (.int .i64 1) TD rfl (by kernel_rfl) (by kernel_rfl) (by kernel_rfl) (fun _ _ _ h => h) (by rfl) (by intro x hx; obtain ⟨⟨y0, y1⟩, y2, y3, y4, y5, y6⟩ := hx; go_simp; try (intro h; omega)) ?_
        try simp only [Act.put, List.setIfInBounds_toArray, List.set_cons_zero, List.set_cons_succ]
        refine anyH_take 2 53 (.pointer (some ⟨w2.heap.size, 1, none⟩)) TD rfl (by kernel_rfl) (by kernel_rfl) (by kernel_rfl) (fun _ _ _ h => h) (by rfl) (by intro x hx; obtain ⟨⟨y0, y1⟩, y2, y3, y4, y5, y6⟩ := hx; go_simp; try (intro h; omega)) ?_
        try simp only [Act.put, List.setIfInBounds_toArray, List.set_cons_zero, List.set_cons_succ]
        refine anyH_take 3 54 (.iface 28 (.pointer (some ⟨g, 0, none⟩))) TD rfl (by kernel_rfl) (by kernel_rfl) (by kernel_rfl) (fun _ _ _ h => h) (by rfl) (by intro x hx; obtain ⟨⟨y0, y1⟩, y2, y3, y4, y5, y6⟩ := hx; go_simp; try (intro h; omega)) ?_
        try simp only [Act.put, List.setIfInBounds_toArray, List.set_cons_zero, List.set_cons_succ]
        refine anyH_take 4 55 (.pointer (some ⟨w.heap.size, 0, none⟩)) TD rfl (by kernel_rfl) (by kernel_rfl) (by kernel_rfl) (fun _ _ _ h => h) (by rfl) (by intro x hx; obtain ⟨⟨y0, y1⟩, y2, y3, y4, y5, y6⟩ := hx; go_simp; try (intro h; omega)) ?_
        try simp only [Act.put, List.setIfInBounds_toArray, List.set_cons_zero, List.set_cons_succ]
        refine anyH_take 5 56 (.int .i64 s.k) TD rfl (by kernel_rfl) (by kernel_rfl) (by kernel_rfl) (fun _ _ _ h => h) (by rfl) (by intro x hx; obtain ⟨⟨y0, y1⟩, y2, y3, y4, y5, y6⟩ := hx; go_simp; try (intro h; omega)) ?_
        try simp only [Act.put, List.setIfInBounds_toArray, List.set_cons_zero, List.set_cons_succ]
        refine anyH_take 6 57 (.pointer (some ⟨w.heap.size, 3, none⟩)) TD rfl (by kernel_rfl) (by kernel_rfl) (by kernel_rfl) (fun _ _ _ h => h) (by rfl) (by intro x hx; obtain ⟨⟨y0, y1⟩, y2, y3, y4, y5, y6⟩ := hx; go_simp; try (intro h; omega)) ?_
        try simp only [Act.put, List.setIfInBounds_toArray, List.set_cons_zero, List.set_cons_succ]
        refine anyH_take 7 58 (.int .i64 s.a) TD rfl (by kernel_rfl) (by kernel_rfl) (by kernel_rfl) (fun _ _ _ h => h) (by rfl) (by intro x hx; obtain ⟨⟨y0, y1⟩, y2, y3, y4, y5, y6⟩ := hx; go_simp; try (intro h; omega)) ?_
        try simp only [Act.put, List.setIfInBounds_toArray, List.set_cons_zero, List.set_cons_succ]
        refine anyH_take 8 59 (.slice u4 N d4) TD rfl (by kernel_rfl) (by kernel_rfl) (by kernel_rfl) (fun _ _ _ h => h) (by rfl) (by intro x hx; obtain ⟨⟨y0, y1⟩, y2, y3, y4, y5, y6⟩ := hx; go_simp; try (intro h; omega)) ?_
        try simp only [Act.put, List.setIfInBounds_toArray, List.set_cons_zero, List.set_cons_succ]
        refine anyH_two 9 13 (by kernel_rfl) ?_ ?_
        · refine wpOp_step rfl (fun Kc hKc => ?_)
          go_simp
          refine (HGY.out z g b cc _ _ Stz.out H4z.out).mono ?_
          rintro e6 w6 ⟨u6, d6, rfl, P6, H6, b6⟩
          have O6 : Hid (Only b w3 w6) := Oz.out.trans (only_of_below b6.out)
          dsimp only
          refine hKc _ _ ⟨HKC.out _ O6.out, ?_⟩
          clear hKc Kc
          have TE := HKC.out _ O6.out
          try simp only [Act.put, List.setIfInBounds_toArray, List.set_cons_zero, List.set_cons_succ]
          refine anyH_take 10 50 (.tuple #[Sv s u6 m d6, .int .i64 0]) TE rfl (by kernel_rfl) (by kernel_rfl) (by kernel_rfl) (fun _ _ _ h => h) (by rfl) (by intro x hx; obtain ⟨⟨y0, y1⟩, y2, y3, y4, y5, y6⟩ := hx; go_simp; try (intro h; omega)) ?_
          try simp only [Act.put, List.setIfInBounds_toArray, List.set_cons_zero, List.set_cons_succ]
          refine anyH_take 11 61 (Sv s u6 m d6) TE rfl (by kernel_rfl) (by kernel_rfl) (by kernel_rfl) (fun _ _ _ h => h) (by rfl) (by intro x hx; obtain ⟨⟨y0, y1⟩, y2, y3, y4, y5, y6⟩ := hx; go_simp; try (intro h; omega)) ?_
          try simp only [Act.put, List.setIfInBounds_toArray, List.set_cons_zero, List.set_cons_succ]
          refine anyH_take 12 62 (.int .i64 0) TE rfl (by kernel_rfl) (by kernel_rfl) (by kernel_rfl) (fun _ _ _ h => h) (by rfl) (by intro x hx; obtain ⟨⟨y0, y1⟩, y2, y3, y4, y5, y6⟩ := hx; go_simp; try (intro h; omega)) ?_
          try simp only [Act.put, List.setIfInBounds_toArray, List.set_cons_zero, List.set_cons_succ]
          refine anyH_one 13 (by kernel_rfl) ?_
          refine wpOp_step rfl (fun Kc hKc => ?_)
          go_simp
          refine hKc _ _ ⟨HKC.out _ (O6.out.alloc _), ?_⟩
          clear hKc Kc TE
          try simp only [Act.put, List.setIfInBounds_toArray, List.set_cons_zero, List.set_cons_succ]
          refine anyH_one 14 (by kernel_rfl) ?_
          refine op_store 14 24 (.tmp 9) (.tmp 61) rfl w6.heap.size 0 24 [.int .i64 0, .int .i64 0, .int .i64 0, .int .i64 0, .slice none 0 0] #[.int .i64 s.k, .int .i64 s.e, .int .i64 s.n, .int .i64 s.a, .slice u6 m d6] rfl rfl (heap_alloc_new w6 _) (by rw [ssize]; rfl) (by simp) (by simp [Value.oneCell']) ?_
          intro w7 G7 ch7
          have O7 : Hid (Only b w3 w7) := only_newS (O6.out.alloc _) ch7.only O6.out.size
          refine ⟨HKC.out _ O7.out, ?_⟩
          have TF := HKC.out _ O7.out
          have Z7 : Hid (SAt w7 w6.heap.size s.k s.e s.n s.a u6 m d6) := ⟨G7.out⟩
          try simp only [Act.put, List.setIfInBounds_toArray, List.set_cons_zero, List.set_cons_succ]
          refine anyH_take 15 10 (.int .i64 0) TF rfl (by kernel_rfl) (by kernel_rfl) (by kernel_rfl) (fun _ _ _ h => h) (by rfl) (by intro x hx; obtain ⟨⟨y0, y1⟩, y2, y3, y4, y5, y6⟩ := hx; go_simp; try (intro h; omega)) ?_
          try simp only [Act.put, List.setIfInBounds_toArray, List.set_cons_zero, List.set_cons_succ]
          refine anyH_done (by kernel_rfl) ?_ _
          clear TF
          have B67 : Hid (Below w6.heap.size w6 w7) := ch7.below ((Below.refl _ w6).alloc (Nat.le_refl _) _) (Nat.le_refl _)
          have BZ7 : Hid (Below z.heap.size z w7) := b6.out.trans (B67.out.mono b6.out.size)
          have H67 : Hid (Bs w7 u6 d6 s.L) := H6.out.old B67.out
          clear ch7 G7 B67
          have H47 : Hid (Bs w7 u4 d4 Y) := H4z.out.old BZ7.out
          have St7 : Hid (StAt w7 g b cc T1) := Stz.out.old BZ7.out
          obtain ⟨GG, hGG⟩ : ∃ x, x = w6.heap.size := ⟨_, rfl⟩
          rw [← hGG] at Z7 ⊢
          clear hGG
          have HK2 : Hid (∀ y, Below w7.heap.size w7 y → (y.cell? ⟨GG, 0, none⟩ = some (.int .i64 s.k) ∧ y.cell? ⟨GG, 1, none⟩ = some (.int .i64 s.e) ∧ y.cell? ⟨GG, 2, none⟩ = some (.int .i64 s.n) ∧ y.cell? ⟨GG, 3, none⟩ = some (.int .i64 s.a) ∧ y.cell? ⟨GG, 4, none⟩ = some (.slice u6 m d6)) ∧ (y.cell? ⟨w.heap.size, 0, none⟩ = some (.int .i64 s.k) ∧ y.cell? ⟨w.heap.size, 1, none⟩ = some (.int .i64 s.e) ∧ y.cell? ⟨w.heap.size, 2, none⟩ = some (.int .i64 s.n) ∧ y.cell? ⟨w.heap.size, 3, none⟩ = some (.int .i64 s.a) ∧ y.cell? ⟨w.heap.size, 4, none⟩ = some (.slice p1 m c))) := fun y hy => ⟨(Z7.out.old hy).all, (HSS.out y (O7.out.trans (only_of_below hy))).all⟩
          have B7d : Hid (Below w7.heap.size w7 w7.drew) := (Below.refl _ w7).drew
          go_upto_region 12 with (fail)
          go_region_held3 (fun y => (y.cell? ⟨GG, 0, none⟩ = some (.int .i64 s.k) ∧ y.cell? ⟨GG, 1, none⟩ = some (.int .i64 s.e) ∧ y.cell? ⟨GG, 2, none⟩ = some (.int .i64 s.n) ∧ y.cell? ⟨GG, 3, none⟩ = some (.int .i64 s.a) ∧ y.cell? ⟨GG, 4, none⟩ = some (.slice u6 m d6)) ∧ (y.cell? ⟨w.heap.size, 0, none⟩ = some (.int .i64 s.k) ∧ y.cell? ⟨w.heap.size, 1, none⟩ = some (.int .i64 s.e) ∧ y.cell? ⟨w.heap.size, 2, none⟩ = some (.int .i64 s.n) ∧ y.cell? ⟨w.heap.size, 3, none⟩ = some (.int .i64 s.a) ∧ y.cell? ⟨w.heap.size, 4, none⟩ = some (.slice p1 m c)))
            (exact HK2.out _ (Hid.out (by assumption)))
            ((first
              | (go_at_call 14; refine (HSM.out _ _ _ (HWW.out _ (O7.out.trans (only_of_below B7d.out))) (H67.out.old B7d.out)).mono ?_; rintro e8 w8 ⟨rfl, b8⟩; have B8 : Hid (Below w7.heap.size w7 w8) := B7d.out.trans (b8.mono B7d.out.size))
              | (go_at_call 15; refine (HKY.out _ _ _ (H47.out.old B8.out)).mono ?_; rintro e9 w9 ⟨rfl, rfl⟩)))
          have O9 : Hid (Only b w3 _) := O7.out.trans (only_of_below B8.out)
          have St9 := Lib.hid (St7.out.old B8.out)
          go_wp2
          exact ⟨⟨2, by omega, by go_num, O9.out, fun h => absurd h (by omega)⟩, by simp [intOf]⟩
        · refine wpOp_step rfl (fun Kc hKc => ?_)
          go_simp
          change Kc _ (z.alloc (SO 0 0 0 0 none 0 0))
          refine hKc _ _ ⟨HKC.out _ (Oz.out.alloc _), ?_⟩
          clear hKc Kc TD
          have Oa : Hid (Only b w3 (z.alloc (SO 0 0 0 0 none 0 0))) := (Oz.out.alloc _)
          have BA : Hid (Below z.heap.size z (z.alloc (SO 0 0 0 0 none 0 0))) := (Below.refl _ _).alloc (Nat.le_refl _) _
          have RA : Hid ((z.alloc (SO 0 0 0 0 none 0 0)).heap[z.heap.size]? = some (SO 0 0 0 0 none 0 0)) := heap_alloc_new _ _
          have LA : Hid (z.heap.size < (z.alloc (SO 0 0 0 0 none 0 0)).heap.size) := by show _ < _; simp
          have H4a : Hid (Bs (z.alloc (SO 0 0 0 0 none 0 0)) u4 d4 Y) := H4z.out.old BA.out
          have Sta : Hid (StAt (z.alloc (SO 0 0 0 0 none 0 0)) g b cc T1) := Stz.out.old BA.out
          obtain ⟨za, hza⟩ : ∃ x, x = z.alloc (SO 0 0 0 0 none 0 0) := ⟨_, rfl⟩
          rw [← hza] at Oa BA RA LA H4a Sta ⊢
          clear hza
          try simp only [Act.put, List.setIfInBounds_toArray, List.set_cons_zero, List.set_cons_succ]
          have TD := HKC.out _ Oa.out
          refine anyH_one 9 (by kernel_rfl) ?_
          refine wpOp_step rfl (fun Kc hKc => ?_)
          go_simp
          refine (HGY.out za g b cc _ _ Sta.out H4a.out).mono ?_
          rintro e6 w6 ⟨u6, d6, rfl, P6, H6, b6⟩
          have O6 : Hid (Only b w3 w6) := Oa.out.trans (only_of_below b6.out)
          dsimp only
          refine hKc _ _ ⟨HKC.out _ O6.out, ?_⟩
          clear hKc Kc
          have TE := HKC.out _ O6.out
          try simp only [Act.put, List.setIfInBounds_toArray, List.set_cons_zero, List.set_cons_succ]
          refine anyH_take 10 50 (.tuple #[Sv s u6 m d6, .int .i64 0]) TE rfl (by kernel_rfl) (by kernel_rfl) (by kernel_rfl) (fun _ _ _ h => h) (by rfl) (by intro x hx; obtain ⟨⟨y0, y1⟩, y2, y3, y4, y5, y6⟩ := hx; go_simp; try (intro h; omega)) ?_
          try simp only [Act.put, List.setIfInBounds_toArray, List.set_cons_zero, List.set_cons_succ]
          refine anyH_take 11 61 (Sv s u6 m d6) TE rfl (by kernel_rfl) (by kernel_rfl) (by kernel_rfl) (fun _ _ _ h => h) (by rfl) (by intro x hx; obtain ⟨⟨y0, y1⟩, y2, y3, y4, y5, y6⟩ := hx; go_simp; try (intro h; omega)) ?_
          try simp only [Act.put, List.setIfInBounds_toArray, List.set_cons_zero, List.set_cons_succ]
          refine anyH_take 12 62 (.int .i64 0) TE rfl (by kernel_rfl) (by kernel_rfl) (by kernel_rfl) (fun _ _ _ h => h) (by rfl) (by intro x hx; obtain ⟨⟨y0, y1⟩, y2, y3, y4, y5, y6⟩ := hx; go_simp; try (intro h; omega)) ?_
          try simp only [Act.put, List.setIfInBounds_toArray, List.set_cons_zero, List.set_cons_succ]
          have R6 : Hid (w6.heap[z.heap.size]? = some (SO 0 0 0 0 none 0 0)) := (b6.out.block _ (lt_of_block RA.out)).trans RA.out
          refine anyH_one 14 (by kernel_rfl) ?_
          refine op_store 14 24 (.tmp 9) (.tmp 61) rfl z.heap.size 0 24 [.int .i64 0, .int .i64 0, .int .i64 0, .int .i64 0, .slice none 0 0] #[.int .i64 s.k, .int .i64 s.e, .int .i64 s.n, .int .i64 s.a, .slice u6 m d6] rfl rfl R6.out (by rw [ssize]; rfl) (by simp) (by simp [Value.oneCell']) ?_
          intro w7 G7 ch7
          have O7 : Hid (Only b w3 w7) := only_newS O6.out ch7.only Oz.out.size
          refine ⟨HKC.out _ O7.out, ?_⟩
          have TF := HKC.out _ O7.out
          have Z7 : Hid (SAt w7 z.heap.size s.k s.e s.n s.a u6 m d6) := ⟨G7.out⟩
          try simp only [Act.put, List.setIfInBounds_toArray, List.set_cons_zero, List.set_cons_succ]
          refine anyH_take 15 10 (.int .i64 0) TF rfl (by kernel_rfl) (by kernel_rfl) (by kernel_rfl) (fun _ _ _ h => h) (by rfl) (by intro x hx; obtain ⟨⟨y0, y1⟩, y2, y3, y4, y5, y6⟩ := hx; go_simp; try (intro h; omega)) ?_
          try simp only [Act.put, List.setIfInBounds_toArray, List.set_cons_zero, List.set_cons_succ]
          refine anyH_done (by kernel_rfl) ?_ _
          clear TF
          have BZ7 : Hid (Below z.heap.size z w7) := ch7.below (BA.out.trans (b6.out.mono BA.out.size)) (Nat.le_refl _)
          have H67 : Hid (Bs w7 u6 d6 s.L) := bs_own_only H6.out P6.out ch7.only LA.out
          clear ch7 G7 R6 RA LA BA Oa H4a Sta
          have H47 : Hid (Bs w7 u4 d4 Y) := H4z.out.old BZ7.out
          have St7 : Hid (StAt w7 g b cc T1) := Stz.out.old BZ7.out
          obtain ⟨GG, hGG⟩ : ∃ x, x = z.heap.size := ⟨_, rfl⟩
          rw [← hGG] at Z7 ⊢
          clear hGG
          have HK2 : Hid (∀ y, Below w7.heap.size w7 y → (y.cell? ⟨GG, 0, none⟩ = some (.int .i64 s.k) ∧ y.cell? ⟨GG, 1, none⟩ = some (.int .i64 s.e) ∧ y.cell? ⟨GG, 2, none⟩ = some (.int .i64 s.n) ∧ y.cell? ⟨GG, 3, none⟩ = some (.int .i64 s.a) ∧ y.cell? ⟨GG, 4, none⟩ = some (.slice u6 m d6)) ∧ (y.cell? ⟨w.heap.size, 0, none⟩ = some (.int .i64 s.k) ∧ y.cell? ⟨w.heap.size, 1, none⟩ = some (.int .i64 s.e) ∧ y.cell? ⟨w.heap.size, 2, none⟩ = some (.int .i64 s.n) ∧ y.cell? ⟨w.heap.size, 3, none⟩ = some (.int .i64 s.a) ∧ y.cell? ⟨w.heap.size, 4, none⟩ = some (.slice p1 m c))) := fun y hy => ⟨(Z7.out.old hy).all, (HSS.out y (O7.out.trans (only_of_below hy))).all⟩
          have B7d : Hid (Below w7.heap.size w7 w7.drew) := (Below.refl _ w7).drew
          go_upto_region 12 with (fail)
          go_region_held3 (fun y => (y.cell? ⟨GG, 0, none⟩ = some (.int .i64 s.k) ∧ y.cell? ⟨GG, 1, none⟩ = some (.int .i64 s.e) ∧ y.cell? ⟨GG, 2, none⟩ = some (.int .i64 s.n) ∧ y.cell? ⟨GG, 3, none⟩ = some (.int .i64 s.a) ∧ y.cell? ⟨GG, 4, none⟩ = some (.slice u6 m d6)) ∧ (y.cell? ⟨w.heap.size, 0, none⟩ = some (.int .i64 s.k) ∧ y.cell? ⟨w.heap.size, 1, none⟩ = some (.int .i64 s.e) ∧ y.cell? ⟨w.heap.size, 2, none⟩ = some (.int .i64 s.n) ∧ y.cell? ⟨w.heap.size, 3, none⟩ = some (.int .i64 s.a) ∧ y.cell? ⟨w.heap.size, 4, none⟩ = some (.slice p1 m c)))
            (exact HK2.out _ (Hid.out (by assumption)))
            ((first
              | (go_at_call 14; refine (HSM.out _ _ _ (HWW.out _ (O7.out.trans (only_of_below B7d.out))) (H67.out.old B7d.out)).mono ?_; rintro e8 w8 ⟨rfl, b8⟩; have B8 : Hid (Below w7.heap.size w7 w8) := B7d.out.trans (b8.mono B7d.out.size))
              | (go_at_call 15; refine (HKY.out _ _ _ (H47.out.old B8.out)).mono ?_; rintro e9 w9 ⟨rfl, rfl⟩)))
          have O9 : Hid (Only b w3 _) := O7.out.trans (only_of_below B8.out)
          have St9 := Lib.hid (St7.out.old B8.out)
          go_wp2
          exact ⟨⟨2, by omega, by go_num, O9.out, fun h => absurd h (by omega)⟩, by simp [intOf]⟩
end Go.Proofs.YtkjfhbmdogmecaaDoor

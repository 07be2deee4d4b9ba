/-
  Contracts in plain lists: Put and Get by a box, by names; SameSector.
-/
import Derived.Test.YtkjfhbmdogmecaaDoorScF
import Derived.Test.YtkjfhbmdogmecaaDoorScG
namespace Go.Proofs.YtkjfhbmdogmecaaDoor
open Go.RowKit

/-- A sector's value, whose plain text lies at p. -/
abbrev Sv (s : Sc.S) (p : Option Addr) (m c : Nat) : Value := SV s.k s.e s.n s.a p m c
/-- What Put answers. -/
def LPut (x : Int × List Int) (w : World) (F : World → Prop) (r : Ending) (w' : World) : Prop :=
  ∃ u m d, r = .returned (.tuple #[.slice u m d, .int .i64 x.1]) ∧ x.2.length = m ∧ Hid (w'.ownsRow w.heap.size 5 1 (.slice u m d) m (U8s x.2)) ∧ Hid (Bs w' u d x.2) ∧ F w'
/-- What Get answers. -/
def LGet (x : Int × Sc.S) (w : World) (r : Ending) (w' : World) : Prop :=
  ∃ u m d, r = .returned (.tuple #[Sv x.2 u m d, .int .i64 x.1]) ∧ x.2.L.length = m ∧ Hid (w'.ownsRow w.heap.size 5 1 (.slice u m d) m (U8s x.2.L)) ∧ Hid (Bs w' u d x.2.L) ∧ Below w.heap.size w w'
theorem own_nilX (w : World) (B : Nat) : w.ownsRow B 5 1 (.slice none 0 0) 0 (U8s []) := by unfold U8s; exact World.ownsRow_nil _ _ _ _
theorem lput_no {x : Int × List Int} {n : Int} {w w' : World} {F : World → Prop} {r : Ending} (h : NoSay n w r w') (hx : x = (n, [])) (hF : Below w.heap.size w w' → F w') : LPut x w F r w' := by
  subst hx
  obtain ⟨rfl, hb⟩ := h
  exact ⟨none, 0, 0, rfl, rfl, own_nilX _ _, bs_none _, hF hb⟩
theorem lget_no {x : Int × Sc.S} {n : Int} {w w' : World} {r : Ending} (h : GNo n w r w') (hx : x = (n, Sc.S.zero)) : LGet x w r w' := by
  subst hx
  obtain ⟨rfl, hb⟩ := h
  exact ⟨none, 0, 0, rfl, rfl, own_nilX _ _, bs_none _, hb⟩
theorem cell_only {b j i : Nat} {v : Value} {y y' : World} (h : Only b y y') (hj : j ≠ b) (hc : y.cell? ⟨j, i, none⟩ = some v) : y'.cell? ⟨j, i, none⟩ = some v := h.cell hj hc
theorem inR_of (n : Int) (h : 0 ≤ n ∧ n ≤ 1099511627776) : inR n = true := by unfold inR; simp [h]
theorem nmInR_of (n : Int) (h : 0 ≤ n ∧ n ≤ 1099511627776) : Nm.inR n = true := by unfold Nm.inR; simp [h]

/-- Put by a box. -/
theorem bput_any (hT : TakeSaid) (K : List Int) (g : Nat) (s : Sc.S) (p : Option Addr) (m c : Nat) (hm : s.L.length = m) (w : World) (hg : BoxAt w g K) (hL : Bs w p c s.L) (ht : Tab w 0) :
    Calls Tryd.prog 11 #[.iface 26 (.pointer (some ⟨g, 0, none⟩)), Sv s p m c] w (LPut (Sc.pt (Seal.sl K) s) w (Below w.heap.size w)) := by
  subst hm
  by_cases h : Sc.ers s = 0
  · obtain ⟨h1, h2, h3⟩ := Sc.ers_parts h
    have h4 := Sc.inP_iff.1 h2
    rw [Sc.pt_ok h]
    have hlen := Seal.sl_len (inR_of _ h4.1) (inR_of _ h4.2.1) K (Sc.mk s.k s.a) s.L
    refine (put_box ⟨g, 0, none⟩ s.k s.e s.n s.a p s.L.length c (s.L.length + 32) (17 + (s.L.length + 32)) h1 h2 h3 w (Seal.sl K s.e s.n (Sc.mk s.k s.a) s.L) hlen (by omega) rfl (fun y y' => Below y.heap.size y y') (Below w.heap.size w) ?_ ?_ ?_ ?_ ?_).mono ?_
    · intro y q d hy hq
      refine (seal_any hT K (Sc.mk s.k s.a) s.L g s.e s.n q p 9 s.L.length d c (Sc.mk_len _ _) rfl y (hg.old hy) hq (hL.old hy) (by omega) (ht.below hy ht.lt)).mono ?_
      rintro r y' ⟨u, c', m', rfl, hm', _, hb, hbel⟩
      rw [hlen] at hm'
      obtain rfl := hm'
      exact ⟨u, _, rfl, hb, hbel⟩
    · intro y y' q d R r _ _ _ hb hbel
      exact hb.old hbel
    · intro y y' i v _ hbel hc
      exact (hbel.cell (p := ⟨w.heap.size, i, none⟩) (World.block_lt_of_cell? y _ hc)).trans hc
    · exact fun y y' hbel => hbel.size
    · exact fun y y' z hy hbel hz => hy.trans ((hbel.trans (hz.mono hbel.size)).mono hy.size)
    · rintro r w' ⟨u, d, rfl, ho, hb, hF⟩
      have hl2 : (Sc.fr s.k s.e s.n ++ Seal.sl K s.e s.n (Sc.mk s.k s.a) s.L).length = 17 + (s.L.length + 32) := by rw [List.length_append, Sc.fr_len, hlen]
      exact ⟨u, _, d, rfl, hl2, ho, hb, hF.out⟩
  · exact (put_no _ _ s.k s.e s.n s.a p s.L.length c h w).mono fun r w' q => lput_no q (Sc.pt_no h) id

namespace Sc
/-- What names remember behind a Put. -/
def nd (S : Nm.St) (s : Sc.S) : Nm.St := if ers s = 0 then Nm.sld S (s.e, s.n, mk s.k s.a, s.L) else S
def nsl (S : Nm.St) (e n : Int) (h L : List Int) : List Int := Nm.sl S (e, n, h, L)
theorem nd_ok {S : Nm.St} {s : Sc.S} (h : ers s = 0) : nd S s = Nm.sld S (s.e, s.n, mk s.k s.a, s.L) := by unfold nd; rw [if_pos h]
theorem nd_no {S : Nm.St} {s : Sc.S} (h : ers s ≠ 0) : nd S s = S := by unfold nd; rw [if_neg h]
theorem may_of {s : Sc.S} (h : ers s = 0) : Nm.may (s.e, s.n, mk s.k s.a, s.L) = true := by
  have h4 := inP_iff.1 (ers_parts h).2.1
  unfold Nm.may
  simp only [Bool.and_eq_true]
  exact ⟨nmInR_of _ h4.1, nmInR_of _ h4.2.1⟩
theorem nsl_len {S : Nm.St} {s : Sc.S} (h : ers s = 0) : (nsl S s.e s.n (mk s.k s.a) s.L).length = s.L.length + 32 := by
  unfold nsl Nm.sl
  rw [if_pos (may_of h), List.length_append, Nm.tg_len]
end Sc
/-- Put by names. -/
theorem nput_any (S : Nm.St) (g b cc : Nat) (s : Sc.S) (p : Option Addr) (m c : Nat) (hm : s.L.length = m) (w : World) (hg : StAt w g b cc S) (hL : Bs w p c s.L) (hl : S.ss.length ≤ 100000) :
    Calls Tryd.prog 11 #[.iface 28 (.pointer (some ⟨g, 0, none⟩)), Sv s p m c] w (LPut (Sc.pt (Sc.nsl S) s) w (fun z => StAt z g b cc (Sc.nd S s) ∧ Only b w z)) := by
  subst hm
  by_cases h : Sc.ers s = 0
  · obtain ⟨h1, h2, h3⟩ := Sc.ers_parts h
    have h4 := Sc.inP_iff.1 h2
    rw [Sc.pt_ok h, Sc.nd_ok h]
    have hlen := Sc.nsl_len (S := S) h
    have hbl := hg.lt.2.1
    refine (put_nam ⟨g, 0, none⟩ s.k s.e s.n s.a p s.L.length c (s.L.length + 32) (17 + (s.L.length + 32)) h1 h2 h3 w (Sc.nsl S s.e s.n (Sc.mk s.k s.a) s.L) hlen (by omega) rfl (fun y y' => StAt y' g b cc (Nm.sld S (s.e, s.n, Sc.mk s.k s.a, s.L)) ∧ Only b y y') (fun z => StAt z g b cc (Nm.sld S (s.e, s.n, Sc.mk s.k s.a, s.L)) ∧ Only b w z) ?_ ?_ ?_ ?_ ?_).mono ?_
    · intro y q d hy hq
      refine (seal_anyN S (s.e, s.n, Sc.mk s.k s.a, s.L) g b cc q p 9 s.L.length d c (Sc.mk_len _ _) rfl (by omega) y (hg.old hy) hq (hL.old hy) hl).mono ?_
      rintro r y' ⟨u, c', m', rfl, hm', _, hb, hst, ho⟩
      have hm2 : m' = s.L.length + 32 := hm'.symm.trans hlen
      subst hm2
      exact ⟨u, _, rfl, hb, hst.out, ho⟩
    · intro y y' q d R r hy hR ho hb hQ
      refine bs_only hb hQ.2 (fun a ha => ?_)
      left
      subst ha
      have := (ho.lt a.block rfl).1
      omega
    · intro y y' i v hy hQ hc
      exact hQ.2.cell (by omega) hc
    · exact fun y y' hQ => hQ.2.size
    · exact fun y y' z hy hQ hz => ⟨hQ.1.old hz, ((only_of_below hy).trans hQ.2).trans (only_of_below hz)⟩
    · rintro r w' ⟨u, d, rfl, ho, hb, hF⟩
      have hl2 : (Sc.fr s.k s.e s.n ++ Sc.nsl S s.e s.n (Sc.mk s.k s.a) s.L).length = 17 + (s.L.length + 32) := by rw [List.length_append, Sc.fr_len, hlen]
      exact ⟨u, _, d, rfl, hl2, ho, hb, hF.out⟩
  · rw [Sc.nd_no h]
    exact (put_no _ _ s.k s.e s.n s.a p s.L.length c h w).mono fun r w' q => lput_no q (Sc.pt_no h) (fun hb => ⟨hg.old hb, only_of_below hb⟩)

theorem lget_of {f : Int → Int → List Int → List Int → Option (List Int)} {k a : Int} {b : List Int} {w w' : World} {r : Ending} (h0 : Sc.ger k a b = 0) {o : Option (List Int)} (ho : f (Sc.ep (b.take 17)) (Sc.nu (b.take 17)) (Sc.mk k a) (b.drop 17) = o)
    (h : SGet k (Sc.ep (b.take 17)) (Sc.nu (b.take 17)) a o w r w') : LGet (Sc.gt f k a b) w r w' := by
  rcases h with ⟨h1, h2⟩ | ⟨R, u, m, d, h1, h2, h3, h4, h5, h6⟩
  · exact lget_no h2 (Sc.gt_none h0 (ho.trans h1))
  · rw [Sc.gt_some h0 (ho.trans h1)]
    exact ⟨u, m, d, h3, h2, h4, h5, h6⟩
/-- Get by a box. -/
theorem bget_any (hT : TakeSaid) (K : List Int) (g : Nat) (k a : Int) (b : List Int) (p : Option Addr) (n c : Nat) (hn : b.length = n) (w : World) (hg : BoxAt w g K) (hb : Bs w p c b) (ht : Tab w 0) :
    Calls Tryd.prog 13 #[.iface 26 (.pointer (some ⟨g, 0, none⟩)), .int .i64 k, .int .i64 a, .slice p n c] w (LGet (Sc.gt (Seal.op K) k a b) w) := by
  by_cases h : Sc.ger k a b = 0
  · have hz := Sc.ger_zero.1 h
    refine (get_box ⟨g, 0, none⟩ k a _ _ b p n c hn h w hb (Seal.op K (Sc.ep (b.take 17)) (Sc.nu (b.take 17)) (Sc.mk k a) (b.drop 17)) rfl rfl ?_).mono fun r w' q => lget_of h rfl q
    intro y q d q2 d2 hy hq hq2
    exact open_any hT K (Sc.mk k a) (b.drop 17) g _ _ q q2 9 (n - 17) d d2 (Sc.mk_len _ _) (by rw [List.length_drop, hn]) y (hg.old hy) hq hq2 (by omega) (ht.below hy ht.lt)
  · exact (get_no _ _ k a b p n c hn h w hb).mono fun r w' q => lget_no q (Sc.gt_no h)
/-- Get by names. -/
theorem nget_any (S : Nm.St) (g bb cc : Nat) (k a : Int) (b : List Int) (p : Option Addr) (n c : Nat) (hn : b.length = n) (w : World) (hg : StAt w g bb cc S) (hb : Bs w p c b) :
    Calls Tryd.prog 13 #[.iface 28 (.pointer (some ⟨g, 0, none⟩)), .int .i64 k, .int .i64 a, .slice p n c] w (LGet (Sc.gt (Nm.opn S) k a b) w) := by
  by_cases h : Sc.ger k a b = 0
  · have hz := Sc.ger_zero.1 h
    have h4 := Sc.inP_iff.1 hz.2.2
    refine (get_nam ⟨g, 0, none⟩ k a _ _ b p n c hn h w hb (Nm.opn S (Sc.ep (b.take 17)) (Sc.nu (b.take 17)) (Sc.mk k a) (b.drop 17)) rfl rfl ?_).mono fun r w' q => lget_of h rfl q
    intro y q d q2 d2 hy hq hq2
    exact open_anyN S _ _ (Sc.mk k a) (b.drop 17) g bb cc q q2 9 (n - 17) d d2 (Sc.mk_len _ _) (by rw [List.length_drop, hn]) (by omega) (by unfold Nm.In64; omega) (by unfold Nm.In64; omega) y (hg.old hy) hq hq2
  · exact (get_no _ _ k a b p n c hn h w hb).mono fun r w' q => lget_no q (Sc.gt_no h)

set_option maxHeartbeats 2000000 in
set_option maxRecDepth 100000 in
theorem samesec_any (s t : Sc.S) (p q : Option Addr) (m n c d : Nat) (hm : s.L.length = m) (hn : t.L.length = n) (w : World) (hp : Bs w p c s.L) (hq : Bs w q d t.L) (hl : m ≤ 100000) :
    Calls Tryd.prog 14 #[Sv s p m c, Sv t q n d] w fun r w' => r = .returned (.bool (decide (s = t))) ∧ Below w.heap.size w w' := by
  obtain ⟨k, e, nn, a, L⟩ := s
  obtain ⟨k', e', nn', a', M⟩ := t
  simp only at hm hn hp hq ⊢
  have B0 : Hid (Below w.heap.size w ((w.alloc (SO k e nn a p m c)).alloc (SO k' e' nn' a' q n d))) := ((Below.refl _ w).alloc (Nat.le_refl _) _).alloc (by simp) _
  have HS : Hid (SAt ((w.alloc (SO k e nn a p m c)).alloc (SO k' e' nn' a' q n d)) w.heap.size k e nn a p m c) := (SAt.new w _ _ _ _ _ _ _).old ((Below.refl _ _).alloc (Nat.le_refl _) _)
  have HT : Hid (SAt ((w.alloc (SO k e nn a p m c)).alloc (SO k' e' nn' a' q n d)) (w.heap.size + 1) k' e' nn' a' q n d) := by
    have h := SAt.new (w.alloc (SO k e nn a p m c)) k' e' nn' a' q n d
    rw [show (w.alloc (SO k e nn a p m c)).heap.size = w.heap.size + 1 by simp] at h
    exact h
  have HE : Hid (∀ x, Below w.heap.size w x → Calls Tryd.prog 16 #[.slice p m c, .slice q n d] x fun r x' => r = .returned (.bool (decide (L = M))) ∧ Below x.heap.size x x') := fun x hx => same_all L M p q m n c d hm hn x (hp.old hx).bat (hq.old hx).bat (by omega)
  have HF : ∀ z : Bool, z = decide ((⟨k, e, nn, a, L⟩ : Sc.S) = ⟨k', e', nn', a', M⟩) ↔ z = (decide (k = k') && (decide (e = e') && (decide (nn = nn') && (decide (a = a') && decide (L = M))))) := fun z => by
    have : decide ((⟨k, e, nn, a, L⟩ : Sc.S) = ⟨k', e', nn', a', M⟩) = (decide (k = k') && (decide (e = e') && (decide (nn = nn') && (decide (a = a') && decide (L = M))))) := by
      simp only [Sc.S.mk.injEq, Bool.decide_and]
    rw [this]
  have HZ : Hid (∀ z : Bool, z = (decide (k = k') && (decide (e = e') && (decide (nn = nn') && (decide (a = a') && decide (L = M))))) → decide ((⟨k, e, nn, a, L⟩ : Sc.S) = ⟨k', e', nn', a', M⟩) = z) := fun z hz => ((HF z).2 hz).symm
  clear HF hp hq
  generalize decide ((⟨k, e, nn, a, L⟩ : Sc.S) = ⟨k', e', nn', a', M⟩) = DD at *
  obtain ⟨w0, hw0⟩ : ∃ x, x = (w.alloc (SO k e nn a p m c)).alloc (SO k' e' nn' a' q n d) := ⟨_, rfl⟩
  rw [← hw0] at B0 HS HT
  obtain ⟨x0, x1, x2, x3, x4⟩ := HS.out.all
  obtain ⟨y0, y1, y2, y3, y4⟩ := HT.out.all
  cases h0 : decide (k = k') with
  | false =>
    rw [HZ.out false (by rw [h0]; rfl)]
    have h0' : (k == k') = false := by simpa using h0
    clear HZ h0
    go_enter Tryd.func14, Tryd.ntmps14
    go_upto_region 1 with (fail)
    change Code.wp _ _ _ _ ((w.alloc (SO k e nn a p m c)).alloc (SO k' e' nn' a' q n d))
    rw [← hw0]
    clear hw0
    go_wp2
    go_ret
    exact ⟨rfl, B0.out⟩
  | true =>
    cases h1 : decide (e = e') with
    | false =>
      rw [HZ.out false (by rw [h0, h1]; rfl)]
      have h0' : (k == k') = true := by simpa using h0
      have h1' : (e == e') = false := by simpa using h1
      clear HZ h0 h1
      go_enter Tryd.func14, Tryd.ntmps14
      go_upto_region 1 with (fail)
      change Code.wp _ _ _ _ ((w.alloc (SO k e nn a p m c)).alloc (SO k' e' nn' a' q n d))
      rw [← hw0]
      clear hw0
      go_wp2
      go_ret
      exact ⟨rfl, B0.out⟩
    | true =>
      cases h2 : decide (nn = nn') with
      | false =>
        rw [HZ.out false (by rw [h0, h1, h2]; rfl)]
        have h0' : (k == k') = true := by simpa using h0
        have h1' : (e == e') = true := by simpa using h1
        have h2' : (nn == nn') = false := by simpa using h2
        clear HZ h0 h1 h2
        go_enter Tryd.func14, Tryd.ntmps14
        go_upto_region 1 with (fail)
        change Code.wp _ _ _ _ ((w.alloc (SO k e nn a p m c)).alloc (SO k' e' nn' a' q n d))
        rw [← hw0]
        clear hw0
        go_wp2
        go_ret
        exact ⟨rfl, B0.out⟩
      | true =>
        cases h3 : decide (a = a') with
        | false =>
          rw [HZ.out false (by rw [h0, h1, h2, h3]; rfl)]
          have h0' : (k == k') = true := by simpa using h0
          have h1' : (e == e') = true := by simpa using h1
          have h2' : (nn == nn') = true := by simpa using h2
          have h3' : (a == a') = false := by simpa using h3
          clear HZ h0 h1 h2 h3
          go_enter Tryd.func14, Tryd.ntmps14
          go_upto_region 1 with (fail)
          change Code.wp _ _ _ _ ((w.alloc (SO k e nn a p m c)).alloc (SO k' e' nn' a' q n d))
          rw [← hw0]
          clear hw0
          go_wp2
          go_ret
          exact ⟨rfl, B0.out⟩
        | true =>
          rw [HZ.out (decide (L = M)) (by rw [h0, h1, h2, h3]; simp)]
          have h0' : (k == k') = true := by simpa using h0
          have h1' : (e == e') = true := by simpa using h1
          have h2' : (nn == nn') = true := by simpa using h2
          have h3' : (a == a') = true := by simpa using h3
          clear HZ h0 h1 h2 h3
          generalize decide (L = M) = EE at *
          go_enter Tryd.func14, Tryd.ntmps14
          go_upto_region 1 with (fail)
          change Code.wp _ _ _ _ ((w.alloc (SO k e nn a p m c)).alloc (SO k' e' nn' a' q n d))
          rw [← hw0]
          clear hw0
          go_wp2_with (go_at_call 16; refine (HE.out _ B0.out).mono ?_; rintro e1 w1 ⟨rfl, hb1⟩)
          go_ret
          exact ⟨rfl, B0.out.trans (hb1.mono B0.out.size)⟩
end Go.Proofs.YtkjfhbmdogmecaaDoor

/-
  The law NamesForged walked.
-/
import Derived.Test.YtdmnlooghamngaaNaX
namespace Go.Proofs.Ytdmnlooghamngaa
open Go.RowKit

namespace Nm
theorem hit_eq (S : St) (x : Four) (e n : Int) (h b : List Int) : hit S x e n h b = (may x && (x.1 == e) && (x.2.1 == n) && decide (x.2.2.1 = h) && decide (sl S x = b)) := by unfold hit; rfl
end Nm

set_option maxHeartbeats 4000000 in
set_option maxRecDepth 100000 in
theorem forged_small (L : List Nm.Four) (e n : Int) (h b : List Int) (tp ph pb : Option Addr) (m nh nb cap ch cb : Nat) (hm : L.length = m) (hnh : h.length = nh) (hnb : b.length = nb) (hs : SmallL L) (hlh : nh ≤ 8192) (hlb : nb ≤ 8192) (he : Nm.In64 e) (hn : Nm.In64 n)
    (w : World) (hr : FRows w tp L) (hbh : Bs w ph ch h) (hbb : Bs w pb cb b) (hg : Calls Try.prog 25 #[.slice tp m cap] w (EqSay false w)) :
    Calls Try.prog 5 #[.slice tp m cap, .int .i64 e, .int .i64 n, .slice ph nh ch, .slice pb nb cb] w (YesSay w) := by
  have HR := Lib.hid hr; clear hr
  have HN := Lib.hid (And.intro hm (And.intro hnh hnb)); clear hm hnh hnb
  have HBH := Lib.hid hbh; clear hbh
  have HBB := Lib.hid hbb; clear hbb
  have HG := Lib.hid hg; clear hg
  have HI := Lib.hid (And.intro he hn); clear he hn
  have hm60 : m ≤ 60 := by have := hs.1; have := HN.out.1; omega
  have HSM := Lib.hid hs; clear hs
  have h1 : decide ((8192 : Int) < (nh : Int)) = false := by simpa using (by omega : ¬ ((8192 : Int) < (nh : Int)))
  have h2 : decide ((8192 : Int) < (nb : Int)) = false := by simpa using (by omega : ¬ ((8192 : Int) < (nb : Int)))
  go_enter Try.func5, Try.ntmps5
  go_wp2_with (first
    | (go_at_call 25; refine HG.out.mono ?_; rintro e1 w1 ⟨rfl, hb1⟩; have B1 := Lib.hid hb1; clear hb1)
    | (go_at_call 11; refine (new_any _).mono ?_; rintro e2 w2 ⟨g, bs, cs, rfl, L2, S2, hb2⟩; have LB : Hid (w.heap.size ≤ bs ∧ w.heap.size ≤ cs) := (by have := L2.out; have := B1.out.size; exact ⟨by omega, by omega⟩); have B2 : Hid (Below w.heap.size w w2) := B1.out.trans (hb2.mono B1.out.size); clear hb2 L2 B1))
  go_loopw [12, 13] (fun v12 v13 wr => ∃ k : Nat, k ≤ m ∧ v13 = .int .i64 k ∧ v12 = .bool (Nm.sb L e n h b k) ∧ Hid (StAt wr g bs cs (Nm.stl L k)) ∧ Hid (Below w.heap.size w wr)) (fun _ v13 _ => m - (intOf v13).toNat)
  case atStart => exact ⟨0, Nat.zero_le _, rfl, by unfold Nm.sb; rfl, by unfold Nm.stl; exact S2.out, B2.out⟩
  case round =>
    clear S2 B2
    obtain ⟨k, hk, rfl, rfl, HS, HB⟩ := hrel
    have HF := Lib.hid (Nm.forged L e n h b k)
    have HLN := Lib.hid (Nm.stl_len L k)
    by_cases hlt : k < m
    · obtain ⟨x, hx⟩ : ∃ x, L[k]? = some x := ⟨L[k]'(by rw [HN.out.1]; exact hlt), List.getElem?_eq_getElem _⟩
      have HXS := Lib.hid (HSM.out.2 x (List.mem_of_getElem? hx))
      have HSB := Lib.hid (Nm.sb_succ (e := e) (n := n) (h := h) (b := b) hx)
      have HST := Lib.hid (Nm.stl_succ hx)
      obtain ⟨tb, tf, rfl, hrow⟩ := HR.out (by rw [HN.out.1]; omega)
      obtain ⟨xh, xch, xp, xcp, F⟩ := hrow k x hx
      have HFA : Hid (∀ y, Below w.heap.size w y → FourAt y tb (tf + k * 4) x xh xch xp xcp) := fun y hy => F.old hy
      clear hx hrow F
      generalize Nm.sb L e n h b k = sbk at *
      generalize Nm.stl L k = S at *
      have hk0 : 0 ≤ (k : Int) := by omega
      have hk1 : (k : Int) < (m : Int) := by omega
      go_upto_region 8 with (fail)
      go_region_held3 (fun y => y.cell? ⟨tb, tf + k * 4, none⟩ = some (.int .i64 x.1) ∧ y.cell? ⟨tb, tf + k * 4 + 1, none⟩ = some (.int .i64 x.2.1) ∧ y.cell? ⟨tb, tf + k * 4 + 2, none⟩ = some (.slice xh x.2.2.1.length xch) ∧ y.cell? ⟨tb, tf + k * 4 + 3, none⟩ = some (.slice xp x.2.2.2.length xcp))
        (exact (fun q => ⟨q.c0, q.c1, q.c2, q.c3⟩) (HFA.out _ (by first | exact Hid.out (by assumption) | exact HB.out.drew)))
        (first
          | (go_at_call 16; refine (seal_any S x g bs cs xh xp _ _ xch xcp rfl rfl (by have := HXS.out; omega) _ HS.out.drew (HFA.out _ HB.out.drew).bh (HFA.out _ HB.out.drew).bp (by have := HLN.out; omega)).mono ?_; rintro e3 w3 ⟨p3, k3, m3, rfl, hm3, _, P3, S3, o3⟩; have B3 : Hid (Below w.heap.size w w3) := o3.below HB.out.drew LB.out.1 HB.out.size; have HM3 := Lib.hid hm3; clear o3 hm3))
      have HL3 : Hid (m3 ≤ 10000000) := by show _ ≤ _; have h1 := HM3.out; rw [Nm.sl_len] at h1; have := HXS.out; split at h1 <;> omega
      clear HS HB
      have F3 := HFA.out _ B3.out
      have c0 := F3.c0
      have c1 := F3.c1
      have c2 := F3.c2
      have c3 := F3.c3
      clear F3
      have HH := Lib.hid (Nm.hit_eq S x e n h b)
      have FIN : Hid (∀ (y : World) (r : Bool), r = (sbk || Nm.hit S x e n h b) → Below w3.heap.size w3 y → (∃ k' : Nat, k' ≤ m ∧ Value.int .i64 ((k : Int) + 1) = .int .i64 k' ∧ Value.bool r = .bool (Nm.sb L e n h b k') ∧ Hid (StAt y g bs cs (Nm.stl L k')) ∧ Hid (Below w.heap.size w y))) := fun y r hr hy => ⟨k + 1, by omega, by go_num, by rw [HSB.out, hr], by rw [HST.out]; exact S3.out.old hy, B3.out.trans (hy.mono B3.out.size)⟩
      cases sbk with
      | true =>
        go_wp2
        exact ⟨FIN.out _ _ rfl (Below.refl _ _), by simp [intOf]; omega⟩
      | false =>
        cases hmx : Nm.may x with
        | false =>
          go_wp2_with (go_at_call 26; refine (may_any x _ _ _).mono ?_; rintro e4 w4 ⟨rfl, hb4⟩; rw [hmx])
          exact ⟨FIN.out _ _ (by rw [HH.out, hmx]; rfl) hb4, by simp [intOf]; omega⟩
        | true =>
          have HMX := Lib.hid hmx; clear hmx
          cases he1 : (x.1 == e) with
          | false =>
            go_wp2_with (go_at_call 26; refine (may_any x _ _ _).mono ?_; rintro e4 w4 ⟨rfl, hb4⟩; rw [HMX.out]; have q0 := (HFA.out _ (B3.out.trans (hb4.mono B3.out.size))).c0)
            exact ⟨FIN.out _ _ (by rw [HH.out, he1]; simp) hb4, by simp [intOf]; omega⟩
          | true =>
            cases hn1 : (x.2.1 == n) with
            | false =>
              go_wp2_with (go_at_call 26; refine (may_any x _ _ _).mono ?_; rintro e4 w4 ⟨rfl, hb4⟩; rw [HMX.out]; have q0 := (HFA.out _ (B3.out.trans (hb4.mono B3.out.size))).c0; have q1 := (HFA.out _ (B3.out.trans (hb4.mono B3.out.size))).c1)
              exact ⟨FIN.out _ _ (by rw [HH.out, hn1]; simp) hb4, by simp [intOf]; omega⟩
            | true =>
              cases hh1 : decide (x.2.2.1 = h) with
              | false =>
                go_wp2_with (first
                  | (go_at_call 26; refine (may_any x _ _ _).mono ?_; rintro e4 w4 ⟨rfl, hb4⟩; rw [HMX.out]; have B4 : Hid (Below w.heap.size w w4) := B3.out.trans (hb4.mono B3.out.size); have q0 := (HFA.out _ B4.out).c0; have q1 := (HFA.out _ B4.out).c1; have q2 := (HFA.out _ B4.out).c2; have D4 := Lib.hid hb4; clear hb4)
                  | (go_at_call 18; refine (same_all x.2.2.1 h xh ph _ nh xch ch rfl HN.out.2.1 _ (HFA.out _ B4.out).bh.bat (HBH.out.old B4.out).bat (by have := HXS.out; omega)).mono ?_; rintro e5 w5 ⟨rfl, hb5⟩; rw [hh1]; have D5 : Hid (Below w3.heap.size w3 w5) := D4.out.trans (hb5.mono D4.out.size); clear hb5))
                exact ⟨FIN.out _ _ (by rw [HH.out, hh1]; simp) D5.out, by simp [intOf]; omega⟩
              | true =>
                have TK : Hid True := trivial
                go_wp2_with (first
                  | (go_at_call 26; refine (may_any x _ _ _).mono ?_; rintro e4 w4 ⟨rfl, hb4⟩; rw [HMX.out]; have B4 : Hid (Below w.heap.size w w4) := B3.out.trans (hb4.mono B3.out.size); have q0 := (HFA.out _ B4.out).c0; have q1 := (HFA.out _ B4.out).c1; have q2 := (HFA.out _ B4.out).c2; have D4 := Lib.hid hb4; clear hb4)
                  | (go_at_call 18; have TK2 := TK.out; clear TK TK2; refine (same_all x.2.2.1 h xh ph _ nh xch ch rfl HN.out.2.1 _ (HFA.out _ B4.out).bh.bat (HBH.out.old B4.out).bat (by have := HXS.out; omega)).mono ?_; rintro e5 w5 ⟨rfl, hb5⟩; rw [hh1]; have D5 : Hid (Below w3.heap.size w3 w5) := D4.out.trans (hb5.mono D4.out.size); clear hb5)
                  | (go_at_call 18; refine (same_all (Nm.sl S x) b p3 pb m3 nb k3 cb HM3.out HN.out.2.2 _ (P3.out.old D5.out).bat (HBB.out.old (B3.out.trans (D5.out.mono B3.out.size))).bat HL3.out).mono ?_; rintro e6 w6 ⟨rfl, hb6⟩; have D6 : Hid (Below w3.heap.size w3 w6) := D5.out.trans (hb6.mono D5.out.size); clear hb6))
                exact ⟨FIN.out _ _ (by rw [HH.out, HMX.out, he1, hn1, hh1]; rfl) D6.out, by simp [intOf]; omega⟩
    · obtain rfl : k = m := by omega
      clear hlt
      have HOI : Hid ((Nm.opn (Nm.stl L k) e n h b).isSome = Nm.sb L e n h b k) := HF.out
      generalize Nm.sb L e n h b k = sbk at *
      cases sbk with
      | true =>
        go_wp2_with (first
          | (go_at_call 20; refine (open_any (Nm.stl L k) e n h b g bs cs ph pb nh nb ch cb HN.out.2.1 HN.out.2.2 (by omega) HI.out.1 HI.out.2 _ HS.out (HBH.out.old HB.out) (HBB.out.old HB.out)).mono ?_; rintro e3 w3 ⟨p3, k3, m3, rfl, _, _, _, hb3⟩; rw [HOI.out]; have B3 : Hid (Below w.heap.size w w3) := HB.out.trans (hb3.mono HB.out.size); clear hb3)
          | (go_at_call 10; refine (works_any _).mono ?_; rintro e4 w4 ⟨rfl, hb4⟩; have B4 : Hid (Below w.heap.size w w4) := B3.out.trans (hb4.mono B3.out.size); clear hb4))
        go_ret
        exact ⟨rfl, B4.out⟩
      | false =>
        go_wp2_with (first
          | (go_at_call 20; refine (open_any (Nm.stl L k) e n h b g bs cs ph pb nh nb ch cb HN.out.2.1 HN.out.2.2 (by omega) HI.out.1 HI.out.2 _ HS.out (HBH.out.old HB.out) (HBB.out.old HB.out)).mono ?_; rintro e3 w3 ⟨p3, k3, m3, rfl, _, _, _, hb3⟩; rw [HOI.out]; have B3 : Hid (Below w.heap.size w w3) := HB.out.trans (hb3.mono HB.out.size); clear hb3)
          | (go_at_call 10; refine (works_any _).mono ?_; rintro e4 w4 ⟨rfl, hb4⟩; have B4 : Hid (Below w.heap.size w w4) := B3.out.trans (hb4.mono B3.out.size); clear hb4))
        go_ret
        exact ⟨rfl, B4.out⟩

set_option maxHeartbeats 1000000 in
set_option maxRecDepth 100000 in
theorem forged_long (e n : Int) (tp ph pb : Option Addr) (m nh nb cap ch cb : Nat) (r : Bool) (hr : r = true ∨ 8192 < nh ∨ 8192 < nb) (w : World) (hg : Calls Try.prog 25 #[.slice tp m cap] w (EqSay r w)) :
    Calls Try.prog 5 #[.slice tp m cap, .int .i64 e, .int .i64 n, .slice ph nh ch, .slice pb nb cb] w (YesSay w) := by
  have HG := Lib.hid hg; clear hg
  cases r with
  | true =>
    go_enter Try.func5, Try.ntmps5
    go_wp2_with (first
      | (go_at_call 25; refine HG.out.mono ?_; rintro e1 w1 ⟨rfl, hb1⟩)
      | (go_at_call 10; refine (works_any _).mono ?_; rintro e4 w4 ⟨rfl, hb4⟩))
    go_ret
    exact ⟨rfl, hb1.trans (hb4.mono hb1.size)⟩
  | false =>
    by_cases h1 : (8192 : Int) < (nh : Int)
    · go_enter Try.func5, Try.ntmps5
      go_wp2_with (first
        | (go_at_call 25; refine HG.out.mono ?_; rintro e1 w1 ⟨rfl, hb1⟩)
        | (go_at_call 10; refine (works_any _).mono ?_; rintro e4 w4 ⟨rfl, hb4⟩))
      go_ret
      exact ⟨rfl, hb1.trans (hb4.mono hb1.size)⟩
    · have h2 : (8192 : Int) < (nb : Int) := by
        rcases hr with hr | hr | hr
        · cases hr
        · omega
        · omega
      have h1' : decide ((8192 : Int) < (nh : Int)) = false := by simpa using h1
      go_enter Try.func5, Try.ntmps5
      go_wp2_with (first
        | (go_at_call 25; refine HG.out.mono ?_; rintro e1 w1 ⟨rfl, hb1⟩)
        | (go_at_call 10; refine (works_any _).mono ?_; rintro e4 w4 ⟨rfl, hb4⟩))
      go_ret
      exact ⟨rfl, hb1.trans (hb4.mono hb1.size)⟩
theorem great_eq (L : List Nm.Four) (tp : Option Addr) (n cap : Nat) (hn : L.length = n) (w : World) (hr : FRows w tp L) :
    Calls Try.prog 25 #[.slice tp n cap] w (EqSay (grt L) w) :=
  (great_any L tp n cap hn w hr).mono fun _ _ h => ⟨h.1, by rw [← h.2]; exact Below.refl _ _⟩
/-- NamesForged is true. -/
theorem forged_any (L : List Nm.Four) (e n : Int) (h b : List Int) (tp ph pb : Option Addr) (cap ch cb : Nat) (he : Nm.In64 e) (hn : Nm.In64 n)
    (w : World) (hr : FRows w tp L) (hbh : Bs w ph ch h) (hbb : Bs w pb cb b) :
    Calls Try.prog 5 #[.slice tp L.length cap, .int .i64 e, .int .i64 n, .slice ph h.length ch, .slice pb b.length cb] w (YesSay w) := by
  have hg := great_eq L tp L.length cap rfl w hr
  by_cases hl : grt L = true ∨ 8192 < h.length ∨ 8192 < b.length
  · exact forged_long e n tp ph pb _ _ _ cap ch cb (grt L) hl w hg
  · have h0 : grt L = false := by cases q : grt L with
      | true => exact absurd (Or.inl q) hl
      | false => rfl
    rw [h0] at hg
    exact forged_small L e n h b tp ph pb _ _ _ cap ch cb rfl rfl rfl (grt_small h0) (by omega) (by omega) he hn w hr hbh hbb hg
end Go.Proofs.Ytdmnlooghamngaa

/-
  The law NamesStays walked.
-/
import Derived.Test.YtdmnlooghamngaaNaY
namespace Go.Proofs.Ytdmnlooghamngaa
open Go.RowKit

namespace Nm
def tsl (L : List Four) : Nat → List (List Int)
  | 0 => []
  | k + 1 => match L[k]? with
    | some x => put x.2.2.2 (tsl L k)
    | none => tsl L k
theorem tsl_succ {L : List Four} {k : Nat} {x : Four} (h : L[k]? = some x) : tsl L (k + 1) = put x.2.2.2 (tsl L k) := by rw [tsl, h]
theorem tsl_len (L : List Four) : ∀ k, (tsl L k).length ≤ k
  | 0 => Nat.le_refl _
  | k + 1 => by
    rw [tsl]
    have := tsl_len L k
    split
    · have := put_len (x := (‹Four›).2.2.2) (l := tsl L k); omega
    · omega
def yst (L : List Four) (k : Nat) : St := ⟨(stl L k).ss, tsl L k⟩
def zst (L : List Four) (k : Nat) : St := ⟨[], tsl L k⟩
theorem zst_succ {L : List Four} {k : Nat} {x : Four} (h : L[k]? = some x) : smd (zst L k) x.2.2.2 = zst L (k + 1) := by unfold smd zst; rw [tsl_succ h]
theorem sld_ss (S : St) (x : Four) : (sld S x).ss = if may x then put x S.ss else S.ss := by unfold sld; split <;> rfl
theorem sld_ts (S : St) (x : Four) : (sld S x).ts = S.ts := by unfold sld; split <;> rfl
theorem yst_succ {L : List Four} {k : Nat} {x : Four} (h : L[k]? = some x) : smd (sld (smd (yst L k) x.2.2.2) x) x.2.2.2 = yst L (k + 1) := by
  have h1 : ∀ S T : St, S.ss = T.ss → S.ts = T.ts → S = T := fun S T a b => by cases S; cases T; simp_all
  apply h1
  · show (sld (smd (yst L k) x.2.2.2) x).ss = (stl L (k + 1)).ss
    rw [stl_succ h, sld_ss, sld_ss]
    rfl
  · show put x.2.2.2 (sld (smd (yst L k) x.2.2.2) x).ts = tsl L (k + 1)
    rw [sld_ts, tsl_succ h]
    exact put_same put_self
theorem sl_yst (L : List Four) (k : Nat) (p : List Int) (x : Four) : sl (smd (yst L k) p) x = sl (stl L k) x := rfl
theorem sm_yst (L : List Four) (k : Nat) (p : List Int) (x : Four) : sm (sld (smd (yst L k) p) x) p = sm (zst L k) p := by
  unfold sm
  rw [sld_ts]
  show tg 1 (num p (put p (tsl L k))) = tg 1 (num p (tsl L k))
  rw [num_same put_self, num_place]
attribute [irreducible] yst zst tsl
end Nm
set_option maxHeartbeats 8000000 in
set_option maxRecDepth 100000 in
theorem stays_small (L : List Nm.Four) (b : List Int) (tp pb : Option Addr) (m nb cap cb : Nat) (hm : L.length = m) (hnb : b.length = nb) (hs : SmallL L) (hlb : nb ≤ 4096)
    (w : World) (hr : FRows w tp L) (hbb : Bs w pb cb b) (hg : Calls Try.prog 25 #[.slice tp m cap] w (EqSay false w)) :
    Calls Try.prog 8 #[.slice tp m cap, .slice pb nb cb] w (YesSay w) := by
  have HR := Lib.hid hr; clear hr
  have HN := Lib.hid (And.intro hm hnb); clear hm hnb
  have HBB := Lib.hid hbb; clear hbb
  have HG := Lib.hid hg; clear hg
  have hm60 : m ≤ 60 := by have := hs.1; have := HN.out.1; omega
  have HSM := Lib.hid hs; clear hs
  have h1 : decide ((4096 : Int) < (nb : Int)) = false := by simpa using (by omega : ¬ ((4096 : Int) < (nb : Int)))
  have TK : Hid True := trivial
  have TK2 : Hid True := trivial
  go_enter Try.func8, Try.ntmps8
  go_wp2_with (first
    | (go_at_call 25; refine HG.out.mono ?_; rintro e1 w1 ⟨rfl, hb1⟩; have B1 := Lib.hid hb1; clear hb1)
    | (go_at_call 11; have tk := TK.out; clear tk TK; refine (new_any _).mono ?_; rintro e2 w2 ⟨gx, bx, cx, rfl, LX, SX2, hb2⟩; have B2 : Hid (Below w.heap.size w w2) := B1.out.trans (hb2.mono B1.out.size); have QX : Hid (w.heap.size ≤ bx ∧ w.heap.size ≤ cx ∧ gx < w2.heap.size ∧ bx < w2.heap.size ∧ cx < w2.heap.size) := (by have := LX.out; have := B1.out.size; have := SX2.out.lt; exact ⟨by omega, by omega, by omega, by omega, by omega⟩); clear hb2 LX B1)
    | (go_at_call 11; have tk := TK2.out; clear tk TK2; refine (new_any _).mono ?_; rintro e3 w3 ⟨gy, yb, cy, rfl, LY, SY3, hb3⟩; have B3 : Hid (Below w.heap.size w w3) := B2.out.trans (hb3.mono B2.out.size); have SX3 := Lib.hid (SX2.out.old hb3); have QY : Hid (w2.heap.size ≤ gy ∧ w2.heap.size ≤ yb ∧ w2.heap.size ≤ cy ∧ gy < w3.heap.size ∧ yb < w3.heap.size ∧ cy < w3.heap.size) := (by have := LY.out; have := SY3.out.lt; exact ⟨by omega, by omega, by omega, by omega, by omega, by omega⟩); clear hb3 LY SX2)
    | (go_at_call 11; refine (new_any _).mono ?_; rintro e4 w4 ⟨gz, bz, cz, rfl, LZ, SZ4, hb4⟩; have B4 : Hid (Below w.heap.size w w4) := B3.out.trans (hb4.mono B3.out.size); have SX4 := Lib.hid (SX3.out.old hb4); have SY4 := Lib.hid (SY3.out.old hb4); have QZ := Lib.hid (And.intro LZ.out hb4.size); clear hb4 LZ SX3 SY3))
  have NE : Hid ((w.heap.size ≤ bx ∧ w.heap.size ≤ yb ∧ w.heap.size ≤ cy ∧ w.heap.size ≤ cz) ∧ (gy ≠ bx ∧ yb ≠ bx ∧ cy ≠ bx) ∧ (gz ≠ bx ∧ bz ≠ bx ∧ cz ≠ bx) ∧ (gx ≠ cy ∧ bx ≠ cy ∧ cx ≠ cy) ∧ (gz ≠ cy ∧ bz ≠ cy ∧ cz ≠ cy) ∧ (gx ≠ yb ∧ bx ≠ yb ∧ cx ≠ yb) ∧ (gz ≠ yb ∧ bz ≠ yb ∧ cz ≠ yb) ∧ (gx ≠ cz ∧ bx ≠ cz ∧ cx ≠ cz) ∧ (gy ≠ cz ∧ yb ≠ cz ∧ cy ≠ cz)) := by
    show _ ∧ _
    have := QX.out
    have := QY.out
    have := QZ.out
    have := B2.out.size
    have := B3.out.size
    omega
  clear QX QY QZ B2 B3
  go_loopw [8] (fun v8 wr => ∃ k : Nat, k ≤ m ∧ v8 = .int .i64 k ∧ Hid (StAt wr gx bx cx (Nm.stl L k)) ∧ Hid (StAt wr gy yb cy (Nm.yst L k)) ∧ Hid (StAt wr gz bz cz (Nm.zst L k)) ∧ Hid (Below w.heap.size w wr)) (fun v8 _ => m - (intOf v8).toNat)
  case atStart => exact ⟨0, Nat.zero_le _, rfl, by unfold Nm.stl; exact SX4.out, by unfold Nm.yst Nm.stl Nm.tsl; exact SY4.out, by unfold Nm.zst Nm.tsl; exact SZ4.out, B4.out⟩
  case round =>
    clear SX4 SY4 SZ4 B4
    obtain ⟨k, hk, rfl, SX, SY, SZ, HB⟩ := hrel
    by_cases hlt : k < m
    · obtain ⟨x, hx⟩ : ∃ x, L[k]? = some x := ⟨L[k]'(by rw [HN.out.1]; exact hlt), List.getElem?_eq_getElem _⟩
      have HXS := Lib.hid (HSM.out.2 x (List.mem_of_getElem? hx))
      have HLN := Lib.hid (Nm.stl_len L k)
      have HLT := Lib.hid (Nm.tsl_len L k)
      have HLY : Hid ((Nm.yst L k).ss.length ≤ 60 ∧ (Nm.yst L k).ts.length ≤ 60 ∧ (Nm.zst L k).ts.length ≤ 60) := by
        show _ ∧ _
        have := HLN.out
        have := HLT.out
        unfold Nm.yst Nm.zst
        exact ⟨by show (Nm.stl L k).ss.length ≤ 60; omega, by show (Nm.tsl L k).length ≤ 60; omega, by show (Nm.tsl L k).length ≤ 60; omega⟩
      have E1 := Lib.hid (Nm.stl_succ hx)
      have E2 := Lib.hid (Nm.yst_succ hx)
      have E3 := Lib.hid (Nm.zst_succ hx)
      have E4 := Lib.hid (Nm.sl_yst L k x.2.2.2 x)
      have E5 := Lib.hid (Nm.sm_yst L k x.2.2.2 x)
      obtain ⟨tb, tf, rfl, hrow⟩ := HR.out (by rw [HN.out.1]; omega)
      obtain ⟨xh, xch, xp, xcp, F⟩ := hrow k x hx
      have HFA : Hid (∀ y, Below w.heap.size w y → FourAt y tb (tf + k * 4) x xh xch xp xcp) := fun y hy => F.old hy
      clear hx hrow F
      generalize Nm.stl L k = X at *
      generalize Nm.yst L k = Y at *
      generalize Nm.zst L k = Z at *
      obtain ⟨A, HA⟩ : ∃ A : Array Value, Hid (A32 (Nm.sm Z x.2.2.2) = .agg A) := ⟨_, rfl⟩
      have hng := Try.noGuard
      have HEQ : ∀ w, (Op.equalIn 10000 42 (.agg A) (.agg A)).run Try.prog w = .ok true w := fun w => by
        have h := sums_eq (Nm.sm Z x.2.2.2) (Nm.sm Z x.2.2.2) (Nm.tg_len _ _) (Nm.tg_len _ _) w
        rw [decide_eq_true rfl] at h
        have h2 := HA.out
        unfold A32 at h2
        rw [h2] at h
        exact h
      have hk0 : 0 ≤ (k : Int) := by omega
      have hk1 : (k : Int) < (m : Int) := by omega
      go_upto_region 9 with (fail)
      go_region_held3 (fun y => y.cell? ⟨tb, tf + k * 4, none⟩ = some (.int .i64 x.1) ∧ y.cell? ⟨tb, tf + k * 4 + 1, none⟩ = some (.int .i64 x.2.1) ∧ y.cell? ⟨tb, tf + k * 4 + 2, none⟩ = some (.slice xh x.2.2.1.length xch) ∧ y.cell? ⟨tb, tf + k * 4 + 3, none⟩ = some (.slice xp x.2.2.2.length xcp))
        (exact (fun q => ⟨q.c0, q.c1, q.c2, q.c3⟩) (HFA.out _ (by first | exact Hid.out (by assumption) | exact HB.out.drew)))
        (first
          | (go_at_call 16; refine (seal_any X x gx bx cx xh xp _ _ xch xcp rfl rfl (by have := HXS.out; omega) _ SX.out.drew (HFA.out _ HB.out.drew).bh (HFA.out _ HB.out.drew).bp (by have := HLN.out; omega)).mono ?_; rintro e1 w1 ⟨p1, k1, m1, rfl, hm1, _, P1, SX1, o1⟩; have B1 : Hid (Below w.heap.size w w1) := o1.below HB.out.drew NE.out.1.1 HB.out.size; have HM1 := Lib.hid hm1; have SY1 := Lib.hid (SY.out.drew.only o1 NE.out.2.1.1 NE.out.2.1.2.1 NE.out.2.1.2.2); have SZ1 := Lib.hid (SZ.out.drew.only o1 NE.out.2.2.1.1 NE.out.2.2.1.2.1 NE.out.2.2.1.2.2); clear o1 hm1 SX SY SZ))
      have F1 := (HFA.out _ B1.out).c3
      go_upto_region 11 with (go_at_call 22; refine (sum_any Y x.2.2.2 gy yb cy xp _ xcp rfl _ SY1.out (HFA.out _ B1.out).bp (by have := HLY.out; omega)).mono ?_; rintro e2 w2 ⟨rfl, SY2, o2⟩; have B2 : Hid (Below w.heap.size w w2) := o2.below B1.out NE.out.1.2.2.1 B1.out.size; have P2 := Lib.hid (bs_only P1.out o2 (bs_map P1.out SY1.out.ts)); have SX2 := Lib.hid (SX1.out.only o2 NE.out.2.2.2.1.1 NE.out.2.2.2.1.2.1 NE.out.2.2.2.1.2.2); have SZ2 := Lib.hid (SZ1.out.only o2 NE.out.2.2.2.2.1.1 NE.out.2.2.2.2.1.2.1 NE.out.2.2.2.2.1.2.2); clear o2 SX1 SY1 SZ1 P1 HB)
      clear F1
      have HSZ : Hid ((Nm.sl X x).length ≤ 10000) := by show _ ≤ _; rw [Nm.sl_len]; have := HXS.out; split <;> omega
      go_region_held3 (fun y => y.cell? ⟨tb, tf + k * 4, none⟩ = some (.int .i64 x.1) ∧ y.cell? ⟨tb, tf + k * 4 + 1, none⟩ = some (.int .i64 x.2.1) ∧ y.cell? ⟨tb, tf + k * 4 + 2, none⟩ = some (.slice xh x.2.2.1.length xch) ∧ y.cell? ⟨tb, tf + k * 4 + 3, none⟩ = some (.slice xp x.2.2.2.length xcp))
        (exact (fun q => ⟨q.c0, q.c1, q.c2, q.c3⟩) (HFA.out _ (by first | exact Hid.out (by assumption) | exact B2.out.drew)))
        (first
          | (go_at_call 20; refine (open_any (Nm.smd Y x.2.2.2) x.1 x.2.1 x.2.2.1 b gy yb cy xh pb _ nb xch cb rfl HN.out.2 (by omega) (HFA.out _ B2.out).i1 (HFA.out _ B2.out).i2 _ SY2.out.drew (HFA.out _ B2.out.drew).bh (HBB.out.old B2.out.drew)).mono ?_; rintro e3 w3 ⟨p3, k3, m3, rfl, _, _, _, hb3⟩; have B3 : Hid (Below w.heap.size w w3) := B2.out.drew.trans (hb3.mono B2.out.size); have SX3 := Lib.hid (SX2.out.drew.old hb3); have SY3 := Lib.hid (SY2.out.drew.old hb3); have SZ3 := Lib.hid (SZ2.out.drew.old hb3); have P3 := Lib.hid (P2.out.drew.old hb3); clear hb3 SX2 SY2 SZ2 P2))
      have HLY2 : Hid ((Nm.smd Y x.2.2.2).ss.length ≤ 60) := HLY.out.1
      go_upto_region 12 with (fail)
      go_region_held3 (fun y => y.cell? ⟨tb, tf + k * 4, none⟩ = some (.int .i64 x.1) ∧ y.cell? ⟨tb, tf + k * 4 + 1, none⟩ = some (.int .i64 x.2.1) ∧ y.cell? ⟨tb, tf + k * 4 + 2, none⟩ = some (.slice xh x.2.2.1.length xch) ∧ y.cell? ⟨tb, tf + k * 4 + 3, none⟩ = some (.slice xp x.2.2.2.length xcp))
        (exact (fun q => ⟨q.c0, q.c1, q.c2, q.c3⟩) (HFA.out _ (by first | exact Hid.out (by assumption) | exact B3.out.drew)))
        (first
          | (go_at_call 16; refine (seal_any (Nm.smd Y x.2.2.2) x gy yb cy xh xp _ _ xch xcp rfl rfl (by have := HXS.out; omega) _ SY3.out.drew (HFA.out _ B3.out.drew).bh (HFA.out _ B3.out.drew).bp (by have := HLY2.out; omega)).mono ?_; rintro e4 w4 ⟨p4, k4, m4, rfl, hm4, _, T4, SY4, o4⟩; rw [E4.out] at hm4 T4; have B4 : Hid (Below w.heap.size w w4) := o4.below B3.out.drew NE.out.1.2.1 B3.out.size; have HM4 := Lib.hid hm4; have SX4 := Lib.hid (SX3.out.drew.only o4 NE.out.2.2.2.2.2.1.1 NE.out.2.2.2.2.2.1.2.1 NE.out.2.2.2.2.2.1.2.2); have SZ4 := Lib.hid (SZ3.out.drew.only o4 NE.out.2.2.2.2.2.2.1.1 NE.out.2.2.2.2.2.2.1.2.1 NE.out.2.2.2.2.2.2.1.2.2); have P4 := Lib.hid (bs_only P3.out.drew o4 (bs_map P3.out.drew SY3.out.drew.ss)); clear o4 hm4 SX3 SY3 SZ3 P3))
      go_upto_region 13 with (fail)
      go_region_held3 (fun y => y.cell? ⟨tb, tf + k * 4, none⟩ = some (.int .i64 x.1) ∧ y.cell? ⟨tb, tf + k * 4 + 1, none⟩ = some (.int .i64 x.2.1) ∧ y.cell? ⟨tb, tf + k * 4 + 2, none⟩ = some (.slice xh x.2.2.1.length xch) ∧ y.cell? ⟨tb, tf + k * 4 + 3, none⟩ = some (.slice xp x.2.2.2.length xcp))
        (exact (fun q => ⟨q.c0, q.c1, q.c2, q.c3⟩) (HFA.out _ (by first | exact Hid.out (by assumption) | exact B4.out.drew)))
        (first
          | (go_at_call 20; refine (open_any (Nm.sld (Nm.smd Y x.2.2.2) x) x.1 x.2.1 x.2.2.1 (Nm.sl X x) gy yb cy xh p4 _ m4 xch k4 rfl HM4.out (by have := HM4.out; have := HSZ.out; omega) (HFA.out _ B4.out).i1 (HFA.out _ B4.out).i2 _ SY4.out.drew (HFA.out _ B4.out.drew).bh T4.out.drew).mono ?_; rintro e5 w5 ⟨p5, k5, m5, rfl, _, _, _, hb5⟩; have B5 : Hid (Below w.heap.size w w5) := B4.out.drew.trans (hb5.mono B4.out.size); have SX5 := Lib.hid (SX4.out.drew.old hb5); have SY5 := Lib.hid (SY4.out.drew.old hb5); have SZ5 := Lib.hid (SZ4.out.drew.old hb5); have P5 := Lib.hid (P4.out.drew.old hb5); have T5 := Lib.hid (T4.out.drew.old hb5); clear hb5 SX4 SY4 SZ4 P4 T4))
      have TK : Hid True := trivial
      have HLY3 : Hid ((Nm.sld (Nm.smd Y x.2.2.2) x).ts.length ≤ 61) := by show _ ≤ _; rw [Nm.sld_ts]; have h1 := Nm.put_len (x := x.2.2.2) (l := Y.ts); have h2 := HLY.out.2.1; show (Nm.put x.2.2.2 Y.ts).length ≤ 61; omega
      go_upto_region 14 with (fail)
      go_region_held3 (fun y => y.cell? ⟨tb, tf + k * 4, none⟩ = some (.int .i64 x.1) ∧ y.cell? ⟨tb, tf + k * 4 + 1, none⟩ = some (.int .i64 x.2.1) ∧ y.cell? ⟨tb, tf + k * 4 + 2, none⟩ = some (.slice xh x.2.2.1.length xch) ∧ y.cell? ⟨tb, tf + k * 4 + 3, none⟩ = some (.slice xp x.2.2.2.length xcp))
        (exact (fun q => ⟨q.c0, q.c1, q.c2, q.c3⟩) (HFA.out _ (by first | exact Hid.out (by assumption) | exact B5.out.drew)))
        (first
          | (go_at_call 18; refine (same_any (Nm.sl X x) p1 p4 m1 m4 k1 k4 HM1.out HM4.out _ P5.out.drew.bat T5.out.drew.bat (by have := HSZ.out; omega)).mono ?_; rintro e6 w6 ⟨rfl, hb6⟩; have B6 : Hid (Below w.heap.size w w6) := B5.out.drew.trans (hb6.mono B5.out.size); have SX6 := Lib.hid (SX5.out.drew.old hb6); have SY6 := Lib.hid (SY5.out.drew.old hb6); have SZ6 := Lib.hid (SZ5.out.drew.old hb6); clear hb6 SX5 SY5 SZ5 P5 T5)
          | (go_at_call 22; have tk := TK.out; clear tk TK; refine (sum_any Z x.2.2.2 gz bz cz xp _ xcp rfl _ SZ6.out (HFA.out _ B6.out).bp (by have := HLY.out; omega)).mono ?_; rintro e7 w7 ⟨rfl, SZ7, o7⟩; rw [HA.out]; have B7 : Hid (Below w.heap.size w w7) := o7.below B6.out NE.out.1.2.2.2 B6.out.size; have SX7 := Lib.hid (SX6.out.only o7 NE.out.2.2.2.2.2.2.2.1.1 NE.out.2.2.2.2.2.2.2.1.2.1 NE.out.2.2.2.2.2.2.2.1.2.2); have SY7 := Lib.hid (SY6.out.only o7 NE.out.2.2.2.2.2.2.2.2.1 NE.out.2.2.2.2.2.2.2.2.2.1 NE.out.2.2.2.2.2.2.2.2.2.2); clear o7 SX6 SY6 SZ6)
          | (go_at_call 22; refine (sum_any (Nm.sld (Nm.smd Y x.2.2.2) x) x.2.2.2 gy yb cy xp _ xcp rfl _ SY7.out (HFA.out _ B7.out).bp (by have := HLY3.out; omega)).mono ?_; rintro e8 w8 ⟨rfl, SY8, o8⟩; rw [E5.out, HA.out]; have B8 : Hid (Below w.heap.size w w8) := o8.below B7.out NE.out.1.2.2.1 B7.out.size; have SX8 := Lib.hid (SX7.out.only o8 NE.out.2.2.2.1.1 NE.out.2.2.2.1.2.1 NE.out.2.2.2.1.2.2); have SZ8 := Lib.hid (SZ7.out.only o8 NE.out.2.2.2.2.1.1 NE.out.2.2.2.2.1.2.1 NE.out.2.2.2.2.1.2.2); clear o8 SX7 SY7 SZ7))
      clear HEQ hng
      go_wp2
      refine ⟨⟨k + 1, by omega, by go_num, ?_, ?_, ?_, B8.out⟩, by simp [intOf]; omega⟩
      · show StAt _ _ _ _ _; rw [E1.out]; exact SX8.out
      · show StAt _ _ _ _ _; rw [← E2.out]; exact SY8.out
      · show StAt _ _ _ _ _; rw [← E3.out]; exact SZ8.out
    · obtain rfl : k = m := by omega
      clear hlt
      go_wp2_with (go_at_call 10; refine (works_any _).mono ?_; rintro e4 w4 ⟨rfl, hb4⟩; have B4 : Hid (Below w.heap.size w w4) := HB.out.trans (hb4.mono HB.out.size); clear hb4)
      go_ret
      exact ⟨rfl, B4.out⟩

set_option maxHeartbeats 1000000 in
set_option maxRecDepth 100000 in
theorem stays_long (tp pb : Option Addr) (m nb cap cb : Nat) (r : Bool) (hr : r = true ∨ 4096 < nb) (w : World) (hg : Calls Try.prog 25 #[.slice tp m cap] w (EqSay r w)) :
    Calls Try.prog 8 #[.slice tp m cap, .slice pb nb cb] w (YesSay w) := by
  have HG := Lib.hid hg; clear hg
  cases r with
  | true =>
    go_enter Try.func8, Try.ntmps8
    go_wp2_with (first
      | (go_at_call 25; refine HG.out.mono ?_; rintro e1 w1 ⟨rfl, hb1⟩)
      | (go_at_call 10; refine (works_any _).mono ?_; rintro e4 w4 ⟨rfl, hb4⟩))
    go_ret
    exact ⟨rfl, hb1.trans (hb4.mono hb1.size)⟩
  | false =>
    have h1 : (4096 : Int) < (nb : Int) := by
      rcases hr with hr | hr
      · cases hr
      · omega
    go_enter Try.func8, Try.ntmps8
    go_wp2_with (first
      | (go_at_call 25; refine HG.out.mono ?_; rintro e1 w1 ⟨rfl, hb1⟩)
      | (go_at_call 10; refine (works_any _).mono ?_; rintro e4 w4 ⟨rfl, hb4⟩))
    go_ret
    exact ⟨rfl, hb1.trans (hb4.mono hb1.size)⟩
/-- NamesStays is true. -/
theorem stays_any (L : List Nm.Four) (b : List Int) (tp pb : Option Addr) (cap cb : Nat) (w : World) (hr : FRows w tp L) (hbb : Bs w pb cb b) :
    Calls Try.prog 8 #[.slice tp L.length cap, .slice pb b.length cb] w (YesSay w) := by
  have hg := great_eq L tp L.length cap rfl w hr
  by_cases hl : grt L = true ∨ 4096 < b.length
  · exact stays_long tp pb _ _ cap cb (grt L) hl w hg
  · have h0 : grt L = false := by cases q : grt L with
      | true => exact absurd (Or.inl q) hl
      | false => rfl
    rw [h0] at hg
    exact stays_small L b tp pb _ _ cap cb rfl rfl (grt_small h0) (by omega) w hr hbb hg
end Go.Proofs.Ytdmnlooghamngaa

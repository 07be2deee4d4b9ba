/-
  The law DiskPlays walked.
-/
import Derived.Test.YtdkkoffmffallaaDkY4
namespace Go.Proofs.Ytdkkoffmffallaa
open Go.RowKit

namespace Dk
/-- An act: its kind, its number, its bytes, its fates. -/
structure Act where
  K : Int
  I : Int
  D : List Int
  F : List Int
end Dk
structure ActAt (y : World) (ab o : Nat) (x : Dk.Act) (pd : Option Addr) (cd : Nat) (pf : Option Addr) (cf : Nat) : Prop where
  c0 : y.cell? ⟨ab, o, none⟩ = some (.int .i64 x.K)
  c1 : y.cell? ⟨ab, o + 1, none⟩ = some (.int .i64 x.I)
  c2 : y.cell? ⟨ab, o + 2, none⟩ = some (.slice pd x.D.length cd)
  c3 : y.cell? ⟨ab, o + 3, none⟩ = some (.slice pf x.F.length cf)
  bd : Bs y pd cd x.D
  bf : IAt y pf x.F
  wi : In64 x.I
def ARows (y : World) (tp : Option Addr) (L : List Dk.Act) : Prop := 0 < L.length → ∃ ab ao, tp = some ⟨ab, ao, none⟩ ∧ ∀ (r : Nat) (x : Dk.Act), L[r]? = some x → ∃ pd cd pf cf, ActAt y ab (ao + r * 4) x pd cd pf cf
theorem Bth.make {w q0 q1 q2 : World} {d lb rb cb r qb N : Nat} (h0 : Below w.heap.size w q0) (hd : DkAt q1 (fun g => q0.heap.size ≤ g ∧ g < q1.heap.size) d lb rb cb (Dk.fresh N)) (h1 : Below q0.heap.size q0 q1) (hr : RfAt q2 (fun g => q1.heap.size ≤ g ∧ g < q2.heap.size) r qb (Dk.fresh N)) (h2 : Below q1.heap.size q1 q2) :
    Bth w q2 (fun g => q0.heap.size ≤ g ∧ g < q1.heap.size) d lb rb cb (Dk.fresh N) (fun g => q1.heap.size ≤ g ∧ g < q2.heap.size) r qb (Dk.fresh N) :=
  ⟨(Sit.new hd h1 h0).next h2, hr, fun g hg => Nat.le_trans h0.size (Nat.le_trans h1.size hg.1), fun g hg hu => by have := hg.2; have := hu.1; omega⟩
set_option maxHeartbeats 4000000 in
set_option maxRecDepth 100000 in
theorem plays_any (n : Int) (L : List Dk.Act) (tp : Option Addr) (cap : Nat) (_hn : In64 n) (w : World) (hr : ARows w tp L) :
    Calls Try.prog 3 #[.int .i64 n, .slice tp L.length cap] w (YesSay w) := by
  have HR := Lib.hid hr
  clear hr
  obtain ⟨J, HJ⟩ : ∃ J, Hid (pk n 40 = J) := ⟨_, rfl⟩
  have hJ : J < 40 := by rw [← HJ.out]; have := pk_lt n 40 (by omega); omega
  obtain ⟨N, hN⟩ : ∃ N : Nat, 1 + (J : Int) = (N : Int) := ⟨J + 1, by omega⟩
  have hN1 : 1 ≤ N := by omega
  have hN2 : N ≤ 4096 := by omega
  have HMN : Hid (Dk.may (N : Int) = true) := by show _ = _; unfold Dk.may; simp; omega
  obtain ⟨E, HE⟩ : ∃ E : Int, Hid ((∀ y, Calls Try.prog 9 #[.int .i64 n] y fun e w' => ∃ a, e = .returned (.tuple #[.pointer a, .int .i64 E]) ∧ Below y.heap.size y w') ∧ ∀ y, Calls Try.prog 10 #[.int .i64 n] y fun e w' => ∃ a, e = .returned (.tuple #[.pointer a, .int .i64 E]) ∧ Below y.heap.size y w') := by
    cases hm : Dk.may n with
    | true =>
      refine ⟨0, Lib.hid ⟨fun y => (disk_new n y).mono ?_, fun y => (ref_new n y).mono ?_⟩⟩
      · intro e w' h
        unfold NewSay at h
        rw [hm, if_pos rfl] at h
        obtain ⟨d, _, _, _, rfl, _, hb⟩ := h
        exact ⟨_, rfl, hb⟩
      · intro e w' h
        unfold RfNew at h
        rw [hm, if_pos rfl] at h
        obtain ⟨d, _, rfl, _, hb⟩ := h
        exact ⟨_, rfl, hb⟩
    | false =>
      refine ⟨7, Lib.hid ⟨fun y => (disk_new n y).mono ?_, fun y => (ref_new n y).mono ?_⟩⟩
      · intro e w' h
        unfold NewSay at h
        rw [hm, if_neg (by decide)] at h
        obtain ⟨rfl, rfl⟩ := h
        exact ⟨_, rfl, Below.refl _ _⟩
      · intro e w' h
        unfold RfNew at h
        rw [hm, if_neg (by decide)] at h
        obtain ⟨rfl, rfl⟩ := h
        exact ⟨_, rfl, Below.refl _ _⟩
  go_enter Try.func3, Try.ntmps3
  go_upto_region 6 with (first
    | (go_at_call 9; refine (HE.out.1 _).mono ?_; rintro e0 q0 ⟨a0, rfl, hb0⟩; have H0 : Hid (Below w.heap.size w q0) := hb0; clear hb0)
    | (go_at_call 10; refine (HE.out.2 _).mono ?_; rintro e1 q1 ⟨a1, rfl, hb1⟩; have H1 : Hid (Below w.heap.size w q1) := Lib.hid (H0.out.trans (hb1.mono H0.out.size)); clear hb1)
    | (go_at_call 11; refine (pick_at n 40 (by omega) (by omega) _).mono ?_; rw [HJ.out]; rintro ep qp ⟨rfl, rfl⟩))
  first | rw [hN] | skip
  go_upto_region 11 with (first
    | (go_at_call 9; refine (new4 N hN1 hN2 _).mono ?_; rintro e2 q2 ⟨d, lb, rb, cb, rfl, hd, hb2⟩; have HD := Lib.hid hd.out; have H2 := Lib.hid hb2; clear hd hb2)
    | (go_at_call 10; refine (refnew_yes N hN1 hN2 _).mono ?_; intro e3 q3 hh3; unfold RfNew at hh3; rw [HMN.out, if_pos rfl, Int.toNat_natCast] at hh3; obtain ⟨r, qb, rfl, hr3, hb3⟩ := hh3; have H3 := Lib.hid (Bth.make H1.out HD.out H2.out hr3.out hb3); clear hr3 hb3))
  go_loopw [13] (fun v13 wr => ∃ (i : Nat) (m : Dk.M) (T U : Nat → Prop), i ≤ L.length ∧ i ≤ 100 ∧ v13 = .int .i64 i ∧ Hid (m.n = N ∧ m.wr ≤ i ∧ ∀ j, m.rd j ≤ 2 * i) ∧ Hid (Bth w wr T d lb rb cb m U r qb m)) (fun v13 _ => 100 - (intOf v13).toNat)
  case atStart => exact ⟨0, _, _, _, by omega, by omega, rfl, Lib.hid ⟨rfl, Nat.le_refl _, fun j => Nat.le_refl _⟩, H3⟩
  case round =>
    clear H0 H1 H2 H3 HD HE
    obtain ⟨i, m, T, U, hi, hi1, rfl, HM, HS⟩ := hrel
    by_cases hlt : i < L.length ∧ i < 100
    · obtain ⟨x, hx⟩ : ∃ x, L[i]? = some x := ⟨_, List.getElem?_eq_getElem hlt.1⟩
      obtain ⟨tb, tf, rfl, hrow⟩ := HR.out (by omega)
      obtain ⟨pd, cd, pf, cf, ha⟩ := hrow i x hx
      have HA := Lib.hid ha
      have c0 := (HS.out.a.old.cell (World.block_lt_of_cell? _ _ ha.c0)).trans ha.c0
      have c1 := (HS.out.a.old.cell (World.block_lt_of_cell? _ _ ha.c1)).trans ha.c1
      have c2 := (HS.out.a.old.cell (World.block_lt_of_cell? _ _ ha.c2)).trans ha.c2
      have c3 := (HS.out.a.old.cell (World.block_lt_of_cell? _ _ ha.c3)).trans ha.c3
      clear hrow hx ha
      have hi0 : (0 : Int) ≤ (i : Int) := by omega
      have hil : (i : Int) < (L.length : Int) := by omega
      have hi100 : (i : Int) < 100 := by omega
      by_cases h1 : (2000 : Int) < (x.D.length : Int)
      · go_wp2_with (go_at_call 12; refine (known_any _).mono ?_; rintro ek qk ⟨rfl, hbk⟩; have HK := Lib.hid (HS.out.a.next hbk).old; clear hbk)
        go_ret
        exact ⟨rfl, HK.out⟩
      · by_cases h2 : (200 : Int) < (x.F.length : Int)
        · have h1' : (x.D.length : Int) ≤ 2000 := by omega
          go_wp2_with (go_at_call 12; refine (known_any _).mono ?_; rintro ek qk ⟨rfl, hbk⟩; have HK := Lib.hid (HS.out.a.next hbk).old; clear hbk)
          go_ret
          exact ⟨rfl, HK.out⟩
        · have h1' : (x.D.length : Int) ≤ 2000 := by omega
          have h2' : (x.F.length : Int) ≤ 200 := by omega
          go_wp2_with (first
            | (go_at_call 13; refine (does_any x.K x.I x.D x.F pd pf cd cf _ HS.out HA.out.wi (fun y hy => HA.out.bd.old hy) (fun y hy => HA.out.bf.old hy) (by omega) (by omega) (fun j => by have := HM.out.2.2 j; omega) (by have := HM.out.2.1; omega)).mono ?_; rintro e5 w5 ⟨rfl, T5, U5, m5, HS5, HM5⟩)
            | (go_at_call 14; refine (alike_any _ HS5.out (fun j => by have := HM5.out.2.2 j; have := HM.out.2.2 j; omega) (by have := HM5.out.2.1; have := HM.out.2.1; omega)).mono ?_; rintro e6 w6 ⟨rfl, m6, HS6, HM6⟩))
          exact ⟨⟨i + 1, m6, _, _, by omega, by omega, by go_num, Lib.hid ⟨HM6.out.1.trans (HM5.out.1.trans HM.out.1), by have := HM6.out.2.1; have := HM5.out.2.1; have := HM.out.2.1; omega, fun j => by have := HM6.out.2.2 j; have := HM5.out.2.2 j; have := HM.out.2.2 j; omega⟩, HS6⟩, by simp [intOf]; omega⟩
    · have hstop : ((i : Int) < (L.length : Int) → (100 : Int) ≤ (i : Int)) := by omega
      clear hlt
      by_cases hcase : (i : Int) < (L.length : Int)
      · have h100 := hstop hcase
        clear hstop
        go_wp2_with (go_at_call 12; refine (known_any _).mono ?_; rintro ek qk ⟨rfl, hbk⟩; have HK := Lib.hid (HS.out.a.next hbk).old; clear hbk)
        go_ret
        exact ⟨rfl, HK.out⟩
      · clear hstop
        go_wp2_with (go_at_call 12; refine (known_any _).mono ?_; rintro ek qk ⟨rfl, hbk⟩; have HK := Lib.hid (HS.out.a.next hbk).old; clear hbk)
        go_ret
        exact ⟨rfl, HK.out⟩
end Go.Proofs.Ytdkkoffmffallaa

/-
  UsageRuns walked.
-/
import Derived.Test.YtnnalemboeccbaaUsR0
namespace Go.Proofs.Ytnnalemboeccbaa
open Go.RowKit

section
variable {x w : World} {b d : Nat} {v u : Value} {T U : List Us.S}
theorem bo_open (h : Bo x w b v T d u U) : Calls Try.prog 12 #[.pointer (some ⟨b, 0, none⟩)] w (BoS x b v T d u U (.int .i64 (Us.open_ T))) :=
  (open_any w h.p.at_ h.p.inv.len).mono fun _ _ ⟨h1, h2⟩ => ⟨h1, Lib.hid (h.next h2)⟩
theorem bo_ropen (hl : U.length ≤ 32) (h : Bo x w b v T d u U) : Calls Try.prog 13 #[.pointer (some ⟨d, 0, none⟩)] w (BoS x b v T d u U (.int .i64 (Us.open_ U))) :=
  (ropen_any w h.r hl).mono fun _ _ ⟨h1, h2⟩ => ⟨h1, Lib.hid (h.next h2)⟩
theorem bo_count (k : Int) (h : Bo x w b v T d u U) : Calls Try.prog 18 #[.pointer (some ⟨b, 0, none⟩), .int .i64 k] w (BoS x b v T d u U (.int .i64 ((Us.ix k T).length : Int))) :=
  (count_any k w h.p.at_ h.p.inv.len).mono fun _ _ ⟨h1, h2⟩ => ⟨h1, Lib.hid (h.next h2)⟩
theorem bo_rcount (k : Int) (hl : U.length ≤ 32) (h : Bo x w b v T d u U) : Calls Try.prog 19 #[.pointer (some ⟨d, 0, none⟩), .int .i64 k] w (BoS x b v T d u U (.int .i64 ((Us.ix k U).length : Int))) :=
  (rcount_any k w h.r hl).mono fun _ _ ⟨h1, h2⟩ => ⟨h1, Lib.hid (h.next h2)⟩
/-- Rows told, in new memory. -/
def BoSn (x : World) (b : Nat) (v : Value) (T : List Us.S) (d : Nat) (u : Value) (U L : List Us.S) (w : World) (e : Ending) (w' : World) : Prop :=
  ∃ p c, e = .returned (.slice p L.length c) ∧ Hid (Bo x w' b v T d u U) ∧ Hid (SgO w.heap.size w' (.slice p L.length c) L) ∧ Hid (Below w.heap.size w w')
theorem bo_segs (h : Bo x w b v T d u U) : Calls Try.prog 14 #[.pointer (some ⟨b, 0, none⟩)] w (BoSn x b v T d u U T w) :=
  (segs_any w h.p.at_ h.p.inv.len).mono fun _ _ ⟨s, h1, h2, h3⟩ => by
    obtain ⟨p, c, rfl⟩ := h2.out.len
    exact ⟨p, c, h1, Lib.hid (h.next h3.out), h2, h3⟩
theorem bo_rsegs (hl : U.length ≤ 32) (h : Bo x w b v T d u U) : Calls Try.prog 16 #[.pointer (some ⟨d, 0, none⟩)] w (BoSn x b v T d u U U w) :=
  (rsegs_any w h.r hl).mono fun _ _ ⟨s, h1, h2, h3⟩ => by
    obtain ⟨p, c, rfl⟩ := h2.out.len
    exact ⟨p, c, h1, Lib.hid (h.next h3.out), h2, h3⟩
/-- What was told, written over. -/
theorem bo_spoil {B : Nat} {s : Value} {L : List Us.S} (h : Bo x w b v T d u U) (hs : SgO B w s L) (hl : L.length ≤ 1000) (hB : x.heap.size ≤ B) (h1 : ∀ g, v.ownBlock = some g → g < B) (h2 : ∀ g, u.ownBlock = some g → g < B) :
    Calls Try.prog 17 #[s] w (BoS x b v T d u U (.tuple #[])) :=
  (spoil_any w hs hl).mono fun _ _ ⟨e1, hn⟩ => ⟨e1, Lib.hid (h.far hn (off_box hs h.p.at_.box tne) (off_box hs h.r.box tne2) (fun g q k => by have := (hs.blk k).1; have := h1 g q; omega) (fun g q k => by have := (hs.blk k).1; have := h2 g q; omega) (fun g q => Nat.le_trans hB (hs.blk q).1))⟩
end
theorem bo_new (n : Int) (x w : World) (b : Nat) (v : Value) (h : Tp x w b v (Us.new n)) : Calls Try.prog 10 #[.int .i64 n] w fun e w' => ∃ d u, e = .returned (.pointer (some ⟨d, 0, none⟩)) ∧ Hid (Bo x w' b v (Us.new n) d u (Us.new n)) :=
  (rnew_any n w).mono fun _ _ ⟨d, u, h1, h2, h3⟩ => ⟨d, u, h1, Lib.hid ⟨h.next h3.out, ⟨h2.out.box, h2.out.own.mono h.old.size, Nat.le_trans h.old.size h2.out.lo⟩, fun g q k => by
    have := (h2.out.own.blk k).1
    obtain ⟨_, cur, hc⟩ := h.at_.own.blk q
    have := lt_of_block hc
    omega⟩⟩
set_option maxHeartbeats 8000000 in
set_option maxRecDepth 100000 in
theorem runs_any (n : Int) (L : List Us.O) (p : Option Addr) (m c : Nat) (hm : L.length = m) (w : World) (hp : OpS w p L) : Calls Try.prog 3 #[.int .i64 n, .slice p m c] w (YesSay w) := by
  have HW : Hid (∀ y, Calls Try.prog 8 #[] y (YesSay y)) := fun y => works_any y
  have HP : Hid (∀ y, Below w.heap.size w y → OpS y p L) := fun y hy => hp.old hy
  have HM := Lib.hid hm
  clear hp hm
  by_cases h300 : 300 < m
  · have h300' : (m : Int) > 300 := by omega
    clear h300
    go_enter Try.func3, Try.ntmps3
    go_wp2_with (go_at_call 8; refine (HW.out _).mono ?_; rintro e1 w1 ⟨rfl, hb1⟩)
    go_ret
    exact ⟨rfl, hb1⟩
  have h300' : ¬ (m : Int) > 300 := by omega
  clear h300
  go_enter Try.func3, Try.ntmps3
  go_wp2_with (first
    | (go_at_call 9; refine (tp_new n w w (Below.refl _ _)).mono ?_; rintro e0 w0 ⟨b, v, rfl, H0⟩)
    | (go_at_call 10; refine (bo_new n w _ b v H0.out).mono ?_; rintro e1 w1 ⟨d, u, rfl, H1⟩; clear H0))
  go_loopw [7, 8, 9] (fun v7 _ _ wr => ∃ (i : Nat) (T : List Us.S), i ≤ m ∧ v7 = .int .i64 i ∧ Hid (Bo w wr b v T d u T)) (fun v7 _ _ _ => m - (intOf v7).toNat)
  case atStart => exact ⟨0, _, Nat.zero_le _, rfl, H1⟩
  case round =>
    as_aux_lemma =>
      clear H1
      obtain ⟨i, T, hi, rfl, HS⟩ := hrel
      by_cases hlt : i < m
      · obtain ⟨o, ho⟩ : ∃ o, L.getD i Us.o0 = o := ⟨_, rfl⟩
        obtain ⟨ab, ao, rfl, hcl⟩ := HP.out _ HS.out.p.old (by rw [HM.out]; omega)
        have HR : Hid (wr.rangeAt ab (ao + i * 7) (OpA o).toList) := by
          have := hcl i (by rw [HM.out]; exact hlt)
          rw [ho] at this
          exact this
        clear hcl ho
        have hi0 : (0 : Int) ≤ (i : Int) := by omega
        have hil : (i : Int) < (m : Int) := by omega
        have HI2 : Hid (Us.Inv (Us.dT T o)) := HS.out.p.inv.does o
        have HBO : Hid (∀ y, Bo w y b v T d u T → Calls Try.prog 11 #[.pointer (some ⟨b, 0, none⟩), .pointer (some ⟨d, 0, none⟩), .agg (OpA o)] y (BoS w b v (Us.dT T o) d u (Us.dT T o) (.bool true))) := fun y h => both_any o y h
        have HOI := Lib.hid (op_info o)
        generalize Us.dT T o = U at *
        generalize OpA o = X at *
        obtain ⟨l, hl⟩ : ∃ l, U.length = l := ⟨_, rfl⟩
        have HU := Lib.hid hl
        have HU32 : Hid (U.length ≤ 32) := HI2.out.len
        have HO1 : Hid (∀ y, Bo w y b v U d u U → Calls Try.prog 12 #[.pointer (some ⟨b, 0, none⟩)] y (BoS w b v U d u U (.int .i64 (Us.open_ U)))) := fun y h => bo_open h
        have HO2 : Hid (∀ y, Bo w y b v U d u U → Calls Try.prog 13 #[.pointer (some ⟨d, 0, none⟩)] y (BoS w b v U d u U (.int .i64 (Us.open_ U)))) := fun y h => bo_ropen HU32.out h
        have HG1 : Hid (∀ y, Bo w y b v U d u U → Calls Try.prog 14 #[.pointer (some ⟨b, 0, none⟩)] y (BoSn w b v U d u U U y)) := fun y h => bo_segs h
        have HG2 : Hid (∀ y, Bo w y b v U d u U → Calls Try.prog 16 #[.pointer (some ⟨d, 0, none⟩)] y (BoSn w b v U d u U U y)) := fun y h => bo_rsegs HU32.out h
        unfold BoSn at HG1 HG2
        rw [hl] at HG1 HG2
        clear hl
        generalize Us.open_ U = oo at *
        go_upto_region 16 with (first
          | ((with_reducible refine rng_load _ _ _ _ _ _ ?_ HR.out Try.underlying32 ?_ HOI.out ?_); (exact rfl); (exact rfl))
          | (go_at_call 11; refine (HBO.out _ HS.out).mono ?_; rintro e2 w2 ⟨rfl, H2⟩)
          | (go_at_call 12; refine (HO1.out _ H2.out).mono ?_; rintro e3 w3 ⟨rfl, H3⟩)
          | (go_at_call 13; refine (HO2.out _ H3.out).mono ?_; rintro e4 w4 ⟨rfl, H4⟩)
          | (go_at_call 14; refine (HG1.out _ H4.out).mono ?_; rintro e5 w5 ⟨p5, c5, rfl, H5, S5, B5⟩)
          | (go_at_call 16; refine (HG2.out _ H5.out).mono ?_; rintro e6 w6 ⟨p6, c6, rfl, H6, S6, B6⟩)
          | (go_at_call 15; have HSA : Calls Try.prog 15 #[.slice p5 l c5, .slice p6 l c6] w6 (BoSay true w6) := (by have h9 := sames_any U U _ _ p5 p6 l l c5 c6 HU.out HU.out (by have := HU32.out; have := HU.out; omega) w6 (S5.out.old B6.out) S6.out; rw [decide_eq_true rfl] at h9; exact h9); refine HSA.mono ?_; rintro e7 w7 ⟨rfl, hb7⟩; have H7 := Lib.hid (H6.out.next hb7); have S7 := Lib.hid ((S5.out.old B6.out).old hb7))
          | (go_at_call 17; refine (bo_spoil H7.out S7.out (by have := HU32.out; omega) H4.out.p.old.size (fun g q => by obtain ⟨_, cur, hc⟩ := H4.out.p.at_.own.blk q; exact lt_of_block hc) (fun g q => by obtain ⟨_, cur, hc⟩ := H4.out.r.own.blk q; exact lt_of_block hc)).mono ?_; rintro e8 w8 ⟨rfl, H8⟩))
        clear H2 H3 H4 H5 H6 H7 S5 S6 S7 B5 B6 HBO HO1 HO2 HG1 HG2 HR
        have HC1 : Hid (∀ y (k : Int), Bo w y b v U d u U → Calls Try.prog 18 #[.pointer (some ⟨b, 0, none⟩), .int .i64 k] y (BoS w b v U d u U (.int .i64 ((Us.ix k U).length : Int)))) := fun y k h => bo_count k h
        have HC2 : Hid (∀ y (k : Int), Bo w y b v U d u U → Calls Try.prog 19 #[.pointer (some ⟨d, 0, none⟩), .int .i64 k] y (BoS w b v U d u U (.int .i64 ((Us.ix k U).length : Int)))) := fun y k h => bo_rcount k HU32.out h
        go_wp2
        go_loopw [9] (fun v9 y => ∃ k : Int, -1 ≤ k ∧ k ≤ 5 ∧ v9 = .int .i64 k ∧ Hid (Bo w y b v U d u U)) (fun v9 _ => (5 - intOf v9).toNat)
        case atStart => exact ⟨-1, by omega, by omega, rfl, H8⟩
        case round =>
          clear H8
          obtain ⟨k, hk0, hk1, rfl, HS⟩ := hrel
          have HC1 := Lib.hid (fun y h => HC1.out y k h)
          have HC2 := Lib.hid (fun y h => HC2.out y k h)
          generalize (Us.ix k U).length = cn at *
          by_cases hk4 : k ≤ 4
          · go_wp2_with (first
              | (go_at_call 18; refine (HC1.out _ HS.out).mono ?_; rintro e3 w3 ⟨rfl, H3⟩)
              | (go_at_call 19; refine (HC2.out _ H3.out).mono ?_; rintro e4 w4 ⟨rfl, H4⟩))
            exact ⟨⟨k + 1, by omega, by omega, by go_num, H4⟩, by simp [intOf]; omega⟩
          · go_wp2
            exact ⟨⟨i + 1, U, by omega, by go_num, HS⟩, by simp [intOf]; omega⟩
      · have hge : (m : Int) ≤ (i : Int) := by omega
        obtain ⟨l, hl⟩ : ∃ l, T.length = l := ⟨_, rfl⟩
        have HU := Lib.hid hl
        have HU32 : Hid (T.length ≤ 32) := HS.out.p.inv.len
        have HG1 : Hid (∀ y, Bo w y b v T d u T → Calls Try.prog 14 #[.pointer (some ⟨b, 0, none⟩)] y (BoSn w b v T d u T T y)) := fun y h => bo_segs h
        have HG2 : Hid (∀ y, Bo w y b v T d u T → Calls Try.prog 16 #[.pointer (some ⟨d, 0, none⟩)] y (BoSn w b v T d u T T y)) := fun y h => bo_rsegs HU32.out h
        unfold BoSn at HG1 HG2
        rw [hl] at HG1 HG2
        clear hl
        go_wp2_with (first
          | (go_at_call 14; refine (HG1.out _ HS.out).mono ?_; rintro e5 w5 ⟨p5, c5, rfl, H5, S5, B5⟩)
          | (go_at_call 16; refine (HG2.out _ H5.out).mono ?_; rintro e6 w6 ⟨p6, c6, rfl, H6, S6, B6⟩)
          | (go_at_call 15; have HSA : Calls Try.prog 15 #[.slice p5 l c5, .slice p6 l c6] w6 (BoSay true w6) := (by have h9 := sames_any T T _ _ p5 p6 l l c5 c6 HU.out HU.out (by have := HU32.out; have := HU.out; omega) w6 (S5.out.old B6.out) S6.out; rw [decide_eq_true rfl] at h9; exact h9); refine HSA.mono ?_; rintro e7 w7 ⟨rfl, hb7⟩; have H7 := Lib.hid (H6.out.next hb7))
          | (go_at_call 8; refine (HW.out _).mono ?_; rintro e9 w9 ⟨rfl, hb9⟩))
        go_ret
        exact ⟨rfl, H7.out.p.old.trans (hb9.mono H7.out.p.old.size)⟩
end Go.Proofs.Ytnnalemboeccbaa

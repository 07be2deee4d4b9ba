/-
  A counter and its disk in a law; works.
-/
import Derived.Test.YtglfjjmbadffmaaCoB
namespace Go.Proofs.Ytglfjjmbadffmaa
open Go.RowKit

/-- A disk that a law plays with: x: the world in which the law began. -/
def Sd (x y : World) (d : Nat) (m : Dk.M) : Prop := ∃ T lb rb cb, Sit x y T d lb rb cb m
/-- .. and a counter on it. -/
def Cs (x y : World) (d c : Nat) (m : Dk.M) (v : Int) : Prop := ∃ T lb rb cb, Sit x y T d lb rb cb m ∧ CnAt y c d v ∧ x.heap.size ≤ c ∧ ¬ T c
section
variable {x y z : World} {d c : Nat} {m m' : Dk.M} {v v' : Int}
theorem Sd.next (h : Sd x y d m) (hb : Below y.heap.size y z) : Sd x z d m := by
  obtain ⟨T, lb, rb, cb, h⟩ := h
  exact ⟨T, lb, rb, cb, h.next hb⟩
theorem Sd.old (h : Sd x y d m) : Below x.heap.size x y := by
  obtain ⟨T, lb, rb, cb, h⟩ := h
  exact h.old
theorem Cs.next (h : Cs x y d c m v) (hb : Below y.heap.size y z) : Cs x z d c m v := by
  obtain ⟨T, lb, rb, cb, h1, h2, h3, h4⟩ := h
  exact ⟨T, lb, rb, cb, h1.next hb, h2.old hb, h3, h4⟩
theorem Cs.old (h : Cs x y d c m v) : Below x.heap.size x y := by
  obtain ⟨T, lb, rb, cb, h1, _⟩ := h
  exact h1.old
theorem Cs.drew (h : Cs x y d c m v) : Cs x y.drew d c m v := h.next (Below.refl _ _).drew
theorem sit_off {T : Nat → Prop} {lb rb cb : Nat} (h : Sit x y T d lb rb cb m) (hc : ¬ T c) : c ∉ [d, lb, rb, cb] := fun hm => by
  simp at hm
  rcases hm with rfl | rfl | rfl | rfl
  · exact hc h.dk.lt.1
  · exact hc h.dk.lt.2.1
  · exact hc h.dk.lt.2.2.1
  · exact hc h.dk.lt.2.2.2
end
/-- What a call says: an answer, and what holds then. -/
def Say (v : Value) (P : World → Prop) (e : Ending) (w' : World) : Prop := e = .returned v ∧ Hid (P w')
theorem sd_new (n : Nat) (h1 : 1 ≤ n) (h2 : n ≤ 4096) (x w : World) (hb : Below x.heap.size x w) : Calls Try.prog 10 #[.int .i64 (n : Int)] w fun e w' => ∃ d, e = .returned (.tuple #[.pointer (some ⟨d, 0, none⟩), .int .i64 0]) ∧ Hid (Sd x w' d (Dk.fresh n)) := by
  refine (new4 n h1 h2 w).mono ?_
  rintro e w' ⟨d, lb, rb, cb, rfl, hd, hw⟩
  exact ⟨d, rfl, Lib.hid ⟨_, lb, rb, cb, Sit.new hd.out hw hb⟩⟩
section
variable {x w : World} {d c : Nat} {m : Dk.M} {v : Int}
theorem cs_new (h : Sd x w d m) : Calls Try.prog 12 #[.pointer (some ⟨d, 0, none⟩)] w fun e w' => ∃ c, e = .returned (.pointer (some ⟨c, 0, none⟩)) ∧ Hid (Cs x w' d c m 0) := by
  refine (cnew_any d w).mono ?_
  rintro e w' ⟨rfl, h1, h2⟩
  obtain ⟨T, lb, rb, cb, h⟩ := h
  exact ⟨_, rfl, Lib.hid ⟨T, lb, rb, cb, h.next h2.out, h1.out, h.old.size, fun ht => by have := h.dk.top _ ht; omega⟩⟩
theorem cs_raise (q : Int) (h : Cs x w d c m v) : Calls Try.prog 23 #[.pointer (some ⟨c, 0, none⟩), .int .i64 q] w (Say (.int .i64 (Cn.rE m v q)) fun y => Cs x y d c (Cn.rM m v q) (Cn.rV m v q)) := by
  obtain ⟨T, lb, rb, cb, h1, h2, h3, h4⟩ := h
  refine (raise_any q w h1.dk h2 h4).mono ?_
  rintro e w' ⟨rfl, g1, g2, g3⟩
  refine ⟨rfl, Lib.hid ⟨T, lb, rb, cb, ⟨g1.out, g3.out.below h1.old (fun k hk => ?_) h1.old.size, h1.base⟩, g2.out, h3, h4⟩⟩
  simp at hk
  rcases hk with rfl | rfl
  · exact h1.base _ h1.dk.lt.1
  · exact h3
theorem cs_value (h : Cs x w d c m v) : Calls Try.prog 15 #[.pointer (some ⟨c, 0, none⟩)] w fun e w' => e = .returned (.int .i64 v) ∧ w' = w := by
  obtain ⟨T, lb, rb, cb, h1, h2, h3, h4⟩ := h
  exact value_any w h2
theorem cs_down (h : Cs x w d c m v) : Calls Try.prog 24 #[.pointer (some ⟨d, 0, none⟩)] w fun e w' => e = .returned (.bool m.down) ∧ w' = w := by
  obtain ⟨T, lb, rb, cb, h1, h2, h3, h4⟩ := h
  exact down_any w h1.dk
theorem cs_arm (n : Int) (hn : In64 n) (h : Cs x w d c m v) : Calls Try.prog 25 #[.pointer (some ⟨d, 0, none⟩), .int .i64 n] w (Say (.tuple #[]) fun y => Cs x y d c { m with left := n } v) := by
  obtain ⟨T, lb, rb, cb, h1, h2, h3, h4⟩ := h
  refine (arm_any n hn w h1.dk).mono ?_
  rintro e w' ⟨rfl, g1, g2⟩
  exact ⟨rfl, Lib.hid ⟨T, lb, rb, cb, h1.row g1.out g2, h2.mv g2 (fun hk => sit_off h1 h4 (by simp at hk ⊢; exact Or.inl hk)), h3, h4⟩⟩
theorem iat_nil (y : World) (p : Option Addr) : IAt y p [] := fun h => by simp at h
/-- What a Crash leaves that is told nothing. -/
def Cn.cra (m : Dk.M) : Dk.M := Dk.crash m (Dk.fate [])
theorem cs_crash (hw : m.wr ≤ 1000000000) (h : Cs x w d c m v) : Calls Try.prog 26 #[.pointer (some ⟨d, 0, none⟩), .slice none 0 0] w (Say (.tuple #[]) fun y => Cs x y d c (Cn.cra m) v) := by
  obtain ⟨T, lb, rb, cb, h1, h2, h3, h4⟩ := h
  refine (crash_any [] none 0 0 rfl w h1.dk hw (fun y _ => iat_nil y none)).mono ?_
  rintro e w' ⟨rfl, g1, g2⟩
  exact ⟨rfl, Lib.hid ⟨T, lb, rb, cb, h1.disk g1.out g2.out, h2.mv g2.out (sit_off h1 h4), h3, h4⟩⟩
theorem cs_sync (h : Cs x w d c m v) : Calls Try.prog 28 #[.pointer (some ⟨d, 0, none⟩)] w (Say (.int .i64 (Dk.spendE m)) fun y => Cs x y d c (Dk.syM m) v) := by
  obtain ⟨T, lb, rb, cb, h1, h2, h3, h4⟩ := h
  refine (sync_any w h1.dk).mono ?_
  rintro e w' ⟨rfl, g1, g2⟩
  exact ⟨rfl, Lib.hid ⟨T, lb, rb, cb, h1.disk g1.out g2.out, h2.mv g2.out (sit_off h1 h4), h3, h4⟩⟩
theorem cs_write (i : Int) (hw : m.wr ≤ 1000000000) (h : Cs x w d c m v) : Calls Try.prog 27 #[.pointer (some ⟨d, 0, none⟩), .int .i64 i, .slice none 0 0] w (Say (.int .i64 (Dk.wrE m i [])) fun y => Cs x y d c (Dk.wrM m i []) v) := by
  obtain ⟨T, lb, rb, cb, h1, h2, h3, h4⟩ := h
  refine (write_any i [] none 0 0 rfl (by omega) hw w h1.dk (bs_none _)).mono ?_
  rintro e w' ⟨rfl, g1, g2⟩
  refine ⟨rfl, Lib.hid ⟨_, lb, rb, cb, h1.write g1.out g2.out, h2.mv g2.out (sit_off h1 h4), h3, fun ht => ?_⟩⟩
  rcases ht with q | q
  · exact h4 q
  · have := h2.lt; omega
end
namespace Cn
theorem cra_n (m : Dk.M) : (cra m).n = m.n ∧ (cra m).wr = m.wr ∧ (cra m).left = -1 ∧ (cra m).down = false := ⟨(Dk.crk_n m _ _).1, (Dk.crk_n m _ _).2.2, rfl, rfl⟩
def w0 : Dk.M := Dk.fresh 4
def w1 : Dk.M := rM w0 0 5
def w2 : Dk.M := rM w1 5 5
def w3 : Dk.M := { w2 with left := 0 }
def w4 : Dk.M := rM w3 5 6
def w5 : Dk.M := cra w4
theorem wk1 : rE w0 0 5 = 0 ∧ rV w0 0 5 = 5 := ⟨rfl, rfl⟩
theorem wk2 : rE w1 5 5 = 8 ∧ rV w1 5 5 = 5 := ⟨rfl, rfl⟩
theorem wk4 : rE w3 5 6 = 12 ∧ rV w3 5 6 = 5 := ⟨rfl, rfl⟩
theorem wk4w : w4.wr ≤ 1000000000 := by
  have h : w4.wr = 0 := rfl
  omega
theorem wk6 : rE w5 5 6 = 0 := by
  obtain ⟨_, _, h3, h4⟩ := cra_n w4
  refine (rE_done rfl ?_).1
  unfold Dk.gone w5
  rw [h3, h4]
  rfl
theorem wkm : mk 2 3 = 2097155 ∧ lv 2097155 = 2 ∧ tr 2097155 = 3 := ⟨rfl, rfl, rfl⟩
end Cn
set_option maxHeartbeats 4000000 in
set_option maxRecDepth 100000 in
theorem works_any (w : World) : Calls Try.prog 9 #[] w (YesSay w) := by
  have K0 : ∀ y, Below w.heap.size w y → Calls Try.prog 10 #[.int .i64 4] y fun e w' => ∃ d, e = .returned (.tuple #[.pointer (some ⟨d, 0, none⟩), .int .i64 0]) ∧ Hid (Sd w w' d Cn.w0) := fun y hb => sd_new 4 (by omega) (by omega) w y hb
  have KN : ∀ y d, Sd w y d Cn.w0 → Calls Try.prog 12 #[.pointer (some ⟨d, 0, none⟩)] y fun e w' => ∃ c, e = .returned (.pointer (some ⟨c, 0, none⟩)) ∧ Hid (Cs w w' d c Cn.w0 0) := fun y d h => cs_new h
  have K1 : ∀ y d c, Cs w y d c Cn.w0 0 → Calls Try.prog 23 #[.pointer (some ⟨c, 0, none⟩), .int .i64 5] y (Say (.int .i64 0) fun y => Cs w y d c Cn.w1 5) := fun y d c h => by
    have q := cs_raise 5 h
    rw [Cn.wk1.1, Cn.wk1.2] at q
    exact q
  have K2 : ∀ y d c, Cs w y d c Cn.w1 5 → Calls Try.prog 23 #[.pointer (some ⟨c, 0, none⟩), .int .i64 5] y (Say (.int .i64 8) fun y => Cs w y d c Cn.w2 5) := fun y d c h => by
    have q := cs_raise 5 h
    rw [Cn.wk2.1, Cn.wk2.2] at q
    exact q
  have K3 : ∀ y d c, Cs w y d c Cn.w2 5 → Calls Try.prog 25 #[.pointer (some ⟨d, 0, none⟩), .int .i64 0] y (Say (.tuple #[]) fun y => Cs w y d c Cn.w3 5) := fun y d c h => cs_arm 0 (by unfold In64; omega) h
  have K4 : ∀ y d c, Cs w y d c Cn.w3 5 → Calls Try.prog 23 #[.pointer (some ⟨c, 0, none⟩), .int .i64 6] y (Say (.int .i64 12) fun y => Cs w y d c Cn.w4 5) := fun y d c h => by
    have q := cs_raise 6 h
    rw [Cn.wk4.1, Cn.wk4.2] at q
    exact q
  have K5 : ∀ y d c, Cs w y d c Cn.w4 5 → Calls Try.prog 26 #[.pointer (some ⟨d, 0, none⟩), .slice none 0 0] y (Say (.tuple #[]) fun y => Cs w y d c Cn.w5 5) := fun y d c h => cs_crash Cn.wk4w h
  have K6 : ∀ y d c, Cs w y d c Cn.w5 5 → Calls Try.prog 23 #[.pointer (some ⟨c, 0, none⟩), .int .i64 6] y (Say (.int .i64 0) fun y => Below w.heap.size w y) := fun y d c h => by
    have q := cs_raise 6 h
    rw [Cn.wk6] at q
    refine q.mono ?_
    rintro e w' ⟨rfl, g⟩
    exact ⟨rfl, Lib.hid g.out.old⟩
  have KV : ∀ y d c, Cs w y d c Cn.w5 5 → Calls Try.prog 15 #[.pointer (some ⟨c, 0, none⟩)] y fun e w' => e = .returned (.int .i64 5) ∧ w' = y := fun y d c h => cs_value h
  have KM : ∀ y, Calls Try.prog 17 #[.int .i64 2, .int .i64 3] y fun e w' => e = .returned (.int .i64 2097155) ∧ w' = y := fun y => by
    have q := make_any 2 3 y
    rw [Cn.wkm.1] at q
    exact q
  have KL : ∀ y, Calls Try.prog 19 #[.int .i64 2097155] y fun e w' => e = .returned (.int .i64 2) ∧ w' = y := fun y => by
    have q := level_any 2097155 (by unfold In64; omega) y
    rw [Cn.wkm.2.1] at q
    exact q
  have KT : ∀ y, Calls Try.prog 21 #[.int .i64 2097155] y fun e w' => e = .returned (.int .i64 3) ∧ w' = y := fun y => by
    have q := tries_any 2097155 (by unfold In64; omega) y
    rw [Cn.wkm.2.2] at q
    exact q
  go_enter Try.func9, Try.ntmps9
  go_wp2_with (first
    | (go_at_call 10; refine (K0 _ (Below.refl _ _)).mono ?_; rintro e1 w1 ⟨d, rfl, S0⟩)
    | (go_at_call 12; refine (KN _ _ S0.out).mono ?_; rintro e2 w2 ⟨c, rfl, S1⟩; clear S0)
    | (go_at_call 23; refine (K6 _ d _ S6.out).mono ?_; rintro e7 w7 ⟨rfl, B7⟩; clear S6)
    | (go_at_call 23; refine (K4 _ d _ S4.out).mono ?_; rintro e5 w5 ⟨rfl, S5⟩; clear S4)
    | (go_at_call 23; refine (K2 _ d _ S2.out).mono ?_; rintro e3 w3b ⟨rfl, S3⟩; clear S2)
    | (go_at_call 23; refine (K1 _ d _ S1.out).mono ?_; rintro e3 w3 ⟨rfl, S2⟩; clear S1)
    | (go_at_call 25; refine (K3 _ _ c S3.out).mono ?_; rintro e4 w4 ⟨rfl, S4⟩; clear S3)
    | (go_at_call 26; refine (K5 _ _ c S5.out).mono ?_; rintro e6 w6 ⟨rfl, S6⟩; clear S5)
    | (go_at_call 15; refine (KV _ d _ S6.out).mono ?_; rintro e8 w8 ⟨rfl, rfl⟩)
    | (go_at_call 17; refine (KM _).mono ?_; rintro e9 w9 ⟨rfl, rfl⟩)
    | (go_at_call 19; refine (KL _).mono ?_; rintro e9 w9 ⟨rfl, rfl⟩)
    | (go_at_call 21; refine (KT _).mono ?_; rintro e9 w9 ⟨rfl, rfl⟩))
  go_ret
  exact ⟨rfl, B7.out⟩
end Go.Proofs.Ytglfjjmbadffmaa

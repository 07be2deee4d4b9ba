/-
  crypt, works.
-/
import Derived.Test.YtdmnlooghamngaaNaU
namespace Go.Proofs.Ytdmnlooghamngaa
open Go.RowKit

set_option maxRecDepth 100000 in
theorem crypt_any (w : World) : Calls Try.prog 29 #[] w fun e w' => ∃ g b c, e = .returned (.iface 25 (.pointer (some ⟨g, 0, none⟩))) ∧ Hid (w.heap.size ≤ g ∧ w.heap.size ≤ b ∧ w.heap.size ≤ c) ∧ Hid (StAt w' g b c Nm.St.none) ∧ Below w.heap.size w w' := by
  go_enter Try.func29, Try.ntmps29
  go_wp2_with (go_at_call 11; refine (new_any _).mono ?_; rintro e1 w1 ⟨g, b, c, rfl, h1, h2, h3⟩)
  go_ret
  exact ⟨g, b, c, rfl, h1, h2, h3⟩

namespace Nm
/-- The chapter's example. -/
def x1 : Four := (1, 2, [7], [8, 9])
def s1 : St := sld St.none x1
theorem may1 : may x1 = true := by decide
theorem sl1 : sl St.none x1 = [8, 9] ++ tg 0 1 := by
  unfold sl
  rw [may1]
  rfl
theorem op1 : opn s1 1 2 [7] ([8, 9] ++ tg 0 1) = some [8, 9] := by
  unfold opn
  rw [if_neg (by rw [List.length_append, tg_len]; simp)]
  have h1 : ([8, 9] ++ tg 0 1).length - 32 = 2 := by rw [List.length_append, tg_len]; rfl
  rw [h1]
  have h2 : ([8, 9] ++ tg 0 1).take 2 = [8, 9] := rfl
  have h3 : ([8, 9] ++ tg 0 1).drop 2 = tg 0 1 := rfl
  rw [h2, h3]
  have h4 : place ((1, 2, [7], [8, 9]) : Four) s1.ss = 1 := by unfold s1 sld; rw [may1]; rfl
  rw [h4]
  exact if_pos ⟨by omega, rfl⟩
theorem op2 : opn s1 1 3 [7] ([8, 9] ++ tg 0 1) = none := by
  unfold opn
  rw [if_neg (by rw [List.length_append, tg_len]; simp)]
  have h1 : ([8, 9] ++ tg 0 1).length - 32 = 2 := by rw [List.length_append, tg_len]; rfl
  rw [h1]
  have h2 : ([8, 9] ++ tg 0 1).take 2 = [8, 9] := rfl
  rw [h2]
  have h4 : place ((1, 3, [7], [8, 9]) : Four) s1.ss = 0 := by unfold s1 sld; rw [may1]; rfl
  rw [h4]
  exact if_neg (fun q => q.1 rfl)
theorem sm1 : sm s1 [] = tg 1 1 := by unfold sm s1 sld; rw [may1]; rfl
theorem sm2 : sm (smd s1 []) [] = tg 1 1 := by unfold sm smd s1 sld; rw [may1]; rfl
theorem sm2b : sm (smd (smd s1 []) []) [] = tg 1 1 := by unfold sm smd s1 sld; rw [may1]; rfl
theorem sm3 : sm (smd (smd (smd s1 []) []) []) [5] = tg 1 2 := by unfold sm smd s1 sld; rw [may1]; rfl
end Nm
set_option maxRecDepth 100000 in
theorem meth_seal (v : Value) (w : World) : (method 196 25 v "Seal").run Try.prog w = .ok (16, v) w := by kernel_rfl
set_option maxRecDepth 100000 in
theorem meth_open (v : Value) (w : World) : (method 196 25 v "Open").run Try.prog w = .ok (20, v) w := by kernel_rfl
set_option maxRecDepth 100000 in
theorem meth_sum (v : Value) (w : World) : (method 196 25 v "Sum").run Try.prog w = .ok (22, v) w := by kernel_rfl
theorem byt7 : Sha.Byt [7] := fun x hx => by simp at hx; omega
theorem byt89 : Sha.Byt [8, 9] := fun x hx => by simp at hx; omega
theorem byt5 : Sha.Byt [5] := fun x hx => by simp at hx; omega
def lit7 : Obj := .cells #[.int .u8 7] 5
def lit89 : Obj := .cells #[.int .u8 8, .int .u8 9] 5
def lit5 : Obj := .cells #[.int .u8 5] 5
theorem bs7 (y : World) : Bs (y.alloc lit7) (some ⟨y.heap.size, 0, none⟩) 1 [7] := lit_one y [7] 1 (0, 0) rfl (by omega) byt7
theorem bs89 (y : World) : Bs (y.alloc lit89) (some ⟨y.heap.size, 0, none⟩) 2 [8, 9] := lit_one y [8, 9] 2 (0, 0) rfl (by omega) byt89
theorem bs5 (y : World) : Bs (y.alloc lit5) (some ⟨y.heap.size, 0, none⟩) 1 [5] := lit_one y [5] 1 (0, 0) rfl (by omega) byt5
theorem seal_x1 (y : World) (g b c : Nat) (hs : StAt y g b c Nm.St.none) :
    Calls Try.prog 16 #[.pointer (some ⟨g, 0, none⟩), .int .i64 1, .int .i64 2, .slice (some ⟨y.heap.size, 0, none⟩) 1 1, .slice (some ⟨y.heap.size + 1, 0, none⟩) 2 2] ((y.alloc lit7).alloc lit89)
      fun e y' => ∃ p k, e = .returned (.slice p 34 k) ∧ Hid (Bs y' p k ([8, 9] ++ Nm.tg 0 1)) ∧ Hid (StAt y' g b c Nm.s1) ∧ Only b y y' := by
  have hb := below_two y lit7 lit89
  have h2 := bs89 (y.alloc lit7)
  rw [show (y.alloc lit7).heap.size = y.heap.size + 1 by simp] at h2
  refine (seal_any Nm.St.none Nm.x1 g b c _ _ 1 2 1 2 rfl rfl (by omega) _ (hs.old hb) ((bs7 y).old ((Below.refl _ _).alloc (Nat.le_refl _) _)) h2 (by decide)).mono ?_
  rintro e y' ⟨p, k, m, rfl, hm, _, h4, h5, h6⟩
  rw [Nm.sl_len, Nm.may1] at hm
  obtain rfl : 34 = m := hm
  have h4' := h4.out
  rw [Nm.sl1] at h4'
  exact ⟨p, k, rfl, h4', h5, (only_of_below hb).trans h6⟩
theorem open_x1 (y : World) (g b c : Nat) (p : Option Addr) (k : Nat) (hs : StAt y g b c Nm.s1) (hp : Bs y p k ([8, 9] ++ Nm.tg 0 1)) :
    Calls Try.prog 20 #[.pointer (some ⟨g, 0, none⟩), .int .i64 1, .int .i64 2, .slice (some ⟨y.heap.size, 0, none⟩) 1 1, .slice p 34 k] (y.alloc lit7)
      fun e y' => ∃ q d, e = .returned (.tuple #[.slice q 2 d, .bool true]) ∧ Hid (Bs y' q d [8, 9]) ∧ Below y.heap.size y y' := by
  have hb : Below y.heap.size y (y.alloc lit7) := (Below.refl _ _).alloc (Nat.le_refl _) _
  refine (open_any Nm.s1 1 2 [7] ([8, 9] ++ Nm.tg 0 1) g b c _ p 1 34 1 k rfl (by rw [List.length_append, Nm.tg_len]; rfl) (by omega) (by unfold Nm.In64; omega) (by unfold Nm.In64; omega) _ (hs.old hb) (bs7 y) (hp.old hb)).mono ?_
  rw [Nm.op1]
  rintro e y' ⟨q, d, m, rfl, hm, _, h4, h5⟩
  obtain rfl : 2 = m := hm
  exact ⟨q, d, rfl, h4, hb.trans (h5.mono hb.size)⟩
theorem open_x2 (y : World) (g b c : Nat) (p : Option Addr) (k : Nat) (hs : StAt y g b c Nm.s1) (hp : Bs y p k ([8, 9] ++ Nm.tg 0 1)) :
    Calls Try.prog 20 #[.pointer (some ⟨g, 0, none⟩), .int .i64 1, .int .i64 3, .slice (some ⟨y.heap.size, 0, none⟩) 1 1, .slice p 34 k] (y.alloc lit7)
      fun e y' => ∃ q d m, e = .returned (.tuple #[.slice q m d, .bool false]) ∧ Below y.heap.size y y' := by
  have hb : Below y.heap.size y (y.alloc lit7) := (Below.refl _ _).alloc (Nat.le_refl _) _
  refine (open_any Nm.s1 1 3 [7] ([8, 9] ++ Nm.tg 0 1) g b c _ p 1 34 1 k rfl (by rw [List.length_append, Nm.tg_len]; rfl) (by omega) (by unfold Nm.In64; omega) (by unfold Nm.In64; omega) _ (hs.old hb) (bs7 y) (hp.old hb)).mono ?_
  rw [Nm.op2]
  rintro e y' ⟨q, d, m, rfl, hm, _, h4, h5⟩
  exact ⟨q, d, m, rfl, hb.trans (h5.mono hb.size)⟩
set_option maxHeartbeats 4000000 in
set_option maxRecDepth 100000 in
theorem works_any (w : World) : Calls Try.prog 10 #[] w (YesSay w) := by
  have ms := meth_seal
  have mo := meth_open
  have mu := meth_sum
  have hng := Try.noGuard
  obtain ⟨A, HA⟩ : ∃ A : Array Value, Hid (A = ((Nm.tg 1 1).map (Value.int .u8)).toArray) := ⟨_, rfl⟩
  obtain ⟨B, HB⟩ : ∃ A : Array Value, Hid (A = ((Nm.tg 1 2).map (Value.int .u8)).toArray) := ⟨_, rfl⟩
  have HAV : Hid (A32 (Nm.tg 1 1) = .agg A) := by show _ = _; rw [HA.out]; rfl
  have HBV : Hid (A32 (Nm.tg 1 2) = .agg B) := by show _ = _; rw [HB.out]; rfl
  have HE1 : ∀ w, (Op.equalIn 10000 42 (.agg A) (.agg A)).run Try.prog w = .ok true w := fun w => by
    have h := sums_eq (Nm.tg 1 1) (Nm.tg 1 1) (Nm.tg_len _ _) (Nm.tg_len _ _) w
    rw [decide_eq_true rfl, ← HA.out] at h
    exact h
  have HE2 : ∀ w, (Op.equalIn 10000 42 (.agg A) (.agg B)).run Try.prog w = .ok false w := fun w => by
    have h := sums_eq (Nm.tg 1 1) (Nm.tg 1 2) (Nm.tg_len _ _) (Nm.tg_len _ _) w
    rw [decide_eq_false (fun e => by have := Nm.tg_inj 1 1 2 (by omega) (by omega) e; omega), ← HA.out, ← HB.out] at h
    exact h
  go_enter Try.func10, Try.ntmps10
  go_wp2_with (first
    | (go_at_call 29; refine (crypt_any _).mono ?_; rintro e1 w1 ⟨g, b, c, rfl, L1, S1, hb1⟩; have B1 := Lib.hid hb1; clear hb1)
    | (go_at_call 16; refine (seal_x1 w1 g b c S1.out).mono ?_; rintro e2 w2 ⟨p, k, rfl, P2, S2, o2⟩; have B2 : Hid (Below w.heap.size w w2) := o2.below B1.out L1.out.2.1 B1.out.size; clear o2 S1)
    | (go_at_call 20; refine (open_x2 w3 g b c p k S3.out P3.out).mono ?_; rintro e4 w4 ⟨q4, d4, m4, rfl, hb4⟩; have B4 : Hid (Below w.heap.size w w4) := B3.out.trans (hb4.mono B3.out.size); have S4 := Lib.hid (S3.out.old hb4); have Q4 := Lib.hid (Q3.out.old hb4); clear hb4 S3 P3 Q3)
    | (go_at_call 20; refine (open_x1 w2 g b c p k S2.out P2.out).mono ?_; rintro e3 w3 ⟨q3, d3, rfl, Q3, hb3⟩; have B3 : Hid (Below w.heap.size w w3) := B2.out.trans (hb3.mono B2.out.size); have S3 := Lib.hid (S2.out.old hb3); have P3 := Lib.hid (P2.out.old hb3); clear hb3 S2 P2)
    | (go_at_call 18; refine (same_any [8, 9] q3 _ 2 2 d3 2 rfl rfl _ (Q4.out.old ((Below.refl _ _).alloc (Nat.le_refl _) lit89)).bat (bs89 w4).bat (by decide)).mono ?_; rintro e5 w5 ⟨rfl, hb5⟩; have hb6 : Below w4.heap.size w4 w5 := ((Below.refl _ _).alloc (Nat.le_refl _) lit89).trans (hb5.mono (by simp)); have B5 : Hid (Below w.heap.size w w5) := B4.out.trans (hb6.mono B4.out.size); have S5 := Lib.hid (S4.out.old hb6); clear hb5 hb6 S4 Q4)
    | (go_at_call 22; refine (sum_any (Nm.smd (Nm.smd (Nm.smd Nm.s1 []) []) []) [5] g b c _ 1 1 rfl _ (S8.out.old ((Below.refl _ _).alloc (Nat.le_refl _) lit5)) (bs5 w8) (by decide)).mono ?_; rintro e9 w9 ⟨rfl, S9, o9⟩; rw [Nm.sm3, HBV.out]; have B9 : Hid (Below w.heap.size w w9) := o9.below (B8.out.alloc B8.out.size _) L1.out.2.2 (by have := B8.out.size; simp; omega); clear o9)
    | (go_at_call 22; refine (sum_any (Nm.smd (Nm.smd Nm.s1 []) []) [] g b c none 0 0 rfl _ S7.out (bs_none _) (by decide)).mono ?_; rintro e8 w8 ⟨rfl, S8, o8⟩; rw [Nm.sm2b, HAV.out]; have B8 : Hid (Below w.heap.size w w8) := o8.below B7.out L1.out.2.2 B7.out.size; clear o8)
    | (go_at_call 22; refine (sum_any (Nm.smd Nm.s1 []) [] g b c none 0 0 rfl _ S6.out (bs_none _) (by decide)).mono ?_; rintro e7 w7 ⟨rfl, S7, o7⟩; rw [Nm.sm2, HAV.out]; have B7 : Hid (Below w.heap.size w w7) := o7.below B6.out L1.out.2.2 B6.out.size; clear o7)
    | (go_at_call 22; refine (sum_any Nm.s1 [] g b c none 0 0 rfl _ S5.out (bs_none _) (by decide)).mono ?_; rintro e6 w6 ⟨rfl, S6, o6⟩; rw [Nm.sm1, HAV.out]; have B6 : Hid (Below w.heap.size w w6) := o6.below B5.out L1.out.2.2 B5.out.size; clear o6))
  go_ret
  exact ⟨rfl, B9.out⟩
end Go.Proofs.Ytdmnlooghamngaa

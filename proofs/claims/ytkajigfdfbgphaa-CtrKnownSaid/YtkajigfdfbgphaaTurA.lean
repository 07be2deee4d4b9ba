/-
  Contracts of the reference's bytes: Twice, Times, inverse, S.
-/
import Derived.Test.YtkajigfdfbgphaaAesB
namespace Go.Proofs.Ytkajigfdfbgphaa
open Go.RowKit
namespace Aes
theorem tb_cases : ∀ x, x < 256 → (if 128 ≤ x then (x * 2 % 256) ^^^ 27 else x * 2 % 256) = tb x := by decide +kernel
/-- The product of two bytes, as the reference goes: f rounds still to go, k gone. -/
def tmF (a : Nat) : Nat → Nat → Nat → Nat → Nat
  | 0, _, p, _ => p
  | f + 1, k, p, b => tmF a f (k + 1) (if a / 2 ^ k % 2 = 1 then p ^^^ b else p) (tb b)
def tm (a b : Nat) : Nat := tmF a 8 0 0 b
def invF (b : Nat) : Nat → Nat → Nat
  | 0, _ => 0
  | f + 1, x => if tm x b = 1 then x else invF b f (x + 1)
def inv (b : Nat) : Nat := invF b 255 1
theorem tm_two : ∀ x, x < 256 → tm 2 x = tb x := by decide +kernel
theorem tm_three : ∀ x, x < 256 → tm 3 x = tb x ^^^ x := by decide +kernel
attribute [irreducible] tmF tm invF inv
end Aes

set_option maxHeartbeats 400000 in
set_option maxRecDepth 100000 in
theorem twice_ref (x : Nat) (hx : x < 256) (w : World) :
    Calls Try.prog 28 #[.int .u8 x] w fun e w' => e = .returned (.int .u8 (Aes.tb x)) ∧ w' = w := by
  have HC := Lib.hid (Aes.tb_cases x hx)
  generalize Aes.tb x = R at *
  have e27 : bits .xor .u8 ((x : Int) * 2 % 256) 27 = ((x * 2 % 256 ^^^ 27 : Nat) : Int) := Aes.xor_u8 (x * 2 % 256) 27 (by omega) (by omega)
  go_enter Try.func28, Try.ntmps28
  by_cases h : 128 ≤ x
  · have HE : Hid (((x * 2 % 256 ^^^ 27 : Nat) : Int) = (R : Int)) := by
      have := HC.out
      rw [if_pos h] at this
      show _ = _
      rw [this]
    clear HC
    go_wp2
    go_ret
    exact ⟨by rw [← HE.out]; rfl, rfl⟩
  · have HE : Hid ((x : Int) * 2 = (R : Int)) := by
      have := HC.out
      rw [if_neg h] at this
      show _ = _
      rw [← this]
      omega
    clear HC e27
    go_wp2
    go_ret
    exact ⟨by rw [← HE.out]; rfl, rfl⟩

theorem tmod_nat (a k : Nat) : ((a : Int) / 2 ^ k).tmod 2 = ((a / 2 ^ k % 2 : Nat) : Int) := by
  have e : (a : Int) / 2 ^ k = ((a / 2 ^ k : Nat) : Int) := by push_cast; rfl
  rw [e, Int.tmod_eq_emod_of_nonneg (Int.natCast_nonneg _)]
  omega
theorem tmod_hit (a k : Nat) (h : a / 2 ^ k % 2 = 1) : (((a : Int) / 2 ^ k).tmod 2 == 1) = true := by rw [tmod_nat, h]; rfl
theorem tmod_miss (a k : Nat) (h : ¬ a / 2 ^ k % 2 = 1) : (((a : Int) / 2 ^ k).tmod 2 == 1) = false := by
  rw [tmod_nat, show a / 2 ^ k % 2 = 0 by omega]; rfl
set_option maxHeartbeats 400000 in
set_option maxRecDepth 100000 in
theorem times_ref (a b : Nat) (hb : b < 256) (w : World) :
    Calls Try.prog 49 #[.int .u8 a, .int .u8 b] w fun e w' => e = .returned (.int .u8 (Aes.tm a b)) ∧ w' = w := by
  have HR : Hid (Aes.tm a b = Aes.tmF a 8 0 0 b) := by show _ = _; unfold Aes.tm; rfl
  generalize Aes.tm a b = R at *
  go_enter Try.func49, Try.ntmps49
  go_wp2
  go_loop [1, 5, 6] (fun vb vp vi => ∃ (f k p y : Nat), vb = .int .u8 y ∧ vp = .int .u8 p ∧ vi = .int .i64 k ∧ y < 256 ∧ p < 256 ∧ Hid (k + f = 8) ∧ Hid (R = Aes.tmF a f k p y)) (fun _ _ vi => 8 - (intOf vi).toNat)
  case atStart => exact ⟨8, 0, 0, b, rfl, rfl, rfl, hb, by omega, (by show _ = _; rfl), HR.out⟩
  case round =>
    obtain ⟨f, k, p, y, rfl, rfl, rfl, hy, hp, Hf, HQ⟩ := hrel
    clear HR hb
    by_cases h0 : k < 8
    · obtain ⟨f', rfl⟩ : ∃ f', f = f' + 1 := ⟨f - 1, by have := Hf.out; omega⟩
      have HQ2 : Hid (R = Aes.tmF a f' (k + 1) (if a / 2 ^ k % 2 = 1 then p ^^^ y else p) (Aes.tb y)) := by
        have h := HQ.out
        rw [Aes.tmF] at h
        exact h
      have Hf2 : Hid (k + 1 + f' = 8) := by have := Hf.out; show _ = _; omega
      have HT := Lib.hid (Aes.tb_lt y hy)
      have HX := Lib.hid (Aes.x8 hp hy)
      have HE := Lib.hid (Aes.xor_u8 p y hp hy)
      clear HQ Hf
      by_cases h1 : a / 2 ^ k % 2 = 1
      · have HQ3 : Hid (R = Aes.tmF a f' (k + 1) (p ^^^ y) (Aes.tb y)) := by have h := HQ2.out; rw [if_pos h1] at h; exact h
        clear HQ2
        have h1' := tmod_hit a k h1
        go_wp2_with (go_at_call 28; refine (twice_ref _ hy _).mono ?_; rintro e w' ⟨rfl, rfl⟩)
        exact ⟨⟨f', k + 1, p ^^^ y, Aes.tb y, rfl, by rw [HE.out], by go_num, HT.out, HX.out, Hf2, HQ3⟩, by simp [intOf]; omega⟩
      · have HQ3 : Hid (R = Aes.tmF a f' (k + 1) p (Aes.tb y)) := by have h := HQ2.out; rw [if_neg h1] at h; exact h
        clear HQ2
        have h1' := tmod_miss a k h1
        go_wp2_with (go_at_call 28; refine (twice_ref _ hy _).mono ?_; rintro e w' ⟨rfl, rfl⟩)
        exact ⟨⟨f', k + 1, p, Aes.tb y, rfl, rfl, by go_num, HT.out, hp, Hf2, HQ3⟩, by simp [intOf]; omega⟩
    · have E : Hid (R = p) := by
        have h := HQ.out
        have h2 := Hf.out
        show _ = _
        rw [h, show f = 0 by omega, Aes.tmF]
      have h8 : (k : Int) = 8 := by have := Hf.out; omega
      clear HQ Hf
      go_wp2
      go_ret
      exact ⟨by rw [E.out]; rfl, rfl⟩

set_option maxHeartbeats 400000 in
set_option maxRecDepth 100000 in
theorem inverse_ref (b : Nat) (hb : b < 256) (w : World) :
    Calls Try.prog 56 #[.int .u8 b] w fun e w' => e = .returned (.int .u8 (Aes.inv b)) ∧ w' = w := by
  have HR : Hid (Aes.inv b = Aes.invF b 255 1) := by show _ = _; unfold Aes.inv; rfl
  generalize Aes.inv b = R at *
  go_enter Try.func56, Try.ntmps56
  go_wp2
  go_loop [3] (fun vx => ∃ (f x : Nat), vx = .int .i64 x ∧ Hid (x + f = 256) ∧ Hid (1 ≤ x) ∧ Hid (R = Aes.invF b f x)) (fun vx => 256 - (intOf vx).toNat)
  case atStart => exact ⟨255, 1, rfl, (by show _ = _; rfl), Nat.le_refl _, HR.out⟩
  case round =>
    obtain ⟨f, x, rfl, Hf, H1, HQ⟩ := hrel
    clear HR
    by_cases h0 : x < 256
    · obtain ⟨f', rfl⟩ : ∃ f', f = f' + 1 := ⟨f - 1, by have := Hf.out; omega⟩
      have HQ2 : Hid (R = if Aes.tm x b = 1 then x else Aes.invF b f' (x + 1)) := by
        have h := HQ.out
        rw [Aes.invF] at h
        exact h
      have Hf2 : Hid (x + 1 + f' = 256) := by have := Hf.out; show _ = _; omega
      have hm : (x : Int) % 256 = x := by omega
      clear HQ Hf
      by_cases h1 : Aes.tm x b = 1
      · have HQ3 : Hid (R = x) := by have h := HQ2.out; rw [if_pos h1] at h; exact h
        clear HQ2
        go_wp2_with (go_at_call 49; refine (times_ref _ _ hb _).mono ?_; rintro e w' ⟨rfl, rfl⟩)
        go_ret
        exact ⟨by rw [HQ3.out]; rfl, rfl⟩
      · have HQ3 : Hid (R = Aes.invF b f' (x + 1)) := by have h := HQ2.out; rw [if_neg h1] at h; exact h
        clear HQ2
        go_wp2_with (go_at_call 49; refine (times_ref _ _ hb _).mono ?_; rintro e w' ⟨rfl, rfl⟩)
        exact ⟨⟨f', x + 1, by go_num, Hf2, (by show _ ≤ _; omega), HQ3⟩, by simp [intOf]; omega⟩
    · have E : Hid (R = 0) := by
        have h := HQ.out
        have h2 := Hf.out
        show _ = _
        rw [h, show f = 0 by omega, Aes.invF]
      have h8 : (x : Int) = 256 := by have := Hf.out; omega
      clear HQ Hf
      go_wp2
      go_ret
      exact ⟨by rw [E.out]; rfl, rfl⟩

set_option maxHeartbeats 400000 in
set_option maxRecDepth 100000 in
theorem S_ref (b : Nat) (hb : b < 256) (w : World) :
    Calls Try.prog 47 #[.int .u8 b] w fun e w' => e = .returned (.int .u8 (Aes.sb (Aes.inv b))) ∧ w' = w := by
  generalize hx : Aes.inv b = x
  have HX := Lib.hid hx; clear hx
  have HR : Hid (Aes.sb x = Aes.sbk x 4) := by show _ = _; unfold Aes.sb; rfl
  generalize Aes.sb x = R at *
  go_enter Try.func47, Try.ntmps47
  go_wp2_with (go_at_call 56; refine (inverse_ref _ hb _).mono ?_; rw [HX.out]; rintro e w' ⟨rfl, rfl⟩)
  go_loop [4, 5] (fun vs vn => ∃ (k : Nat) (s : Int), k ≤ 4 ∧ vn = .int .u64 ((k : Int) + 1) ∧ vs = .int .u8 s ∧ Hid (s = Aes.sbk x k)) (fun _ vn => 5 - (intOf vn).toNat)
  case atStart => exact ⟨0, _, by omega, rfl, rfl, (by show _ = _; rfl)⟩
  case round =>
    obtain ⟨k, s, hk, rfl, rfl, HS⟩ := hrel
    by_cases hlt : k < 4
    · have HQ : Hid (bits .xor .u8 s (Aes.rl8 ((k : Int) + 1) x) = Aes.sbk x (k + 1)) := by show _ = _; rw [HS.out]; rfl
      clear HS
      go_wp2
      refine ⟨⟨k + 1, _, by omega, by go_num, rfl, ?_⟩, by simp [intOf]; omega⟩
      show _ = _
      rw [← HQ.out]
      unfold Aes.rl8
      rw [show ((k : Int) + 1).toNat = k + 1 by omega, show (8 - ((k : Int) + 1)).toNat = 7 - k by omega]
    · have E : Hid (R = s) := by
        have h := HS.out
        show _ = _
        rw [h, HR.out, show k = 4 by omega]
      have hge : (k : Int) = 4 := by omega
      clear hlt HS HR
      go_wp2
      go_ret
      exact ⟨by rw [E.out]; rfl, rfl⟩
end Go.Proofs.Ytkajigfdfbgphaa

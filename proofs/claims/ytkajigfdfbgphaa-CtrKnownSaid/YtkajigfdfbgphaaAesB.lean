/-
  Contracts: bits.RotateLeft8, aes.product, aes.substitute, aes.substitutes.
-/
import Derived.Test.YtkajigfdfbgphaaAesA
import Derived.Deep.WholeRow
namespace Go.Proofs.Ytkajigfdfbgphaa
open Go.RowKit

set_option maxHeartbeats 400000 in
theorem rol8_any (x n : Int) (h : n = 1 ∨ n = 2 ∨ n = 3 ∨ n = 4) (w : World) :
    Calls Try.prog 54 #[.int .u8 x, .int .i64 n] w fun e w' => e = .returned (.int .u8 (Aes.rl8 n x)) ∧ w' = w := by
  have h1 : bits .and .u64 1 7 = 1 := by decide +kernel
  have h2 : bits .and .u64 2 7 = 2 := by decide +kernel
  have h3 : bits .and .u64 3 7 = 3 := by decide +kernel
  have h4 : bits .and .u64 4 7 = 4 := by decide +kernel
  rcases h with rfl | rfl | rfl | rfl
  all_goals
    go_enter Try.func54, Try.ntmps54
    go_wp2
    go_ret
    refine ⟨?_, rfl⟩
    unfold Aes.rl8
    rfl

set_option maxHeartbeats 400000 in
theorem product_any (a b : Int) (ha : 0 ≤ a ∧ a ≤ 255) (hb : 0 ≤ b ∧ b ≤ 255) (w : World) :
    Calls Try.prog 43 #[.int .u8 a, .int .u8 b] w fun e w' => e = .returned (.int .u8 (Aes.pr a b)) ∧ w' = w := by
  have HR : Hid (Aes.pr a b = Aes.prF 8 0 a b) := by show _ = _; unfold Aes.pr; rfl
  generalize Aes.pr a b = R at *
  go_enter Try.func43, Try.ntmps43
  go_wp2
  go_loop [0, 1, 5] (fun va vb vp => ∃ (f : Nat) (x y p : Int), va = .int .u8 x ∧ vb = .int .u8 y ∧ vp = .int .u8 p ∧ 0 ≤ x ∧ x ≤ 255 ∧ 0 ≤ y ∧ Hid (y < 2 ^ f) ∧ Hid (f ≤ 8) ∧ Hid (R = Aes.prF f p x y)) (fun _ vb _ => (intOf vb).toNat)
  case atStart => exact ⟨8, a, b, 0, rfl, rfl, rfl, ha.1, ha.2, hb.1, (by show _ < _; omega), Nat.le_refl _, HR.out⟩
  case round =>
    obtain ⟨f, x, y, p, rfl, rfl, rfl, hx0, hx1, hy0, Hf, Hf8, HQ⟩ := hrel
    clear HR ha hb
    by_cases h0 : 0 < y
    · obtain ⟨f', rfl⟩ : ∃ f', f = f' + 1 := by
        cases f with
        | zero => have := Hf.out; simp at this; omega
        | succ f' => exact ⟨f', rfl⟩
      have HQ2 : Hid (R = Aes.prF f' (if 0 < bits .and .u8 y 1 then bits .xor .u8 p x else p) (Aes.tw x % 256) (y / 2)) := by
        have h := HQ.out
        rw [Aes.prF, if_pos h0] at h
        exact h
      have Hf2 : Hid (y / 2 < 2 ^ f') := by
        have h := Hf.out
        show _ < _
        rw [Int.pow_succ] at h
        omega
      have Hf3 : Hid (f' ≤ 8) := by have := Hf8.out; show _ ≤ _; omega
      clear HQ Hf Hf8
      by_cases h1 : 0 < bits .and .u8 y 1
      · have HQ3 : Hid (R = Aes.prF f' (bits .xor .u8 p x) (Aes.tw x % 256) (y / 2)) := by have h := HQ2.out; rw [if_pos h1] at h; exact h
        clear HQ2
        go_wp2_with (go_at_call 55; refine (twice_any _ _).mono ?_; rintro e w' ⟨rfl, rfl⟩)
        exact ⟨⟨f', Aes.tw x % 256, y / 2, bits .xor .u8 p x, rfl, rfl, rfl, by omega, by omega, by omega, Hf2, Hf3, HQ3⟩, by simp [intOf]; omega⟩
      · have HQ3 : Hid (R = Aes.prF f' p (Aes.tw x % 256) (y / 2)) := by have h := HQ2.out; rw [if_neg h1] at h; exact h
        clear HQ2
        go_wp2_with (go_at_call 55; refine (twice_any _ _).mono ?_; rintro e w' ⟨rfl, rfl⟩)
        exact ⟨⟨f', Aes.tw x % 256, y / 2, p, rfl, rfl, rfl, by omega, by omega, by omega, Hf2, Hf3, HQ3⟩, by simp [intOf]; omega⟩
    · have E : Hid (R = p) := by
        have h := HQ.out
        show _ = _
        cases f with
        | zero => rw [h]; rfl
        | succ f' => rw [h, Aes.prF, if_neg h0]
      clear HQ Hf Hf8
      go_wp2
      go_ret
      exact ⟨by rw [E.out]; rfl, rfl⟩

set_option maxHeartbeats 400000 in
theorem substitute_any (x : Int) (w : World) :
    Calls Try.prog 42 #[.int .u8 x] w fun e w' => e = .returned (.int .u8 (Aes.sb x)) ∧ w' = w := by
  have HR : Hid (Aes.sb x = Aes.sbk x 4) := by show _ = _; unfold Aes.sb; rfl
  generalize Aes.sb x = R at *
  go_enter Try.func42, Try.ntmps42
  go_wp2
  go_loop [3, 7] (fun vs vn => ∃ (k : Nat) (s : Int), k ≤ 4 ∧ vn = .int .i64 k ∧ vs = .int .u8 s ∧ Hid (s = Aes.sbk x k)) (fun _ vn => 4 - (intOf vn).toNat)
  case atStart => exact ⟨0, _, by omega, rfl, rfl, (by show _ = _; rfl)⟩
  case round =>
    obtain ⟨k, s, hk, rfl, rfl, HS⟩ := hrel
    by_cases hlt : k < 4
    · have hn : ((k : Int) + 1 = 1 ∨ (k : Int) + 1 = 2 ∨ (k : Int) + 1 = 3 ∨ (k : Int) + 1 = 4) := by omega
      have HN := Lib.hid hn; clear hn
      go_wp2_with (go_at_call 54; refine (rol8_any _ _ HN.out _).mono ?_; rintro e w' ⟨rfl, rfl⟩)
      exact ⟨⟨k + 1, _, by omega, by go_num, rfl, (by show _ = _; rw [HS.out]; rfl)⟩, by simp [intOf]; omega⟩
    · have E : Hid (R = s) := by
        have h := HS.out
        show _ = _
        rw [h, HR.out, show k = 4 by omega]
      have hge : 4 ≤ k := by omega
      clear hlt HS HR
      go_wp2
      go_ret
      exact ⟨by rw [E.out]; rfl, rfl⟩
end Go.Proofs.Ytkajigfdfbgphaa

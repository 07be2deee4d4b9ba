/-
  rilllaw03.AesKnown walked.
-/
import Derived.Test.YtjidkkehhglahaaAesX
namespace Go.Proofs.Ytjidkkehhglahaa
open Go.RowKit

set_option maxHeartbeats 4000000 in
set_option maxRecDepth 100000 in
theorem aesknown_any (w : World) : Calls Try.prog 5 #[] w (YesSay w) := by
  obtain ⟨PL0, A16, KB16, KC16, HK16, _⟩ := kit_of 4 (by omega) _ rfl Aes.kn16
  obtain ⟨PL1, A24, KB24, KC24, HK24, HEQ24'⟩ := kit_of 6 (by omega) _ rfl Aes.kn24
  obtain ⟨PL2, A32, KB32, KC32, HK32, HEQ32'⟩ := kit_of 8 (by omega) _ rfl Aes.kn32
  have HEQ24 : ∀ w, (Op.equalIn 10000 35 (.agg A24) (.agg #[.int .u8 221, .int .u8 169, .int .u8 124, .int .u8 164, .int .u8 134, .int .u8 76, .int .u8 223, .int .u8 224, .int .u8 110, .int .u8 175, .int .u8 112, .int .u8 160, .int .u8 236, .int .u8 13, .int .u8 113, .int .u8 145])).run Try.prog w = .ok true w := HEQ24'
  have HEQ32 : ∀ w, (Op.equalIn 10000 35 (.agg A32) (.agg #[.int .u8 142, .int .u8 162, .int .u8 183, .int .u8 202, .int .u8 81, .int .u8 103, .int .u8 69, .int .u8 191, .int .u8 234, .int .u8 252, .int .u8 73, .int .u8 144, .int .u8 75, .int .u8 73, .int .u8 96, .int .u8 137])).run Try.prog w = .ok true w := HEQ32'
  clear HEQ24' HEQ32'
  have C16 : Hid (∀ w, Calls Try.prog 15 #[.int .i64 16] w fun e w' => ∃ g, e = .returned (.slice (some ⟨g, 0, none⟩) 16 16) ∧ Hid (KB16 w' g) ∧ Hid (Below w.heap.size w w')) := HK16.out.cnt
  have N16 : Hid (∀ g w, KB16 w g → Calls Try.prog 9 #[.slice (some ⟨g, 0, none⟩) 16 16] w fun e w' => ∃ c, e = .returned (.tuple #[.pointer (some ⟨c, 0, none⟩), .int .i64 0]) ∧ Hid (KC16 w' c) ∧ Hid (Below w.heap.size w w')) := HK16.out.new
  have C24 : Hid (∀ w, Calls Try.prog 15 #[.int .i64 24] w fun e w' => ∃ g, e = .returned (.slice (some ⟨g, 0, none⟩) 24 24) ∧ Hid (KB24 w' g) ∧ Hid (Below w.heap.size w w')) := HK24.out.cnt
  have N24 : Hid (∀ g w, KB24 w g → Calls Try.prog 9 #[.slice (some ⟨g, 0, none⟩) 24 24] w fun e w' => ∃ c, e = .returned (.tuple #[.pointer (some ⟨c, 0, none⟩), .int .i64 0]) ∧ Hid (KC24 w' c) ∧ Hid (Below w.heap.size w w')) := HK24.out.new
  have C32 : Hid (∀ w, Calls Try.prog 15 #[.int .i64 32] w fun e w' => ∃ g, e = .returned (.slice (some ⟨g, 0, none⟩) 32 32) ∧ Hid (KB32 w' g) ∧ Hid (Below w.heap.size w w')) := HK32.out.cnt
  have N32 : Hid (∀ g w, KB32 w g → Calls Try.prog 9 #[.slice (some ⟨g, 0, none⟩) 32 32] w fun e w' => ∃ c, e = .returned (.tuple #[.pointer (some ⟨c, 0, none⟩), .int .i64 0]) ∧ Hid (KC32 w' c) ∧ Hid (Below w.heap.size w w')) := HK32.out.new
  have hng := Try.noGuard
  go_enter Try.func5, Try.ntmps5
  go_wp2
  go_loopw [1] (fun v wr => ∃ k : Nat, k ≤ 40 ∧ v = .int .i64 k ∧ Hid (Below w.heap.size w wr)) (fun v _ => 40 - (intOf v).toNat)
  case atStart => exact ⟨0, by omega, rfl, Below.refl _ _⟩
  case round =>
    obtain ⟨k, hk, rfl, R0⟩ := hrel
    by_cases hlt : k < 40
    · by_cases h16 : k = 16
      · subst h16
        clear hk hlt
        go_wp2_with (first
          | (go_at_call 15; have R := R0.out; refine (C16.out _).mono ?_; rintro e w1 ⟨g, rfl, HB, HQ⟩; have R1 : Hid (Below w.heap.size w w1) := R.trans (HQ.out.mono R.size); clear R0 HQ R)
          | (go_at_call 9; have R := R1.out; refine (N16.out _ _ HB.out).mono ?_; rintro e w2 ⟨c, rfl, HC, HQ⟩; have R2 : Hid (Below w.heap.size w w2) := R.trans (HQ.out.mono R.size); clear R1 HQ R))
        exact ⟨⟨17, by omega, rfl, R2.out⟩, by simp [intOf]⟩
      · by_cases h24 : k = 24
        · subst h24
          clear hk hlt h16
          go_wp2_with (first
            | (go_at_call 15; have R := R0.out; refine (C24.out _).mono ?_; rintro e w1 ⟨g, rfl, HB, HQ⟩; have R1 : Hid (Below w.heap.size w w1) := R.trans (HQ.out.mono R.size); clear R0 HQ R)
            | (go_at_call 9; have R := R1.out; refine (N24.out _ _ HB.out).mono ?_; rintro e w2 ⟨c, rfl, HC, HQ⟩; have R2 : Hid (Below w.heap.size w w2) := R.trans (HQ.out.mono R.size); clear R1 HQ R))
          exact ⟨⟨25, by omega, rfl, R2.out⟩, by simp [intOf]⟩
        · by_cases h32 : k = 32
          · subst h32
            clear hk hlt h16 h24
            go_wp2_with (first
              | (go_at_call 15; have R := R0.out; refine (C32.out _).mono ?_; rintro e w1 ⟨g, rfl, HB, HQ⟩; have R1 : Hid (Below w.heap.size w w1) := R.trans (HQ.out.mono R.size); clear R0 HQ R)
              | (go_at_call 9; have R := R1.out; refine (N32.out _ _ HB.out).mono ?_; rintro e w2 ⟨c, rfl, HC, HQ⟩; have R2 : Hid (Below w.heap.size w w2) := R.trans (HQ.out.mono R.size); clear R1 HQ R))
            exact ⟨⟨33, by omega, rfl, R2.out⟩, by simp [intOf]⟩
          · have CK : Hid (∀ w, Calls Try.prog 15 #[.int .i64 k] w fun e w' => ∃ g, e = .returned (.slice (some ⟨g, 0, none⟩) k k) ∧ Hid (Below w.heap.size w w')) := fun w => (count_any k (by omega) w).mono fun e w' hh => by
              obtain ⟨g, h1, _, h3⟩ := hh
              exact ⟨g, h1, h3⟩
            have NK : Hid (∀ g w, Calls Try.prog 9 #[.slice (some ⟨g, 0, none⟩) k k] w fun e w' => e = .returned (.tuple #[.pointer none, .int .i64 1]) ∧ w' = w) := fun g w => new_bad _ k k h16 h24 h32 w
            have e1 : ((k : Int) == 16) = false := by simp; omega
            have e2 : ((k : Int) == 24) = false := by simp; omega
            have e3 : ((k : Int) == 32) = false := by simp; omega
            have f1 : ¬ (k : Int) = 16 := by omega
            have f2 : ¬ (k : Int) = 24 := by omega
            have f3 : ¬ (k : Int) = 32 := by omega
            go_wp2_with (first
              | (go_at_call 15; have R := R0.out; refine (CK.out _).mono ?_; rintro e w1 ⟨g, rfl, HQ⟩; have R1 : Hid (Below w.heap.size w w1) := R.trans (HQ.out.mono R.size); clear R0 HQ R)
              | (go_at_call 9; have R := R1.out; refine (NK.out _ _).mono ?_; rintro e w2 ⟨rfl, rfl⟩; have R2 := R1; clear R))
            exact ⟨⟨k + 1, by omega, by go_num, R2.out⟩, by simp [intOf]; omega⟩
    · have hge : 40 ≤ k := by omega
      clear hlt
      go_wp2_with (first
        | (go_at_call 7; have R := R8.out; refine (known_any _).mono ?_; rintro e w9 ⟨rfl, HQ⟩; have R9 : Hid (Below w.heap.size w w9) := R.trans (HQ.mono R.size); clear R8 HQ R)
        | (go_at_call 13; have R := R7.out; refine (HK32.out.block c2 _ HC5.out).mono ?_; rintro e w8 ⟨rfl, HQ⟩; have R8 : Hid (Below w.heap.size w w8) := R.trans (HQ.out.mono R.size); clear R7 HQ R)
        | (go_at_call 16; have R := R6.out; refine (HK32.out.plain _).mono ?_; rintro e w7 ⟨rfl, HQ⟩; have R7 : Hid (Below w.heap.size w w7) := R.trans (HQ.out.mono R.size); have HC5 : Hid (KC32 w7 c2) := HK32.out.keep _ _ _ HC4.out HQ.out; clear R6 HQ R)
        | (go_at_call 13; have R := R5.out; refine (HK24.out.block c1 _ HC3.out).mono ?_; rintro e w6 ⟨rfl, HQ⟩; have R6 : Hid (Below w.heap.size w w6) := R.trans (HQ.out.mono R.size); have HC4 : Hid (KC32 w6 c2) := HK32.out.keep _ _ _ HD3.out HQ.out; clear R5 HQ R)
        | (go_at_call 16; have R := R4.out; refine (HK24.out.plain _).mono ?_; rintro e w5 ⟨rfl, HQ⟩; have R5 : Hid (Below w.heap.size w w5) := R.trans (HQ.out.mono R.size); have HC3 : Hid (KC24 w5 c1) := HK24.out.keep _ _ _ HC2.out HQ.out; have HD3 : Hid (KC32 w5 c2) := HK32.out.keep _ _ _ HD2.out HQ.out; clear R4 HQ R)
        | (go_at_call 9; have R := R3.out; refine (N32.out _ _ HB2.out).mono ?_; rintro e w4 ⟨c2, rfl, HD2, HQ⟩; have R4 : Hid (Below w.heap.size w w4) := R.trans (HQ.out.mono R.size); have HC2 : Hid (KC24 w4 c1) := HK24.out.keep _ _ _ HC1.out HQ.out; clear R3 HQ R)
        | (go_at_call 15; have R := R2.out; refine (C32.out _).mono ?_; rintro e w3 ⟨g2, rfl, HB2, HQ⟩; have R3 : Hid (Below w.heap.size w w3) := R.trans (HQ.out.mono R.size); have HC1 : Hid (KC24 w3 c1) := HK24.out.keep _ _ _ HC0.out HQ.out; clear R2 HQ R)
        | (go_at_call 9; have R := R1.out; refine (N24.out _ _ HB1.out).mono ?_; rintro e w2 ⟨c1, rfl, HC0, HQ⟩; have R2 : Hid (Below w.heap.size w w2) := R.trans (HQ.out.mono R.size); clear R1 HQ R)
        | (go_at_call 15; have R := R0.out; refine (C24.out _).mono ?_; rintro e w1 ⟨g1, rfl, HB1, HQ⟩; have R1 : Hid (Below w.heap.size w w1) := R.trans (HQ.out.mono R.size); clear R0 HQ R))
      go_ret
      exact ⟨rfl, R9.out⟩
end Go.Proofs.Ytjidkkehhglahaa

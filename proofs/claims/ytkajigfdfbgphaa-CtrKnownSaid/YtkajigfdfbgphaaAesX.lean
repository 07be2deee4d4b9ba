/-
  Contract: rilllaw03.known; AesKnown walked.
-/
import Derived.Test.YtkajigfdfbgphaaAesW
namespace Go.Proofs.Ytkajigfdfbgphaa
open Go.RowKit

theorem kws_len (K : List Int) (n : Nat) (h : K.length = 4 * n) : (Aes.kws Aes.TB K).length = 4 * (n + 7) := by
  rw [Aes.kws, show K.length / 4 = n by omega, Aes.kx_len]
  omega
theorem lit_eq (a b : List Int) (A : Array Value) (hA : A = (a.map (Value.int .u8)).toArray) (ha : a = b) (hl : b.length = 16) : ∀ w, (Op.equalIn 10000 35 (.agg A) (.agg (b.map (Value.int .u8)).toArray)).run Try.prog w = .ok true w := fun w => by
  subst ha
  rw [hA, blk_eq a a hl hl w]
  simp
/-- What the laws' helpers and the cipher do for one length of key, with nothing of how. -/
structure Kit (n : Nat) (PL A : Array Value) (KB KC : World → Nat → Prop) : Prop where
  cnt : ∀ w, Calls Try.prog 23 #[.int .i64 (n : Int)] w fun e w' => ∃ g, e = .returned (.slice (some ⟨g, 0, none⟩) n n) ∧ Hid (KB w' g) ∧ Hid (Below w.heap.size w w')
  new : ∀ g w, KB w g → Calls Try.prog 11 #[.slice (some ⟨g, 0, none⟩) n n] w fun e w' => ∃ c, e = .returned (.tuple #[.pointer (some ⟨c, 0, none⟩), .int .i64 0]) ∧ Hid (KC w' c) ∧ Hid (Below w.heap.size w w')
  keep : ∀ w w' c, KC w c → Below w.heap.size w w' → KC w' c
  plain : ∀ w, Calls Try.prog 24 #[] w fun e w' => e = .returned (.agg PL) ∧ Hid (Below w.heap.size w w')
  block : ∀ c w, KC w c → Calls Try.prog 15 #[.pointer (some ⟨c, 0, none⟩), .agg PL] w fun e w' => e = .returned (.agg A) ∧ Hid (Below w.heap.size w w')
theorem new_any (K : List Int) (n : Nat) (hn : n = 4 ∨ n = 6 ∨ n = 8) (hK : K.length = 4 * n) (p : Option Addr) (cap : Nat) (hcap : 4 * n ≤ cap) (hcm : cap ≤ 9223372036854775807) (w : World) (hp : BAt w p K) :
    Calls Try.prog 11 #[.slice p (4 * n) cap] w (NewSay K w) := by
  rcases hn with rfl | rfl | rfl
  · exact new_4 K hK p cap hcap hcm w hp
  · exact new_6 K hK p cap hcap hcm w hp
  · exact new_8 K hK p cap hcap hcm w hp
theorem kit_of (m : Nat) (hm : m = 4 ∨ m = 6 ∨ m = 8) (lit : List Int) (hl : lit.length = 16) (h : Aes.blk Aes.TB (Aes.kws Aes.TB (Aes.cnt (4 * m))) (m + 5) Aes.pl = lit) :
    ∃ (PL A : Array Value) (KB KC : World → Nat → Prop), Hid (Kit (4 * m) PL A KB KC) ∧ (∀ w, (Op.equalIn 10000 35 (.agg A) (.agg (lit.map (Value.int .u8)).toArray)).run Try.prog w = .ok true w) := by
  refine ⟨(Aes.pl.map (Value.int .u8)).toArray, _, fun w g => BAt w (some ⟨g, 0, none⟩) (Aes.cnt (4 * m)), fun w c => Ciph w c Aes.TB (Aes.kws Aes.TB (Aes.cnt (4 * m))), ⟨?_, ?_, ?_, ?_, ?_⟩, lit_eq _ lit _ rfl h hl⟩
  · intro w
    refine (count_any (4 * m) (by omega) w).mono ?_
    rintro e w' ⟨g, h1, h2, h3⟩
    exact ⟨g, h1, h2, h3⟩
  · intro g w hb
    refine (new_any (Aes.cnt (4 * m)) m hm (cnt_len _) _ _ (Nat.le_refl _) (by omega) w hb).mono ?_
    rintro e w' ⟨c, h1, _, h2, h3⟩
    exact ⟨c, h1, h2, h3⟩
  · intro w w' c hc hb
    exact hc.below hb (Nat.le_refl _)
  · intro w
    exact (plain_any w).mono fun e w' hh => ⟨hh.1, hh.2⟩
  · intro c w hc
    exact (block_any _ Aes.pl (m + 5) c w hc (by rw [kws_len _ m (cnt_len _)]) (by omega) pl_len pl_byt).mono fun e w' hh => ⟨hh.1, hh.2⟩

set_option maxHeartbeats 2000000 in
set_option maxRecDepth 100000 in
theorem known_any (w : World) : Calls Try.prog 9 #[] w (YesSay w) := by
  obtain ⟨PL, A, KB, KC, HK, HEQ0⟩ := kit_of 4 (by omega) _ rfl Aes.kn16
  have HEQ : ∀ w, (Op.equalIn 10000 35 (.agg A) (.agg #[.int .u8 105, .int .u8 196, .int .u8 224, .int .u8 216, .int .u8 106, .int .u8 123, .int .u8 4, .int .u8 48, .int .u8 216, .int .u8 205, .int .u8 183, .int .u8 128, .int .u8 112, .int .u8 180, .int .u8 197, .int .u8 90])).run Try.prog w = .ok true w := HEQ0
  clear HEQ0
  have HCN : Hid (∀ w, Calls Try.prog 23 #[.int .i64 16] w fun e w' => ∃ g, e = .returned (.slice (some ⟨g, 0, none⟩) 16 16) ∧ Hid (KB w' g) ∧ Hid (Below w.heap.size w w')) := HK.out.cnt
  have HNW : Hid (∀ g w, KB w g → Calls Try.prog 11 #[.slice (some ⟨g, 0, none⟩) 16 16] w fun e w' => ∃ c, e = .returned (.tuple #[.pointer (some ⟨c, 0, none⟩), .int .i64 0]) ∧ Hid (KC w' c) ∧ Hid (Below w.heap.size w w')) := HK.out.new
  have hng := Try.noGuard
  go_enter Try.func9, Try.ntmps9
  go_wp2_with (first
    | (go_at_call 23; refine (HCN.out _).mono ?_; rintro e w1 ⟨g, rfl, HB1, HQ1⟩)
    | (go_at_call 11; refine (HNW.out _ _ HB1.out).mono ?_; rintro e w2 ⟨c, rfl, HC2, HQ2⟩; have HR2 : Hid (Below w.heap.size w w2) := HQ1.out.trans (HQ2.out.mono HQ1.out.size); clear HQ1 HQ2)
    | (go_at_call 24; refine (HK.out.plain _).mono ?_; rintro e w3 ⟨rfl, HQ3⟩; have HR3 : Hid (Below w.heap.size w w3) := HR2.out.trans (HQ3.out.mono HR2.out.size); have HC3 : Hid (KC w3 c) := HK.out.keep _ _ _ HC2.out HQ3.out; clear HQ3)
    | (go_at_call 15; refine (HK.out.block c _ HC3.out).mono ?_; rintro e w4 ⟨rfl, HQ4⟩; have HR4 : Hid (Below w.heap.size w w4) := HR3.out.trans (HQ4.out.mono HR3.out.size); clear HQ4))
  go_ret
  exact ⟨rfl, HR4.out⟩
end Go.Proofs.Ytkajigfdfbgphaa

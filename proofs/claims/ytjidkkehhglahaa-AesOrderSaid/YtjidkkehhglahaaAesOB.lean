/-
  rilllaw03.AesOrder for every key and any blocks.
-/
import Derived.Test.YtjidkkehhglahaaAesOA
namespace Go.Proofs.Ytjidkkehhglahaa
open Go.RowKit

set_option maxHeartbeats 2000000 in
set_option maxRecDepth 100000 in
theorem order_bad (p : Option Addr) (n cap : Nat) (tp : Option Addr) (len tcap : Nat) (h16 : n ≠ 16) (h24 : n ≠ 24) (h32 : n ≠ 32) (w : World) :
    Calls Try.prog 6 #[.slice p n cap, .slice tp len tcap] w (YesSay w) := by
  have NK : Hid (∀ w, Calls Try.prog 9 #[.slice p n cap] w fun e w' => e = .returned (.tuple #[.pointer none, .int .i64 1]) ∧ w' = w) := fun w => new_bad p n cap h16 h24 h32 w
  clear h16 h24 h32
  go_enter Try.func6, Try.ntmps6
  go_wp2_with (first
    | (go_at_call 9; refine (NK.out _).mono ?_; rintro e w2 ⟨rfl, rfl⟩)
    | (go_at_call 7; refine (known_any _).mono ?_; rintro e w3 ⟨rfl, hb⟩))
  go_ret
  exact ⟨rfl, hb⟩

/-- Blocks that came in. -/
def BlkAt (w : World) (tp : Option Addr) (len : Nat) (M : Nat → List Int) : Prop :=
  (∀ i, i < len → (M i).length = 16 ∧ Sha.Byt (M i)) ∧ (0 < len → ∃ ab ao, tp = some ⟨ab, ao, none⟩ ∧ ab < w.heap.size ∧ ∀ i, i < len → w.rangeAt ab (ao + i * 16) ((M i).map (Value.int .u8)))

theorem order_good (K : List Int) (m : Nat) (hm : m = 4 ∨ m = 6 ∨ m = 8) (hK : K.length = 4 * m) (p : Option Addr) (cap : Nat) (hc : 4 * m ≤ cap) (hcm : cap ≤ 9223372036854775807) (w : World) (hp : BAt w p K) (tp : Option Addr) (len tcap : Nat) (hlen : len ≤ 9223372036854775807) (M : Nat → List Int) (hM : BlkAt w tp len M) :
    Calls Try.prog 6 #[.slice p (4 * m) cap, .slice tp len tcap] w (YesSay w) := by
  have hk := kws_len K m hK
  obtain ⟨N, hN⟩ : ∃ N, N = min len 20 := ⟨_, rfl⟩
  have hNl : N ≤ len := by omega
  have AS : Hid (∀ i, i < N → ((M i).map (Value.int .u8)).toArray.size = 16) := fun i hi => by simp [(hM.1 i (by omega)).1]
  have XS : Hid (∀ i, i < N → ((Aes.blk Aes.TB (Aes.kws Aes.TB K) (m + 5) (M i)).map (Value.int .u8)).toArray.size = 16) := fun i _ => by simp [Aes.blk_len]
  have XO : Hid (∀ i, i < N → ∀ v ∈ ((Aes.blk Aes.TB (Aes.kws Aes.TB K) (m + 5) (M i)).map (Value.int .u8)).toArray.toList, v.oneCell' = true) := fun i _ v hv => u8_one _ v (by simpa using hv)
  have HM : Hid (0 < N → ∃ ab ao, tp = some ⟨ab, ao, none⟩ ∧ ab < w.heap.size ∧ ∀ i, i < N → w.rangeAt ab (ao + i * 16) ((M i).map (Value.int .u8)).toArray.toList) := fun h0 => by
    obtain ⟨ab, ao, h1, h2, h3⟩ := hM.2 (by omega)
    exact ⟨ab, ao, h1, h2, fun i hi => h3 i (by omega)⟩
  have HNW : Hid (∀ x, Below w.heap.size w x → Calls Try.prog 9 #[.slice p (4 * m) cap] x fun e x' => ∃ c, e = .returned (.tuple #[.pointer (some ⟨c, 0, none⟩), .int .i64 0]) ∧ Hid (Ciph x' c Aes.TB (Aes.kws Aes.TB K)) ∧ Hid (Below x.heap.size x x')) := fun x hx => by
    refine (new_any K m hm hK p cap hc hcm x (hp.old hx)).mono ?_
    rintro e x' ⟨c, h1, _, h2, h3⟩
    exact ⟨c, h1, h2, h3⟩
  have HKP : Hid (∀ x x' c, Ciph x c Aes.TB (Aes.kws Aes.TB K) → Below x.heap.size x x' → Ciph x' c Aes.TB (Aes.kws Aes.TB K)) := fun x x' c hc hb => hc.below hb (Nat.le_refl _)
  have HBL : Hid (∀ i c x, i < N → Ciph x c Aes.TB (Aes.kws Aes.TB K) → Calls Try.prog 13 #[.pointer (some ⟨c, 0, none⟩), .agg ((M i).map (Value.int .u8)).toArray] x fun e x' => e = .returned (.agg ((Aes.blk Aes.TB (Aes.kws Aes.TB K) (m + 5) (M i)).map (Value.int .u8)).toArray) ∧ Below x.heap.size x x') := fun i c x hi hc =>
    (block_any _ (M i) (m + 5) c x hc (by rw [hk]) (by omega) (hM.1 i (by omega)).1 (hM.1 i (by omega)).2).mono fun e w' hh => ⟨hh.1, hh.2⟩
  have HXX : Hid (∀ i x, i < N → (Op.equalIn 10000 35 (.agg ((Aes.blk Aes.TB (Aes.kws Aes.TB K) (m + 5) (M i)).map (Value.int .u8)).toArray) (.agg ((Aes.blk Aes.TB (Aes.kws Aes.TB K) (m + 5) (M i)).map (Value.int .u8)).toArray)).run Try.prog x = .ok true x) := fun i x _ => by
    rw [blk_eq _ _ (Aes.blk_len _ _ _ _) (Aes.blk_len _ _ _ _) x]
    simp
  rcases hm with rfl | rfl | rfl
  · exact order_16 p cap tp len tcap N hN hlen (fun i => ((M i).map (Value.int .u8)).toArray) (fun i => ((Aes.blk Aes.TB (Aes.kws Aes.TB K) (4 + 5) (M i)).map (Value.int .u8)).toArray) AS XS XO (fun x c => Ciph x c Aes.TB (Aes.kws Aes.TB K)) w HM HNW HKP HBL HXX
  · exact order_24 p cap tp len tcap N hN hlen (fun i => ((M i).map (Value.int .u8)).toArray) (fun i => ((Aes.blk Aes.TB (Aes.kws Aes.TB K) (6 + 5) (M i)).map (Value.int .u8)).toArray) AS XS XO (fun x c => Ciph x c Aes.TB (Aes.kws Aes.TB K)) w HM HNW HKP HBL HXX
  · exact order_32 p cap tp len tcap N hN hlen (fun i => ((M i).map (Value.int .u8)).toArray) (fun i => ((Aes.blk Aes.TB (Aes.kws Aes.TB K) (8 + 5) (M i)).map (Value.int .u8)).toArray) AS XS XO (fun x c => Ciph x c Aes.TB (Aes.kws Aes.TB K)) w HM HNW HKP HBL HXX

theorem order_any (K : List Int) (p : Option Addr) (cap : Nat) (hc : K.length ≤ cap) (hcm : cap ≤ 9223372036854775807) (w : World) (hp : BAt w p K) (tp : Option Addr) (len tcap : Nat) (hlen : len ≤ 9223372036854775807) (M : Nat → List Int) (hM : BlkAt w tp len M) :
    Calls Try.prog 6 #[.slice p K.length cap, .slice tp len tcap] w (YesSay w) := by
  by_cases h16 : K.length = 16
  · rw [h16]; exact order_good K 4 (by omega) h16 p cap (by omega) hcm w hp tp len tcap hlen M hM
  · by_cases h24 : K.length = 24
    · rw [h24]; exact order_good K 6 (by omega) h24 p cap (by omega) hcm w hp tp len tcap hlen M hM
    · by_cases h32 : K.length = 32
      · rw [h32]; exact order_good K 8 (by omega) h32 p cap (by omega) hcm w hp tp len tcap hlen M hM
      · exact order_bad p K.length cap tp len tcap h16 h24 h32 w
end Go.Proofs.Ytjidkkehhglahaa

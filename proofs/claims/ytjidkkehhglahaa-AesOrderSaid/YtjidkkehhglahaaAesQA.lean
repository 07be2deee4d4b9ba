/-
  rilllaw03.AesUnlike for every key and any two blocks.
-/
import Derived.Test.YtjidkkehhglahaaAesQ
namespace Go.Proofs.Ytjidkkehhglahaa
open Go.RowKit

set_option maxHeartbeats 2000000 in
set_option maxRecDepth 100000 in
theorem unlike_bad (p : Option Addr) (n cap : Nat) (A B : Array Value) (h16 : n ≠ 16) (h24 : n ≠ 24) (h32 : n ≠ 32) (w : World) :
    Calls Try.prog 4 #[.slice p n cap, .agg A, .agg B] w (YesSay w) := by
  have NK : Hid (∀ w, Calls Try.prog 9 #[.slice p n cap] w fun e w' => e = .returned (.tuple #[.pointer none, .int .i64 1]) ∧ w' = w) := fun w => new_bad p n cap h16 h24 h32 w
  have e1 : ((n : Int) == 16) = false := by simp; omega
  have e2 : ((n : Int) == 24) = false := by simp; omega
  have e3 : ((n : Int) == 32) = false := by simp; omega
  have g1 : ((n : Int) != 16) = true := by simp; omega
  have g2 : ((n : Int) != 24) = true := by simp; omega
  have g3 : ((n : Int) != 32) = true := by simp; omega
  have f1 : ¬ (n : Int) = 16 := by omega
  have f2 : ¬ (n : Int) = 24 := by omega
  have f3 : ¬ (n : Int) = 32 := by omega
  go_enter Try.func4, Try.ntmps4
  go_upto_region 1 with fail
  have HW1 : Hid (Below w.heap.size w ((w.alloc (.cells A 35)).alloc (.cells B 35))) := ((Below.refl _ w).alloc (Nat.le_refl _) _).alloc (by simp) _
  generalize (w.alloc (.cells A 35)).alloc (.cells B 35) = w1 at *
  go_wp2_with (first
    | (go_at_call 9; refine (NK.out _).mono ?_; rintro e w2 ⟨rfl, rfl⟩)
    | (go_at_call 7; refine (known_any _).mono ?_; rintro e w3 ⟨rfl, hb⟩; have R3 : Hid (Below w.heap.size w w3) := HW1.out.trans (hb.mono HW1.out.size)))
  go_ret
  exact ⟨rfl, R3.out⟩

theorem unlike_facts (K : List Int) (m : Nat) (hm : m = 4 ∨ m = 6 ∨ m = 8) (hK : K.length = 4 * m) (p : Option Addr) (cap : Nat) (hc : 4 * m ≤ cap) (hcm : cap ≤ 9223372036854775807) (w : World) (hp : BAt w p K) (a b : List Int) (ha : a.length = 16) (hb : b.length = 16) (ha1 : Sha.Byt a) (hb1 : Sha.Byt b) :
    ∃ (X Y : Array Value) (KC : World → Nat → Prop), Hid (X.size = 16) ∧ Hid (Y.size = 16) ∧ Hid (X.all (·.oneCell') = true) ∧ Hid (Y.all (·.oneCell') = true) ∧
      Hid (∀ x, Below w.heap.size w x → Calls Try.prog 9 #[.slice p (4 * m) cap] x fun e x' => ∃ c, e = .returned (.tuple #[.pointer (some ⟨c, 0, none⟩), .int .i64 0]) ∧ Hid (KC x' c) ∧ Hid (Below x.heap.size x x')) ∧
      Hid (∀ x x' c, KC x c → Below x.heap.size x x' → KC x' c) ∧
      Hid (∀ c x, KC x c → Calls Try.prog 13 #[.pointer (some ⟨c, 0, none⟩), .agg (a.map (Value.int .u8)).toArray] x fun e x' => e = .returned (.agg X) ∧ Below x.heap.size x x') ∧
      Hid (∀ c x, KC x c → Calls Try.prog 13 #[.pointer (some ⟨c, 0, none⟩), .agg (b.map (Value.int .u8)).toArray] x fun e x' => e = .returned (.agg Y) ∧ Below x.heap.size x x') ∧
      (∀ x, (Op.equalIn 10000 35 (.agg X) (.agg Y)).run Try.prog x = .ok (decide (a = b)) x) ∧ (∀ x, (Op.equalIn 10000 35 (.agg X) (.agg X)).run Try.prog x = .ok true x) := by
  have hk := kws_len K m hK
  refine ⟨((Aes.blk Aes.TB (Aes.kws Aes.TB K) (m + 5) a).map (Value.int .u8)).toArray, ((Aes.blk Aes.TB (Aes.kws Aes.TB K) (m + 5) b).map (Value.int .u8)).toArray, fun x c => Ciph x c Aes.TB (Aes.kws Aes.TB K), ?_, ?_, u8_all _, u8_all _, ?_, ?_, ?_, ?_, ?_, ?_⟩
  · show _ = _; simp [Aes.blk_len]
  · show _ = _; simp [Aes.blk_len]
  · intro x hx
    refine (new_any K m hm hK p cap hc hcm x (hp.old hx)).mono ?_
    rintro e x' ⟨c, h1, _, h2, h3⟩
    exact ⟨c, h1, h2, h3⟩
  · exact fun x x' c hc hb => hc.below hb (Nat.le_refl _)
  · exact fun c x hc => (block_any _ a (m + 5) c x hc (by rw [hk]) (by omega) ha ha1).mono fun e w' hh => ⟨hh.1, hh.2⟩
  · exact fun c x hc => (block_any _ b (m + 5) c x hc (by rw [hk]) (by omega) hb hb1).mono fun e w' hh => ⟨hh.1, hh.2⟩
  · intro x
    rw [blk_eq _ _ (Aes.blk_len _ _ _ _) (Aes.blk_len _ _ _ _) x]
    congr 1
    by_cases h : a = b
    · subst h; simp
    · rw [decide_eq_false h, decide_eq_false (fun e => h (Aes.blk_inj ha hb ha1 hb1 e))]
  · intro x
    rw [blk_eq _ _ (Aes.blk_len _ _ _ _) (Aes.blk_len _ _ _ _) x]
    simp

theorem unlike_any (K : List Int) (p : Option Addr) (cap : Nat) (hc : K.length ≤ cap) (hcm : cap ≤ 9223372036854775807) (w : World) (hp : BAt w p K) (a b : List Int) (ha : a.length = 16) (hb : b.length = 16) (ha1 : Sha.Byt a) (hb1 : Sha.Byt b) :
    Calls Try.prog 4 #[.slice p K.length cap, .agg (a.map (Value.int .u8)).toArray, .agg (b.map (Value.int .u8)).toArray] w (YesSay w) := by
  have hAS : Hid ((a.map (Value.int .u8)).toArray.size = 16) := by show _ = _; simp [ha]
  have hBS : Hid ((b.map (Value.int .u8)).toArray.size = 16) := by show _ = _; simp [hb]
  have hAB : ∀ x, (Op.equalIn 10000 35 (.agg (a.map (Value.int .u8)).toArray) (.agg (b.map (Value.int .u8)).toArray)).run Try.prog x = .ok (decide (a = b)) x := fun x => blk_eq a b ha hb x
  by_cases h16 : K.length = 16
  · obtain ⟨X, Y, KC, XS, YS, XO, YO, f1, f2, f3, f4, f5, f6⟩ := unlike_facts K 4 (by omega) h16 p cap (by omega) hcm w hp a b ha hb ha1 hb1
    rw [h16]
    exact unlike_16 p cap _ _ X Y _ hAS hBS XS YS XO YO KC w f1 f2 f3 f4 f5 hAB f6
  · by_cases h24 : K.length = 24
    · obtain ⟨X, Y, KC, XS, YS, XO, YO, f1, f2, f3, f4, f5, f6⟩ := unlike_facts K 6 (by omega) h24 p cap (by omega) hcm w hp a b ha hb ha1 hb1
      rw [h24]
      exact unlike_24 p cap _ _ X Y _ hAS hBS XS YS XO YO KC w f1 f2 f3 f4 f5 hAB f6
    · by_cases h32 : K.length = 32
      · obtain ⟨X, Y, KC, XS, YS, XO, YO, f1, f2, f3, f4, f5, f6⟩ := unlike_facts K 8 (by omega) h32 p cap (by omega) hcm w hp a b ha hb ha1 hb1
        rw [h32]
        exact unlike_32 p cap _ _ X Y _ hAS hBS XS YS XO YO KC w f1 f2 f3 f4 f5 hAB f6
      · exact unlike_bad p K.length cap _ _ h16 h24 h32 w
end Go.Proofs.Ytjidkkehhglahaa

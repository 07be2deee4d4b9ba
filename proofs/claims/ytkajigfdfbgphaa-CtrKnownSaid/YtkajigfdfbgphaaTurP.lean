/-
  rilllaw03.AesTurns for every key and any blocks.
-/
import Derived.Test.YtkajigfdfbgphaaTurM
import Derived.Test.YtkajigfdfbgphaaTurI4
import Derived.Test.YtkajigfdfbgphaaTurI6
import Derived.Test.YtkajigfdfbgphaaTurI8
namespace Go.Proofs.Ytkajigfdfbgphaa
open Go.RowKit

theorem up_nb (l : List Int) (hl : l.length = 16) (hb : Sha.Byt l) : Aes.up (Aes.nb l) 16 = l := by
  apply List.ext_getElem
  · rw [Aes.up_len, hl]
  · intro i h1 h2
    rw [Aes.up_len] at h1
    have h := Aes.up_get (Aes.nb l) 16 i h1
    rw [List.getD_eq_getElem?_getD, List.getElem?_eq_getElem (by rw [Aes.up_len]; exact h1)] at h
    simp only [Option.getD_some] at h
    rw [h]
    have hg := Sha.byt_getD hb i
    unfold Aes.nb
    rw [Int.toNat_of_nonneg hg.1, List.getD_eq_getElem?_getD, List.getElem?_eq_getElem h2]
    rfl
theorem blk4_st (r : Nat → Nat) (hr : Aes.B16 r) : Aes.blk4 (Aes.st r).a (Aes.st r).b (Aes.st r).c (Aes.st r).d = Aes.up r 16 := by
  have o : ∀ k, k < 4 → Aes.ob (Aes.sw r k) = [(r (4 * k) : Int), (r (4 * k + 1) : Int), (r (4 * k + 2) : Int), (r (4 * k + 3) : Int)] := fun k hk =>
    Aes.ob_w4 _ _ _ _ (hr _ (by omega)) (hr _ (by omega)) (hr _ (by omega)) (hr _ (by omega))
  unfold Aes.st Aes.blk4 Aes.bk Aes.up
  apply List.map_congr_left
  intro j hj
  rw [List.mem_range] at hj
  rw [if_pos (by omega)]
  have key : ∀ q t, q < 4 → t < 4 → (Aes.ob ([Aes.sw r 0, Aes.sw r 1, Aes.sw r 2, Aes.sw r 3].getD q 0)).getD t 0 = ((r (4 * q + t) : Nat) : Int) := fun q t hq ht => by
    have e : [Aes.sw r 0, Aes.sw r 1, Aes.sw r 2, Aes.sw r 3].getD q 0 = Aes.sw r q := by
      rcases (by omega : q = 0 ∨ q = 1 ∨ q = 2 ∨ q = 3) with rfl | rfl | rfl | rfl <;> rfl
    rw [e, o q hq]
    rcases (by omega : t = 0 ∨ t = 1 ∨ t = 2 ∨ t = 3) with rfl | rfl | rfl | rfl <;> rfl
  dsimp only
  rw [key (j / 4) (j % 4) (by omega) (by omega), show 4 * (j / 4) + j % 4 = j by omega]
theorem refnew_any (K : List Int) (n : Nat) (hn : n = 4 ∨ n = 6 ∨ n = 8) (hK : K.length = 4 * n) (p : Option Addr) (cap : Nat) (hcap : 4 * n ≤ cap) (hcm : cap ≤ 9223372036854775807) (w : World) (hp : BAt w p K) :
    Calls Try.prog 12 #[.slice p (4 * n) cap] w (RefSay K n w) := by
  rcases hn with rfl | rfl | rfl
  · exact refnew_4 K hK p cap hcap hcm w hp
  · exact refnew_6 K hK p cap hcap hcm w hp
  · exact refnew_8 K hK p cap hcap hcm w hp

theorem turns_good (K : List Int) (m : Nat) (hm : m = 4 ∨ m = 6 ∨ m = 8) (hK : K.length = 4 * m) (p : Option Addr) (cap : Nat) (hc : K.length ≤ cap) (hcm : cap ≤ 9223372036854775807) (w : World) (hp : BAt w p K) (tp : Option Addr) (len tcap : Nat) (hlen : len ≤ 9223372036854775807) (M : Nat → List Int) (hM : BlkAt w tp len M) :
    Calls Try.prog 3 #[.slice p K.length cap, .slice tp len tcap] w (YesSay w) := by
  have hKB := hp.1
  have hk := kws_len K m hK
  have hm0 : 0 < m := by omega
  obtain ⟨N, hN⟩ : ∃ N, N = min len 20 := ⟨_, rfl⟩
  have hNl : N ≤ len := by omega
  refine turns_core K p cap hc hcm (by omega) tp len tcap N hN hlen (fun i => ((M i).map (Value.int .u8)).toArray) (fun i => ((Aes.blk Aes.TB (Aes.kws Aes.TB K) (m + 5) (M i)).map (Value.int .u8)).toArray)
    (fun i hi => by simp [(hM.1 i (by omega)).1]) (fun i _ => by simp [Aes.blk_len]) (fun x c => Ciph x c Aes.TB (Aes.kws Aes.TB K)) (fun B x d => RCiphB B x d (4 * (m + 7)) (Aes.up (Aes.rb (Aes.kyl K m)) (16 * (m + 7)))) w hp ?_ ?_ ?_ ?_ ?_ ?_ ?_ ?_ ?_ ?_
  · intro h0
    obtain ⟨ab, ao, h1, h2, h3⟩ := hM.2 (by omega)
    exact ⟨ab, ao, h1, h2, fun i hi => h3 i (by omega)⟩
  · intro x g hx
    rw [hK]
    refine (new_any K m hm hK _ _ (by omega) (by omega) x hx).mono ?_
    rintro e x' ⟨c, h1, _, h2, h3⟩
    exact ⟨c, h1, h2, h3⟩
  · intro x hx
    rw [hK]
    refine (refnew_any K m hm hK p cap (by omega) hcm x hx).mono ?_
    rintro e x' ⟨c, h1, h2, h3⟩
    exact ⟨c, h1, h2, h3⟩
  · exact fun x x' c hc hb => hc.below hb (Nat.le_refl _)
  · exact fun B x x' c hc hb => hc.keep hb
  · exact fun x x' c g A hc hg ho => hc.only hg ho
  · exact fun B x x' c g hc hg ho => hc.only ho hg
  · intro i c x hi hc
    exact (block_any _ (M i) (m + 5) c x hc (by rw [hk]) (by omega) (hM.1 i (by omega)).1 (hM.1 i (by omega)).2).mono fun e w' hh => ⟨hh.1, hh.2⟩
  · intro i c B x hi hc
    have hl := (hM.1 i (by omega)).1
    have hb := (hM.1 i (by omega)).2
    have h := block_ref c (Aes.up (Aes.rb (Aes.kyl K m)) (16 * (m + 7))) (Aes.rb (Aes.kyl K m)) (Aes.nb (M i)) (m + 5) x hc.plain (by omega) (fun j hj => ⟨Aes.up_get _ _ _ (by omega), Aes.rb_lt K hKB m j⟩) (Aes.nb_b _ hb)
    have e1 : Aes.up (Aes.nb (M i)) 16 = M i := up_nb _ hl hb
    have e2 : Aes.up (Aes.blR (Aes.rb (Aes.kyl K m)) (m + 5) (Aes.nb (M i))) 16 = Aes.blk Aes.TB (Aes.kws Aes.TB K) (m + 5) (M i) := by
      unfold Aes.blk
      rw [Aes.toW_st _ hb]
      obtain ⟨q1, q2⟩ := Aes.last_st (Aes.rb (Aes.kyl K m)) (Aes.nb (M i)) (Aes.kws Aes.TB K) (m + 5) (Aes.nb_b _ hb) (fun j _ => Aes.rb_lt K hKB m j) (fun k hk => Aes.kws_sw K hKB m hm0 hK k (by omega))
      rw [q1]
      exact (blk4_st _ q2).symm
    rw [e1, e2] at h
    exact h.mono fun e w' hh => ⟨hh.1, hh.2⟩
  · intro i x _
    rw [blk_eq _ _ (Aes.blk_len _ _ _ _) (Aes.blk_len _ _ _ _) x]
    simp

theorem turns_any (K : List Int) (p : Option Addr) (cap : Nat) (hc : K.length ≤ cap) (hcm : cap ≤ 9223372036854775807) (w : World) (hp : BAt w p K) (tp : Option Addr) (len tcap : Nat) (hlen : len ≤ 9223372036854775807) (M : Nat → List Int) (hM : BlkAt w tp len M) :
    Calls Try.prog 3 #[.slice p K.length cap, .slice tp len tcap] w (YesSay w) := by
  by_cases hn : 1024 < K.length
  · exact turns_long p K.length cap tp len tcap hn w
  · by_cases h16 : K.length = 16
    · exact turns_good K 4 (by omega) h16 p cap hc hcm w hp tp len tcap hlen M hM
    · by_cases h24 : K.length = 24
      · exact turns_good K 6 (by omega) h24 p cap hc hcm w hp tp len tcap hlen M hM
      · by_cases h32 : K.length = 32
        · exact turns_good K 8 (by omega) h32 p cap hc hcm w hp tp len tcap hlen M hM
        · exact turns_bad K p cap hc tp len tcap h16 h24 h32 (by omega) w hp
end Go.Proofs.Ytkajigfdfbgphaa

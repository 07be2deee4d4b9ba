/-
  TurM, TurP (merged)
-/
import Derived.Test.YtkjfhbmdogmecaaGreatDoorB8
import Derived.Test.YtkjfhbmdogmecaaGreatDoorTurI4
namespace Go.Proofs.YtkjfhbmdogmecaaGreatDoor

/-! TurM: rilllaw03.AesTurns walked. -/
section
open Go.RowKit
end

/-! TurP: rilllaw03.AesTurns for every key and any blocks. -/
section
open Go.RowKit

theorem up_nb (l : List Int) (hl : l.length = 16) (hb : Sha.Byt l) : Aes.up (Aes.nb l) 16 = l := by
  apply List.ext_getElem
  · rw [Aes.up_len, hl]
  · intro i h1 h2
    rw [Aes.up_len] at h1
    have h := Aes.up_get (Aes.nb l) 16 i h1
    rw [List.getD_eq_getElem?_getD, List.getElem?_eq_getElem (by rw [Aes.up_len]; exact h1)] at h
    simp only [Option.getD_some] at h
    rw [h]
    have hg := Sha.byt_getD hb i
    unfold Aes.nb
    rw [Int.toNat_of_nonneg hg.1, List.getD_eq_getElem?_getD, List.getElem?_eq_getElem h2]
    rfl
theorem blk4_st (r : Nat → Nat) (hr : Aes.B16 r) : Aes.blk4 (Aes.st r).a (Aes.st r).b (Aes.st r).c (Aes.st r).d = Aes.up r 16 := by
  have o : ∀ k, k < 4 → Aes.ob (Aes.sw r k) = [(r (4 * k) : Int), (r (4 * k + 1) : Int), (r (4 * k + 2) : Int), (r (4 * k + 3) : Int)] := fun k hk =>
    Aes.ob_w4 _ _ _ _ (hr _ (by omega)) (hr _ (by omega)) (hr _ (by omega)) (hr _ (by omega))
  unfold Aes.st Aes.blk4 Aes.bk Aes.up
  apply List.map_congr_left
  intro j hj
  rw [List.mem_range] at hj
  rw [if_pos (by omega)]
  have key : ∀ q t, q < 4 → t < 4 → (Aes.ob ([Aes.sw r 0, Aes.sw r 1, Aes.sw r 2, Aes.sw r 3].getD q 0)).getD t 0 = ((r (4 * q + t) : Nat) : Int) := fun q t hq ht => by
    have e : [Aes.sw r 0, Aes.sw r 1, Aes.sw r 2, Aes.sw r 3].getD q 0 = Aes.sw r q := by
      rcases (by omega : q = 0 ∨ q = 1 ∨ q = 2 ∨ q = 3) with rfl | rfl | rfl | rfl <;> rfl
    rw [e, o q hq]
    rcases (by omega : t = 0 ∨ t = 1 ∨ t = 2 ∨ t = 3) with rfl | rfl | rfl | rfl <;> rfl
  dsimp only
  rw [key (j / 4) (j % 4) (by omega) (by omega), show 4 * (j / 4) + j % 4 = j by omega]
theorem refnew_any (K : List Int) (n : Nat) (hn : n = 4) (hK : K.length = 4 * n) (p : Option Addr) (cap : Nat) (hcap : 4 * n ≤ cap) (hcm : cap ≤ 9223372036854775807) (w : World) (hp : BAt w p K) :
    Calls Tryz.prog 41 #[.slice p (4 * n) cap] w (RefSay K n w) := by
  subst hn
  exact refnew_4 K hK p cap hcap hcm w hp
end

end Go.Proofs.YtkjfhbmdogmecaaGreatDoor

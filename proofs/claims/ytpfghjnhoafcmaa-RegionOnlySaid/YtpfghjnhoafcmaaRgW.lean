/-
  The law RegionBack walked.
-/
import Derived.Test.YtpfghjnhoafcmaaRgQ
namespace Go.Proofs.Ytpfghjnhoafcmaa
open Go.RowKit

theorem byte_wf {x : Int} (h : (Lit.int .u8 x).wf = true) : 0 ≤ x ∧ x ≤ 255 := by
  simp [Lit.wf, IntKind.min, IntKind.max, IntKind.signed, IntKind.bits] at h
  omega
namespace Rg
theorem m0_peek (j : Nat) : Dk.peek m0 j = [] := by unfold m0; exact fresh_peek 4 j
theorem m0_rd (j : Nat) : m0.rd j ≤ 999999990 := by unfold m0; exact Nat.zero_le _
theorem vA_none : vA m0 Nm.St.none = [] := by
  rw [vA_up (by rw [u0.n]; omega)]
  have h1 : hb 1 (vG Nm.St.none 1 (Dk.peek m0 1)) = none := by rw [m0_peek]; exact hb_nil 1
  have h2 : hb 2 (vG Nm.St.none 2 (Dk.peek m0 2)) = none := by rw [m0_peek]; exact hb_nil 2
  rw [h1, h2]
  rfl
theorem vA_one {r : R} {n : Int} (h : Ok r) (hm : may r = true) (hi : inN n) : vA (vM m0 Nm.St.none r n) (vS Nm.St.none r n) = [r] := by
  have hu := up_new (S := Nm.St.none) u0 (by omega) h hm hi
  have ho := hold_hb (hold_new (S := Nm.St.none) u0 (by omega) h hm hi)
  rw [vA_up (by rw [hu.n]; omega)]
  rcases hn_or r with e | e
  · have he : Dk.peek (vM m0 Nm.St.none r n) 2 = [] := empty_keep (j := 2) (m0_peek 2) u0 (by omega) h hm hi (by rw [e]; omega)
    rw [e] at ho
    have ho' : hb 1 (vG (vS Nm.St.none r n) 1 (Dk.peek (vM m0 Nm.St.none r n) 1)) = some r := ho
    rw [ho', he, hb_nil 2]
    rfl
  · have he : Dk.peek (vM m0 Nm.St.none r n) 1 = [] := empty_keep (j := 1) (m0_peek 1) u0 (by omega) h hm hi (by rw [e]; omega)
    rw [e] at ho
    have ho' : hb 2 (vG (vS Nm.St.none r n) 2 (Dk.peek (vM m0 Nm.St.none r n) 2)) = some r := ho
    rw [ho', he, hb_nil 1]
    rfl
end Rg
theorem own_zero {B : Nat} {y : World} {p : Option Addr} {c : Nat} {L : List Rg.R} {x : Rg.R} (ho : RsO B y (.slice p (x :: L).length c) (x :: L)) (hs : Rs y p c (x :: L)) : ∃ q, p = some ⟨q, 0, none⟩ := by
  obtain ⟨ab, ao, rfl, _⟩ := hs.at_ (by simp)
  have ha : ao = 0 := by
    rcases ho.2 with ⟨h1, _⟩ | ⟨g', cap, cur, h1, _⟩
    · cases h1
    · injection h1 with h1 _ _; injection h1 with h1; injection h1 with _ h1 _
  subst ha
  exact ⟨ab, rfl⟩
end Go.Proofs.Ytpfghjnhoafcmaa

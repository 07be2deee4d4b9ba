/-
  What a region holds, in plain lists; the chapter's example.
-/
import Derived.Test.YtpfghjnhoafcmaaRg4
import Derived.Test.YtpfghjnhoafcmaaRgK
namespace Go.Proofs.Ytpfghjnhoafcmaa
open Go.RowKit

namespace Rg
/-- A region holds a record that was written with a number. -/
structure Hold (m : Dk.M) (S : Nm.St) (j : Nat) (r : R) (n : Int) : Prop where
  pk : Dk.peek m j = by_ S r n
  kn : kn S r n
  ok : Ok r
  may : may r = true
  num : inN n
  at_ : hn r = j
theorem peek_put (m : Dk.M) (i : Nat) (L : List Int) (j : Nat) : Dk.peek (Dk.put m i L) j = if j = i then L else Dk.peek m j := by
  unfold Dk.peek Dk.put
  show (upd m.ca i (some L) j).getD (m.ls j) = _
  unfold upd
  by_cases h : j = i
  · rw [if_pos h, if_pos h]; rfl
  · rw [if_neg h, if_neg h]
section
variable {m : Dk.M} {S : Nm.St} {r r' : R} {n n' : Int} {q j : Nat}
theorem hold_new (hu : Dk.Up m q) (hq : 3 ≤ q) (hk : Ok r) (h : Rg.may r = true) (hi : inN n) : Hold (vM m S r n) (vS S r n) (hn r) r n := by
  refine ⟨?_, kn_self hk h hi, hk, h, hi, rfl⟩
  rw [(write_in hu hq hk h hi).2, peek_put, if_pos rfl]
theorem hold_keep (hh : Hold m S j r' n') (hu : Dk.Up m q) (hq : 3 ≤ q) (hk : Ok r) (h : Rg.may r = true) (hi : inN n) (hj : j ≠ hn r) : Hold (vM m S r n) (vS S r n) j r' n' := by
  obtain ⟨h1, h2, h3, h4, h5, h6⟩ := hh
  obtain ⟨k1, k2⟩ := kn_up h2 r n
  refine ⟨?_, k1, h3, h4, h5, h6⟩
  rw [(write_in hu hq hk h hi).2, peek_put, if_neg hj, h1, k2]
theorem empty_keep (hh : Dk.peek m j = []) (hu : Dk.Up m q) (hq : 3 ≤ q) (hk : Ok r) (h : Rg.may r = true) (hi : inN n) (hj : j ≠ hn r) : Dk.peek (vM m S r n) j = [] := by
  rw [(write_in hu hq hk h hi).2, peek_put, if_neg hj, hh]
theorem hold_hb (hh : Hold m S j r n) : hb (j : Int) (vG S (j : Int) (Dk.peek m j)) = some r := by
  obtain ⟨h1, h2, h3, h4, h5, h6⟩ := hh
  have h := hb_of h3 h4 h5 h2
  rw [home_hn, h6] at h
  rw [h1]
  exact h
theorem up_new (hu : Dk.Up m q) (hq : 3 ≤ q) (hk : Ok r) (h : Rg.may r = true) (hi : inN n) : Dk.Up (vM m S r n) q := by rw [(write_in hu hq hk h hi).2]; exact hu.put _ _
theorem hold_like {m' : Dk.M} (hh : Hold m S j r n) (hp : Dk.peek m' j = Dk.peek m j) : Hold m' S j r n := ⟨hp.trans hh.pk, hh.kn, hh.ok, hh.may, hh.num, hh.at_⟩
end
theorem fresh_peek (q j : Nat) : Dk.peek (Dk.fresh q) j = [] := rfl
/-! the chapter's example -/
def mkr (gen st : Int) : R := { zero with gen := gen, st := st, ep := 2 }
theorem mkr_gen (g s : Int) : (mkr g s).gen = g := rfl
theorem mkr_st (g s : Int) : (mkr g s).st = s := rfl
theorem in64_num {n : Int} (h : 1 ≤ n ∧ n ≤ 1099511627776) : Pk.In64 n := by unfold Pk.In64; omega
theorem mkr_ok {g s : Int} (hg : Pk.In64 g) (hs : Pk.In64 s) : Ok (mkr g s) := { ok_zero with gen := hg, st := hs, ep := by show Pk.In64 2; unfold Pk.In64; omega }
theorem mkr_may {g s : Int} (hg : 1 ≤ g ∧ g ≤ 1099511627776) (hs : 1 ≤ s ∧ s ≤ 1099511627776) : may (mkr g s) = true := by
  have e1 : (mkr g s).rt = zr := by unfold mkr zero; rfl
  have e2 : (mkr g s).bs = 0 ∧ (mkr g s).bl = 0 ∧ (mkr g s).ts = 0 ∧ (mkr g s).tl = 0 := by unfold mkr zero; exact ⟨rfl, rfl, rfl, rfl⟩
  rw [may_eq, e1, e2.1, e2.2.1, e2.2.2.1, e2.2.2.2, mkr_gen, mkr_st, num_iff.2 hg, num_iff.2 hs, show (mkr g s).ep = 2 from rfl, num_iff.2 (by omega), root_eq, decide_eq_true rfl, plc_eq]
  decide
theorem hn_odd {r : R} (h : r.gen % 2 ≠ 0) : hn r = 2 := by unfold hn; rw [if_neg h]
theorem hn_even {r : R} (h : r.gen % 2 = 0) : hn r = 1 := by unfold hn; rw [if_pos h]
def r1 : R := mkr 1 2
def r2 : R := mkr 2 3
theorem r1_ok : Ok r1 := mkr_ok (by unfold Pk.In64; omega) (by unfold Pk.In64; omega)
theorem r2_ok : Ok r2 := mkr_ok (by unfold Pk.In64; omega) (by unfold Pk.In64; omega)
theorem r1_may : may r1 = true := mkr_may (by omega) (by omega)
theorem r2_may : may r2 = true := mkr_may (by omega) (by omega)
def m0 : Dk.M := Dk.fresh 4
def m1 : Dk.M := vM m0 Nm.St.none r1 1
def S1 : Nm.St := vS Nm.St.none r1 1
def m2 : Dk.M := vM m1 S1 r2 5
def S2 : Nm.St := vS S1 r2 5
theorem u0 : Dk.Up m0 4 := Dk.Up.fresh 4
theorem i1 : inN 1 := by unfold inN; omega
theorem i5 : inN 5 := by unfold inN; omega
theorem u1 : Dk.Up m1 4 := up_new u0 (by omega) r1_ok r1_may i1
theorem e1 : vE m0 Nm.St.none r1 1 = 0 := (write_in u0 (by omega) r1_ok r1_may i1).1
theorem e2 : vE m1 S1 r2 5 = 0 := (write_in u1 (by omega) r2_ok r2_may i5).1
theorem u2 : Dk.Up m2 4 := up_new u1 (by omega) r2_ok r2_may i5
theorem a2 : vA m2 S2 = [r2, r1] := by
  have h1 : hn r1 = 2 := hn_odd (by show (1 : Int) % 2 ≠ 0; decide)
  have h2 : hn r2 = 1 := hn_even (by show (2 : Int) % 2 = 0; decide)
  have o1 : Hold m1 S1 2 r1 1 := by have h := hold_new (S := Nm.St.none) u0 (by omega) r1_ok r1_may i1; rw [h1] at h; exact h
  have o2 : Hold m2 S2 2 r1 1 := hold_keep o1 u1 (by omega) r2_ok r2_may i5 (by rw [h2]; omega)
  have o3 : Hold m2 S2 1 r2 5 := by have h := hold_new (S := S1) u1 (by omega) r2_ok r2_may i5; rw [h2] at h; exact h
  rw [vA_up (by rw [u2.n]; omega)]
  have k1 := hold_hb o3
  have k2 := hold_hb o2
  have k1' : hb 1 (vG S2 1 (Dk.peek m2 1)) = some r2 := k1
  have k2' : hb 2 (vG S2 2 (Dk.peek m2 2)) = some r1 := k2
  rw [k1', k2']
  rfl
theorem c1 : ch 1 [r2, r1] = some r1 := by
  have l2 : late 1 r2 = true := by rw [late_eq]; decide
  have l1 : late 1 r1 = false := by rw [late_eq]; decide
  unfold ch
  show stp 1 (stp 1 none r2) r1 = some r1
  have s2 : stp 1 none r2 = none := by unfold stp; rw [l2]; rfl
  rw [s2]
  unfold stp
  rw [l1]
  rfl
theorem s1_le : S1.ss.length ≤ 1 := by have h := vS_le Nm.St.none r1 1; exact h
theorem wr_le (m : Dk.M) (S : Nm.St) (r : R) (n : Int) : (vM m S r n).wr ≤ m.wr + 1 ∧ (vM m S r n).rd = m.rd := by
  unfold vM wM
  split
  · split
    · unfold Dk.wrM
      split
      · exact ⟨Nat.le_succ _, rfl⟩
      · split
        · exact ⟨Nat.le_succ _, rfl⟩
        · split
          · rw [Dk.spend_wr, Dk.spend_rd]; exact ⟨Nat.le_succ _, rfl⟩
          · exact ⟨Nat.le_refl _, Dk.spend_rd m⟩
    · exact ⟨Nat.le_succ _, rfl⟩
  · exact ⟨Nat.le_succ _, rfl⟩
theorem m0_wr : m0.wr ≤ 1000000000 := Nat.zero_le _
theorem m1_wr : m1.wr ≤ 1000000000 := Nat.le_trans (wr_le m0 _ _ _).1 (by decide)
theorem m2_rd (j : Nat) : m2.rd j ≤ 999999990 := by unfold m2; rw [(wr_le m1 S1 r2 5).2]; unfold m1; rw [(wr_le m0 _ _ _).2]; exact Nat.zero_le _
attribute [irreducible] mkr r1 r2 m0 m1 m2 S1 S2
end Rg

end Go.Proofs.Ytpfghjnhoafcmaa

/-
  Records under names, in plain lists: what Write makes of a disk, what All tells of it.
-/
import Derived.Test.YtjnepegohfhgiaaRgH
import Derived.Test.YtjnepegohfhgiaaSc4
import Derived.Test.YtjnepegohfhgiaaDk4
namespace Go.Proofs.Ytjnepegohfhgiaa
open Go.RowKit

namespace Rg
/-- The region, as a natural number. -/
def hn (r : R) : Nat := if r.gen % 2 = 0 then 1 else 2
theorem home_hn (r : R) : home r = (hn r : Int) := by unfold home hn; split <;> rfl
theorem hn_or (r : R) : hn r = 1 ∨ hn r = 2 := by unfold hn; split <;> simp
/-- What sector.Put answers by names; the disk, the names behind a Write; what sector.Get tells; what All tells. -/
def vX (S : Nm.St) (r : R) (n : Int) : Int × List Int := Sc.pt (Sc.nsl S) (sec r n)
def vE (m : Dk.M) (S : Nm.St) (r : R) (n : Int) : Int := wE m r (vX S r n)
def vM (m : Dk.M) (S : Nm.St) (r : R) (n : Int) : Dk.M := wM m r (vX S r n)
def vS (S : Nm.St) (r : R) (n : Int) : Nm.St := if may r then Sc.nd S (sec r n) else S
def vG (S : Nm.St) (a : Int) (B : List Int) : Int × Sc.S := Sc.gt (Nm.opn S) 2 a B
def vA (m : Dk.M) (S : Nm.St) : List R := al m (vG S)
def inN (n : Int) : Prop := 0 ≤ n ∧ n ≤ 1099511627776
theorem num_iff {n : Int} : num n = true ↔ 1 ≤ n ∧ n ≤ 1099511627776 := by rw [num_eq]; simp
theorem may_nums {r : R} (h : may r = true) : (1 ≤ r.gen ∧ r.gen ≤ 1099511627776) ∧ (1 ≤ r.st ∧ r.st ≤ 1099511627776) ∧ (1 ≤ r.ep ∧ r.ep ≤ 1099511627776) := by
  rw [may_eq] at h
  simp only [Bool.and_eq_true] at h
  exact ⟨num_iff.1 h.1, num_iff.1 h.2.1, num_iff.1 h.2.2.1⟩
theorem ers_in {r : R} (hk : Ok r) (h : may r = true) {n : Int} (hn : inN n) : Sc.ers (sec r n) = 0 := by
  have h3 := (may_nums h).2.2
  refine Sc.er_zero.2 ⟨Sc.isK_iff.2 (by show (1 : Int) ≤ 2 ∧ (2 : Int) ≤ 5; omega), Sc.inP_iff.2 ⟨by show 0 ≤ r.ep ∧ r.ep ≤ _; omega, hn, ?_⟩, by rw [sec_len hk]; omega⟩
  show 0 ≤ home r ∧ home r < 4096
  rcases home_or r with e | e <;> rw [e] <;> omega
theorem ers_out {r : R} {n : Int} (hn : ¬ inN n) : Sc.ers (sec r n) = 7 := by
  have hp : Sc.inP (sec r n).e (sec r n).n (sec r n).a = false := by
    rw [← Bool.not_eq_true, Sc.inP_iff]
    exact fun q => hn q.2.1
  unfold Sc.ers Sc.er
  rw [if_pos (Sc.isK_iff.2 (by show (1 : Int) ≤ 2 ∧ (2 : Int) ≤ 5; omega)), if_neg (by rw [hp]; decide)]
/-- The bytes that a region gets. -/
def by_ (S : Nm.St) (r : R) (n : Int) : List Int := Sc.bys S (sec r n)
theorem by_len {r : R} (hk : Ok r) (S : Nm.St) (n : Int) : (by_ S r n).length = 241 := by unfold by_; rw [Sc.bys_len, sec_len hk]
theorem vX_len {r : R} (hk : Ok r) (S : Nm.St) (n : Int) : (vX S r n).2.length ≤ 1000000 := by
  unfold vX
  by_cases h : Sc.ers (sec r n) = 0
  · rw [Sc.put_bys S h, Sc.bys_len, sec_len hk]; omega
  · rw [Sc.pt_no h]; exact Nat.zero_le _
theorem vS_no {S : Nm.St} {r : R} (h : may r = false) (n : Int) : vS S r n = S := by unfold vS; rw [h]; rfl
theorem vS_out {S : Nm.St} {r : R} {n : Int} (hn : ¬ inN n) : vS S r n = S := by
  unfold vS
  by_cases h : may r = true
  · rw [if_pos h, Sc.nd_no (by rw [ers_out hn]; decide)]
  · rw [if_neg h]
theorem vS_in {S : Nm.St} {r : R} (h : may r = true) (n : Int) : vS S r n = Sc.nd S (sec r n) := by unfold vS; rw [if_pos h]
theorem vS_le (S : Nm.St) (r : R) (n : Int) : (vS S r n).ss.length ≤ S.ss.length + 1 := by
  unfold vS
  split
  · exact Sc.nd_le _ _
  · omega
/-- Is something sealed of a record remembered. -/
def kn (S : Nm.St) (r : R) (n : Int) : Prop := Nm.place (Sc.four (sec r n)) S.ss ≠ 0
theorem kn_self {S : Nm.St} {r : R} (hk : Ok r) (h : may r = true) {n : Int} (hn : inN n) : kn (vS S r n) r n := by
  unfold kn
  rw [vS_in h]
  exact Sc.place_self S (ers_in hk h hn)
theorem kn_up {S : Nm.St} {r : R} {n : Int} (h : kn S r n) (r' : R) (n' : Int) : kn (vS S r' n') r n ∧ by_ (vS S r' n') r n = by_ S r n := by
  unfold kn by_ vS at *
  split
  · exact ⟨by rw [Sc.place_nd S _ h]; exact h, Sc.bys_nd S _ h⟩
  · exact ⟨h, rfl⟩
theorem vX_in {S : Nm.St} {r : R} (hk : Ok r) (h : may r = true) {n : Int} (hn : inN n) : vX S r n = (0, by_ (vS S r n) r n) := by
  unfold vX by_
  rw [Sc.put_bys S (ers_in hk h hn), vS_in h]
theorem vX_out {S : Nm.St} {r : R} {n : Int} (hn : ¬ inN n) : vX S r n = (7, []) := by
  unfold vX
  rw [Sc.pt_no (by rw [ers_out hn]; decide), ers_out hn]
/-! a disk whose power is on -/
section
variable {m : Dk.M} {S : Nm.St} {r : R} {n : Int} {q : Nat}
theorem write_in (hu : Dk.Up m q) (hq : 3 ≤ q) (hk : Ok r) (h : may r = true) (hi : inN n) : vE m S r n = 0 ∧ vM m S r n = Dk.put m (hn r) (by_ (vS S r n) r n) := by
  have hl : (by_ (vS S r n) r n).length ≤ 1024 := by rw [by_len hk]; omega
  have hh : hn r < q := by rcases hn_or r with e | e <;> omega
  unfold vE vM
  rw [wE_ok h (by rw [vX_in hk h hi]), wM_ok h (by rw [vX_in hk h hi]), vX_in hk h hi, home_hn]
  exact ⟨hu.wrE _ hh _ hl, hu.wrM _ hh _ hl⟩
theorem write_no (h : may r = false) : vE m S r n = 7 ∧ vM m S r n = m ∧ vS S r n = S := ⟨wE_no _ h, wM_no _ h, vS_no h n⟩
theorem write_out (h : may r = true) (hi : ¬ inN n) : vE m S r n = 7 ∧ vM m S r n = m ∧ vS S r n = S := by
  have hx : (vX S r n).1 ≠ 0 := by rw [vX_out hi]; decide
  unfold vE vM
  rw [wE_er h hx, wM_er h hx, vX_out hi]
  exact ⟨rfl, rfl, vS_out hi⟩
/-! what a region holds -/
theorem hb_nil (a : Int) : hb a (vG S a []) = none := by
  refine hb_1 ?_
  have h : Sc.ger 2 a [] ≠ 0 := fun e => by have := (Sc.ger_zero.1 e).1.1; simp at this
  unfold vG
  rw [Sc.gt_no h]
  exact h
theorem hb_of (hk : Ok r) (h : may r = true) (hi : inN n) (hkn : kn S r n) : hb (home r) (vG S (home r) (by_ S r n)) = some r := by
  have he := ers_in hk h hi
  have hg : Sc.gt (Nm.opn S) (sec r n).k (sec r n).a (Sc.bys S (sec r n)) = (0, sec r n) := by
    unfold Sc.bys
    exact Sc.gt_pt he _ _ (by rw [List.length_append, Nm.tg_len]) (Sc.opn_of hkn)
  have hg2 : vG S (home r) (by_ S r n) = (0, sec r n) := hg
  have hb := back hk h
  rw [hg2]
  have e : gt (sec r n).L = r := hb.2
  rw [hb_5 (G := (0, sec r n)) rfl hb.1 (by rw [e]; rfl) (by rw [e])]
  rw [e]
theorem hb_only {a : Int} {B : List Int} (hB : Sha.Byt B) (h : hb a (vG S a B) = some r) : Ok r ∧ may r = true ∧ home r = a ∧ ∃ n, (r.ep, n, Sc.mk 2 a, pt r) ∈ S.ss := by
  obtain ⟨h1, h2, h3, h4, h5⟩ := hb_some h
  unfold vG at h1 h2 h3 h4 h5
  obtain ⟨g1, L, g2, g3⟩ := Sc.gt_good h1
  rw [g3] at h2 h3 h4 h5
  dsimp only at h2 h3 h4 h5
  obtain ⟨p1, p2⟩ := Sc.opn_some g2
  have hbl : Sha.Byt L := fun x hx => hB x (List.mem_of_mem_drop (by rw [p2]; exact List.mem_append_left _ hx))
  obtain ⟨o1, o2⟩ := only hbl h2
  subst h5
  refine ⟨gt_ok hbl, o1, h4, Sc.nu (List.take 17 B), ?_⟩
  rw [o2, h3]
  exact Classical.byContradiction fun q => p1 (Nm.place_zero.2 q)
/-- What All tells of a disk that has the two regions. -/
theorem vA_up (hq : 3 ≤ m.n) : vA m S = (hb 1 (vG S 1 (Dk.peek m 1))).toList ++ (hb 2 (vG S 2 (Dk.peek m 2))).toList := by
  have e : ∀ k : Nat, k < m.n → hd m (k : Int) (vG S (k : Int)) = hb (k : Int) (vG S (k : Int) (Dk.peek m k)) := fun k hk => by
    have hh : Dk.here m (k : Int) = true := by unfold Dk.here; simp; omega
    rw [hd_yes _ hh]
    unfold Dk.rdX
    rw [hh, if_pos rfl, Int.toNat_natCast]
  have e1 := e 1 (by omega)
  have e2 := e 2 (by omega)
  unfold vA al
  show ([] ++ (alH m (vG S) 0).toList) ++ (alH m (vG S) 1).toList = _
  rw [List.nil_append]
  have f1 : alH m (vG S) 0 = hb 1 (vG S 1 (Dk.peek m 1)) := e1
  have f2 : alH m (vG S) 1 = hb 2 (vG S 2 (Dk.peek m 2)) := e2
  rw [f1, f2]
end
theorem vA_ok {m : Dk.M} (hb : ∀ i, Sha.Byt (Dk.peek m i)) (S : Nm.St) : ∀ x ∈ vA m S, ∃ a : Int, (a = 1 ∨ a = 2) ∧ Ok x ∧ may x = true ∧ home x = a ∧ ∃ n, (x.ep, n, Sc.mk 2 a, pt x) ∈ S.ss := fun x hx => by
  have key : ∀ (k : Nat) (a : Int), alH m (vG S) k = some x → a = (k : Int) + 1 → Ok x ∧ may x = true ∧ home x = a ∧ ∃ n, (x.ep, n, Sc.mk 2 a, pt x) ∈ S.ss := fun k a h e => by
    subst e
    have h' : hd m ((k : Int) + 1) (vG S ((k : Int) + 1)) = some x := h
    cases hh : Dk.here m ((k : Int) + 1) with
    | false => rw [hd_no _ hh] at h'; cases h'
    | true =>
      rw [hd_yes _ hh] at h'
      refine hb_only ?_ h'
      unfold Dk.rdX
      rw [hh, if_pos rfl]
      exact hb _
  unfold vA al at hx
  have hx' : x ∈ ([] ++ (alH m (vG S) 0).toList) ++ (alH m (vG S) 1).toList := hx
  rw [List.nil_append, List.mem_append, Option.mem_toList, Option.mem_toList] at hx'
  rcases hx' with h | h
  · exact ⟨1, Or.inl rfl, key 0 1 h rfl⟩
  · exact ⟨2, Or.inr rfl, key 1 2 h rfl⟩
attribute [irreducible] vX vE vM vS vG vA hn by_ kn
end Rg
end Go.Proofs.Ytjnepegohfhgiaa

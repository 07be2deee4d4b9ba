/-
  RgI, RgJ (merged)
-/
import Derived.Test.YtpfghjnhoafcmaaRg3
import Derived.Test.YtpfghjnhoafcmaaSc4
import Derived.Test.YtpfghjnhoafcmaaDk4
namespace Go.Proofs.Ytpfghjnhoafcmaa

/-! RgI: Records under names, in plain lists: what Write makes of a disk, what All tells of it. -/
section
open Go.RowKit

namespace Rg
/-- The region, as a natural number. -/
def hn (r : R) : Nat := if r.gen % 2 = 0 then 1 else 2
theorem home_hn (r : R) : home r = (hn r : Int) := by unfold home hn; split <;> rfl
theorem hn_or (r : R) : hn r = 1 ∨ hn r = 2 := by unfold hn; split <;> simp
/-- What sector.Put answers by names; the disk, the names behind a Write; what sector.Get tells; what All tells. -/
def vX (S : Nm.St) (r : R) (n : Int) : Int × List Int := Sc.pt (Sc.nsl S) (sec r n)
def vE (m : Dk.M) (S : Nm.St) (r : R) (n : Int) : Int := wE m r (vX S r n)
def vM (m : Dk.M) (S : Nm.St) (r : R) (n : Int) : Dk.M := wM m r (vX S r n)
def vS (S : Nm.St) (r : R) (n : Int) : Nm.St := if may r then Sc.nd S (sec r n) else S
def vG (S : Nm.St) (a : Int) (B : List Int) : Int × Sc.S := Sc.gt (Nm.opn S) 2 a B
def vA (m : Dk.M) (S : Nm.St) : List R := al m (vG S)
def inN (n : Int) : Prop := 0 ≤ n ∧ n ≤ 1099511627776
theorem num_iff {n : Int} : num n = true ↔ 1 ≤ n ∧ n ≤ 1099511627776 := by rw [num_eq]; simp
theorem may_nums {r : R} (h : may r = true) : (1 ≤ r.gen ∧ r.gen ≤ 1099511627776) ∧ (1 ≤ r.st ∧ r.st ≤ 1099511627776) ∧ (1 ≤ r.ep ∧ r.ep ≤ 1099511627776) := by
  rw [may_eq] at h
  simp only [Bool.and_eq_true] at h
  exact ⟨num_iff.1 h.1, num_iff.1 h.2.1, num_iff.1 h.2.2.1⟩
theorem ers_in {r : R} (hk : Ok r) (h : may r = true) {n : Int} (hn : inN n) : Sc.ers (sec r n) = 0 := by
  have h3 := (may_nums h).2.2
  refine Sc.er_zero.2 ⟨Sc.isK_iff.2 (by show (1 : Int) ≤ 2 ∧ (2 : Int) ≤ 5; omega), Sc.inP_iff.2 ⟨by show 0 ≤ r.ep ∧ r.ep ≤ _; omega, hn, ?_⟩, by rw [sec_len hk]; omega⟩
  show 0 ≤ home r ∧ home r < 4096
  rcases home_or r with e | e <;> rw [e] <;> omega
theorem ers_out {r : R} {n : Int} (hn : ¬ inN n) : Sc.ers (sec r n) = 7 := by
  have hp : Sc.inP (sec r n).e (sec r n).n (sec r n).a = false := by
    rw [← Bool.not_eq_true, Sc.inP_iff]
    exact fun q => hn q.2.1
  unfold Sc.ers Sc.er
  rw [if_pos (Sc.isK_iff.2 (by show (1 : Int) ≤ 2 ∧ (2 : Int) ≤ 5; omega)), if_neg (by rw [hp]; decide)]
/-- The bytes that a region gets. -/
def by_ (S : Nm.St) (r : R) (n : Int) : List Int := Sc.bys S (sec r n)
theorem by_len {r : R} (hk : Ok r) (S : Nm.St) (n : Int) : (by_ S r n).length = 241 := by unfold by_; rw [Sc.bys_len, sec_len hk]
theorem vX_len {r : R} (hk : Ok r) (S : Nm.St) (n : Int) : (vX S r n).2.length ≤ 1000000 := by
  unfold vX
  by_cases h : Sc.ers (sec r n) = 0
  · rw [Sc.put_bys S h, Sc.bys_len, sec_len hk]; omega
  · rw [Sc.pt_no h]; exact Nat.zero_le _
theorem vS_no {S : Nm.St} {r : R} (h : may r = false) (n : Int) : vS S r n = S := by unfold vS; rw [h]; rfl
theorem vS_out {S : Nm.St} {r : R} {n : Int} (hn : ¬ inN n) : vS S r n = S := by
  unfold vS
  by_cases h : may r = true
  · rw [if_pos h, Sc.nd_no (by rw [ers_out hn]; decide)]
  · rw [if_neg h]
theorem vS_in {S : Nm.St} {r : R} (h : may r = true) (n : Int) : vS S r n = Sc.nd S (sec r n) := by unfold vS; rw [if_pos h]
theorem vS_le (S : Nm.St) (r : R) (n : Int) : (vS S r n).ss.length ≤ S.ss.length + 1 := by
  unfold vS
  split
  · exact Sc.nd_le _ _
  · omega
/-- Is something sealed of a record remembered. -/
def kn (S : Nm.St) (r : R) (n : Int) : Prop := Nm.place (Sc.four (sec r n)) S.ss ≠ 0
theorem kn_self {S : Nm.St} {r : R} (hk : Ok r) (h : may r = true) {n : Int} (hn : inN n) : kn (vS S r n) r n := by
  unfold kn
  rw [vS_in h]
  exact Sc.place_self S (ers_in hk h hn)
theorem kn_up {S : Nm.St} {r : R} {n : Int} (h : kn S r n) (r' : R) (n' : Int) : kn (vS S r' n') r n ∧ by_ (vS S r' n') r n = by_ S r n := by
  unfold kn by_ vS at *
  split
  · exact ⟨by rw [Sc.place_nd S _ h]; exact h, Sc.bys_nd S _ h⟩
  · exact ⟨h, rfl⟩
theorem vX_in {S : Nm.St} {r : R} (hk : Ok r) (h : may r = true) {n : Int} (hn : inN n) : vX S r n = (0, by_ (vS S r n) r n) := by
  unfold vX by_
  rw [Sc.put_bys S (ers_in hk h hn), vS_in h]
theorem vX_out {S : Nm.St} {r : R} {n : Int} (hn : ¬ inN n) : vX S r n = (7, []) := by
  unfold vX
  rw [Sc.pt_no (by rw [ers_out hn]; decide), ers_out hn]
/-! a disk whose power is on -/
section
variable {m : Dk.M} {S : Nm.St} {r : R} {n : Int} {q : Nat}
theorem write_in (hu : Dk.Up m q) (hq : 3 ≤ q) (hk : Ok r) (h : may r = true) (hi : inN n) : vE m S r n = 0 ∧ vM m S r n = Dk.put m (hn r) (by_ (vS S r n) r n) := by
  have hl : (by_ (vS S r n) r n).length ≤ 1024 := by rw [by_len hk]; omega
  have hh : hn r < q := by rcases hn_or r with e | e <;> omega
  unfold vE vM
  rw [wE_ok h (by rw [vX_in hk h hi]), wM_ok h (by rw [vX_in hk h hi]), vX_in hk h hi, home_hn]
  exact ⟨hu.wrE _ hh _ hl, hu.wrM _ hh _ hl⟩
theorem write_no (h : may r = false) : vE m S r n = 7 ∧ vM m S r n = m ∧ vS S r n = S := ⟨wE_no _ h, wM_no _ h, vS_no h n⟩
theorem write_out (h : may r = true) (hi : ¬ inN n) : vE m S r n = 7 ∧ vM m S r n = m ∧ vS S r n = S := by
  have hx : (vX S r n).1 ≠ 0 := by rw [vX_out hi]; decide
  unfold vE vM
  rw [wE_er h hx, wM_er h hx, vX_out hi]
  exact ⟨rfl, rfl, vS_out hi⟩
/-! what a region holds -/
theorem hb_nil (a : Int) : hb a (vG S a []) = none := by
  refine hb_1 ?_
  have h : Sc.ger 2 a [] ≠ 0 := fun e => by have := (Sc.ger_zero.1 e).1.1; simp at this
  unfold vG
  rw [Sc.gt_no h]
  exact h
theorem hb_of (hk : Ok r) (h : may r = true) (hi : inN n) (hkn : kn S r n) : hb (home r) (vG S (home r) (by_ S r n)) = some r := by
  have he := ers_in hk h hi
  have hg : Sc.gt (Nm.opn S) (sec r n).k (sec r n).a (Sc.bys S (sec r n)) = (0, sec r n) := by
    unfold Sc.bys
    exact Sc.gt_pt he _ _ (by rw [List.length_append, Nm.tg_len]) (Sc.opn_of hkn)
  have hg2 : vG S (home r) (by_ S r n) = (0, sec r n) := hg
  have hb := back hk h
  rw [hg2]
  have e : gt (sec r n).L = r := hb.2
  rw [hb_5 (G := (0, sec r n)) rfl hb.1 (by rw [e]; rfl) (by rw [e])]
  rw [e]
theorem hb_only {a : Int} {B : List Int} (hB : Sha.Byt B) (h : hb a (vG S a B) = some r) : Ok r ∧ may r = true ∧ home r = a ∧ ∃ n, (r.ep, n, Sc.mk 2 a, pt r) ∈ S.ss := by
  obtain ⟨h1, h2, h3, h4, h5⟩ := hb_some h
  unfold vG at h1 h2 h3 h4 h5
  obtain ⟨g1, L, g2, g3⟩ := Sc.gt_good h1
  rw [g3] at h2 h3 h4 h5
  dsimp only at h2 h3 h4 h5
  obtain ⟨p1, p2⟩ := Sc.opn_some g2
  have hbl : Sha.Byt L := fun x hx => hB x (List.mem_of_mem_drop (by rw [p2]; exact List.mem_append_left _ hx))
  obtain ⟨o1, o2⟩ := only hbl h2
  subst h5
  refine ⟨gt_ok hbl, o1, h4, Sc.nu (List.take 17 B), ?_⟩
  rw [o2, h3]
  exact Classical.byContradiction fun q => p1 (Nm.place_zero.2 q)
/-- What All tells of a disk that has the two regions. -/
theorem vA_up (hq : 3 ≤ m.n) : vA m S = (hb 1 (vG S 1 (Dk.peek m 1))).toList ++ (hb 2 (vG S 2 (Dk.peek m 2))).toList := by
  have e : ∀ k : Nat, k < m.n → hd m (k : Int) (vG S (k : Int)) = hb (k : Int) (vG S (k : Int) (Dk.peek m k)) := fun k hk => by
    have hh : Dk.here m (k : Int) = true := by unfold Dk.here; simp; omega
    rw [hd_yes _ hh]
    unfold Dk.rdX
    rw [hh, if_pos rfl, Int.toNat_natCast]
  have e1 := e 1 (by omega)
  have e2 := e 2 (by omega)
  unfold vA al
  show ([] ++ (alH m (vG S) 0).toList) ++ (alH m (vG S) 1).toList = _
  rw [List.nil_append]
  have f1 : alH m (vG S) 0 = hb 1 (vG S 1 (Dk.peek m 1)) := e1
  have f2 : alH m (vG S) 1 = hb 2 (vG S 2 (Dk.peek m 2)) := e2
  rw [f1, f2]
end
theorem vA_ok {m : Dk.M} (hb : ∀ i, Sha.Byt (Dk.peek m i)) (S : Nm.St) : ∀ x ∈ vA m S, ∃ a : Int, (a = 1 ∨ a = 2) ∧ Ok x ∧ may x = true ∧ home x = a ∧ ∃ n, (x.ep, n, Sc.mk 2 a, pt x) ∈ S.ss := fun x hx => by
  have key : ∀ (k : Nat) (a : Int), alH m (vG S) k = some x → a = (k : Int) + 1 → Ok x ∧ may x = true ∧ home x = a ∧ ∃ n, (x.ep, n, Sc.mk 2 a, pt x) ∈ S.ss := fun k a h e => by
    subst e
    have h' : hd m ((k : Int) + 1) (vG S ((k : Int) + 1)) = some x := h
    cases hh : Dk.here m ((k : Int) + 1) with
    | false => rw [hd_no _ hh] at h'; cases h'
    | true =>
      rw [hd_yes _ hh] at h'
      refine hb_only ?_ h'
      unfold Dk.rdX
      rw [hh, if_pos rfl]
      exact hb _
  unfold vA al at hx
  have hx' : x ∈ ([] ++ (alH m (vG S) 0).toList) ++ (alH m (vG S) 1).toList := hx
  rw [List.nil_append, List.mem_append, Option.mem_toList, Option.mem_toList] at hx'
  rcases hx' with h | h
  · exact ⟨1, Or.inl rfl, key 0 1 h rfl⟩
  · exact ⟨2, Or.inr rfl, key 1 2 h rfl⟩
attribute [irreducible] vX vE vM vS vG vA hn by_ kn
end Rg
end

/-! RgJ: A disk and names that a law plays with: Write, All, Read, Tamper, Sync, Crash, Arm. -/
section
open Go.RowKit

/-- What is made from K on stays. -/
structure Kp (K : Nat) (y z : World) : Prop where
  size : y.heap.size ≤ z.heap.size
  block : ∀ k, K ≤ k → k < y.heap.size → z.heap[k]? = y.heap[k]?
section
variable {K B : Nat} {x y z : World}
theorem Kp.refl (K : Nat) (y : World) : Kp K y y := ⟨Nat.le_refl _, fun _ _ _ => rfl⟩
theorem Kp.trans (h : Kp K x y) (g : Kp K y z) : Kp K x z := ⟨Nat.le_trans h.size g.size, fun k h1 h2 => (g.block k h1 (Nat.lt_of_lt_of_le h2 h.size)).trans (h.block k h1 h2)⟩
theorem Kp.of_below (h : Below y.heap.size y z) : Kp K y z := ⟨h.size, fun k _ hk => h.block k hk⟩
theorem Kp.of_mv {ks : List Nat} (h : Mv ks y z) (hk : ∀ k ∈ ks, k < K) : Kp K y z := ⟨h.size, fun k h1 h2 => h.block k h2 (fun q => by have := hk k q; omega)⟩
theorem Kp.up {L : Nat} (h : Kp K y z) (hl : K ≤ L) : Kp L y z := ⟨h.size, fun k h1 h2 => h.block k (by omega) h2⟩
theorem own_kp {e s n : Nat} {v : Value} {xs : List Value} (h : y.ownsRow B e s v n xs) (hk : Kp K y z) (hB : K ≤ B) : z.ownsRow B e s v n xs := by
  refine ⟨h.1, ?_⟩
  rcases h.2 with h1 | ⟨g, cap, cur, h1, h2, h3, h4⟩
  · exact Or.inl h1
  · exact Or.inr ⟨g, cap, cur, h1, h2, (hk.block g (by omega) (lt_of_block h3)).trans h3, h4⟩
end
/-- A disk at block d and names at block g, in a law that began at x: nothing older than x turns; what turns lies below K. -/
def Vs (x : World) (K : Nat) (y : World) (d g : Nat) (m : Dk.M) (S : Nm.St) : Prop :=
  ∃ (T : Nat → Prop) (lb rb cb b c : Nat), DkAt y T d lb rb cb m ∧ StAt y g b c S ∧ (¬ T g ∧ ¬ T b ∧ ¬ T c) ∧ Below x.heap.size x y ∧ (∀ k ∈ [d, lb, rb, cb, b], x.heap.size ≤ k ∧ k < K) ∧ K ≤ y.heap.size
section
variable {x y z : World} {K d g : Nat} {m m' : Dk.M} {S S' : Nm.St}
theorem Vs.old (h : Vs x K y d g m S) (hb : Below y.heap.size y z) : Vs x K z d g m S := by
  obtain ⟨T, lb, rb, cb, b, c, h1, h2, h3, h4, h5, h6⟩ := h
  exact ⟨T, lb, rb, cb, b, c, h1.old hb, h2.old hb, h3, h4.trans (hb.mono h4.size), h5, Nat.le_trans h6 hb.size⟩
theorem Vs.low (h : Vs x K y d g m S) : Below x.heap.size x y := by
  obtain ⟨T, lb, rb, cb, b, c, h1, h2, h3, h4, h5, h6⟩ := h
  exact h4
theorem Vs.size (h : Vs x K y d g m S) : K ≤ y.heap.size := by
  obtain ⟨T, lb, rb, cb, b, c, h1, h2, h3, h4, h5, h6⟩ := h
  exact h6
theorem Vs.ok (h : Vs x K y d g m S) : Dk.Ok m := by
  obtain ⟨T, lb, rb, cb, b, c, h1, _⟩ := h
  exact h1.ok
theorem Vs.byt (h : Vs x K y d g m S) (i : Nat) (hi : i < m.n) : Sha.Byt (Dk.peek m i) := by
  obtain ⟨T, lb, rb, cb, b, c, h1, _⟩ := h
  obtain ⟨A, a1, a2, a3⟩ := h1.lst
  obtain ⟨F, b1, b2⟩ := h1.csh
  unfold Dk.peek
  cases q : m.ca i with
  | none =>
    obtain ⟨v, _, hs⟩ := a3 i hi
    exact hs.2.1
  | some L =>
    obtain ⟨v, _, hs⟩ := (b2 i).2 L q
    exact hs.2.1
/-- A disk and names, made. -/
theorem vs_make {w1 : World} {lb rb cb b c : Nat} (hd : DkAt w1 (fun k => x.heap.size ≤ k ∧ k < w1.heap.size) d lb rb cb m) (hb : Below x.heap.size x w1) (hs : StAt y g b c S) (hg : w1.heap.size ≤ g ∧ w1.heap.size ≤ b ∧ w1.heap.size ≤ c) (hb2 : Below w1.heap.size w1 y) : Vs x y.heap.size y d g m S := by
  refine ⟨_, lb, rb, cb, b, c, hd.old hb2, hs, ⟨fun h => by omega, fun h => by omega, fun h => by omega⟩, hb.trans (hb2.mono hb.size), fun k hk => ?_, Nat.le_refl _⟩
  have l := hd.lt
  have s := hb2.size
  have t := hs.lt
  simp only [List.mem_cons, List.not_mem_nil, or_false] at hk
  rcases hk with rfl | rfl | rfl | rfl | rfl
  · exact ⟨l.1.1, by omega⟩
  · exact ⟨l.2.1.1, by omega⟩
  · exact ⟨l.2.2.1.1, by omega⟩
  · exact ⟨l.2.2.2.1, by omega⟩
  · exact ⟨by have := hb.size; omega, t.2.1⟩
/-- Behind a call: the answer, the two objects, what stays. -/
def VSay (x : World) (K : Nat) (d g : Nat) (v : Value) (m : Dk.M) (S : Nm.St) (y : World) (e : Ending) (z : World) : Prop := e = .returned v ∧ Hid (Vs x K z d g m S) ∧ Hid (Kp K y z)
theorem vs_write (r : Rg.R) (hr : Rg.Ok r) (n : Int) (h : Vs x K y d g m S) (hwr : m.wr ≤ 1000000000) (hl : S.ss.length ≤ 100000) :
    Calls Try.prog 13 #[.pointer (some ⟨d, 0, none⟩), .iface 29 (.pointer (some ⟨g, 0, none⟩)), RV r, .int .i64 n] y (VSay x K d g (.int .i64 (Rg.vE m S r n)) (Rg.vM m S r n) (Rg.vS S r n) y) := by
  obtain ⟨T, lb, rb, cb, b, c, h1, h2, h3, h4, h5, h6⟩ := h
  have hx : (Rg.vX S r n).2.length ≤ 1000000 := Rg.vX_len hr S n
  refine (write_gen 29 (.pointer (some ⟨g, 0, none⟩)) r hr n (Rg.vX S r n) [b] (fun _ z => StAt z g b c (Sc.nd S (Rg.sec r n))) y h1 (fun k hk => by rw [List.mem_singleton] at hk; rw [hk]; exact h3.2.1) hx hwr (fun _ z p c' hz hp => ?_)).mono ?_
  · refine (nput_any S g b c (Rg.sec r n) p 192 c' (Rg.sec_len hr n) z (h2.old hz) hp hl).mono ?_
    rintro e z' ⟨u, mm, dd, he, hm, ho, hs, hst, hon⟩
    refine ⟨u, mm, dd, ?_, ?_, ?_, ?_, hst, Mv.only hon (by simp)⟩
    · rw [he]; unfold Rg.vX; rfl
    · unfold Rg.vX; exact hm
    · unfold Rg.vX; exact ho
    · unfold Rg.vX; exact hs
  · rintro e z ⟨he, hd, hm, z1, z2, hz1, hz2, hz3⟩
    have hks : ∀ k ∈ [d, lb, rb, cb], T k := fun k hk => by
      simp only [List.mem_cons, List.not_mem_nil, or_false] at hk
      rcases hk with rfl | rfl | rfl | rfl
      · exact h1.lt.1
      · exact h1.lt.2.1
      · exact h1.lt.2.2.1
      · exact h1.lt.2.2.2
    have hst : StAt z g b c (Rg.vS S r n) := by
      have key : ∀ S', StAt z2 g b c S' → StAt z g b c S' := fun S' hS => hS.keep (hz3.block _ hS.lt.1 (fun q => h3.1 (hks _ q))) (hz3.block _ hS.lt.2.1 (fun q => h3.2.1 (hks _ q))) (hz3.block _ hS.lt.2.2 (fun q => h3.2.2 (hks _ q)))
      unfold Rg.vS
      cases hmy : Rg.may r with
      | true => rw [hmy, if_pos rfl] at hz2; rw [if_pos rfl]; exact key _ hz2
      | false => rw [hmy, if_neg (by decide)] at hz2; rw [if_neg (by decide), ]; subst hz2; exact key _ (h2.old hz1)
    have hy : ∀ k, Own T y z k → k = g ∨ k = b ∨ k = c → False := fun k hk hq => by
      rcases hk with q | q
      · rcases hq with rfl | rfl | rfl
        · exact h3.1 q
        · exact h3.2.1 q
        · exact h3.2.2 q
      · have := h2.lt
        omega
    refine ⟨by rw [he]; unfold Rg.vE; rfl, Lib.hid ⟨Own T y z, lb, rb, cb, b, c, by have := hd.out; unfold Rg.vM; exact this, hst, ⟨fun q => hy _ q (Or.inl rfl), fun q => hy _ q (Or.inr (Or.inl rfl)), fun q => hy _ q (Or.inr (Or.inr rfl))⟩, hm.out.below h4 (fun k hk => ?_) h4.size, h5, Nat.le_trans h6 hm.out.size⟩, Lib.hid (Kp.of_mv hm.out (fun k hk => ?_))⟩
    · exact (h5 k (by simpa using hk)).1
    · exact (h5 k (by simpa using hk)).2
/-- Behind All. -/
def VaSay (x : World) (K : Nat) (d g : Nat) (m : Dk.M) (S : Nm.St) (y : World) (e : Ending) (z : World) : Prop :=
  ∃ v, e = .returned v ∧ Hid (RsO y.heap.size z v (Rg.vA m S)) ∧ Hid (∀ r ∈ Rg.vA m S, Rg.Ok r) ∧ Hid (Vs x K z d g (Rg.alM m 2) S) ∧ Hid (Kp K y z)
theorem gt_len (S : Nm.St) (k a : Int) (B : List Int) : (Sc.gt (Nm.opn S) k a B).2.L.length ≤ 1000 := by
  by_cases h : (Sc.gt (Nm.opn S) k a B).1 = 0
  · obtain ⟨h0, R, hR, he⟩ := Sc.gt_good h
    rw [he]
    have h1 := (Sc.ger_zero.1 h0).1
    have h2 := congrArg List.length (Sc.opn_some hR).2
    rw [List.length_append, List.length_drop, Nm.tg_len] at h2
    show R.length ≤ 1000
    omega
  · rw [Sc.gt_zero h]; exact Nat.zero_le _
theorem gt_byt (S : Nm.St) (k a : Int) {B : List Int} (hB : Sha.Byt B) : Sha.Byt (Sc.gt (Nm.opn S) k a B).2.L := by
  by_cases h : (Sc.gt (Nm.opn S) k a B).1 = 0
  · obtain ⟨h0, R, hR, he⟩ := Sc.gt_good h
    rw [he]
    exact fun q hq => hB q (List.mem_of_mem_drop (by rw [(Sc.opn_some hR).2]; exact List.mem_append_left _ hq))
  · rw [Sc.gt_zero h]; exact fun q hq => by cases hq
theorem vs_all (h : Vs x K y d g m S) (hrd : ∀ j, m.rd j ≤ 999999990) :
    Calls Try.prog 15 #[.pointer (some ⟨d, 0, none⟩), .iface 29 (.pointer (some ⟨g, 0, none⟩))] y (VaSay x K d g m S y) := by
  have hbt := h.byt
  obtain ⟨T, lb, rb, cb, b, c, h1, h2, h3, h4, h5, h6⟩ := h
  have hxb : ∀ i : Int, Sha.Byt (Dk.rdX m i) := fun i => by
    unfold Dk.rdX
    by_cases q : Dk.here m i = true
    · rw [if_pos q]
      obtain ⟨j, rfl, hj⟩ := Dk.here_of q
      rw [Int.toNat_natCast]
      exact hbt j hj
    · rw [if_neg q]; exact fun w hw => by cases hw
  have hks : ∀ k ∈ [d, lb, rb, cb], T k := fun k hk => by
    simp only [List.mem_cons, List.not_mem_nil, or_false] at hk
    rcases hk with rfl | rfl | rfl | rfl
    · exact h1.lt.1
    · exact h1.lt.2.1
    · exact h1.lt.2.2.1
    · exact h1.lt.2.2.2
  have key : ∀ z, Mv [d, lb, rb, cb] y z → StAt z g b c S := fun z hz => h2.keep (hz.block _ h2.lt.1 (fun q => h3.1 (hks _ q))) (hz.block _ h2.lt.2.1 (fun q => h3.2.1 (hks _ q))) (hz.block _ h2.lt.2.2 (fun q => h3.2.2 (hks _ q)))
  refine (all_gen 29 (.pointer (some ⟨g, 0, none⟩)) (Rg.vG S) y h1 hrd (fun k _ => ?_) (fun k _ => ?_) (fun k _ z q n c' hz hn hb => ?_)).mono ?_
  · unfold Rg.vG; exact Nat.le_trans (gt_len S _ _ _) (by omega)
  · unfold Rg.vG; exact gt_byt S _ _ (hxb _)
  · unfold Rg.vG; exact nget_any S g b c 2 _ _ q n c' hn z (key z hz) hb
  · rintro e z ⟨v, rfl, ho, hok, hd, hm⟩
    have ev : Rg.al m (Rg.vG S) = Rg.vA m S := by unfold Rg.vA; rfl
    rw [ev] at ho hok
    refine ⟨v, rfl, ho, hok, Lib.hid ⟨T, lb, rb, cb, b, c, hd.out, key z hm.out, h3, hm.out.below h4 (fun k hk => ?_) h4.size, h5, Nat.le_trans h6 hm.out.size⟩, Lib.hid (Kp.of_mv hm.out (fun k hk => ?_))⟩
    · exact (h5 k (by simp only [List.mem_cons, List.not_mem_nil, or_false] at hk ⊢; rcases hk with q | q | q | q <;> simp [q])).1
    · exact (h5 k (by simp only [List.mem_cons, List.not_mem_nil, or_false] at hk ⊢; rcases hk with q | q | q | q <;> simp [q])).2
end
end
end Go.Proofs.Ytpfghjnhoafcmaa

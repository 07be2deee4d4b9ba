/-
  A disk and names that a law plays with: Write, All, Read, Tamper, Sync, Crash, Arm.
-/
import Derived.Test.YtjnepegohfhgiaaRgI
namespace Go.Proofs.Ytjnepegohfhgiaa
open Go.RowKit

/-- What is made from K on stays. -/
structure Kp (K : Nat) (y z : World) : Prop where
  size : y.heap.size ≤ z.heap.size
  block : ∀ k, K ≤ k → k < y.heap.size → z.heap[k]? = y.heap[k]?
section
variable {K B : Nat} {x y z : World}
theorem Kp.refl (K : Nat) (y : World) : Kp K y y := ⟨Nat.le_refl _, fun _ _ _ => rfl⟩
theorem Kp.trans (h : Kp K x y) (g : Kp K y z) : Kp K x z := ⟨Nat.le_trans h.size g.size, fun k h1 h2 => (g.block k h1 (Nat.lt_of_lt_of_le h2 h.size)).trans (h.block k h1 h2)⟩
theorem Kp.of_below (h : Below y.heap.size y z) : Kp K y z := ⟨h.size, fun k _ hk => h.block k hk⟩
theorem Kp.of_mv {ks : List Nat} (h : Mv ks y z) (hk : ∀ k ∈ ks, k < K) : Kp K y z := ⟨h.size, fun k h1 h2 => h.block k h2 (fun q => by have := hk k q; omega)⟩
theorem Kp.up {L : Nat} (h : Kp K y z) (hl : K ≤ L) : Kp L y z := ⟨h.size, fun k h1 h2 => h.block k (by omega) h2⟩
theorem own_kp {e s n : Nat} {v : Value} {xs : List Value} (h : y.ownsRow B e s v n xs) (hk : Kp K y z) (hB : K ≤ B) : z.ownsRow B e s v n xs := by
  refine ⟨h.1, ?_⟩
  rcases h.2 with h1 | ⟨g, cap, cur, h1, h2, h3, h4⟩
  · exact Or.inl h1
  · exact Or.inr ⟨g, cap, cur, h1, h2, (hk.block g (by omega) (lt_of_block h3)).trans h3, h4⟩
end
/-- A disk at block d and names at block g, in a law that began at x: nothing older than x turns; what turns lies below K. -/
def Vs (x : World) (K : Nat) (y : World) (d g : Nat) (m : Dk.M) (S : Nm.St) : Prop :=
  ∃ (T : Nat → Prop) (lb rb cb b c : Nat), DkAt y T d lb rb cb m ∧ StAt y g b c S ∧ (¬ T g ∧ ¬ T b ∧ ¬ T c) ∧ Below x.heap.size x y ∧ (∀ k ∈ [d, lb, rb, cb, b], x.heap.size ≤ k ∧ k < K) ∧ K ≤ y.heap.size
section
variable {x y z : World} {K d g : Nat} {m m' : Dk.M} {S S' : Nm.St}
theorem Vs.old (h : Vs x K y d g m S) (hb : Below y.heap.size y z) : Vs x K z d g m S := by
  obtain ⟨T, lb, rb, cb, b, c, h1, h2, h3, h4, h5, h6⟩ := h
  exact ⟨T, lb, rb, cb, b, c, h1.old hb, h2.old hb, h3, h4.trans (hb.mono h4.size), h5, Nat.le_trans h6 hb.size⟩
theorem Vs.low (h : Vs x K y d g m S) : Below x.heap.size x y := by
  obtain ⟨T, lb, rb, cb, b, c, h1, h2, h3, h4, h5, h6⟩ := h
  exact h4
theorem Vs.size (h : Vs x K y d g m S) : K ≤ y.heap.size := by
  obtain ⟨T, lb, rb, cb, b, c, h1, h2, h3, h4, h5, h6⟩ := h
  exact h6
theorem Vs.ok (h : Vs x K y d g m S) : Dk.Ok m := by
  obtain ⟨T, lb, rb, cb, b, c, h1, _⟩ := h
  exact h1.ok
theorem Vs.byt (h : Vs x K y d g m S) (i : Nat) (hi : i < m.n) : Sha.Byt (Dk.peek m i) := by
  obtain ⟨T, lb, rb, cb, b, c, h1, _⟩ := h
  obtain ⟨A, a1, a2, a3⟩ := h1.lst
  obtain ⟨F, b1, b2⟩ := h1.csh
  unfold Dk.peek
  cases q : m.ca i with
  | none =>
    obtain ⟨v, _, hs⟩ := a3 i hi
    exact hs.2.1
  | some L =>
    obtain ⟨v, _, hs⟩ := (b2 i).2 L q
    exact hs.2.1
/-- A disk and names, made. -/
theorem vs_make {w1 : World} {lb rb cb b c : Nat} (hd : DkAt w1 (fun k => x.heap.size ≤ k ∧ k < w1.heap.size) d lb rb cb m) (hb : Below x.heap.size x w1) (hs : StAt y g b c S) (hg : w1.heap.size ≤ g ∧ w1.heap.size ≤ b ∧ w1.heap.size ≤ c) (hb2 : Below w1.heap.size w1 y) : Vs x y.heap.size y d g m S := by
  refine ⟨_, lb, rb, cb, b, c, hd.old hb2, hs, ⟨fun h => by omega, fun h => by omega, fun h => by omega⟩, hb.trans (hb2.mono hb.size), fun k hk => ?_, Nat.le_refl _⟩
  have l := hd.lt
  have s := hb2.size
  have t := hs.lt
  simp only [List.mem_cons, List.not_mem_nil, or_false] at hk
  rcases hk with rfl | rfl | rfl | rfl | rfl
  · exact ⟨l.1.1, by omega⟩
  · exact ⟨l.2.1.1, by omega⟩
  · exact ⟨l.2.2.1.1, by omega⟩
  · exact ⟨l.2.2.2.1, by omega⟩
  · exact ⟨by have := hb.size; omega, t.2.1⟩
/-- Behind a call: the answer, the two objects, what stays. -/
def VSay (x : World) (K : Nat) (d g : Nat) (v : Value) (m : Dk.M) (S : Nm.St) (y : World) (e : Ending) (z : World) : Prop := e = .returned v ∧ Hid (Vs x K z d g m S) ∧ Hid (Kp K y z)
theorem vs_write (r : Rg.R) (hr : Rg.Ok r) (n : Int) (h : Vs x K y d g m S) (hwr : m.wr ≤ 1000000000) (hl : S.ss.length ≤ 100000) :
    Calls Try.prog 26 #[.pointer (some ⟨d, 0, none⟩), .iface 51 (.pointer (some ⟨g, 0, none⟩)), RV r, .int .i64 n] y (VSay x K d g (.int .i64 (Rg.vE m S r n)) (Rg.vM m S r n) (Rg.vS S r n) y) := by
  obtain ⟨T, lb, rb, cb, b, c, h1, h2, h3, h4, h5, h6⟩ := h
  have hx : (Rg.vX S r n).2.length ≤ 1000000 := Rg.vX_len hr S n
  refine (write_gen 51 (.pointer (some ⟨g, 0, none⟩)) r hr n (Rg.vX S r n) [b] (fun _ z => StAt z g b c (Sc.nd S (Rg.sec r n))) y h1 (fun k hk => by rw [List.mem_singleton] at hk; rw [hk]; exact h3.2.1) hx hwr (fun _ z p c' hz hp => ?_)).mono ?_
  · refine (nput_any S g b c (Rg.sec r n) p 192 c' (Rg.sec_len hr n) z (h2.old hz) hp hl).mono ?_
    rintro e z' ⟨u, mm, dd, he, hm, ho, hs, hst, hon⟩
    refine ⟨u, mm, dd, ?_, ?_, ?_, ?_, hst, Mv.only hon (by simp)⟩
    · rw [he]; unfold Rg.vX; rfl
    · unfold Rg.vX; exact hm
    · unfold Rg.vX; exact ho
    · unfold Rg.vX; exact hs
  · rintro e z ⟨he, hd, hm, z1, z2, hz1, hz2, hz3⟩
    have hks : ∀ k ∈ [d, lb, rb, cb], T k := fun k hk => by
      simp only [List.mem_cons, List.not_mem_nil, or_false] at hk
      rcases hk with rfl | rfl | rfl | rfl
      · exact h1.lt.1
      · exact h1.lt.2.1
      · exact h1.lt.2.2.1
      · exact h1.lt.2.2.2
    have hst : StAt z g b c (Rg.vS S r n) := by
      have key : ∀ S', StAt z2 g b c S' → StAt z g b c S' := fun S' hS => hS.keep (hz3.block _ hS.lt.1 (fun q => h3.1 (hks _ q))) (hz3.block _ hS.lt.2.1 (fun q => h3.2.1 (hks _ q))) (hz3.block _ hS.lt.2.2 (fun q => h3.2.2 (hks _ q)))
      unfold Rg.vS
      cases hmy : Rg.may r with
      | true => rw [hmy, if_pos rfl] at hz2; rw [if_pos rfl]; exact key _ hz2
      | false => rw [hmy, if_neg (by decide)] at hz2; rw [if_neg (by decide), ]; subst hz2; exact key _ (h2.old hz1)
    have hy : ∀ k, Own T y z k → k = g ∨ k = b ∨ k = c → False := fun k hk hq => by
      rcases hk with q | q
      · rcases hq with rfl | rfl | rfl
        · exact h3.1 q
        · exact h3.2.1 q
        · exact h3.2.2 q
      · have := h2.lt
        omega
    refine ⟨by rw [he]; unfold Rg.vE; rfl, Lib.hid ⟨Own T y z, lb, rb, cb, b, c, by have := hd.out; unfold Rg.vM; exact this, hst, ⟨fun q => hy _ q (Or.inl rfl), fun q => hy _ q (Or.inr (Or.inl rfl)), fun q => hy _ q (Or.inr (Or.inr rfl))⟩, hm.out.below h4 (fun k hk => ?_) h4.size, h5, Nat.le_trans h6 hm.out.size⟩, Lib.hid (Kp.of_mv hm.out (fun k hk => ?_))⟩
    · exact (h5 k (by simpa using hk)).1
    · exact (h5 k (by simpa using hk)).2
/-- Behind All. -/
def VaSay (x : World) (K : Nat) (d g : Nat) (m : Dk.M) (S : Nm.St) (y : World) (e : Ending) (z : World) : Prop :=
  ∃ v, e = .returned v ∧ Hid (RsO y.heap.size z v (Rg.vA m S)) ∧ Hid (∀ r ∈ Rg.vA m S, Rg.Ok r) ∧ Hid (Vs x K z d g (Rg.alM m 2) S) ∧ Hid (Kp K y z)
theorem gt_len (S : Nm.St) (k a : Int) (B : List Int) : (Sc.gt (Nm.opn S) k a B).2.L.length ≤ 1000 := by
  by_cases h : (Sc.gt (Nm.opn S) k a B).1 = 0
  · obtain ⟨h0, R, hR, he⟩ := Sc.gt_good h
    rw [he]
    have h1 := (Sc.ger_zero.1 h0).1
    have h2 := congrArg List.length (Sc.opn_some hR).2
    rw [List.length_append, List.length_drop, Nm.tg_len] at h2
    show R.length ≤ 1000
    omega
  · rw [Sc.gt_zero h]; exact Nat.zero_le _
theorem gt_byt (S : Nm.St) (k a : Int) {B : List Int} (hB : Sha.Byt B) : Sha.Byt (Sc.gt (Nm.opn S) k a B).2.L := by
  by_cases h : (Sc.gt (Nm.opn S) k a B).1 = 0
  · obtain ⟨h0, R, hR, he⟩ := Sc.gt_good h
    rw [he]
    exact fun q hq => hB q (List.mem_of_mem_drop (by rw [(Sc.opn_some hR).2]; exact List.mem_append_left _ hq))
  · rw [Sc.gt_zero h]; exact fun q hq => by cases hq
theorem vs_all (h : Vs x K y d g m S) (hrd : ∀ j, m.rd j ≤ 999999990) :
    Calls Try.prog 27 #[.pointer (some ⟨d, 0, none⟩), .iface 51 (.pointer (some ⟨g, 0, none⟩))] y (VaSay x K d g m S y) := by
  have hbt := h.byt
  obtain ⟨T, lb, rb, cb, b, c, h1, h2, h3, h4, h5, h6⟩ := h
  have hxb : ∀ i : Int, Sha.Byt (Dk.rdX m i) := fun i => by
    unfold Dk.rdX
    by_cases q : Dk.here m i = true
    · rw [if_pos q]
      obtain ⟨j, rfl, hj⟩ := Dk.here_of q
      rw [Int.toNat_natCast]
      exact hbt j hj
    · rw [if_neg q]; exact fun w hw => by cases hw
  have hks : ∀ k ∈ [d, lb, rb, cb], T k := fun k hk => by
    simp only [List.mem_cons, List.not_mem_nil, or_false] at hk
    rcases hk with rfl | rfl | rfl | rfl
    · exact h1.lt.1
    · exact h1.lt.2.1
    · exact h1.lt.2.2.1
    · exact h1.lt.2.2.2
  have key : ∀ z, Mv [d, lb, rb, cb] y z → StAt z g b c S := fun z hz => h2.keep (hz.block _ h2.lt.1 (fun q => h3.1 (hks _ q))) (hz.block _ h2.lt.2.1 (fun q => h3.2.1 (hks _ q))) (hz.block _ h2.lt.2.2 (fun q => h3.2.2 (hks _ q)))
  refine (all_gen 51 (.pointer (some ⟨g, 0, none⟩)) (Rg.vG S) y h1 hrd (fun k _ => ?_) (fun k _ => ?_) (fun k _ z q n c' hz hn hb => ?_)).mono ?_
  · unfold Rg.vG; exact Nat.le_trans (gt_len S _ _ _) (by omega)
  · unfold Rg.vG; exact gt_byt S _ _ (hxb _)
  · unfold Rg.vG; exact nget_any S g b c 2 _ _ q n c' hn z (key z hz) hb
  · rintro e z ⟨v, rfl, ho, hok, hd, hm⟩
    have ev : Rg.al m (Rg.vG S) = Rg.vA m S := by unfold Rg.vA; rfl
    rw [ev] at ho hok
    refine ⟨v, rfl, ho, hok, Lib.hid ⟨T, lb, rb, cb, b, c, hd.out, key z hm.out, h3, hm.out.below h4 (fun k hk => ?_) h4.size, h5, Nat.le_trans h6 hm.out.size⟩, Lib.hid (Kp.of_mv hm.out (fun k hk => ?_))⟩
    · exact (h5 k (by simp only [List.mem_cons, List.not_mem_nil, or_false] at hk ⊢; rcases hk with q | q | q | q <;> simp [q])).1
    · exact (h5 k (by simp only [List.mem_cons, List.not_mem_nil, or_false] at hk ⊢; rcases hk with q | q | q | q <;> simp [q])).2
end
end Go.Proofs.Ytjnepegohfhgiaa

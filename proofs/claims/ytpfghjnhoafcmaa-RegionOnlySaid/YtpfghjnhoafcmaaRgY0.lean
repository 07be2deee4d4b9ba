/-
  A disk and two names that a law plays with.
-/
import Derived.Test.YtpfghjnhoafcmaaRgX0
namespace Go.Proofs.Ytpfghjnhoafcmaa
open Go.RowKit

/-- A disk at block d, names at block g, other names at block g2, in a law that began at x. -/
def Vt (x : World) (K : Nat) (y : World) (d g g2 : Nat) (m : Dk.M) (S S2 : Nm.St) : Prop :=
  ∃ (T : Nat → Prop) (lb rb cb b c b2 c2 : Nat), DkAt y T d lb rb cb m ∧ StAt y g b c S ∧ StAt y g2 b2 c2 S2 ∧ (∀ k ∈ [g, b, c, g2, b2, c2], ¬ T k) ∧ (b ∉ [g2, b2, c2] ∧ b2 ∉ [g, b, c]) ∧ Below x.heap.size x y ∧ (∀ k ∈ [d, lb, rb, cb, b, b2], x.heap.size ≤ k ∧ k < K) ∧ K ≤ y.heap.size
section
variable {x y z : World} {K d g g2 : Nat} {m m' : Dk.M} {S S' S2 S2' : Nm.St} {T : Nat → Prop} {lb rb cb b c b2 c2 : Nat}
theorem Vt.old (h : Vt x K y d g g2 m S S2) (hb : Below y.heap.size y z) : Vt x K z d g g2 m S S2 := by
  obtain ⟨T, lb, rb, cb, b, c, b2, c2, h1, h2, h2', h3, h3', h4, h5, h6⟩ := h
  exact ⟨T, lb, rb, cb, b, c, b2, c2, h1.old hb, h2.old hb, h2'.old hb, h3, h3', h4.trans (hb.mono h4.size), h5, Nat.le_trans h6 hb.size⟩
theorem Vt.low (h : Vt x K y d g g2 m S S2) : Below x.heap.size x y := by
  obtain ⟨T, lb, rb, cb, b, c, b2, c2, h1, h2, h2', h3, h3', h4, h5, h6⟩ := h
  exact h4
theorem Vt.size (h : Vt x K y d g g2 m S S2) : K ≤ y.heap.size := by
  obtain ⟨T, lb, rb, cb, b, c, b2, c2, h1, h2, h2', h3, h3', h4, h5, h6⟩ := h
  exact h6
theorem Vt.swap (h : Vt x K y d g g2 m S S2) : Vt x K y d g2 g m S2 S := by
  obtain ⟨T, lb, rb, cb, b, c, b2, c2, h1, h2, h2', h3, h3', h4, h5, h6⟩ := h
  refine ⟨T, lb, rb, cb, b2, c2, b, c, h1, h2', h2, fun k hk => h3 k ?_, ⟨h3'.2, h3'.1⟩, h4, fun k hk => h5 k ?_, h6⟩
  · simp only [List.mem_cons, List.not_mem_nil, or_false] at hk ⊢
    rcases hk with q | q | q | q | q | q <;> simp [q]
  · simp only [List.mem_cons, List.not_mem_nil, or_false] at hk ⊢
    rcases hk with q | q | q | q | q | q <;> simp [q]
theorem Vt.vs (h : Vt x K y d g g2 m S S2) : Vs x K y d g m S := by
  obtain ⟨T, lb, rb, cb, b, c, b2, c2, h1, h2, h2', h3, h3', h4, h5, h6⟩ := h
  refine ⟨T, lb, rb, cb, b, c, h1, h2, ⟨h3 g (by simp), h3 b (by simp), h3 c (by simp)⟩, h4, fun k hk => h5 k ?_, h6⟩
  simp only [List.mem_cons, List.not_mem_nil, or_false] at hk ⊢
  rcases hk with q | q | q | q | q <;> simp [q]
theorem vt_step (_h1 : DkAt y T d lb rb cb m) (h2 : StAt y g b c S) (h2' : StAt y g2 b2 c2 S2) (h3 : ∀ k ∈ [g, b, c, g2, b2, c2], ¬ T k) (h3' : b ∉ [g2, b2, c2] ∧ b2 ∉ [g, b, c]) (h4 : Below x.heap.size x y) (h5 : ∀ k ∈ [d, lb, rb, cb, b, b2], x.heap.size ≤ k ∧ k < K) (h6 : K ≤ y.heap.size)
    {ks : List Nat} (hks : ∀ k ∈ ks, k ∈ [d, lb, rb, cb, b, b2]) (hd : DkAt z (Own T y z) d lb rb cb m') (hm : Mv ks y z) (s1 : StAt z g b c S') (s2 : StAt z g2 b2 c2 S2') : Vt x K z d g g2 m' S' S2' ∧ Kp K y z := by
  have hl : ∀ k ∈ [g, b, c, g2, b2, c2], k < y.heap.size := fun k hk => by
    have a := h2.lt
    have a' := h2'.lt
    simp only [List.mem_cons, List.not_mem_nil, or_false] at hk
    rcases hk with rfl | rfl | rfl | rfl | rfl | rfl
    · exact a.1
    · exact a.2.1
    · exact a.2.2
    · exact a'.1
    · exact a'.2.1
    · exact a'.2.2
  refine ⟨⟨Own T y z, lb, rb, cb, b, c, b2, c2, hd, s1, s2, fun k hk hq => ?_, h3', hm.below h4 (fun k hk => (h5 k (hks k hk)).1) h4.size, h5, Nat.le_trans h6 hm.size⟩, Kp.of_mv hm (fun k hk => (h5 k (hks k hk)).2)⟩
  rcases hq with q | q
  · exact h3 k hk q
  · have := hl k hk
    omega
theorem vt_disk (h1 : DkAt y T d lb rb cb m) (h2 : StAt y g b c S) (h2' : StAt y g2 b2 c2 S2) (h3 : ∀ k ∈ [g, b, c, g2, b2, c2], ¬ T k) (h3' : b ∉ [g2, b2, c2] ∧ b2 ∉ [g, b, c]) (h4 : Below x.heap.size x y) (h5 : ∀ k ∈ [d, lb, rb, cb, b, b2], x.heap.size ≤ k ∧ k < K) (h6 : K ≤ y.heap.size)
    (hd : DkAt z (Own T y z) d lb rb cb m') (hm : Mv [d, lb, rb, cb] y z) : Vt x K z d g g2 m' S S2 ∧ Kp K y z := by
  have hks : ∀ k ∈ [d, lb, rb, cb], T k := fun k hk => by
    simp only [List.mem_cons, List.not_mem_nil, or_false] at hk
    rcases hk with rfl | rfl | rfl | rfl
    · exact h1.lt.1
    · exact h1.lt.2.1
    · exact h1.lt.2.2.1
    · exact h1.lt.2.2.2
  have nk : ∀ k ∈ [g, b, c, g2, b2, c2], k ∉ [d, lb, rb, cb] := fun k hk q => h3 k hk (hks k q)
  exact vt_step h1 h2 h2' h3 h3' h4 h5 h6 (fun k hk => by
    simp only [List.mem_cons, List.not_mem_nil, or_false] at hk ⊢
    rcases hk with q | q | q | q <;> simp [q]) hd hm
    (h2.keep (hm.block _ h2.lt.1 (nk _ (by simp))) (hm.block _ h2.lt.2.1 (nk _ (by simp))) (hm.block _ h2.lt.2.2 (nk _ (by simp))))
    (h2'.keep (hm.block _ h2'.lt.1 (nk _ (by simp))) (hm.block _ h2'.lt.2.1 (nk _ (by simp))) (hm.block _ h2'.lt.2.2 (nk _ (by simp))))
/-- Behind a call. -/
def VtSay (x : World) (K : Nat) (d g g2 : Nat) (v : Value) (m : Dk.M) (S S2 : Nm.St) (y : World) (e : Ending) (z : World) : Prop := e = .returned v ∧ Hid (Vt x K z d g g2 m S S2) ∧ Hid (Kp K y z)
theorem vt_sync (h : Vt x K y d g g2 m S S2) : Calls Try.prog 38 #[.pointer (some ⟨d, 0, none⟩)] y (VtSay x K d g g2 (.int .i64 (Dk.spendE m)) (Dk.syM m) S S2 y) := by
  obtain ⟨T, lb, rb, cb, b, c, b2, c2, h1, h2, h2', h3, h3', h4, h5, h6⟩ := h
  refine (sync_any y h1).mono ?_
  rintro e z ⟨rfl, hd, hm⟩
  have h := vt_disk h1 h2 h2' h3 h3' h4 h5 h6 (own_lift hd.out y) hm.out
  exact ⟨rfl, h.1, h.2⟩
theorem vt_arm (n : Int) (hn : In64 n) (h : Vt x K y d g g2 m S S2) : Calls Try.prog 40 #[.pointer (some ⟨d, 0, none⟩), .int .i64 n] y (VtSay x K d g g2 (.tuple #[]) { m with left := n } S S2 y) := by
  obtain ⟨T, lb, rb, cb, b, c, b2, c2, h1, h2, h2', h3, h3', h4, h5, h6⟩ := h
  refine (arm_any n hn y h1).mono ?_
  rintro e z ⟨rfl, hd, hm⟩
  have hm' : Mv [d, lb, rb, cb] y z := ⟨hm.os, hm.tape, hm.output, hm.size, fun k h1 h2 => hm.block k h1 (fun q => h2 (by rw [List.mem_singleton] at q; simp [q]))⟩
  have h := vt_disk h1 h2 h2' h3 h3' h4 h5 h6 (own_lift hd.out y) hm'
  exact ⟨rfl, h.1, h.2⟩
theorem vt_crash (h : Vt x K y d g g2 m S S2) (hwr : m.wr ≤ 1000000000) (L : List Int) (p : Option Addr) (n c' : Nat) (hn : L.length = n) (hl : IAt x p L) :
    Calls Try.prog 39 #[.pointer (some ⟨d, 0, none⟩), .slice p n c'] y (VtSay x K d g g2 (.tuple #[]) (Dk.crash m (Dk.fate L)) S S2 y) := by
  obtain ⟨T, lb, rb, cb, b, c, b2, c2, h1, h2, h2', h3, h3', h4, h5, h6⟩ := h
  have hin : ∀ k ∈ [d, lb, rb, cb], x.heap.size ≤ k := fun k hk => (h5 k (by
    simp only [List.mem_cons, List.not_mem_nil, or_false] at hk ⊢
    rcases hk with q | q | q | q <;> simp [q])).1
  refine (crash_any L p n c' hn y h1 hwr (fun z hz => hl.old (hz.below h4 hin h4.size))).mono ?_
  rintro e z ⟨rfl, hd, hm⟩
  have h := vt_disk h1 h2 h2' h3 h3' h4 h5 h6 (own_lift hd.out y) hm.out
  exact ⟨rfl, h.1, h.2⟩
theorem vt_tamper (i : Int) (L : List Int) (p : Option Addr) (n c' : Nat) (hn : L.length = n) (hnb : n ≤ 1000000) (h : Vt x K y d g g2 m S S2) (hb : Bs y p c' L) :
    Calls Try.prog 11 #[.pointer (some ⟨d, 0, none⟩), .int .i64 i, .slice p n c'] y (VtSay x K d g g2 (.int .i64 (Dk.fault m i L)) (Dk.tpM m i L) S S2 y) := by
  obtain ⟨T, lb, rb, cb, b, c, b2, c2, h1, h2, h2', h3, h3', h4, h5, h6⟩ := h
  refine (tamper_any i L p n c' hn hnb y h1 hb).mono ?_
  rintro e z ⟨rfl, hd, hm⟩
  have h := vt_disk h1 h2 h2' h3 h3' h4 h5 h6 hd.out hm.out
  exact ⟨rfl, h.1, h.2⟩
/-- Behind Read: a row of its own. -/
def VtRd (x : World) (K : Nat) (d g g2 : Nat) (i : Int) (m : Dk.M) (S S2 : Nm.St) (y : World) (e : Ending) (z : World) : Prop :=
  ∃ p c, e = .returned (.tuple #[.slice p (Dk.rdX m i).length c, .int .i64 (Dk.rdE m i)]) ∧ Hid (z.ownsRow y.heap.size 5 1 (.slice p (Dk.rdX m i).length c) (Dk.rdX m i).length (U8s (Dk.rdX m i))) ∧ Hid (Bs z p c (Dk.rdX m i)) ∧ Hid (Vt x K z d g g2 (Dk.rdM m i) S S2) ∧ Hid (Kp K y z)
theorem vt_read (i : Int) (hrd : ∀ j, m.rd j ≤ 1000000000) (h : Vt x K y d g g2 m S S2) : Calls Try.prog 17 #[.pointer (some ⟨d, 0, none⟩), .int .i64 i] y (VtRd x K d g g2 i m S S2 y) := by
  obtain ⟨T, lb, rb, cb, b, c, b2, c2, h1, h2, h2', h3, h3', h4, h5, h6⟩ := h
  refine (read_anyD i y h1 hrd).mono ?_
  rintro e z ⟨v, rfl, ho, hd, hm⟩
  have h := vt_disk h1 h2 h2' h3 h3' h4 h5 h6 (own_lift hd.out y) hm.out
  obtain ⟨p, c', hv, hbs, hl⟩ := own_bs ho.out.1 ho.out.2
  subst hv
  exact ⟨p, c', rfl, ho.out.1, hbs, h.1, h.2⟩
theorem vt_write (r : Rg.R) (hr : Rg.Ok r) (n : Int) (h : Vt x K y d g g2 m S S2) (hwr : m.wr ≤ 1000000000) (hl : S.ss.length ≤ 100000) :
    Calls Try.prog 13 #[.pointer (some ⟨d, 0, none⟩), .iface 29 (.pointer (some ⟨g, 0, none⟩)), RV r, .int .i64 n] y (VtSay x K d g g2 (.int .i64 (Rg.vE m S r n)) (Rg.vM m S r n) (Rg.vS S r n) S2 y) := by
  obtain ⟨T, lb, rb, cb, b, c, b2, c2, h1, h2, h2', h3, h3', h4, h5, h6⟩ := h
  have hx : (Rg.vX S r n).2.length ≤ 1000000 := Rg.vX_len hr S n
  refine (write_gen 29 (.pointer (some ⟨g, 0, none⟩)) r hr n (Rg.vX S r n) [b] (fun _ z => StAt z g b c (Sc.nd S (Rg.sec r n))) y h1 (fun k hk => by rw [List.mem_singleton] at hk; rw [hk]; exact h3 b (by simp)) hx hwr (fun _ z p c' hz hp => ?_)).mono ?_
  · refine (nput_any S g b c (Rg.sec r n) p 192 c' (Rg.sec_len hr n) z (h2.old hz) hp hl).mono ?_
    rintro e z' ⟨u, mm, dd, he, hm, ho, hs, hst, hon⟩
    refine ⟨u, mm, dd, ?_, ?_, ?_, ?_, hst, Mv.only hon (by simp)⟩
    · rw [he]; unfold Rg.vX; rfl
    · unfold Rg.vX; exact hm
    · unfold Rg.vX; exact ho
    · unfold Rg.vX; exact hs
  · rintro e z ⟨he, hd, hm, z1, z2, hz1, hz2, hz3⟩
    have hks : ∀ k ∈ [d, lb, rb, cb], T k := fun k hk => by
      simp only [List.mem_cons, List.not_mem_nil, or_false] at hk
      rcases hk with rfl | rfl | rfl | rfl
      · exact h1.lt.1
      · exact h1.lt.2.1
      · exact h1.lt.2.2.1
      · exact h1.lt.2.2.2
    have nk : ∀ k ∈ [g, b, c, g2, b2, c2], k ∉ [d, lb, rb, cb] := fun k hk q => h3 k hk (hks k q)
    have hst : StAt z g b c (Rg.vS S r n) := by
      have key : ∀ S', StAt z2 g b c S' → StAt z g b c S' := fun S' hS => hS.keep (hz3.block _ hS.lt.1 (nk _ (by simp))) (hz3.block _ hS.lt.2.1 (nk _ (by simp))) (hz3.block _ hS.lt.2.2 (nk _ (by simp)))
      unfold Rg.vS
      cases hmy : Rg.may r with
      | true => rw [hmy, if_pos rfl] at hz2; rw [if_pos rfl]; exact key _ hz2
      | false => rw [hmy, if_neg (by decide)] at hz2; rw [if_neg (by decide), ]; subst hz2; exact key _ (h2.old hz1)
    have hmo : Mv ([d, lb, rb, cb] ++ [b]) y z := hm.out
    have no : ∀ k ∈ [g2, b2, c2], k ∉ [d, lb, rb, cb] ++ [b] := fun k hk q => by
      rcases List.mem_append.1 q with q | q
      · refine nk k ?_ q
        simp only [List.mem_cons, List.not_mem_nil, or_false] at hk ⊢
        rcases hk with e | e | e <;> simp [e]
      · rw [List.mem_singleton] at q
        rw [q] at hk
        exact h3'.1 hk
    have hst2 : StAt z g2 b2 c2 S2 := h2'.keep (hmo.block _ h2'.lt.1 (no _ (by simp))) (hmo.block _ h2'.lt.2.1 (no _ (by simp))) (hmo.block _ h2'.lt.2.2 (no _ (by simp)))
    have hf := vt_step h1 h2 h2' h3 h3' h4 h5 h6 (fun k hk => by
      simp only [List.mem_append, List.mem_cons, List.not_mem_nil, or_false] at hk ⊢
      rcases hk with (q | q | q | q) | q <;> simp [q]) (show DkAt z (Own T y z) d lb rb cb (Rg.vM m S r n) by have := hd.out; unfold Rg.vM; exact this) hmo hst hst2
    exact ⟨by rw [he]; unfold Rg.vE; rfl, hf.1, hf.2⟩
/-- Behind All. -/
def VtAll (x : World) (K : Nat) (d g g2 : Nat) (m : Dk.M) (S S2 : Nm.St) (y : World) (e : Ending) (z : World) : Prop :=
  ∃ v, e = .returned v ∧ Hid (RsO y.heap.size z v (Rg.vA m S)) ∧ Hid (∀ r ∈ Rg.vA m S, Rg.Ok r) ∧ Hid (Vt x K z d g g2 (Rg.alM m 2) S S2) ∧ Hid (Kp K y z)
theorem vt_all (h : Vt x K y d g g2 m S S2) (hrd : ∀ j, m.rd j ≤ 999999990) :
    Calls Try.prog 15 #[.pointer (some ⟨d, 0, none⟩), .iface 29 (.pointer (some ⟨g, 0, none⟩))] y (VtAll x K d g g2 m S S2 y) := by
  have hbt := h.vs.byt
  obtain ⟨T, lb, rb, cb, b, c, b2, c2, h1, h2, h2', h3, h3', h4, h5, h6⟩ := h
  have hxb : ∀ i : Int, Sha.Byt (Dk.rdX m i) := fun i => by
    unfold Dk.rdX
    by_cases q : Dk.here m i = true
    · rw [if_pos q]
      obtain ⟨j, rfl, hj⟩ := Dk.here_of q
      rw [Int.toNat_natCast]
      exact hbt j hj
    · rw [if_neg q]; exact fun w hw => by cases hw
  have hks : ∀ k ∈ [d, lb, rb, cb], T k := fun k hk => by
    simp only [List.mem_cons, List.not_mem_nil, or_false] at hk
    rcases hk with rfl | rfl | rfl | rfl
    · exact h1.lt.1
    · exact h1.lt.2.1
    · exact h1.lt.2.2.1
    · exact h1.lt.2.2.2
  have nk : ∀ k ∈ [g, b, c, g2, b2, c2], k ∉ [d, lb, rb, cb] := fun k hk q => h3 k hk (hks k q)
  have key : ∀ z, Mv [d, lb, rb, cb] y z → StAt z g b c S := fun z hz => h2.keep (hz.block _ h2.lt.1 (nk _ (by simp))) (hz.block _ h2.lt.2.1 (nk _ (by simp))) (hz.block _ h2.lt.2.2 (nk _ (by simp)))
  refine (all_gen 29 (.pointer (some ⟨g, 0, none⟩)) (Rg.vG S) y h1 hrd (fun k _ => ?_) (fun k _ => ?_) (fun k _ z q n c' hz hn hb => ?_)).mono ?_
  · unfold Rg.vG; exact Nat.le_trans (gt_len S _ _ _) (by omega)
  · unfold Rg.vG; exact gt_byt S _ _ (hxb _)
  · unfold Rg.vG; exact nget_any S g b c 2 _ _ q n c' hn z (key z hz) hb
  · rintro e z ⟨v, rfl, ho, hok, hd, hm⟩
    have ev : Rg.al m (Rg.vG S) = Rg.vA m S := by unfold Rg.vA; rfl
    rw [ev] at ho hok
    have hf := vt_disk h1 h2 h2' h3 h3' h4 h5 h6 (own_lift hd.out y) hm.out
    exact ⟨v, rfl, ho, hok, hf.1, hf.2⟩
theorem vt_make {w1 w2 : World} (hd : DkAt w1 (fun k => x.heap.size ≤ k ∧ k < w1.heap.size) d lb rb cb m) (hb : Below x.heap.size x w1) (hs : StAt w2 g b c S) (hg : w1.heap.size ≤ g ∧ w1.heap.size ≤ b ∧ w1.heap.size ≤ c) (hb2 : Below w1.heap.size w1 w2)
    (hs2 : StAt y g2 b2 c2 S2) (hg2 : w2.heap.size ≤ g2 ∧ w2.heap.size ≤ b2 ∧ w2.heap.size ≤ c2) (hb3 : Below w2.heap.size w2 y) : Vt x y.heap.size y d g g2 m S S2 := by
  have l := hd.lt
  have s := hb2.size
  have s3 := hb3.size
  have t := hs.lt
  have t2 := hs2.lt
  have hx := hb.size
  refine ⟨_, lb, rb, cb, b, c, b2, c2, (hd.old hb2).old hb3, hs.old hb3, hs2, fun k hk q => ?_, ⟨fun q => ?_, fun q => ?_⟩, (hb.trans (hb2.mono hb.size)).trans (hb3.mono (Nat.le_trans hb.size hb2.size)), fun k hk => ?_, Nat.le_refl _⟩
  · simp only [List.mem_cons, List.not_mem_nil, or_false] at hk
    rcases hk with rfl | rfl | rfl | rfl | rfl | rfl <;> omega
  · simp only [List.mem_cons, List.not_mem_nil, or_false] at q
    rcases q with q | q | q <;> omega
  · simp only [List.mem_cons, List.not_mem_nil, or_false] at q
    rcases q with q | q | q <;> omega
  · simp only [List.mem_cons, List.not_mem_nil, or_false] at hk
    have e1 := l.1.1
    have e2 := l.2.1.1
    have e3 := l.2.2.1.1
    have e4 := l.2.2.2.1
    have f1 := l.1.2
    have f2 := l.2.1.2
    have f3 := l.2.2.1.2
    have f4 := l.2.2.2.2
    rcases hk with rfl | rfl | rfl | rfl | rfl | rfl <;> constructor <;> omega
/-- A row of the law's own turns. -/
theorem vt_far {e : TypeId} {row : Option Nat} {o : Obj} (h : Vt x K y d g g2 m S S2) (hq : ∀ q, row = some q → K ≤ q ∧ ∃ cur, y.heap[q]? = some (.cells cur e (0, 0))) (he : e ≠ 5) (hn : e ≠ 79)
    (hg : (y.alloc o).grownBy z row) : Vt x K z d g g2 m S S2 ∧ Kp (y.heap.size + 1) y z := by
  obtain ⟨T, lb, rb, cb, b, c, b2, c2, h1, h2, h2', h3, h3', h4, h5, h6⟩ := h
  have hy : ∀ k, k < y.heap.size → (y.alloc o).heap[k]? = y.heap[k]? := fun k hk => ((Below.refl _ y).alloc (Nat.le_refl _) o).block k hk
  have hs : y.heap.size ≤ z.heap.size := Nat.le_trans ((Below.refl _ y).alloc (Nat.le_refl _) o).size hg.size
  have hb : ∀ k, k < y.heap.size → some k ≠ row → z.heap[k]? = y.heap[k]? := fun k hk hr => (hg.block k (Nat.lt_of_lt_of_le hk ((Below.refl _ y).alloc (Nat.le_refl _) o).size) hr).trans (hy k hk)
  have hlow : ∀ k, k < K → k < y.heap.size → z.heap[k]? = y.heap[k]? := fun k hk hk2 => hb k hk2 (fun q => by have := (hq k q.symm).1; omega)
  have htyp : ∀ (k : Nat) (ob : Obj), y.heap[k]? = some ob → (∀ cur, ob ≠ Obj.cells cur e (0, 0)) → z.heap[k]? = y.heap[k]? := fun k ob hk hne => hb k (lt_of_block hk) (fun q => by
    obtain ⟨_, cur, hc⟩ := hq k q.symm
    rw [hk] at hc
    injection hc with hc
    exact hne cur hc)
  have t1 := h1.lt
  have t2 := h1.top
  have kd : ∀ k ∈ [d, lb, rb, cb, b, b2], k < y.heap.size → z.heap[k]? = y.heap[k]? := fun k hk hl => hlow k (h5 k hk).2 hl
  have st : ∀ (g b c : Nat) (S : Nm.St), StAt y g b c S → b ∈ [d, lb, rb, cb, b, b2] → z.heap[b]? = y.heap[b]? → StAt z g b c S := fun g b c S h2 _ hb => by
    obtain ⟨_, _, es, cl, hc, _⟩ := h2.ts
    exact h2.keep (htyp g _ h2.row (fun cur q => by injection q with _ q _; exact hn q.symm)) hb (htyp c _ hc (fun cur q => by cases q))
  refine ⟨⟨T, lb, rb, cb, b, c, b2, c2, h1.keep (fun k hk => Nat.lt_of_lt_of_le (t2 k hk) hs) (kd d (by simp) (t2 _ t1.1)) (kd lb (by simp) (t2 _ t1.2.1)) (kd rb (by simp) (t2 _ t1.2.2.1)) (kd cb (by simp) (t2 _ t1.2.2.2)) (fun k cur _ hk => htyp k _ hk (fun cur' q => ?_)), st g b c S h2 (by simp) (kd b (by simp) h2.lt.2.1), st g2 b2 c2 S2 h2' (by simp) (kd b2 (by simp) h2'.lt.2.1), h3, h3', ⟨?_, ?_, ?_, Nat.le_trans h4.size hs, fun k hk => ?_⟩, h5, Nat.le_trans h6 hs⟩, ⟨hs, fun k h1 h2 => by omega⟩⟩
  · injection q with _ q _
    exact he q.symm
  · exact hg.os.trans h4.os
  · exact hg.tape.trans h4.tape
  · exact hg.output.trans h4.output
  · have hkk : k < y.heap.size := Nat.lt_of_lt_of_le hk h4.size
    have hxK : x.heap.size ≤ K := by have := h5 d (by simp); omega
    exact (hlow k (by omega) hkk).trans (h4.block k hk)
end

end Go.Proofs.Ytpfghjnhoafcmaa

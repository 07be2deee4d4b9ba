/-
  Both counters on both disks, apart; what each call leaves.
-/
import Derived.Test.YtglfjjmbadffmaaCoG
namespace Go.Proofs.Ytglfjjmbadffmaa
open Go.RowKit

/-- The program's disk and the reference's, apart. -/
structure Bth (x y : World) (T : Nat → Prop) (d lb rb cb : Nat) (m : Dk.M) (U : Nat → Prop) (r qb : Nat) (k : Dk.M) : Prop where
  a : Sit x y T d lb rb cb m
  b : RfAt y U r qb k
  base : ∀ g, U g → x.heap.size ≤ g
  ap : ∀ g, T g → ¬ U g
section
variable {x y z : World} {T U : Nat → Prop} {d lb rb cb r qb : Nat} {m m' k k' : Dk.M}
theorem Bth.next (h : Bth x y T d lb rb cb m U r qb k) (hb : Below y.heap.size y z) : Bth x z T d lb rb cb m U r qb k := ⟨h.a.next hb, h.b.old hb, h.base, h.ap⟩
theorem Bth.nd (h : Bth x y T d lb rb cb m U r qb k) : ∀ j ∈ [d, lb, rb, cb], ¬ U j := fun j hj => by
  simp at hj
  rcases hj with rfl | rfl | rfl | rfl
  · exact h.ap _ h.a.dk.lt.1
  · exact h.ap _ h.a.dk.lt.2.1
  · exact h.ap _ h.a.dk.lt.2.2.1
  · exact h.ap _ h.a.dk.lt.2.2.2
theorem Bth.nr (h : Bth x y T d lb rb cb m U r qb k) : ∀ j ∈ [r, qb], ¬ T j := fun j hj ht => by
  simp at hj
  rcases hj with rfl | rfl
  · exact h.ap _ ht h.b.lt.1
  · exact h.ap _ ht h.b.lt.2
theorem Bth.kr (h : Bth x y T d lb rb cb m U r qb k) : ∀ j ∈ [r, qb], x.heap.size ≤ j := fun j hj => by
  simp at hj
  rcases hj with rfl | rfl
  · exact h.base _ h.b.lt.1
  · exact h.base _ h.b.lt.2
end
section
variable {U : Nat → Prop} {r qb : Nat} {m : Dk.M}
theorem refwrite_any (i : Int) (L : List Int) (p : Option Addr) (n c : Nat) (hn : L.length = n) (hnb : n ≤ 1000000) (hwr : m.wr ≤ 1000000000) (w : World) (hd : RfAt w U r qb m) (hb : Bs w p c L) :
    Calls Try.prog 33 #[.pointer (some ⟨r, 0, none⟩), .int .i64 i, .slice p n c] w (RfSay U r qb (.int .i64 (Dk.wrE m i L)) (Dk.wrM m i L) w) := by
  obtain ⟨vl, vc, G, h⟩ := hd
  exact refwrite_c i L p n c hn hnb hwr w h hb
theorem refsync_any (w : World) (hd : RfAt w U r qb m) : Calls Try.prog 34 #[.pointer (some ⟨r, 0, none⟩)] w (RfSay U r qb (.int .i64 (Dk.spendE m)) (Dk.syM m) w) := by
  obtain ⟨vl, vc, G, h⟩ := hd
  exact refsync_c w h
theorem refcrash_any (L : List Int) (lp : Option Addr) (lc : Nat) (w : World) (hd : RfAt w U r qb m) (hlp : ∀ y, Mv [r, qb] w y → IAt y lp L) : Calls Try.prog 32 #[.pointer (some ⟨r, 0, none⟩), .slice lp L.length lc] w (RfSay U r qb (.tuple #[]) (Dk.crash m (Dk.fate L)) w) := by
  obtain ⟨vl, vc, G, h⟩ := hd
  exact refcrash_c L lp lc w h hlp
end
/-- Both counters on both disks, and blocks B that stay. -/
structure RuS (x y : World) (T : Nat → Prop) (d lb rb cb : Nat) (m : Dk.M) (U : Nat → Prop) (r qb : Nat) (k : Dk.M) (c e : Nat) (v u : Int) (B : List (Nat × Obj)) : Prop where
  s : Bth x y T d lb rb cb m U r qb k
  c1 : CnAt y c d v
  c2 : RcAt y e r u
  ix : x.heap.size ≤ c ∧ x.heap.size ≤ e
  off : ¬ T c ∧ ¬ U c ∧ ¬ T e ∧ ¬ U e ∧ c ≠ e
  bx : ∀ p ∈ B, y.heap[p.1]? = some p.2 ∧ ¬ T p.1 ∧ ¬ U p.1 ∧ p.1 ≠ c ∧ p.1 ≠ e
theorem block_lt {y : World} {g : Nat} {o : Obj} (h : y.heap[g]? = some o) : g < y.heap.size := (Array.getElem?_eq_some_iff.mp h).1
section
variable {x y z : World} {T U : Nat → Prop} {d lb rb cb r qb c e : Nat} {m m' k k' : Dk.M} {v v' u u' : Int} {B : List (Nat × Obj)}
theorem RuS.inT (h : RuS x y T d lb rb cb m U r qb k c e v u B) {j : Nat} (hj : j ∈ [d, lb, rb, cb]) : T j := by
  simp at hj
  rcases hj with rfl | rfl | rfl | rfl
  · exact h.s.a.dk.lt.1
  · exact h.s.a.dk.lt.2.1
  · exact h.s.a.dk.lt.2.2.1
  · exact h.s.a.dk.lt.2.2.2
theorem RuS.inU (h : RuS x y T d lb rb cb m U r qb k c e v u B) {j : Nat} (hj : j ∈ [r, qb]) : U j := by
  simp at hj
  rcases hj with rfl | rfl
  · exact h.s.b.lt.1
  · exact h.s.b.lt.2
theorem RuS.dsk (h : RuS x y T d lb rb cb m U r qb k c e v u B) (hd : DkAt z (Own T y z) d lb rb cb m') (hc : CnAt z c d v') (hm : Mv [d, lb, rb, cb, c] y z) : RuS x z (Own T y z) d lb rb cb m' U r qb k c e v' u B := by
  have hks : ∀ j ∈ [d, lb, rb, cb, c], j ∈ [d, lb, rb, cb] ∨ j = c := fun j hj => by
    simp at hj ⊢
    omega
  have hT : ∀ g, Own T y z g → ¬ U g := fun g hg hu => by
    rcases hg with hg | hg
    · exact h.s.ap g hg hu
    · have := h.s.b.top g hu; omega
  have nO : ∀ g, ¬ T g → g < y.heap.size → ¬ Own T y z g := fun g h1 h2 h3 => by
    rcases h3 with h3 | h3
    · exact h1 h3
    · omega
  have keep : ∀ g, ¬ T g → g ≠ c → g ∉ [d, lb, rb, cb, c] := fun g h1 h2 hm => by
    rcases hks g hm with q | q
    · exact h1 (h.inT q)
    · exact h2 q
  refine ⟨⟨⟨hd, hm.below h.s.a.old (fun j hj => ?_) h.s.a.old.size, fun g hg => ?_⟩, h.s.b.mv hm (fun j hj hu => ?_), h.s.base, hT⟩, hc, h.c2.mv hm (keep e h.off.2.2.1 (fun q => h.off.2.2.2.2 q.symm)), h.ix, ⟨nO c h.off.1 h.c1.lt, h.off.2.1, nO e h.off.2.2.1 h.c2.lt, h.off.2.2.2⟩, fun p hp => ?_⟩
  · rcases hks j hj with q | q
    · exact h.s.a.base j (h.inT q)
    · rw [q]; exact h.ix.1
  · rcases hg with hg | hg
    · exact h.s.a.base g hg
    · exact Nat.le_trans h.s.a.old.size hg.1
  · rcases hks j hj with q | q
    · exact h.s.ap j (h.inT q) hu
    · rw [q] at hu; exact h.off.2.1 hu
  · obtain ⟨b1, b2, b3, b4, b5⟩ := h.bx p hp
    exact ⟨(hm.block p.1 (block_lt b1) (keep p.1 b2 b4)).trans b1, nO p.1 b2 (block_lt b1), b3, b4, b5⟩
theorem RuS.ref (h : RuS x y T d lb rb cb m U r qb k c e v u B) (hd : RfAt z (Own U y z) r qb k') (hc : RcAt z e r u') (hm : Mv [r, qb, e] y z) : RuS x z T d lb rb cb m (Own U y z) r qb k' c e v u' B := by
  have hks : ∀ j ∈ [r, qb, e], j ∈ [r, qb] ∨ j = e := fun j hj => by
    simp at hj ⊢
    omega
  have hT : ∀ g, T g → ¬ Own U y z g := fun g hg hu => by
    rcases hu with hu | hu
    · exact h.s.ap g hg hu
    · have := h.s.a.dk.top g hg; omega
  have nO : ∀ g, ¬ U g → g < y.heap.size → ¬ Own U y z g := fun g h1 h2 h3 => by
    rcases h3 with h3 | h3
    · exact h1 h3
    · omega
  have keep : ∀ g, ¬ U g → g ≠ e → g ∉ [r, qb, e] := fun g h1 h2 hm => by
    rcases hks g hm with q | q
    · exact h1 (h.inU q)
    · exact h2 q
  refine ⟨⟨⟨h.s.a.dk.mv hm (fun j hj ht => ?_), hm.below h.s.a.old (fun j hj => ?_) h.s.a.old.size, h.s.a.base⟩, hd, fun g hg => ?_, hT⟩, h.c1.mv hm (keep c h.off.2.1 h.off.2.2.2.2), hc, h.ix, ⟨h.off.1, nO c h.off.2.1 h.c1.lt, h.off.2.2.1, nO e h.off.2.2.2.1 h.c2.lt, h.off.2.2.2.2⟩, fun p hp => ?_⟩
  · rcases hks j hj with q | q
    · exact h.s.ap j ht (h.inU q)
    · rw [q] at ht; exact h.off.2.2.1 ht
  · rcases hks j hj with q | q
    · exact h.s.base j (h.inU q)
    · rw [q]; exact h.ix.2
  · rcases hg with hg | hg
    · exact h.s.base g hg
    · exact Nat.le_trans h.s.a.old.size hg.1
  · obtain ⟨b1, b2, b3, b4, b5⟩ := h.bx p hp
    exact ⟨(hm.block p.1 (block_lt b1) (keep p.1 b3 b5)).trans b1, b2, nO p.1 b3 (block_lt b1), b4, b5⟩
theorem RuS.next (h : RuS x y T d lb rb cb m U r qb k c e v u B) (hb : Below y.heap.size y z) : RuS x z T d lb rb cb m U r qb k c e v u B :=
  ⟨h.s.next hb, h.c1.old hb, h.c2.old hb, h.ix, h.off, fun p hp => by
    obtain ⟨b1, b2⟩ := h.bx p hp
    exact ⟨(hb.block p.1 (block_lt b1)).trans b1, b2⟩⟩
end
/-- .. hidden. -/
def Ru (x y : World) (d c r e : Nat) (m : Dk.M) (v : Int) (k : Dk.M) (u : Int) (B : List (Nat × Obj)) : Prop := ∃ T lb rb cb U qb, RuS x y T d lb rb cb m U r qb k c e v u B
section
variable {x w y z : World} {d c r e : Nat} {m k : Dk.M} {v u : Int} {B : List (Nat × Obj)}
theorem Ru.old (h : Ru x y d c r e m v k u B) : Below x.heap.size x y := by
  obtain ⟨T, lb, rb, cb, U, qb, h⟩ := h
  exact h.s.a.old
theorem Ru.next (h : Ru x y d c r e m v k u B) (hb : Below y.heap.size y z) : Ru x z d c r e m v k u B := by
  obtain ⟨T, lb, rb, cb, U, qb, h⟩ := h
  exact ⟨T, lb, rb, cb, U, qb, h.next hb⟩
theorem Ru.drew (h : Ru x y d c r e m v k u B) : Ru x y.drew d c r e m v k u B := h.next (Below.refl _ _).drew
theorem Ru.box (h : Ru x y d c r e m v k u B) (o : Obj) : Ru x (y.alloc o) d c r e m v k u [(y.heap.size, o)] := by
  obtain ⟨T, lb, rb, cb, U, qb, h⟩ := h
  have g := h.next ((Below.refl _ y).alloc (Nat.le_refl _) o)
  refine ⟨T, lb, rb, cb, U, qb, g.s, g.c1, g.c2, g.ix, g.off, fun p hp => ?_⟩
  simp at hp
  subst hp
  exact ⟨heap_alloc_new y o, fun ht => by have := h.s.a.dk.top _ ht; omega, fun hu => by have := h.s.b.top _ hu; omega, fun q => by have := h.c1.lt; omega, fun q => by have := h.c2.lt; omega⟩
theorem Ru.bare (h : Ru x y d c r e m v k u B) : Ru x y d c r e m v k u [] := by
  obtain ⟨T, lb, rb, cb, U, qb, h⟩ := h
  exact ⟨T, lb, rb, cb, U, qb, h.s, h.c1, h.c2, h.ix, h.off, fun p hp => by simp at hp⟩
theorem Ru.at {g : Nat} {o : Obj} (h : Ru x y d c r e m v k u [(g, o)]) : y.heap[g]? = some o := by
  obtain ⟨T, lb, rb, cb, U, qb, h⟩ := h
  exact (h.bx (g, o) (by simp)).1
theorem ru_raise (q : Int) (h : Ru x w d c r e m v k u B) : Calls Try.prog 23 #[.pointer (some ⟨c, 0, none⟩), .int .i64 q] w (Say (.int .i64 (Cn.rE m v q)) fun y => Ru x y d c r e (Cn.rM m v q) (Cn.rV m v q) k u B) := by
  obtain ⟨T, lb, rb, cb, U, qb, h⟩ := h
  refine (raise_any q w h.s.a.dk h.c1 h.off.1).mono ?_
  rintro e w' ⟨rfl, g1, g2, g3⟩
  exact ⟨rfl, Lib.hid ⟨_, lb, rb, cb, U, qb, h.dsk g1.out.own g2.out (g3.out.wide (by simp))⟩⟩
theorem ru_rraise (q : Int) (h : Ru x w d c r e m v k u B) : Calls Try.prog 30 #[.pointer (some ⟨e, 0, none⟩), .int .i64 q] w (Say (.int .i64 (Cn.rE k u q)) fun y => Ru x y d c r e m v (Cn.rM k u q) (Cn.rV k u q) B) := by
  obtain ⟨T, lb, rb, cb, U, qb, h⟩ := h
  refine (rraise_any q w h.s.b h.c2 h.off.2.2.2.1).mono ?_
  rintro e w' ⟨rfl, g1, g2, g3⟩
  exact ⟨rfl, Lib.hid ⟨T, lb, rb, cb, _, qb, h.ref (g1.out.own w) g2.out (g3.out.wide (by simp))⟩⟩
theorem ru_value (h : Ru x w d c r e m v k u B) : Calls Try.prog 15 #[.pointer (some ⟨c, 0, none⟩)] w fun e w' => e = .returned (.int .i64 v) ∧ w' = w := by
  obtain ⟨T, lb, rb, cb, U, qb, h⟩ := h
  exact value_any w h.c1
theorem ru_rvalue (h : Ru x w d c r e m v k u B) : Calls Try.prog 16 #[.pointer (some ⟨e, 0, none⟩)] w fun e w' => e = .returned (.int .i64 u) ∧ w' = w := by
  obtain ⟨T, lb, rb, cb, U, qb, h⟩ := h
  exact rvalue_any w h.c2
theorem ru_arm (n : Int) (hn : In64 n) (h : Ru x w d c r e m v k u B) : Calls Try.prog 25 #[.pointer (some ⟨d, 0, none⟩), .int .i64 n] w (Say (.tuple #[]) fun y => Ru x y d c r e { m with left := n } v k u B) := by
  obtain ⟨T, lb, rb, cb, U, qb, h⟩ := h
  refine (arm_any n hn w h.s.a.dk).mono ?_
  rintro e w' ⟨rfl, g1, g2⟩
  exact ⟨rfl, Lib.hid ⟨_, lb, rb, cb, U, qb, h.dsk g1.out.own (h.c1.mv g2 (by simp; exact fun q => h.off.1 (q ▸ h.s.a.dk.lt.1))) (g2.wide (by simp))⟩⟩
theorem ru_rarm (n : Int) (hn : In64 n) (h : Ru x w d c r e m v k u B) : Calls Try.prog 31 #[.pointer (some ⟨r, 0, none⟩), .int .i64 n] w (Say (.tuple #[]) fun y => Ru x y d c r e m v { k with left := n } u B) := by
  obtain ⟨T, lb, rb, cb, U, qb, h⟩ := h
  refine (refarm_any n hn w h.s.b).mono ?_
  rintro e w' ⟨rfl, g1, g2⟩
  exact ⟨rfl, Lib.hid ⟨T, lb, rb, cb, _, qb, h.ref (g1.out.own w) (h.c2.mv g2.out (by simp; exact fun q => h.off.2.2.2.1 (q ▸ h.s.b.lt.1))) (g2.out.wide (by simp))⟩⟩
theorem RuS.cT {T U : Nat → Prop} {lb rb cb qb : Nat} (h : RuS x y T d lb rb cb m U r qb k c e v u B) : c ∉ [d, lb, rb, cb] := fun hm => h.off.1 (h.inT hm)
theorem RuS.eU {T U : Nat → Prop} {lb rb cb qb : Nat} (h : RuS x y T d lb rb cb m U r qb k c e v u B) : e ∉ [r, qb] := fun hm => h.off.2.2.2.1 (h.inU hm)
theorem wide_d {lb rb cb : Nat} (hm : Mv [d, lb, rb, cb] y z) : Mv [d, lb, rb, cb, c] y z := hm.wide (fun k hk => by simp at hk ⊢; omega)
theorem wide_r {qb : Nat} (hm : Mv [r, qb] y z) : Mv [r, qb, e] y z := hm.wide (fun k hk => by simp at hk ⊢; omega)
theorem ru_crash (hw : m.wr ≤ 1000000000) (h : Ru x w d c r e m v k u B) : Calls Try.prog 26 #[.pointer (some ⟨d, 0, none⟩), .slice none 0 0] w (Say (.tuple #[]) fun y => Ru x y d c r e (Cn.cra m) v k u B) := by
  obtain ⟨T, lb, rb, cb, U, qb, h⟩ := h
  refine (crash_any [] none 0 0 rfl w h.s.a.dk hw (fun y _ => iat_nil y none)).mono ?_
  rintro e w' ⟨rfl, g1, g2⟩
  exact ⟨rfl, Lib.hid ⟨_, lb, rb, cb, U, qb, h.dsk g1.out.own (h.c1.mv g2.out h.cT) (wide_d g2.out)⟩⟩
theorem ru_rcrash (h : Ru x w d c r e m v k u B) : Calls Try.prog 32 #[.pointer (some ⟨r, 0, none⟩), .slice none 0 0] w (Say (.tuple #[]) fun y => Ru x y d c r e m v (Cn.cra k) u B) := by
  obtain ⟨T, lb, rb, cb, U, qb, h⟩ := h
  refine (refcrash_any [] none 0 w h.s.b (fun y _ => iat_nil y none)).mono ?_
  rintro e w' ⟨rfl, g1, g2⟩
  exact ⟨rfl, Lib.hid ⟨T, lb, rb, cb, _, qb, h.ref g1.out (h.c2.mv g2.out h.eU) (wide_r g2.out)⟩⟩
theorem ru_sync (h : Ru x w d c r e m v k u B) : Calls Try.prog 28 #[.pointer (some ⟨d, 0, none⟩)] w (Say (.int .i64 (Dk.spendE m)) fun y => Ru x y d c r e (Dk.syM m) v k u B) := by
  obtain ⟨T, lb, rb, cb, U, qb, h⟩ := h
  refine (sync_any w h.s.a.dk).mono ?_
  rintro e w' ⟨rfl, g1, g2⟩
  exact ⟨rfl, Lib.hid ⟨_, lb, rb, cb, U, qb, h.dsk g1.out.own (h.c1.mv g2.out h.cT) (wide_d g2.out)⟩⟩
theorem ru_rsync (h : Ru x w d c r e m v k u B) : Calls Try.prog 34 #[.pointer (some ⟨r, 0, none⟩)] w (Say (.int .i64 (Dk.spendE k)) fun y => Ru x y d c r e m v (Dk.syM k) u B) := by
  obtain ⟨T, lb, rb, cb, U, qb, h⟩ := h
  refine (refsync_any w h.s.b).mono ?_
  rintro e w' ⟨rfl, g1, g2⟩
  exact ⟨rfl, Lib.hid ⟨T, lb, rb, cb, _, qb, h.ref g1.out (h.c2.mv g2.out h.eU) (wide_r g2.out)⟩⟩
theorem ru_write (i : Int) (hw : m.wr ≤ 1000000000) (h : Ru x w d c r e m v k u B) : Calls Try.prog 27 #[.pointer (some ⟨d, 0, none⟩), .int .i64 i, .slice none 0 0] w (Say (.int .i64 (Dk.wrE m i [])) fun y => Ru x y d c r e (Dk.wrM m i []) v k u B) := by
  obtain ⟨T, lb, rb, cb, U, qb, h⟩ := h
  refine (write_any i [] none 0 0 rfl (by omega) hw w h.s.a.dk (bs_none _)).mono ?_
  rintro e w' ⟨rfl, g1, g2⟩
  exact ⟨rfl, Lib.hid ⟨_, lb, rb, cb, U, qb, h.dsk g1.out (h.c1.mv g2.out h.cT) (wide_d g2.out)⟩⟩
theorem ru_rwrite (i : Int) (hw : k.wr ≤ 1000000000) (h : Ru x w d c r e m v k u B) : Calls Try.prog 33 #[.pointer (some ⟨r, 0, none⟩), .int .i64 i, .slice none 0 0] w (Say (.int .i64 (Dk.wrE k i [])) fun y => Ru x y d c r e m v (Dk.wrM k i []) u B) := by
  obtain ⟨T, lb, rb, cb, U, qb, h⟩ := h
  refine (refwrite_any i [] none 0 0 rfl (by omega) hw w h.s.b (bs_none _)).mono ?_
  rintro e w' ⟨rfl, g1, g2⟩
  exact ⟨rfl, Lib.hid ⟨T, lb, rb, cb, _, qb, h.ref g1.out (h.c2.mv g2.out h.eU) (wide_r g2.out)⟩⟩
end
end Go.Proofs.Ytglfjjmbadffmaa

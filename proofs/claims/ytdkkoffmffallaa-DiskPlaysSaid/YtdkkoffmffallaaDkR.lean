/-
  Two disks in a law; a disk with the power on.
-/
import Derived.Test.YtdkkoffmffallaaDkQ
namespace Go.Proofs.Ytdkkoffmffallaa
open Go.RowKit

/-- Two disks that a law plays with. -/
structure Two (x y : World) (T : Nat → Prop) (d lb rb cb : Nat) (m : Dk.M) (T' : Nat → Prop) (d' lb' rb' cb' : Nat) (m' : Dk.M) : Prop where
  a : Sit x y T d lb rb cb m
  b : Sit x y T' d' lb' rb' cb' m'
  ap : ∀ g, T g → ¬ T' g
section
variable {x y z : World} {T T' : Nat → Prop} {d lb rb cb d' lb' rb' cb' : Nat} {m m' k : Dk.M}
theorem Two.sw (h : Two x y T d lb rb cb m T' d' lb' rb' cb' m') : Two x y T' d' lb' rb' cb' m' T d lb rb cb m := ⟨h.b, h.a, fun g h1 h2 => h.ap g h2 h1⟩
theorem Two.keep (h : Two x y T d lb rb cb m T' d' lb' rb' cb' m') (hm : Mv [d, lb, rb, cb] y z) : Sit x z T' d' lb' rb' cb' m' :=
  ⟨h.b.dk.mv hm (fun g hg => by
    simp at hg
    rcases hg with rfl | rfl | rfl | rfl
    · exact h.ap _ h.a.dk.lt.1
    · exact h.ap _ h.a.dk.lt.2.1
    · exact h.ap _ h.a.dk.lt.2.2.1
    · exact h.ap _ h.a.dk.lt.2.2.2), hm.below h.b.old h.a.ks h.b.old.size, h.b.base⟩
theorem Two.disk (h : Two x y T d lb rb cb m T' d' lb' rb' cb' m') (hd : DkAt z T d lb rb cb k) (hm : Mv [d, lb, rb, cb] y z) : Two x z T d lb rb cb k T' d' lb' rb' cb' m' := ⟨h.a.disk hd hm, h.keep hm, h.ap⟩
theorem Two.row (h : Two x y T d lb rb cb m T' d' lb' rb' cb' m') (hd : DkAt z T d lb rb cb k) (hm : Mv [d] y z) : Two x z T d lb rb cb k T' d' lb' rb' cb' m' := h.disk hd (hm.more (fun k hk => by simp at hk ⊢; exact Or.inl hk))
theorem Two.write (h : Two x y T d lb rb cb m T' d' lb' rb' cb' m') (hd : DkAt z (Own T y z) d lb rb cb k) (hm : Mv [d, lb, rb, cb] y z) : Two x z (Own T y z) d lb rb cb k T' d' lb' rb' cb' m' := ⟨h.a.write hd hm, h.keep hm, fun g h1 h2 => by
  rcases h1 with h1 | h1
  · exact h.ap g h1 h2
  · have := h.b.dk.top g h2; omega⟩
theorem Two.next (h : Two x y T d lb rb cb m T' d' lb' rb' cb' m') (hb : Below y.heap.size y z) : Two x z T d lb rb cb m T' d' lb' rb' cb' m' := ⟨h.a.next hb, h.b.next hb, h.ap⟩
theorem Two.new (h : Sit x y T d lb rb cb m) (hb : Below y.heap.size y z) (hd : DkAt z (fun g => y.heap.size ≤ g ∧ g < z.heap.size) d' lb' rb' cb' m') : Two x z T d lb rb cb m (fun g => y.heap.size ≤ g ∧ g < z.heap.size) d' lb' rb' cb' m' :=
  ⟨h.next hb, Sit.new hd hb h.old, fun g h1 h2 => by have := h.dk.top g h1; omega⟩
end
namespace Dk
/-- The power is on, and not armed. -/
structure Up (m : M) (n : Nat) : Prop where
  n : m.n = n
  left : m.left = -1
  down : m.down = false
section
variable {m m' : M} {n : Nat}
theorem Up.gone (h : Up m n) : gone m = false := by unfold Dk.gone; rw [h.left, h.down]; rfl
theorem Up.spend (h : Up m n) : spend m = m := by unfold Dk.spend; rw [h.gone, if_neg (by decide), h.left, if_neg (by decide), ← h.left]
theorem Up.spendE (h : Up m n) : spendE m = 0 := by unfold Dk.spendE; rw [h.gone]; rfl
theorem Up.fresh (n : Nat) : Up (Dk.fresh n) n := ⟨rfl, rfl, rfl⟩
theorem Up.fault (h : Up m n) (i : Nat) (hi : i < n) (L : List Int) (hL : L.length ≤ 1024) : fault m (i : Int) L = 0 := by
  unfold Dk.fault here
  rw [h.n, decide_eq_true (show (0 : Int) ≤ (i : Int) by omega), decide_eq_true (show (i : Int) < (n : Int) by omega), if_neg (by decide), if_neg (by omega)]
def put (m : M) (i : Nat) (L : List Int) : M := { m with ca := upd m.ca i (some L), wr := m.wr + 1 }
def over (m : M) (i : Nat) (L : List Int) : M := { m with ls := upd m.ls i L, ca := upd m.ca i none }
theorem Up.wrE (h : Up m n) (i : Nat) (hi : i < n) (L : List Int) (hL : L.length ≤ 1024) : wrE m (i : Int) L = 0 := by rw [wrE_eq (h.fault i hi L hL), h.spendE]
theorem Up.wrM (h : Up m n) (i : Nat) (hi : i < n) (L : List Int) (hL : L.length ≤ 1024) : wrM m (i : Int) L = put m i L := by
  unfold Dk.wrM
  rw [h.down, if_neg (by decide), if_neg (by rw [h.fault i hi L hL]; decide), h.gone, if_neg (by decide), h.spend]
  rfl
theorem Up.tpM (h : Up m n) (i : Nat) (hi : i < n) (L : List Int) (hL : L.length ≤ 1024) : tpM m (i : Int) L = over m i L := by
  unfold Dk.tpM
  rw [if_pos (h.fault i hi L hL)]
  rfl
theorem Up.syM (h : Up m n) : syM m = synced m := by unfold Dk.syM; rw [h.gone, if_neg (by decide), h.spend]
theorem Up.put (h : Up m n) (i : Nat) (L : List Int) : Up (put m i L) n := ⟨h.n, h.left, h.down⟩
theorem Up.over (h : Up m n) (i : Nat) (L : List Int) : Up (over m i L) n := ⟨h.n, h.left, h.down⟩
theorem Up.synced (h : Up m n) : Up (synced m) n := ⟨h.n, h.left, h.down⟩
theorem Up.crash (h : m.n = n) (f : Nat → Bool) : Up (crash m f) n := ⟨by rw [← h]; exact (crk_n m f _).1, rfl, rfl⟩
theorem Up.here (h : Up m n) (i : Nat) : here m (i : Int) = decide (i < n) := by
  unfold Dk.here
  rw [h.n, decide_eq_true (show (0 : Int) ≤ (i : Int) by omega), Bool.true_and]
  by_cases q : i < n
  · rw [decide_eq_true q, decide_eq_true (by omega)]
  · rw [decide_eq_false q, decide_eq_false (by omega)]
theorem Up.rd (h : Up m n) (i : Nat) (hi : i < n) : rdE m (i : Int) = 0 ∧ rdX m (i : Int) = peek m i ∧ rdM m (i : Int) = { m with rd := upd m.rd i (m.rd i + 1) } := by
  unfold rdE rdX rdM
  rw [h.here, decide_eq_true hi]
  exact ⟨rfl, rfl, rfl⟩
theorem crash_out {f : Nat → Bool} {j : Nat} (h : m.ca j = none) : (crash m f).ca j = none ∧ (crash m f).ls j = m.ls j := by
  have h1 := crk_out m f j (dl m).length (fun q hq e => by
    have := ((dl_mem m j).1 (List.mem_of_getElem? e)).2
    rw [h] at this
    cases this)
  exact ⟨h1.1.trans h, h1.2⟩
theorem crash_in {f : Nat → Bool} {j q : Nat} (h : (dl m)[q]? = some j) : (crash m f).ca j = none ∧ (crash m f).ls j = if f q then (m.ca j).getD [] else m.ls j := crk_in m f h _ (List.getElem?_eq_some_iff.1 h).1
theorem crash_none {f : Nat → Bool} (ok : ∀ i, m.n ≤ i → m.ca i = none) (j : Nat) : (crash m f).ca j = none := by
  cases h : m.ca j with
  | none => exact (crash_out h).1
  | some L =>
    have hj : j < m.n := by
      by_cases q : j < m.n
      · exact q
      · rw [ok j (by omega)] at h; cases h
    obtain ⟨q, hq⟩ := List.getElem?_of_mem ((dl_mem m j).2 ⟨hj, by rw [h]; rfl⟩)
    exact (crash_in hq).1
theorem crash_dl {f : Nat → Bool} (ok : ∀ i, m.n ≤ i → m.ca i = none) : dl (crash m f) = [] := by
  unfold dl
  rw [List.filter_eq_nil_iff]
  intro i _
  rw [crash_none ok]
  simp
theorem crash_rd (m : M) (f : Nat → Bool) : (crash m f).rd = m.rd ∧ (crash m f).wr = m.wr := ⟨(crk_n m f _).2.1, (crk_n m f _).2.2⟩
theorem crash_like {f : Nat → Bool} {j : Nat} (hd : dl m = dl m') (h1 : m.ca j = m'.ca j) (h2 : m.ls j = m'.ls j) : (crash m f).ca j = (crash m' f).ca j ∧ (crash m f).ls j = (crash m' f).ls j := by
  by_cases h : j ∈ dl m
  · obtain ⟨q, hq⟩ := List.getElem?_of_mem h
    have hq' := hq
    rw [hd] at hq'
    have a := crash_in (f := f) hq
    have b := crash_in (f := f) hq'
    rw [a.1, a.2, b.1, b.2, h1, h2]
    exact ⟨rfl, rfl⟩
  · have a := crk_out m f j (dl m).length (fun q _ e => h (List.mem_of_getElem? e))
    have b := crk_out m' f j (dl m').length (fun q _ e => h (by rw [hd]; exact List.mem_of_getElem? e))
    exact ⟨a.1.trans (h1.trans b.1.symm), a.2.trans (h2.trans b.2.symm)⟩
end
end Dk
theorem DkAt.peek_le {y : World} {T : Nat → Prop} {d lb rb cb : Nat} {m : Dk.M} (h : DkAt y T d lb rb cb m) (k : Nat) : (Dk.peek m k).length ≤ 1024 := by
  unfold Dk.peek
  cases hc : m.ca k with
  | none => exact h.ok.lsb k
  | some L => exact h.ok.cab k L hc
namespace Dk
/-- A disk of nine sectors that was read k times at most in each. -/
structure Rdg (m m0 : M) (k : Nat) : Prop where
  u : Up m 9
  pk : ∀ j, peek m j = peek m0 j
  rd : ∀ j, m.rd j ≤ k
theorem Rdg.next {m m0 : M} {k : Nat} (h : Rdg m m0 k) (i : Nat) : Rdg { m with rd := upd m.rd i (m.rd i + 1) } m0 (k + 1) := by
  refine ⟨⟨h.u.n, h.u.left, h.u.down⟩, h.pk, fun j => ?_⟩
  show upd m.rd i (m.rd i + 1) j ≤ k + 1
  by_cases hj : j = i
  · subst hj; rw [upd_same]; have := h.rd j; omega
  · rw [upd_other _ _ hj]; have := h.rd j; omega
end Dk
theorem BRows.old {w y : World} {tp : Option Addr} {Rs : List (List Int)} (h : BRows w tp Rs) (hb : Below w.heap.size w y) : BRows y tp Rs := fun h0 => by
  obtain ⟨tb, tf, h1, h2, h3⟩ := h h0
  exact ⟨tb, tf, h1, Nat.lt_of_lt_of_le h2 hb.size, fun r hr => by
    obtain ⟨p, c, h4, h5⟩ := h3 r hr
    exact ⟨p, c, (hb.cell h2).trans h4, h5.old hb⟩⟩
theorem IAt.old {w y : World} {p : Option Addr} {L : List Int} (h : IAt w p L) (hb : Below w.heap.size w y) : IAt y p L := fun h0 => by
  obtain ⟨ab, ao, h1, h2⟩ := h h0
  exact ⟨ab, ao, h1, fun j hj => (hb.cell (World.block_lt_of_cell? _ _ (h2 j hj))).trans (h2 j hj)⟩
/-- A row's beginning of at most a hundred bytes. -/
def beg (R : List Int) : List Int := R.take (min R.length 100)
theorem beg_len (R : List Int) : (beg R).length = min R.length 100 := by unfold beg; rw [List.length_take]; omega
end Go.Proofs.Ytdkkoffmffallaa

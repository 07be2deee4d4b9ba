/-
  A disk where a sector lasts anew, and where the cache has one anew; contracts: settle, Write, Tamper, Read.
-/
import Derived.Test.YtglfjjmbadffmaaDkE
namespace Go.Proofs.Ytglfjjmbadffmaa
open Go.RowKit

section
variable {w y z : World} {T T' : Nat → Prop} {d lb rb cb i : Nat} {m : Dk.M} {v : Value} {L : List Int} {F : Nat → Option Value} {A : Array Value}
theorem DkAt.u8 (h : DkAt y T d lb rb cb m) (hm : Mv [d, lb, rb, cb] y z) (g : Nat) (cur : Array Value) (_hg : T g) (h2 : y.heap[g]? = some (.cells cur 5 (0, 0))) : z.heap[g]? = y.heap[g]? := by
  obtain ⟨A, a1, _⟩ := h.lst
  obtain ⟨F, b1, _⟩ := h.csh
  obtain ⟨es, clock, b1⟩ := b1.isMap
  have r := h.row
  have q := h.rds
  refine hm.block g (lt_of_block h2) (fun hin => ?_)
  simp only [List.mem_cons, List.not_mem_nil, or_false] at hin
  rcases hin with rfl | rfl | rfl | rfl
  · rw [r] at h2; injection Option.some.inj h2 with _ h3 _; exact absurd h3 (by decide)
  · rw [a1] at h2; injection Option.some.inj h2 with _ h3 _; exact absurd h3 (by decide)
  · rw [q] at h2; injection Option.some.inj h2 with _ h3 _; exact absurd h3 (by decide)
  · rw [b1] at h2; cases h2
/-- No byte lies in the disk's own blocks. -/
theorem DkAt.byt (h : DkAt y T d lb rb cb m) {g o : Nat} {x : Int} (hc : y.cell? ⟨g, o, none⟩ = some (.int .u8 x)) : g ∉ [d, lb, rb, cb] := by
  obtain ⟨A, a1, a2, a3⟩ := h.lst
  obtain ⟨F, b1, _⟩ := h.csh
  obtain ⟨es, clock, b1⟩ := b1.isMap
  intro hin
  simp only [List.mem_cons, List.not_mem_nil, or_false] at hin
  rcases hin with rfl | rfl | rfl | rfl
  · rw [cell_of_row y g o _ _ _ h.row] at hc
    match o, hc with
    | 0, hc => cases hc
    | 1, hc => cases hc
    | 2, hc => cases hc
    | 3, hc => cases hc
    | 4, hc => cases hc
    | 5, hc => cases hc
    | n + 6, hc => simp at hc
  · rw [cell_of_row y g o _ _ _ a1] at hc
    have ho : o < A.size := (Array.getElem?_eq_some_iff.1 hc).1
    obtain ⟨v, c1, c2⟩ := a3 o (by omega)
    obtain ⟨p, c, rfl, _⟩ := c2.bs
    rw [c1] at hc
    cases hc
  · rw [cell_of_row y g o _ _ _ h.rds] at hc
    simp at hc
  · simp [World.cell?, b1] at hc
theorem DkAt.bs {p : Option Addr} {c : Nat} (h : DkAt y T d lb rb cb m) (hb : Bs y p c L) (hm : Mv [d, lb, rb, cb] y z) : Bs z p c L :=
  ⟨⟨hb.bat.1, fun h0 => by
    obtain ⟨ab, ao, h1, h2⟩ := hb.bat.2 h0
    refine ⟨ab, ao, h1, fun j hj => ?_⟩
    rw [World.cell?_of_block (hm.block ab (World.block_lt_of_cell? _ _ (h2 j hj)) (h.byt (h2 j hj)))]
    exact h2 j hj⟩, hb.cap, hb.nil⟩
theorem Mv.more {ks js : List Nat} (h : Mv ks y z) (hs : ∀ k ∈ ks, k ∈ js) : Mv js y z := ⟨h.os, h.tape, h.output, h.size, fun k hk hn => h.block k hk (fun e => hn (hs k e))⟩
/-- What the cache says, in memory. -/
def CaAt (y : World) (T : Nat → Prop) (m : Dk.M) (F : Nat → Option Value) : Prop := ∀ i, (m.ca i = none → F i = none) ∧ ∀ L, m.ca i = some L → ∃ v, F i = some v ∧ Sec y T v L
/-- A sector lasts anew; the cache has nothing for it. -/
theorem DkAt.put (h : DkAt y T d lb rb cb m) (hT : ∀ g, T g → T' g) (ht : ∀ g, T' g → g < z.heap.size) (hm : Mv [lb, cb] y z) (hA : y.heap[lb]? = some (.cells A 65 (0, 0))) (hz : z.heap[lb]? = some (.cells (A.setIfInBounds i v) 65 (0, 0)))
    (hF : CaAt y T m F) (hc : MapAt z cb m.wr (upd F i none)) (hi : i < m.n) (hs : Sec z T' v L) (hL : L.length ≤ 1024) : DkAt z T' d lb rb cb { m with ls := upd m.ls i L, ca := upd m.ca i none } := by
  have hm4 : Mv [d, lb, rb, cb] y z := hm.more (fun k hk => by simp at hk ⊢; rcases hk with rfl | rfl <;> simp)
  have hu := h.u8 hm4
  have ne := h.ne
  have lt := h.lt
  have hty := h.top
  obtain ⟨A', a1, a2, a3⟩ := h.lst
  rw [hA] at a1
  obtain rfl : A = A' := by injection Option.some.inj a1
  obtain ⟨o1, o2, o3, o4, o5, o6⟩ := h.ok
  refine ⟨⟨hT _ lt.1, hT _ lt.2.1, hT _ lt.2.2.1, hT _ lt.2.2.2⟩, ht, (hm.block d (hty _ lt.1) (by simp; omega)).trans h.row, ⟨_, hz, by simpa using a2, fun j hj => ?_⟩, ⟨_, hc, fun j => ?_⟩, (hm.block rb (hty _ lt.2.2.1) (by simp; omega)).trans h.rds, ⟨o1, o2, fun j hj => ?_, o4, fun j => ?_, fun j X hX => ?_⟩⟩
  · obtain ⟨u, c1, c2⟩ := a3 j hj
    by_cases hji : j = i
    · subst hji
      refine ⟨v, ?_, ?_⟩
      · rw [Array.getElem?_setIfInBounds_self_of_lt (by omega)]
      · show Sec z T' v (upd m.ls j L j)
        rw [upd_same]
        exact hs
    · refine ⟨u, ?_, ?_⟩
      · rw [Array.getElem?_setIfInBounds_ne (fun e => hji e.symm)]
        exact c1
      · show Sec z T' u (upd m.ls i L j)
        rw [upd_other _ _ hji]
        exact (c2.keep hu).lift hT
  · by_cases hji : j = i
    · subst hji
      show (upd m.ca j none j = none → upd F j none j = none) ∧ ∀ X, upd m.ca j none j = some X → _
      rw [upd_same, upd_same]
      exact ⟨fun _ => rfl, fun X hX => by cases hX⟩
    · show (upd m.ca i none j = none → upd F i none j = none) ∧ ∀ X, upd m.ca i none j = some X → ∃ v, upd F i none j = some v ∧ _
      rw [upd_other _ _ hji, upd_other _ _ hji]
      refine ⟨(hF j).1, fun X hX => ?_⟩
      obtain ⟨u, c1, c2⟩ := (hF j).2 X hX
      exact ⟨u, c1, (c2.keep hu).lift hT⟩
  · show upd m.ca i none j = none
    rw [upd_other _ _ (by have : m.n ≤ j := hj; omega)]
    exact o3 j hj
  · show (upd m.ls i L j).length ≤ 1024
    by_cases hji : j = i
    · rw [hji, upd_same]; exact hL
    · rw [upd_other _ _ hji]; exact o5 j
  · by_cases hji : j = i
    · rw [hji] at hX
      have hX' : upd m.ca i none i = some X := hX
      rw [upd_same] at hX'
      cases hX'
    · have hX' : upd m.ca i none j = some X := hX
      rw [upd_other _ _ hji] at hX'
      exact o6 j X hX'
/-- The cache has a sector anew; one more was written. -/
theorem DkAt.cached (h : DkAt y T d lb rb cb m) (hT : ∀ g, T g → T' g) (ht : ∀ g, T' g → g < z.heap.size) (hm : Mv [d, cb] y z) (hr : z.heap[d]? = some (.cells #[.slice (some ⟨lb, 0, none⟩) m.n m.n, .map (some cb), .slice (some ⟨rb, 0, none⟩) m.n m.n, .int .i64 ((m.wr + 1 : Nat) : Int), .int .i64 m.left, .bool m.down] 54 (0, 0)))
    (hF : CaAt y T m F) (hc : MapAt z cb (m.wr + 1) (upd F i (some v))) (hi : i < m.n) (hs : Sec z T' v L) (hL : L.length ≤ 1024) : DkAt z T' d lb rb cb { m with ca := upd m.ca i (some L), wr := m.wr + 1 } := by
  have hm4 : Mv [d, lb, rb, cb] y z := hm.more (fun k hk => by simp at hk ⊢; rcases hk with rfl | rfl <;> simp)
  have hu := h.u8 hm4
  have ne := h.ne
  have lt := h.lt
  have hty := h.top
  obtain ⟨A, a1, a2, a3⟩ := h.lst
  obtain ⟨o1, o2, o3, o4, o5, o6⟩ := h.ok
  refine ⟨⟨hT _ lt.1, hT _ lt.2.1, hT _ lt.2.2.1, hT _ lt.2.2.2⟩, ht, hr, ⟨A, (hm.block lb (hty _ lt.2.1) (by simp; omega)).trans a1, a2, fun j hj => ?_⟩, ⟨_, hc, fun j => ?_⟩, (hm.block rb (hty _ lt.2.2.1) (by simp; omega)).trans h.rds, ⟨o1, o2, fun j hj => ?_, o4, o5, fun j X hX => ?_⟩⟩
  · obtain ⟨u, c1, c2⟩ := a3 j hj
    exact ⟨u, c1, (c2.keep hu).lift hT⟩
  · by_cases hji : j = i
    · subst hji
      show (upd m.ca j (some L) j = none → upd F j (some v) j = none) ∧ ∀ X, upd m.ca j (some L) j = some X → ∃ u, upd F j (some v) j = some u ∧ _
      rw [upd_same, upd_same]
      exact ⟨fun q => (by cases q), fun X hX => (by cases hX; exact ⟨v, rfl, hs⟩)⟩
    · show (upd m.ca i (some L) j = none → upd F i (some v) j = none) ∧ ∀ X, upd m.ca i (some L) j = some X → ∃ u, upd F i (some v) j = some u ∧ _
      rw [upd_other _ _ hji, upd_other _ _ hji]
      refine ⟨(hF j).1, fun X hX => ?_⟩
      obtain ⟨u, c1, c2⟩ := (hF j).2 X hX
      exact ⟨u, c1, (c2.keep hu).lift hT⟩
  · show upd m.ca i (some L) j = none
    rw [upd_other _ _ (by have : m.n ≤ j := hj; omega)]
    exact o3 j hj
  · by_cases hji : j = i
    · rw [hji] at hX
      have hX' : upd m.ca i (some L) i = some X := hX
      rw [upd_same] at hX'
      cases hX'
      exact hL
    · have hX' : upd m.ca i (some L) j = some X := hX
      rw [upd_other _ _ hji] at hX'
      exact o6 j X hX'
end
/-- What a call says that turns only the disk's own blocks. -/
def DiskSay (T : Nat → Prop) (d lb rb cb : Nat) (v : Value) (m' : Dk.M) (w : World) (e : Ending) (w' : World) : Prop := e = .returned v ∧ Hid (DkAt w' T d lb rb cb m') ∧ Hid (Mv [d, lb, rb, cb] w w')
namespace Dk
def settle (m : M) (i : Nat) : M := { m with ls := upd m.ls i ((m.ca i).getD []), ca := upd m.ca i none }
end Dk
theorem SameW.mv {w z : World} (h : SameW w z) (ks : List Nat) : Mv ks w z := ⟨h.os, h.tape, h.output, by rw [h.heap]; exact Nat.le_refl _, fun k _ _ => by rw [h.heap]⟩
theorem SameW.map {w z : World} {b k : Nat} {F : Nat → Option Value} (h : SameW w z) (hm : MapAt w b k F) : MapAt z b k F := hm.keep (by rw [h.heap])
section
variable {T : Nat → Prop} {d lb rb cb : Nat} {m : Dk.M}
theorem settle_any (i : Nat) (w : World) (hd : DkAt w T d lb rb cb m) (hi : i < m.n) (hc : (m.ca i).isSome = true) :
    Calls Try.prog 38 #[.pointer (some ⟨d, 0, none⟩), .int .i64 (i : Int)] w (DiskSay T d lb rb cb (.tuple #[]) (Dk.settle m i) w) := by
  obtain ⟨c0, c1, _⟩ := hd.cells
  obtain ⟨A, a1, a2, a3⟩ := hd.lst
  obtain ⟨F, b1, b2⟩ := hd.csh
  obtain ⟨L, hL⟩ : ∃ L, m.ca i = some L := Option.isSome_iff_exists.1 hc
  obtain ⟨v, hv, hs⟩ := (b2 i).2 L hL
  obtain ⟨p, c, rfl, _⟩ := hs.bs
  have ne := hd.ne
  have n2 := hd.ok.n2
  refine (settle_gen i m.n p L.length c hi w (fun y => Hid (DkAt y T d lb rb cb (Dk.settle m i)) ∧ Hid (Mv [d, lb, rb, cb] w y)) c0 c1 ne.1 A a1 a2 (fun z hz => ?_) (fun z ty hz => ?_)).mono (fun e y h => ⟨h.1, h.2.1, h.2.2⟩)
  · have h := (hz.map b1).look1 Try.mapTy i (by omega)
    rw [hv] at h
    exact h
  · have hset := heap_setCell_same w lb i A 65 (.slice p L.length c) a1
    have m1 : Mv [lb, cb] w (w.setCell ⟨lb, i, none⟩ (.slice p L.length c)) := (Mv.refl _ _).setCell _ _ (by simp)
    have m2 : Mv [lb, cb] w z := m1.trans (hz.mv _)
    have hmap : MapAt z cb m.wr F := hz.map (b1.keep (heap_setCell_other w ⟨lb, i, none⟩ cb _ (fun e => ne.2.2.2.2.1 e.symm)))
    obtain ⟨y, hrun, hm2, ht⟩ := hmap.drop Try.mapTy i (by omega) ty
    have m3 : Mv [lb, cb] w y := m2.trans (Mv.turned ht (by simp))
    have m4 : Mv [d, lb, rb, cb] w y := m3.more (fun k hk => by simp at hk ⊢; rcases hk with rfl | rfl <;> simp)
    have hlb : y.heap[lb]? = some (.cells (A.setIfInBounds i (.slice p L.length c)) 65 (0, 0)) := by
      rw [ht.grown.block lb (by rw [hz.heap]; exact lt_of_block hset) (fun e => ne.2.2.2.2.1 (Option.some.inj e)), hz.heap]
      exact hset
    refine ⟨y, hrun, Lib.hid ?_, Lib.hid m4⟩
    have := hd.put (fun _ h => h) (fun g hg => Nat.lt_of_lt_of_le (hd.top g hg) m3.size) m3 a1 hlb b2 hm2 hi (hs.keep (hd.u8 m4)) (hd.ok.cab i L hL)
    unfold Dk.settle
    rw [hL]
    exact this
end
end Go.Proofs.Ytglfjjmbadffmaa

/-
  For the reference's Get: rows that are filled place by place; what Get's number is, read as the reference reads.
-/
import Derived.Test.YtkgefogkdmbciaaBaQ3
import Derived.Test.YtkgefogkdmbciaaBaP0
namespace Go.Proofs.Ytkgefogkdmbciaa
open Go.RowKit

theorem Bt.gc_ref {B : List Int} {m : Nat} (h : Bt.h4 B = false) (hm : Bt.vm B = (m : Nat)) :
    Bt.gc B = if Pk.en (Bt.rk (Bt.g4 B) m) (Bt.rc (Bt.g4 B) (Bt.h4 B) m) = 0 then Bt.ck (Bt.vt B) (Bt.vn B) (Bt.re (Bt.g4 B) m) else Pk.en (Bt.rk (Bt.g4 B) m) (Bt.rc (Bt.g4 B) (Bt.h4 B) m) := by
  by_cases hl : 56 * m ≤ (Bt.g4 B).length
  · exact Bt.gc_late hm hl
  · have hb : 56 ≤ B.length := by
      by_cases hb : 56 ≤ B.length
      · exact hb
      · have h1 := (Bt.g4_small (B := B) (by omega)).2.1
        rw [h] at h1
        cases h1
    have h4 := (Bt.g4_big hb).1
    have hlen : (Bt.g4 B).length = B.length - 56 := by rw [h4, List.length_drop]
    obtain ⟨h6, h7⟩ := Bt.rk_small (R := Bt.g4 B) m (by omega)
    rw [Bt.gc_form (.inr (by rw [hm]; omega)), h6, h7]
    unfold Pk.en
    simp
theorem Bt.gc_bad {B : List Int} (h : Bt.h4 B = true ∨ Bt.vm B < 0 ∨ (((Bt.g4 B).length / 8 : Nat) : Int) < Bt.vm B) : Bt.gc B = 4 := by
  by_cases hb : 56 ≤ B.length
  · obtain ⟨h4, h5⟩ := Bt.g4_big hb
    have hlen : (Bt.g4 B).length = B.length - 56 := by rw [h4, List.length_drop]
    rcases h with h | h | h
    · rw [h5] at h; cases h
    · exact Bt.gc_form (.inl h)
    · exact Bt.gc_form (.inr (by omega))
  · exact Bt.gc_short (by omega)
theorem RfRd.c2 {w : World} {g : Nat} {D : Option Nat} {L : List Int} {b : Bool} (h : RfRd w g D L b) : w.cell? ⟨g, 2, none⟩ = some (.bool b) := by
  obtain ⟨p, c, a, B, h1, _⟩ := h.row
  rw [cell_of_row w g 2 _ _ _ h1]
  rfl
theorem RfRd.low {w x : World} {g n : Nat} {D : Option Nat} {L : List Int} {b : Bool} (h : RfRd w g D L b) (hb : Below n w x) (hg : g < n) (hd : ∀ d, D = some d → d < n) : RfRd x g D L b := by
  obtain ⟨⟨p, c, a, B, h1, h2, h3, h6, h7, h8, h9⟩, h4, h5⟩ := h
  refine ⟨⟨p, c, a, B, (hb.block g hg).trans h1, ⟨⟨h2.bat.1, fun h0 => ?_⟩, h2.cap, h2.nil⟩, h3, h6, h7, h8, h9⟩, h4, fun d e => Nat.lt_of_lt_of_le (h5 d e) hb.size⟩
  obtain ⟨ab, ao, e1, e2⟩ := h2.bat.2 h0
  have hlt : ab < n := hd _ (h9 _ e1)
  exact ⟨ab, ao, e1, fun j hj => (hb.cell hlt).trans (e2 j hj)⟩
theorem built_e0 : Try.prog.built 50 [] = some (EnA Bt.en0) := by rw [build_en0, zen_eq]
theorem EsO.keep {B : Nat} {y x : World} {v : Value} {L : List Bt.En} (h : EsO B y v L) (hb : ∀ b, v.ownBlock = some b → x.heap[b]? = y.heap[b]?) : EsO B x v L := by
  refine ⟨h.1, ?_⟩
  rcases h.2 with h' | ⟨g, cap, cur, hv, q0, q1, q2⟩
  · exact Or.inl h'
  · exact Or.inr ⟨g, cap, cur, hv, q0, (hb g (by rw [hv]; rfl)).trans q1, q2⟩
theorem SmAt.setT {y : World} {g : Nat} {t n : Int} {P : List Int} {v : Value} (h : SmAt y g t P n v) (u : Int) : SmAt (y.setCell ⟨g, 0, none⟩ (.int .i64 u)) g u P n v := by
  have h1 := heap_setCell_same y g 0 _ _ (.int .i64 u) h
  have e : (SmA t P n v).setIfInBounds 0 (.int .i64 u) = SmA u P n v := by
    unfold SmA SmC
    rw [List.setIfInBounds_toArray, List.set_cons_zero]
  rw [e] at h1
  exact h1
theorem SmAt.setN {y : World} {g : Nat} {t n : Int} {P : List Int} {v : Value} (h : SmAt y g t P n v) (hP : P.length = 32) (u : Int) : SmAt (y.setCell ⟨g, 33, none⟩ (.int .i64 u)) g t P u v := by
  have h1 := heap_setCell_same y g 33 _ _ (.int .i64 u) h
  have e : (SmA t P n v).setIfInBounds 33 (.int .i64 u) = SmA t P u v := by
    unfold SmA SmC
    rw [List.setIfInBounds_toArray, List.set_cons_succ, List.set_append_right _ _ (by simp [hP])]
    simp [hP]
  rw [e] at h1
  exact h1
theorem SmAt.setP {x : World} {g : Nat} {t n : Int} {P P' : List Int} {v : Value} {A : Array Value} (hP : P.length = 32) (hA : A32 P' = .agg A) (hs : A.size = 32)
    (h : x.heap[g]? = some (.cells ((SmA t P n v).toList.take 1 ++ A.toList ++ (SmA t P n v).toList.drop (1 + A.size)).toArray 26 (0, 0))) : SmAt x g t P' n v := by
  have e : ((SmA t P n v).toList.take 1 ++ A.toList ++ (SmA t P n v).toList.drop (1 + A.size)).toArray = SmA t P' n v := by
    rw [hs]
    unfold A32 at hA
    cases hA
    unfold SmA SmC
    rw [Nat.add_comm 1 32]
    simp [hP]
  rw [e] at h
  exact h
/-- An entry's block. -/
def EnRow (y : World) (g : Nat) (x : Bt.En) : Prop := y.heap[g]? = some (.cells (EnA x) 50 (0, 0))
theorem EnRow.old {y z : World} {g : Nat} {x : Bt.En} (h : EnRow y g x) (hb : Below y.heap.size y z) : EnRow z g x := (hb.block g (lt_of_block h)).trans h
theorem EnRow.only {y z : World} {g k : Nat} {x : Bt.En} (h : EnRow y g x) (ho : Only k y z) (hk : g ≠ k) : EnRow z g x := (ho.block g (lt_of_block h) hk).trans h
theorem EnRow.c0 {y : World} {g : Nat} {x : Bt.En} (h : EnRow y g x) : y.cell? ⟨g, 0, none⟩ = some (.int .i64 x.k) := (en_at (box_rng h)).ck
theorem EnRow.c1 {y : World} {g : Nat} {x : Bt.En} (h : EnRow y g x) : y.cell? ⟨g, 1, none⟩ = some (.int .i64 x.b) := (en_at (box_rng h)).cb
theorem EnRow.c2 {y : World} {g : Nat} {x : Bt.En} (h : EnRow y g x) : y.cell? ⟨g, 2, none⟩ = some (.int .i64 x.s) := (en_at (box_rng h)).cs
theorem EnRow.fr {y : World} {g : Nat} {x : Bt.En} (h : EnRow y g x) (k : Nat) : y.frozen? ⟨g, k, none⟩ = false := frozen_of_row y g k _ _ h
theorem EnRow.setK {y : World} {g : Nat} {x : Bt.En} (h : EnRow y g x) (u : Int) : EnRow (y.setCell ⟨g, 0, none⟩ (.int .i64 u)) g ⟨u, x.b, x.s, x.u⟩ := by
  have h1 := heap_setCell_same y g 0 _ _ (.int .i64 u) h
  have e : (EnA x).setIfInBounds 0 (.int .i64 u) = EnA ⟨u, x.b, x.s, x.u⟩ := by
    unfold EnA Bt.cells
    rw [List.setIfInBounds_toArray]
    simp only [List.set_cons_zero]
  rw [e] at h1
  exact h1
theorem EnRow.setB {y : World} {g : Nat} {x : Bt.En} (h : EnRow y g x) (u : Int) : EnRow (y.setCell ⟨g, 1, none⟩ (.int .i64 u)) g ⟨x.k, u, x.s, x.u⟩ := by
  have h1 := heap_setCell_same y g 1 _ _ (.int .i64 u) h
  have e : (EnA x).setIfInBounds 1 (.int .i64 u) = EnA ⟨x.k, u, x.s, x.u⟩ := by
    unfold EnA Bt.cells
    rw [List.setIfInBounds_toArray]
    simp only [List.set_cons_zero, List.set_cons_succ]
  rw [e] at h1
  exact h1
theorem EnRow.setS {y : World} {g : Nat} {x : Bt.En} (h : EnRow y g x) (u : Int) : EnRow (y.setCell ⟨g, 2, none⟩ (.int .i64 u)) g ⟨x.k, x.b, u, x.u⟩ := by
  have h1 := heap_setCell_same y g 2 _ _ (.int .i64 u) h
  have e : (EnA x).setIfInBounds 2 (.int .i64 u) = EnA ⟨x.k, x.b, u, x.u⟩ := by
    unfold EnA Bt.cells
    rw [List.setIfInBounds_toArray]
    simp only [List.set_cons_zero, List.set_cons_succ]
  rw [e] at h1
  exact h1
theorem EnRow.setU {z : World} {g : Nat} {x : Bt.En} {u : List Int} {A : Array Value} (hx : x.u.length = 32) (hA : A32 u = .agg A) (hs : A.size = 32)
    (h : z.heap[g]? = some (.cells ((EnA x).toList.take 3 ++ A.toList ++ (EnA x).toList.drop (3 + A.size)).toArray 50 (0, 0))) : EnRow z g ⟨x.k, x.b, x.s, u⟩ := by
  have e : ((EnA x).toList.take 3 ++ A.toList ++ (EnA x).toList.drop (3 + A.size)).toArray = EnA ⟨x.k, x.b, x.s, u⟩ := by
    rw [hs]
    unfold A32 at hA
    cases hA
    unfold EnA Bt.cells
    rw [Nat.add_comm 3 32]
    simp [hx]
  rw [e] at h
  exact h
/-- What stays while the summary at g5 is filled: its row, its list of the call's own, the answer's block, what was there before. -/
structure Kp (w y : World) (g5 : Nat) (t : Int) (P : List Int) (n : Int) (v : Value) (L : List Bt.En) : Prop where
  s : SmAt y g5 t P n v
  z : y.heap[w.heap.size]? = some (.cells ZSm.toArray 26 (0, 0))
  o : EsO (g5 + 1) y v L
  b : Below w.heap.size w y
  h : w.heap.size < g5
theorem Kp.sz {w y : World} {g5 : Nat} {t n : Int} {P : List Int} {v : Value} {L : List Bt.En} (h : Kp w y g5 t P n v L) : g5 + 1 ≤ y.heap.size := lt_of_block h.s
theorem Kp.only {w y x : World} {g5 k : Nat} {t n : Int} {P : List Int} {v : Value} {L : List Bt.En} (h : Kp w y g5 t P n v L) (ho : Only k y x) (h5 : k ≠ g5) (hw : w.heap.size < k) (hk : ∀ b, v.ownBlock = some b → b ≠ k) : Kp w x g5 t P n v L :=
  ⟨(ho.block g5 (lt_of_block h.s) (Ne.symm h5)).trans h.s, (ho.block _ (lt_of_block h.z) (Nat.ne_of_lt hw)).trans h.z, h.o.keep (fun b hb => ho.block b (World.ownsRow.lt h.o b hb).2 (hk b hb)), ho.below h.b (Nat.le_of_lt hw) h.b.size, h.h⟩
theorem Kp.old {w y x : World} {g5 : Nat} {t n : Int} {P : List Int} {v : Value} {L : List Bt.En} (h : Kp w y g5 t P n v L) (hb : Below y.heap.size y x) : Kp w x g5 t P n v L :=
  ⟨h.s.old hb, (hb.block _ (lt_of_block h.z)).trans h.z, h.o.old hb, h.b.trans (hb.mono h.b.size), h.h⟩
theorem Kp.low {w y x : World} {g5 k : Nat} {t n : Int} {P : List Int} {v : Value} {L : List Bt.En} (h : Kp w y g5 t P n v L) (ho : Only k y x) (h5 : k < g5) (hw : w.heap.size < k) : Kp w x g5 t P n v L :=
  h.only ho (Nat.ne_of_lt h5) hw (fun b hb e => by have := (World.ownsRow.lt h.o b hb).1; omega)
theorem Kp.at5 {w y x : World} {g5 : Nat} {t n t' n' : Int} {P P' : List Int} {v : Value} {L : List Bt.En} (h : Kp w y g5 t P n v L) (ho : Only g5 y x) (hs : SmAt x g5 t' P' n' v) : Kp w x g5 t' P' n' v L :=
  ⟨hs, (ho.block _ (lt_of_block h.z) (Nat.ne_of_lt h.h)).trans h.z, h.o.only ho (Nat.lt_succ_self _), ho.below h.b (Nat.le_of_lt h.h) h.b.size, h.h⟩
theorem Kp.app {w y x : World} {g5 : Nat} {t n : Int} {P : List Int} {v v' : Value} {L L' : List Bt.En} (h : Kp w y g5 t P n v L) (hP : P.length = 32) (hb : Below (g5 + 1) y x) (ho : EsO (g5 + 1) x v' L') :
    Kp w (x.setCell ⟨g5, 34, none⟩ v') g5 t P n v' L' := by
  have s1 : SmAt x g5 t P n v := (hb.block g5 (Nat.lt_succ_self _)).trans h.s
  have o1 := (Chg.setCell x ⟨g5, 34, none⟩ v').only
  have z1 : x.heap[w.heap.size]? = some (.cells ZSm.toArray 26 (0, 0)) := (hb.block _ (by have := h.h; omega)).trans h.z
  have b1 : Below w.heap.size w x := h.b.trans (hb.mono (by have := h.h; omega))
  exact ⟨s1.set hP v', (o1.block _ (lt_of_block z1) (Nat.ne_of_lt h.h)).trans z1, ho.only o1 (Nat.lt_succ_self _), o1.below b1 (Nat.le_of_lt h.h) b1.size, h.h⟩
end Go.Proofs.Ytkgefogkdmbciaa

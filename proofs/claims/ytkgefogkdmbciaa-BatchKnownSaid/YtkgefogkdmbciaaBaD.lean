/-
  Summaries in memory; contract: SameSummary.
-/
import Derived.Test.YtkgefogkdmbciaaBaC
namespace Go.Proofs.Ytkgefogkdmbciaa
open Go.RowKit

/-- A summary's block. -/
def SmAt (y : World) (g : Nat) (t : Int) (P : List Int) (n : Int) (v : Value) : Prop := y.heap[g]? = some (.cells (SmA t P n v) 26 (0, 0))
theorem SmAt.old {w y : World} {g : Nat} {t n : Int} {P : List Int} {v : Value} (h : SmAt w g t P n v) (hb : Below w.heap.size w y) : SmAt y g t P n v := (hb.block g (lt_of_block h)).trans h
theorem SmAt.drew {w : World} {g : Nat} {t n : Int} {P : List Int} {v : Value} (h : SmAt w g t P n v) : SmAt w.drew g t P n v := h
theorem SmAt.drewN {w : World} {g : Nat} {t n : Int} {P : List Int} {v : Value} (h : SmAt w g t P n v) (k : Nat) : SmAt (w.drewN k) g t P n v := h
theorem SmAt.c0 {y : World} {g : Nat} {t n : Int} {P : List Int} {v : Value} (h : SmAt y g t P n v) : y.cell? ⟨g, 0, none⟩ = some (.int .i64 t) := by
  rw [cell_of_row y g 0 _ _ _ h]; rfl
theorem SmAt.c33 {y : World} {g : Nat} {t n : Int} {P : List Int} {v : Value} (h : SmAt y g t P n v) (hP : P.length = 32) : y.cell? ⟨g, 33, none⟩ = some (.int .i64 n) := by
  rw [cell_of_row y g 33 _ _ _ h]
  simp [SmA, SmC, hP]
theorem SmAt.c34 {y : World} {g : Nat} {t n : Int} {P : List Int} {v : Value} (h : SmAt y g t P n v) (hP : P.length = 32) : y.cell? ⟨g, 34, none⟩ = some v := by
  rw [cell_of_row y g 34 _ _ _ h]
  simp [SmA, SmC, hP]
theorem SmAt.rng {y : World} {g : Nat} {t n : Int} {P : List Int} {v : Value} (h : SmAt y g t P n v) {A : Array Value} (hA : A32 P = .agg A) : y.rangeAt g 1 A.toList := fun j u hu => by
  unfold A32 at hA
  cases hA
  rw [cell_of_row y g (1 + j) _ _ _ h]
  have hu' : (P.map (Value.int .u8))[j]? = some u := by simpa using hu
  have hj := (List.getElem?_eq_some_iff.1 hu').1
  unfold SmA SmC
  rw [List.getElem?_toArray, Nat.add_comm 1 j, List.getElem?_cons_succ, List.getElem?_append_left hj]
  exact hu'
theorem SmAt.fr {y : World} {g : Nat} {t n : Int} {P : List Int} {v : Value} (h : SmAt y g t P n v) (k : Nat) : y.frozen? ⟨g, k, none⟩ = false := frozen_of_row y g k _ _ h
theorem sm_info {A : Array Value} (h : A.size = 35) : (Try.prog.info? 26).map (·.size) = some A.size := by rw [Try.sizeSm, h]
set_option maxHeartbeats 1000000 in
set_option maxRecDepth 100000 in
theorem samesum_core (A B : Array Value) (x y : Array Value) (hx : x.size = 35) (hy : y.size = 35) (t t' n n' : Int) (v v' : Value) (tb pb nb lb : Bool) (ht : (t == t') = tb) (hn : (n == n') = nb)
    (hp : ∀ z, (Op.equalIn 10000 23 (.agg A) (.agg B)).run Try.prog z = .ok pb z) (hA : A.size = 32) (hB : B.size = 32)
    (w : World) (H : ∀ z : World, z.heap[w.heap.size]? = some (.cells x 26 (0, 0)) → z.heap[w.heap.size + 1]? = some (.cells y 26 (0, 0)) →
      z.cell? ⟨w.heap.size, 0, none⟩ = some (.int .i64 t) ∧ z.cell? ⟨w.heap.size, 33, none⟩ = some (.int .i64 n) ∧ z.cell? ⟨w.heap.size, 34, none⟩ = some v ∧ z.rangeAt w.heap.size 1 A.toList ∧
      z.cell? ⟨w.heap.size + 1, 0, none⟩ = some (.int .i64 t') ∧ z.cell? ⟨w.heap.size + 1, 33, none⟩ = some (.int .i64 n') ∧ z.cell? ⟨w.heap.size + 1, 34, none⟩ = some v' ∧ z.rangeAt (w.heap.size + 1) 1 B.toList)
    (hl : ∀ z, Below w.heap.size w z → Calls Try.prog 38 #[v, v'] z (BoSay lb z)) :
    Calls Try.prog 22 #[.agg x, .agg y] w (BoSay (tb && pb && nb && lb) w) := by
  have hsx := sm_info hx
  have hsy := sm_info hy
  have HL := Lib.hid hl
  have HA := Lib.hid hA
  have HB := Lib.hid hB
  have B0 : Hid (Below w.heap.size w ((w.alloc (.cells x 26)).alloc (.cells y 26))) := below_two w _ _
  obtain ⟨c0, c33, c34, r1, d0, d33, d34, r2⟩ := H ((w.alloc (.cells x 26)).alloc (.cells y 26)) ((heap_oldX _ _ (by simp)).trans (heap_alloc_new w _)) (by have h := heap_alloc_new (w.alloc (.cells x 26)) (.cells y 26); simpa using h)
  have R1 := Lib.hid r1
  have R2 := Lib.hid r2
  clear H hl r1 r2 hA hB
  cases tb with
  | false =>
    simp only [Bool.false_and]
    go_enter Try.func22, Try.ntmps22
    go_wp2
    go_ret
    exact ⟨rfl, B0.out⟩
  | true =>
    cases pb with
    | false =>
      simp only [Bool.true_and, Bool.false_and]
      go_enter Try.func22, Try.ntmps22
      go_wp2_with (first
        | ((with_reducible refine rng_load_g _ _ _ _ _ _ ?_ ?_ R1.out Try.underlying23 ?_ (row_size Try.sizeSum HA) ?_); (exact rfl); (exact rfl); (exact rfl))
        | ((with_reducible refine rng_load_g _ _ _ _ _ _ ?_ ?_ R2.out Try.underlying23 ?_ (row_size Try.sizeSum HB) ?_); (exact rfl); (exact rfl); (exact rfl)))
      go_ret
      exact ⟨rfl, B0.out⟩
    | true =>
      cases nb with
      | false =>
        simp only [Bool.true_and, Bool.false_and]
        go_enter Try.func22, Try.ntmps22
        go_wp2_with (first
          | ((with_reducible refine rng_load_g _ _ _ _ _ _ ?_ ?_ R1.out Try.underlying23 ?_ (row_size Try.sizeSum HA) ?_); (exact rfl); (exact rfl); (exact rfl))
          | ((with_reducible refine rng_load_g _ _ _ _ _ _ ?_ ?_ R2.out Try.underlying23 ?_ (row_size Try.sizeSum HB) ?_); (exact rfl); (exact rfl); (exact rfl)))
        go_ret
        exact ⟨rfl, B0.out⟩
      | true =>
        simp only [Bool.true_and]
        go_enter Try.func22, Try.ntmps22
        go_wp2_with (first
          | (go_at_call 38; refine (HL.out _ B0.out).mono ?_; rintro e1 w1 ⟨rfl, hb1⟩)
          | ((with_reducible refine rng_load_g _ _ _ _ _ _ ?_ ?_ R1.out Try.underlying23 ?_ (row_size Try.sizeSum HA) ?_); (exact rfl); (exact rfl); (exact rfl))
          | ((with_reducible refine rng_load_g _ _ _ _ _ _ ?_ ?_ R2.out Try.underlying23 ?_ (row_size Try.sizeSum HB) ?_); (exact rfl); (exact rfl); (exact rfl)))
        go_ret
        exact ⟨rfl, B0.out.trans (hb1.mono B0.out.size)⟩
/-- What a summary's value asks. -/
structure Sv (w : World) (P : List Int) (p : Option Addr) (c : Nat) (L : List Bt.En) : Prop where
  len : P.length = 32
  byt : Sha.Byt P
  es : Es w p c L
theorem Sv.old {w y : World} {P : List Int} {p : Option Addr} {c : Nat} {L : List Bt.En} (h : Sv w P p c L) (hb : Below w.heap.size w y) : Sv y P p c L := ⟨h.len, h.byt, h.es.old hb⟩
theorem Sv.drewN {w : World} {P : List Int} {p : Option Addr} {c : Nat} {L : List Bt.En} (h : Sv w P p c L) (n : Nat) : Sv (w.drewN n) P p c L := ⟨h.len, h.byt, h.es.drewN n⟩
theorem Sv.drew {w : World} {P : List Int} {p : Option Addr} {c : Nat} {L : List Bt.En} (h : Sv w P p c L) : Sv w.drew P p c L := ⟨h.len, h.byt, h.es.drew⟩
theorem samesum_any (t t' n n' : Int) (P P' : List Int) (p p' : Option Addr) (m m' c c' : Nat) (L L' : List Bt.En) (hm : L.length = m) (hm' : L'.length = m') (hL : m ≤ 100000) (w : World) (h : Sv w P p c L) (h' : Sv w P' p' c' L') :
    Calls Try.prog 22 #[.agg (SmA t P n (.slice p m c)), .agg (SmA t' P' n' (.slice p' m' c'))] w (BoSay (decide (t = t' ∧ P = P' ∧ n = n' ∧ L = L')) w) := by
  obtain ⟨A, hA, hA2, _⟩ := a32_agg P h.len
  obtain ⟨B, hB, hB2, _⟩ := a32_agg P' h'.len
  have hp : ∀ z, (Op.equalIn 10000 23 (.agg A) (.agg B)).run Try.prog z = .ok (decide (P = P')) z := fun z => by
    rw [← hA, ← hB]
    exact a32_eq P P' h.len h'.len z
  have e : decide (t = t' ∧ P = P' ∧ n = n' ∧ L = L') = ((t == t') && decide (P = P') && (n == n') && decide (L = L')) := by
    rw [Bool.eq_iff_iff]
    simp [and_assoc]
  rw [e]
  refine samesum_core A B _ _ (smA_size t n _ h.len) (smA_size t' n' _ h'.len) t t' n n' _ _ _ _ _ _ rfl rfl hp hA2 hB2 w (fun z h1 h2 => ?_) (fun z hz => sames_any L L' p p' m m' c c' hm hm' hL z (h.es.old hz) (h'.es.old hz))
  have a1 : SmAt z w.heap.size t P n (.slice p m c) := h1
  have a2 : SmAt z (w.heap.size + 1) t' P' n' (.slice p' m' c') := h2
  exact ⟨a1.c0, a1.c33 h.len, a1.c34 h.len, a1.rng hA, a2.c0, a2.c33 h'.len, a2.c34 h'.len, a2.rng hB⟩
end Go.Proofs.Ytkgefogkdmbciaa

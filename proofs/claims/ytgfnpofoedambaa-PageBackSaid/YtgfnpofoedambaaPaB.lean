/-
  Contracts: pack.Int, Sum, Ref.
-/
import Derived.Test.YtgfnpofoedambaaPaL
namespace Go.Proofs.Ytgfnpofoedambaa
open Go.RowKit

theorem Try.sizeSum : (Try.prog.info? 23).map (·.size) = some 32 := by kernel_rfl
theorem Try.sizeRef : (Try.prog.info? 25).map (·.size) = some 33 := by kernel_rfl
theorem row_size {P : Program} {ty : TypeId} {n : Nat} (h : (P.info? ty).map (·.size) = some n) {A : Array Value} (hA : Hid (A.size = n)) : (P.info? ty).map (·.size) = some A.size := by
  rw [h, hA.out]
theorem row_cell {w : World} {g : Nat} {l : List Int} {t : TypeId} {fr : Nat × Nat} (h : w.heap[g]? = some (.cells (l.map (Value.int .u8)).toArray t fr)) (j : Nat) (hj : j < l.length) : w.cell? ⟨g, j, none⟩ = some (.int .u8 (l.getD j 0)) := by
  rw [cell_of_row w g j _ _ _ h]
  simp [List.getD_eq_getElem?_getD, hj]
/-- An array of 32 bytes, as a value; a ref. -/
def A32 (l : List Int) : Value := .agg (l.map (Value.int .u8)).toArray
def R33 (r : Int × List Int) : Value := .agg (Value.int .i64 r.1 :: r.2.map (Value.int .u8)).toArray

/-- What makes a row of bytes of the call's own. -/
def RowOf (R : List Int) (m : Nat) (w : World) (e : Ending) (w' : World) : Prop :=
  ∃ p c, e = .returned (.slice p m c) ∧ Hid (w'.ownsRow w.heap.size 5 1 (.slice p m c) m (U8s R)) ∧ Hid (Bs w' p c R) ∧ Hid (Below w.heap.size w w')
theorem concat2_any (q : Nat) (p0 p1 : Option Addr) (n0 n1 c0 c1 : Nat) (l0 l1 : List Int) (m : Nat) (e0 : l0.length = n0) (e1 : l1.length = n1) (em : n0 + n1 = m) (x : World) (hq : x.heap[q]? = some (.cells #[.slice p0 n0 c0, .slice p1 n1 c1] 29 (0, 0))) (h0 : Bs x p0 c0 l0) (h1 : Bs x p1 c1 l1) (hl : m ≤ 1000000000) :
    Calls Try.prog 37 #[.slice (some ⟨q, 0, none⟩) 2 2] x (RowOf (l0 ++ l1) m x) := by
  have e : Seal.cat (fun k => match k with | 0 => l0 | _ => l1) 2 = l0 ++ l1 := by unfold Seal.cat Seal.cat Seal.cat; simp
  have h := concat_any (fun k => match k with | 0 => p0 | _ => p1) (fun k => match k with | 0 => c0 | _ => c1) (fun k => match k with | 0 => l0 | _ => l1) 2 q (by omega) x
    (fun k hk => by
      rw [cell_of_row x q k _ _ _ hq]
      rcases k with _ | _ | k
      · simp [e0]
      · simp [e1]
      · omega)
    (fun k hk => by
      rcases k with _ | _ | k
      · exact h0
      · exact h1
      · omega)
    (by rw [e]; simp only [List.length_append]; omega)
  rw [e] at h
  refine h.mono ?_
  rintro e2 w' ⟨v, rfl, ho, hb⟩
  obtain ⟨p, c, rfl, hbs, hlen⟩ := own_bs ho (Sha.byt_append h0.bat.1 h1.bat.1)
  have hm : (l0 ++ l1).length = m := by simp only [List.length_append]; omega
  rw [hm] at ho ⊢
  exact ⟨p, c, rfl, ho, hbs, hb⟩

namespace Pk
def tb (n : Int) : Nat → List Int
  | 0 => List.replicate 8 0
  | k + 1 => (tb n k).set (7 - k) (n / 256 ^ k % 256)
theorem tb_len (n : Int) (k : Nat) : (tb n k).length = 8 := by
  induction k with
  | zero => rfl
  | succ k ih => rw [tb, List.length_set, ih]
theorem tb_all (n : Int) : tb n 8 = e8 n 8 := by rw [e8_eight]; simp [tb]
theorem tb_zero (n : Int) : (tb n 0).map (Value.int .u8) = List.replicate 8 (Value.int .u8 0) := by simp [tb]
theorem tb_step (n : Int) (k : Nat) : (tb n k).set (7 - k) (n / 256 ^ k % 256) = tb n (k + 1) := rfl
attribute [irreducible] tb
end Pk

set_option maxHeartbeats 1000000 in
set_option maxRecDepth 100000 in
theorem int_any (L : List Int) (v : Int) (p : Option Addr) (n c m : Nat) (hn : L.length = n) (hm : n + 8 = m) (hL : n ≤ 1000000) (w : World) (hp : Bs w p c L) :
    Calls Try.prog 23 #[.slice p n c, .int .i64 v] w (RowOf (L ++ Pk.e8 v 8) m w) := by
  have HP := Lib.hid hp; clear hp
  have HN := Lib.hid hn; clear hn
  have G0 : Hid ((w.alloc (.cells (List.replicate 8 (Value.int .u8 0)).toArray 59)).heap[w.heap.size]? = some (.cells ((Pk.tb v 0).map (Value.int .u8)).toArray 59 (0, 0))) := by
    show _ = _; rw [Pk.tb_zero]; exact heap_alloc_new w _
  have B0 : Hid (Below w.heap.size w (w.alloc (.cells (List.replicate 8 (Value.int .u8 0)).toArray 59))) := (Below.refl _ w).alloc (Nat.le_refl _) _
  go_enter Try.func23, Try.ntmps23
  go_wp2
  go_loopw [7] (fun v7 wr => ∃ k : Nat, k ≤ 8 ∧ v7 = .int .i64 k ∧ Hid (wr.heap[w.heap.size]? = some (.cells ((Pk.tb v k).map (Value.int .u8)).toArray 59 (0, 0))) ∧ Hid (Below w.heap.size w wr)) (fun v7 _ => 8 - (intOf v7).toNat)
  case atStart => exact ⟨0, by omega, rfl, G0.out, B0.out⟩
  case round =>
    clear G0 B0
    obtain ⟨k, hk, rfl, HG, HB⟩ := hrel
    by_cases hlt : k < 8
    · have hw2 : IntKind.i64.wrap (7 - (k : Int)) = 7 - (k : Int) := IntWalk.i64_in _ ⟨by omega, by omega⟩
      have hw3 : IntKind.i64.wrap (8 * (k : Int)) = 8 * (k : Int) := IntWalk.i64_in _ ⟨by omega, by omega⟩
      have hx0 : 0 ≤ 7 - (k : Int) := by omega
      have hx1 : 7 - (k : Int) < 8 := by omega
      have hx2 : (7 - (k : Int)).toNat = 7 - k := by omega
      have hx3 : (k : Int) < 8 := by omega
      have hx4 : 0 ≤ 8 * (k : Int) := by omega
      have hx5 : 8 * (k : Int) ≤ 64 := by omega
      have hx6 : (2 : Int) ^ (8 * (k : Int)).toNat = 256 ^ k := by
        rw [show (8 * (k : Int)).toNat = 8 * k by omega, Int.pow_mul]
        rfl
      have c0 := row_cell HG.out (7 - k) (by rw [Pk.tb_len]; omega)
      have f0 := frozen_of_row wr w.heap.size (7 - k) _ _ HG.out
      generalize (Pk.tb v k).getD (7 - k) 0 = y0 at c0
      go_wp2
      refine ⟨⟨k + 1, by omega, by go_num, ?_, HB.out.setCell (by simp) _⟩, by simp [intOf]; omega⟩
      have h2 := set_u8' (i := 7 - k) (x := v / 256 ^ k % 256) HG.out
      rw [Pk.tb_step] at h2
      exact h2
    · obtain rfl : k = 8 := by omega
      have HA : Hid (Bs wr (some ⟨w.heap.size, 0, none⟩) 8 (Pk.e8 v 8)) := by
        have h := HG.out
        rw [Pk.tb_all] at h
        exact bs_row (bat_row h (Pk.e8_byt _ _)) ⟨by rw [Pk.e8_len]; omega, by omega⟩
      have HPR : Hid (Bs wr p c L) := HP.out.old HB.out
      clear hlt
      have B2 : Hid (Below wr.heap.size wr (wr.alloc (.cells #[.slice p n c, .slice (some ⟨w.heap.size, 0, none⟩) 8 8] 29))) := (Below.refl _ wr).alloc (Nat.le_refl _) _
      have HC : Hid (Calls Try.prog 37 #[.slice (some ⟨wr.heap.size, 0, none⟩) 2 2] (wr.alloc (.cells #[.slice p n c, .slice (some ⟨w.heap.size, 0, none⟩) 8 8] 29)) (RowOf (L ++ Pk.e8 v 8) m (wr.alloc (.cells #[.slice p n c, .slice (some ⟨w.heap.size, 0, none⟩) 8 8] 29)))) :=
        concat2_any wr.heap.size p (some ⟨w.heap.size, 0, none⟩) n 8 c 8 L (Pk.e8 v 8) m HN.out (Pk.e8_len _ _) hm _ (heap_alloc_new wr _) (HPR.out.old B2.out) (HA.out.old B2.out) (by omega)
      have hb1 : Hid (Below w.heap.size w (wr.alloc (.cells #[.slice p n c, .slice (some ⟨w.heap.size, 0, none⟩) 8 8] 29))) := HB.out.trans (B2.out.mono HB.out.size)
      go_wp2_with (go_at_call 37; refine HC.out.mono ?_; rintro e1 w1 ⟨p1, c1, rfl, HO1, HB1, HL1⟩)
      go_ret
      refine ⟨p1, c1, rfl, ?_, HB1.out, ?_⟩
      · have h := own_base HO1.out hb1.out.size
        exact h
      · have h := hb1.out.trans (HL1.out.mono hb1.out.size)
        exact h
end Go.Proofs.Ytgfnpofoedambaa

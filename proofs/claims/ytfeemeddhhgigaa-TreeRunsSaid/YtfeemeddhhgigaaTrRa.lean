/-
  Calls that came in, in memory; put.
-/
import Derived.Test.YtfeemeddhhgigaaTrQc
namespace Go.Proofs.Ytfeemeddhhgigaa
open Go.RowKit

namespace Tr
open Pg (Rf zr zp)
def o0 : O := ⟨0, 0, zr, zp⟩
theorem o0_ok : OpOk o0 := ⟨in64_of 0 (by omega), in64_of 0 (by omega), pg_zr, Pg.ok_zp⟩
/-- A tree behind the first calls. -/
def rn (X : List O) : Nat → T
  | 0 => new
  | i + 1 => runT (rn X i) (X.getD i o0)
theorem rn_inv (X : List O) : ∀ i, Inv (rn X i)
  | 0 => new_inv
  | i + 1 => run_inv _ _ (rn_inv X i)
end Tr
/-- Calls, as a slice sees them. -/
def OpS (y : World) (p : Option Addr) (X : List Tr.O) : Prop := 0 < X.length → ∃ ab ao, p = some ⟨ab, ao, none⟩ ∧ ∀ i, i < X.length → y.rangeAt ab (ao + i * 299) (OpA (X.getD i Tr.o0)).toList ∧ OpOk (X.getD i Tr.o0)
theorem OpS.at_ {y : World} {p : Option Addr} {X : List Tr.O} (h : OpS y p X) (i : Nat) (hi : i < X.length) : ∃ ab ao, p = some ⟨ab, ao, none⟩ ∧ y.rangeAt ab (ao + i * 299) (OpA (X.getD i Tr.o0)).toList ∧ OpOk (X.getD i Tr.o0) := by
  obtain ⟨ab, ao, e, hh⟩ := h (by omega)
  exact ⟨ab, ao, e, hh i hi⟩
theorem OpS.old {w y : World} {p : Option Addr} {X : List Tr.O} (h : OpS w p X) (hb : Below w.heap.size w y) : OpS y p X := fun h0 => by
  obtain ⟨ab, ao, e, hh⟩ := h h0
  exact ⟨ab, ao, e, fun i hi => ⟨rangeAt_old (hh i hi).1 hb, (hh i hi).2⟩⟩
theorem YesH.of {w w0 y : World} {e : Ending} (hb : Below w.heap.size w w0) (h : YesH w0 e y) : YesH w e y := ⟨h.1, Lib.hid (hb.trans (h.2.out.mono hb.size))⟩
set_option maxHeartbeats 4000000 in
set_option maxRecDepth 100000 in
theorem lput_any {x : World} {b : Nat} {t : Tr.T} (N : Int) (r : Pg.Rf) (hr : Pg.Ok r) (w : World) (h : Pp x w b t) :
    Calls Try.prog 27 #[.pointer (some ⟨b, 0, none⟩), .int .i64 N, .agg (rfA r)] w (PeSay x b (Tr.pqT t N r) ((Tr.pqD t N r).length : Int) w) := by
  have HSE : Hid (∀ y, Pp x y b t → Calls Try.prog 29 #[.pointer (some ⟨b, 0, none⟩), .int .i64 N, .agg (rfA r)] y (PpSay x b (Tr.setI t N r) (Tr.setD t N r) y)) := fun y hy => pp_set N r hr hy
  have HDE : Hid (∀ y, Pp x y b t → Calls Try.prog 39 #[.pointer (some ⟨b, 0, none⟩), .int .i64 N] y (PpSay x b (Tr.delI t N) (Tr.delD t N) y)) := fun y hy => pp_del N hy
  obtain ⟨R, Z, eA, _, hk, _⟩ := rfz hr
  have HRS := Lib.hid hk.size
  have HR1 := hk.one
  have hf0 := hk.first
  have hsR := row_size Try.sizeRef33 HRS
  rw [eA] at HSE ⊢
  have B0 : Hid (Below w.heap.size w (w.alloc (.cells R 33))) := (Below.refl _ w).alloc (Nat.le_refl _) _
  have R0 : Hid ((w.alloc (.cells R 33)).heap[w.heap.size]? = some (.cells R 33 (0, 0))) := heap_alloc_new w _
  have c0 : (w.alloc (.cells R 33)).cell? ⟨w.heap.size, 0, none⟩ = some (.int .i64 r.1) := by rw [cell_of_row _ _ 0 _ _ _ R0.out]; exact hf0
  have P0 := Lib.hid (h.next B0.out)
  unfold PpSay at HSE HDE
  unfold PeSay Tr.pqT Tr.pqD
  by_cases hp : 0 < r.1
  · rw [if_pos hp, if_pos hp]
    have hp' : r.1 > 0 := hp
    generalize Tr.setI t N r = t' at *
    obtain ⟨D, hD⟩ : ∃ D, Tr.setD t N r = D := ⟨_, rfl⟩
    rw [hD] at HSE ⊢
    generalize r.1 = q at *
    clear h hk eA hp hD HDE
    go_enter Try.func27, Try.ntmps27
    go_wp2_with (first
      | ((with_reducible refine row_load _ _ _ _ _ _ _ ?_ R0.out Try.underlying33 ?_ hsR ?_); (exact rfl); (exact rfl))
      | (go_at_call 29; refine (HSE.out _ P0.out).mono ?_; rintro e1 w1 ⟨v1, rfl, F1, P1, O1⟩; obtain ⟨p1, c1, e9⟩ := F1.out.len; rw [List.length_map] at e9; subst e9))
    go_ret
    exact ⟨rfl, P1, Lib.hid ((only_of_below B0.out).trans O1.out)⟩
  · rw [if_neg hp, if_neg hp]
    have hp' : ¬ r.1 > 0 := hp
    generalize Tr.delI t N = t' at *
    obtain ⟨D, hD⟩ : ∃ D, Tr.delD t N = D := ⟨_, rfl⟩
    rw [hD] at HDE ⊢
    generalize r.1 = q at *
    clear h hk eA hp hD HSE
    go_enter Try.func27, Try.ntmps27
    go_wp2_with (first
      | (go_at_call 39; refine (HDE.out _ P0.out).mono ?_; rintro e1 w1 ⟨v1, rfl, F1, P1, O1⟩; obtain ⟨p1, c1, e9⟩ := F1.out.len; rw [List.length_map] at e9; subst e9))
    go_ret
    exact ⟨rfl, P1, Lib.hid ((only_of_below B0.out).trans O1.out)⟩
theorem Tr.pq_inv {t : Tr.T} (h : Tr.Inv t) (N : Int) (r : Pg.Rf) : Tr.Inv (Tr.pqT t N r) := by
  unfold Tr.pqT
  split
  · exact Tr.set_inv h N r
  · exact Tr.del_inv h N
theorem Tr.pqD_le (t : Tr.T) (N : Int) (r : Pg.Rf) : (Tr.pqD t N r).length ≤ 3 := by
  have hd : ∀ k, (Tr.dead t k).length ≤ 3 := fun k => by
    have h1 := alv_len (t.b k)
    have h2 := alv_len (Tr.nr (t.n (Tr.lf k)))
    have h3 := alv_len (Tr.nr (t.n 0))
    unfold Tr.dead
    rw [List.length_append, List.length_append]
    omega
  unfold Tr.pqD Tr.setD Tr.delD
  split
  · split
    · exact hd _
    · simp
  · split
    · exact hd _
    · simp
end Go.Proofs.Ytfeemeddhhgigaa

/-
  A Names in memory; New; bytes.Clone; Sum.
-/
import Derived.Test.YtdmnlooghamngaaNaE
namespace Go.Proofs.Ytdmnlooghamngaa
open Go.RowKit

namespace Nm
/-- What is remembered. -/
structure St where
  ss : List Four
  ts : List (List Int)
def St.none : St := ⟨[], []⟩
/-- What Sum answers, and what is remembered then. -/
def sm (S : St) (x : List Int) : List Int := tg 1 (num x S.ts)
def smd (S : St) (x : List Int) : St := ⟨S.ss, put x S.ts⟩
def inR (n : Int) : Bool := decide (0 ≤ n) && decide (n ≤ 1099511627776)
end Nm

theorem only_of_below {g : Nat} {w w' : World} (h : Below w.heap.size w w') : Only g w w' := ⟨h.os, h.tape, h.output, h.size, fun k hk _ => h.block k hk⟩
theorem heap_oldX (w : World) (o : Obj) {r : Nat} (h : r < w.heap.size) : (w.alloc o).heap[r]? = w.heap[r]? := (MapKept.heap_alloc w o).2 r h
theorem heap3_0 (w : World) (A B C : Obj) : (((w.alloc A).alloc B).alloc C).heap[w.heap.size]? = some A := by
  rw [heap_alloc_old _ _ (by simp; omega)]; exact heap_alloc2_old w A B
theorem heap3_1 (w : World) (A B C : Obj) : (((w.alloc A).alloc B).alloc C).heap[w.heap.size + 1]? = some B := by
  rw [heap_alloc_old _ _ (by simp)]; exact heap_alloc2_new w A B
theorem heap3_2 (w : World) (A B C : Obj) : (((w.alloc A).alloc B).alloc C).heap[w.heap.size + 2]? = some C := by
  have h := heap_alloc_new ((w.alloc A).alloc B) C
  have e : ((w.alloc A).alloc B).heap.size = w.heap.size + 2 := by simp
  rwa [e] at h
/-- The Names in block g, whose maps are the blocks b and c, remembers S. -/
structure StAt (w : World) (g b c : Nat) (S : Nm.St) : Prop where
  row : w.heap[g]? = some (.cells #[.map (some b), .map (some c)] 62 (0, 0))
  ss : MpAt Nm.kv4 Nm.ok4 w b S.ss
  ts : MpAt Nm.kvs Nm.okt w c S.ts
  apart : b ≠ c ∧ g ≠ b ∧ g ≠ c
theorem StAt.lt {w : World} {g b c : Nat} {S : Nm.St} (h : StAt w g b c S) : g < w.heap.size ∧ b < w.heap.size ∧ c < w.heap.size := ⟨(Array.getElem?_eq_some_iff.1 h.row).1, h.ss.block, h.ts.block⟩
theorem StAt.keep {w x : World} {g b c : Nat} {S : Nm.St} (h : StAt w g b c S) (h1 : x.heap[g]? = w.heap[g]?) (h2 : x.heap[b]? = w.heap[b]?) (h3 : x.heap[c]? = w.heap[c]?) : StAt x g b c S :=
  ⟨h1.trans h.row, h.ss.keep h2, h.ts.keep h3, h.apart⟩
theorem StAt.old {w x : World} {g b c : Nat} {S : Nm.St} (h : StAt w g b c S) (hb : Below w.heap.size w x) : StAt x g b c S :=
  h.keep (hb.block _ h.lt.1) (hb.block _ h.lt.2.1) (hb.block _ h.lt.2.2)
theorem StAt.only {w x : World} {g b c k : Nat} {S : Nm.St} (h : StAt w g b c S) (ho : Only k w x) (h1 : g ≠ k) (h2 : b ≠ k) (h3 : c ≠ k) : StAt x g b c S :=
  h.keep (ho.block _ h.lt.1 h1) (ho.block _ h.lt.2.1 h2) (ho.block _ h.lt.2.2 h3)
theorem StAt.drew {w : World} {g b c : Nat} {S : Nm.St} (h : StAt w g b c S) : StAt w.drew g b c S := ⟨h.row, h.ss, h.ts, h.apart⟩
theorem Bs.drew {w : World} {p : Option Addr} {c : Nat} {L : List Int} (h : Bs w p c L) : Bs w.drew p c L := ⟨h.bat, h.cap, h.nil⟩
/-- What was there, but for block k. -/
theorem bs_only {w x : World} {k c : Nat} {p : Option Addr} {L : List Int} (h : Bs w p c L) (ho : Only k w x) (hk : ∀ a, p = some a → a.block ≠ k ∨ L = []) : Bs x p c L := by
  refine ⟨⟨h.bat.1, fun h0 => ?_⟩, h.cap, h.nil⟩
  obtain ⟨ab, ao, h1, h2⟩ := h.bat.2 h0
  refine ⟨ab, ao, h1, fun j hj => ho.cell (fun e => ?_) (h2 j hj)⟩
  rcases hk _ h1 with h3 | h3
  · exact h3 e
  · rw [h3] at h0; simp at h0
theorem Bs.lt {w : World} {p : Option Addr} {c : Nat} {L : List Int} (h : Bs w p c L) : ∀ a, p = some a → a.block < w.heap.size ∨ L = [] := by
  intro a ha
  by_cases h0 : 0 < L.length
  · left
    obtain ⟨ab, ao, h1, h2⟩ := h.bat.2 h0
    rw [h1] at ha
    cases ha
    exact World.block_lt_of_cell? w _ (h2 0 h0)
  · right; exact List.eq_nil_of_length_eq_zero (by omega)
theorem bs_new {w x y : World} {k c : Nat} {p : Option Addr} {L : List Int} (h : Bs w p c L) (h1 : Bs x p c L) (ho : Only k x y) (hk : w.heap.size ≤ k) : Bs y p c L :=
  bs_only h1 ho (fun a ha => (h.lt a ha).imp (fun e => by omega) id)
/-- A map is no row. -/
theorem bs_map {α : Type} {kv : α → Value} {ok : α → Prop} {w : World} {b c : Nat} {p : Option Addr} {L : List Int} {l : List α} (h : Bs w p c L) (hm : MpAt kv ok w b l) : ∀ a, p = some a → a.block ≠ b ∨ L = [] := by
  intro a ha
  by_cases h0 : 0 < L.length
  · left
    obtain ⟨ab, ao, h1, h2⟩ := h.bat.2 h0
    rw [h1] at ha
    cases ha
    intro e
    obtain ⟨_, _, es, clock, hb, _⟩ := hm
    have h3 := h2 0 h0
    simp only at e
    subst e
    simp [World.cell?, hb] at h3
  · right; exact List.eq_nil_of_length_eq_zero (by omega)

set_option maxRecDepth 100000 in
theorem new_any (w : World) : Calls Try.prog 11 #[] w fun e w' => ∃ g b c, e = .returned (.pointer (some ⟨g, 0, none⟩)) ∧ Hid (w.heap.size ≤ g ∧ w.heap.size ≤ b ∧ w.heap.size ≤ c) ∧ Hid (StAt w' g b c Nm.St.none) ∧ Below w.heap.size w w' := by
  have h1 : Hid (StAt (((w.alloc (.map #[] 0)).alloc (.map #[] 0)).alloc (.cells #[.map (some w.heap.size), .map (some (w.heap.size + 1))] 62)) (w.heap.size + 2) w.heap.size (w.heap.size + 1) Nm.St.none) := by
    refine ⟨heap3_2 w _ _ _, ?_, ?_, by omega⟩
    · exact (mp_made w Nm.kv4 Nm.ok4).keep (by rw [heap3_0]; exact (MapKept.heap_alloc w _).1.symm)
    · have h := mp_made (w.alloc (.map #[] 0)) Nm.kvs Nm.okt
      rw [show (w.alloc (.map #[] 0)).heap.size = w.heap.size + 1 by simp] at h
      exact h.keep (by rw [heap3_1]; exact (heap_alloc2_new w _ _).symm)
  have hmm := @run_makeMap Try.prog
  go_enter Try.func11, Try.ntmps11
  go_wp2
  go_ret
  exact ⟨w.heap.size + 2, w.heap.size, w.heap.size + 1, rfl, ⟨by omega, Nat.le_refl _, by omega⟩, h1, (((Below.refl _ w).alloc (Nat.le_refl _) _).alloc (by simp) _).alloc (by simp; omega) _⟩

theorem eql_nil (p : Option Addr) (n c : Nat) (w : World) : (binOp .eql 30 (.slice p n c) (.slice none 0 0)).run Try.prog w = .ok (.bool p.isNone) w := by
  cases p <;> kernel_rfl
set_option maxHeartbeats 1000000 in
set_option maxRecDepth 100000 in
theorem clone_any (L : List Int) (p : Option Addr) (n c : Nat) (hn : L.length = n) (hL : n ≤ 1000000) (w : World) (hp : Bs w p c L) :
    Calls Try.prog 37 #[.slice p n c] w fun e w' => ∃ v, e = .returned v ∧ w'.ownsRow w.heap.size 5 1 v n (U8s L) ∧ Below w.heap.size w w' := by
  have Hp := Lib.hid hp; clear hp
  have hq := fun (p : Option Addr) (n c : Nat) (w : World) => eql_nil p n c w
  cases p with
  | none =>
    obtain ⟨rfl, rfl⟩ := Hp.out.nil rfl
    obtain rfl : n = 0 := by simpa using hn.symm
    go_enter Try.func37, Try.ntmps37
    go_wp2
    go_ret
    exact ⟨_, rfl, by unfold U8s; exact World.ownsRow_nil _ _ _ _, Below.refl _ _⟩
  | some ad =>
    have HO : Hid ((w.alloc (.cells #[] 5)).ownsRow w.heap.size 5 1 (.slice (some ⟨w.heap.size, 0, none⟩) 0 0) 0 (U8s [])) := by
      refine ⟨by unfold U8s; rfl, Or.inr ⟨w.heap.size, 0, _, rfl, Nat.le_refl _, heap_alloc_new w _, Nat.le_refl _, by unfold maxLen; omega, by simp, by unfold U8s; simp⟩⟩
    have HB : Hid (Below w.heap.size w (w.alloc (.cells #[] 5))) := (Below.refl _ w).alloc (Nat.le_refl _) _
    have HBS : Hid (Bs (w.alloc (.cells #[] 5)) (some ad) c L) := Hp.out.old HB.out
    have HN := Lib.hid hn; clear hn
    go_enter Try.func37, Try.ntmps37
    go_wp2_with (first
      | (at_builtin; refine append_bts _ _ L w.heap.size _ _ _ (some ad) _ c rfl rfl HN.out HBS.out HO.out (by omega) (by simp) ?_; intro v5 w5 ho5 hg5; have HO5 := Lib.hid ho5; have HG5 := Lib.hid hg5; clear ho5 hg5)
      | go_in)
    go_ret
    refine ⟨_, rfl, ?_, HB.out.grown HG5.out (by simp) (fun q hq => (HO.out.lt q hq).1)⟩
    have h := HO5.out
    rw [Nat.zero_add, List.nil_append] at h
    exact h
end Go.Proofs.Ytdmnlooghamngaa

/-
  A disk in a law; Pick.
-/
import Derived.Test.YtglfjjmbadffmaaDkN
namespace Go.Proofs.Ytglfjjmbadffmaa
open Go.RowKit

/-- A disk that a law plays with: x: the world in which the law began. -/
structure Sit (x y : World) (T : Nat → Prop) (d lb rb cb : Nat) (m : Dk.M) : Prop where
  dk : DkAt y T d lb rb cb m
  old : Below x.heap.size x y
  base : ∀ g, T g → x.heap.size ≤ g
section
variable {x y z : World} {T : Nat → Prop} {d lb rb cb : Nat} {m m' : Dk.M}
theorem Sit.ks (h : Sit x y T d lb rb cb m) : ∀ k ∈ [d, lb, rb, cb], x.heap.size ≤ k := fun k hk => by
  simp at hk
  rcases hk with rfl | rfl | rfl | rfl
  · exact h.base _ h.dk.lt.1
  · exact h.base _ h.dk.lt.2.1
  · exact h.base _ h.dk.lt.2.2.1
  · exact h.base _ h.dk.lt.2.2.2
theorem Sit.disk (h : Sit x y T d lb rb cb m) (hd : DkAt z T d lb rb cb m') (hm : Mv [d, lb, rb, cb] y z) : Sit x z T d lb rb cb m' := ⟨hd, hm.below h.old h.ks h.old.size, h.base⟩
theorem Sit.row (h : Sit x y T d lb rb cb m) (hd : DkAt z T d lb rb cb m') (hm : Mv [d] y z) : Sit x z T d lb rb cb m' := h.disk hd (hm.more (fun k hk => by simp at hk ⊢; exact Or.inl hk))
theorem Sit.write (h : Sit x y T d lb rb cb m) (hd : DkAt z (Own T y z) d lb rb cb m') (hm : Mv [d, lb, rb, cb] y z) : Sit x z (Own T y z) d lb rb cb m' := ⟨hd, hm.below h.old h.ks h.old.size, fun g hg => by
  rcases hg with h1 | h1
  · exact h.base g h1
  · exact Nat.le_trans h.old.size h1.1⟩
theorem Sit.next (h : Sit x y T d lb rb cb m) (hb : Below y.heap.size y z) : Sit x z T d lb rb cb m := ⟨h.dk.old hb, h.old.trans (hb.mono h.old.size), h.base⟩
theorem Sit.new (h : DkAt z (fun g => y.heap.size ≤ g ∧ g < z.heap.size) d lb rb cb m) (hb : Below y.heap.size y z) (ho : Below x.heap.size x y) : Sit x z (fun g => y.heap.size ≤ g ∧ g < z.heap.size) d lb rb cb m := ⟨h, ho.trans (hb.mono ho.size), fun _ hg => Nat.le_trans ho.size hg.1⟩
end
theorem new4 (n : Nat) (h1 : 1 ≤ n) (h2 : n ≤ 4096) (w : World) : Calls Try.prog 10 #[.int .i64 (n : Int)] w fun e w' => ∃ d lb rb cb, e = .returned (.tuple #[.pointer (some ⟨d, 0, none⟩), .int .i64 0]) ∧ Hid (DkAt w' (fun g => w.heap.size ≤ g ∧ g < w'.heap.size) d lb rb cb (Dk.fresh n)) ∧ Below w.heap.size w w' := by
  refine (disk_new (n : Int) w).mono ?_
  intro e w' h
  unfold NewSay at h
  rw [if_pos (by unfold Dk.may; simp; omega), Int.toNat_natCast] at h
  exact h
/-- Which number Pick answers. -/
def pk (k n : Int) : Nat := (if k.tmod n < 0 then k.tmod n + n else k.tmod n).toNat
theorem pk_lt (k n : Int) (h1 : 1 ≤ n) : (pk k n : Int) < n := by
  have hlt : k.tmod n < n := Int.tmod_lt_of_pos k (by omega)
  have hge : -n < k.tmod n := by
    have h := Int.tmod_lt_of_pos (-k) (show 0 < n by omega)
    rw [Int.neg_tmod] at h
    omega
  unfold pk
  split <;> omega
attribute [irreducible] pk
set_option maxHeartbeats 1000000 in
theorem pick_at (k n : Int) (h1 : 1 ≤ n) (hn : n ≤ 1000000) (w : World) : Calls Try.prog 29 #[.int .i64 k, .int .i64 n] w fun r w' => w' = w ∧ r = .returned (.int .i64 (pk k n : Nat)) := by
  have hlt : k.tmod n < n := Int.tmod_lt_of_pos k (by omega)
  have hge : -n < k.tmod n := by
    have h := Int.tmod_lt_of_pos (-k) (show 0 < n by omega)
    rw [Int.neg_tmod] at h
    omega
  have hw : IntKind.i64.wrap (k.tmod n) = k.tmod n := IntWalk.i64_in _ ⟨by omega, by omega⟩
  have hnz : n ≠ 0 := by omega
  have hw2 : IntKind.i64.wrap (k.tmod n + n) = k.tmod n + n := IntWalk.i64_in _ ⟨by omega, by omega⟩
  by_cases h0 : k.tmod n < 0
  · have hp : ((pk k n : Nat) : Int) = k.tmod n + n := by unfold pk; rw [if_pos h0]; omega
    go_enter Try.func29, Try.ntmps29
    go_wp2
    go_ret
    exact ⟨rfl, by first | rfl | (rw [hp]; rfl)⟩
  · have h0' : 0 ≤ k.tmod n := by omega
    have hp : ((pk k n : Nat) : Int) = k.tmod n := by unfold pk; rw [if_neg h0]; omega
    go_enter Try.func29, Try.ntmps29
    go_wp2
    go_ret
    exact ⟨rfl, by first | rfl | (rw [hp]; rfl)⟩

namespace Dk
theorem gone_down {m : M} (h : gone m = false) : m.down = false ∧ m.left ≠ 0 := by
  unfold gone at h
  simp at h
  exact h
theorem wrE_eq {m : M} {i : Int} {L : List Int} (h : fault m i L = 0) : wrE m i L = spendE m := by
  unfold wrE
  cases hd : m.down with
  | true => rw [if_pos rfl]; unfold spendE gone; rw [hd]; rfl
  | false => rw [if_neg (by decide), if_neg (by rw [h]; decide)]
section
variable {m : M}
theorem crash_out {f : Nat → Bool} {j : Nat} (h : m.ca j = none) : (crash m f).ca j = none ∧ (crash m f).ls j = m.ls j := by
  have h1 := crk_out m f j (dl m).length (fun q hq e => by
    have := ((dl_mem m j).1 (List.mem_of_getElem? e)).2
    rw [h] at this
    cases this)
  exact ⟨h1.1.trans h, h1.2⟩
theorem crash_in {f : Nat → Bool} {j q : Nat} (h : (dl m)[q]? = some j) : (crash m f).ca j = none ∧ (crash m f).ls j = if f q then (m.ca j).getD [] else m.ls j := crk_in m f h _ (List.getElem?_eq_some_iff.1 h).1
theorem crash_none {f : Nat → Bool} (ok : ∀ i, m.n ≤ i → m.ca i = none) (j : Nat) : (crash m f).ca j = none := by
  cases h : m.ca j with
  | none => exact (crash_out h).1
  | some L =>
    have hj : j < m.n := by
      by_cases q : j < m.n
      · exact q
      · rw [ok j (by omega)] at h; cases h
    obtain ⟨q, hq⟩ := List.getElem?_of_mem ((dl_mem m j).2 ⟨hj, by rw [h]; rfl⟩)
    exact (crash_in hq).1
theorem crash_rd (m : M) (f : Nat → Bool) : (crash m f).rd = m.rd ∧ (crash m f).wr = m.wr := ⟨(crk_n m f _).2.1, (crk_n m f _).2.2⟩
end
end Dk
end Go.Proofs.Ytglfjjmbadffmaa

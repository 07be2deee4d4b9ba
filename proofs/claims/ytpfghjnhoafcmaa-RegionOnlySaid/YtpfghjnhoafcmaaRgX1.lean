/-
  Records written one behind the other: the last two are there, in plain lists.
-/
import Derived.Test.YtpfghjnhoafcmaaRgQ0
import Derived.Test.YtpfghjnhoafcmaaRgL
namespace Go.Proofs.Ytpfghjnhoafcmaa
open Go.RowKit

namespace Rg
/-- What a disk and names hold behind the records L, which were written with the numbers 0, 1, ..: the first one has the Gen g. -/
structure Tw (g : Int) (L : List R) (m : Dk.M) (S : Nm.St) : Prop where
  up : Dk.Up m 4
  gen : ∀ i, i < L.length → (L.getD i zero).gen = g + (i : Int)
  ok : ∀ x ∈ L, Ok x
  none : L.length = 0 → Dk.peek m 1 = [] ∧ Dk.peek m 2 = []
  one : L.length = 1 → Dk.peek m (3 - hn (L.getD 0 zero)) = []
  last : ∀ i, i + 1 = L.length → Hold m S (hn (L.getD i zero)) (L.getD i zero) (i : Int)
  prev : ∀ i, i + 2 = L.length → Hold m S (hn (L.getD i zero)) (L.getD i zero) (i : Int)
theorem getD_app {L : List R} {r : R} {i : Nat} (h : i < L.length) : (L ++ [r]).getD i zero = L.getD i zero := by
  rw [List.getD_eq_getElem?_getD, List.getD_eq_getElem?_getD, List.getElem?_append_left h]
theorem getD_end {L : List R} {r : R} {i : Nat} (h : i = L.length) : (L ++ [r]).getD i zero = r := by
  subst h
  rw [List.getD_eq_getElem?_getD, List.getElem?_append_right (Nat.le_refl _), Nat.sub_self]
  rfl
theorem hn_next {a b : R} (h : b.gen = a.gen + 1) : hn a ≠ hn b := by
  unfold hn
  rw [h]
  split <;> split <;> omega
theorem hn_other {a b : R} (h : hn a ≠ hn b) : 3 - hn a = hn b ∧ 3 - hn b = hn a := by
  rcases hn_or a with e | e <;> rcases hn_or b with f | f <;> rw [e, f] at h ⊢ <;> simp at h ⊢
theorem Tw.start (g : Int) : Tw g [] m0 Nm.St.none := by
  have e : ∀ j, Dk.peek m0 j = [] := fun j => by unfold m0; exact fresh_peek 4 j
  exact ⟨u0, fun i hi => by simp at hi, fun x hx => by simp at hx, fun _ => ⟨e 1, e 2⟩, fun h => by simp at h, fun i hi => by simp at hi, fun i hi => by simp at hi⟩
theorem Tw.step {g : Int} {L : List R} {m : Dk.M} {S : Nm.St} {k : Nat} (h : Tw g L m S) (hk : L.length = k) (h20 : k ≤ 20) {r : R} (hr : Ok r) (hm : may r = true) (hg : r.gen = g + (k : Int)) : Tw g (L ++ [r]) (vM m S r (k : Int)) (vS S r (k : Int)) := by
  subst hk
  obtain ⟨hu, hgen, hok, hno, hone, hlast, hprev⟩ := h
  have hi : inN (L.length : Int) := by unfold inN; omega
  have hnew := hold_new (S := S) hu (by omega) hr hm hi
  have hl : (L ++ [r]).length = L.length + 1 := by simp
  refine ⟨up_new hu (by omega) hr hm hi, fun i hi2 => ?_, fun x hx => ?_, fun h => by rw [hl] at h; omega, fun h => ?_, fun i h => ?_, fun i h => ?_⟩
  · rw [hl] at hi2
    by_cases e : i < L.length
    · rw [getD_app e]; exact hgen i e
    · have e2 : i = L.length := by omega
      rw [getD_end e2, hg, e2]
  · rw [List.mem_append, List.mem_singleton] at hx
    rcases hx with q | q
    · exact hok x q
    · rw [q]; exact hr
  · rw [hl] at h
    have h0 : L.length = 0 := by omega
    rw [getD_end h0.symm]
    obtain ⟨n1, n2⟩ := hno h0
    have hne : 3 - hn r ≠ hn r := by rcases hn_or r with e | e <;> rw [e] <;> omega
    refine empty_keep ?_ hu (by omega) hr hm hi hne
    rcases hn_or r with e | e
    · rw [e]; exact n2
    · rw [e]; exact n1
  · rw [hl] at h
    have e : i = L.length := by omega
    rw [getD_end e, e]
    exact hnew
  · rw [hl] at h
    have e : i < L.length := by omega
    rw [getD_app e]
    have hh := hlast i (by omega)
    refine hold_keep hh hu (by omega) hr hm hi (hn_next ?_)
    rw [hg, hgen i e]
    omega
theorem Tw.like {g : Int} {L : List R} {m m' : Dk.M} {S : Nm.St} (h : Tw g L m S) (hu : Dk.Up m' 4) (hp : ∀ j, Dk.peek m' j = Dk.peek m j) : Tw g L m' S :=
  ⟨hu, h.gen, h.ok, fun q => by rw [hp, hp]; exact h.none q, fun q => by rw [hp]; exact h.one q, fun i q => hold_like (h.last i q) (hp _), fun i q => hold_like (h.prev i q) (hp _)⟩
theorem mem_two {a b : R} {o1 o2 : Option R} (h : o1 = some a ∧ o2 = some b ∨ o1 = some b ∧ o2 = some a) : (o1.toList ++ o2.toList).length = 2 ∧ a ∈ o1.toList ++ o2.toList ∧ b ∈ o1.toList ++ o2.toList := by
  rcases h with ⟨rfl, rfl⟩ | ⟨rfl, rfl⟩ <;> simp
/-- What All tells. -/
theorem Tw.one_all {g : Int} {L : List R} {m : Dk.M} {S : Nm.St} (h : Tw g L m S) (h1 : L.length = 1) : (vA m S).length = 1 ∧ L.getD 0 zero ∈ vA m S := by
  have hh := hold_hb (h.last 0 (by omega))
  have hz := h.one h1
  rw [vA_up (by rw [h.up.n]; omega)]
  rcases hn_or (L.getD 0 zero) with e | e
  · rw [e] at hh hz
    have hz' : Dk.peek m 2 = [] := hz
    have hh' : hb 1 (vG S 1 (Dk.peek m 1)) = some (L.getD 0 zero) := hh
    rw [hh', hz', hb_nil 2]
    simp
  · rw [e] at hh hz
    have hz' : Dk.peek m 1 = [] := hz
    have hh' : hb 2 (vG S 2 (Dk.peek m 2)) = some (L.getD 0 zero) := hh
    rw [hh', hz', hb_nil 1]
    simp
theorem Tw.two_all {g : Int} {L : List R} {m : Dk.M} {S : Nm.St} (h : Tw g L m S) {i : Nat} (h1 : i + 2 = L.length) : (vA m S).length = 2 ∧ L.getD (i + 1) zero ∈ vA m S ∧ L.getD i zero ∈ vA m S := by
  have ha := hold_hb (h.last (i + 1) (by omega))
  have hb' := hold_hb (h.prev i h1)
  have hne : hn (L.getD i zero) ≠ hn (L.getD (i + 1) zero) := hn_next (by rw [h.gen (i + 1) (by omega), h.gen i (by omega)]; omega)
  rw [vA_up (by rw [h.up.n]; omega)]
  refine mem_two ?_
  rcases hn_or (L.getD (i + 1) zero) with e | e
  · have f : hn (L.getD i zero) = 2 := by rcases hn_or (L.getD i zero) with q | q <;> omega
    rw [e] at ha
    rw [f] at hb'
    exact Or.inl ⟨ha, hb'⟩
  · have f : hn (L.getD i zero) = 1 := by rcases hn_or (L.getD i zero) with q | q <;> omega
    rw [e] at ha
    rw [f] at hb'
    exact Or.inr ⟨hb', ha⟩
/-- Behind a Sync and a Crash that loses what is not synced. -/
theorem peek_synced (m : Dk.M) (f : Nat → Bool) (j : Nat) : Dk.peek (Dk.crash (Dk.synced m) f) j = Dk.peek m j := by
  obtain ⟨h1, h2⟩ := Dk.crash_out (m := Dk.synced m) (f := f) (j := j) rfl
  show ((Dk.crash (Dk.synced m) f).ca j).getD ((Dk.crash (Dk.synced m) f).ls j) = _
  rw [h1, h2]
  rfl
theorem Tw.gone {g : Int} {L : List R} {m : Dk.M} {S : Nm.St} (h : Tw g L m S) (f : Nat → Bool) : Tw g L (Dk.crash (Dk.syM m) f) S := by
  rw [h.up.syM]
  exact h.like (Dk.Up.crash h.up.synced.n f) (fun j => peek_synced m f j)
theorem fate_nil : Dk.fate [] = fun _ => false := by funext k; unfold Dk.fate; simp
end Rg

end Go.Proofs.Ytpfghjnhoafcmaa

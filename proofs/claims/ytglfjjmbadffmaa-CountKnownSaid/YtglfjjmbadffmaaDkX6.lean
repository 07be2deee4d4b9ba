/-
  The reference: Read, Dirty, New.
-/
import Derived.Test.YtglfjjmbadffmaaDkX5
import Derived.Test.YtglfjjmbadffmaaDkO
namespace Go.Proofs.Ytglfjjmbadffmaa
open Go.RowKit

section
variable {U : Nat → Prop} {r qb : Nat} {m : Dk.M} {vl vc : Value} {G : Nat → Option (List Int)}
theorem RfC.counted {y z : World} {j : Nat} (h : RfC y U r qb vl vc m G) (hm : Mv [qb] y z) (hr : z.heap[qb]? = some (.cells (((List.range m.n).map fun i => Value.int .i64 (m.rd i : Int)).toArray.setIfInBounds j (.int .i64 ((m.rd j : Int) + 1))) 3 (0, 0))) (hj : j < m.n) :
    RfC z U r qb vl vc { m with rd := upd m.rd j (m.rd j + 1) } G := by
  have key : ∀ g, U g → g ≠ qb → z.heap[g]? = y.heap[g]? := fun g hg hn => hm.block g (h.top g hg) (by simpa using hn)
  have ne : ∀ (g : Nat) (cur : Array Value) (e : TypeId), y.heap[g]? = some (.cells cur e (0, 0)) → 3 ≠ e → g ≠ qb := fun g cur e h1 he q => by
    rw [q, h.cnt] at h1
    injection Option.some.inj h1 with _ h7 _
    exact he h7
  obtain ⟨o1, o2, o3, o4, o5, o6⟩ := h.ok
  refine ⟨h.lt, fun g hg => Nat.lt_of_lt_of_le (h.top g hg) hm.size, (key r h.lt.1 (ne _ _ _ h.row (by decide))).trans h.row, ?_, ?_, h.own, ?_, h.ls, ⟨o1, o2, o3, o4, o5, o6⟩⟩
  · exact h.las.keep (fun g hg => by obtain ⟨_, cur, h2⟩ := h.las.type g hg; exact key g (h.own.1 g hg) (ne _ _ _ h2 (by decide))) (fun g cur hg hc => key g hg (ne _ _ _ hc (by decide)))
  · exact h.cac.keep (fun g hg => by obtain ⟨_, cur, h2⟩ := h.cac.type g hg; exact key g (h.own.2 g hg) (ne _ _ _ h2 (by decide))) (fun g cur hg hc => key g hg (ne _ _ _ hc (by decide)))
  · rw [hr]
    congr 2
    apply Array.ext_getElem?
    intro k
    by_cases hkj : k = j
    · subst hkj
      rw [Array.getElem?_setIfInBounds_self_of_lt (by simpa using hj)]
      simp [hj, upd_same]
    · rw [Array.getElem?_setIfInBounds_ne (fun e => hkj e.symm)]
      by_cases hk : k < m.n
      · simp [hk, upd_other _ _ hkj]
      · simp [hk]
/-- What the reference's Read says. -/
def RfRd (U : Nat → Prop) (r qb : Nat) (m : Dk.M) (i : Int) (w : World) (e : Ending) (w' : World) : Prop := ∃ v, e = .returned (.tuple #[v, .int .i64 (Dk.rdE m i)]) ∧ Hid (w'.ownsRow w.heap.size 5 1 v (Dk.rdX m i).length (U8s (Dk.rdX m i)) ∧ Sha.Byt (Dk.rdX m i)) ∧ Hid (RfAt w' U r qb (Dk.rdM m i)) ∧ Hid (Mv [r, qb] w w')
end
/-- What the reference's New says. -/
def RfNew (n : Int) (w : World) (e : Ending) (w' : World) : Prop :=
  if Dk.may n then ∃ r qb, e = .returned (.tuple #[.pointer (some ⟨r, 0, none⟩), .int .i64 0]) ∧ Hid (RfAt w' (fun g => w.heap.size ≤ g ∧ g < w'.heap.size) r qb (Dk.fresh n.toNat)) ∧ Below w.heap.size w w'
  else e = .returned (.tuple #[.pointer none, .int .i64 7]) ∧ w' = w
theorem refnew_no (n : Int) (h : Dk.may n = false) (w : World) : Calls Try.prog 11 #[.int .i64 n] w (RfNew n w) := by
  by_cases h1 : 1 ≤ n
  · have h2 : 4096 < n := by
      unfold Dk.may at h
      simp [h1] at h
      exact h
    go_enter Try.func11, Try.ntmps11
    go_wp2
    go_ret2
    unfold RfNew
    rw [h, if_neg (by decide)]
    exact ⟨rfl, rfl⟩
  · have h2 : n < 1 := by omega
    go_enter Try.func11, Try.ntmps11
    go_wp2
    go_ret2
    unfold RfNew
    rw [h, if_neg (by decide)]
    exact ⟨rfl, rfl⟩
set_option maxHeartbeats 2000000 in
set_option maxRecDepth 100000 in
theorem refnew_yes (n : Nat) (h1 : 1 ≤ n) (h2 : n ≤ 4096) (w : World) : Calls Try.prog 11 #[.int .i64 (n : Int)] w (RfNew n w) := by
  have hm : Dk.may n = true := by unfold Dk.may; simp; omega
  have hl1 : (1 : Int) ≤ (n : Int) := by omega
  have hl2 : (n : Int) ≤ 4096 := by omega
  have m2 := make_run 49 3 (.int .i64 0) 8 n Try.underlying49 Try.info_int rfl (by omega) (by omega)
  go_enter Try.func11, Try.ntmps11
  go_wp2
  go_ret2
  unfold RfNew
  rw [hm, if_pos rfl, Int.toNat_natCast]
  refine ⟨w.heap.size + 1, w.heap.size, rfl, Lib.hid ⟨.slice none 0 0, .slice none 0 0, fun _ => none, ⟨⟨by omega, by simp⟩, ⟨Nat.le_refl _, by simp; omega⟩⟩, fun g h => h.2, ?_, ?_, ?_, ⟨(fun g hg => by cases hg), (fun g hg => by cases hg)⟩, ?_, fun i => rfl, ⟨h1, h2, fun i _ => rfl, by unfold In64 Dk.fresh; dsimp only; omega, fun i => by simp [Dk.fresh], fun i L hL => by cases hL⟩⟩, below_two w _ _⟩
  · have h := heap_alloc_new (w.alloc (.cells (Array.replicate n (Value.int .i64 0)) 3)) (.cells #[.int .i64 (n : Int), .int .i64 (-1), .int .i64 0, .bool false, .slice none 0 0, .slice none 0 0, .slice (some ⟨w.heap.size, 0, none⟩) n n] 57)
    have hs : (w.alloc (.cells (Array.replicate n (Value.int .i64 0)) 3)).heap.size = w.heap.size + 1 := by simp
    rw [hs] at h
    exact h
  · rw [Dk.lst_nil]; exact lst_at0 _ _ _
  · show Lst _ _ _ _ (Dk.lst (fun _ => none) n)
    rw [Dk.lst_nil]; exact lst_at0 _ _ _
  · rw [heap_alloc_old _ _ (by simp), heap_alloc_new]
    unfold Dk.fresh
    congr 2
    apply Array.ext
    · simp
    · intro j _ _; simp
theorem ref_new (n : Int) (w : World) : Calls Try.prog 11 #[.int .i64 n] w (RfNew n w) := by
  cases h : Dk.may n with
  | false => exact refnew_no n h w
  | true =>
    have h' := h
    unfold Dk.may at h'
    simp at h'
    obtain ⟨k, rfl⟩ : ∃ k : Nat, n = (k : Int) := ⟨n.toNat, by omega⟩
    exact refnew_yes k (by omega) (by omega) w
end Go.Proofs.Ytglfjjmbadffmaa

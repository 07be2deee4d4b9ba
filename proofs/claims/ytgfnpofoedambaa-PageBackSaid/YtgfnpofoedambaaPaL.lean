/-
  What is general, picked out of elder texts (wip/pickd.py).
-/
import Derived.Test.YtgfnpofoedambaaPaA
import Derived.Maps.OwnSet
import Derived.Laws.IdiomMaps
namespace Go.Proofs.Ytgfnpofoedambaa
open Go.ChangeShapes Go.WideShapes Go.RowKit

/-- A row of the call's own stays where its block stays. -/
theorem own_keepB {w y : World} {B e s n : Nat} {v : Value} {xs : List Value} (h : w.ownsRow B e s v n xs) (hk : ∀ g, v.ownBlock = some g → y.heap[g]? = w.heap[g]?) : y.ownsRow B e s v n xs := by
  refine ⟨h.1, ?_⟩
  rcases h.2 with h1 | ⟨g, cap, cur, h1, h2, h3, h4⟩
  · exact Or.inl h1
  · exact Or.inr ⟨g, cap, cur, h1, h2, (hk g (by rw [h1]; rfl)).trans h3, h4⟩
theorem own_type {w : World} {B e s n : Nat} {v : Value} {xs : List Value} (h : w.ownsRow B e s v n xs) : ∀ g, v.ownBlock = some g → B ≤ g ∧ ∃ cur, w.heap[g]? = some (.cells cur e (0, 0)) := by
  intro g hg
  rcases h.2 with ⟨h1, _⟩ | ⟨q, cap, cur, h1, h2, h3, h4⟩
  · rw [h1] at hg; cases hg
  · rw [h1] at hg; cases hg; exact ⟨h2, cur, h3⟩
theorem own_one {w : World} {B e s n : Nat} {v : Value} {xs ys : List Value} (h : w.ownsRow B e s v n xs) (k : w.ownsRow B e s v n ys) : xs = ys := by
  rcases h.2 with ⟨h1, h2⟩ | ⟨g, cap, cur, h1, _, h3, _, _, _, h4⟩
  · have a := h.1
    have b := k.1
    rw [h2, Nat.zero_mul] at a b
    rw [List.eq_nil_of_length_eq_zero a, List.eq_nil_of_length_eq_zero b]
  · rcases k.2 with ⟨k1, k2⟩ | ⟨g', cap', cur', k1, _, k3, _, _, _, k4⟩
    · rw [h1] at k1; cases k1
    · rw [h1] at k1
      cases k1
      rw [h3] at k3
      cases k3
      rw [← h4, ← k4]
theorem own_onlyX {w y : World} {B e s n k : Nat} {v : Value} {xs : List Value} (h : w.ownsRow B e s v n xs) (ho : Only k w y) (hk : k < B) : y.ownsRow B e s v n xs := by
  refine ⟨h.1, ?_⟩
  rcases h.2 with h1 | ⟨g, cap, cur, h1, h2, h3, h4⟩
  · exact Or.inl h1
  · exact Or.inr ⟨g, cap, cur, h1, h2, (ho.block g (lt_of_block h3) (by omega)).trans h3, h4⟩
theorem own_grown {w y : World} {B e s n : Nat} {v : Value} {xs : List Value} {row : Option Nat} (h : w.ownsRow B e s v n xs) (hg : w.grownBy y row) (hne : ∀ g, v.ownBlock = some g → some g ≠ row) : y.ownsRow B e s v n xs := by
  refine ⟨h.1, ?_⟩
  rcases h.2 with h1 | ⟨g, cap, cur, h1, h2, h3, h4⟩
  · exact Or.inl h1
  · exact Or.inr ⟨g, cap, cur, h1, h2, (hg.block g (lt_of_block h3) (hne g (by rw [h1]; rfl))).trans h3, h4⟩
theorem own_apart {w : World} {B B' e e' s s' n n' : Nat} {v v' : Value} {xs xs' : List Value} (h : w.ownsRow B e s v n xs) (h' : w.ownsRow B' e' s' v' n' xs') (he : e ≠ e') : ∀ g, v.ownBlock = some g → some g ≠ v'.ownBlock := by
  intro g hg hg'
  rcases h.2 with ⟨h1, _⟩ | ⟨q, cap, cur, h1, _, h3, _⟩
  · rw [h1] at hg; cases hg
  · rcases h'.2 with ⟨h1', _⟩ | ⟨q', cap', cur', h1', _, h3', _⟩
    · rw [h1'] at hg'; cases hg'
    · rw [h1] at hg
      rw [h1'] at hg'
      cases hg
      cases hg'
      rw [h3] at h3'
      cases h3'
      exact he rfl
theorem own_base {w : World} {B B' n : Nat} {e : TypeId} {v : Value} {xs : List Value} (h : w.ownsRow B e 1 v n xs) (hB : B' ≤ B) : w.ownsRow B' e 1 v n xs := by
  refine ⟨h.1, ?_⟩
  rcases h.2 with h1 | ⟨g, cap, cur, h1, h2, h3⟩
  · exact Or.inl h1
  · exact Or.inr ⟨g, cap, cur, h1, Nat.le_trans hB h2, h3⟩


theorem only_of_below {g : Nat} {w w' : World} (h : Below w.heap.size w w') : Only g w w' := ⟨h.os, h.tape, h.output, h.size, fun k hk _ => h.block k hk⟩
theorem heap_oldX (w : World) (o : Obj) {r : Nat} (h : r < w.heap.size) : (w.alloc o).heap[r]? = w.heap[r]? := (MapKept.heap_alloc w o).2 r h
theorem heap3_0 (w : World) (A B C : Obj) : (((w.alloc A).alloc B).alloc C).heap[w.heap.size]? = some A := by
  rw [heap_alloc_old _ _ (by simp; omega)]; exact heap_alloc2_old w A B
theorem heap3_1 (w : World) (A B C : Obj) : (((w.alloc A).alloc B).alloc C).heap[w.heap.size + 1]? = some B := by
  rw [heap_alloc_old _ _ (by simp)]; exact heap_alloc2_new w A B
theorem heap3_2 (w : World) (A B C : Obj) : (((w.alloc A).alloc B).alloc C).heap[w.heap.size + 2]? = some C := by
  have h := heap_alloc_new ((w.alloc A).alloc B) C
  have e : ((w.alloc A).alloc B).heap.size = w.heap.size + 2 := by simp
  rwa [e] at h
theorem Bs.drew {w : World} {p : Option Addr} {c : Nat} {L : List Int} (h : Bs w p c L) : Bs w.drew p c L := ⟨h.bat, h.cap, h.nil⟩
theorem eql_nil (p : Option Addr) (n c : Nat) (w : World) : (binOp .eql 29 (.slice p n c) (.slice none 0 0)).run Try.prog w = .ok (.bool p.isNone) w := by
  cases p <;> kernel_rfl
set_option maxHeartbeats 1000000 in
set_option maxRecDepth 100000 in
theorem clone_any (L : List Int) (p : Option Addr) (n c : Nat) (hn : L.length = n) (hL : n ≤ 1000000) (w : World) (hp : Bs w p c L) :
    Calls Try.prog 41 #[.slice p n c] w fun e w' => ∃ v, e = .returned v ∧ w'.ownsRow w.heap.size 5 1 v n (U8s L) ∧ Below w.heap.size w w' := by
  have Hp := Lib.hid hp; clear hp
  have hq := fun (p : Option Addr) (n c : Nat) (w : World) => eql_nil p n c w
  cases p with
  | none =>
    obtain ⟨rfl, rfl⟩ := Hp.out.nil rfl
    obtain rfl : n = 0 := by simpa using hn.symm
    go_enter Try.func41, Try.ntmps41
    go_wp2
    go_ret
    exact ⟨_, rfl, by unfold U8s; exact World.ownsRow_nil _ _ _ _, Below.refl _ _⟩
  | some ad =>
    have HO : Hid ((w.alloc (.cells #[] 5)).ownsRow w.heap.size 5 1 (.slice (some ⟨w.heap.size, 0, none⟩) 0 0) 0 (U8s [])) := by
      refine ⟨by unfold U8s; rfl, Or.inr ⟨w.heap.size, 0, _, rfl, Nat.le_refl _, heap_alloc_new w _, Nat.le_refl _, by unfold maxLen; omega, by simp, by unfold U8s; simp⟩⟩
    have HB : Hid (Below w.heap.size w (w.alloc (.cells #[] 5))) := (Below.refl _ w).alloc (Nat.le_refl _) _
    have HBS : Hid (Bs (w.alloc (.cells #[] 5)) (some ad) c L) := Hp.out.old HB.out
    have HN := Lib.hid hn; clear hn
    go_enter Try.func41, Try.ntmps41
    go_wp2_with (first
      | (at_builtin; refine append_bts _ _ L w.heap.size _ _ _ (some ad) _ c rfl rfl HN.out HBS.out HO.out (by omega) (by simp) ?_; intro v5 w5 ho5 hg5; have HO5 := Lib.hid ho5; have HG5 := Lib.hid hg5; clear ho5 hg5)
      | go_in)
    go_ret
    refine ⟨_, rfl, ?_, HB.out.grown HG5.out (by simp) (fun q hq => (HO.out.lt q hq).1)⟩
    have h := HO5.out
    rw [Nat.zero_add, List.nil_append] at h
    exact h

def EqSay (b : Bool) (w : World) (e : Ending) (w' : World) : Prop := e = .returned (.bool b) ∧ Below w.heap.size w w'
set_option maxRecDepth 100000 in
theorem same_ne (p q : Option Addr) (n m c d : Nat) (h : n ≠ m) (w : World) : Calls Try.prog 13 #[.slice p n c, .slice q m d] w (EqSay false w) := by
  have h1 : ((n : Int) == (m : Int)) = false := by rw [beq_eq_false_iff_ne]; omega
  have h2 : ¬ ((n : Int) = (m : Int)) := by omega
  go_enter Try.func13, Try.ntmps13
  go_wp2
  go_ret
  exact ⟨rfl, Below.refl _ _⟩
theorem same_all (L M : List Int) (p q : Option Addr) (n m c d : Nat) (hn : L.length = n) (hm : M.length = m) (w : World) (hp : BAt w p L) (hq : BAt w q M) (hL : n ≤ 10000000) :
    Calls Try.prog 13 #[.slice p n c, .slice q m d] w (EqSay (decide (L = M)) w) := by
  by_cases h : n = m
  · subst h
    exact (same_gen L M p q n c d hn hm w hp hq hL).mono fun _ _ h => h
  · have hd : decide (L = M) = false := decide_eq_false (fun e => h (by rw [← hn, ← hm, e]))
    rw [hd]
    exact same_ne p q n m c d h w

theorem bs_own {w : World} {B m c : Nat} {p : Option Addr} {l : List Int} (h : w.ownsRow B 5 1 (.slice p m c) m (U8s l)) (hb : Sha.Byt l) : Bs w p c l := by
  obtain ⟨p', c', h1, h2, _⟩ := own_bs h hb
  cases h1
  exact h2

theorem list_of {α : Type} {Q : Nat → α → Prop} : ∀ n : Nat, (∀ i, i < n → ∃ x, Q i x) → ∃ L : List α, L.length = n ∧ ∀ (r : Nat) (x : α), L[r]? = some x → Q r x
  | 0, _ => ⟨[], rfl, fun r x h => by simp at h⟩
  | n + 1, h => by
    obtain ⟨L, hl, hq⟩ := list_of n (fun i hi => h i (by omega))
    obtain ⟨x, hx⟩ := h n (by omega)
    refine ⟨L ++ [x], by simp [hl], fun r y hy => ?_⟩
    by_cases hr : r < L.length
    · rw [List.getElem?_append_left hr] at hy
      exact hq r y hy
    · rw [List.getElem?_append_right (by omega)] at hy
      have h0 : r - L.length = 0 := by
        by_cases q : r - L.length = 0
        · exact q
        · rw [List.getElem?_eq_none (by simp; omega)] at hy; cases hy
      rw [h0] at hy
      obtain rfl : x = y := by simpa using hy
      have : r = n := by omega
      rw [this]
      exact hx
theorem BAt.take {w : World} {p : Option Addr} {l : List Int} (h : BAt w p l) (k : Nat) : BAt w p (l.take k) := by
  have h2 : BAt w p (l.take k ++ l.drop k) := by rw [List.take_append_drop]; exact h
  exact h2.pre

theorem BAt.dropk {w : World} {ab ao k : Nat} {l : List Int} (h : BAt w (some ⟨ab, ao, none⟩) l) (hk : k < l.length) : BAt w (some ⟨ab, ao + k, none⟩) (l.drop k) := by
  refine ⟨fun x hx => h.1 x (List.mem_of_mem_drop hx), fun _ => ?_⟩
  obtain ⟨b', o', h1, h2⟩ := h.2 (by omega)
  cases h1
  refine ⟨ab, ao + k, rfl, fun j hj => ?_⟩
  rw [List.length_drop] at hj
  rw [Nat.add_assoc, h2 (k + j) (by omega)]
  simp [List.getD_eq_getElem?_getD]
theorem Bs.take {w : World} {p : Option Addr} {c : Nat} {l : List Int} (h : Bs w p c l) (k : Nat) : Bs w p c (l.take k) :=
  ⟨h.bat.take k, by have := h.cap; rw [List.length_take]; omega, fun e => by have h1 := h.nil e; exact ⟨by rw [h1.1, List.take_nil], h1.2⟩⟩
theorem Bs.dropk {w : World} {ab ao c k : Nat} {l : List Int} (h : Bs w (some ⟨ab, ao, none⟩) c l) (hk : k < l.length) : Bs w (some ⟨ab, ao + k, none⟩) (c - k) (l.drop k) :=
  ⟨h.bat.dropk hk, by have := h.cap; rw [List.length_drop]; omega, fun e => by cases e⟩
end Go.Proofs.Ytgfnpofoedambaa

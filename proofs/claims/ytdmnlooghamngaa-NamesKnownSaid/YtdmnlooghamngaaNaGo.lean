/-
  Rows of bytes that the call itself has made.
-/
import Derived.Test.YtdmnlooghamngaaNaX
namespace Go.Proofs.Ytdmnlooghamngaa
open Go.RowKit

theorem Try.info_bytes : (Try.prog.info? 30).map (fun i => (i.zero, i.size, i.bytes)) = some (some (.slice none 0 0), 1, 24) := by kernel_rfl
theorem own_onlyX {w y : World} {B e s n k : Nat} {v : Value} {xs : List Value} (h : w.ownsRow B e s v n xs) (ho : Only k w y) (hk : k < B) : y.ownsRow B e s v n xs := by
  refine ⟨h.1, ?_⟩
  rcases h.2 with h1 | ⟨g, cap, cur, h1, h2, h3, h4⟩
  · exact Or.inl h1
  · exact Or.inr ⟨g, cap, cur, h1, h2, (ho.block g (lt_of_block h3) (by omega)).trans h3, h4⟩
theorem own_grown {w y : World} {B e s n : Nat} {v : Value} {xs : List Value} {row : Option Nat} (h : w.ownsRow B e s v n xs) (hg : w.grownBy y row) (hne : ∀ g, v.ownBlock = some g → some g ≠ row) : y.ownsRow B e s v n xs := by
  refine ⟨h.1, ?_⟩
  rcases h.2 with h1 | ⟨g, cap, cur, h1, h2, h3, h4⟩
  · exact Or.inl h1
  · exact Or.inr ⟨g, cap, cur, h1, h2, (hg.block g (lt_of_block h3) (hne g (by rw [h1]; rfl))).trans h3, h4⟩
theorem own_apart {w : World} {B B' e e' s s' n n' : Nat} {v v' : Value} {xs xs' : List Value} (h : w.ownsRow B e s v n xs) (h' : w.ownsRow B' e' s' v' n' xs') (he : e ≠ e') : ∀ g, v.ownBlock = some g → some g ≠ v'.ownBlock := by
  intro g hg hg'
  rcases h.2 with ⟨h1, _⟩ | ⟨q, cap, cur, h1, _, h3, _⟩
  · rw [h1] at hg; cases hg
  · rcases h'.2 with ⟨h1', _⟩ | ⟨q', cap', cur', h1', _, h3', _⟩
    · rw [h1'] at hg'; cases hg'
    · rw [h1] at hg
      rw [h1'] at hg'
      cases hg
      cases hg'
      rw [h3] at h3'
      cases h3'
      exact he rfl
/-- The rows Q 0, .., Q (k - 1), each in memory of its own. -/
def Got (B : Nat) (y : World) (v : Value) (k : Nat) (Q : Nat → List Int) : Prop :=
  ∃ xs, y.ownsRow B 30 1 v k xs ∧ ∀ j, j < k → ∃ p m c, xs[j]? = some (.slice p m c) ∧ (Q j).length = m ∧ y.ownsRow B 5 1 (.slice p m c) m (U8s (Q j))
theorem got_nil (B : Nat) (y : World) (Q : Nat → List Int) : Got B y (.slice none 0 0) 0 Q := ⟨[], World.ownsRow_nil _ _ _ _, fun j hj => by omega⟩
theorem Got.old {B k : Nat} {w y : World} {v : Value} {Q : Nat → List Int} (h : Got B w v k Q) (hb : Below w.heap.size w y) : Got B y v k Q := by
  obtain ⟨xs, h1, h2⟩ := h
  exact ⟨xs, own_keepX h1 hb, fun j hj => by
    obtain ⟨p, m, c, h3, h4, h5⟩ := h2 j hj
    exact ⟨p, m, c, h3, h4, own_keepX h5 hb⟩⟩
theorem Got.only {B k q : Nat} {w y : World} {v : Value} {Q : Nat → List Int} (h : Got B w v k Q) (ho : Only q w y) (hq : q < B) : Got B y v k Q := by
  obtain ⟨xs, h1, h2⟩ := h
  exact ⟨xs, own_onlyX h1 ho hq, fun j hj => by
    obtain ⟨p, m, c, h3, h4, h5⟩ := h2 j hj
    exact ⟨p, m, c, h3, h4, own_onlyX h5 ho hq⟩⟩
theorem Got.grown {B k : Nat} {w y : World} {v : Value} {Q : Nat → List Int} {row : Option Nat} (h : Got B w v k Q) (hg : w.grownBy y row) (hr : ∀ g, row = some g → ∃ e s n u xs, e ≠ 30 ∧ e ≠ 5 ∧ u = some g ∧ ∃ v' : Value, v'.ownBlock = u ∧ w.ownsRow B e s v' n xs) : Got B y v k Q := by
  obtain ⟨xs, h1, h2⟩ := h
  have hne : ∀ (e : Nat) (s n : Nat) (v1 : Value) (ys : List Value), w.ownsRow B e s v1 n ys → (e = 30 ∨ e = 5) → ∀ g, v1.ownBlock = some g → some g ≠ row := fun e s n v1 ys hv he g hg' hgr => by
    obtain ⟨e', s', n', u, xs', h3, h4, h5, v', h6, h7⟩ := hr g hgr.symm
    have h8 := own_apart hv h7 (by
      rcases he with rfl | rfl
      · exact fun q => h3 q.symm
      · exact fun q => h4 q.symm) g hg'
    rw [h6, h5] at h8
    exact h8 rfl
  exact ⟨xs, own_grown h1 hg (hne _ _ _ _ _ h1 (Or.inl rfl)), fun j hj => by
    obtain ⟨p, m, c, h3, h4, h5⟩ := h2 j hj
    exact ⟨p, m, c, h3, h4, own_grown h5 hg (hne _ _ _ _ _ h5 (Or.inr rfl))⟩⟩
theorem got_some {B k : Nat} {w : World} {v : Value} {Q : Nat → List Int} (h : Got B w v k Q) (h0 : 0 < k) : ∃ gs cap, v = .slice (some ⟨gs, 0, none⟩) k cap := by
  obtain ⟨xs, h1, _⟩ := h
  rcases h1.2 with ⟨_, h2⟩ | ⟨g, cap, cur, h2, _⟩
  · omega
  · exact ⟨g, cap, h2⟩
theorem Got.at {B k gs cap : Nat} {w : World} {Q : Nat → List Int} (h : Got B w (.slice (some ⟨gs, 0, none⟩) k cap) k Q) {j : Nat} (hj : j < k) : ∃ p m c, w.cell? ⟨gs, j, none⟩ = some (.slice p m c) ∧ (Q j).length = m ∧ w.ownsRow B 5 1 (.slice p m c) m (U8s (Q j)) := by
  obtain ⟨xs, h1, h2⟩ := h
  obtain ⟨p, m, c, h3, h4, h5⟩ := h2 j hj
  refine ⟨p, m, c, ?_, h4, h5⟩
  rcases h1.2 with ⟨h6, _⟩ | ⟨g, cap', cur, h6, _, h7, _, _, _, h8⟩
  · cases h6
  · cases h6
    rw [← h8, List.getElem?_take_of_lt (by omega)] at h3
    rw [cell_of_row w gs j _ _ _ h7]
    simpa using h3
theorem Got.lt {B k : Nat} {w : World} {v : Value} {Q : Nat → List Int} (h : Got B w v k Q) : ∀ g, v.ownBlock = some g → B ≤ g ∧ g < w.heap.size := by
  obtain ⟨xs, h1, _⟩ := h
  exact fun g hg => h1.lt g hg
/-- append of one row. -/
theorem append_got {ops : Array Oper} {rest : List Oper} {a : Act} {w : World} {K : Exit → Act → World → Prop} {D : Option Tmp} {T : TypeId} {ps : String} {af : Array Edge} (s x : Operand) (B : Nat) (v : Value) (k : Nat) (Q : Nat → List Int) (ad : Addr) (p : Option Addr) (m c : Nat)
    (hs : a.eval s = v) (hx : a.eval x = .slice (some ad) 1 1) (hg : Got B w v k Q) (hc : w.cell? ad = some (.slice p m c)) (hm : (Q k).length = m) (hrow : w.ownsRow B 5 1 (.slice p m c) m (U8s (Q k))) (hk : k ≤ 1000000) (hB : B ≤ w.heap.size)
    (h : ∀ v' w', Got B w' v' (k + 1) Q → w.grownBy w' v.ownBlock → wpList Try.prog ops K rest (a.put D v') w') :
    wpList Try.prog ops K ({ dst := D, op := .call { callee := .builtin .append, args := #[s, x], argTypes := #[29, 29] }, type := T, pos := ps, after := af, guard := none } :: rest) a w := by
  obtain ⟨i0, hi, hz0, hz1, hz2⟩ := info_parts Try.info_bytes
  obtain ⟨xs, h1, h2⟩ := hg
  have hadd : ad.add 0 = ad := by simp [Addr.add]
  refine wpList_append_own _ rfl s x 29 rfl B 30 i0 (.slice none 0 0) 1 24 Try.underlying29 hi hz0 hz1 hz2 rfl (by decide) v k xs hs h1 ad 1 1 [.slice p m c] hx rfl (fun j u hj => ?_) (fun u hu => ?_) (by unfold maxLen; omega) (by omega) hB ?_
  · rcases j with _ | j
    · simp at hj; subst hj; rw [hadd]; exact hc
    · simp at hj
  · simp at hu; subst hu; rfl
  · intro v' w' ho hgr _
    have hne : ∀ (n : Nat) (u : Value) (ys : List Value), w.ownsRow B 5 1 u n ys → ∀ g, u.ownBlock = some g → some g ≠ v.ownBlock := fun n u ys hu => own_apart hu h1 (by decide)
    have hxl : xs.length = k := by have := h1.1; omega
    refine h v' w' ⟨_, ho, fun j hj => ?_⟩ hgr
    by_cases hjk : j < k
    · obtain ⟨p', m', c', h3, h4, h5⟩ := h2 j hjk
      exact ⟨p', m', c', by rw [List.getElem?_append_left (by omega)]; exact h3, h4, own_grown h5 hgr (hne _ _ _ h5)⟩
    · obtain rfl : j = k := by omega
      exact ⟨p, m, c, by rw [List.getElem?_append_right (by omega), hxl]; simp, hm, own_grown hrow hgr (hne _ _ _ hrow)⟩
end Go.Proofs.Ytdmnlooghamngaa

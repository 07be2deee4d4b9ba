/-
  The reference's words in memory: a row of rows of four bytes that grows.
-/
import Derived.Test.YtkajigfdfbgphaaTurF
import Derived.Test.YtkajigfdfbgphaaTurG
import Derived.Test.YtkajigfdfbgphaaAesR
namespace Go.Proofs.Ytkajigfdfbgphaa
open Go.RowKit

theorem Try.info_row : (Try.prog.info? 22).map (fun i => (i.zero, i.size, i.bytes)) = some (some (.slice none 0 0), 1, 24) := by kernel_rfl
/-- A row of words, each in a block of its own. -/
def Rws (w : World) (B : Nat) (v : Value) (n : Nat) (L : List Aes.Q4) (vs : List Value) : Prop :=
  w.ownsRow B 22 1 v n vs ∧ L.length = n ∧ ∀ i, i < n → ∃ b c, vs[i]? = some (.slice (some ⟨b, 0, none⟩) 4 c) ∧ w.ownsRow B 5 1 (.slice (some ⟨b, 0, none⟩) 4 c) 4 (U8s (Aes.qi (L.getD i Aes.q0)))
theorem Rws.keep {w x : World} {B : Nat} {v : Value} {n : Nat} {L : List Aes.Q4} {vs : List Value} (h : Rws w B v n L vs) (hb : Below w.heap.size w x) : Rws x B v n L vs :=
  ⟨own_keepX h.1 hb, h.2.1, fun i hi => by
    obtain ⟨b, c, h1, h2⟩ := h.2.2 i hi
    exact ⟨b, c, h1, own_keepX h2 hb⟩⟩
theorem own_type_ne {w : World} {B B' n m : Nat} {v : Value} {xs ys : List Value} {b c : Nat} (h : w.ownsRow B 22 1 v n xs) (h2 : w.ownsRow B' 5 1 (.slice (some ⟨b, 0, none⟩) m c) m ys) : some b ≠ v.ownBlock := by
  intro e
  rcases h.2 with ⟨rfl, _⟩ | ⟨g, cap, cur, rfl, _, hg, _⟩
  · cases e
  · rcases h2.2 with ⟨h', _⟩ | ⟨g', cap', cur', hv, _, hg', _⟩
    · cases h'
    · simp only [Value.slice.injEq, Option.some.injEq, Addr.mk.injEq, and_true, true_and] at hv
      obtain ⟨rfl, rfl⟩ := hv
      simp only [Value.ownBlock, Option.some.injEq] at e
      subst e
      rw [hg] at hg'
      simp only [Option.some.injEq, Obj.cells.injEq] at hg'
      exact absurd hg'.2.1 (by decide)
/-- The words' row has grown by one. -/
theorem Rws.push {w w1 : World} {B : Nat} {v v' : Value} {n : Nat} {L : List Aes.Q4} {vs : List Value} {b c : Nat} {q : Aes.Q4} {o : Obj} (h : Rws w B v n L vs) (hq : w.ownsRow B 5 1 (.slice (some ⟨b, 0, none⟩) 4 c) 4 (U8s (Aes.qi q)))
    (ho : w1.ownsRow B 22 1 v' (n + 1) (vs ++ [.slice (some ⟨b, 0, none⟩) 4 c])) (hg : (w.alloc o).grownBy w1 v.ownBlock) : Rws w1 B v' (n + 1) (L ++ [q]) (vs ++ [.slice (some ⟨b, 0, none⟩) 4 c]) := by
  have hvl : vs.length = n := by have := h.1.1; omega
  refine ⟨ho, by simp [h.2.1], fun i hi => ?_⟩
  by_cases hin : i < n
  · obtain ⟨b', c', h1, h2⟩ := h.2.2 i hin
    refine ⟨b', c', by rw [List.getElem?_append_left (by omega)]; exact h1, ?_⟩
    rw [List.getD_eq_getElem?_getD, List.getElem?_append_left (by rw [h.2.1]; exact hin), ← List.getD_eq_getElem?_getD]
    exact (h2.alloc o).kept hg (Or.inr (own_type_ne h.1 h2))
  · obtain rfl : i = n := by omega
    refine ⟨b, c, by rw [List.getElem?_append_right (by omega), hvl, Nat.sub_self]; rfl, ?_⟩
    rw [List.getD_eq_getElem?_getD, List.getElem?_append_right (by rw [h.2.1]; exact Nat.le_refl _), h.2.1, Nat.sub_self]
    exact (hq.alloc o).kept hg (Or.inr (own_type_ne h.1 hq))
theorem Rws.at {w : World} {B : Nat} {g cap : Nat} {n : Nat} {L : List Aes.Q4} {vs : List Value} (h : Rws w B (.slice (some ⟨g, 0, none⟩) n cap) n L vs) (i : Nat) (hi : i < n) :
    ∃ b c, w.cell? ⟨g, i, none⟩ = some (.slice (some ⟨b, 0, none⟩) 4 c) ∧ ∀ j, j < 4 → w.cell? ⟨b, j, none⟩ = some (.int .u8 ((Aes.qb (L.getD i Aes.q0) j : Nat) : Int)) := by
  obtain ⟨b, c, h1, h2⟩ := h.2.2 i hi
  refine ⟨b, c, by rw [h.1.cellAt i (by omega)]; exact h1, fun j hj => ?_⟩
  rw [u8_at h2 j hj, Aes.qi_get _ j hj]
theorem Rws.some {w : World} {B : Nat} {v : Value} {n : Nat} {L : List Aes.Q4} {vs : List Value} (h : Rws w B v n L vs) (hn : 0 < n) : ∃ g c, v = .slice (some ⟨g, 0, none⟩) n c := own_some h.1 hn

/-- The cipher that is being made: its struct at c, its table at tb. -/
structure NS (w0 w : World) (B c tb tc : Nat) (O : Obj) (v : Value) (n : Nat) (L : List Aes.Q4) (vs : List Value) : Prop where
  str : w.heap[c]? = some (.cells #[v, .slice (some ⟨tb, 0, none⟩) 256 tc] 60 (0, 0))
  tab : w.heap[tb]? = some O
  rws : Rws w B v n L vs
  below : Below w0.heap.size w0 w
  cB : c < B
  tB : tb < B
  ne : tb ≠ c
  lo : w0.heap.size ≤ c
  hi : B ≤ w.heap.size
theorem NS.keep {w0 w x : World} {B c tb tc : Nat} {O : Obj} {v : Value} {n : Nat} {L : List Aes.Q4} {vs : List Value} (h : NS w0 w B c tb tc O v n L vs) (hb : Below w.heap.size w x) : NS w0 x B c tb tc O v n L vs :=
  ⟨(hb.block _ (lt_of_block h.str)).trans h.str, (hb.block _ (lt_of_block h.tab)).trans h.tab, h.rws.keep hb, h.below.trans (hb.mono h.below.size), h.cB, h.tB, h.ne, h.lo, Nat.le_trans h.hi hb.size⟩
theorem NS.grow {w0 w w1 : World} {B c tb tc : Nat} {O o : Obj} {v v' : Value} {n : Nat} {L : List Aes.Q4} {vs : List Value} {b bc : Nat} {q : Aes.Q4} (h : NS w0 w B c tb tc O v n L vs) (hq : w.ownsRow B 5 1 (.slice (some ⟨b, 0, none⟩) 4 bc) 4 (U8s (Aes.qi q)))
    (ho : w1.ownsRow B 22 1 v' (n + 1) (vs ++ [.slice (some ⟨b, 0, none⟩) 4 bc])) (hg : (w.alloc o).grownBy w1 v.ownBlock) :
    w1.heap[c]? = some (.cells #[v, .slice (some ⟨tb, 0, none⟩) 256 tc] 60 (0, 0)) ∧ NS w0 (w1.setCell ⟨c, 0, none⟩ v') B c tb tc O v' (n + 1) (L ++ [q]) (vs ++ [.slice (some ⟨b, 0, none⟩) 4 bc]) := by
  have hlt := h.rws.1.lt
  have kb : ∀ k o', w.heap[k]? = some o' → k < B → w1.heap[k]? = some o' := fun k o' hk hkB => by
    refine (hg.block k (by have := lt_of_block hk; simp; omega) (fun e => ?_)).trans ((heap_alloc_old w o (lt_of_block hk)).trans hk)
    have := (hlt k e.symm).1
    omega
  have hc1 := kb c _ h.str h.cB
  have ht1 := kb tb _ h.tab h.tB
  have hr1 := h.rws.push hq ho hg
  have hb1 : Below w0.heap.size w0 w1 := (h.below.alloc h.below.size o).grown hg (by have := h.below.size; simp; omega) (fun k e => by have := (hlt k e).1; have := h.lo; have := h.cB; omega)
  have hgs : (w1.grownBy (w1.setCell ⟨c, 0, none⟩ v') (some c)) := ⟨rfl, rfl, rfl, by simp, fun j _ hj => heap_setCell_other _ _ _ _ (by simp; intro e; exact hj (by rw [e]))⟩
  have hne : ∀ {v2 : Value} {m : Nat} {e : TypeId} {xs : List Value}, w1.ownsRow B e 1 v2 m xs → v2.ownBlock ≠ some c := fun h2 e => by
    have := (h2.lt c e).1
    have := h.cB
    omega
  refine ⟨hc1, ?_, ?_, ⟨hr1.1.kept hgs (Or.inr (hne hr1.1)), hr1.2.1, fun i hi => ?_⟩, hb1.setCell h.lo _, h.cB, h.tB, h.ne, h.lo, ?_⟩
  · rw [heap_setCell_same w1 c 0 _ _ _ hc1]
    rfl
  · rw [heap_setCell_other _ _ _ _ (by simp; exact h.ne)]
    exact ht1
  · obtain ⟨b', c', h1, h2⟩ := hr1.2.2 i hi
    exact ⟨b', c', h1, h2.kept hgs (Or.inr (hne h2))⟩
  · have h1 := hg.size
    have h2 := h.hi
    simp at h1 ⊢
    omega

/-- The struct's first cell and two words' rows, as they are read. -/
structure Tri (B c : Nat) (v : Value) (bq cq : Nat) (q : Aes.Q4) (bx cx : Nat) (t : Aes.Q4) (x : World) : Prop where
  c : x.cell? ⟨c, 0, none⟩ = some v
  q : x.ownsRow B 5 1 (.slice (some ⟨bq, 0, none⟩) 4 cq) 4 (U8s (Aes.qi q))
  t : x.ownsRow B 5 1 (.slice (some ⟨bx, 0, none⟩) 4 cx) 4 (U8s (Aes.qi t))
theorem Tri.keep {B c : Nat} {v : Value} {bq cq : Nat} {q : Aes.Q4} {bx cx : Nat} {t : Aes.Q4} {x y : World} (h : Tri B c v bq cq q bx cx t x) (hb : Below x.heap.size x y) : Tri B c v bq cq q bx cx t y :=
  ⟨(hb.cell (World.block_lt_of_cell? x _ h.c)).trans h.c, own_keepX h.q hb, own_keepX h.t hb⟩
theorem Tri.at {B c : Nat} {v : Value} {bq cq : Nat} {q : Aes.Q4} {bx cx : Nat} {t : Aes.Q4} {x : World} (h : Tri B c v bq cq q bx cx t x) (j : Nat) (hj : j < 4) :
    x.cell? ⟨bq, j, none⟩ = some (.int .u8 ((Aes.qb q j : Nat) : Int)) ∧ x.cell? ⟨bx, j, none⟩ = some (.int .u8 ((Aes.qb t j : Nat) : Int)) :=
  ⟨by rw [u8_at h.q j hj, Aes.qi_get q j hj], by rw [u8_at h.t j hj, Aes.qi_get t j hj]⟩
theorem Tri.grown {B c n : Nat} {v v2 : Value} {bq cq : Nat} {q : Aes.Q4} {bx cx : Nat} {t : Aes.Q4} {x y : World} {o : Obj} {xs : List Value} (h : Tri B c v bq cq q bx cx t x) (hw : x.ownsRow B 22 1 v2 n xs) (hg : (x.alloc o).grownBy y v2.ownBlock) (hc : y.cell? ⟨c, 0, none⟩ = some v) : Tri B c v bq cq q bx cx t y :=
  ⟨hc, (h.q.alloc o).kept hg (Or.inr (own_type_ne hw h.q)), (h.t.alloc o).kept hg (Or.inr (own_type_ne hw h.t))⟩

/-- append of one word's row, as an operation of a region by hand. -/
theorem op_append_row {ops : Array Oper} {a : Act} {K : Act → World → Prop} {Q : Exit → Act → World → Prop} {D : Tmp} {T : TypeId} {ps : String} {af : Array Edge} (w0 : World) (y : Value) (l : List Value) (i : Nat)
    (s x : Operand) (base : Nat) (v : Value) (n : Nat) (ho : ops[i]? = some { dst := some D, op := Op.call { callee := Callee.builtin Builtin.append, args := #[s, x], argTypes := #[58, 58] }, type := T, pos := ps, after := af, guard := none })
    (hs : a.eval s = v) (hx : a.eval x = .slice (some ⟨w0.heap.size, 0, none⟩) 1 1) (hy : y.oneCell' = true) (hown : w0.ownsRow base 22 1 v n l) (hn : n ≤ 1000) (hb : base ≤ w0.heap.size)
    (hK : ∀ v' w', w'.ownsRow base 22 1 v' (n + 1) (l ++ [y]) → (w0.alloc (.cells #[y] 22)).grownBy w' v.ownBlock → K (a.put (some D) v') w') :
    wpOp Try.prog ops Q i K a (w0.alloc (.cells #[y] 22)) := by
  obtain ⟨i0, hi, hz0, hz1, hz2⟩ := info_parts Try.info_row
  refine op_plain i _ ho rfl ?_
  refine wp_append_own _ s x 58 rfl base 22 i0 (.slice none 0 0) 1 24 Try.underlying58 hi hz0 hz1 hz2 rfl (by decide) v n l hs (hown.alloc _) ⟨w0.heap.size, 0, none⟩ 1 1 [y] hx rfl ?_ ?_ (by unfold maxLen; omega) (by omega) (by simp; omega) ?_
  · intro j u hj
    rw [Addr.add_mid, Nat.zero_add, cell_of_row (w0.alloc (.cells #[y] 22)) w0.heap.size j _ _ _ (heap_alloc_new w0 _)]
    simpa using hj
  · intro u hu
    simp at hu
    subst hu
    exact hy
  · intro v' w' h1 h2 _
    exact hK v' w' h1 h2
/-- append of bytes onto a row of the call's own, as an operation of a region by hand. -/
theorem op_append_bs {ops : Array Oper} {a : Act} {w : World} {K : Act → World → Prop} {Q : Exit → Act → World → Prop} {D : Tmp} {T : TypeId} {ps : String} {af : Array Edge} (i : Nat) (s x : Operand) (ys : List Int) (base : Nat) (v : Value) (n : Nat) (l : List Int) (b o m c : Nat)
    (ho : ops[i]? = some { dst := some D, op := Op.call { callee := Callee.builtin Builtin.append, args := #[s, x], argTypes := #[22, 22] }, type := T, pos := ps, after := af, guard := none }) (hs : a.eval s = v)
    (hx : a.eval x = .slice (some ⟨b, o, none⟩) m c) (hm : ys.length = m) (hc : ∀ j, j < m → w.cell? ⟨b, o + j, none⟩ = some (.int .u8 (ys.getD j 0))) (hown : w.ownsRow base 5 1 v n (U8s l)) (hn : n + m ≤ 1000000000000) (hb : base ≤ w.heap.size)
    (hK : ∀ v' w', w'.ownsRow base 5 1 v' (n + m) (U8s (l ++ ys)) → w.grownBy w' v.ownBlock → K (a.put (some D) v') w') :
    wpOp Try.prog ops Q i K a w := by
  obtain ⟨i0, hi, hz0, hz1, hz2⟩ := info_parts Try.info_u8
  refine op_plain i _ ho rfl ?_
  refine wp_append_own _ s x 22 rfl base 5 i0 (.int .u8 0) 1 1 Try.underlying22 hi hz0 hz1 hz2 rfl (by decide) v n (U8s l) hs hown ⟨b, o, none⟩ m c (ys.map (Value.int .u8)) hx (by simp [hm]) ?_ ?_ (by unfold maxLen; omega) (by omega) hb ?_
  · intro j u hj
    have hjl : j < ys.length := by have := (List.getElem?_eq_some_iff.1 hj).1; simpa using this
    rw [Addr.add_mid, hc j (by omega)]
    rw [List.getElem?_map, List.getElem?_eq_getElem hjl] at hj
    rw [List.getD_eq_getElem?_getD, List.getElem?_eq_getElem hjl]
    simpa using hj
  · intro u hu
    rw [List.mem_map] at hu
    obtain ⟨x, _, rfl⟩ := hu
    rfl
  · intro v' w' h1 h2 _
    refine hK v' w' ?_ h2
    have e : U8s l ++ ys.map (Value.int .u8) = U8s (l ++ ys) := by unfold U8s; simp
    rw [← e]
    exact h1
end Go.Proofs.Ytkajigfdfbgphaa

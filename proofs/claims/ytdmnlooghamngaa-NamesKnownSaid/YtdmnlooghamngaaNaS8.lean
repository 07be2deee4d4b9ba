/-
  The law NamesRuns: what holds in a round.
-/
import Derived.Test.YtdmnlooghamngaaNaS7
namespace Go.Proofs.Ytdmnlooghamngaa
open Go.RowKit

/-- The program's Names, the reference's, and what was sealed so far. -/
structure Rd (w : World) (N2 g b c gr : Nat) (V u1 u2 : Value) (n : Nat) (Q : Nat → List Int) (Sp Sr : Nm.St) (y : World) : Prop where
  old : Below w.heap.size w y
  sz : w.heap.size ≤ N2 ∧ N2 ≤ y.heap.size
  blk : (w.heap.size ≤ g ∧ w.heap.size ≤ b ∧ w.heap.size ≤ c) ∧ g < N2 ∧ b < N2 ∧ c < N2
  st : StAt y g b c Sp
  ref : RefAt y N2 gr u1 u2 Sr
  got : Got N2 y V n Q
  nb : NB V u2
/-- All of it lies apart from the blocks of E. -/
def RdE (E : List Nat) (N2 gr : Nat) (V u1 u2 : Value) (n : Nat) (Sr : Nm.St) (y : World) : Prop :=
  (∀ q ∈ E, N2 ≤ q) ∧ RefE E y N2 gr u1 u2 Sr ∧ Av E y N2 30 1 n V
section
variable {w y z : World} {N2 g b c gr n : Nat} {V u1 u2 : Value} {Q : Nat → List Int} {Sp Sr : Nm.St} {E : List Nat}
theorem Rd.next (h : Rd w N2 g b c gr V u1 u2 n Q Sp Sr y) (hb : Below y.heap.size y z) : Rd w N2 g b c gr V u1 u2 n Q Sp Sr z :=
  ⟨h.old.trans (hb.mono h.old.size), ⟨h.sz.1, Nat.le_trans h.sz.2 hb.size⟩, h.blk, h.st.old hb, h.ref.old hb, h.got.old hb, h.nb⟩
theorem av_keep {k : Nat} {v : Value} (h : Av E y N2 30 1 k v) (hg : Got N2 y v k Q) (hk : ∀ q, v.ownBlock = some q → z.heap[q]? = y.heap[q]?) : Av E z N2 30 1 k v := by
  obtain ⟨xs, a, _⟩ := hg
  exact h.keep a (own_keepB a hk)
theorem RdE.next (h : RdE E N2 gr V u1 u2 n Sr y) (hr : Rd w N2 g b c gr V u1 u2 n Q Sp Sr y) (hb : Below y.heap.size y z) : RdE E N2 gr V u1 u2 n Sr z :=
  ⟨h.1, h.2.1.old hr.ref hb, av_keep h.2.2 hr.got (fun q hq => by obtain ⟨_, cur, h2⟩ := hr.got.type q hq; exact hb.block _ (lt_of_block h2))⟩
theorem Rd.fresh (hr : Rd w N2 g b c gr V u1 u2 n Q Sp Sr y) (hE : ∀ q ∈ E, y.heap.size ≤ q) : RdE E N2 gr V u1 u2 n Sr y := by
  have hlt : ∀ q, q < y.heap.size → q ∉ E := fun q hq he => by have := hE q he; omega
  refine ⟨fun q hq => Nat.le_trans hr.sz.2 (hE q hq), hr.ref.fresh hE, fun q hq => by obtain ⟨_, cur, h2⟩ := hr.got.type q hq; exact hlt q (lt_of_block h2), fun xs hxs u hu q hq => ?_⟩
  obtain ⟨zs, a, b⟩ := hr.got
  obtain rfl := own_one a hxs
  obtain ⟨i, hi⟩ := List.getElem?_of_mem hu
  have hil := (List.getElem?_eq_some_iff.1 hi).1
  have hxl : zs.length = n * 1 := a.1
  obtain ⟨p, m, c, b1, b2, b3⟩ := b i (by omega)
  rw [b1] at hi
  cases hi
  obtain ⟨_, cur, h2⟩ := own_type b3 q hq
  exact hlt q (lt_of_block h2)
/-- The program seals, or sums: only one of its maps turns. -/
theorem Rd.prog {q : Nat} {Sp' : Nm.St} (h : Rd w N2 g b c gr V u1 u2 n Q Sp Sr y) (ho : Only q y z) (hq : w.heap.size ≤ q ∧ q < N2) (hs : StAt z g b c Sp') : Rd w N2 g b c gr V u1 u2 n Q Sp' Sr z :=
  ⟨ho.below h.old hq.1 h.old.size, ⟨h.sz.1, Nat.le_trans h.sz.2 ho.size⟩, h.blk, hs, h.ref.only ho hq.2, h.got.only ho hq.2, h.nb⟩
theorem RdE.prog {q : Nat} (h : RdE E N2 gr V u1 u2 n Sr y) (hr : Rd w N2 g b c gr V u1 u2 n Q Sp Sr y) (ho : Only q y z) (hq : q < N2) : RdE E N2 gr V u1 u2 n Sr z := by
  refine ⟨h.1, h.2.1.keep hr.ref (fun k hk => ?_) (fun k hk => ?_), av_keep h.2.2 hr.got (fun k hk => ?_)⟩
  · obtain ⟨h1, cur, h2⟩ := hr.ref.ss.type k hk
    exact ho.block k (lt_of_block h2) (by omega)
  · obtain ⟨h1, cur, h2⟩ := hr.ref.ts.type k hk
    exact ho.block k (lt_of_block h2) (by omega)
  · obtain ⟨h1, cur, h2⟩ := hr.got.type k hk
    exact ho.block k (lt_of_block h2) (by omega)
/-- What was sealed so far stays where the reference remembers. -/
theorem got_eff {row : Option Nat} (hr : Rd w N2 g b c gr V u1 u2 n Q Sp Sr y) (he : Eff gr row y z) (hrow : ∀ k, row = some k → ∃ cur e, y.heap[k]? = some (.cells cur e (0, 0)) ∧ e ≠ 5) (hV : ∀ k, V.ownBlock = some k → some k ≠ row) :
    Got N2 z V n Q ∧ ∀ k, V.ownBlock = some k → z.heap[k]? = y.heap[k]? := by
  have hgr : ∀ (k : Nat) (cur : Array Value) (e : TypeId), y.heap[k]? = some (.cells cur e (0, 0)) → e ≠ 65 → k ≠ gr := fun k cur e h2 h3 h4 => by
    rw [h4, hr.ref.row] at h2
    cases h2
    exact h3 rfl
  have h1 : ∀ k, V.ownBlock = some k → z.heap[k]? = y.heap[k]? := fun k hk => by
    obtain ⟨_, cur, h2⟩ := hr.got.type k hk
    exact he.block k (lt_of_block h2) (hgr k cur _ h2 (by decide)) (hV k hk)
  refine ⟨hr.got.keep h1 (fun k cur h2 _ => he.block k (lt_of_block h2) (hgr k cur _ h2 (by decide)) (fun e => ?_)), h1⟩
  obtain ⟨cur', e', h3, h4⟩ := hrow k e.symm
  rw [h2] at h3
  cases h3
  exact h4 rfl
theorem st_eff {row : Option Nat} (hr : Rd w N2 g b c gr V u1 u2 n Q Sp Sr y) (he : Eff gr row y z) (hrow : ∀ k, row = some k → N2 ≤ k) : StAt z g b c Sp ∧ Below w.heap.size w z := by
  have hb := hr.ref.base
  have hl := hr.st.lt
  have hk := hr.blk.2
  have h1 : ∀ k, k < N2 → some k ≠ row := fun k hk e => by have := hrow k e.symm; omega
  exact ⟨hr.st.keep (he.block _ hl.1 (by omega) (h1 _ (by omega))) (he.block _ hl.2.1 (by omega) (h1 _ (by omega))) (he.block _ hl.2.2 (by omega) (h1 _ (by omega))), he.below hr.old (Nat.le_trans hr.sz.1 hb) (fun k hk => Nat.le_trans hr.sz.1 (hrow k hk)) hr.old.size⟩
/-- The reference seals. -/
theorem Rd.refseal {Sr' : Nm.St} {u1' : Value} (hr : Rd w N2 g b c gr V u1 u2 n Q Sp Sr y) (he : Eff gr u1.ownBlock y z) (hz : RefAt z N2 gr u1' u2 Sr') : Rd w N2 g b c gr V u1' u2 n Q Sp Sr' z ∧ ∀ k, V.ownBlock = some k → z.heap[k]? = y.heap[k]? := by
  have h1 := got_eff hr he (fun k hk => by obtain ⟨_, cur, h2⟩ := hr.ref.ss.type k hk; exact ⟨cur, _, h2, by decide⟩) (fun k hk e => by
    obtain ⟨_, cur, h2⟩ := hr.got.type k hk
    obtain ⟨_, cur', h3⟩ := hr.ref.ss.type k e.symm
    rw [h2] at h3
    cases h3)
  have h2 := st_eff hr he (fun k hk => (hr.ref.ss.type k hk).1)
  exact ⟨⟨h2.2, ⟨hr.sz.1, Nat.le_trans hr.sz.2 he.size⟩, hr.blk, h2.1, hz, h1.1, hr.nb⟩, h1.2⟩
/-- The reference sums. -/
theorem Rd.refsum {Sr' : Nm.St} {u2' : Value} (hr : Rd w N2 g b c gr V u1 u2 n Q Sp Sr y) (he : Eff gr u2.ownBlock y z) (hz : RefAt z N2 gr u1 u2' Sr') (hm : Moved y u2 u2') : Rd w N2 g b c gr V u1 u2' n Q Sp Sr' z ∧ ∀ k, V.ownBlock = some k → z.heap[k]? = y.heap[k]? := by
  have h1 := got_eff hr he (fun k hk => by obtain ⟨_, cur, h2⟩ := hr.ref.ts.type k hk; exact ⟨cur, _, h2, by decide⟩) (fun k hk e => hr.nb k hk e.symm)
  have h2 := st_eff hr he (fun k hk => (hr.ref.ts.type k hk).1)
  refine ⟨⟨h2.2, ⟨hr.sz.1, Nat.le_trans hr.sz.2 he.size⟩, hr.blk, h2.1, hz, h1.1, fun k hk e => ?_⟩, h1.2⟩
  rcases hm with h3 | h3
  · exact hr.nb k hk (h3 ▸ e)
  · have h4 := h3 k e
    obtain ⟨_, cur, h5⟩ := hr.got.type k hk
    have := lt_of_block h5
    omega
/-- A block of E turns. -/
theorem Rd.turn {q : Nat} (hr : Rd w N2 g b c gr V u1 u2 n Q Sp Sr y) (he : RdE E N2 gr V u1 u2 n Sr y) (hq : q ∈ E) (ho : Only q y z) : Rd w N2 g b c gr V u1 u2 n Q Sp Sr z ∧ RdE E N2 gr V u1 u2 n Sr z := by
  have hN := he.1 q hq
  have hb := hr.blk
  have hl := hr.st.lt
  have hne : ∀ k, k ∉ E → k ≠ q := fun k hk e => hk (e ▸ hq)
  have hrow : ∀ {e : Nat} {s m : Nat} {v : Value} {xs : List Value}, y.ownsRow N2 e s v m xs → (∀ k, v.ownBlock = some k → k ∉ E) → z.ownsRow N2 e s v m xs := fun h k => own_keepB h (fun i hi => by
    obtain ⟨_, cur, h2⟩ := own_type h i hi
    exact ho.block i (lt_of_block h2) (hne i (k i hi)))
  have hkeep : ∀ {v : Value}, (∀ k, v.ownBlock = some k → k ∉ E) → (∀ k, v.ownBlock = some k → k < y.heap.size) → ∀ k, v.ownBlock = some k → z.heap[k]? = y.heap[k]? := fun h1 h2 k hk => ho.block k (h2 k hk) (hne k (h1 k hk))
  refine ⟨⟨ho.below hr.old (Nat.le_trans hr.sz.1 hN) hr.old.size, ⟨hr.sz.1, Nat.le_trans hr.sz.2 ho.size⟩, hr.blk, hr.st.keep (ho.block _ hl.1 (by omega)) (ho.block _ hl.2.1 (by omega)) (ho.block _ hl.2.2 (by omega)), hr.ref.turn he.2.1 hq ho, ?_, hr.nb⟩, he.1, he.2.1.keep hr.ref (hkeep he.2.1.2.1.1 (fun k hk => by obtain ⟨_, cur, h2⟩ := hr.ref.ss.type k hk; exact lt_of_block h2)) (hkeep he.2.1.2.2.1 (fun k hk => by obtain ⟨_, cur, h2⟩ := hr.ref.ts.type k hk; exact lt_of_block h2)), av_keep he.2.2 hr.got (hkeep he.2.2.1 (fun k hk => by obtain ⟨_, cur, h2⟩ := hr.got.type k hk; exact lt_of_block h2))⟩
  obtain ⟨zs, a, b⟩ := hr.got
  exact ⟨zs, hrow a he.2.2.1, fun j hj => by
    obtain ⟨p, m, c, b1, b2, b3⟩ := b j hj
    exact ⟨p, m, c, b1, b2, hrow b3 (he.2.2.2 zs a _ (List.mem_of_getElem? b1))⟩⟩
end
end Go.Proofs.Ytdmnlooghamngaa

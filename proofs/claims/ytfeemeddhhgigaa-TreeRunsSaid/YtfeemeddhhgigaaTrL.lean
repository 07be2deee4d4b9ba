/-
  Rows of elements of any size, of the call's own (picked out of elder texts by wip/prunek.py).
-/
import Derived.WalkKit
import Derived.Laws.CopyOwn
import Derived.OwnWalk
import Derived.BigRegion
import Derived.WalkSpells
import Derived.Lib.Hide
import Derived.Deep.MidRow
import Derived.RegionTactic
import Derived.Deep.RegionHeld3
import Derived.OneCell
import Derived.StillTailTactics
import Derived.Laws.MakeOwn
import Derived.Laws.OwnMore
import Derived.BigQuiet
import Derived.Laws.AppendOwnNone
import Derived.OrdersHeld
import Derived.Lib.AppendZeros
import Derived.Laws.Tables
import Derived.Deep.Matrix
import Derived.RangeFuncNested
import Derived.RangeFuncBound
import Derived.RangeFuncCalls
import Derived.RangeFuncLeaves
import Derived.Shelf.Abstract
import Derived.Shelf.RegionOpen
import Derived.OwnWalkIn
import Derived.TacticsInMore
import Derived.LoopNIn
import Derived.LoopIn
import Derived.WalkLawsBesides
import Derived.Deep.QuietTactic
import Derived.Deep.WholeRow
import Derived.Deep.Cut
import Derived.StillTail
import Derived.Laws.StructEq
import Derived.ChangeKeysEq
import Derived.Laws.Closers25b
import Derived.OrdersIn
import Derived.OpenShut
import Derived.Deep.Slices
import Derived.RangeFuncWrites
import Derived.Laws.EntriesVeiled
import Derived.Deep.RegionLawGrows
import Derived.Deep.CutRange
import Derived.Deep.RegionLaw
import Derived.ArgAppend
import Derived.Lib.SlBytesConst
import Derived.Laws.Cover3
import Derived.Maps.OwnSet
import Derived.Laws.IdiomMaps
import Derived.DeepKeys4
import Derived.Laws.IdiomStrings
import Derived.Lib.BufferRead
import Derived.Maps.RangeWalk
import Derived.ChangeSame
import Derived.ChangeVars
import Derived.ChangeSlices
import Derived.JoinedOf
import Derived.JoinedAt
import Derived.RowKit
import Derived.RowKitTokens
import Derived.ProofKit
import Derived.SizedLaws
import Derived.Carry
import Derived.ChangeArms
import Derived.Great.BuildSlice
import Derived.Test.YtfeemeddhhgigaaTrF
namespace Go.Proofs.Ytfeemeddhhgigaa
open Go.ChangeShapes Go.WideShapes Go.RowKit
theorem fill_off (off : Nat) : ∀ (l : List Value) (k : Nat) (Z : Array Value), off + k + l.length ≤ Z.size →
    (l.zipIdx k).foldl (fun (cs : Array Value) (x : Value × Nat) => cs.setIfInBounds (off + x.2) x.1) Z = (Z.toList.take (off + k) ++ l ++ Z.toList.drop (off + k + l.length)).toArray
  | [], k, Z, _ => by simp
  | v :: l, k, Z, h => by
    simp only [List.length_cons] at h
    rw [List.zipIdx_cons, List.foldl_cons]
    rw [fill_off off l (k + 1) _ (by simp; omega)]
    apply Array.ext'
    have hk : off + k < Z.toList.length := by simp; omega
    simp only [Array.toList_setIfInBounds, List.length_cons]
    have e1 : (Z.toList.set (off + k) v).take (off + (k + 1)) = Z.toList.take (off + k) ++ [v] := by
      rw [show off + (k + 1) = off + k + 1 by omega, List.take_add_one, List.getElem?_set_self hk, List.take_set_of_le (Nat.le_refl _)]
      rfl
    have e2 : (Z.toList.set (off + k) v).drop (off + (k + 1) + l.length) = Z.toList.drop (off + k + (l.length + 1)) := by
      rw [List.drop_set_of_lt (by omega)]
      congr 1
      omega
    rw [e1, e2]
    simp
theorem fill_step (place : Nat → Option (Nat × Nat)) (i : Nat) (v : Value) (off size : Nat) (Z : Array Value) (rest : List (Nat × Value)) (h : place i = some (off, size)) (hs : v.cells.size = size) (hz : off + size ≤ Z.size) :
    Instr.fill place Z ((i, v) :: rest) = Instr.fill place (Z.toList.take off ++ v.cells.toList ++ Z.toList.drop (off + size)).toArray rest := by
  have h1 := fill_off off v.cells.toList 0 Z (by simpa [hs] using hz)
  conv => lhs; unfold Instr.fill
  rw [h]
  dsimp only
  split
  · rename_i hh
    simp [hs] at hh
    omega
  · congr 1
    show Array.foldl (fun (cs : Array Value) (x : Value × Nat) => cs.setIfInBounds (off + x.2) x.1) Z v.cells.zipIdx = _
    rw [← Array.foldl_toList, Array.toList_zipIdx, h1]
    simp [hs]
theorem built_of {ty : TypeId} {Z : Array Value} {n : Nat} {ps : List (Nat × Nat)} (hz : (Try.prog.info? ty).map (fun i => (i.zero, i.size)) = some (some (.agg Z), n)) (hp : (match Try.prog.underlying ty with
    | some (.struct fields) => fields.toList.mapM (fun f => (Try.prog.info? f.type).map fun i => (f.offset, i.size))
    | _ => none) = some ps) (parts : List (Nat × Value)) : Try.prog.built ty parts = Instr.fill (ps.toArray[·]?) Z parts := by
  unfold Program.built
  cases hi : Try.prog.info? ty with
  | none => rw [hi] at hz; cases hz
  | some i =>
    rw [hi] at hz
    simp only [Option.map_some, Option.some.injEq, Prod.mk.injEq] at hz
    cases hu : Try.prog.underlying ty with
    | none => rw [hu] at hp; cases hp
    | some d =>
      rw [hu] at hp
      cases d <;> try (exact absurd hp (fun h => by cases h))
      case struct fields =>
        dsimp only at hp ⊢
        rw [hz.1, hp]
        rfl
/-- Rows one behind the other. -/
def fl : List (Array Value) → List Value
  | [] => []
  | A :: L => A.toList ++ fl L
theorem fl_append : ∀ (L M : List (Array Value)), fl (L ++ M) = fl L ++ fl M
  | [], M => rfl
  | A :: L, M => by rw [List.cons_append, fl, fl, fl_append L M, List.append_assoc]
theorem fl_one (A : Array Value) : fl [A] = A.toList := by rw [fl, fl, List.append_nil]
theorem fl_at {s : Nat} : ∀ {L : List (Array Value)}, (∀ A ∈ L, A.size = s) → ∀ (i j : Nat), i < L.length → j < s → (fl L)[i * s + j]? = (L.getD i #[]).toList[j]?
  | [], _, i, j, hi, _ => by simp at hi
  | A :: L, h, i, j, hi, hj => by
    have hA : A.toList.length = s := by rw [Array.length_toList]; exact h A (by simp)
    rw [fl]
    cases i with
    | zero =>
      rw [Nat.zero_mul, Nat.zero_add, List.getElem?_append_left (by omega)]
      rfl
    | succ i =>
      have e : (i + 1) * s + j = s + (i * s + j) := by rw [Nat.add_mul]; omega
      rw [e, List.getElem?_append_right (by omega), show s + (i * s + j) - A.toList.length = i * s + j by omega]
      exact fl_at (fun B hB => h B (by simp [hB])) i j (by simpa using hi) hj
/-- A row of n elements of s cells each. -/
def Fl (K : Nat) (e s : Nat) (y : World) (v : Value) (L : List (Array Value)) : Prop := y.ownsRow K e s v L.length (fl L) ∧ ∀ A ∈ L, A.size = s
theorem fl_nil (K e s : Nat) (y : World) : Fl K e s y (.slice none 0 0) [] := ⟨World.ownsRow_nil _ _ _ _, fun A hA => by cases hA⟩
theorem Fl.len {K e s : Nat} {y : World} {v : Value} {L : List (Array Value)} (h : Fl K e s y v L) : ∃ p c, v = .slice p L.length c := by
  rcases h.1.2 with ⟨h2, h3⟩ | ⟨g, cap, cur, h2, _⟩
  · exact ⟨none, 0, by rw [h2, h3]⟩
  · exact ⟨_, cap, h2⟩
theorem Fl.rng {K e s : Nat} {y : World} {v : Value} {L : List (Array Value)} (h : Fl K e s y v L) (i : Nat) (hi : i < L.length) : ∃ q c, v = .slice (some ⟨q, 0, none⟩) L.length c ∧ K ≤ q ∧ y.rangeAt q (i * s) (L.getD i #[]).toList := by
  obtain ⟨⟨h1, h2⟩, h3⟩ := h
  rcases h2 with ⟨_, h0⟩ | ⟨g, cap, cur, rfl, hb, hg, hn, hm, hs, ht⟩
  · omega
  · refine ⟨g, cap, rfl, hb, fun j u hu => ?_⟩
    have hA : (L.getD i #[]).size = s := h3 _ (by rw [List.getD_eq_getElem?_getD, List.getElem?_eq_getElem hi]; exact List.getElem_mem hi)
    have hj : j < s := by have := (List.getElem?_eq_some_iff.1 hu).1; rw [Array.length_toList] at this; omega
    have e1 := fl_at h3 i j hi hj
    rw [hu, ← ht, List.getElem?_take, if_pos ?_] at e1
    · rw [cell_of_row y g _ _ _ _ hg]
      simpa using e1
    · have : i * s + j < L.length * s := by
        have h4 : (i + 1) * s ≤ L.length * s := Nat.mul_le_mul_right _ hi
        rw [Nat.add_mul] at h4
        omega
      exact this
theorem made_one (Z : Array Value) : (Array.range (1 * Z.size)).map (Z[· % Z.size]!) = Z := by
  apply Array.ext
  · simp
  · intro i h1 h2
    rw [Array.getElem_map, Array.getElem_range]
    have hi : i % Z.size = i := Nat.mod_eq_of_lt h2
    rw [hi]
    simp [h2]
section
variable {P : Program} {ops : Array Oper} {rest : List Oper} {a : Act} {w : World} {Q : Exit → Act → World → Prop} {D : Option Tmp} {T : TypeId} {ps : String} {af : Array Edge} {gd : Option (Nat × Bool)}
theorem bs1_g (t e : TypeId) (Z A : Array Value) (s b : Nat) (hu : P.underlying t = some (.slice e)) (hi : (P.info? e).map (fun i => (i.zero, i.size, i.bytes)) = some (some (.agg Z), s, b)) (hZ : Z.size = s) (hA : A.size = s) (h0 : 0 < s) (hl : s ≤ 1000) (x : Operand) (hx : a.eval x = .agg A)
    (h : wpList P ops Q rest (a.put D (.slice (some ⟨w.heap.size, 0, none⟩) 1 1)) (w.alloc (.cells A e))) :
    wpList P ops Q ({ dst := D, op := .buildSlice t 1 #[(0, x)], type := T, pos := ps, after := af, guard := none } :: rest) a w :=
  wpList_plain rfl fun K hK => by
    obtain ⟨i, hi1, hi2, hi3, hi4⟩ := info_parts hi
    have hf : Instr.fill (fun i => some (i * s, s)) Z [(0, .agg A)] = some A := by
      rw [fill_step (fun i => some (i * s, s)) 0 (.agg A) (0 * s) s Z [] rfl hA (by omega)]
      unfold Instr.fill
      have e1 : Z.toList.drop (0 * s + s) = [] := List.drop_of_length_le (by rw [Array.length_toList]; omega)
      have e2 : (Value.agg A).cells = A := rfl
      rw [e1, e2, Nat.zero_mul, List.take_zero, List.nil_append, List.append_nil]
    have hrun := run_buildSlice (P := P) w t e 1 #[(0, .agg A)] A i (.agg Z) hu hi1 hi2 (by rw [hi3]; omega) (by rw [hi3]; omega) (by
      have e3 : (Value.agg Z).cells = Z := rfl
      rw [hi3, e3, ← hZ, made_one, hZ]
      exact hf)
    unfold Oper.wp execOp
    simp only [hx, List.map_toArray, List.map_cons, List.map_nil, hrun, Sem.run_bind, Sem.run_pure, Result.andThen_ok]
    exact hK _ _ h
theorem app_fl (t e : TypeId) (Z A : Array Value) (s b : Nat) (hu : P.underlying t = some (.slice e)) (hi : (P.info? e).map (fun i => (i.zero, i.size, i.bytes)) = some (some (.agg Z), s, b)) (hZ : Z.size = s) (hA : A.size = s) (h0 : 0 < s) (hb : b ≤ 1000) (h1 : A.all (·.oneCell') = true) (so xo : Operand) (K : Nat) (v : Value) (L : List (Array Value)) (N : Nat) (hs : a.eval so = v) (hx : a.eval xo = .slice (some ⟨w.heap.size, 0, none⟩) 1 1) (hO : Fl K e s w v L) (hN : L.length = N) (hl : N ≤ 100000) (hK : K ≤ w.heap.size)
    (h : ∀ q d w', Hid (Fl K e s w' (.slice q (N + 1) d) (L ++ [A])) → Hid (∀ q, v.ownBlock = some q → K ≤ q ∧ ∃ cur, w.heap[q]? = some (.cells cur e (0, 0))) → Hid ((w.alloc (.cells A e)).grownBy w' v.ownBlock) → wpList P ops Q rest (a.put D (.slice q (N + 1) d)) w') :
    wpList P ops Q ({ dst := D, op := .call { callee := .builtin .append, args := #[so, xo], argTypes := #[t, t] }, type := T, pos := ps, after := af, guard := none } :: rest) a (w.alloc (.cells A e)) :=
  wpList_plain rfl fun R hR => by
    obtain ⟨i0, hi1, hz0, hz1, hz2⟩ := info_parts hi
    subst hN
    refine wp_append_own _ so xo t rfl K e i0 (.agg Z) s b hu hi1 hz0 hz1 hz2 (show Z.size = s from hZ) h0 v L.length (fl L) hs (hO.1.alloc _) ⟨w.heap.size, 0, none⟩ 1 1 A.toList hx (by rw [Array.length_toList]; omega)
      (fun j u hj => ?_) (fun u hu => ?_) (by unfold maxLen; omega) ?_ (by simp; omega) (fun v' w' hown hg _ => ?_)
    · rw [Addr.add_mid, Nat.zero_add, cell_of_row _ w.heap.size j _ _ _ (heap_alloc_new w _)]
      simpa using hj
    · rw [Array.all_eq_true] at h1
      obtain ⟨j, hj, rfl⟩ := List.mem_iff_getElem.1 hu
      exact h1 j (by simpa using hj)
    · have : (L.length + 1) * b ≤ (L.length + 1) * 1000 := Nat.mul_le_mul_left _ hb
      omega
    · have hF : Fl K e s w' v' (L ++ [A]) := ⟨by rw [fl_append, fl_one, List.length_append]; exact hown, fun B hB => by
        rcases List.mem_append.1 hB with q | q
        · exact hO.2 B q
        · rw [List.mem_singleton] at q; rw [q]; exact hA⟩
      obtain ⟨q, d, hv⟩ := hF.len
      subst hv
      have e2 : (L ++ [A]).length = L.length + 1 := by rw [List.length_append]; rfl
      rw [e2] at hF ⊢
      exact hR _ _ (h q d w' hF (own_type hO.1) hg)
end
end Go.Proofs.Ytfeemeddhhgigaa

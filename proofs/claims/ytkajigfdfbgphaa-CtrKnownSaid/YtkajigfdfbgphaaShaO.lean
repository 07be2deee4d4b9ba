/-
  Laws on make and append in blocks that are known whole.
-/
import Derived.Test.YtkajigfdfbgphaaShaL
import Derived.Laws.MakeOwn
import Derived.Laws.OwnMore
import Derived.OwnWalk
namespace Go.Proofs.Ytkajigfdfbgphaa
open Go.RowKit

section
variable {P : Program} {ops : Array Oper} {rest : List Oper} {a : Act} {w : World} {Q : Exit → Act → World → Prop} {D : Option Tmp} {T : TypeId} {ps : String} {af : Array Edge}
/-- make of one-cell elements: a new block, known whole. -/
theorem make_at (t e : TypeId) (x y : Operand) (z : Value) (bytes l c : Nat) (hx : a.eval x = .int .i64 (l : Int)) (hy : a.eval y = .int .i64 (c : Int)) (hu : P.underlying t = some (.slice e))
    (hi : (P.info? e).map (fun i => (i.zero, i.size, i.bytes)) = some (some z, 1, bytes)) (hz : z.cells = #[z]) (hlc : l ≤ c) (hb : bytes * c ≤ 281474976710656) (hc : c ≤ 9223372036854775807)
    (h : ∀ w', Hid (w'.heap[w.heap.size]? = some (.cells (List.replicate c z).toArray e (0, 0))) → Below w.heap.size w w' → Hid (w'.heap.size = w.heap.size + 1) → wpList P ops Q rest (a.put D (.slice (some ⟨w.heap.size, 0, none⟩) l c)) w') :
    wpList P ops Q ({ dst := D, op := .makeSlice t x y, type := T, pos := ps, after := af, guard := none } :: rest) a w :=
  wpList_plain rfl fun K hK => by
    obtain ⟨i, hi1, hi2, hi3, hi4⟩ := info_parts hi
    have hrun := run_make (P := P) w t e i z hu hi1 hi2 .i64 .i64 l c (by omega) (by omega) (by rw [hi4]; omega) (by omega)
    rw [hi3, hz, Nat.mul_one] at hrun
    have hl : (madeCells #[z] c).toList = List.replicate c z := toList_madeCells_one z c
    have e2 : madeCells #[z] c = (List.replicate c z).toArray := by rw [← hl, Array.toArray_toList]
    unfold Oper.wp execOp
    simp only [hx, hy, hrun, Sem.run_bind, Sem.run_pure, Result.andThen_ok, Int.toNat_natCast, e2]
    exact hK _ _ (h _ (heap_alloc_new w _) ((Below.refl _ w).alloc (Nat.le_refl _) _) (by show _ = _; simp))
/-- append of one element where there is room, in a block that is known whole. -/
theorem append_at (s x : Operand) (t e : TypeId) (g n cap : Nat) (cur : List Value) (ad : Addr) (m : Nat) (u : Value) (hs : a.eval s = .slice (some ⟨g, 0, none⟩) n cap) (hx : a.eval x = .slice (some ad) 1 m) (hg : w.heap[g]? = some (.cells cur.toArray e (0, 0)))
    (hu : P.underlying t = some (.slice e)) (hi : (P.info? e).map (·.size) = some 1) (hn : w.cell? ad = some u) (h1 : u.oneCell' = true) (hroom : n + 1 ≤ cap) (hfit : n + 1 ≤ cur.length)
    (h : ∀ w', Hid (w'.heap[g]? = some (.cells (splice cur n [u]).toArray e (0, 0))) → Chg g w w' → wpList P ops Q rest (a.put D (.slice (some ⟨g, 0, none⟩) (n + 1) cap)) w') :
    wpList P ops Q ({ dst := D, op := .call { callee := .builtin .append, args := #[s, x], argTypes := #[t, t] }, type := T, pos := ps, after := af, guard := none } :: rest) a w :=
  wpList_plain rfl fun K hK => by
    cases hq : P.info? e with
    | none => simp [hq] at hi
    | some i =>
      have hsz : i.size = 1 := by simpa [hq] using hi
      have hadd : ad.add 0 = ad := by simp [Addr.add]
      have hrun := run_append_room (P := P) w t T e i hu hq g n cap cur.toArray hg ad 1 m [u] (by simp [hsz]) (fun j v hv => by
        cases j with
        | zero => simp at hv; subst hv; rw [hadd]; exact hn
        | succ j => simp at hv) (by simpa using h1) hroom (by simp [hsz]; omega)
      unfold Oper.wp
      simp [execOp, resolve, invoke, builtin, hs, hx, hrun, Result.andThen]
      refine hK _ _ ?_
      have hcg := Chg.setRow w g (cur.toArray.toList.take (n * i.size) ++ [u] ++ cur.toArray.toList.drop (n * i.size + 1)).toArray
      have hh := setRow_heap w g cur.toArray (cur.toArray.toList.take (n * i.size) ++ [u] ++ cur.toArray.toList.drop (n * i.size + 1)).toArray e (0, 0) hg
      simp only [hsz, Nat.mul_one] at hcg hh ⊢
      refine h _ ?_ (by simpa using hcg)
      show _ = _
      simpa [splice] using hh
end

end Go.Proofs.Ytkajigfdfbgphaa

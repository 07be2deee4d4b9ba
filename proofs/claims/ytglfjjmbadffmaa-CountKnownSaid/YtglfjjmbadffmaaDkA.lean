/-
  A map of the call's own from numbers to rows, in plain words; a loop over it.
-/
import Derived.Test.YtglfjjmbadffmaaDkL
import Derived.Maps.RangeWalk
namespace Go.Proofs.Ytglfjjmbadffmaa
open Go.ChangeShapes Go.WideShapes Go.RowKit

/-- How an element reads: as itself. -/
def Rv (v : Value) : Option (DataW Value × List MemPlace) := some (.held v, [])
theorem kint : Maps.Keyed Try.prog 3 := Maps.int_keyed Try.underlying3
def In64 (x : Int) : Prop := -9223372036854775808 ≤ x ∧ x ≤ 9223372036854775807
theorem wf_in64 {x : Int} (h : In64 x) : (Lit.int .i64 x).wf = true := by
  unfold In64 at h
  simp [Lit.wf, IntKind.min, IntKind.max, IntKind.signed, IntKind.bits]
  omega
theorem key_int {x : Int} (h : In64 x) : keyOf Try.prog 3 (.int .i64 x) = some (.int .i64 x) := Maps.keyOf_int_mk Try.underlying3 (wf_in64 h)
theorem isKey (x : Int) : WideAt.IsKeyLit (.int .i64 x) := trivial
/-- What D says in plain words: of the numbers from 0 on F. -/
def Says (D : DataW Value) (F : Nat → Option Value) : Prop :=
  (∀ i : Int, Maps.has D (.int .i64 i) = (decide (0 ≤ i) && (F i.toNat).isSome)) ∧ ∀ (j : Nat) v, F j = some v → ∀ z, D.atKey (.int .i64 (j : Int)) z = .held v
def upd {α : Type} (F : Nat → α) (i : Nat) (x : α) : Nat → α := fun j => if j = i then x else F j
theorem upd_same {α : Type} (F : Nat → α) (i : Nat) (x : α) : upd F i x i = x := if_pos rfl
theorem upd_other {α : Type} (F : Nat → α) {i j : Nat} (x : α) (h : j ≠ i) : upd F i x j = F j := if_neg h
theorem Says.put {D : DataW Value} {F : Nat → Option Value} (h : Says D F) (hm : Maps.IsMap D) (i : Nat) (v : Value) : Says (D.put (.int .i64 (i : Int)) (.held v)) (upd F i (some v)) := by
  refine ⟨fun x => ?_, fun j u hj z => ?_⟩
  · by_cases hx : x = (i : Int)
    · subst hx
      rw [Maps.has_put_same hm (isKey _)]
      simp [upd_same]
    · rw [Maps.has_put_other (fun e => hx (by cases e; rfl)), h.1]
      by_cases h0 : 0 ≤ x
      · rw [upd_other F _ (show x.toNat ≠ i by omega)]
      · simp [h0]
  · by_cases hji : j = i
    · subst hji
      rw [upd_same] at hj
      cases hj
      exact Maps.atKey_put_same hm (isKey _) _ _
    · rw [upd_other F _ hji] at hj
      rw [Maps.atKey_put_other (fun e => hji (by cases e; rfl))]
      exact h.2 j u hj z
theorem Says.del {D : DataW Value} {F : Nat → Option Value} (h : Says D F) (i : Nat) : Says (D.del (.int .i64 (i : Int))) (upd F i none) := by
  refine ⟨fun x => ?_, fun j u hj z => ?_⟩
  · by_cases hx : x = (i : Int)
    · subst hx
      rw [Maps.has_del_same]
      simp [upd_same]
    · rw [Maps.has_del_other (fun e => hx (by cases e; rfl)), h.1]
      by_cases h0 : 0 ≤ x
      · rw [upd_other F _ (show x.toNat ≠ i by omega)]
      · simp [h0]
  · by_cases hji : j = i
    · subst hji
      rw [upd_same] at hj
      cases hj
    · rw [upd_other F _ hji] at hj
      rw [Maps.atKey_del_other (fun e => hji (by cases e; rfl))]
      exact h.2 j u hj z
/-- Block b is a map of at most k entries that says F. -/
def MapAt (w : World) (b k : Nat) (F : Nat → Option Value) : Prop := ∃ D, w.ownsMap Try.prog 3 Rv b k D ∧ Says D F
section
variable {w y : World} {b k r cnt : Nat} {F : Nat → Option Value} {left : Nat → Bool} {t : TypeId}
theorem MapAt.lt (h : MapAt w b k F) : b < w.heap.size := by obtain ⟨D, h1, _⟩ := h; exact h1.lt
theorem MapAt.keep (h : MapAt w b k F) (hb : y.heap[b]? = w.heap[b]?) : MapAt y b k F := by
  obtain ⟨D, ⟨es, clock, h1, h2⟩, h3⟩ := h
  exact ⟨D, ⟨es, clock, hb.trans h1, h2⟩, h3⟩
theorem MapAt.isMap (h : MapAt w b k F) : ∃ es clock, w.heap[b]? = some (.map es clock) := by
  obtain ⟨D, ⟨es, clock, h1, h2⟩, h3⟩ := h
  exact ⟨es, clock, h1⟩
theorem MapAt.mono (h : MapAt w b k F) {k' : Nat} (hk : k ≤ k') : MapAt w b k' F := by
  obtain ⟨D, h1, h2⟩ := h
  exact ⟨D, h1.mono hk, h2⟩
theorem map_made (w : World) : MapAt (w.alloc (.map #[] 0)) w.heap.size 0 (fun _ => none) :=
  ⟨.map [], World.ownsMap_made w _ _ _, fun i => by simp [Maps.has], fun j v h => by cases h⟩
theorem zero_sl (w : World) : (zeroValue 65).run Try.prog w = .ok (.slice none 0 0) w := by kernel_rfl
/-- 'v, ok := m[i]'. -/
theorem MapAt.look (h : MapAt w b k F) (ht : Try.prog.underlying t = some (.map 3 65)) (i : Nat) (hi : i ≤ 9223372036854775807) :
    (Instr.lookup t (.map (some b)) (.int .i64 (i : Int)) true).run Try.prog w = .ok (.tuple #[(F i).getD (.slice none 0 0), .bool (F i).isSome]) w := by
  obtain ⟨D, h1, h2⟩ := h
  obtain ⟨v, ps, hrun, hv⟩ := h1.look_ok kint ht (zero_sl w) (zd := .held (.slice none 0 0)) (zp := []) rfl (key_int (x := (i : Int)) (by unfold In64; omega))
  rw [hrun, h2.1]
  have h0 : decide (0 ≤ (i : Int)) = true := by simp
  rw [h0, Bool.true_and, show ((i : Int).toNat) = i by omega]
  have hv' : v = (F i).getD (.slice none 0 0) := by
    unfold Rv at hv
    cases hF : F i with
    | none =>
      rw [Maps.atKey_of_not_has (by rw [h2.1, h0, Bool.true_and, show ((i : Int).toNat) = i by omega, hF]; rfl)] at hv
      cases hv
      rfl
    | some u =>
      rw [h2.2 i u hF] at hv
      cases hv
      rfl
  rw [hv']
/-- 'm[i]'. -/
theorem MapAt.look1 (h : MapAt w b k F) (ht : Try.prog.underlying t = some (.map 3 65)) (i : Nat) (hi : i ≤ 9223372036854775807) :
    (Instr.lookup t (.map (some b)) (.int .i64 (i : Int)) false).run Try.prog w = .ok ((F i).getD (.slice none 0 0)) w := by
  obtain ⟨D, h1, h2⟩ := h
  obtain ⟨v, ps, hrun, hv⟩ := h1.lookup kint ht (zero_sl w) (zd := .held (.slice none 0 0)) (zp := []) rfl (key_int (x := (i : Int)) (by unfold In64; omega))
  rw [hrun]
  have h0 : decide (0 ≤ (i : Int)) = true := by simp
  have hv' : v = (F i).getD (.slice none 0 0) := by
    unfold Rv at hv
    cases hF : F i with
    | none =>
      rw [Maps.atKey_of_not_has (by rw [h2.1, h0, Bool.true_and, show ((i : Int).toNat) = i by omega, hF]; rfl)] at hv
      cases hv
      rfl
    | some u =>
      rw [h2.2 i u hF] at hv
      cases hv
      rfl
  rw [hv']
/-- 'm[i] = v'. -/
theorem MapAt.store (h : MapAt w b k F) (ht : Try.prog.underlying t = some (.map 3 65)) (i : Nat) (hi : i ≤ 9223372036854775807) (v : Value) (hk : k < maxLen) :
    ∃ y, (Instr.mapUpdate t (.map (some b)) (.int .i64 (i : Int)) v).run Try.prog w = .ok () y ∧ MapAt y b (k + 1) (upd F i (some v)) ∧ w.mapTurned y b := by
  obtain ⟨D, h1, h2⟩ := h
  obtain ⟨y, hrun, a, c⟩ := h1.store kint ht hk (d := .held v) (ps := []) (key_int (x := (i : Int)) (by unfold In64; omega)) rfl
  exact ⟨y, hrun, ⟨_, a, h2.put h1.isMap i v⟩, c⟩
/-- 'delete(m, i)'. -/
theorem MapAt.drop (h : MapAt w b k F) (ht : Try.prog.underlying t = some (.map 3 65)) (i : Nat) (hi : i ≤ 9223372036854775807) (ty : TypeId) :
    ∃ y, (Builtin.delete_ #[t, 3] ty #[.map (some b), .int .i64 (i : Int)]).run Try.prog w = .ok (.tuple #[]) y ∧ MapAt y b k (upd F i none) ∧ w.mapTurned y b := by
  obtain ⟨D, h1, h2⟩ := h
  obtain ⟨y, hrun, a, c⟩ := h1.drop kint ht (key_int (x := (i : Int)) (by unfold In64; omega)) ty
  exact ⟨y, hrun, ⟨_, a, h2.del i⟩, c⟩
/-- A loop over it under way: which are still to come. -/
def RngAt (w : World) (b r k : Nat) (F : Nat → Option Value) (left : Nat → Bool) (cnt : Nat) : Prop :=
  ∃ D lf, w.ranges Try.prog 3 Rv b r k D lf cnt ∧ Says D F ∧ (∀ i : Int, lf (.int .i64 i) = (decide (0 ≤ i) && left i.toNat)) ∧ ∀ kl, lf kl = true → ∃ x : Int, kl = .int .i64 x
theorem RngAt.map (h : RngAt w b r k F left cnt) : MapAt w b k F := by
  obtain ⟨D, lf, h1, h2, _⟩ := h
  exact ⟨D, h1.owns, h2⟩
theorem RngAt.left_eq (h : RngAt w b r k F left cnt) : w.rangeLeft b r = cnt := by
  obtain ⟨D, lf, h1, _⟩ := h
  exact h1.left_eq
theorem RngAt.lt (h : RngAt w b r k F left cnt) : r < w.heap.size ∧ r ≠ b := by
  obtain ⟨D, lf, h1, _⟩ := h
  exact ⟨h1.lt, h1.ne⟩
theorem RngAt.keep (h : RngAt w b r k F left cnt) (hb : y.heap[b]? = w.heap[b]?) (hr : y.heap[r]? = w.heap[r]?) : RngAt y b r k F left cnt := by
  obtain ⟨D, lf, ⟨es, clock, since, seen, c0, h1, h2, h3, h4, h5, h6⟩, h7⟩ := h
  exact ⟨D, lf, ⟨es, clock, since, seen, c0, hb.trans h1, h2, h3, h4, hr.trans h5, h6⟩, h7⟩
theorem RngAt.iter (h : RngAt w b r k F left cnt) : ∃ p q s t, w.heap[r]? = some (.mapIter p q s t) := by
  obtain ⟨D, lf, ⟨es, clock, since, seen, c0, _, _, _, _, hr, _⟩, _⟩ := h
  exact ⟨_, _, _, _, hr⟩
theorem RngAt.congr {left' : Nat → Bool} (h : RngAt w b r k F left cnt) (e : ∀ i, left' i = left i) : RngAt w b r k F left' cnt := by
  have : left' = left := funext e
  rw [this]
  exact h
theorem RngAt.congrF {F' : Nat → Option Value} (h : RngAt w b r k F left cnt) (e : ∀ i, F' i = F i) : RngAt w b r k F' left cnt := by
  have : F' = F := funext e
  rw [this]
  exact h
/-- 'range m'. -/
theorem MapAt.range (h : MapAt w b k F) (ht : Try.prog.underlying t = some (.map 3 65)) :
    ∃ y cnt, (Instr.range t (.map (some b))).run Try.prog w = .ok (.pointer (some ⟨w.heap.size, 0, none⟩)) y ∧ RngAt y b w.heap.size k F (fun i => (F i).isSome) cnt ∧ w.grownBy y none ∧ y.heap.size = w.heap.size + 1 ∧ cnt ≤ k := by
  obtain ⟨D, h1, h2⟩ := h
  obtain ⟨y, hrun, a, c, d⟩ := h1.range kint ht
  refine ⟨y, _, hrun, ⟨D, _, a, h2, h2.1, fun kl hkl => ?_⟩, c, d, h1.size_le⟩
  obtain ⟨es, clock, since, seen, c0, _, F', _, _, _, _, _, _, hex, _⟩ := a
  obtain ⟨x, hx, hxk⟩ := hex kl hkl
  obtain ⟨y0, hy0⟩ := F'.reads x hx
  have hkey := WideElems.rd_key hy0
  obtain ⟨z, _, hz, _⟩ := Maps.keyOf_int_inv Try.underlying3 hkey
  rw [WideElems.rg_of hy0] at hxk
  exact ⟨z, by rw [← hxk, hz]⟩
/-- The step. -/
theorem RngAt.next (h : RngAt w b r k F left cnt) (ty : TypeId) :
    ((∀ i, left i = false) ∧ (Instr.next (.pointer (some ⟨r, 0, none⟩)) false ty).run Try.prog w = .ok (.tuple #[.bool false]) w) ∨
    ∃ (j : Nat) (v : Value) (y : World) (cnt' : Nat), left j = true ∧ F j = some v ∧ (Instr.next (.pointer (some ⟨r, 0, none⟩)) false ty).run Try.prog w = .ok (.tuple #[.bool true, .int .i64 (j : Int), v]) y ∧ j ≤ 9223372036854775807 ∧
      RngAt y b r k F (upd left j false) cnt' ∧ cnt' < cnt ∧ w.grownBy y (some r) ∧ y.heap.size = w.heap.size ∧ (Instr.entry (.pointer (some ⟨r, 0, none⟩))).run Try.prog y = .ok (.tuple #[.int .i64 (j : Int), v]) y := by
  obtain ⟨D, lf, h1, h2, h3, h4⟩ := h
  rcases h1.next kint ty with ⟨_, hl, hrun⟩ | ⟨key, v, kl, z, y, cnt', hkey, hlk, hv, hat, hrun, hrg, hlt, hgr, hsz, hen⟩
  · refine Or.inl ⟨fun i => ?_, hrun⟩
    have := h3 (i : Int)
    rw [hl] at this
    simpa using this.symm
  · obtain ⟨x, rfl, rfl, hwx⟩ := Maps.keyOf_int_inv Try.underlying3 hkey
    have hx := h3 x
    rw [hlk] at hx
    have hx0 : 0 ≤ x := by
      by_cases q : 0 ≤ x
      · exact q
      · simp [q] at hx
    have hwx' : x ≤ 9223372036854775807 := by
      simp [Lit.wf, IntKind.min, IntKind.max, IntKind.signed, IntKind.bits] at hwx
      omega
    obtain ⟨j, rfl⟩ : ∃ j : Nat, x = (j : Int) := ⟨x.toNat, by omega⟩
    have hj : left j = true := by simpa using hx.symm
    have hF : F j = some v := by
      cases hFj : F j with
      | none =>
        have h5 : Maps.has D (.int .i64 (j : Int)) = false := by rw [h2.1]; simp [hFj]
        have h6 := hat (.held (.bool false))
        have h7 := hat (.held (.bool true))
        rw [Maps.atKey_of_not_has h5] at h6 h7
        rw [← h6] at h7
        cases h7
      | some u =>
        have h6 := hat (.held (.bool false))
        rw [h2.2 j u hFj] at h6
        unfold Rv at hv
        cases hv
        cases h6
        rfl
    refine Or.inr ⟨j, v, y, cnt', hj, hF, hrun, by omega, ⟨D, _, hrg, h2, fun i => ?_, fun kl hkl => ?_⟩, hlt, hgr, hsz, hen⟩
    · show (lf (.int .i64 i) && !(Lit.int .i64 i).sameKey (.int .i64 (j : Int))) = _
      rw [h3 i]
      by_cases hij : i = (j : Int)
      · subst hij
        rw [WideAt.sameKey_self (isKey _)]
        simp [upd_same]
      · rw [Maps.sameKey_ne (fun e => hij (by cases e; rfl))]
        by_cases h0 : 0 ≤ i
        · rw [upd_other left _ (show i.toNat ≠ j by omega)]
          simp
        · simp [h0]
    · simp only [Bool.and_eq_true] at hkl
      exact h4 kl hkl.1
/-- 'delete(m, j)' in the round. -/
theorem RngAt.drop (h : RngAt w b r k F left cnt) (ht : Try.prog.underlying t = some (.map 3 65)) (j : Nat) (hj : j ≤ 9223372036854775807) (ty : TypeId) :
    ∃ y cnt', (Builtin.delete_ #[t, 3] ty #[.map (some b), .int .i64 (j : Int)]).run Try.prog w = .ok (.tuple #[]) y ∧ RngAt y b r k (upd F j none) (upd left j false) cnt' ∧ cnt' ≤ cnt ∧ w.mapTurned y b := by
  obtain ⟨D, lf, h1, h2, h3, h4⟩ := h
  obtain ⟨y, cnt', hrun, a, c, d⟩ := h1.drop kint ht (key_int (x := (j : Int)) (by unfold In64; omega)) ty
  refine ⟨y, cnt', hrun, ⟨_, _, a, h2.del j, fun i => ?_, fun kl hkl => ?_⟩, c, d⟩
  · show (lf (.int .i64 i) && !(Lit.int .i64 i).sameKey (.int .i64 (j : Int))) = _
    rw [h3 i]
    by_cases hij : i = (j : Int)
    · subst hij
      rw [WideAt.sameKey_self (isKey _)]
      simp [upd_same]
    · rw [Maps.sameKey_ne (fun e => hij (by cases e; rfl))]
      by_cases h0 : 0 ≤ i
      · rw [upd_other left _ (show i.toNat ≠ j by omega)]
        simp
      · simp [h0]
  · simp only [Bool.and_eq_true] at hkl
    exact h4 kl hkl.1
end
end Go.Proofs.Ytglfjjmbadffmaa

/-
  Rows of entries: their cells; made, stored into.
-/
import Derived.Test.YtkgefogkdmbciaaBaH
namespace Go.Proofs.Ytkgefogkdmbciaa
open Go.RowKit

namespace Bt
def ec : List En → List Value
  | [] => []
  | x :: r => cells x ++ ec r
theorem ec_append (A B : List En) : ec (A ++ B) = ec A ++ ec B := by
  induction A with
  | nil => rfl
  | cons x r ih => rw [List.cons_append, ec, ec, ih, List.append_assoc]
theorem ec_len : ∀ {L : List En}, (∀ x ∈ L, x.ok) → (ec L).length = 35 * L.length
  | [], _ => rfl
  | x :: r, h => by
    rw [ec, List.length_append, cells_len (h x (by simp)), ec_len (L := r) (fun y hy => h y (by simp [hy])), List.length_cons]
    omega
theorem ec_at : ∀ {L : List En}, (∀ x ∈ L, x.ok) → ∀ (i j : Nat), i < L.length → j < 35 → (ec L)[i * 35 + j]? = (cells (L.getD i en0))[j]?
  | [], _, i, j, hi, _ => by simp at hi
  | x :: r, h, i, j, hi, hj => by
    have hx := cells_len (h x (by simp))
    cases i with
    | zero =>
      rw [ec, Nat.zero_mul, Nat.zero_add, List.getElem?_append_left (by omega)]
      rfl
    | succ i =>
      rw [ec, List.getElem?_append_right (by omega), hx, show (i + 1) * 35 + j - 35 = i * 35 + j by omega, ec_at (L := r) (fun y hy => h y (by simp [hy])) i j (by simpa using hi) hj]
      rfl
theorem ec_one (L : List En) : ∀ v ∈ ec L, v.oneCell' = true := by
  induction L with
  | nil => intro v hv; cases hv
  | cons x r ih =>
    intro v hv
    rw [ec, List.mem_append] at hv
    rcases hv with hv | hv
    · unfold cells at hv
      rw [List.mem_cons, List.mem_cons, List.mem_cons] at hv
      rcases hv with rfl | rfl | rfl | hv
      · rfl
      · rfl
      · rfl
      · exact bytes_one _ v hv
    · exact ih v hv
theorem ec_set {L : List En} (h : ∀ x ∈ L, x.ok) (k : Nat) (hk : k < L.length) (y : En) :
    (ec L).take (k * 35) ++ cells y ++ (ec L).drop (k * 35 + 35) = ec (L.set k y) := by
  have e : L = L.take k ++ L.getD k en0 :: L.drop (k + 1) := by
    rw [← drop_getD L k hk, List.take_append_drop]
  have h1 : ∀ x ∈ L.take k, x.ok := fun x hx => h x (List.mem_of_mem_take hx)
  have l1 : (ec (L.take k)).length = k * 35 := by rw [ec_len h1, List.length_take]; omega
  have hx : (cells (L.getD k en0)).length = 35 := by
    rw [List.getD_eq_getElem?_getD, List.getElem?_eq_getElem hk]
    exact cells_len (h _ (List.getElem_mem hk))
  have e2 : ec L = ec (L.take k) ++ (cells (L.getD k en0) ++ ec (L.drop (k + 1))) := by
    conv => lhs; rw [e]
    rw [ec_append, ec]
  have e3 : L.set k y = L.take k ++ y :: L.drop (k + 1) := by
    rw [List.set_eq_take_append_cons_drop, if_pos hk]
  rw [e3, ec_append, ec, e2]
  rw [List.take_left' l1, show k * 35 + 35 = (ec (L.take k)).length + (cells (L.getD k en0)).length by omega, ← List.drop_drop, List.drop_left, List.drop_left, List.append_assoc]
theorem ok_set {L : List En} (h : ∀ x ∈ L, x.ok) (k : Nat) {y : En} (hy : y.ok) : ∀ x ∈ L.set k y, x.ok := fun x hx => by
  rcases List.mem_or_eq_of_mem_set hx with h1 | rfl
  · exact h x h1
  · exact hy
theorem ok_rep {x : En} (h : x.ok) (n : Nat) : ∀ y ∈ List.replicate n x, y.ok := fun y hy => by
  rw [List.mem_replicate] at hy
  rw [hy.2]
  exact h
theorem ok_app {A B : List En} (h : ∀ x ∈ A, x.ok) (k : ∀ x ∈ B, x.ok) : ∀ x ∈ A ++ B, x.ok := fun x hx => (List.mem_append.1 hx).elim (h x) (k x)
/-- The first k, and noughts behind. -/
theorem set_next {A : List En} {n k : Nat} (hA : A.length = k) (y : En) : (A ++ List.replicate (n + 1) en0).set k y = A ++ [y] ++ List.replicate n en0 := by
  subst hA
  rw [List.set_append_right _ _ (Nat.le_refl _), Nat.sub_self, List.replicate_succ, List.set_cons_zero, List.append_assoc]
  rfl
end Bt
theorem Try.infoEn : (Try.prog.info? 50).map (fun i => (i.zero, i.size, i.bytes)) = some (some (.agg ZEn.toArray), 35, 56) := by kernel_rfl
theorem made_en (c : Nat) : madeCells ZEn.toArray (c * 35) = (Bt.ec (List.replicate c Bt.en0)).toArray := by
  have hz : ZEn = Bt.cells Bt.en0 := by
    have h := zen_eq
    unfold EnA at h
    simpa using h
  have hl : (Bt.cells Bt.en0).length = 35 := Bt.cells_len Bt.en0_ok
  have hlen : (Bt.ec (List.replicate c Bt.en0)).length = c * 35 := by rw [Bt.ec_len (Bt.ok_rep Bt.en0_ok c), List.length_replicate]; omega
  apply Array.ext
  · rw [size_madeCells, List.size_toArray, hlen]
  · intro i h1 h2
    rw [size_madeCells] at h1
    have hi : i = i / 35 * 35 + i % 35 := by omega
    have h3 := Bt.ec_at (L := List.replicate c Bt.en0) (Bt.ok_rep Bt.en0_ok c) (i / 35) (i % 35) (by rw [List.length_replicate]; omega) (by omega)
    rw [← hi] at h3
    have hg : (List.replicate c Bt.en0).getD (i / 35) Bt.en0 = Bt.en0 := by
      rw [List.getD_eq_getElem?_getD, List.getElem?_replicate]
      split <;> rfl
    rw [hg] at h3
    unfold madeCells
    rw [List.getElem_toArray]
    have h5 : (ZEn.toArray)[i % ZEn.toArray.size]! = (Bt.ec (List.replicate c Bt.en0))[i] := by
      have e1 : ZEn.toArray.size = 35 := by rw [List.size_toArray, hz, hl]
      rw [e1, getElem!_def]
      have e2 : ZEn.toArray[i % 35]? = (Bt.cells Bt.en0)[i % 35]? := by rw [List.getElem?_toArray, hz]
      rw [e2, ← h3, List.getElem?_eq_getElem (by simpa using h2)]
    have h6 : (Array.map (fun x => ZEn.toArray[x % ZEn.toArray.size]!) (Array.range (c * 35)))[i]'(by simpa using h1) = ZEn.toArray[i % ZEn.toArray.size]! := by
      rw [Array.getElem_map, Array.getElem_range]
    exact h6.trans h5
/-- A row of entries, known whole. -/
def EsRow (y : World) (g : Nat) (L : List Bt.En) : Prop := y.heap[g]? = some (.cells (Bt.ec L).toArray 50 (0, 0))
theorem EsRow.old {w y : World} {g : Nat} {L : List Bt.En} (h : EsRow w g L) (hb : Below w.heap.size w y) : EsRow y g L := (hb.block g (lt_of_block h)).trans h
theorem EsRow.only {w y : World} {g k : Nat} {L : List Bt.En} (h : EsRow w g L) (ho : Only k w y) (hk : g ≠ k) : EsRow y g L := (ho.block g (lt_of_block h) hk).trans h
theorem EsRow.es {y : World} {g c : Nat} {L : List Bt.En} (h : EsRow y g L) (hok : ∀ x ∈ L, x.ok) (hc : L.length ≤ c ∧ c ≤ 9223372036854775807) : Es y (some ⟨g, 0, none⟩) c L :=
  ⟨hok, fun _ => ⟨g, 0, rfl, fun i hi j v hv => by
    have hj := (List.getElem?_eq_some_iff.1 hv).1
    have hl : (Bt.cells (L.getD i Bt.en0)).length = 35 := by
      rw [List.getD_eq_getElem?_getD, List.getElem?_eq_getElem hi]
      exact Bt.cells_len (hok _ (List.getElem_mem hi))
    rw [cell_of_row y g _ _ _ _ h, List.getElem?_toArray, Nat.zero_add, Bt.ec_at hok i j hi (by omega)]
    exact hv⟩, hc, fun e => by cases e⟩
section
variable {ops : Array Oper} {rest : List Oper} {a : Act} {w : World} {Q : Exit → Act → World → Prop} {D : Option Tmp} {T : TypeId} {ps : String} {af : Array Edge}
theorem make_en (x y : Operand) (l : Nat) (hx : a.eval x = .int .i64 (l : Int)) (hy : a.eval y = .int .i64 (l : Int)) (hl : l ≤ 1000000)
    (h : ∀ w', Hid (EsRow w' w.heap.size (List.replicate l Bt.en0)) → Hid (Below w.heap.size w w') → Hid (w'.heap.size = w.heap.size + 1) → wpList Try.prog ops Q rest (a.put D (.slice (some ⟨w.heap.size, 0, none⟩) l l)) w') :
    wpList Try.prog ops Q ({ dst := D, op := .makeSlice 24 x y, type := T, pos := ps, after := af, guard := none } :: rest) a w :=
  wpList_plain rfl fun K hK => by
    obtain ⟨i, hi1, hi2, hi3, hi4⟩ := info_parts Try.infoEn
    have hrun := run_make (P := Try.prog) w 24 50 i _ Try.underlying24 hi1 hi2 .i64 .i64 l l (by omega) (by omega) (by rw [hi4]; omega) (by omega)
    rw [hi3, Int.toNat_natCast] at hrun
    have e : madeCells (Value.agg ZEn.toArray).cells (l * 35) = (Bt.ec (List.replicate l Bt.en0)).toArray := made_en l
    rw [e] at hrun
    unfold Oper.wp execOp
    simp only [hx, hy, hrun, Sem.run_bind, Sem.run_pure, Result.andThen_ok]
    exact hK _ _ (h _ (heap_alloc_new w _) ((Below.refl _ w).alloc (Nat.le_refl _) _) (by show _ = _; simp))
/-- A store of one entry into a row of them. -/
theorem st_en (x y : Operand) (g o k : Nat) (ho : o = k * 35) (L : List Bt.En) (e : Bt.En) (hok : ∀ x ∈ L, x.ok) (he : e.ok) (hk : k < L.length) (hx : a.eval x = .pointer (some ⟨g, o, none⟩)) (hy : a.eval y = .agg (EnA e)) (hg : EsRow w g L)
    (h : ∀ w', Hid (EsRow w' g (L.set k e)) → Hid (Chg g w w') → wpList Try.prog ops Q rest a w') :
    wpList Try.prog ops Q ({ dst := none, op := .store 50 x y, type := T, pos := ps, after := af, guard := none } :: rest) a w := by
  subst ho
  have hl := Bt.ec_len hok
  have hs := enA_size he
  refine mid_store 50 x y g (k * 35) 50 _ (EnA e) hx hy hg (en_info he) (by rw [hs, List.size_toArray, hl]; omega) (enA_one e) (fun w' h1 h2 => h w' ?_ h2)
  have h1' := h1.out
  rw [hs] at h1'
  have e2 : (Bt.ec L).toArray.toList.take (k * 35) ++ (EnA e).toList ++ (Bt.ec L).toArray.toList.drop (k * 35 + 35) = Bt.ec (L.set k e) := Bt.ec_set hok k hk e
  rw [e2] at h1'
  exact h1'
end
end Go.Proofs.Ytkgefogkdmbciaa

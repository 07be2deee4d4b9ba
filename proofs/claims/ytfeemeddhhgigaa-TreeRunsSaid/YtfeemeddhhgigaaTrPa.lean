/-
  The program's tree in memory: its cells, what a load meets there, what a store makes of it.
-/
import Derived.Test.YtfeemeddhhgigaaTrRf
namespace Go.Proofs.Ytfeemeddhhgigaa
open Go.RowKit

namespace Tr
open Pg (Rf zr)
theorem flat_length {α : Type} (f : Nat → List α) (s : Nat) : ∀ n, (∀ i, i < n → (f i).length = s) → (flat f n).length = n * s
  | 0, _ => by simp [flat_zero]
  | n + 1, h => by
    rw [flat_succ, List.length_append, flat_length f s n (fun i hi => h i (by omega)), h n (by omega), Nat.add_mul, Nat.one_mul]
theorem flat_get {α : Type} (f : Nat → List α) (s : Nat) : ∀ n, (∀ i, i < n → (f i).length = s) → ∀ i j, i < n → j < s → (flat f n)[i * s + j]? = (f i)[j]?
  | 0, _, i, _, hi, _ => by omega
  | n + 1, h, i, j, hi, hj => by
    have hl := flat_length f s n (fun i hi => h i (by omega))
    rw [flat_succ]
    by_cases e : i = n
    · subst e
      rw [List.getElem?_append_right (by omega), hl, Nat.add_sub_cancel_left]
    · have h2 : (i + 1) * s ≤ n * s := Nat.mul_le_mul_right _ (by omega)
      rw [Nat.add_mul, Nat.one_mul] at h2
      rw [List.getElem?_append_left (by omega)]
      exact flat_get f s n (fun i hi => h i (by omega)) i j (by omega) hj
theorem flat_split {α : Type} (f : Nat → List α) (k : Nat) : ∀ m, flat f (k + 1 + m) = flat f k ++ (f k ++ flat (fun j => f (k + 1 + j)) m)
  | 0 => by rw [Nat.add_zero, flat_succ, flat_zero, List.append_nil]
  | m + 1 => by
    rw [← Nat.add_assoc, flat_succ, flat_split f k m, flat_succ]
    simp only [List.append_assoc]
theorem flat_set {α : Type} (f : Nat → List α) (s n k : Nat) (v : List α) (h : ∀ i, i < n → (f i).length = s) (hk : k < n) : (flat f n).take (k * s) ++ v ++ (flat f n).drop (k * s + s) = flat (up f k v) n := by
  obtain ⟨m, rfl⟩ : ∃ m, n = k + 1 + m := ⟨n - k - 1, by omega⟩
  have h1 := flat_length f s k (fun i hi => h i (by omega))
  have h2 := h k (by omega)
  rw [flat_split f k m, flat_split (up f k v) k m, up_same, flat_congr (fun i hi => up_other f k i v (by omega))]
  have e1 : flat (fun j => up f k v (k + 1 + j)) m = flat (fun j => f (k + 1 + j)) m := flat_congr (fun j _ => up_other f k (k + 1 + j) v (by omega))
  rw [e1, List.take_append_of_le_length (by omega), List.take_of_length_le (by omega), ← List.append_assoc (flat f k) (f k), List.drop_append_of_le_length (by rw [List.length_append]; omega), List.drop_of_length_le (by rw [List.length_append]; omega), List.nil_append, List.append_assoc]
/-- What a node is, as a number; a node's cells; the tree's cells. -/
def stn : Nd → Int
  | none => 0
  | some (some _) => 1
  | some none => 2
def ndc (x : Nd) : List Value := .int .i64 (stn x) :: cl (nr x)
def tcb (t : T) : List Value := flat (fun k => cl (t.b k)) 64
def tcn (t : T) : List Value := flat (fun i => ndc (t.n i)) 9
def tcs (t : T) : List Value := tcb t ++ tcn t
def ndA (x : Nd) : Array Value := (ndc x).toArray
/-- Each ref says nothing, or its At is above 0. -/
def TZ (t : T) : Prop := (∀ k, 0 < (t.b k).1 ∨ t.b k = zr) ∧ ∀ i, 0 < (nr (t.n i)).1 ∨ nr (t.n i) = zr
theorem Inv.tz {t : T} (h : Inv t) : TZ t := by
  refine ⟨h.z, fun i => ?_⟩
  cases q : t.n i with
  | none => exact Or.inr rfl
  | some x =>
    cases x with
    | none => exact Or.inr rfl
    | some r =>
      by_cases e : i = 0
      · subst e; exact h.cl0 r q
      · exact Or.inl (h.cl i r (by omega) q)
end Tr
theorem ndc_len {t : Tr.T} (h : TOk t) (i : Nat) : (Tr.ndc (t.n i)).length = 34 := by unfold Tr.ndc; rw [List.length_cons, cl_len (nr_ok h i)]
theorem nda_size {t : Tr.T} (h : TOk t) (i : Nat) : (Tr.ndA (t.n i)).size = 34 := by unfold Tr.ndA; rw [List.size_toArray, ndc_len h]
theorem nda_one (x : Tr.Nd) : (Tr.ndA x).all (·.oneCell') = true := all_oneCell_toArray (fun v hv => by
  unfold Tr.ndc at hv
  rw [List.mem_cons] at hv
  rcases hv with rfl | hv
  · rfl
  · exact cl_one _ v hv)
theorem tcb_len {t : Tr.T} (h : TOk t) : (Tr.tcb t).length = 2112 := by unfold Tr.tcb; rw [Tr.flat_length _ 33 64 (fun k _ => cl_len (h.1 k))]
theorem tcn_len {t : Tr.T} (h : TOk t) : (Tr.tcn t).length = 306 := by unfold Tr.tcn; rw [Tr.flat_length _ 34 9 (fun i _ => ndc_len h i)]
theorem tcs_len {t : Tr.T} (h : TOk t) : (Tr.tcs t).length = 2418 := by unfold Tr.tcs; rw [List.length_append, tcb_len h, tcn_len h]
/-- The program's tree: its block b. -/
structure PT (K : Nat) (y : World) (b : Nat) (t : Tr.T) : Prop where
  box : y.heap[b]? = some (.cells (Tr.tcs t).toArray 68 (0, 0))
  ok : TOk t
  tz : Tr.TZ t
  lo : K ≤ b
section
variable {K b : Nat} {w y : World} {t : Tr.T}
theorem PT.lt (h : PT K y b t) : b < y.heap.size := lt_of_block h.box
theorem PT.old (h : PT K w b t) (hb : Below w.heap.size w y) : PT K y b t := ⟨(hb.block _ (lt_of_block h.box)).trans h.box, h.ok, h.tz, h.lo⟩
theorem PT.keep (h : PT K w b t) (hk : y.heap[b]? = w.heap[b]?) : PT K y b t := ⟨hk.trans h.box, h.ok, h.tz, h.lo⟩
theorem PT.only {g : Nat} (h : PT K w b t) (ho : Only g w y) (hg : b ≠ g) : PT K y b t := h.keep (ho.block b h.lt hg)
theorem PT.rng (h : PT K y b t) (o : Nat) (l : List Value) (hl : ∀ j v, l[j]? = some v → (Tr.tcs t)[o + j]? = some v) : y.rangeAt b o l := fun j v hv => by
  rw [cell_of_row y b (o + j) _ _ _ h.box]
  have := hl j v hv
  simpa using this
/-- A block's ref. -/
theorem PT.blk (h : PT K y b t) (k : Nat) (hk : k < 64) : y.rangeAt b (k * 33) (rfA (t.b k)).toList := h.rng _ _ fun j v hv => by
  have hj : j < 33 := by
    have := (List.getElem?_eq_some_iff.1 hv).1
    rw [Array.length_toList, rfa_size (h.ok.1 k)] at this
    exact this
  have hl := tcb_len h.ok
  unfold Tr.tcs
  rw [List.getElem?_append_left (by omega)]
  unfold Tr.tcb
  rw [Tr.flat_get _ 33 64 (fun k _ => cl_len (h.ok.1 k)) k j hk hj]
  exact hv
/-- A node. -/
theorem PT.node (h : PT K y b t) (i : Nat) (hi : i < 9) : y.rangeAt b (2112 + i * 34) (Tr.ndc (t.n i)) := h.rng _ _ fun j v hv => by
  have hj : j < 34 := by
    have := (List.getElem?_eq_some_iff.1 hv).1
    rw [ndc_len h.ok] at this
    exact this
  have hl := tcb_len h.ok
  unfold Tr.tcs
  rw [List.getElem?_append_right (by omega), hl, show 2112 + i * 34 + j - 2112 = i * 34 + j by omega]
  unfold Tr.tcn
  rw [Tr.flat_get _ 34 9 (fun i _ => ndc_len h.ok i) i j hi hj]
  exact hv
theorem PT.st (h : PT K y b t) (i : Nat) (hi : i < 9) : y.cell? ⟨b, 2112 + i * 34, none⟩ = some (.int .i64 (Tr.stn (t.n i))) := h.node i hi 0 _ rfl
theorem PT.rf (h : PT K y b t) (i : Nat) (hi : i < 9) : y.rangeAt b (2112 + i * 34 + 1) (rfA (Tr.nr (t.n i))).toList := fun j v hv => by
  have := h.node i hi (j + 1) v (by unfold Tr.ndc; rw [List.getElem?_cons_succ]; exact hv)
  rw [show 2112 + i * 34 + 1 + j = 2112 + i * 34 + (j + 1) by omega]
  exact this
/-- All nodes. -/
theorem PT.nodes (h : PT K y b t) : y.rangeAt b 2112 (Tr.tcn t) := h.rng _ _ fun j v hv => by
  have hl := tcb_len h.ok
  unfold Tr.tcs
  rw [List.getElem?_append_right (by omega), hl, Nat.add_sub_cancel_left]
  exact hv
end
namespace Tr
open Pg (Rf zr)
/-- A block turns in the cells. -/
theorem tcs_b (t : T) (h : TOk t) (k : Nat) (hk : k < 64) (r : Rf) : ((tcs t).toArray.toList.take (k * 33) ++ (rfA r).toList ++ (tcs t).toArray.toList.drop (k * 33 + 33)).toArray = (tcs ⟨up t.b k r, t.n⟩).toArray := by
  have hl := tcb_len h
  have hk2 : k * 33 + 33 ≤ 2112 := by omega
  have e : tcb ⟨up t.b k r, t.n⟩ = (tcb t).take (k * 33) ++ cl r ++ (tcb t).drop (k * 33 + 33) := by
    unfold tcb
    rw [flat_set (fun k => cl (t.b k)) 33 64 k (cl r) (fun k _ => cl_len (h.1 k)) hk]
    show flat (fun j => cl (up t.b k r j)) 64 = _
    rw [comp_up cl t.b k r]
  show _ = ((tcb ⟨up t.b k r, t.n⟩) ++ tcn t).toArray
  rw [e]
  apply Array.ext'
  show (tcb t ++ tcn t).take (k * 33) ++ cl r ++ (tcb t ++ tcn t).drop (k * 33 + 33) = _
  rw [List.take_append_of_le_length (by omega), List.drop_append_of_le_length (by omega)]
  simp only [List.append_assoc]
/-- A node turns in the cells. -/
theorem tcs_n (t : T) (h : TOk t) (i : Nat) (hi : i < 9) (x : Nd) : ((tcs t).toArray.toList.take (2112 + i * 34) ++ (ndA x).toList ++ (tcs t).toArray.toList.drop (2112 + i * 34 + 34)).toArray = (tcs ⟨t.b, up t.n i x⟩).toArray := by
  have hl := tcb_len h
  have e : tcn ⟨t.b, up t.n i x⟩ = (tcn t).take (i * 34) ++ ndc x ++ (tcn t).drop (i * 34 + 34) := by
    unfold tcn
    rw [flat_set (fun k => ndc (t.n k)) 34 9 i (ndc x) (fun k _ => ndc_len h k) hi]
    show flat (fun j => ndc (up t.n i x j)) 9 = _
    rw [comp_up ndc t.n i x]
  show _ = (tcb t ++ (tcn ⟨t.b, up t.n i x⟩)).toArray
  rw [e]
  apply Array.ext'
  show (tcb t ++ tcn t).take (2112 + i * 34) ++ ndc x ++ (tcb t ++ tcn t).drop (2112 + i * 34 + 34) = _
  have e1 : (tcb t ++ tcn t).take (2112 + i * 34) = tcb t ++ (tcn t).take (i * 34) := by
    rw [← hl, List.take_length_add_append]
  have e2 : (tcb t ++ tcn t).drop (2112 + i * 34 + 34) = (tcn t).drop (i * 34 + 34) := by
    rw [show 2112 + i * 34 + 34 = (tcb t).length + (i * 34 + 34) by omega, List.drop_length_add_append]
  rw [e1, e2]
  simp only [List.append_assoc]
end Tr
theorem TOk.setb {t : Tr.T} (h : TOk t) (k : Nat) (r : Pg.Rf) (hr : Pg.Ok r) : TOk ⟨Tr.up t.b k r, t.n⟩ := by
  refine ⟨fun j => ?_, h.2⟩
  show Pg.Ok (Tr.up t.b k r j)
  by_cases e : j = k
  · rw [e, Tr.up_same]; exact hr
  · rw [Tr.up_other _ _ _ _ e]; exact h.1 j
theorem TOk.setn {t : Tr.T} (h : TOk t) (i : Nat) (x : Tr.Nd) (hx : ∀ r, x = some (some r) → Pg.Ok r) : TOk ⟨t.b, Tr.up t.n i x⟩ := by
  refine ⟨h.1, fun j r hj => ?_⟩
  have hj' : Tr.up t.n i x j = some (some r) := hj
  by_cases e : j = i
  · rw [e, Tr.up_same] at hj'; exact hx r hj'
  · rw [Tr.up_other _ _ _ _ e] at hj'; exact h.2 j r hj'
theorem Tr.TZ.setb {t : Tr.T} (h : Tr.TZ t) (k : Nat) (r : Pg.Rf) (hr : 0 < r.1 ∨ r = Pg.zr) : Tr.TZ ⟨Tr.up t.b k r, t.n⟩ := by
  refine ⟨fun j => ?_, h.2⟩
  show 0 < (Tr.up t.b k r j).1 ∨ Tr.up t.b k r j = Pg.zr
  by_cases e : j = k
  · rw [e, Tr.up_same]; exact hr
  · rw [Tr.up_other _ _ _ _ e]; exact h.1 j
theorem Tr.TZ.setn {t : Tr.T} (h : Tr.TZ t) (i : Nat) (x : Tr.Nd) (hx : 0 < (Tr.nr x).1 ∨ Tr.nr x = Pg.zr) : Tr.TZ ⟨t.b, Tr.up t.n i x⟩ := by
  refine ⟨h.1, fun j => ?_⟩
  show 0 < (Tr.nr (Tr.up t.n i x j)).1 ∨ Tr.nr (Tr.up t.n i x j) = Pg.zr
  by_cases e : j = i
  · rw [e, Tr.up_same]; exact hx
  · rw [Tr.up_other _ _ _ _ e]; exact h.2 j
section
variable {K b : Nat} {w y : World} {t : Tr.T}
/-- A store of a block's ref, behind mid_store. -/
theorem PT.putb (h : PT K w b t) (k : Nat) (hk : k < 64) (r : Pg.Rf) (hr : Pg.Ok r) (hz : 0 < r.1 ∨ r = Pg.zr) (A : Array Value) (hA : rfA r = A)
    (hg : y.heap[b]? = some (.cells ((Tr.tcs t).toArray.toList.take (k * 33) ++ A.toList ++ (Tr.tcs t).toArray.toList.drop (k * 33 + A.size)).toArray 68 (0, 0))) : PT K y b ⟨Tr.up t.b k r, t.n⟩ := by
  subst hA
  rw [rfa_size hr, Tr.tcs_b t h.ok k hk r] at hg
  exact ⟨hg, h.ok.setb k r hr, h.tz.setb k r hz, h.lo⟩
theorem PT.putn (h : PT K w b t) (i : Nat) (hi : i < 9) (x : Tr.Nd) (hx : ∀ r, x = some (some r) → Pg.Ok r) (hz : 0 < (Tr.nr x).1 ∨ Tr.nr x = Pg.zr) (A : Array Value) (hA : Tr.ndA x = A)
    (hg : y.heap[b]? = some (.cells ((Tr.tcs t).toArray.toList.take (2112 + i * 34) ++ A.toList ++ (Tr.tcs t).toArray.toList.drop (2112 + i * 34 + A.size)).toArray 68 (0, 0))) : PT K y b ⟨t.b, Tr.up t.n i x⟩ := by
  subst hA
  have hs : (Tr.ndA x).size = 34 := by
    have := nda_size (h.ok.setn i x hx) i
    have e : (⟨t.b, Tr.up t.n i x⟩ : Tr.T).n i = x := Tr.up_same _ _ _
    rw [e] at this
    exact this
  rw [hs, Tr.tcs_n t h.ok i hi x] at hg
  exact ⟨hg, h.ok.setn i x hx, h.tz.setn i x hz, h.lo⟩
end
end Go.Proofs.Ytfeemeddhhgigaa

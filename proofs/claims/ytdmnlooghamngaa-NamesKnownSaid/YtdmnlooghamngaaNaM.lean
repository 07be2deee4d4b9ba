/-
  Names in plain lists; a map that only grows; texts as keys.
-/
import Derived.Test.YtdmnlooghamngaaNaK
import Derived.Maps.OwnSet
import Derived.DeepKeys4
import Derived.Laws.IdiomStrings
import Derived.Lib.BufferRead
namespace Go.Proofs.Ytdmnlooghamngaa
open Go.ChangeShapes Go.WideShapes Go.RowKit

namespace Nm
/-- The place of a thing in a list, from 1 on; 0: it isn't in it. -/
def place {α : Type} [DecidableEq α] (x : α) : List α → Nat
  | [] => 0
  | y :: r => if y = x then 1 else if place x r = 0 then 0 else place x r + 1
section
variable {α : Type} [DecidableEq α] {x y : α} {l m : List α} {k : Nat}
theorem place_zero : place x l = 0 ↔ x ∉ l := by
  induction l with
  | nil => simp [place]
  | cons z r ih =>
    rw [place]
    by_cases h : z = x
    · simp [h]
    · rw [if_neg h, List.mem_cons]
      by_cases h2 : place x r = 0
      · simp [h2, ih.1 h2, Ne.symm h]
      · rw [if_neg h2]
        have h3 : x ∈ r := by
          by_cases h4 : x ∈ r
          · exact h4
          · exact absurd (ih.2 h4) h2
        simp [h3]
theorem place_le : place x l ≤ l.length := by
  induction l with
  | nil => simp [place]
  | cons z r ih =>
    rw [place]
    split
    · simp
    · split
      · simp
      · simp; exact ih
theorem place_get : ∀ {l : List α} {k : Nat}, place x l = k + 1 → l[k]? = some x
  | [], k, h => by simp [place] at h
  | z :: r, k, h => by
    rw [place] at h
    by_cases e : z = x
    · rw [if_pos e] at h
      obtain rfl : k = 0 := by omega
      simp [e]
    · rw [if_neg e] at h
      by_cases e2 : place x r = 0
      · rw [if_pos e2] at h; omega
      · rw [if_neg e2] at h
        obtain ⟨j, rfl⟩ : ∃ j, k = j + 1 := ⟨k - 1, by omega⟩
        have := place_get (l := r) (k := j) (by omega)
        simpa using this
theorem place_of : ∀ {l : List α} {k : Nat}, l.Nodup → l[k]? = some x → place x l = k + 1
  | [], k, _, h => by simp at h
  | z :: r, 0, _, h => by
    simp at h
    simp [place, h]
  | z :: r, k + 1, hn, h => by
    rw [List.nodup_cons] at hn
    have h' : r[k]? = some x := by simpa using h
    have hm : x ∈ r := List.mem_of_getElem? h'
    have hne : z ≠ x := fun e => hn.1 (e ▸ hm)
    have := place_of hn.2 h'
    rw [place, if_neg hne, this]
    simp
theorem place_app : place x (l ++ m) = if place x l = 0 then (if place x m = 0 then 0 else l.length + place x m) else place x l := by
  induction l with
  | nil =>
    simp only [List.nil_append, place]
    by_cases h : place x m = 0 <;> simp [h]
  | cons z r ih =>
    rw [List.cons_append, place, place, ih]
    by_cases h : z = x
    · simp [h]
    · rw [if_neg h, if_neg h]
      by_cases h1 : place x r = 0
      · rw [if_pos h1, if_pos h1]
        by_cases h2 : place x m = 0
        · simp [h2]
        · simp [h2]; omega
      · simp [h1]
/-- A list with a thing, which is put behind if it isn't in it; and its place there. -/
def put (x : α) (l : List α) : List α := if place x l = 0 then l ++ [x] else l
def num (x : α) (l : List α) : Nat := if place x l = 0 then l.length + 1 else place x l
theorem num_place : place x (put x l) = num x l := by
  unfold put num
  by_cases h : place x l = 0
  · rw [if_pos h, if_pos h, place_app, if_pos h]
    simp [place]
  · rw [if_neg h, if_neg h]
theorem num_pos : 0 < num x l := by unfold num; split <;> omega
theorem num_le : num x l ≤ l.length + 1 := by have := place_le (x := x) (l := l); unfold num; split <;> omega
theorem put_len : (put x l).length ≤ l.length + 1 := by unfold put; split <;> simp
theorem put_nodup (h : l.Nodup) : (put x l).Nodup := by
  unfold put
  split
  · rename_i h0
    have := place_zero.1 h0
    exact List.nodup_append.2 ⟨h, by simp, fun a ha b hb => by simp at hb; subst hb; exact fun e => this (e ▸ ha)⟩
  · exact h
theorem mem_put : y ∈ put x l → y ∈ l ∨ y = x := by
  unfold put
  split
  · simp
  · exact Or.inl
/-- What was there keeps its place. -/
theorem place_put (h : place y l ≠ 0) : place y (put x l) = place y l := by
  unfold put
  split
  · rw [place_app, if_neg h]
  · rfl
theorem place_inj (h : place x l = place y l) (h0 : place x l ≠ 0) : x = y := by
  obtain ⟨k, hk⟩ : ∃ k, place x l = k + 1 := ⟨place x l - 1, by omega⟩
  have h1 := place_get hk
  have h2 := place_get (h ▸ hk : place y l = k + 1)
  rw [h1] at h2
  exact Option.some.inj h2
theorem put_self : place x (put x l) ≠ 0 := by rw [num_place]; have := num_pos (x := x) (l := l); omega
theorem put_same (h : place x l ≠ 0) : put x l = l := by unfold put; rw [if_neg h]
theorem num_same (h : place x l ≠ 0) : num x l = place x l := by unfold num; rw [if_neg h]
theorem num_new (h : place x l = 0) : num x l = l.length + 1 := by unfold num; rw [if_pos h]
theorem put_new (h : place x l = 0) : put x l = l ++ [x] := by unfold put; rw [if_pos h]
end

/-- A text's bytes. -/
def bts (l : List Int) : ByteArray := ⟨(l.map fun i => UInt8.ofNat i.toNat).toArray⟩
theorem bts_size (l : List Int) : (bts l).size = l.length := by simp [bts, ByteArray.size]
theorem bts_inj : ∀ {l m : List Int}, Sha.Byt l → Sha.Byt m → bts l = bts m → l = m := by
  intro l m hl hm h
  have h1 : l.map (fun i => UInt8.ofNat i.toNat) = m.map (fun i => UInt8.ofNat i.toNat) := by
    have := congrArg (fun b : ByteArray => b.data.toList) h
    simpa [bts] using this
  have hlen : l.length = m.length := by simpa using congrArg List.length h1
  apply List.ext_getElem hlen
  intro i h2 h3
  have h4 := congrArg (fun q : List UInt8 => q[i]?) h1
  simp only [List.getElem?_map, List.getElem?_eq_getElem h2, List.getElem?_eq_getElem h3, Option.map_some, Option.some.injEq] at h4
  have a := hl _ (List.getElem_mem h2)
  have b := hm _ (List.getElem_mem h3)
  have h5 := congrArg UInt8.toNat h4
  simp only [UInt8.toNat_ofNat'] at h5
  omega

abbrev Four := Int × Int × List Int × List Int
def kv4 (x : Four) : Value := .agg #[.int .i64 x.1, .int .i64 x.2.1, .string (bts x.2.2.1), .string (bts x.2.2.2)]
def kvs (t : List Int) : Value := .string (bts t)
def In64 (n : Int) : Prop := -9223372036854775808 ≤ n ∧ n ≤ 9223372036854775807
def okt (t : List Int) : Prop := Sha.Byt t ∧ t.length ≤ 9223372036854775807
def ok4 (x : Four) : Prop := In64 x.1 ∧ In64 x.2.1 ∧ okt x.2.2.1 ∧ okt x.2.2.2

/-- What a kind of key must have. -/
structure Kd {α : Type} (kv : α → Value) (ok : α → Prop) (K : TypeId) : Prop where
  law : Go.Maps.Keyed Try.prog K
  reads : ∀ x, ok x → ∃ l, keyOf Try.prog K (kv x) = some l
  inj : ∀ x y, ok x → ok y → kv x = kv y → x = y

theorem kvs_inj (x y : List Int) (hx : okt x) (hy : okt y) (h : kvs x = kvs y) : x = y := by
  unfold kvs at h
  exact bts_inj hx.1 hy.1 (Value.string.inj h)
theorem kv4_inj (x y : Four) (hx : ok4 x) (hy : ok4 y) (h : kv4 x = kv4 y) : x = y := by
  obtain ⟨a, b, c, d⟩ := x
  obtain ⟨a', b', c', d'⟩ := y
  simp only [kv4, Value.agg.injEq] at h
  simp at h
  obtain ⟨rfl, rfl, h3, h4⟩ := h
  obtain rfl := bts_inj hx.2.2.1.1 hy.2.2.1.1 h3
  obtain rfl := bts_inj hx.2.2.2.1 hy.2.2.2.1 h4
  rfl
theorem wf_in {n : Int} (h : In64 n) : (Lit.int .i64 n).wf = true := by
  unfold In64 at h
  simp [Lit.wf, IntKind.min, IntKind.max, IntKind.signed, IntKind.bits]
  omega
end Nm
theorem kd_text : Nm.Kd Nm.kvs Nm.okt 9 where
  law := Go.Maps.string_keyed Try.underlying9
  reads := fun x hx => ⟨_, by
    unfold Nm.kvs
    simp only [keyOf, Try.underlying9, mapKey]
    rw [if_pos (by rw [Nm.bts_size]; have := hx.2; unfold maxLen; omega)]⟩
  inj := Nm.kvs_inj

theorem laid_out : laidOutB Try.prog = true := by kernel_rfl
theorem row_four : 70 < Try.prog.types.size := of_decide_eq_true (by kernel_rfl)
theorem law_four : WideMaps.KeyLaw Try.prog 70 := deep_law_laid laid_out (m := 3) (by omega) row_four (by kernel_rfl) (by kernel_rfl)
theorem cells_four : Try.prog.cellsOf 70 = 4 := by kernel_rfl
theorem cells_int : Try.prog.cellsOf 3 = 1 := by kernel_rfl
theorem cells_string : Try.prog.cellsOf 9 = 1 := by kernel_rfl
theorem key_four : Try.prog.keyType 70 = true := by kernel_rfl
theorem lits_int (d : Nat) {n : Int} (h : Nm.In64 n) : Try.prog.keyLits (d + 1) 3 [.int .i64 n] = some [.int .i64 n] := by
  simp [Program.keyLits, Try.underlying3, Nm.wf_in h]
theorem lits_text (d : Nat) {l : List Int} (h : Nm.okt l) : Try.prog.keyLits (d + 1) 9 [.string (Nm.bts l)] = some [.string (Nm.bts l).data.toList] := by
  have : (Nm.bts l).size ≤ maxLen := by rw [Nm.bts_size]; have := h.2; unfold maxLen; omega
  simp [Program.keyLits, Try.underlying9, this]
set_option maxRecDepth 100000 in
theorem kd_four : Nm.Kd Nm.kv4 Nm.ok4 70 where
  law := Go.Maps.Keyed.of_law law_four
  reads := fun x hx => by
    obtain ⟨a, b, c, d⟩ := x
    obtain ⟨h1, h2, h3, h4⟩ := hx
    obtain ⟨m, hm⟩ : ∃ m, Try.prog.types.size = m + 1 := ⟨Try.prog.types.size - 1, by have := row_four; omega⟩
    have hf : (Nm.kv4 (a, b, c, d)).formed Try.prog 70 = true := by
      simp [Nm.kv4, Value.formed, Try.underlying70, cells_four]
    have hl : Try.prog.keyLits (m + 2) 70 (Nm.kv4 (a, b, c, d)).cells.toList = some [.int .i64 a, .int .i64 b, .string (Nm.bts c).data.toList, .string (Nm.bts d).data.toList] := by
      simp only [Nm.kv4, Value.cells]
      unfold Program.keyLits
      rw [Try.underlying70]
      simp [cells_four, cells_int, cells_string, lits_int _ h1, lits_int _ h2, lits_text _ h3, lits_text _ h4]
    refine ⟨_, show keyOf Try.prog 70 (Nm.kv4 (a, b, c, d)) = some (.string (keyBytes [.int .i64 a, .int .i64 b, .string (Nm.bts c).data.toList, .string (Nm.bts d).data.toList])) from ?_⟩
    unfold keyOf
    rw [Try.underlying70]
    dsimp only
    rw [if_pos (by rw [key_four, hf]; rfl), hm, hl]
    rfl
  inj := Nm.kv4_inj
end Go.Proofs.Ytdmnlooghamngaa

/-
  Sectors in a row; the list of the law SectorKnown; makeSlice in a region.
-/
import Derived.Test.YtkjfhbmdogmecaaDoorScN
namespace Go.Proofs.YtkjfhbmdogmecaaDoor
open Go.RowKit

section
variable {P : Program} {ops : Array Oper} {rest : List Oper} {a : Act} {w : World} {Q : Exit → Act → World → Prop} {D : Option Tmp} {T : TypeId} {ps : String} {af : Array Edge} {gd : Option (Nat × Bool)}
theorem oper_make (t e : TypeId) (x y : Operand) (z : Value) (bytes l c : Nat) (hx : a.eval x = .int .i64 (l : Int)) (hy : a.eval y = .int .i64 (c : Int)) (hu : P.underlying t = some (.slice e))
    (hi : (P.info? e).map (fun i => (i.zero, i.size, i.bytes)) = some (some z, 1, bytes)) (hz : z.cells = #[z]) (hlc : l ≤ c) (hb : bytes * c ≤ 281474976710656) (hc : c ≤ 9223372036854775807) (K : Act → World → Prop)
    (h : ∀ w', Hid (w'.heap[w.heap.size]? = some (.cells (List.replicate c z).toArray e (0, 0))) → Below w.heap.size w w' → Hid (w'.heap.size = w.heap.size + 1) → K (a.put D (.slice (some ⟨w.heap.size, 0, none⟩) l c)) w') :
    Oper.wp P { dst := D, op := .makeSlice t x y, type := T, pos := ps, after := af, guard := gd } a w K Q := by
  obtain ⟨i, hi1, hi2, hi3, hi4⟩ := info_parts hi
  have hrun := run_make (P := P) w t e i z hu hi1 hi2 .i64 .i64 l c (by omega) (by omega) (by rw [hi4]; omega) (by omega)
  rw [hi3, hz, Nat.mul_one] at hrun
  have hl : (madeCells #[z] c).toList = List.replicate c z := toList_madeCells_one z c
  have e2 : madeCells #[z] c = (List.replicate c z).toArray := by rw [← hl, Array.toArray_toList]
  unfold Oper.wp execOp
  simp only [hx, hy, hrun, Sem.run_bind, Sem.run_pure, Result.andThen_ok, Int.toNat_natCast, e2]
  exact h _ (heap_alloc_new w _) ((Below.refl _ w).alloc (Nat.le_refl _) _) (by show _ = _; simp)
theorem make_g (t e : TypeId) (x y : Operand) (z : Value) (bytes l c : Nat) (hw : Region.wanted { dst := D, op := .makeSlice t x y, type := T, pos := ps, after := af, guard := gd } (yielded ops a.tmps) = true) (hx : a.eval x = .int .i64 (l : Int)) (hy : a.eval y = .int .i64 (c : Int)) (hu : P.underlying t = some (.slice e))
    (hi : (P.info? e).map (fun i => (i.zero, i.size, i.bytes)) = some (some z, 1, bytes)) (hz : z.cells = #[z]) (hlc : l ≤ c) (hb : bytes * c ≤ 281474976710656) (hc : c ≤ 9223372036854775807)
    (h : ∀ w', Hid (w'.heap[w.heap.size]? = some (.cells (List.replicate c z).toArray e (0, 0))) → Below w.heap.size w w' → Hid (w'.heap.size = w.heap.size + 1) → wpList P ops Q rest (a.put D (.slice (some ⟨w.heap.size, 0, none⟩) l c)) w') :
    wpList P ops Q ({ dst := D, op := .makeSlice t x y, type := T, pos := ps, after := af, guard := gd } :: rest) a w :=
  BigFrame.wpList_want hw fun K hK => oper_make t e x y z bytes l c hx hy hu hi hz hlc hb hc K (fun w' h1 h2 h3 => hK _ _ (h w' h1 h2 h3))
theorem op_make {K : Act → World → Prop} (i : Nat) (t e : TypeId) (x y : Operand) (z : Value) (bytes l c : Nat) (ho : ops[i]? = some { dst := D, op := .makeSlice t x y, type := T, pos := ps, after := af, guard := none }) (hx : a.eval x = .int .i64 (l : Int)) (hy : a.eval y = .int .i64 (c : Int)) (hu : P.underlying t = some (.slice e))
    (hi : (P.info? e).map (fun i => (i.zero, i.size, i.bytes)) = some (some z, 1, bytes)) (hz : z.cells = #[z]) (hlc : l ≤ c) (hb : bytes * c ≤ 281474976710656) (hc : c ≤ 9223372036854775807)
    (h : ∀ w', Hid (w'.heap[w.heap.size]? = some (.cells (List.replicate c z).toArray e (0, 0))) → Below w.heap.size w w' → Hid (w'.heap.size = w.heap.size + 1) → K (a.put D (.slice (some ⟨w.heap.size, 0, none⟩) l c)) w') :
    wpOp P ops Q i K a w := op_plain i _ ho rfl (oper_make t e x y z bytes l c hx hy hu hi hz hlc hb hc K h)
end
/-- So many noughts. -/
def zs (n : Nat) : List Int := List.replicate n 0
theorem zs_len (n : Nat) : (zs n).length = n := by simp [zs]
theorem zs_byt (n : Nat) : Sha.Byt (zs n) := fun x hx => by simp [zs] at hx; omega
theorem bs_made {w : World} {g n : Nat} (hn : n ≤ 100000) (h : w.heap[g]? = some (.cells (List.replicate n (Value.int .u8 0)).toArray 5 (0, 0))) : Bs w (some ⟨g, 0, none⟩) n (zs n) := by
  have e : List.replicate n (Value.int .u8 0) = (zs n).map (Value.int .u8) := by simp [zs]
  rw [e] at h
  exact bs_row (bat_row h (zs_byt n)) ⟨by rw [zs_len]; omega, by omega⟩
attribute [irreducible] zs
/-- A sector's cells at a place of a row. -/
def SecAt (w : World) (tb o : Nat) (s : Sc.S) (p : Option Addr) (c : Nat) : Prop :=
  (w.cell? ⟨tb, o, none⟩ = some (.int .i64 s.k) ∧ w.cell? ⟨tb, o + 1, none⟩ = some (.int .i64 s.e) ∧ w.cell? ⟨tb, o + 2, none⟩ = some (.int .i64 s.n) ∧ w.cell? ⟨tb, o + 3, none⟩ = some (.int .i64 s.a) ∧ w.cell? ⟨tb, o + 4, none⟩ = some (.slice p s.L.length c)) ∧ Bs w p c s.L
theorem SecAt.only {b : Nat} {w x : World} {tb o c : Nat} {s : Sc.S} {p : Option Addr} (h : SecAt w tb o s p c) (ho : Only b w x) (h1 : tb ≠ b) (h2 : ∀ ad, p = some ad → ad.block ≠ b ∨ s.L = []) : SecAt x tb o s p c :=
  ⟨⟨ho.cell h1 h.1.1, ho.cell h1 h.1.2.1, ho.cell h1 h.1.2.2.1, ho.cell h1 h.1.2.2.2.1, ho.cell h1 h.1.2.2.2.2⟩, bs_only h.2 ho h2⟩
theorem SecAt.old {w x : World} {tb o c : Nat} {s : Sc.S} {p : Option Addr} (h : SecAt w tb o s p c) (hb : Below w.heap.size w x) : SecAt x tb o s p c := by
  have hl := World.block_lt_of_cell? w _ h.1.1
  have k := fun i => World.cell?_of_block (a := ⟨tb, i, none⟩) (hb.block tb hl)
  exact ⟨⟨(k _).trans h.1.1, (k _).trans h.1.2.1, (k _).trans h.1.2.2.1, (k _).trans h.1.2.2.2.1, (k _).trans h.1.2.2.2.2⟩, h.2.old hb⟩
namespace Sc
/-- The list of SectorKnown, and what Put must answer. -/
def lk (k : Nat) : S := match k with
  | 0 => ⟨0, 0, 0, 0, []⟩ | 1 => ⟨6, 0, 0, 0, []⟩ | 2 => ⟨-1, 0, 0, 0, []⟩ | 3 => ⟨1, 0, 0, 0, []⟩ | 4 => ⟨5, -1, 0, 0, []⟩ | 5 => ⟨5, 1099511627776, 1099511627776, 4095, []⟩
  | 6 => ⟨5, 0, 1099511627777, 0, []⟩ | 7 => ⟨5, 0, 0, 4096, []⟩ | 8 => ⟨5, 0, 0, -1, []⟩ | 9 => ⟨4, 0, 0, 0, zs 975⟩ | _ => ⟨4, 0, 0, 0, zs 976⟩
def wk (k : Nat) : Int := match k with | 0 => 5 | 1 => 5 | 2 => 5 | 3 => 0 | 4 => 7 | 5 => 0 | 6 => 7 | 7 => 7 | 8 => 7 | 9 => 0 | _ => 3
theorem lk9 : lk 9 = ⟨4, 0, 0, 0, zs 975⟩ := rfl
theorem lk10 : lk 10 = ⟨4, 0, 0, 0, zs 976⟩ := rfl
theorem ers_lk : ∀ k, k < 11 → ers (lk k) = wk k
  | 0, _ => by simp [ers, er, lk, wk, isK]
  | 1, _ => by simp [ers, er, lk, wk, isK]
  | 2, _ => by simp [ers, er, lk, wk, isK]
  | 3, _ => by simp [ers, er, lk, wk, isK, inP, inR, inA]
  | 4, _ => by simp [ers, er, lk, wk, isK, inP, inR, inA]
  | 5, _ => by simp [ers, er, lk, wk, isK, inP, inR, inA]
  | 6, _ => by simp [ers, er, lk, wk, isK, inP, inR, inA]
  | 7, _ => by simp [ers, er, lk, wk, isK, inP, inR, inA]
  | 8, _ => by simp [ers, er, lk, wk, isK, inP, inR, inA]
  | 9, _ => by simp [ers, er, lk, wk, isK, inP, inR, inA, zs_len]
  | 10, _ => by simp [ers, er, lk, wk, isK, inP, inR, inA, zs_len]
  | k + 11, h => by omega
theorem lk_len : ∀ k, (lk k).L.length ≤ 976
  | 0 => by simp [lk] | 1 => by simp [lk] | 2 => by simp [lk] | 3 => by simp [lk] | 4 => by simp [lk] | 5 => by simp [lk] | 6 => by simp [lk] | 7 => by simp [lk] | 8 => by simp [lk]
  | 9 => by simp [lk, zs_len] | 10 => by simp [lk, zs_len] | k + 11 => by simp [lk, zs_len]
/-- Behind a Put that is done or not, Get is done or not. -/
theorem get_put (T : Nm.St) (s : S) : ((gt (Nm.opn (nd T s)) s.k s.a (pt (nsl T) s).2).1 == 0) = (ers s == 0) := by
  by_cases h : ers s = 0
  · rw [nam_back T h, h]
  · rw [pt_no h, gt_no (by unfold ger; rw [if_pos (by simp)]; decide)]
    unfold ger
    rw [if_pos (by simp)]
    have : (ers s == 0) = false := by simpa using h
    rw [this]
    rfl
theorem get_len (T : Nm.St) (s : S) : (gt (Nm.opn (nd T s)) s.k s.a (pt (nsl T) s).2).2.L.length ≤ s.L.length := by
  by_cases h : ers s = 0
  · rw [nam_back T h]; exact Nat.le_refl _
  · rw [pt_no h, gt_no (by unfold ger; rw [if_pos (by simp)]; decide)]
    exact Nat.zero_le _
theorem put_len (T : Nm.St) (s : S) (hs : s.L.length ≤ 976) : (pt (nsl T) s).2.length ≤ 1024 := by
  by_cases h : ers s = 0
  · rw [nam_put_len T h]
    have := (ers_parts h).2.2
    omega
  · rw [pt_no h]; exact Nat.zero_le _
attribute [irreducible] lk wk
end Sc
/-- The list in memory. -/
def krow (a1 a2 : Nat) : Obj := .cells #[.int .i64 0, .int .i64 0, .int .i64 0, .int .i64 0, .slice none 0 0, .int .i64 6, .int .i64 0, .int .i64 0, .int .i64 0, .slice none 0 0, .int .i64 (-1), .int .i64 0, .int .i64 0, .int .i64 0, .slice none 0 0, .int .i64 1, .int .i64 0, .int .i64 0, .int .i64 0, .slice none 0 0, .int .i64 5, .int .i64 (-1), .int .i64 0, .int .i64 0, .slice none 0 0, .int .i64 5, .int .i64 1099511627776, .int .i64 1099511627776, .int .i64 4095, .slice none 0 0, .int .i64 5, .int .i64 0, .int .i64 1099511627777, .int .i64 0, .slice none 0 0, .int .i64 5, .int .i64 0, .int .i64 0, .int .i64 4096, .slice none 0 0, .int .i64 5, .int .i64 0, .int .i64 0, .int .i64 (-1), .slice none 0 0, .int .i64 4, .int .i64 0, .int .i64 0, .int .i64 0, .slice (some ⟨a1, 0, none⟩) 975 975, .int .i64 4, .int .i64 0, .int .i64 0, .int .i64 0, .slice (some ⟨a2, 0, none⟩) 976 976] 24
structure KRow (w : World) (tb a1 a2 : Nat) : Prop where
  row : w.heap[tb]? = some (krow a1 a2)
  b1 : Bs w (some ⟨a1, 0, none⟩) 975 (zs 975)
  b2 : Bs w (some ⟨a2, 0, none⟩) 976 (zs 976)
theorem KRow.at {w : World} {tb a1 a2 : Nat} (h : KRow w tb a1 a2) : ∀ k, k < 11 → ∃ p c, SecAt w tb (k * 5) (Sc.lk k) p c := by
  have c := fun j => cell_of_row w tb j _ _ _ h.row
  have e9 : (zs 975).length = 975 := zs_len _
  have e10 : (zs 976).length = 976 := zs_len _
  intro k hk
  rcases k with _ | _ | _ | _ | _ | _ | _ | _ | _ | _ | _ | k
  · exact ⟨none, 0, ⟨by rw [c]; unfold Sc.lk; rfl, by rw [c]; unfold Sc.lk; rfl, by rw [c]; unfold Sc.lk; rfl, by rw [c]; unfold Sc.lk; rfl, by rw [c]; unfold Sc.lk; rfl⟩, by unfold Sc.lk; exact bs_none _⟩
  · exact ⟨none, 0, ⟨by rw [c]; unfold Sc.lk; rfl, by rw [c]; unfold Sc.lk; rfl, by rw [c]; unfold Sc.lk; rfl, by rw [c]; unfold Sc.lk; rfl, by rw [c]; unfold Sc.lk; rfl⟩, by unfold Sc.lk; exact bs_none _⟩
  · exact ⟨none, 0, ⟨by rw [c]; unfold Sc.lk; rfl, by rw [c]; unfold Sc.lk; rfl, by rw [c]; unfold Sc.lk; rfl, by rw [c]; unfold Sc.lk; rfl, by rw [c]; unfold Sc.lk; rfl⟩, by unfold Sc.lk; exact bs_none _⟩
  · exact ⟨none, 0, ⟨by rw [c]; unfold Sc.lk; rfl, by rw [c]; unfold Sc.lk; rfl, by rw [c]; unfold Sc.lk; rfl, by rw [c]; unfold Sc.lk; rfl, by rw [c]; unfold Sc.lk; rfl⟩, by unfold Sc.lk; exact bs_none _⟩
  · exact ⟨none, 0, ⟨by rw [c]; unfold Sc.lk; rfl, by rw [c]; unfold Sc.lk; rfl, by rw [c]; unfold Sc.lk; rfl, by rw [c]; unfold Sc.lk; rfl, by rw [c]; unfold Sc.lk; rfl⟩, by unfold Sc.lk; exact bs_none _⟩
  · exact ⟨none, 0, ⟨by rw [c]; unfold Sc.lk; rfl, by rw [c]; unfold Sc.lk; rfl, by rw [c]; unfold Sc.lk; rfl, by rw [c]; unfold Sc.lk; rfl, by rw [c]; unfold Sc.lk; rfl⟩, by unfold Sc.lk; exact bs_none _⟩
  · exact ⟨none, 0, ⟨by rw [c]; unfold Sc.lk; rfl, by rw [c]; unfold Sc.lk; rfl, by rw [c]; unfold Sc.lk; rfl, by rw [c]; unfold Sc.lk; rfl, by rw [c]; unfold Sc.lk; rfl⟩, by unfold Sc.lk; exact bs_none _⟩
  · exact ⟨none, 0, ⟨by rw [c]; unfold Sc.lk; rfl, by rw [c]; unfold Sc.lk; rfl, by rw [c]; unfold Sc.lk; rfl, by rw [c]; unfold Sc.lk; rfl, by rw [c]; unfold Sc.lk; rfl⟩, by unfold Sc.lk; exact bs_none _⟩
  · exact ⟨none, 0, ⟨by rw [c]; unfold Sc.lk; rfl, by rw [c]; unfold Sc.lk; rfl, by rw [c]; unfold Sc.lk; rfl, by rw [c]; unfold Sc.lk; rfl, by rw [c]; unfold Sc.lk; rfl⟩, by unfold Sc.lk; exact bs_none _⟩
  · exact ⟨some ⟨a1, 0, none⟩, 975, ⟨by rw [c]; unfold Sc.lk; rfl, by rw [c]; unfold Sc.lk; rfl, by rw [c]; unfold Sc.lk; rfl, by rw [c]; unfold Sc.lk; rfl, by rw [c]; show _ = some (Value.slice (some ⟨a1, 0, none⟩) (Sc.lk 9).L.length 975); rw [Sc.lk9]; show _ = some (Value.slice (some ⟨a1, 0, none⟩) (zs 975).length 975); rw [e9]; rfl⟩, by unfold Sc.lk; exact h.b1⟩
  · exact ⟨some ⟨a2, 0, none⟩, 976, ⟨by rw [c]; unfold Sc.lk; rfl, by rw [c]; unfold Sc.lk; rfl, by rw [c]; unfold Sc.lk; rfl, by rw [c]; unfold Sc.lk; rfl, by rw [c]; show _ = some (Value.slice (some ⟨a2, 0, none⟩) (Sc.lk 10).L.length 976); rw [Sc.lk10]; show _ = some (Value.slice (some ⟨a2, 0, none⟩) (zs 976).length 976); rw [e10]; rfl⟩, by unfold Sc.lk; exact h.b2⟩
  · omega
theorem ger_short {k a : Int} {b : List Int} (h : b.length < 17) : Sc.ger k a b = 2 := by unfold Sc.ger; rw [if_pos h]
theorem ger_long {k a : Int} {b : List Int} (h : 1024 < b.length) : Sc.ger k a b = 3 := by unfold Sc.ger; rw [if_neg (by omega), if_pos h]
theorem ger_kind {k a : Int} {b : List Int} (h : ¬ b.length < 17) (h1 : ¬ 1024 < b.length) (h2 : ¬ (Sc.isK k = true ∧ Sc.kd b = k)) : Sc.ger k a b = 5 := by unfold Sc.ger; rw [if_neg h, if_neg h1, if_neg h2]
theorem ger_range {k a : Int} {b : List Int} (h : ¬ b.length < 17) (h1 : ¬ 1024 < b.length) (h2 : Sc.isK k = true ∧ Sc.kd b = k) (h3 : Sc.inP (Sc.ep (b.take 17)) (Sc.nu (b.take 17)) a = false) : Sc.ger k a b = 7 := by unfold Sc.ger; rw [if_neg h, if_neg h1, if_pos h2, if_neg (by simp [h3])]
/-- What Put, what Get answers, in letters. -/
def PutF (e : Int) (L : List Int) (F : World → Prop) (w : World) (r : Ending) (w' : World) : Prop := ∃ u m d, r = .returned (.tuple #[.slice u m d, .int .i64 e]) ∧ L.length = m ∧ Hid (w'.ownsRow w.heap.size 5 1 (.slice u m d) m (U8s L)) ∧ Hid (Bs w' u d L) ∧ F w'
theorem putf_of {e : Int} {L : List Int} {F : World → Prop} {w w' : World} {r : Ending} (h : LPut (e, L) w F r w') : PutF e L F w r w' := h
def GetX (e : Int) (s : Sc.S) (w : World) (r : Ending) (w' : World) : Prop := ∃ u m d, r = .returned (.tuple #[Sv s u m d, .int .i64 e]) ∧ s.L.length = m ∧ Hid (w'.ownsRow w.heap.size 5 1 (.slice u m d) m (U8s s.L)) ∧ Hid (Bs w' u d s.L) ∧ Hid (Below w.heap.size w w')
theorem getx_of {e : Int} {s : Sc.S} {w w' : World} {r : Ending} (h : LGet (e, s) w r w') : GetX e s w r w' := h
/-- What Put must answer, in memory. -/
def wrow : Obj := .cells #[.int .i64 5, .int .i64 5, .int .i64 5, .int .i64 0, .int .i64 7, .int .i64 0, .int .i64 7, .int .i64 7, .int .i64 7, .int .i64 0, .int .i64 3] 3
theorem wrow_at {w : World} {g : Nat} (h : w.heap[g]? = some wrow) : ∀ k, k < 11 → w.cell? ⟨g, k, none⟩ = some (.int .i64 (Sc.wk k)) := by
  have c := fun j => cell_of_row w g j _ _ _ h
  intro k hk
  rcases k with _ | _ | _ | _ | _ | _ | _ | _ | _ | _ | _ | k
  all_goals first | (rw [c]; unfold Sc.wk; rfl) | omega
end Go.Proofs.YtkjfhbmdogmecaaDoor

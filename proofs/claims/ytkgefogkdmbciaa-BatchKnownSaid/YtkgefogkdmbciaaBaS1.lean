/-
  For BatchKnown: bytes turned in a row of the call's own, an append behind a guard, entries one after another.
-/
import Derived.Test.YtkgefogkdmbciaaBaS0
import Derived.Test.YtkgefogkdmbciaaBaP0
namespace Go.Proofs.Ytkgefogkdmbciaa
open Go.RowKit

theorem bits_bytF (u v : Int) : 0 ≤ bits .xor .u8 u v ∧ bits .xor .u8 u v ≤ 255 := by
  have h : ∀ x : Int, 0 ≤ IntKind.u8.wrap x ∧ IntKind.u8.wrap x ≤ 255 := fun x => by
    simp [IntKind.wrap, IntKind.signed, IntKind.bits]
    omega
  exact h _
theorem own_blk {B n : Nat} {v : Value} {l : List Int} {y : World} (h : y.ownsRow B 5 1 v n (U8s l)) (h0 : 0 < n) : ∃ g c, v = .slice (some ⟨g, 0, none⟩) n c ∧ B ≤ g ∧ n ≤ c ∧ ∀ k, y.frozen? ⟨g, k, none⟩ = false := by
  rcases h.2 with ⟨h3, h4⟩ | ⟨g, cap, cur, h3, q0, hg, hn, _⟩
  · omega
  · exact ⟨g, cap, h3, q0, hn, fun k => frozen_of_row y g k _ _ hg⟩
theorem own_setc {B g c n : Nat} {y : World} {l : List Int} (h : y.ownsRow B 5 1 (.slice (some ⟨g, 0, none⟩) n c) n (U8s l)) (i : Nat) (x : Int) :
    (y.setCell ⟨g, i, none⟩ (.int .u8 x)).ownsRow B 5 1 (.slice (some ⟨g, 0, none⟩) n c) n (U8s (l.set i x)) := by
  obtain ⟨h1, h2⟩ := h
  have he : U8s (l.set i x) = (U8s l).set i (.int .u8 x) := by unfold U8s; rw [List.map_set]
  rw [he]
  rcases h2 with ⟨h3, _⟩ | ⟨g', cap, cur, h3, q0, hg, hn, hx, hs, ht⟩
  · cases h3
  · cases h3
    refine ⟨by rw [List.length_set]; exact h1, Or.inr ⟨g, c, cur.setIfInBounds i (.int .u8 x), rfl, q0, heap_setCell_same y g i _ _ _ hg, hn, hx, by rw [Array.size_setIfInBounds]; exact hs, ?_⟩⟩
    rw [Array.toList_setIfInBounds, List.take_set, ht]
theorem byt_set {l : List Int} (h : Sha.Byt l) (i : Nat) {x : Int} (hx : 0 ≤ x ∧ x ≤ 255) : Sha.Byt (l.set i x) := fun z hz => by
  rcases List.mem_or_eq_of_mem_set hz with h1 | rfl
  · exact h z h1
  · have := hx; omega
section
variable {ops : Array Oper} {rest : List Oper} {a : Act} {w : World} {Q : Exit → Act → World → Prop} {D : Option Tmp} {T : TypeId} {ps : String} {af : Array Edge} {gd : Option (Nat × Bool)}
theorem app1_g (s xo : Operand) (B : Nat) (v : Value) (n : Nat) (l : List Int) (u : Int) (hw : Region.wanted { dst := D, op := .call { callee := .builtin .append, args := #[s, xo], argTypes := #[29, 29] }, type := T, pos := ps, after := af, guard := gd } (yielded ops a.tmps) = true)
    (hs : a.eval s = v) (hx : a.eval xo = .slice (some ⟨w.heap.size, 0, none⟩) 1 1) (hown : w.ownsRow B 5 1 v n (U8s l)) (hn : n ≤ 100000) (hB : B ≤ w.heap.size)
    (h : ∀ v' w', Hid (w'.ownsRow B 5 1 v' (n + 1) (U8s (l ++ [u]))) → Hid (Below B w w') → wpList Try.prog ops Q rest (a.put D v') w') :
    wpList Try.prog ops Q ({ dst := D, op := .call { callee := .builtin .append, args := #[s, xo], argTypes := #[29, 29] }, type := T, pos := ps, after := af, guard := gd } :: rest) a (w.alloc (.cells #[.int .u8 u] 5)) :=
  BigFrame.wpList_want hw fun K hK => by
    obtain ⟨i0, hi, hz0, hz1, hz2⟩ := info_parts Try.info_u8
    refine wp_append_own _ s xo 29 rfl B 5 i0 (.int .u8 0) 1 1 Try.underlying29 hi hz0 hz1 hz2 rfl (by decide) v n (U8s l) hs (hown.alloc _) ⟨w.heap.size, 0, none⟩ 1 1 [.int .u8 u] hx rfl (u8_cell _ _ _) (u8_one _) (by unfold maxLen; omega) (by omega) (by simp; omega) (fun v' w' ho hg _ => ?_)
    rw [U8s_snoc] at ho
    exact hK _ _ (h v' w' ho (below_own (Below.refl _ _) hB hown hg))
end
namespace Bt
def sq (i : Nat) : En := ⟨1, i, i, Z⟩
theorem sq_ok {i : Nat} (h : i ≤ 100) : (sq i).ok := ⟨⟨by show (-9223372036854775808 : Int) ≤ 1; decide, by show (1 : Int) ≤ 9223372036854775807; decide⟩, ⟨by show _ ≤ (i : Int); omega, by show (i : Int) ≤ _; omega⟩, ⟨by show _ ≤ (i : Int); omega, by show (i : Int) ≤ _; omega⟩, z_len, z_byt⟩
def sqs (k : Nat) : List En := (List.range k).map sq
theorem sqs_len (k : Nat) : (sqs k).length = k := by simp [sqs]
theorem sqs_succ (k : Nat) : sqs k ++ [sq k] = sqs (k + 1) := by simp [sqs, List.range_succ]
theorem sqs_ok {k : Nat} (h : k ≤ 100) : ∀ x ∈ sqs k, x.ok := fun x hx => by
  unfold sqs at hx
  rw [List.mem_map] at hx
  obtain ⟨i, hi, rfl⟩ := hx
  rw [List.mem_range] at hi
  exact sq_ok (by omega)
theorem go_sq : ∀ (m s : Nat), s + m ≤ 64 → go ((s : Int) - 1) ((List.range' s m).map sq) = 0
  | 0, _, _ => by unfold go; rfl
  | m + 1, s, h => by
    have ha : al (sq s) = 0 := by
      unfold al sq
      rw [if_pos rfl, if_pos (by show 0 ≤ (s : Int) ∧ (s : Int) ≤ 63 ∧ 0 ≤ (s : Int) ∧ (s : Int) ≤ 63; omega)]
    have he : er ((s : Int) - 1) (sq s) = 0 := by
      by_cases h0 : s = 0
      · subst h0
        exact er_first ha (by show (1 : Int) ≠ 2; decide)
      · rw [er_next ha (by show (1 : Int) ≠ 2; decide) (by omega), if_pos (by show (s : Int) = _; omega)]
    rw [List.range'_succ, List.map_cons, go_on he, nl_slot _ (by show (1 : Int) ≠ 2; decide)]
    have ih := go_sq m (s + 1) (by omega)
    rw [show ((s + 1 : Nat) : Int) - 1 = (s : Int) by omega] at ih
    exact ih
theorem ck_sq (k : Nat) (h : k ≤ 17) : ck 0 0 (sqs k) = if k ≤ 16 then 0 else 17 := by
  by_cases h1 : k ≤ 16
  · rw [if_pos h1]
    refine ck_of (by rw [sqs_len]; exact h1) ⟨by omega, by omega, by omega, by omega⟩ ?_
    unfold sqs
    rw [List.range_eq_range']
    exact go_sq k 0 (by omega)
  · rw [if_neg h1]
    exact ck_many (by rw [sqs_len]; omega)
theorem ck_none : ck 3 (-1) [] = 0 := ck_of (by simp) ⟨by omega, by omega, by omega, by omega⟩ (by unfold go; rfl)
attribute [irreducible] sqs
end Bt
theorem built_sq (i : Nat) : Try.prog.built 50 [(0, .int .i64 1), (1, .int .i64 (i : Nat)), (2, .int .i64 (i : Nat))] = some (EnA (Bt.sq i)) := by
  rw [built_of Try.zeroEn Try.placesEn, fill_step _ 0 _ 0 1 _ _ rfl rfl (by simp [ZEn]), fill_step _ 1 _ 1 1 _ _ rfl rfl (by simp [ZEn]), fill_step _ 2 _ 2 1 _ _ rfl rfl (by simp [ZEn, Value.cells])]
  unfold Instr.fill EnA Bt.cells Bt.sq
  simp [ZEn, Value.cells, Bt.Z]
theorem build_sm02 (t n : Int) : Try.prog.built 26 [(0, .int .i64 t), (2, .int .i64 n)] = some (SmA t Bt.Z n (.slice none 0 0)) := by
  rw [built_of Try.zeroSm Try.placesSm, fill_step _ 0 _ 0 1 _ _ rfl rfl (by simp [ZSm]), fill_step _ 2 _ 33 1 _ _ rfl rfl (by simp [ZSm, Value.cells])]
  unfold Instr.fill SmA SmC
  simp [ZSm, Value.cells, Bt.Z]
end Go.Proofs.Ytkgefogkdmbciaa

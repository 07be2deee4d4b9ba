/-
  The reference: eight, tag.
-/
import Derived.Test.YtdmnlooghamngaaNaGo
import Derived.Maps.AppendAt
namespace Go.Proofs.Ytdmnlooghamngaa
open Go.RowKit

namespace Nm
/-- A number's bytes from place i down to 0, the highest first, as the reference lays them: the first j of them. -/
def e8 (k : Int) (j : Nat) : List Int := (List.range j).map fun i => k / 256 ^ (7 - i) % 256
theorem e8_len (k : Int) (j : Nat) : (e8 k j).length = j := by simp [e8]
theorem e8_succ (k : Int) (j : Nat) : e8 k (j + 1) = e8 k j ++ [k / 256 ^ (7 - j) % 256] := by simp [e8, List.range_succ]
theorem e8_at (k : Int) (j i : Nat) (h : i < j) : (e8 k j).getD i 0 = k / 256 ^ (7 - i) % 256 := by simp [e8, List.getD_eq_getElem?_getD, h]
theorem e8_byt (k : Int) (j : Nat) : Sha.Byt (e8 k j) := fun x hx => by
  simp only [e8, List.mem_map] at hx
  obtain ⟨i, _, rfl⟩ := hx
  omega
theorem tg_e8 (f k : Int) : tg f k = List.replicate 24 f ++ e8 k 8 := by
  apply List.ext_getElem?
  intro i
  by_cases h : i < 32
  · rw [tg_at f k i h]
    by_cases h2 : i < 24
    · rw [List.getElem?_append_left (by simpa using h2), if_neg (by omega), List.getElem?_eq_getElem (by simpa using h2), List.getElem_replicate]
    · rw [List.getElem?_append_right (by simp; omega), if_pos (by omega), List.length_replicate]
      have h3 : i - 24 < 8 := by omega
      simp only [e8, List.getElem?_map, List.getElem?_range h3, Option.map_some]
      rw [show 7 - (i - 24) = 31 - i by omega]
  · rw [List.getElem?_eq_none (by rw [tg_len]; omega), List.getElem?_eq_none (by simp [e8]; omega)]
attribute [irreducible] e8
end Nm
/-- What makes a row of bytes of the call's own. -/
def RowIs (L : List Int) (w : World) (e : Ending) (w' : World) : Prop := ∃ v, e = .returned v ∧ w'.ownsRow w.heap.size 5 1 v L.length (U8s L) ∧ Below w.heap.size w w'

set_option maxHeartbeats 1000000 in
set_option maxRecDepth 100000 in
theorem eight_any (k : Int) (w : World) : Calls Try.prog 39 #[.int .i64 k] w (RowIs (Nm.e8 k 8) w) := by
  obtain ⟨i0, hi, hz0, hz1, hz2⟩ := info_parts Try.info_u8
  go_enter Try.func39, Try.ntmps39
  go_wp2
  go_loopw [3, 4] (fun v3 v4 wr => ∃ (j : Nat) (V : Value), j ≤ 8 ∧ v4 = .int .i64 (7 - (j : Int)) ∧ V = v3 ∧ Hid (wr.ownsRow w.heap.size 5 1 V j (U8s (Nm.e8 k j))) ∧ Hid (Below w.heap.size w wr)) (fun _ v4 _ => (intOf v4 + 1).toNat)
  case atStart => exact ⟨0, _, by omega, rfl, rfl, by unfold Nm.e8 U8s; exact World.ownsRow_nil _ _ _ _, Below.refl _ _⟩
  case round =>
    obtain ⟨j, V, hj, rfl, rfl, HO, HB⟩ := hrel
    by_cases hlt : j < 8
    · have hx1 : 0 ≤ 7 - (j : Int) := by omega
      have hw2 : IntKind.i64.wrap (8 * (7 - (j : Int))) = 8 * (7 - (j : Int)) := IntWalk.i64_in _ ⟨by omega, by omega⟩
      have hx4 : 0 ≤ 8 * (7 - (j : Int)) := by omega
      have hx5 : 8 * (7 - (j : Int)) ≤ 64 := by omega
      have hx6 : (2 : Int) ^ (8 * (7 - (j : Int))).toNat = 256 ^ (7 - j) := by
        rw [show (8 * (7 - (j : Int))).toNat = 8 * (7 - j) by omega, Int.pow_mul]
        rfl
      have HOA : Hid (∀ O, (wr.alloc O).ownsRow w.heap.size 5 1 V j (U8s (Nm.e8 k j))) := fun O => own_keepX HO.out ((Below.refl _ wr).alloc (Nat.le_refl _) O)
      have HBS := HB.out.size
      go_wp2_with (first
        | (at_builtin; refine wpList_append_own _ rfl _ _ 30 rfl w.heap.size 5 i0 (.int .u8 0) 1 1 Try.underlying30 hi hz0 hz1 hz2 rfl (by decide) _ _ _ rfl (HOA.out _) ⟨wr.heap.size, 0, none⟩ 1 1 [.int .u8 (k / 256 ^ (7 - j) % 256)] rfl rfl (u8_cell wr _ _) (u8_one _) (by unfold maxLen; omega) (by omega) (by simp; omega) ?_; intro v5 w5 ho5 hg5 _; have HO5 := Lib.hid ho5; have HG5 := Lib.hid hg5; clear ho5 hg5)
        | go_in)
      refine ⟨⟨j + 1, _, by omega, ?_, rfl, ?_, ?_⟩, by simp [intOf]; omega⟩
      · congr 1; omega
      · show World.ownsRow _ _ _ _ _ _ _
        have h := HO5.out
        rw [U8s_snoc, ← Nm.e8_succ] at h
        exact h
      · exact (HB.out.alloc HB.out.size _).grown HG5.out (by simp; omega) (fun q hq => (HO.out.lt q hq).1)
    · obtain rfl : j = 8 := by omega
      clear hlt
      go_wp2
      go_ret
      exact ⟨_, rfl, by rw [Nm.e8_len]; exact HO.out, HB.out⟩

/-- Two rows that do not share a block. -/
def NB (u v : Value) : Prop := ∀ g, u.ownBlock = some g → v.ownBlock ≠ some g
/-- append of one byte, beside another row of the call's own. -/
theorem append_byte {ops : Array Oper} {rest : List Oper} {a : Act} {w : World} {Q : Exit → Act → World → Prop} {D : Option Tmp} {T : TypeId} {ps : String} {af : Array Edge} (s x : Operand) (B B2 : Nat) (V u : Value) (n m : Nat) (L M : List Int) (ad : Addr) (y : Int)
    (hs : a.eval s = V) (hx : a.eval x = .slice (some ad) 1 1) (ho : w.ownsRow B 5 1 V n (U8s L)) (hc : w.cell? ad = some (.int .u8 y)) (hu : w.ownsRow B2 5 1 u m (U8s M)) (hn : NB u V) (hk : n ≤ 10000000) (hB : B ≤ w.heap.size)
    (h : ∀ v' w', w'.ownsRow B 5 1 v' (n + 1) (U8s (L ++ [y])) → w.grownBy w' V.ownBlock → w'.ownsRow B2 5 1 u m (U8s M) → NB u v' → wpList Try.prog ops Q rest (a.put D v') w') :
    wpList Try.prog ops Q ({ dst := D, op := .call { callee := .builtin .append, args := #[s, x], argTypes := #[30, 30] }, type := T, pos := ps, after := af, guard := none } :: rest) a w := by
  obtain ⟨i0, hi, hz0, hz1, hz2⟩ := info_parts Try.info_u8
  have hadd : ad.add 0 = ad := by simp [Addr.add]
  refine wpList_append_own_at _ rfl s x 30 rfl B 5 i0 (.int .u8 0) 1 1 Try.underlying30 hi hz0 hz1 hz2 rfl (by decide) V n (U8s L) hs ho ad 1 1 [.int .u8 y] hx rfl (fun j q hj => ?_) (u8_one _) (by unfold maxLen; omega) (by omega) hB ?_
  · rcases j with _ | j
    · simp at hj; subst hj; rw [hadd]; exact hc
    · simp at hj
  · intro v' w' h1 h2 _ h4
    rw [U8s_snoc] at h1
    refine h v' w' h1 h2 (own_grown hu h2 (fun g hg e => hn g hg e.symm)) (fun g hg e => ?_)
    rcases h4 with h4 | h4
    · exact hn g hg (h4 ▸ e)
    · rw [h4] at e
      cases e
      have := (hu.lt _ hg).2
      omega

set_option maxHeartbeats 1000000 in
set_option maxRecDepth 100000 in
theorem tag_any (k : Int) (w : World) : Calls Try.prog 36 #[.int .i64 k] w (RowIs (Nm.tg 0 k) w) := by
  obtain ⟨i0, hi, hz0, hz1, hz2⟩ := info_parts Try.info_u8
  go_enter Try.func36, Try.ntmps36
  go_upto_region 2 with ((with_reducible refine make_at _ 5 _ _ (.int .u8 0) 1 24 24 ?_ ?_ ?_ ?_ rfl ?_ ?_ ?_ ?_); (exact rfl); (exact rfl); (exact Try.underlying30); (exact Try.info_u8); omega; omega; omega; intro w1 G1 hb1 hs1)
  have O1 : Hid (w1.ownsRow w.heap.size 5 1 (.slice (some ⟨w.heap.size, 0, none⟩) 24 24) 24 (U8s (List.replicate 24 0))) := by
    refine ⟨by unfold U8s; simp, Or.inr ⟨w.heap.size, 24, _, rfl, Nat.le_refl _, G1.out, Nat.le_refl _, by unfold maxLen; omega, by simp, by unfold U8s; simp⟩⟩
  have B1 := Lib.hid hb1
  clear hb1 G1 hs1
  go_wp2_with (go_at_call 39; refine (eight_any _ _).mono ?_; rintro e2 w2 ⟨v2, rfl, ho2, hb2⟩; have O2 := Lib.hid (own_keepX O1.out hb2); have E2 := Lib.hid ho2; have Z2 : Hid (w.heap.size ≤ w1.heap.size) := B1.out.size; have B2 : Hid (Below w.heap.size w w2) := B1.out.trans (hb2.mono B1.out.size); clear hb2 ho2)
  obtain ⟨p, c, rfl, hbs, _⟩ := own_bs E2.out (Nm.e8_byt k 8)
  have E3 : Hid (w2.ownsRow w1.heap.size 5 1 (.slice p 8 c) 8 (U8s (Nm.e8 k 8))) := by
    have h := E2.out
    rw [Nm.e8_len] at h
    exact h
  rw [Nm.e8_len]
  have HNB : Hid (NB (.slice p 8 c) (.slice (some ⟨w.heap.size, 0, none⟩) 24 24)) := fun g hg e => by
    have h1 := (E3.out.lt g hg).1
    cases e
    have h2 := (O1.out.lt _ rfl).2
    omega
  clear hbs O1 B1 E2
  have HZ : Hid (w.heap.size ≤ w1.heap.size) := Z2.out
  have HTE : Hid (Nm.tg 0 k = List.replicate 24 0 ++ Nm.e8 k 8) := Nm.tg_e8 0 k
  go_loopw [3, 5] (fun v3 v5 wr => ∃ (j : Nat) (V : Value), j ≤ 8 ∧ v5 = .int .i64 j ∧ V = v3 ∧ Hid (wr.ownsRow w.heap.size 5 1 V (24 + j) (U8s (List.replicate 24 0 ++ Nm.e8 k j))) ∧ Hid (wr.ownsRow w1.heap.size 5 1 (.slice p 8 c) 8 (U8s (Nm.e8 k 8))) ∧ Hid (Below w.heap.size w wr) ∧ Hid (NB (.slice p 8 c) V)) (fun _ v5 _ => 8 - (intOf v5).toNat)
  case atStart =>
    refine ⟨0, _, by omega, rfl, rfl, ?_, E3.out, B2.out, HNB.out⟩
    show World.ownsRow _ _ _ _ _ _ _
    unfold Nm.e8
    simp only [List.range_zero, List.map_nil, List.append_nil]
    exact O2.out
  case round =>
    clear O2 E3 B2 HNB
    obtain ⟨j, V, hj, rfl, rfl, HO, HE, HB, HNB⟩ := hrel
    by_cases hlt : j < 8
    · obtain ⟨p', c', h1, h2, _⟩ := own_bs HE.out (Nm.e8_byt k 8)
      rw [Nm.e8_len] at h1
      cases h1
      obtain ⟨bb, bo, rfl, hcs⟩ := h2.bat.2 (by rw [Nm.e8_len]; omega)
      have c0 := hcs j (by rw [Nm.e8_len]; exact hlt)
      rw [Nm.e8_at k 8 j hlt] at c0
      clear hcs h2
      have hk0 : 0 ≤ (j : Int) := by omega
      have hk1 : (j : Int) < 8 := by omega
      generalize hy : k / 256 ^ (7 - j) % 256 = y at *
      have HY := Lib.hid hy; clear hy
      have HOA : Hid (∀ O, (wr.alloc O).ownsRow w.heap.size 5 1 V (24 + j) (U8s (List.replicate 24 0 ++ Nm.e8 k j))) := fun O => own_keepX HO.out ((Below.refl _ wr).alloc (Nat.le_refl _) O)
      have HEA : Hid (∀ O, (wr.alloc O).ownsRow w1.heap.size 5 1 (.slice (some ⟨bb, bo, none⟩) 8 c) 8 (U8s (Nm.e8 k 8))) := fun O => own_keepX HE.out ((Below.refl _ wr).alloc (Nat.le_refl _) O)
      have HBS := HB.out.size
      go_wp2_with (first
        | (at_builtin; refine append_byte _ _ w.heap.size w1.heap.size V _ _ _ _ _ ⟨wr.heap.size, 0, none⟩ y rfl rfl (HOA.out _) (by rw [cell_of_row _ _ 0 _ _ _ (heap_alloc_new wr _)]; rfl) (HEA.out _) HNB.out (by omega) (by simp; omega) ?_; intro v5 w5 ho5 hg5 hu5 hn5; have HO5 := Lib.hid ho5; have HG5 := Lib.hid hg5; have HU5 := Lib.hid hu5; have HN5 := Lib.hid hn5; clear ho5 hg5 hu5 hn5)
        | go_in)
      refine ⟨⟨j + 1, _, by omega, by go_num, rfl, ?_, HU5.out, ?_, HN5.out⟩, by simp [intOf]; omega⟩
      · show World.ownsRow _ _ _ _ _ _ _
        have h := HO5.out
        rw [List.append_assoc, ← HY.out, ← Nm.e8_succ] at h
        exact h
      · exact (HB.out.alloc HB.out.size _).grown HG5.out (by simp; omega) (fun q hq => (HO.out.lt q hq).1)
    · obtain rfl : j = 8 := by omega
      clear hlt
      go_wp2
      go_ret
      exact ⟨_, rfl, by rw [Nm.tg_len, HTE.out]; exact HO.out, HB.out⟩
end Go.Proofs.Ytdmnlooghamngaa

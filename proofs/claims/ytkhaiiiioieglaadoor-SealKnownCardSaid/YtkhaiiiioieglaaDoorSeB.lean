/-
  Contract: slices.Concat of rows of bytes: one behind the other.
-/
import Derived.Test.YtkhaiiiioieglaaDoorSeA
import Derived.Laws.AppendOwnNone
namespace Go.Proofs.YtkhaiiiioieglaaDoor
open Go.RowKit

/-- Bytes that came in: what they are, where they lie, and how much room is behind them. -/
structure Bs (w : World) (p : Option Addr) (c : Nat) (L : List Int) : Prop where
  bat : BAt w p L
  cap : L.length ≤ c ∧ c ≤ 9223372036854775807
  nil : p = none → L = [] ∧ c = 0
theorem Bs.old {w x : World} {p : Option Addr} {c : Nat} {L : List Int} (h : Bs w p c L) (hb : Below w.heap.size w x) : Bs x p c L := ⟨h.bat.old hb, h.cap, h.nil⟩
theorem Bs.byt {w : World} {p : Option Addr} {c : Nat} {L : List Int} (h : Bs w p c L) : Sha.Byt L := h.bat.1
theorem bs_none (w : World) : Bs w none 0 [] := ⟨⟨fun x hx => by simp at hx, fun h => by simp at h⟩, ⟨Nat.le_refl _, by omega⟩, fun _ => ⟨rfl, rfl⟩⟩
theorem bs_row {w : World} {g c : Nat} {L : List Int} (h : BAt w (some ⟨g, 0, none⟩) L) (hc : L.length ≤ c ∧ c ≤ 9223372036854775807) : Bs w (some ⟨g, 0, none⟩) c L := ⟨h, hc, fun e => by cases e⟩
/-- Bytes of the call's own, as they are read. -/
theorem own_bs {w : World} {B n : Nat} {v : Value} {l : List Int} (h : w.ownsRow B 5 1 v n (U8s l)) (hb : Sha.Byt l) : ∃ p c, v = .slice p l.length c ∧ Bs w p c l ∧ l.length = n := by
  have hl : l.length = n := by
    have := h.1
    unfold U8s at this
    simpa using this
  rcases h.2 with ⟨rfl, rfl⟩ | ⟨g, cap, cur, rfl, _, _, h1, h2, _⟩
  · obtain rfl : l = [] := List.eq_nil_of_length_eq_zero hl
    exact ⟨none, 0, rfl, bs_none w, rfl⟩
  · refine ⟨some ⟨g, 0, none⟩, cap, by rw [hl], bs_row ⟨hb, fun h0 => ⟨g, 0, rfl, fun j hj => ?_⟩⟩ ⟨by omega, by unfold maxLen at h2; omega⟩, hl⟩
    rw [Nat.zero_add]
    exact u8_at h j (by omega)

theorem bs_cells {w : World} {ad : Addr} {R : List Int} (h : BAt w (some ad) R) : ∀ j u, (R.map (Value.int .u8))[j]? = some u → w.cell? (ad.add j) = some u := fun j u hj => by
  have hjl : j < R.length := by have := (List.getElem?_eq_some_iff.1 hj).1; simpa using this
  obtain ⟨ab, ao, h1, h2⟩ := h.2 (by omega)
  cases h1
  rw [Addr.add_mid, h2 j hjl]
  rw [List.getElem?_map, List.getElem?_eq_getElem hjl] at hj
  rw [List.getD_eq_getElem?_getD, List.getElem?_eq_getElem hjl]
  simpa using hj
/-- append of bytes, wherever they lie, onto a row of the call's own. -/
theorem append_bts {ops : Array Oper} {rest : List Oper} {a : Act} {w : World} {Q : Exit → Act → World → Prop} {D : Option Tmp} {T : TypeId} {ps : String} {af : Array Edge} (s x : Operand) (ys : List Int) (base : Nat) (v : Value) (n : Nat) (l : List Int) (p : Option Addr) (m c : Nat) (hs : a.eval s = v)
    (hx : a.eval x = .slice p m c) (hm : ys.length = m) (hc : Bs w p c ys) (hown : w.ownsRow base 5 1 v n (U8s l)) (hn : n + m ≤ 1000000000000) (hb : base ≤ w.heap.size)
    (h : ∀ v' w', w'.ownsRow base 5 1 v' (n + m) (U8s (l ++ ys)) → w.grownBy w' v.ownBlock → wpList Tryd.prog ops Q rest (a.put D v') w') :
    wpList Tryd.prog ops Q ({ dst := D, op := .call { callee := .builtin .append, args := #[s, x], argTypes := #[22, 22] }, type := T, pos := ps, after := af, guard := none } :: rest) a w := by
  subst hm
  obtain ⟨i0, hi, hz0, hz1, hz2⟩ := info_parts Tryd.info_u8
  cases p with
  | none =>
    obtain ⟨rfl, rfl⟩ := hc.nil rfl
    refine wpList_append_own_none rfl s x 22 rfl base 5 i0 1 Tryd.underlying22 hi v n (U8s l) hs hown hx ?_
    refine h v w (by rw [List.append_nil]; exact hown) ⟨rfl, rfl, rfl, Nat.le_refl _, fun _ _ _ => rfl⟩
  | some ad =>
    refine wpList_append_own _ rfl s x 22 rfl base 5 i0 (.int .u8 0) 1 1 Tryd.underlying22 hi hz0 hz1 hz2 rfl (by decide) v n (U8s l) hs hown ad ys.length c (ys.map (Value.int .u8)) hx (by simp) (bs_cells hc.bat) (bytes_one _) (by unfold maxLen; omega) (by omega) hb ?_
    intro v' w' h1 h2 _
    refine h v' w' ?_ h2
    have e : U8s l ++ ys.map (Value.int .u8) = U8s (l ++ ys) := by unfold U8s; simp
    rw [← e]
    exact h1

namespace Seal
/-- The first k rows, one behind the other. -/
def cat (L : Nat → List Int) : Nat → List Int
  | 0 => []
  | k + 1 => cat L k ++ L k
theorem cat_byt (L : Nat → List Int) : ∀ k, (∀ j, j < k → Sha.Byt (L j)) → Sha.Byt (cat L k)
  | 0, _ => fun x hx => by simp [cat] at hx
  | k + 1, h => Sha.byt_append (cat_byt L k fun j hj => h j (by omega)) (h k (by omega))
theorem cat_le (L : Nat → List Int) : ∀ m k, k ≤ m → (cat L k).length ≤ (cat L m).length
  | 0, k, h => by
    obtain rfl : k = 0 := (by omega)
    exact Nat.le_refl _
  | m + 1, k, h => by
    by_cases e : k = m + 1
    · subst e; exact Nat.le_refl _
    · have := cat_le L m k (by omega)
      rw [cat, List.length_append]
      omega
theorem cat_len (L : Nat → List Int) (k : Nat) : (cat L (k + 1)).length = (cat L k).length + (L k).length := by rw [cat, List.length_append]
theorem cat_snoc (L : Nat → List Int) (k : Nat) : cat L k ++ L k = cat L (k + 1) := rfl
attribute [irreducible] cat
end Seal

set_option maxHeartbeats 1000000 in
set_option maxRecDepth 100000 in
theorem concat_any (P : Nat → Option Addr) (C : Nat → Nat) (L : Nat → List Int) (m g : Nat) (hm : m ≤ 1000) (w : World) (hc : ∀ k, k < m → w.cell? ⟨g, k, none⟩ = some (.slice (P k) (L k).length (C k))) (hb : ∀ k, k < m → Bs w (P k) (C k) (L k)) (hl : (Seal.cat L m).length ≤ 1000000000) :
    Calls Tryd.prog 68 #[.slice (some ⟨g, 0, none⟩) m m] w fun e w' => ∃ v, e = .returned v ∧ w'.ownsRow w.heap.size 5 1 v (Seal.cat L m).length (U8s (Seal.cat L m)) ∧ Below w.heap.size w w' := by
  have HC := Lib.hid hc; clear hc
  have HB := Lib.hid hb; clear hb
  have HL : Hid (∀ k, k ≤ m → (Seal.cat L k).length ≤ 1000000000) := fun k hk => Nat.le_trans (Seal.cat_le L m k hk) hl
  have HG : Hid (∀ n : Nat, n ≤ 1000000000 → ∀ w, Calls Tryd.prog 83 #[.slice none 0 0, .int .i64 n] w fun e w' => ∃ v, e = .returned v ∧ w'.ownsRow w.heap.size 5 1 v 0 (U8s []) ∧ Below w.heap.size w w') := fun n hn w => grow_nil n hn w
  go_enter Tryd.func68, Tryd.ntmps68
  go_wp2
  go_loopw [3, 11] (fun v3 v11 wr => ∃ k : Nat, k ≤ m ∧ v11 = .int .i64 k ∧ v3 = .int .i64 ((Seal.cat L k).length : Nat) ∧ w = wr) (fun _ v11 _ => m - (intOf v11).toNat)
  case atStart => exact ⟨0, Nat.zero_le _, rfl, by unfold Seal.cat; rfl, rfl⟩
  case round =>
    obtain ⟨k, hk, rfl, rfl, rfl⟩ := hrel
    have hlk := HL.out k hk
    by_cases hlt : k < m
    · have c0 := HC.out k hlt
      have hl1 := HL.out (k + 1) (by omega)
      have hle := Seal.cat_len L k
      have hn0 : 0 ≤ (k : Int) := by omega
      have hn1 : (k : Int) < (m : Int) := by omega
      have hlL : (L k).length ≤ 1000000000 := by omega
      generalize (Seal.cat L k).length = N0 at *
      generalize (L k).length = N2 at *
      have hx0 : ¬ ((N0 : Int) + (N2 : Int) < 0) := by omega
      go_wp2
      exact ⟨⟨k + 1, by omega, by go_num, by rw [hle, Int.natCast_add], trivial⟩, by simp [intOf]; omega⟩
    · obtain rfl : k = m := by omega
      clear hlt
      have hge : ¬ ((k : Int) < (k : Int)) := by omega
      obtain ⟨N, hN⟩ : ∃ N, (Seal.cat L k).length = N := ⟨_, rfl⟩
      have hN1 : N ≤ 1000000000 := by omega
      rw [hN]
      go_wp2_with (go_at_call 83; refine (HG.out N hN1 _).mono ?_; rintro e w1 ⟨v1, rfl, ho1, hb1⟩; have HO1 := Lib.hid ho1; have HB1 := Lib.hid hb1; clear ho1 hb1)
      go_loopw [6, 27] (fun v6 v27 wr => ∃ j : Nat, j ≤ k ∧ v27 = .int .i64 j ∧ Hid (wr.ownsRow w.heap.size 5 1 v6 (Seal.cat L j).length (U8s (Seal.cat L j))) ∧ Hid (Below w.heap.size w wr)) (fun _ v27 _ => k - (intOf v27).toNat)
      case atStart =>
        refine ⟨0, Nat.zero_le _, rfl, ?_, HB1.out⟩
        show World.ownsRow _ _ _ _ _ _ _
        unfold Seal.cat
        exact HO1.out
      case round =>
        clear HO1 HB1
        obtain ⟨j, hj, rfl, HO, HBl⟩ := hrel
        by_cases hlt : j < k
        · have c0 := (HBl.out.cell (World.block_lt_of_cell? w _ (HC.out j hlt))).trans (HC.out j hlt)
          have hl0 := HL.out j hj
          have hl1 := HL.out (j + 1) (by omega)
          have hle := Seal.cat_len L j
          have hn0 : 0 ≤ (j : Int) := by omega
          have hn1 : (j : Int) < (k : Int) := by omega
          have hsz := HBl.out.size
          have HBS : Hid (Bs wr (P j) (C j) (L j)) := (HB.out j hlt).old HBl.out
          go_wp2_with (first
            | (at_builtin; refine append_bts _ _ (L j) w.heap.size _ _ _ (P j) _ (C j) rfl rfl rfl HBS.out HO.out (by omega) hsz ?_; intro v5 w5 ho5 hg5; have HO5 := Lib.hid ho5; have HG5 := Lib.hid hg5; clear ho5 hg5)
            | go_in)
          refine ⟨⟨j + 1, by omega, by go_num, ?_, ?_⟩, by simp [intOf]; omega⟩
          · show World.ownsRow _ _ _ _ _ _ _
            have h := HO5.out
            rw [← hle, Seal.cat_snoc] at h
            exact h
          · exact HBl.out.grown HG5.out hsz (fun q hq => (HO.out.lt q hq).1)
        · obtain rfl : j = k := by omega
          have hge : ¬ ((j : Int) < (j : Int)) := by omega
          clear hlt
          go_wp2
          go_ret
          refine ⟨_, rfl, ?_, HBl.out⟩
          have h := HO.out
          rw [hN] at h
          exact h

end Go.Proofs.YtkhaiiiioieglaaDoor

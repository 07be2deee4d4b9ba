/-
  Contracts: sha.Of, rilllaw01.sum, rilllaw01.known, rillkit.Pick.
-/
import Derived.Test.YtjidkkehhglahaaDoorShaG
import Derived.Test.YtjidkkehhglahaaDoorShaK
namespace Go.Proofs.YtjidkkehhglahaaDoor
open Go.RowKit

/-- Byte i of words that stand one behind the other. -/
def sb (l : List Int) (i : Nat) : Int := l.getD (i / 4) 0 / 2 ^ (24 - 8 * (i % 4)) % 256
def sbK (l : List Int) (k : Nat) : List Int := (List.range k).map (sb l) ++ List.replicate (32 - k) 0
theorem sbK_len (l : List Int) (k : Nat) (h : k ≤ 32) : (sbK l k).length = 32 := by simp [sbK]; omega
theorem sbK_step (l : List Int) (k : Nat) (h : k < 32) : (sbK l k).set k (sb l k) = sbK l (k + 1) := by
  unfold sbK
  rw [List.set_append_right _ _ (by simp), List.range_succ, List.map_append, List.length_map, List.length_range, Nat.sub_self, show 32 - k = (32 - (k + 1)) + 1 by omega, List.replicate_succ]
  simp
theorem sbK_zero (l : List Int) : sbK l 0 = List.replicate 32 0 := by simp [sbK]
theorem sb_eq' (l : List Int) (i : Nat) : l[i / 4]?.getD 0 / 2 ^ (24 - 8 * (i % 4)) % 256 = sb l i := by rw [← List.getD_eq_getElem?_getD]; rfl
theorem sb_eq (l : List Int) (i : Nat) : sb l i = l.getD (i / 4) 0 / 2 ^ (24 - 8 * (i % 4)) % 256 := rfl
theorem sb_cell {w : World} {G : Nat} {l : List Int} {k : Nat} {t : TypeId} (h : w.heap[G]? = some (.cells ((sbK l k).map (Value.int .u8)).toArray t (0, 0))) (hk : k ≤ 32) (j : Nat) (hj : j < 32) : w.cell? ⟨G, j, none⟩ = some (.int .u8 ((sbK l k).getD j 0)) := by
  rw [cell_of_row w G j _ _ _ h]
  simp [List.getD_eq_getElem?_getD, sbK_len l k hk, hj]
attribute [irreducible] sb sbK

def WSumSay (l : List Int) (w : World) (e : Ending) (w' : World) : Prop := e = .returned (.agg ((sbK l 32).map (Value.int .u8)).toArray) ∧ Below w.heap.size w w'

set_option maxRecDepth 100000 in
set_option maxHeartbeats 1000000 in
theorem wsum_any (a b c d e f g h : Int) (w : World) :
    Calls Tryd.prog 10 #[.int .u32 a, .int .u32 b, .int .u32 c, .int .u32 d, .int .u32 e, .int .u32 f, .int .u32 g, .int .u32 h] w (WSumSay [a, b, c, d, e, f, g, h] w) := by
  obtain ⟨l, hl⟩ : ∃ l, l = [a, b, c, d, e, f, g, h] := ⟨_, rfl⟩
  have HL := Lib.hid hl
  rw [← hl]
  clear hl
  go_enter Tryd.func10, Tryd.ntmps10
  go_wp2
  go_loopw [19] (fun v19 wr => ∃ k : Nat, k ≤ 32 ∧ v19 = .int .i64 k ∧ Hid (wr.heap[w.heap.size + 2]? = some (.cells ((sbK l k).map (Value.int .u8)).toArray 30 (0, 0))) ∧ Hid (wr.heap[w.heap.size + 1]? = some (.cells (l.map (Value.int .u32)).toArray 33 (0, 0))) ∧
      Hid (wr.heap[w.heap.size]? = some (.cells (List.replicate 32 (Value.int .u8 0)).toArray 30 (0, 0))) ∧ Hid (Below w.heap.size w wr)) (fun v19 _ => 32 - (intOf v19).toNat)
  case atStart =>
    refine ⟨0, by omega, rfl, ?_, ?_, ?_, ?_⟩
    · show _ = _; rw [sbK_zero]; exact heap3_2 w _ _ _
    · show _ = _; rw [HL.out]; exact heap3_1 w _ _ _
    · exact heap3_0 w _ _ _
    · exact (((Below.refl _ _).alloc (Nat.le_refl _) _).alloc (by simp) _).alloc (by simp; omega) _
  case round =>
    obtain ⟨k, hk, rfl, HG, HW, HRES, HBW⟩ := hrel
    by_cases hlt : k < 32
    · have cw : wr.cell? ⟨w.heap.size + 1, k / 4, none⟩ = some (.int .u32 (l.getD (k / 4) 0)) := by
        rw [cell_of_row wr _ (k / 4) _ _ _ HW.out]
        have h8 : k / 4 < l.length := by rw [HL.out]; show _ < 8; omega
        simp [List.getD_eq_getElem?_getD, h8]
      have c0 := sb_cell HG.out hk k hlt
      have f0 := frozen_of_row wr (w.heap.size + 1 + 1) k _ _ HG.out
      go_wp2
      rw [sb_eq']
      refine ⟨⟨k + 1, by omega, by go_num, ?_, ?_, ?_, ?_⟩, by simp [intOf]; omega⟩
      · have h := set_u8 (x := sb l k) (i := k) HG.out
        rw [sbK_step l k hlt] at h
        exact h
      · show _ = _; rw [heap_setCell_other _ _ _ _ (by simp)]; exact HW.out
      · show _ = _; rw [heap_setCell_other _ _ _ _ (by simp; omega)]; exact HRES.out
      · exact HBW.out.setCell (by simp; omega) _
    · have E : k = 32 := by omega
      have hge : 32 ≤ k := by omega
      obtain ⟨A, HA1, HA2, HA3⟩ : ∃ A : Array Value, Hid (A = ((sbK l 32).map (Value.int .u8)).toArray) ∧ Hid (A.size = 32) ∧ Hid (A.all (·.oneCell') = true) :=
        ⟨_, rfl, by show _ = _; simp [sbK_len l 32 (by omega)], all_oneCell_toArray (bytes_one _)⟩
      have HG8 : Hid (wr.heap[w.heap.size + 1 + 1]? = some (.cells A 30 (0, 0))) := by
        have h := HG.out
        rw [E, ← HA1.out] at h
        exact h
      clear E hlt HG
      go_wp2_with (first
        | ((with_reducible refine row_load _ _ _ _ _ _ _ ?_ HG8.out Tryd.underlying30 ?_ (row_size Tryd.sizeSum HA2) ?_); (exact rfl); (exact rfl))
        | ((with_reducible refine row_store _ _ _ _ _ _ _ ?_ ?_ HRES.out (row_size Tryd.sizeSum HA2) ?_ HA3.out ?_); (exact rfl); (exact rfl); (rw [HA2.out]; rfl); intro w6 G6 ch6))
      refine bodyPost_ret (results_cell_row rfl _ _ w.heap.size 30 A (0, 0) _ rfl G6.out Tryd.underlying30 rfl (row_size Tryd.sizeSum HA2)) rfl ⟨?_, ch6.below HBW.out (Nat.le_refl _)⟩
      rw [HA1.out]

theorem BytesAt.below {w w' : World} {g B : Nat} {p : Option Addr} {l : List Int} (h : BytesAt w g p l) (hb : Below B w w') (hB : w.heap.size ≤ B) : BytesAt w' g p l :=
  ⟨h.1, fun h0 => by
    obtain ⟨ab, ao, h1, h2, h3⟩ := h.2 h0
    refine ⟨ab, ao, h1, h2, fun j hj => ?_⟩
    have h4 := World.block_lt_of_cell? w _ (h3 j hj)
    rw [hb.cell (p := ⟨ab, ao + j, none⟩) (Nat.lt_of_lt_of_le h4 hB)]
    exact h3 j hj⟩
theorem Holds.below {w w' : World} {g B : Nat} {L : List Int} (h : Holds w g L) (hb : Below B w w') (hB : w.heap.size ≤ B) : Holds w' g L := by
  obtain ⟨R, h1, h2⟩ := h
  refine ⟨R, h1, ?_⟩
  unfold HBlk at h2 ⊢
  rw [hb.block _ (Nat.lt_of_lt_of_le (lt_of_block h2) hB)]
  exact h2
theorem of_mid {w w1 w2 : World} {b : List Int} {X : Obj} (hP : Holds w1 (w.heap.size + 1) [] ∧ Below w.heap.size w w1 ∧ w1.heap[w.heap.size]? = some X ∧ w1.heap.size = w.heap.size + 2 ∧ Tab w1 0) (ht : Tab w 0)
    (HH : Holds w2 (w.heap.size + 1) ([] ++ b)) (HO : Only (w.heap.size + 1) w1 w2) : Holds w2 (w.heap.size + 1) b ∧ Below w.heap.size w w2 ∧ w2.heap[w.heap.size]? = some X ∧ Tab w2 0 := by
  have hb : Below w.heap.size w w2 := HO.below hP.2.1 (by omega) (by have := hP.2.2.2.1; omega)
  refine ⟨by simpa using HH, hb, ?_, ht.below hb ht.lt⟩
  rw [HO.block _ (by have := hP.2.2.2.1; omega) (by omega)]
  exact hP.2.2.1
theorem of_last {w w2 w3 : World} {X : Obj} (hb : Below w.heap.size w w2) (h : w2.heap[w.heap.size]? = some X) (hb3 : Below w2.heap.size w2 w3) : Below w.heap.size w w3 ∧ w3.heap[w.heap.size]? = some X :=
  ⟨hb.trans (hb3.mono hb.size), by rw [hb3.block _ (lt_of_block h)]; exact h⟩
theorem dg_len (L : List Int) : (Sha.dg L).length = 32 := by unfold Sha.dg; exact Sha.dgK_len _ 8 (by omega)

set_option maxRecDepth 100000 in
set_option maxHeartbeats 1000000 in
theorem of_any' (hT : TakeSaid) (b : List Int) (p : Option Addr) (cap : Nat) (w : World) (hb : ∀ g, w.heap.size ≤ g → BytesAt w g p b) (hc : b.length ≤ cap) (hcm : cap ≤ 9223372036854775807) (hbl : b.length ≤ 1152921504606846000) (ht : Tab w 0) :
    Calls Tryd.prog 9 #[.slice p b.length cap] w (SumSay b w) := by
  have HT := Lib.hid hT; clear hT
  have Ht := Lib.hid ht; clear ht
  have Hb := Lib.hid hb; clear hb
  go_enter Tryd.func9, Tryd.ntmps9
  go_wp2_with (fail)
  refine (new_any _).mono ?_
  rintro e w1 ⟨rfl, hh1, hb1, hs1⟩
  have P1 : Hid (Holds w1 (w.heap.size + 1) [] ∧ Below w.heap.size w w1 ∧ w1.heap[w.heap.size]? = some (.cells (List.replicate 32 (Value.int .u8 0)).toArray 30 (0, 0)) ∧ w1.heap.size = w.heap.size + 2 ∧ Tab w1 0) := by
    have hbw : Below w.heap.size w w1 := ((Below.refl _ w).alloc (Nat.le_refl _) _).trans (hb1.mono (by simp))
    refine ⟨by simpa using hh1, hbw, ?_, by simpa using hs1, Ht.out.below hbw Ht.out.lt⟩
    rw [hb1.block _ (by simp)]
    exact heap_alloc_new w _
  clear hh1 hb1 hs1
  have Hc := Lib.hid (And.intro hc (And.intro hcm hbl))
  have PB : Hid (BytesAt w1 (w.heap.size + 1) p b) := (Hb.out (w.heap.size + 1) (by omega)).below P1.out.2.1 (Nat.le_refl _)
  have PN : Hid (w.heap.size + 1 ≠ 0) := by have := Ht.out.lt; show _ ≠ _; omega
  obtain ⟨A, HA1, HA2, HA3⟩ : ∃ A : Array Value, Hid (A = ((Sha.dg b).map (Value.int .u8)).toArray) ∧ Hid (A.size = 32) ∧ Hid (A.all (·.oneCell') = true) :=
    ⟨_, rfl, by show _ = _; simp [dg_len], all_oneCell_toArray (bytes_one _)⟩
  go_wp2_with (first
    | (go_at_call 6; refine (add_any HT.out (w.heap.size + 1) [] b _ _ _ P1.out.1 PB.out Hc.out.1 ?_ ?_ P1.out.2.2.2.2 PN.out).mono ?_; (have := Hc.out; omega); (have := Hc.out; simp; omega); rintro e w2 ⟨rfl, HH, HO⟩; have P2 := Lib.hid (of_mid P1.out Ht.out HH HO); clear HH HO)
    | (go_at_call 11; refine (sum_any HT.out (w.heap.size + 1) b _ P2.out.1 ?_ P2.out.2.2.2).mono ?_; (have := Hc.out; omega); rintro e w3 ⟨rfl, hb3⟩; have P3 := Lib.hid (of_last P2.out.2.1 P2.out.2.2.1 hb3); clear hb3; rw [← HA1.out])
    | ((with_reducible refine row_store _ _ _ _ _ _ _ ?_ ?_ P3.out.2 (row_size Tryd.sizeSum HA2) ?_ HA3.out ?_); (exact rfl); (exact rfl); (rw [HA2.out]; rfl); intro w6 G6 ch6))
  refine bodyPost_ret (results_cell_row rfl _ _ w.heap.size 30 A (0, 0) _ rfl G6.out Tryd.underlying30 rfl (row_size Tryd.sizeSum HA2)) rfl ⟨?_, ch6.below P3.out.1 (Nat.le_refl _)⟩
  rw [HA1.out]

theorem of_any (hT : TakeSaid) (b : List Int) (p : Option Addr) (cap : Nat) (w : World) (hb : ∀ g, w.heap.size ≤ g → BytesAt w g p b) (hc : b.length ≤ cap) (hcm : cap ≤ 1152921504606846000) (ht : Tab w 0) :
    Calls Tryd.prog 9 #[.slice p b.length cap] w (SumSay b w) := of_any' hT b p cap w hb hc (by omega) (by omega) ht

theorem of_any'' (hT : TakeSaid) (b : List Int) (p : Option Addr) (n cap : Nat) (hn : b.length = n) (w : World) (hb : ∀ g, w.heap.size ≤ g → BytesAt w g p b) (hc : n ≤ cap) (hcm : cap ≤ 9223372036854775807) (hbl : n ≤ 1152921504606846000) (ht : Tab w 0) :
    Calls Tryd.prog 9 #[.slice p n cap] w (SumSay b w) := by
  subst hn
  exact of_any' hT b p cap w hb hc hcm hbl ht

end Go.Proofs.YtjidkkehhglahaaDoor

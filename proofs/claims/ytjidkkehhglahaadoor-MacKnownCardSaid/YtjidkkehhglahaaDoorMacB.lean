/-
  Contracts: mac.keyBlock, mac.digest, mac.Of.
-/
import Derived.Test.YtjidkkehhglahaaDoorMacA
namespace Go.Proofs.YtjidkkehhglahaaDoor
open Go.RowKit

/-- A key's block. -/
def kb (K : List Int) : List Int := (if 64 < K.length then Sha.dg K else K) ++ List.replicate (64 - (if 64 < K.length then Sha.dg K else K).length) 0
def k64 (K : List Int) : List Int := K ++ List.replicate (64 - K.length) 0
theorem kb_short (K : List Int) (h : K.length ≤ 64) : kb K = k64 K := by
  unfold kb k64
  rw [if_neg (by omega)]
theorem kb_long (K : List Int) (h : 64 < K.length) : kb K = k64 (Sha.dg K) := by
  unfold kb k64
  rw [if_pos h]
theorem k64_len (K : List Int) (h : K.length ≤ 64) : (k64 K).length = 64 := by simp [k64]; omega
theorem kb_len (K : List Int) : (kb K).length = 64 := by
  by_cases h : 64 < K.length
  · rw [kb_long K h]; exact k64_len _ (by rw [dg_len]; omega)
  · rw [kb_short K (by omega)]; exact k64_len _ (by omega)
theorem k64_splice (K : List Int) : splice (List.replicate 64 (Value.int .u8 0)) 0 (K.map (Value.int .u8)) = (k64 K).map (Value.int .u8) := by
  unfold splice k64
  rw [List.take_zero, List.nil_append, List.drop_replicate, List.map_append, List.map_replicate]
  simp only [List.length_map, Nat.zero_add]
/-- The sum under a key. -/
def hm (K b : List Int) : List Int := Sha.dg (xl 92 (kb K) ++ Sha.dg (xl 54 (kb K) ++ b))
theorem hm_len (K b : List Int) : (hm K b).length = 32 := dg_len _
theorem dg_byt (L : List Int) : Sha.Byt (Sha.dg L) := by
  intro x hx
  rw [← tx_dg] at hx
  unfold sbK at hx
  simp only [List.mem_append, List.mem_map, List.mem_range, List.mem_replicate] at hx
  rcases hx with ⟨i, _, rfl⟩ | ⟨_, rfl⟩
  · rw [sb_eq]; omega
  · omega
attribute [irreducible] hm kb k64

/-- copy of bytes that came in, into a block that is known whole. -/
theorem copy_bat {ops : Array Oper} {rest : List Oper} {a : Act} {w : World} {Q : Exit → Act → World → Prop} {D : Option Tmp} {T : TypeId} {ps : String} {af : Array Edge}
    (d s : Operand) (g dLen dCap : Nat) (p : Option Addr) (sLen sCap : Nat) (t : TypeId) (cur : List Value) (L : List Int)
    (hd : a.eval d = .slice (some ⟨g, 0, none⟩) dLen dCap) (hs : a.eval s = .slice p sLen sCap) (hn : L.length = sLen) (hg : w.heap[g]? = some (.cells cur.toArray t (0, 0)))
    (hb : BAt w p L) (hle : L.length ≤ dLen) (hfit : L.length ≤ cur.length)
    (h : ∀ w', Hid (w'.heap[g]? = some (.cells (splice cur 0 (L.map (Value.int .u8))).toArray t (0, 0))) → Chg g w w' → ∀ z, wpList Tryd.prog ops Q rest (a.put D z) w') :
    wpList Tryd.prog ops Q ({ dst := D, op := .call { callee := .builtin .copy, args := #[d, s], argTypes := #[25, 25] }, type := T, pos := ps, after := af, guard := none } :: rest) a w := by
  subst hn
  by_cases h0 : 0 < L.length
  · obtain ⟨ab, ao, rfl, hc⟩ := hb.2 h0
    refine row_copy d s 25 25 5 g 0 dLen dCap ⟨ab, ao, none⟩ L.length sCap t cur (L.map (Value.int .u8)) hd hs hg Tryd.underlying25 (by kernel_rfl) ?_ ?_ ?_ (bytes_one _) ?_
    · simp only [List.length_map]; exact (Nat.min_eq_left hle).symm
    · intro j v hj
      have hjl : j < L.length := by have := (List.getElem?_eq_some_iff.1 hj).1; simpa using this
      rw [Addr.add_mid, hc j hjl]
      rw [List.getElem?_map, List.getElem?_eq_getElem hjl] at hj
      rw [List.getD_eq_getElem?_getD, List.getElem?_eq_getElem hjl]
      simpa using hj
    · simpa using hfit
    · exact fun w' h1 h2 => h w' h1 h2 _
  · obtain rfl : L = [] := List.eq_nil_of_length_eq_zero (by omega)
    refine wpList_copy_nothing rfl d s 25 25 rfl 5 Tryd.underlying25 (by kernel_rfl) (some ⟨g, 0, none⟩) p dLen dCap 0 sCap hd hs (Nat.zero_min _) ?_
    exact h w (by show _ = _; rw [hg]; simp [splice]) (Chg.refl g w) _

set_option maxHeartbeats 1000000 in
set_option maxRecDepth 100000 in
theorem keyblock_short (K : List Int) (hk : K.length ≤ 64) (p : Option Addr) (cap : Nat) (w : World) (hp : BAt w p K) :
    Calls Tryd.prog 33 #[.slice p K.length cap] w (RowSay (k64 K) w) := by
  have Hp := Lib.hid hp; clear hp
  have HS := Lib.hid (k64_splice K)
  obtain ⟨A, HA1, HA2, HA3⟩ : ∃ A : Array Value, Hid (A = ((k64 K).map (Value.int .u8)).toArray) ∧ Hid (A.size = 64) ∧ Hid (A.all (·.oneCell') = true) :=
    ⟨_, rfl, by show _ = _; simp [k64_len K hk], all_oneCell_toArray (bytes_one _)⟩
  go_enter Tryd.func33, Tryd.ntmps33
  go_upto_region 6 with ((with_reducible refine copy_bat _ _ (w.heap.size + 1) 64 64 p K.length cap 46 (List.replicate 64 (Value.int .u8 0)) K ?_ ?_ ?_ ?_ ?_ ?_ ?_ ?_); (exact rfl); (exact rfl); (exact rfl); (exact heap_alloc2_new w _ _); (exact Hp.out.old (((Below.refl _ w).alloc (Nat.le_refl _) _).alloc (by simp) _)); omega; (simp; omega); intro w5 G5 C5 z)
  have HG8 : Hid (w5.heap[w.heap.size + 1]? = some (.cells A 46 (0, 0))) := by
    have h := G5.out
    rw [HS.out, ← HA1.out] at h
    exact h
  have RES : Hid (w5.heap[w.heap.size]? = some (.cells (List.replicate 64 (Value.int .u8 0)).toArray 46 (0, 0))) := by
    show _ = _
    rw [C5.block _ (by omega)]
    exact heap_alloc2_old w _ _
  have HB : Hid (Below w.heap.size w w5) := C5.below (((Below.refl _ w).alloc (Nat.le_refl _) _).alloc (by simp) _) (by omega)
  clear G5 C5
  go_wp2_with (first
    | ((with_reducible refine row_load _ _ _ _ _ _ _ ?_ HG8.out Tryd.underlying46 ?_ (row_size Tryd.size64 HA2) ?_); (exact rfl); (exact rfl))
    | ((with_reducible refine row_store _ _ _ _ _ _ _ ?_ ?_ RES.out (row_size Tryd.size64 HA2) ?_ HA3.out ?_); (exact rfl); (exact rfl); (rw [HA2.out]; rfl); intro w6 G6 ch6))
  refine bodyPost_ret (results_cell_row rfl _ _ w.heap.size 46 A (0, 0) _ rfl G6.out Tryd.underlying46 rfl (row_size Tryd.size64 HA2)) rfl ⟨?_, ch6.below HB.out (Nat.le_refl _)⟩
  rw [HA1.out]

set_option maxHeartbeats 1000000 in
set_option maxRecDepth 100000 in
theorem keyblock_long (hT : TakeSaid) (K : List Int) (hk : 64 < K.length) (p : Option Addr) (cap : Nat) (w : World) (hp : BAt w p K) (hc : K.length ≤ cap) (hcm : cap ≤ 9223372036854775807) (hl : K.length ≤ 1000000000) (ht : Tab w 0) :
    Calls Tryd.prog 33 #[.slice p K.length cap] w (RowSay (k64 (Sha.dg K)) w) := by
  have HT := Lib.hid hT; clear hT
  have Ht := Lib.hid ht; clear ht
  have Hp := Lib.hid hp; clear hp
  have HD := dg_len K
  have hDB := dg_byt K
  have HS := Lib.hid (k64_splice (Sha.dg K))
  obtain ⟨A, HA1, HA2, HA3⟩ : ∃ A : Array Value, Hid (A = ((k64 (Sha.dg K)).map (Value.int .u8)).toArray) ∧ Hid (A.size = 64) ∧ Hid (A.all (·.oneCell') = true) :=
    ⟨_, rfl, by show _ = _; simp [k64_len (Sha.dg K) (by omega)], all_oneCell_toArray (bytes_one _)⟩
  have HOF := Lib.hid (fun w' hb h1 => of_any' HT.out K p cap w' hb hc hcm (by omega) h1)
  have H32 : Hid (((Sha.dg K).map (Value.int .u8)).toArray.size = 32) := by show _ = _; simp [HD]
  have HONE : Hid (((Sha.dg K).map (Value.int .u8)).toArray.all (·.oneCell') = true) := all_oneCell_toArray (bytes_one _)
  go_enter Tryd.func33, Tryd.ntmps33
  go_upto_region 3 with (first
    | (go_at_call 9; refine (HOF.out _ (fun g hg => (Hp.out.old ((Below.refl _ w).alloc (Nat.le_refl _) _)).bytes g hg) (Ht.out.below ((Below.refl _ w).alloc (Nat.le_refl _) _) Ht.out.lt)).mono ?_; rintro e w1 ⟨rfl, hb1⟩; have HB1 := Lib.hid hb1; clear hb1)
    | ((with_reducible refine row_store _ _ _ _ _ _ _ ?_ ?_ (heap_alloc_new _ _) (row_size Tryd.sizeSum H32) ?_ HONE.out ?_); (exact rfl); (exact rfl); (rw [H32.out]; rfl); intro w2 g2 ch2))
  have BW1 : Hid (Below w.heap.size w w1) := ((Below.refl _ w).alloc (Nat.le_refl _) _).trans (HB1.out.mono (by simp))
  have hs1 : w.heap.size < w1.heap.size := by have := HB1.out.size; simp at this; omega
  have RES1 : Hid (w1.heap[w.heap.size]? = some (.cells (List.replicate 64 (Value.int .u8 0)).toArray 46 (0, 0))) := by
    show _ = _
    rw [HB1.out.block _ (by simp)]
    exact heap_alloc_new w _
  have BW2 : Hid (Below w.heap.size w w2) := ch2.below (BW1.out.alloc (by omega) _) (by omega)
  have RES2 : Hid (w2.heap[w.heap.size]? = some (.cells (List.replicate 64 (Value.int .u8 0)).toArray 46 (0, 0))) := by
    show _ = _
    rw [ch2.block _ (by omega), heap_alloc_old _ _ hs1]
    exact RES1.out
  have hs2 : w1.heap.size < w2.heap.size := by rw [ch2.size]; simp
  have BD : Hid (BAt w2 (some ⟨w1.heap.size, 0, none⟩) (Sha.dg K)) := bat_row g2.out hDB
  clear BW1 RES1 ch2 g2 HB1 HOF
  generalize w1.heap.size = G1 at *
  go_upto_region 6 with ((with_reducible refine copy_bat _ _ w2.heap.size 64 64 (some ⟨G1, 0, none⟩) 32 32 46 (List.replicate 64 (Value.int .u8 0)) (Sha.dg K) ?_ ?_ ?_ ?_ ?_ ?_ ?_ ?_); (exact rfl); (exact rfl); (exact HD); (exact heap_alloc_new w2 _); (exact BD.out.old ((Below.refl _ w2).alloc (Nat.le_refl _) _)); omega; (simp; omega); intro w5 G5 C5 z)
  have HG8 : Hid (w5.heap[w2.heap.size]? = some (.cells A 46 (0, 0))) := by
    have h := G5.out
    rw [HS.out, ← HA1.out] at h
    exact h
  have RES : Hid (w5.heap[w.heap.size]? = some (.cells (List.replicate 64 (Value.int .u8 0)).toArray 46 (0, 0))) := by
    show _ = _
    rw [C5.block _ (by omega), heap_alloc_old _ _ (by omega)]
    exact RES2.out
  have HB : Hid (Below w.heap.size w w5) := C5.below (BW2.out.alloc (by omega) _) (by omega)
  clear G5 C5
  go_wp2_with (first
    | ((with_reducible refine row_load _ _ _ _ _ _ _ ?_ HG8.out Tryd.underlying46 ?_ (row_size Tryd.size64 HA2) ?_); (exact rfl); (exact rfl))
    | ((with_reducible refine row_store _ _ _ _ _ _ _ ?_ ?_ RES.out (row_size Tryd.size64 HA2) ?_ HA3.out ?_); (exact rfl); (exact rfl); (rw [HA2.out]; rfl); intro w6 G6 ch6))
  refine bodyPost_ret (results_cell_row rfl _ _ w.heap.size 46 A (0, 0) _ rfl G6.out Tryd.underlying46 rfl (row_size Tryd.size64 HA2)) rfl ⟨?_, ch6.below HB.out (Nat.le_refl _)⟩
  rw [HA1.out]

theorem keyblock_any (hT : TakeSaid) (K : List Int) (p : Option Addr) (cap : Nat) (w : World) (hp : BAt w p K) (hc : K.length ≤ cap) (hcm : cap ≤ 9223372036854775807) (hl : K.length ≤ 1000000000) (ht : Tab w 0) :
    Calls Tryd.prog 33 #[.slice p K.length cap] w (RowSay (kb K) w) := by
  by_cases h : 64 < K.length
  · rw [kb_long K h]; exact keyblock_long hT K h p cap w hp hc hcm hl ht
  · rw [kb_short K (by omega)]; exact keyblock_short K (by omega) p cap w hp

end Go.Proofs.YtjidkkehhglahaaDoor

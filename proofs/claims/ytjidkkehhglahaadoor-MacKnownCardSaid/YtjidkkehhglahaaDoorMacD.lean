/-
  Contract: mac.Of.
-/
import Derived.Test.YtjidkkehhglahaaDoorMacC
namespace Go.Proofs.YtjidkkehhglahaaDoor
open Go.RowKit

theorem hm_eq (K b : List Int) : hm K b = Sha.dg (xl 92 (kb K) ++ Sha.dg (xl 54 (kb K) ++ b)) := by unfold hm; rfl
def HmSay (K b : List Int) (w : World) (e : Ending) (w' : World) : Prop := e = .returned (.agg ((hm K b).map (Value.int .u8)).toArray) ∧ Below w.heap.size w w'

theorem row_range' {w : World} {g : Nat} {A : Array Value} {t : TypeId} {fr : Nat × Nat} (h : w.heap[g]? = some (.cells A t fr)) : w.rangeAt g 0 A.toList := fun j v hv => by
  rw [cell_of_row w g (0 + j) _ _ _ h, Nat.zero_add]
  simpa using hv

set_option maxHeartbeats 2000000 in
set_option maxRecDepth 100000 in
theorem mac_of_any (hT : TakeSaid) (K b : List Int) (p q : Option Addr) (n m c d : Nat) (hn : K.length = n) (hm' : b.length = m) (w : World) (hp : BAt w p K) (hq : BAt w q b) (hc : n ≤ c) (hcm : c ≤ 9223372036854775807) (hd : m ≤ d) (hdm : d ≤ 9223372036854775807) (hkl : K.length ≤ 1000000000) (hbl : b.length ≤ 1000000000) (ht : Tab w 0) :
    Calls Tryd.prog 19 #[.slice p n c, .slice q m d] w (HmSay K b w) := by
  subst hn
  subst hm'
  have HT := Lib.hid hT; clear hT
  have Ht := Lib.hid ht; clear ht
  have Hp := Lib.hid hp; clear hp
  have Hq := Lib.hid hq; clear hq
  have Hc := Lib.hid (And.intro hc (And.intro hcm (And.intro hd (And.intro hdm (And.intro hkl hbl))))); clear hc hcm hd hdm hkl hbl
  have HK64 := Lib.hid (kb_len K)
  obtain ⟨A, HA1, HA2, HA3⟩ : ∃ A : Array Value, Hid (A = ((hm K b).map (Value.int .u8)).toArray) ∧ Hid (A.size = 32) ∧ Hid (A.all (·.oneCell') = true) :=
    ⟨_, rfl, by show _ = _; simp [hm_len], all_oneCell_toArray (bytes_one _)⟩
  obtain ⟨KB, HKB1, HKB2, HKB3⟩ : ∃ A : Array Value, Hid (A = ((kb K).map (Value.int .u8)).toArray) ∧ Hid (A.size = 64) ∧ Hid (A.all (·.oneCell') = true) :=
    ⟨_, rfl, by show _ = _; simp [kb_len], all_oneCell_toArray (bytes_one _)⟩
  obtain ⟨IN, HIN⟩ : ∃ IN, Hid (IN = Sha.dg (xl 54 (kb K) ++ b)) := ⟨_, rfl⟩
  have HIN32 : Hid (IN.length = 32) := by rw [HIN.out]; exact dg_len _
  have HINB : Hid (Sha.Byt IN) := by rw [HIN.out]; exact dg_byt _
  obtain ⟨IA, HIA1, HIA2, HIA3⟩ : ∃ A : Array Value, Hid (A = (IN.map (Value.int .u8)).toArray) ∧ Hid (A.size = 32) ∧ Hid (A.all (·.oneCell') = true) :=
    ⟨_, rfl, by show _ = _; simp [HIN32.out], all_oneCell_toArray (bytes_one _)⟩
  have HHM : Hid (hm K b = Sha.dg (xl 92 (kb K) ++ IN)) := by show _ = _; rw [hm_eq, HIN.out]
  go_enter Tryd.func19, Tryd.ntmps19
  go_upto_region 2 with (first
    | (go_at_call 33; refine (keyblock_any HT.out K p _ _ (Hp.out.old ((Below.refl _ w).alloc (Nat.le_refl _) _)) (by have := Hc.out; omega) (by have := Hc.out; omega) (by have := Hc.out; omega) (Ht.out.below ((Below.refl _ w).alloc (Nat.le_refl _) _) Ht.out.lt)).mono ?_; rintro e w1 ⟨rfl, hb1⟩; have HB1 := Lib.hid hb1; clear hb1; rw [← HKB1.out])
    | ((with_reducible refine row_store _ _ _ _ _ _ _ ?_ ?_ (heap_alloc_new _ _) (row_size Tryd.size64 HKB2) ?_ HKB3.out ?_); (exact rfl); (exact rfl); (rw [HKB2.out]; rfl); intro w2 g2 ch2))
  have BW1 : Hid (Below w.heap.size w w1) := ((Below.refl _ w).alloc (Nat.le_refl _) _).trans (HB1.out.mono (by simp))
  have hs1 : w.heap.size < w1.heap.size := by have := HB1.out.size; simp at this; omega
  have RES1 : w1.heap[w.heap.size]? = some (.cells (List.replicate 32 (Value.int .u8 0)).toArray 30 (0, 0)) := by
    rw [HB1.out.block _ (by simp)]
    exact heap_alloc_new w _
  have BW2 : Hid (Below w.heap.size w w2) := ch2.below (BW1.out.alloc (by omega) _) (by omega)
  have RES2 : Hid (w2.heap[w.heap.size]? = some (.cells (List.replicate 32 (Value.int .u8 0)).toArray 30 (0, 0))) := by
    show _ = _
    rw [ch2.block _ (by omega), heap_alloc_old _ _ hs1]
    exact RES1
  have hs2 : w1.heap.size < w2.heap.size := by rw [ch2.size]; simp
  clear BW1 RES1 ch2 HB1
  generalize w1.heap.size = G1 at *
  go_upto_region 3 with (first
    | ((with_reducible refine row_load _ _ _ _ _ _ _ ?_ g2.out Tryd.underlying46 ?_ (row_size Tryd.size64 HKB2) ?_); (exact rfl); (exact rfl); rw [HKB1.out])
    | (go_at_call 35; refine (xored_any 54 (kb K) HK64.out _).mono ?_; rintro e w3 ⟨rfl, hb3⟩; have BW3 : Hid (Below w.heap.size w w3) := BW2.out.trans (hb3.mono BW2.out.size); have B23 := Lib.hid hb3; clear hb3)
    | (go_at_call 34; refine (digest_any HT.out (xl 54 (kb K)) b (by rw [xl_len, HK64.out]) (xl_byt _ _) q b.length _ rfl _ (Hq.out.old BW3.out) (by have := Hc.out; omega) (by have := Hc.out; omega) (by have := Hc.out; omega) (Ht.out.below BW3.out Ht.out.lt)).mono ?_; rintro e w4 ⟨rfl, hb4⟩; rw [← HIN.out, ← HIA1.out]; have BW4 : Hid (Below w.heap.size w w4) := BW3.out.trans (hb4.mono BW3.out.size); have B24 : Hid (Below w2.heap.size w2 w4) := B23.out.trans (hb4.mono B23.out.size); clear hb4)
    | ((with_reducible refine row_store _ _ _ _ _ _ _ ?_ ?_ (heap_alloc_new _ _) (row_size Tryd.sizeSum HIA2) ?_ HIA3.out ?_); (exact rfl); (exact rfl); (rw [HIA2.out]; rfl); intro w5 g5 ch5))
  have hs4 : w2.heap.size ≤ w4.heap.size := B24.out.size
  have BW5 : Hid (Below w.heap.size w w5) := ch5.below (BW4.out.alloc (by omega) _) (by omega)
  have old5 : ∀ k, k < w2.heap.size → w5.heap[k]? = w2.heap[k]? := fun k hk => by
    rw [ch5.block _ (by omega), heap_alloc_old _ _ (by omega), B24.out.block _ hk]
  have RES5 : Hid (w5.heap[w.heap.size]? = some (.cells (List.replicate 32 (Value.int .u8 0)).toArray 30 (0, 0))) := by
    show _ = _; rw [old5 _ (by omega)]; exact RES2.out
  have K5 : Hid (w5.heap[G1]? = some (.cells KB 46 (0, 0))) := by
    show _ = _; rw [old5 _ (by omega)]; exact g2.out
  have I5 : Hid (BAt w5 (some ⟨w4.heap.size, 0, none⟩) IN) := by
    have h := g5.out
    rw [HIA1.out] at h
    exact bat_row h HINB.out
  clear old5 RES2 g2 g5 ch5 B23 B24 BW2 BW3 BW4
  generalize w4.heap.size = G4 at *
  refine wp_region_any (by kernel_rfl) ?_
  change wpAny _ _ _ _ _ _ _ (World.drew _)
  replace BW5 : Hid (Below w.heap.size w w5.drew) := BW5.out.drew
  replace RES5 : Hid (w5.drew.heap[w.heap.size]? = some (.cells (List.replicate 32 (Value.int .u8 0)).toArray 30 (0, 0))) := RES5.out
  replace K5 : Hid (w5.drew.heap[G1]? = some (.cells KB 46 (0, 0))) := K5.out
  replace I5 : Hid (BAt w5.drew (some ⟨G4, 0, none⟩) IN) := I5.out
  generalize w5.drew = w6 at *
  refine any_take_g 2 15 ?_ rfl (by kernel_rfl) (by kernel_rfl) (by kernel_rfl) (fun _ _ _ h => h) (by rfl) ?_ ?_
  rotate_left
  · (intro w; go_simp; try (with_reducible rfl))
  try simp only [Act.put, List.setIfInBounds_toArray, List.set_cons_zero, List.set_cons_succ]
  refine any_one 0 (by kernel_rfl) ?_
  refine op_load 0 46 (.tmp 5) rfl G1 0 KB.toList _ rfl (row_range' K5.out) Tryd.underlying46 rfl (by rw [Array.length_toList]; exact row_size Tryd.size64 HKB2) ?_
  try simp only [Act.put, List.setIfInBounds_toArray, List.set_cons_zero, List.set_cons_succ]
  rw [Array.toArray_toList, HKB1.out]
  refine any_one 1 (by kernel_rfl) ?_
  refine wpOp_step rfl (fun Kc hKc => ?_)
  go_simp
  refine (xored_any 92 (kb K) HK64.out _).mono ?_
  rintro e w7 ⟨rfl, hb7⟩
  have BW7 : Hid (Below w.heap.size w w7) := BW5.out.trans (hb7.mono BW5.out.size)
  have I7 : Hid (BAt w7 (some ⟨G4, 0, none⟩) IN) := I5.out.old hb7
  have RES7 : Hid (w7.heap[w.heap.size]? = some (.cells (List.replicate 32 (Value.int .u8 0)).toArray 30 (0, 0))) := (hb7.block _ (lt_of_block RES5.out)).trans RES5.out
  clear hb7
  dsimp only
  refine hKc _ _ ?_
  clear hKc Kc
  try simp only [Act.put, List.setIfInBounds_toArray, List.set_cons_zero, List.set_cons_succ]
  refine any_one 3 (by kernel_rfl) ?_
  refine wpOp_step rfl (fun Kc hKc => ?_)
  go_simp
  refine (digest_any HT.out (xl 92 (kb K)) IN (by rw [xl_len, HK64.out]) (xl_byt _ _) (some ⟨G4, 0, none⟩) 32 32 HIN32.out _ I7.out (by omega) (by omega) (by have := HIN32.out; omega) (Ht.out.below BW7.out Ht.out.lt)).mono ?_
  rintro e w8 ⟨rfl, hb8⟩
  rw [← HHM.out, ← HA1.out]
  have BW8 : Hid (Below w.heap.size w w8) := BW7.out.trans (hb8.mono BW7.out.size)
  have RES8 : Hid (w8.heap[w.heap.size]? = some (.cells (List.replicate 32 (Value.int .u8 0)).toArray 30 (0, 0))) := (hb8.block _ (lt_of_block RES7.out)).trans RES7.out
  clear hb8
  dsimp only
  refine hKc _ _ ?_
  clear hKc Kc
  try simp only [Act.put, List.setIfInBounds_toArray, List.set_cons_zero, List.set_cons_succ]
  refine any_one 4 (by kernel_rfl) ?_
  refine op_store 4 30 (.tmp 4) (.tmp 16) rfl w.heap.size 0 30 (List.replicate 32 (Value.int .u8 0)) A rfl rfl RES8.out (row_size Tryd.sizeSum HA2) (by rw [HA2.out]; simp) HA3.out ?_
  intro w9 g9 ch9
  try simp only [Act.put, List.setIfInBounds_toArray, List.set_cons_zero, List.set_cons_succ]
  refine wpAny_done (by kernel_rfl) ?_ _
  have G9 : Hid (w9.heap[w.heap.size]? = some (.cells A 30 (0, 0))) := by
    have h := g9.out
    have e : splice (List.replicate 32 (Value.int .u8 0)) 0 A.toList = A.toList := by
      unfold splice
      rw [List.take_zero, List.nil_append, Array.length_toList, HA2.out, List.drop_of_length_le (by simp), List.append_nil]
    rw [e, Array.toArray_toList] at h
    exact h
  clear g9
  go_wp2
  refine bodyPost_ret (results_cell_row rfl _ _ w.heap.size 30 A (0, 0) _ rfl G9.out Tryd.underlying30 rfl (row_size Tryd.sizeSum HA2)) rfl ⟨?_, ch9.below BW8.out (Nat.le_refl _)⟩
  rw [HA1.out]

end Go.Proofs.YtjidkkehhglahaaDoor

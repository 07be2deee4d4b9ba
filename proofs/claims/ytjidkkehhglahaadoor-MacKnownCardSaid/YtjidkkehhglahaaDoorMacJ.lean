/-
  Keys out of keys: mac.Derive, rillref02.Derive, the law MacDerives walked.
-/
import Derived.Test.YtjidkkehhglahaaDoorMacI
import Derived.Laws.IdiomStrings
namespace Go.Proofs.YtjidkkehhglahaaDoor
open Go.RowKit

/-- A text's bytes. -/
def bl (S : ByteArray) : List Int := S.data.toList.map fun b => (b.toNat : Int)
theorem bl_len (S : ByteArray) : (bl S).length = S.size := by
  unfold bl
  rw [List.length_map, Array.length_toList]
  rfl
theorem bl_byt (S : ByteArray) : Sha.Byt (bl S) := fun x hx => by
  unfold bl at hx
  rw [List.mem_map] at hx
  obtain ⟨b, _, rfl⟩ := hx
  have := b.toNat_lt
  omega
theorem conv_bat (w : World) (S : ByteArray) (c : Nat) (t : TypeId) (fr : Nat × Nat) : BAt (w.alloc (.cells (bytesRow S c) t fr)) (some ⟨w.heap.size, 0, none⟩) (bl S) :=
  ⟨bl_byt S, fun _ => ⟨w.heap.size, 0, rfl, fun j hj => by
    have hj' : j < S.data.size := by rw [bl_len] at hj; exact hj
    rw [cell_of_row _ _ (0 + j) _ _ _ (heap_alloc_new w _), Nat.zero_add, bytesRow_at S c j hj']
    congr 2
    unfold bl
    rw [List.getD_eq_getElem?_getD, List.getElem?_map, List.getElem?_eq_getElem (by simpa using hj')]
    simp⟩⟩
attribute [irreducible] bl
theorem cap_ok (w : World) (S : ByteArray) (hS : S.size ≤ 100000) : grownCap w S.size 0 5 ≤ 9223372036854775807 := by
  have h := grownCap_le_maxLen w S.size 0 5 (by unfold maxLen; omega)
  unfold maxLen at h
  omega

set_option maxHeartbeats 1000000 in
set_option maxRecDepth 100000 in
theorem derive_any (hT : TakeSaid) (K : List Int) (S : ByteArray) (p : Option Addr) (n c : Nat) (hn : K.length = n) (hnl : n ≤ 100000) (hS : S.size ≤ 100000) (w : World) (hp : BAt w p K) (hc : n ≤ c) (hcm : c ≤ 9223372036854775807) (ht : Tab w 0) :
    Calls Tryd.prog 20 #[.slice p n c, .string S] w (HmSay K (bl S) w) := by
  subst hn
  have Ht := Lib.hid ht; clear ht
  have Hp := Lib.hid hp; clear hp
  have Hc := Lib.hid (And.intro hc hcm); clear hc hcm
  have kc := fun w => run_bytes_of_string (P := Tryd.prog) w 9 25 5 S Tryd.underlying9 Tryd.underlying25 Tryd.underlying5
  obtain ⟨A, HA1, HA2, HA3⟩ : ∃ A : Array Value, Hid (A = ((hm K (bl S)).map (Value.int .u8)).toArray) ∧ Hid (A.size = 32) ∧ Hid (A.all (·.oneCell') = true) :=
    ⟨_, rfl, by show _ = _; simp [hm_len], all_oneCell_toArray (bytes_one _)⟩
  have HBW : Hid (∀ C, Below w.heap.size w (((w.alloc (.cells (List.replicate 32 (Value.int .u8 0)).toArray 30)).drew).alloc C)) := fun C => (((Below.refl _ w).alloc (Nat.le_refl _) _).drew).alloc (by show _ ≤ (w.alloc _).heap.size; simp) C
  have HSZ : Hid (∀ C, (((w.alloc (.cells (List.replicate 32 (Value.int .u8 0)).toArray 30)).drew).alloc C).heap.size = w.heap.size + 2) := fun C => by show (Array.push _ _).size = _; rw [Array.size_push]; show (w.alloc _).heap.size + 1 = _; simp
  have HRS : Hid (∀ C, (((w.alloc (.cells (List.replicate 32 (Value.int .u8 0)).toArray 30)).drew).alloc C).heap[w.heap.size]? = some (.cells (List.replicate 32 (Value.int .u8 0)).toArray 30 (0, 0))) := fun C => by
    rw [heap_alloc_old _ _ (by show _ < (w.alloc _).heap.size; simp)]
    exact heap_alloc_new w _
  go_enter Tryd.func20, Tryd.ntmps20
  go_wp2_with (first
    | (go_at_call 19; refine (mac_of_any hT K (bl S) p (some ⟨w.heap.size + 1, 0, none⟩) _ _ c _ rfl (bl_len S) _ (Hp.out.old (HBW.out _)) (by have h := conv_bat ((w.alloc (.cells (List.replicate 32 (Value.int .u8 0)).toArray 30)).drew) S; have e : ((w.alloc (.cells (List.replicate 32 (Value.int .u8 0)).toArray 30)).drew).heap.size = w.heap.size + 1 := (by show (w.alloc _).heap.size = _; simp); rw [e] at h; exact h _ _ _) Hc.out.1 Hc.out.2 (grownCap_ge _ _ _ _) (cap_ok _ S hS) (by omega) (by rw [bl_len]; omega) (Ht.out.below (HBW.out _) Ht.out.lt)).mono ?_; rintro e w1 ⟨rfl, hb1⟩; rw [← HA1.out]; have HB1 : Hid (Below w.heap.size w w1) := (HBW.out _).trans (hb1.mono (by rw [HSZ.out]; omega)); have HR1 : Hid (w1.heap[w.heap.size]? = some (.cells (List.replicate 32 (Value.int .u8 0)).toArray 30 (0, 0))) := (hb1.block _ (by rw [HSZ.out]; omega)).trans (HRS.out _); clear hb1)
    | ((with_reducible refine row_store _ _ _ _ _ _ _ ?_ ?_ HR1.out (row_size Tryd.sizeSum HA2) ?_ HA3.out ?_); (exact rfl); (exact rfl); (rw [HA2.out]; rfl); intro w6 G6 ch6))
  refine bodyPost_ret (results_cell_row rfl _ _ w.heap.size 30 A (0, 0) _ rfl G6.out Tryd.underlying30 rfl (row_size Tryd.sizeSum HA2)) rfl ⟨?_, ch6.below HB1.out (Nat.le_refl _)⟩
  rw [HA1.out]

set_option maxHeartbeats 1000000 in
set_option maxRecDepth 100000 in
theorem ref2_derive_any  (K : List Int) (S : ByteArray) (p : Option Addr) (n c : Nat) (hn : K.length = n) (hnl : n ≤ 100000) (hS : S.size ≤ 100000) (w : World) (hp : BAt w p K) (hc : n ≤ c) (hcm : c ≤ 9223372036854775807) (ht : Tab w 1) :
    Calls Tryd.prog 31 #[.slice p n c, .string S] w (HmSay K (bl S) w) := by
  subst hn
  have Ht := Lib.hid ht; clear ht
  have Hp := Lib.hid hp; clear hp
  have Hc := Lib.hid (And.intro hc hcm); clear hc hcm
  have kc := fun w => run_bytes_of_string (P := Tryd.prog) w 9 25 5 S Tryd.underlying9 Tryd.underlying25 Tryd.underlying5
  obtain ⟨A, HA1, HA2, HA3⟩ : ∃ A : Array Value, Hid (A = ((hm K (bl S)).map (Value.int .u8)).toArray) ∧ Hid (A.size = 32) ∧ Hid (A.all (·.oneCell') = true) :=
    ⟨_, rfl, by show _ = _; simp [hm_len], all_oneCell_toArray (bytes_one _)⟩
  have HBW : Hid (∀ C, Below w.heap.size w (((w.alloc (.cells (List.replicate 32 (Value.int .u8 0)).toArray 30)).drew).alloc C)) := fun C => (((Below.refl _ w).alloc (Nat.le_refl _) _).drew).alloc (by show _ ≤ (w.alloc _).heap.size; simp) C
  have HSZ : Hid (∀ C, (((w.alloc (.cells (List.replicate 32 (Value.int .u8 0)).toArray 30)).drew).alloc C).heap.size = w.heap.size + 2) := fun C => by show (Array.push _ _).size = _; rw [Array.size_push]; show (w.alloc _).heap.size + 1 = _; simp
  have HRS : Hid (∀ C, (((w.alloc (.cells (List.replicate 32 (Value.int .u8 0)).toArray 30)).drew).alloc C).heap[w.heap.size]? = some (.cells (List.replicate 32 (Value.int .u8 0)).toArray 30 (0, 0))) := fun C => by
    rw [heap_alloc_old _ _ (by show _ < (w.alloc _).heap.size; simp)]
    exact heap_alloc_new w _
  go_enter Tryd.func31, Tryd.ntmps31
  go_wp2_with (first
    | (go_at_call 29; refine (ref2_of_any K (bl S) p (some ⟨w.heap.size + 1, 0, none⟩) _ _ c _ rfl (bl_len S) (by omega) (by omega) _ (Hp.out.old (HBW.out _)) (by have h := conv_bat ((w.alloc (.cells (List.replicate 32 (Value.int .u8 0)).toArray 30)).drew) S; have e : ((w.alloc (.cells (List.replicate 32 (Value.int .u8 0)).toArray 30)).drew).heap.size = w.heap.size + 1 := (by show (w.alloc _).heap.size = _; simp); rw [e] at h; exact h _ _ _) (Ht.out.below (HBW.out _) Ht.out.lt)).mono ?_; rintro e w1 ⟨rfl, hb1⟩; rw [← HA1.out]; have HB1 : Hid (Below w.heap.size w w1) := (HBW.out _).trans (hb1.mono (by rw [HSZ.out]; omega)); have HR1 : Hid (w1.heap[w.heap.size]? = some (.cells (List.replicate 32 (Value.int .u8 0)).toArray 30 (0, 0))) := (hb1.block _ (by rw [HSZ.out]; omega)).trans (HRS.out _); clear hb1)
    | ((with_reducible refine row_store _ _ _ _ _ _ _ ?_ ?_ HR1.out (row_size Tryd.sizeSum HA2) ?_ HA3.out ?_); (exact rfl); (exact rfl); (rw [HA2.out]; rfl); intro w6 G6 ch6))
  refine bodyPost_ret (results_cell_row rfl _ _ w.heap.size 30 A (0, 0) _ rfl G6.out Tryd.underlying30 rfl (row_size Tryd.sizeSum HA2)) rfl ⟨?_, ch6.below HB1.out (Nat.le_refl _)⟩
  rw [HA1.out]


end Go.Proofs.YtjidkkehhglahaaDoor

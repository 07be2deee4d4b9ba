/-
  A box in memory; contracts: sumOf, tag.
-/
import Derived.Test.YtkhaiiiioieglaaDoorSeB
namespace Go.Proofs.YtkhaiiiioieglaaDoor
open Go.RowKit

/-- A box in memory: where its cipher is, and the bytes of its second key. -/
def Boxed (w : World) (g c : Nat) (M : List Int) : Prop :=
  w.heap[g]? = some (.cells (#[Value.pointer (some ⟨c, 0, none⟩)] ++ (M.map (Value.int .u8)).toArray) 51 (0, 0))
theorem Boxed.old {w x : World} {g c : Nat} {M : List Int} (h : Boxed w g c M) (hb : Below w.heap.size w x) : Boxed x g c M := (hb.block g (lt_of_block h)).trans h
theorem Boxed.first {w : World} {g c : Nat} {M : List Int} (h : Boxed w g c M) : w.cell? ⟨g, 0, none⟩ = some (.pointer (some ⟨c, 0, none⟩)) := by
  rw [cell_of_row w g 0 _ _ _ h]
  simp
theorem Boxed.key {w : World} {g c : Nat} {M : List Int} (h : Boxed w g c M) (hM : Sha.Byt M) : BAt w (some ⟨g, 1, none⟩) M :=
  ⟨hM, fun _ => ⟨g, 1, rfl, fun j hj => by
    rw [cell_of_row w g (1 + j) _ _ _ h, Array.getElem?_append]
    rw [if_neg (by simp), show 1 + j - (#[Value.pointer (some ⟨c, 0, none⟩)] : Array Value).size = j by simp]
    simp [List.getD_eq_getElem?_getD, hj]⟩⟩

set_option maxHeartbeats 1000000 in
set_option maxRecDepth 100000 in
theorem sumOf_any (hT : TakeSaid) (M : List Int) (hM32 : M.length = 32) (hMB : Sha.Byt M) (P : Nat → Option Addr) (C : Nat → Nat) (L : Nat → List Int) (m g c q : Nat) (hm1 : m ≤ 1000) (w : World) (hg : Boxed w g c M) (hc : ∀ k, k < m → w.cell? ⟨q, k, none⟩ = some (.slice (P k) (L k).length (C k))) (hb : ∀ k, k < m → Bs w (P k) (C k) (L k)) (hl : (Seal.cat L m).length ≤ 1000000000) (hLB : Sha.Byt (Seal.cat L m)) (ht : Tab w 1) :
    Calls Tryd.prog 44 #[.pointer (some ⟨g, 0, none⟩), .slice (some ⟨q, 0, none⟩) m m] w (HmSay M (Seal.cat L m) w) := by
  have HT := Lib.hid hT; clear hT
  have Ht := Lib.hid ht; clear ht
  have Hg := Lib.hid hg; clear hg
  have HCC : Hid (∀ x, Below w.heap.size w x → Calls Tryd.prog 68 #[.slice (some ⟨q, 0, none⟩) m m] x fun e x' => ∃ p cp, e = .returned (.slice p (Seal.cat L m).length cp) ∧ Hid (Bs x' p cp (Seal.cat L m)) ∧ Below x.heap.size x x') := fun x hx => by
    refine (concat_any P C L m q hm1 x (fun k hk => (hx.cell (World.block_lt_of_cell? w _ (hc k hk))).trans (hc k hk)) (fun k hk => (hb k hk).old hx) hl).mono ?_
    rintro e x' ⟨v, rfl, ho, hb'⟩
    obtain ⟨p, cp, rfl, hbs, _⟩ := own_bs ho hLB
    exact ⟨p, cp, rfl, hbs, hb'⟩
  clear hc hb
  obtain ⟨A, HA1, HA2, HA3⟩ : ∃ A : Array Value, Hid (A = ((hm M (Seal.cat L m)).map (Value.int .u8)).toArray) ∧ Hid (A.size = 32) ∧ Hid (A.all (·.oneCell') = true) :=
    ⟨_, rfl, by show _ = _; simp [hm_len], all_oneCell_toArray (bytes_one _)⟩
  obtain ⟨N, HN⟩ : ∃ N, Hid ((Seal.cat L m).length = N) := ⟨_, rfl⟩
  have hN1 : N ≤ 1000000000 := by have := HN.out; omega
  generalize Seal.cat L m = R at *
  go_enter Tryd.func44, Tryd.ntmps44
  go_upto_region 1 with (fail)
  refine wp_region_any (by kernel_rfl) ?_
  change wpAny _ _ _ _ _ _ _ (w.alloc (.cells (List.replicate 32 (Value.int .u8 0)).toArray 37)).drew
  have B1 : Hid (Below w.heap.size w (w.alloc (.cells (List.replicate 32 (Value.int .u8 0)).toArray 37)).drew) := ((Below.refl _ w).alloc (Nat.le_refl _) _).drew
  have R1 : Hid ((w.alloc (.cells (List.replicate 32 (Value.int .u8 0)).toArray 37)).drew.heap[w.heap.size]? = some (.cells (List.replicate 32 (Value.int .u8 0)).toArray 37 (0, 0))) := heap_alloc_new w _
  generalize (w.alloc (.cells (List.replicate 32 (Value.int .u8 0)).toArray 37)).drew = w1 at *
  refine any_take_g 0 5 (.pointer (some ⟨g, 0, none⟩)) rfl (by kernel_rfl) (by kernel_rfl) (by kernel_rfl) (fun _ _ _ h => h) (by rfl) (by intro w; go_simp) ?_
  try simp only [Act.put, List.setIfInBounds_toArray, List.set_cons_zero, List.set_cons_succ]
  refine any_take_g 1 6 (.pointer (some ⟨g, 0, none⟩)) rfl (by kernel_rfl) (by kernel_rfl) (by kernel_rfl) (fun _ _ _ h => h) (by rfl) (by intro w; go_simp) ?_
  try simp only [Act.put, List.setIfInBounds_toArray, List.set_cons_zero, List.set_cons_succ]
  refine any_take_g 2 7 (.pointer (some ⟨g, 1, none⟩)) rfl (by kernel_rfl) (by kernel_rfl) (by kernel_rfl) (fun _ _ _ h => h) (by rfl) (by intro w; go_simp) ?_
  try simp only [Act.put, List.setIfInBounds_toArray, List.set_cons_zero, List.set_cons_succ]
  refine any_take_g 3 8 (.slice (some ⟨g, 1, none⟩) 32 32) rfl (by kernel_rfl) (by kernel_rfl) (by kernel_rfl) (fun _ _ _ h => h) (by rfl) (by intro w; go_simp) ?_
  try simp only [Act.put, List.setIfInBounds_toArray, List.set_cons_zero, List.set_cons_succ]
  refine any_take_g 4 9 (.slice (some ⟨q, 0, none⟩) m m) rfl (by kernel_rfl) (by kernel_rfl) (by kernel_rfl) (fun _ _ _ h => h) (by rfl) (by intro w; go_simp) ?_
  try simp only [Act.put, List.setIfInBounds_toArray, List.set_cons_zero, List.set_cons_succ]
  refine any_one 5 (by kernel_rfl) ?_
  refine wpOp_step rfl (fun Kc hKc => ?_)
  go_simp
  refine (HCC.out _ B1.out).mono ?_
  rintro e w2 ⟨p, cp, rfl, HBS, hb2⟩
  have B2 : Hid (Below w.heap.size w w2) := B1.out.trans (hb2.mono B1.out.size)
  have R2 : Hid (w2.heap[w.heap.size]? = some (.cells (List.replicate 32 (Value.int .u8 0)).toArray 37 (0, 0))) := (hb2.block _ (lt_of_block R1.out)).trans R1.out
  clear hb2
  dsimp only
  refine hKc _ _ ?_
  clear hKc Kc
  try simp only [Act.put, List.setIfInBounds_toArray, List.set_cons_zero, List.set_cons_succ]
  rw [HN.out]
  refine any_one 6 (by kernel_rfl) ?_
  refine wpOp_step rfl (fun Kc hKc => ?_)
  go_simp
  refine (mac_of_any HT.out M R (some ⟨g, 1, none⟩) p 32 N 32 cp hM32 HN.out _ ((Hg.out.old B2.out).key hMB) HBS.out.bat (by omega) (by omega) (by have := HBS.out.cap; have := HN.out; omega) HBS.out.cap.2 (by omega) (by have := HN.out; omega) (Ht.out.below B2.out Ht.out.lt)).mono ?_
  rintro e w3 ⟨rfl, hb3⟩
  rw [← HA1.out]
  have B3 : Hid (Below w.heap.size w w3) := B2.out.trans (hb3.mono B2.out.size)
  have R3 : Hid (w3.heap[w.heap.size]? = some (.cells (List.replicate 32 (Value.int .u8 0)).toArray 37 (0, 0))) := (hb3.block _ (lt_of_block R2.out)).trans R2.out
  clear hb3
  dsimp only
  refine hKc _ _ ?_
  clear hKc Kc
  try simp only [Act.put, List.setIfInBounds_toArray, List.set_cons_zero, List.set_cons_succ]
  refine any_one 7 (by kernel_rfl) ?_
  refine op_store 7 37 (.tmp 4) (.tmp 11) rfl w.heap.size 0 37 (List.replicate 32 (Value.int .u8 0)) A rfl rfl R3.out (row_size Tryd.sizeSum HA2) (by rw [HA2.out]; simp) HA3.out ?_
  intro w9 g9 ch9
  try simp only [Act.put, List.setIfInBounds_toArray, List.set_cons_zero, List.set_cons_succ]
  refine wpAny_done (by kernel_rfl) ?_ _
  have G9 : Hid (w9.heap[w.heap.size]? = some (.cells A 37 (0, 0))) := by
    have h := g9.out
    have e : splice (List.replicate 32 (Value.int .u8 0)) 0 A.toList = A.toList := by
      unfold splice
      rw [List.take_zero, List.nil_append, Array.length_toList, HA2.out, List.drop_of_length_le (by simp), List.append_nil]
    rw [e, Array.toArray_toList] at h
    exact h
  clear g9
  go_wp2
  refine bodyPost_ret (results_cell_row rfl _ _ w.heap.size 37 A (0, 0) _ rfl G9.out Tryd.underlying37 rfl (row_size Tryd.sizeSum HA2)) rfl ⟨?_, ch9.below B3.out (Nat.le_refl _)⟩
  rw [HA1.out]

namespace Seal
/-- What a tag is the sum of. -/
def tin (h : List Int) (e n : Int) (t : List Int) : List Int := be8 h.length ++ (h ++ (be8 e ++ (be8 n ++ t)))
def five (a b c d e : List Int) : Nat → List Int
  | 0 => a | 1 => b | 2 => c | 3 => d | _ => e
theorem cat_five (h : List Int) (e n : Int) (t : List Int) : cat (five (be8 h.length) h (be8 e) (be8 n) t) 5 = tin h e n t := by
  unfold tin
  simp [cat, five]
theorem tin_len (h : List Int) (e n : Int) (t : List Int) : (tin h e n t).length = h.length + t.length + 24 := by
  unfold tin
  simp only [List.length_append, be8_len]
  omega
theorem tin_byt {h : List Int} {e n : Int} {t : List Int} (hh : Sha.Byt h) (ht : Sha.Byt t) : Sha.Byt (tin h e n t) :=
  Sha.byt_append (be8_byt _) (Sha.byt_append hh (Sha.byt_append (be8_byt _) (Sha.byt_append (be8_byt _) ht)))
attribute [irreducible] tin
end Seal
end Go.Proofs.YtkhaiiiioieglaaDoor

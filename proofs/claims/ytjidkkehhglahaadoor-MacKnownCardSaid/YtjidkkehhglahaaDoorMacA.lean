/-
  Contracts: mac.xored, mac.keyBlock, mac.digest, mac.Of.
-/
import Derived.Test.YtjidkkehhglahaaDoorKitA
import Derived.Test.YtjidkkehhglahaaDoorShaJ
namespace Go.Proofs.YtjidkkehhglahaaDoor
open Go.RowKit

/-- Each byte xored with one. -/
def xl (x : Int) (l : List Int) : List Int := l.map fun b => bits .xor .u8 b x
theorem xl_len (x : Int) (l : List Int) : (xl x l).length = l.length := by simp [xl]
def mx (x : Int) (l : List Int) (k : Nat) : List Int := xl x (l.take k) ++ l.drop k
theorem mx_zero (x : Int) (l : List Int) : mx x l 0 = l := by simp [mx, xl]
theorem mx_all (x : Int) (l : List Int) (k : Nat) (h : l.length ≤ k) : mx x l k = xl x l := by
  unfold mx
  rw [List.take_of_length_le h, List.drop_eq_nil_of_le h]
  simp
theorem mx_len (x : Int) (l : List Int) (k : Nat) : (mx x l k).length = l.length := by simp [mx, xl]; omega
theorem mx_get (x : Int) (l : List Int) (k : Nat) (h : k < l.length) : (mx x l k).getD k 0 = l.getD k 0 := by
  unfold mx
  have hl : (xl x (l.take k)).length = k := by simp [xl]; omega
  rw [List.getD_eq_getElem?_getD, List.getElem?_append_right (by omega), hl, Nat.sub_self, List.getElem?_drop, Nat.add_zero, List.getD_eq_getElem?_getD]
theorem mx_step (x : Int) (l : List Int) (k : Nat) (h : k < l.length) : (mx x l k).set k (bits .xor .u8 (l.getD k 0) x) = mx x l (k + 1) := by
  unfold mx
  have hl : (xl x (l.take k)).length = k := by simp [xl]; omega
  have hd : l.drop k = l.getD k 0 :: l.drop (k + 1) := by
    rw [List.drop_eq_getElem_cons h, List.getD_eq_getElem?_getD, List.getElem?_eq_getElem h]; rfl
  rw [List.set_append_right _ _ (by omega), hl, Nat.sub_self, hd, List.set_cons_zero, ← take_snoc l k h]
  simp [xl]
theorem xor_byt (a b : Int) : 0 ≤ bits .xor .u8 a b ∧ bits .xor .u8 a b ≤ 255 := by
  have h : ∀ x : Int, 0 ≤ IntKind.u8.wrap x ∧ IntKind.u8.wrap x ≤ 255 := fun x => by
    simp [IntKind.wrap, IntKind.signed, IntKind.bits]
    omega
  exact h _
theorem xl_byt (x : Int) (l : List Int) : Sha.Byt (xl x l) := fun y hy => by
  unfold xl at hy
  rw [List.mem_map] at hy
  obtain ⟨a, _, rfl⟩ := hy
  exact xor_byt _ _
theorem row_cell {w : World} {g : Nat} {l : List Int} {t : TypeId} {fr : Nat × Nat} (h : w.heap[g]? = some (.cells (l.map (Value.int .u8)).toArray t fr)) (j : Nat) (hj : j < l.length) : w.cell? ⟨g, j, none⟩ = some (.int .u8 (l.getD j 0)) := by
  rw [cell_of_row w g j _ _ _ h]
  simp [List.getD_eq_getElem?_getD, hj]
attribute [irreducible] mx xl

def RowSay (l : List Int) (w : World) (e : Ending) (w' : World) : Prop := e = .returned (.agg (l.map (Value.int .u8)).toArray) ∧ Below w.heap.size w w'
theorem Tryd.size64 : (Tryd.prog.info? 46).map (·.size) = some 64 := by kernel_rfl
theorem zero64 : (List.replicate 64 (Value.int .u8 0)) = (List.replicate 64 (0 : Int)).map (Value.int .u8) := by simp

set_option maxHeartbeats 1000000 in
set_option maxRecDepth 100000 in
theorem xored_any (x : Int) (l : List Int) (hl : l.length = 64) (w : World) :
    Calls Tryd.prog 35 #[.agg (l.map (Value.int .u8)).toArray, .int .u8 x] w (RowSay (xl x l) w) := by
  have Hl := Lib.hid hl; clear hl
  have h0 : Hid ((w.alloc (.cells (l.map (Value.int .u8)).toArray 46)).heap[w.heap.size]? = some (.cells ((mx x l 0).map (Value.int .u8)).toArray 46 (0, 0))) := by
    show _ = _; rw [mx_zero]; exact heap_alloc_new w _
  go_enter Tryd.func35, Tryd.ntmps35
  go_wp2

  go_loopw [6] (fun v6 wr => ∃ k : Nat, k ≤ 64 ∧ v6 = .int .i64 k ∧ Hid (wr.heap[w.heap.size]? = some (.cells ((mx x l k).map (Value.int .u8)).toArray 46 (0, 0))) ∧
      Hid (wr.heap[w.heap.size + 1]? = some (.cells (List.replicate 64 (Value.int .u8 0)).toArray 46 (0, 0))) ∧ Hid (Below w.heap.size w wr)) (fun v6 _ => 64 - (intOf v6).toNat)
  case atStart =>
    refine ⟨0, by omega, rfl, ?_, ?_, ?_⟩
    · show _ = _; rw [heap_alloc_old _ _ (by simp)]; exact h0.out
    · exact heap_alloc2_new w _ _
    · exact ((Below.refl _ _).alloc (Nat.le_refl _) _).alloc (by simp) _
  case round =>
    clear h0
    obtain ⟨k, hk, rfl, HG, HRES, HB⟩ := hrel
    by_cases hlt : k < 64
    · have c0 := row_cell HG.out k (by rw [mx_len, Hl.out]; exact hlt)
      rw [mx_get x l k (by rw [Hl.out]; exact hlt)] at c0
      have f0 := frozen_of_row wr w.heap.size k _ _ HG.out
      have HF : Hid ((mx x l k).set k (bits .xor .u8 (l.getD k 0) x) = mx x l (k + 1)) := mx_step x l k (by rw [Hl.out]; exact hlt)
      generalize l.getD k 0 = y at *
      go_wp2

      refine ⟨⟨k + 1, by omega, by go_num, ?_, ?_, ?_⟩, by simp [intOf]; omega⟩
      · have h := set_u8' (i := k) (x := bits .xor .u8 y x) HG.out
        rw [HF.out] at h
        exact h
      · show _ = _; rw [heap_setCell_other _ _ _ _ (by simp)]; exact HRES.out
      · exact HB.out.setCell (by simp) _
    · have E : k = 64 := by omega
      have hge : 64 ≤ k := by omega
      obtain ⟨A, HA1, HA2, HA3⟩ : ∃ A : Array Value, Hid (A = ((xl x l).map (Value.int .u8)).toArray) ∧ Hid (A.size = 64) ∧ Hid (A.all (·.oneCell') = true) :=
        ⟨_, rfl, by show _ = _; simp [xl_len, Hl.out], all_oneCell_toArray (bytes_one _)⟩
      have HG8 : Hid (wr.heap[w.heap.size]? = some (.cells A 46 (0, 0))) := by
        have h := HG.out
        rw [mx_all x l k (by rw [Hl.out]; omega), ← HA1.out] at h
        exact h
      clear E hlt HG
      go_wp2_with (first
        | ((with_reducible refine row_load _ _ _ _ _ _ _ ?_ HG8.out Tryd.underlying46 ?_ (row_size Tryd.size64 HA2) ?_); (exact rfl); (exact rfl))
        | ((with_reducible refine row_store _ _ _ _ _ _ _ ?_ ?_ HRES.out (row_size Tryd.size64 HA2) ?_ HA3.out ?_); (exact rfl); (exact rfl); (rw [HA2.out]; rfl); intro w6 G6 ch6))
      refine bodyPost_ret (results_cell_row rfl _ _ (w.heap.size + 1) 46 A (0, 0) _ rfl G6.out Tryd.underlying46 rfl (row_size Tryd.size64 HA2)) rfl ⟨?_, ch6.below HB.out (by omega)⟩
      rw [HA1.out]

end Go.Proofs.YtjidkkehhglahaaDoor

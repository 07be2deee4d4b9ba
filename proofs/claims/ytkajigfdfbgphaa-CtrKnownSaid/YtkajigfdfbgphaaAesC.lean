/-
  Contract: aes.substitutes: the table.
-/
import Derived.Test.YtkajigfdfbgphaaAesB
import Derived.Test.YtkajigfdfbgphaaShaO
import Derived.BigRegion
import Derived.Deep.Cut
namespace Go.Proofs.Ytkajigfdfbgphaa
open Go.RowKit


theorem Try.size256 : (Try.prog.info? 47).map (·.size) = some 256 := by kernel_rfl
def Z256 : Array Value := (List.replicate 256 (Value.int .u8 0)).toArray
theorem Try.zero256 : (Try.prog.info? 47).map (fun i => (i.zero, i.size)) = some (some (.agg Z256), 256) := by kernel_rfl
theorem u8_one (l : List Int) : ∀ v ∈ l.map (Value.int .u8), v.oneCell' = true := fun v hv => by
  rw [List.mem_map] at hv
  obtain ⟨x, _, rfl⟩ := hv
  rfl
theorem u8_all (l : List Int) : (l.map (Value.int .u8)).toArray.all (·.oneCell') = true := by
  refine Array.all_eq_true_iff_forall_mem.2 (fun v hv => u8_one l v (by simpa using hv))
theorem u8_cell {w : World} {g : Nat} {l : List Int} {t : TypeId} {fr : Nat × Nat} (h : w.heap[g]? = some (.cells (l.map (Value.int .u8)).toArray t fr)) (j : Nat) (hj : j < l.length) : w.cell? ⟨g, j, none⟩ = some (.int .u8 (l.getD j 0)) := by
  rw [cell_of_row w g j _ _ _ h]
  simp [List.getD_eq_getElem?_getD, hj]
theorem u8_set {w : World} {g i : Nat} {l : List Int} {x : Int} {t : TypeId} (h : w.heap[g]? = some (.cells (l.map (Value.int .u8)).toArray t (0, 0))) :
    (w.setCell ⟨g, i, none⟩ (.int .u8 x)).heap[g]? = some (.cells ((l.set i x).map (Value.int .u8)).toArray t (0, 0)) := by
  rw [heap_setCell_same w g i _ _ _ h]
  congr 2
  apply Array.ext'
  simp
theorem z256 : Z256 = ((List.replicate 256 (0 : Int)).map (Value.int .u8)).toArray := by unfold Z256; rw [List.map_replicate]
attribute [irreducible] Z256

def TabSay (w : World) (e : Ending) (w' : World) : Prop := e = .returned (.agg (Aes.TB.map (Value.int .u8)).toArray) ∧ Below w.heap.size w w'

set_option maxHeartbeats 1000000 in
set_option maxRecDepth 100000 in
theorem substitutes_any (w : World) : Calls Try.prog 25 #[] w (TabSay w) := by
  have hz := (zero_of_info Try.zero256).1
  have hzs : Z256.size = 256 := by rw [z256]; simp
  have hne : ¬ Z256 = #[] := by intro h; rw [h] at hzs; simp at hzs
  have HST : Hid (Z256.setIfInBounds 0 (.int .u8 (Aes.sb 0)) = ((Aes.sbs 0).l.map (Value.int .u8)).toArray) := by
    show _ = _
    rw [z256, Aes.sbs]
    apply Array.ext'
    simp
  have HSS : Hid ((Z256.setIfInBounds 0 (.int .u8 (Aes.sb 0))).size = 256) := by show _ = _; rw [Array.size_setIfInBounds, hzs]
  have HSO : Hid ((Z256.setIfInBounds 0 (.int .u8 (Aes.sb 0))).all (·.oneCell') = true) := by rw [HST.out]; exact u8_all _
  have HZS := Lib.hid hzs
  go_enter Try.func25, Try.ntmps25
  go_upto_region 2 with (first
    | (go_at_call 42; refine (substitute_any _ _).mono ?_; rintro e w' ⟨rfl, rfl⟩)
    | ((with_reducible refine row_store _ _ _ _ _ _ _ ?_ ?_ (heap_alloc2_new w _ _) (row_size Try.size256 HSS) ?_ HSO.out ?_); (exact rfl); (exact rfl); (rw [HSS.out]; exact HZS.out.symm); intro w2 G2 ch))
  have hs2 : Hid (w2.heap.size = w.heap.size + 2) := by show _ = _; rw [ch.size]; simp
  have HR0 : Hid (w2.heap[w.heap.size]? = some (.cells Z256 47 (0, 0))) := by show _ = _; rw [ch.block _ (by omega)]; exact heap_alloc2_old w _ _
  have HB0 : Hid (Below w.heap.size w w2) := ch.below (((Below.refl _ w).alloc (Nat.le_refl _) _).alloc (by simp) _) (by omega)
  have HT0 : Hid (w2.heap[w.heap.size + 1]? = some (.cells ((Aes.sbs 0).l.map (Value.int .u8)).toArray 47 (0, 0))) := by show _ = _; rw [← HST.out]; exact G2.out
  have hb0 : Hid ((Aes.sbs 0).b = 1 ∧ (Aes.sbs 0).x = 1) := by show _ ∧ _; rw [Aes.sbs]; exact ⟨rfl, rfl⟩
  clear G2 ch HST HSS HSO hzs hne hz
  generalize Z256.setIfInBounds 0 (.int .u8 (Aes.sb 0)) = ZZ
  go_wp2
  go_loopw [2, 3, 6] (fun v2 v3 v6 wr => ∃ (k : Nat) (b : Nat) (x : Int), k ≤ 255 ∧ v6 = .int .i64 k ∧ v2 = .int .u8 b ∧ v3 = .int .u8 x ∧ Hid ((b : Int) = (Aes.sbs k).b) ∧ Hid (x = (Aes.sbs k).x) ∧ Hid (wr.heap[w.heap.size + 1]? = some (.cells ((Aes.sbs k).l.map (Value.int .u8)).toArray 47 (0, 0))) ∧
      Hid (wr.heap[w.heap.size]? = some (.cells Z256 47 (0, 0))) ∧ Hid (Below w.heap.size w wr)) (fun _ _ v6 _ => 255 - (intOf v6).toNat)
  case atStart => exact ⟨0, 1, 1, by omega, rfl, rfl, rfl, hb0.out.1.symm, hb0.out.2.symm, HT0.out, HR0.out, HB0.out⟩
  case round =>
    clear hs2 HR0 HB0 HT0 hb0
    obtain ⟨k, b, x, hk, rfl, rfl, rfl, HBB, HX, HG, HRES, HB⟩ := hrel
    by_cases hlt : k < 255
    · have hb1 : b < 256 := by have h := Aes.sbs_b k; rw [← HBB.out] at h; omega
      have hx1 : 0 ≤ x ∧ x ≤ 255 := by rw [HX.out]; exact Aes.sbs_x k
      obtain ⟨hx0, hx255⟩ := hx1
      have hbi : (b : Int) < 256 := by omega
      have c0 := u8_cell HG.out b (by rw [Aes.sbs_len]; exact hb1)
      have f0 := frozen_of_row wr (w.heap.size + 1) b _ _ HG.out
      generalize (Aes.sbs k).l.getD b 0 = y at c0
      have HF : Hid ((Aes.sbs k).l.set b (Aes.sb x) = (Aes.sbs (k + 1)).l) := by
        show _ = _
        rw [Aes.sbs, HX.out]
        show _ = (Aes.sbs k).l.set (Aes.sbs k).b.toNat _
        rw [← HBB.out]
        rfl
      have HB3 : Hid (Aes.pr b 3 = (Aes.sbs (k + 1)).b) := by show _ = _; rw [Aes.sbs, HBB.out]
      have HX3 : Hid (Aes.pr x 246 = (Aes.sbs (k + 1)).x) := by show _ = _; rw [Aes.sbs, HX.out]
      obtain ⟨b3, hb3⟩ : ∃ b3 : Nat, Aes.pr b 3 = b3 := ⟨(Aes.pr b 3).toNat, by have := Aes.pr_byt b 3; omega⟩
      rw [hb3] at HB3
      have Hb3 := Lib.hid hb3; clear hb3
      go_wp2_with (first
        | (go_at_call 42; refine (substitute_any _ _).mono ?_; rintro e w' ⟨rfl, rfl⟩)
        | (go_at_call 43; refine (product_any _ _ (by omega) (by omega) _).mono ?_; rintro e w' ⟨rfl, rfl⟩))
      refine ⟨⟨k + 1, b3, _, by omega, by go_num, by rw [Hb3.out], rfl, HB3, HX3, ?_, ?_, ?_⟩, by simp [intOf]; omega⟩
      · have h := u8_set (i := b) (x := Aes.sb x) HG.out
        rw [HF.out] at h
        exact h
      · show _ = _; rw [heap_setCell_other _ _ _ _ (by simp)]; exact HRES.out
      · exact HB.out.setCell (by simp) _
    · have hge : 255 ≤ k := by omega
      obtain ⟨A, HA1, HA2, HA3⟩ : ∃ A : Array Value, Hid (A = (Aes.TB.map (Value.int .u8)).toArray) ∧ Hid (A.size = 256) ∧ Hid (A.all (·.oneCell') = true) :=
        ⟨_, rfl, by show _ = _; simp [Aes.TB_len], u8_all _⟩
      have HG8 : Hid (wr.heap[w.heap.size + 1]? = some (.cells A 47 (0, 0))) := by
        have h := HG.out
        rw [show k = 255 by omega] at h
        show _ = _
        rw [h, HA1.out, Aes.TB]
      clear hlt HG HBB HX
      go_wp2_with (first
        | ((with_reducible refine row_load _ _ _ _ _ _ _ ?_ HG8.out Try.underlying47 ?_ (row_size Try.size256 HA2) ?_); (exact rfl); (exact rfl))
        | ((with_reducible refine row_store _ _ _ _ _ _ _ ?_ ?_ HRES.out (row_size Try.size256 HA2) ?_ HA3.out ?_); (exact rfl); (exact rfl); (rw [HA2.out]; exact HZS.out.symm); intro w6 G6 ch6))
      refine bodyPost_ret (results_cell_row rfl _ _ w.heap.size 47 A (0, 0) _ rfl G6.out Try.underlying47 rfl (row_size Try.size256 HA2)) rfl ⟨?_, ch6.below HB.out (by omega)⟩
      rw [HA1.out]
end Go.Proofs.Ytkajigfdfbgphaa

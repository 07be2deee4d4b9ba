/-
  The program's tree: contract: Page.
-/
import Derived.Test.YtfeemeddhhgigaaTrPf
namespace Go.Proofs.Ytfeemeddhhgigaa
open Go.RowKit

namespace Tr
open Pg (Rf zr zp)
/-- The first refs of a list, and zero ones behind them. -/
def PP (L : List Rf) (i : Nat) : List Rf := L.take i ++ zp.drop i
theorem pp_len {L : List Rf} (h : L.length = 8) (i : Nat) (hi : i ≤ 8) : (PP L i).length = 8 := by
  unfold PP zp
  rw [List.length_append, List.length_take, List.length_drop, List.length_replicate]
  omega
theorem pp_ok {L : List Rf} (h : Pg.OkA L) (i : Nat) (hi : i ≤ 8) : Pg.OkA (PP L i) := by
  refine ⟨pp_len h.1 i hi, fun r hr => ?_⟩
  unfold PP at hr
  rcases List.mem_append.1 hr with q | q
  · exact h.2 r (List.mem_of_mem_take q)
  · exact Pg.ok_zp.2 r (List.mem_of_mem_drop q)
theorem pp_zero (L : List Rf) : PP L 0 = zp := by unfold PP; rw [List.take_zero, List.drop_zero, List.nil_append]
theorem pp_all {L : List Rf} (h : L.length = 8) : PP L 8 = L := by
  unfold PP zp
  rw [List.take_of_length_le (by omega), List.drop_of_length_le (by rw [List.length_replicate]; omega), List.append_nil]
theorem pp_set {L : List Rf} (h : L.length = 8) (i : Nat) (hi : i < 8) : (PP L i).set i (L.getD i zr) = PP L (i + 1) := by
  unfold PP
  have ht : (L.take i).length = i := by rw [List.length_take]; omega
  have hz : i < zp.length := by unfold zp; rw [List.length_replicate]; omega
  rw [List.set_append_right _ _ (by omega), ht, Nat.sub_self, List.drop_eq_getElem_cons hz, List.set_cons_zero, List.take_add_one, List.getElem?_eq_getElem (by omega), List.getD_eq_getElem?_getD, List.getElem?_eq_getElem (by omega), List.append_assoc]
  rfl
theorem pp_store {L : List Rf} (h : Pg.OkA L) (i : Nat) (hi : i < 8) (A : Array Value) (hA : rfA (L.getD i zr) = A) : ((cs (PP L i)).toArray.toList.take (i * 33) ++ A.toList ++ (cs (PP L i)).toArray.toList.drop (i * 33 + A.size)).toArray = (cs (PP L (i + 1))).toArray := by
  subst hA
  have h1 := cs_set (pp_ok h i (by omega)).2 i (by rw [pp_len h.1 i (by omega)]; exact hi) (L.getD i zr)
  rw [pp_set h.1 i hi] at h1
  rw [rfa_size (Pg.ok_at h i), ← h1, Nat.mul_comm i 33]
  rfl
theorem page_len (t : T) (N : Int) : (pageL t N).length = 8 := by
  unfold pageL
  split
  · simp
  · split <;> simp
theorem page_ok {t : T} (h : TOk t) (N : Int) : Pg.OkA (pageL t N) := by
  refine ⟨page_len t N, fun r hr => ?_⟩
  unfold pageL at hr
  split at hr
  · obtain ⟨j, _, rfl⟩ := List.mem_map.1 hr
    exact nr_ok h _
  · split at hr
    · obtain ⟨j, _, rfl⟩ := List.mem_map.1 hr
      exact h.1 _
    · obtain ⟨_, rfl⟩ := List.mem_replicate.1 hr
      exact pg_zr
theorem page_root (t : T) (j : Nat) (hj : j < 8) : (pageL t 0).getD j zr = nr (t.n (j + 1)) := by
  unfold pageL
  rw [if_pos rfl, List.getD_eq_getElem?_getD, List.getElem?_map, List.getElem?_range hj]
  rfl
theorem page_leaf (t : T) (m j : Nat) (hm : m < 8) (hj : j < 8) : (pageL t ((m + 1 : Nat) : Int)).getD j zr = t.b (8 * m + j) := by
  unfold pageL
  rw [if_neg (by omega), if_pos (by unfold inN; omega), List.getD_eq_getElem?_getD, List.getElem?_map, List.getElem?_range hj]
  show t.b (8 * ((m + 1 : Nat) : Int).toNat.pred + j) = _
  congr 2
theorem page_out (t : T) (N : Int) (h : ¬ inN N) : pageL t N = zp := by
  unfold pageL
  rw [if_neg (fun e => h (by rw [e]; unfold inN; omega)), if_neg h]
  rfl
end Tr
theorem cs_parts33 {L : List Pg.Rf} (h : Pg.OkA L) (q : Nat) (v : Value) (hv : (cs L)[q]? = some v) : q < 264 ∧ (cl (L.getD (q / 33) Pg.zr))[q % 33]? = some v := by
  have hq : q < 264 := by
    have := (List.getElem?_eq_some_iff.1 hv).1
    rw [cs_len h] at this
    exact this
  refine ⟨hq, ?_⟩
  have hl := cl_len (Pg.ok_at h (q / 33))
  have hr : q % 33 < (cl (L.getD (q / 33) Pg.zr)).length := by omega
  have h2 := cs_at h.2 (q / 33) (by rw [h.1]; omega) (q % 33) _ (List.getElem?_eq_getElem hr)
  rw [show 33 * (q / 33) + q % 33 = q by omega, hv] at h2
  rw [List.getElem?_eq_getElem hr]
  injection h2 with h2
  rw [h2]
theorem PT.leafr {K b : Nat} {y : World} {t : Tr.T} (h : PT K y b t) (m : Nat) (hm : m < 8) : y.rangeAt b (8 * m * 33) (cs (Tr.pageL t ((m + 1 : Nat) : Int))) := fun q v hv => by
  obtain ⟨hq, hc⟩ := cs_parts33 (Tr.page_ok h.ok _) q v hv
  rw [Tr.page_leaf t m (q / 33) hm (by omega)] at hc
  have := h.blk (8 * m + q / 33) (by omega) (q % 33) v (by unfold rfA; exact hc)
  rw [show (8 * m + q / 33) * 33 + q % 33 = 8 * m * 33 + q by omega] at this
  exact this
def PgSay (R : List Pg.Rf) (w : World) (e : Ending) (w' : World) : Prop := e = .returned (PV R) ∧ Hid (Below w.heap.size w w')
theorem Try.zeroPage0 : (Try.prog.info? 36).map (fun i => (i.zero, i.size)) = some (some (.agg (cs Pg.zp).toArray), 264) := Try.zeroPage
set_option maxHeartbeats 4000000 in
set_option maxRecDepth 100000 in
theorem ppage_any {K b : Nat} {t : Tr.T} (N : Int) (w : World) (h : PT K w b t) :
    Calls Try.prog 25 #[.pointer (some ⟨b, 0, none⟩), .int .i64 N] w (PgSay (Tr.pageL t N) w) := by
  have hz := (zero_of_info Try.zeroPage).1
  have HZS : Hid ((cs Pg.zp).toArray.size = 264) := by show _ = _; rw [List.size_toArray, cs_len Pg.ok_zp]
  have HZ1 : Hid ((cs Pg.zp).toArray.all (·.oneCell') = true) := all_oneCell_toArray (cs_one _)
  have HT : Hid (∀ y, Below w.heap.size w y → PT K y b t) := fun y hy => h.old hy
  have HIB : Hid (∀ y, Calls Try.prog 49 #[.int .i64 N] y (BoSay (decide (Tr.inN N)) y)) := fun y => isnode_any N y
  have HOKA := Lib.hid (Tr.page_ok h.ok N)
  have HLS : Hid ((cs (Tr.pageL t N)).toArray.size = 264) := by show _ = _; rw [List.size_toArray, cs_len HOKA.out]
  have HL1 : Hid ((cs (Tr.pageL t N)).toArray.all (·.oneCell') = true) := all_oneCell_toArray (cs_one _)
  have hsL := row_size Try.sizePage HLS
  have HPV : Hid (PV (Tr.pageL t N) = .agg (cs (Tr.pageL t N)).toArray) := rfl
  have hnb : b < w.heap.size := h.lt
  unfold PgSay
  rw [HPV.out]
  by_cases h0 : N = 0
  · subst h0
    have HP0 := Lib.hid (Tr.pp_zero (Tr.pageL t 0))
    have HP8 := Lib.hid (Tr.pp_all HOKA.out.1)
    have HND : Hid (∀ i, i < 8 → Pg.Ok (Tr.nr (t.n (i + 1)))) := fun i _ => nr_ok h.ok _
    have HST : Hid (∀ i, i < 8 → ∀ A, rfA (Tr.nr (t.n (i + 1))) = A → ((cs (Tr.PP (Tr.pageL t 0) i)).toArray.toList.take (i * 33) ++ A.toList ++ (cs (Tr.PP (Tr.pageL t 0) i)).toArray.toList.drop (i * 33 + A.size)).toArray = (cs (Tr.PP (Tr.pageL t 0) (i + 1))).toArray) := fun i hi A hA => Tr.pp_store HOKA.out i hi A (by rw [Tr.page_root t i hi]; exact hA)
    have HPS : Hid (∀ i, i ≤ 8 → (cs (Tr.PP (Tr.pageL t 0) i)).toArray.size = 264) := fun i hi => by rw [List.size_toArray, cs_len (Tr.pp_ok HOKA.out i hi)]
    generalize Tr.pageL t 0 = L at *
    obtain ⟨ZA, hZA⟩ : ∃ ZA, (cs Pg.zp).toArray = ZA := ⟨_, rfl⟩
    rw [hZA] at hz HZS HZ1
    have hzn : ¬ ZA = #[] := fun h => by have := HZS.out; rw [h] at this; simp at this
    have HZP : Hid ((cs (Tr.PP L 0)).toArray = ZA) := by show _ = _; rw [HP0.out, hZA]
    clear h hZA
    have HLN : Hid (∀ x : World, (x.alloc (.cells ZA 36)).heap.size = x.heap.size + 1) := fun x => by simp
    go_enter Try.func25, Try.ntmps25
    go_wp2
    go_loopw [6, 10] (fun _ v10 wr => ∃ i : Nat, i ≤ 8 ∧ v10 = .int .i64 i ∧ Hid (wr.heap[w.heap.size + 1]? = some (.cells (cs (Tr.PP L i)).toArray 36 (0, 0))) ∧ Hid (wr.heap[w.heap.size]? = some (.cells ZA 36 (0, 0))) ∧ Hid (Below w.heap.size w wr)) (fun _ v10 _ => 8 - (intOf v10).toNat)
    case atStart =>
      refine ⟨0, by omega, rfl, ?_, ?_, ?_⟩
      · show _ = _
        rw [HZP.out]
        have := heap_alloc_new (w.alloc (.cells ZA 36)) (.cells ZA 36)
        rw [HLN.out w] at this
        exact this
      · show _ = _
        exact (((Below.refl _ (w.alloc (.cells ZA 36))).alloc (Nat.le_refl _) _).block w.heap.size (by simp)).trans (heap_alloc_new w _)
      · exact ((Below.refl _ w).alloc (Nat.le_refl _) _).alloc (by simp) _
    case round =>
      obtain ⟨i, hi, rfl, HG, HG0, HB⟩ := hrel
      by_cases hlt : i < 8
      · have hi0 : 0 ≤ (i : Int) := by omega
        have hi1 : (i : Int) < 8 := by omega
        obtain ⟨R, Z, eA, _, hk, hz0⟩ := rfz (HND.out i hlt)
        have HR : Hid (wr.rangeAt b (2112 + (i + 1) * 34 + 1) R.toList) := by rw [← eA]; exact (HT.out _ HB.out).rf (i + 1) (by omega)
        have HRS := Lib.hid hk.size
        have HR1 := Lib.hid hk.one
        have hsR := row_size Try.sizeRef33 HRS
        have HS2 := Lib.hid (HST.out i hlt R eA)
        have HPI := Lib.hid (HPS.out i (by omega))
        have HFIT : Hid (i * 33 + R.size ≤ (cs (Tr.PP L i)).toArray.size) := by show _ ≤ _; rw [HPI.out, HRS.out]; omega
        have HNN : Hid (w.heap.size + 1 ≠ w.heap.size) := by show _ ≠ _; omega
        clear hk hz0 eA HND HST HPS hlt
        go_wp2_with (first
          | ((with_reducible refine rng_load _ _ _ _ _ _ ?_ HR.out Try.underlying33 ?_ hsR ?_); (exact rfl); (exact rfl))
          | ((with_reducible refine mid_store _ _ _ (w.heap.size + 1) (i * 33) _ _ _ ?_ ?_ HG.out hsR HFIT.out HR1.out ?_); (exact rfl); (exact rfl); intro w4 G4 ch4))
        refine ⟨⟨i + 1, by omega, by go_num, ?_, Lib.hid ((ch4.block _ (Ne.symm HNN.out)).trans HG0.out), Lib.hid (ch4.below HB.out (Nat.le_succ _))⟩, by simp [intOf]; omega⟩
        rw [← HS2.out]
        exact G4
      · have E : i = 8 := by omega
        subst E
        rw [HP8.out] at HG
        have HSS : Hid ((cs L).toArray.size = ZA.size) := by show _ = _; rw [HLS.out, HZS.out]
        clear hlt
        go_wp2_with (first
          | ((with_reducible refine row_load _ _ _ _ _ _ _ ?_ HG.out Try.underlying36 ?_ hsL ?_); (exact rfl); (exact rfl))
          | ((with_reducible refine row_store _ _ _ _ _ _ _ ?_ ?_ HG0.out hsL HSS.out HL1.out ?_); (exact rfl); (exact rfl); intro w5 G5 ch5))
        exact bodyPost_ret (results_cell1 rfl _ _ w.heap.size 36 _ (0, 0) _ rfl G5.out Try.underlying36 rfl hsL) rfl ⟨rfl, Lib.hid (ch5.below HB.out (Nat.le_refl _))⟩
  · have hm1 : (N == 0) = false := by simp [h0]
    by_cases hin : Tr.inN N
    · obtain ⟨m, hm, hm8⟩ : ∃ m : Nat, N = ((m + 1 : Nat) : Int) ∧ m < 8 := ⟨N.toNat - 1, by unfold Tr.inN at hin; omega, by unfold Tr.inN at hin; omega⟩
      rw [decide_eq_true hin] at HIB
      have HU : Hid (∀ y, Calls Try.prog 53 #[.pointer (some ⟨b, 0, none⟩), .int .i64 N] y fun e w' => ∃ c, e = .returned (.slice (some ⟨b, 8 * m * 33, none⟩) 8 c) ∧ w' = y) := fun y => by rw [hm]; exact under_any b m hm8 y
      have HRG : Hid (∀ y, Below w.heap.size w y → y.rangeAt b (8 * m * 33) (cs (Tr.pageL t N))) := fun y hy => by rw [hm]; exact (h.old hy).leafr m hm8
      have HCL : Hid ((cs (Tr.pageL t N)).length = 8 * 33) := by show _ = _; rw [cs_len HOKA.out]
      have HCO := Lib.hid (cs_one (Tr.pageL t N))
      generalize Tr.pageL t N = L at *
      obtain ⟨ZA, hZA⟩ : ∃ ZA, (cs Pg.zp).toArray = ZA := ⟨_, rfl⟩
      rw [hZA] at hz HZS HZ1
      have hzn : ¬ ZA = #[] := fun h => by have := HZS.out; rw [h] at this; simp at this
      have HZL : Hid (ZA.toList.length = 264) := by show _ = _; rw [Array.length_toList]; exact HZS.out
      have B1 : Hid (Below w.heap.size w ((w.alloc (.cells ZA 36)).alloc (.cells ZA 36))) := ((Below.refl _ w).alloc (Nat.le_refl _) _).alloc (by simp) _
      have G1 : Hid (((w.alloc (.cells ZA 36)).alloc (.cells ZA 36)).heap[w.heap.size + 1]? = some (.cells ZA 36 (0, 0))) := by
        have := heap_alloc_new (w.alloc (.cells ZA 36)) (.cells ZA 36)
        rw [show (w.alloc (.cells ZA 36)).heap.size = w.heap.size + 1 by simp] at this
        exact this
      have G0 : Hid (((w.alloc (.cells ZA 36)).alloc (.cells ZA 36)).heap[w.heap.size]? = some (.cells ZA 36 (0, 0))) := (((Below.refl _ (w.alloc (.cells ZA 36))).alloc (Nat.le_refl _) _).block w.heap.size (by simp)).trans (heap_alloc_new w _)
      obtain ⟨w1, hw1⟩ : ∃ y, y = (w.alloc (.cells ZA 36)).alloc (.cells ZA 36) := ⟨_, rfl⟩
      rw [← hw1] at B1 G1 G0
      have HNN : Hid (w.heap.size ≠ w.heap.size + 1) := by show _ ≠ _; omega
      have HPP : Hid (w.heap.size ≤ w.heap.size + 1) := by show _ ≤ _; omega
      have HSS : Hid ((cs L).toArray.size = ZA.size) := by show _ = _; rw [HLS.out, HZS.out]
      clear h hZA hin hm h0
      go_enter Try.func25, Try.ntmps25
      go_upto_region 9 with (first
        | (go_at_call 49; rw [← hw1]; clear hw1; refine (HIB.out _).mono ?_; rintro e2 w2 ⟨rfl, B2⟩; have C2 := Lib.hid (B1.out.trans (B2.out.mono B1.out.size)); have G2 := Lib.hid (below_kept B2.out G1.out); have G20 := Lib.hid (below_kept B2.out G0.out)))
      refine wp_region_any (by kernel_rfl) ?_
      change wpAny _ _ _ _ _ _ _ (World.drew _)
      have B3 : Hid (Below w.heap.size w w2.drew) := C2.out.drew
      have G3 : Hid (w2.drew.heap[w.heap.size + 1]? = some (.cells ZA 36 (0, 0))) := G2.out
      have G30 : Hid (w2.drew.heap[w.heap.size]? = some (.cells ZA 36 (0, 0))) := G20.out
      obtain ⟨z, hz9⟩ : ∃ y, y = w2.drew := ⟨_, rfl⟩
      rw [← hz9] at B3 G3 G30 ⊢
      clear hz9
      refine wpAny_of_held (S := fun _ => True) _ _ _ _ ?_
      have SD : (fun _ => True) z := trivial
      refine anyH_take 0 28 (.pointer (some ⟨w.heap.size + 1, 0, none⟩)) SD rfl (by kernel_rfl) (by kernel_rfl) (by kernel_rfl) (fun _ _ _ h => h) (by rfl) (by intro y hy; go_simp) ?_
      try simp only [Act.put, List.setIfInBounds_toArray, List.set_cons_zero, List.set_cons_succ]
      refine anyH_take 1 29 (.slice (some ⟨w.heap.size + 1, 0, none⟩) 8 8) SD rfl (by kernel_rfl) (by kernel_rfl) (by kernel_rfl) (fun _ _ _ h => h) (by rfl) (by intro y hy; go_simp) ?_
      try simp only [Act.put, List.setIfInBounds_toArray, List.set_cons_zero, List.set_cons_succ]
      refine anyH_take 2 30 (.pointer (some ⟨b, 0, none⟩)) SD rfl (by kernel_rfl) (by kernel_rfl) (by kernel_rfl) (fun _ _ _ h => h) (by rfl) (by intro y hy; go_simp) ?_
      try simp only [Act.put, List.setIfInBounds_toArray, List.set_cons_zero, List.set_cons_succ]
      refine anyH_take 3 31 (.int .i64 N) SD rfl (by kernel_rfl) (by kernel_rfl) (by kernel_rfl) (fun _ _ _ h => h) (by rfl) (by intro y hy; go_simp) ?_
      try simp only [Act.put, List.setIfInBounds_toArray, List.set_cons_zero, List.set_cons_succ]
      refine anyH_one 4 (by kernel_rfl) ?_
      refine wpOp_step rfl (fun Kc hKc => ?_)
      go_simp
      refine (HU.out _).mono ?_
      rintro e4 w4 ⟨c4, rfl, rfl⟩
      dsimp only
      refine hKc _ _ ⟨trivial, ?_⟩
      clear hKc Kc
      try simp only [Act.put, List.setIfInBounds_toArray, List.set_cons_zero, List.set_cons_succ]
      refine anyH_one 5 (by kernel_rfl) ?_
      refine op_copyN 5 _ _ _ _ rfl 33 (w.heap.size + 1) 0 8 _ _ ⟨b, 8 * m * 33, none⟩ 36 ZA.toList (cs L) 33 rfl rfl (by simpa using G3.out) Try.underlying40 Try.sizeRef33 HCL.out (fun j v hv => by rw [Addr.add_mid]; exact HRG.out _ B3.out j v hv) (by rw [HCL.out, HZL.out]; omega) HCO.out (fun w5 G5' C5 => ⟨trivial, ?_⟩)
      have G5 : Hid (w5.heap[w.heap.size + 1]? = some (.cells (cs L).toArray 36 (0, 0))) := by
        show _ = _
        have := G5'.out
        rw [List.take_zero, List.nil_append, Nat.zero_add, HCL.out, List.drop_of_length_le (by rw [HZL.out]; omega), List.append_nil] at this
        exact this
      clear G5'
      have G50 := Lib.hid ((C5.block _ HNN.out).trans G30.out)
      have B5 := Lib.hid (C5.below B3.out HPP.out)
      try simp only [Act.put, List.setIfInBounds_toArray, List.set_cons_zero, List.set_cons_succ]
      refine wpAnyH_done (by kernel_rfl) ?_ _
      go_wp2_with (first
        | ((with_reducible refine row_load _ _ _ _ _ _ _ ?_ G5.out Try.underlying36 ?_ hsL ?_); (exact rfl); (exact rfl))
        | ((with_reducible refine row_store _ _ _ _ _ _ _ ?_ ?_ G50.out hsL HSS.out HL1.out ?_); (exact rfl); (exact rfl); intro w6 G6 ch6))
      exact bodyPost_ret (results_cell1 rfl _ _ w.heap.size 36 _ (0, 0) _ rfl G6.out Try.underlying36 rfl hsL) rfl ⟨rfl, Lib.hid (ch6.below B5.out (Nat.le_refl _))⟩
    · rw [Tr.page_out t N hin] at *
      rw [decide_eq_false hin] at HIB
      obtain ⟨ZA, hZA⟩ : ∃ ZA, (cs Pg.zp).toArray = ZA := ⟨_, rfl⟩
      rw [hZA] at hz HZS HZ1 hsL ⊢
      have hzn : ¬ ZA = #[] := fun h => by have := HZS.out; rw [h] at this; simp at this
      have B1 : Hid (Below w.heap.size w ((w.alloc (.cells ZA 36)).alloc (.cells ZA 36))) := ((Below.refl _ w).alloc (Nat.le_refl _) _).alloc (by simp) _
      have G1 : Hid (((w.alloc (.cells ZA 36)).alloc (.cells ZA 36)).heap[w.heap.size + 1]? = some (.cells ZA 36 (0, 0))) := by
        have := heap_alloc_new (w.alloc (.cells ZA 36)) (.cells ZA 36)
        rw [show (w.alloc (.cells ZA 36)).heap.size = w.heap.size + 1 by simp] at this
        exact this
      have G0 : Hid (((w.alloc (.cells ZA 36)).alloc (.cells ZA 36)).heap[w.heap.size]? = some (.cells ZA 36 (0, 0))) := (((Below.refl _ (w.alloc (.cells ZA 36))).alloc (Nat.le_refl _) _).block w.heap.size (by simp)).trans (heap_alloc_new w _)
      obtain ⟨w1, hw1⟩ : ∃ y, y = (w.alloc (.cells ZA 36)).alloc (.cells ZA 36) := ⟨_, rfl⟩
      rw [← hw1] at B1 G1 G0
      clear h hZA hin h0 HOKA HLS HL1 HPV
      go_enter Try.func25, Try.ntmps25
      go_wp2_with (first
        | (go_at_call 49; rw [← hw1]; clear hw1; refine (HIB.out _).mono ?_; rintro e2 w2 ⟨rfl, B2⟩; have C2 := Lib.hid (B1.out.trans (B2.out.mono B1.out.size)); have G2 := Lib.hid (below_kept B2.out G1.out); have G20 := Lib.hid (below_kept B2.out G0.out))
        | ((with_reducible refine row_load _ _ _ _ _ _ _ ?_ G2.out Try.underlying36 ?_ hsL ?_); (exact rfl); (exact rfl))
        | ((with_reducible refine row_store _ _ _ _ _ _ _ ?_ ?_ G20.out hsL ?_ HZ1.out ?_); (exact rfl); (exact rfl); (exact rfl); intro w6 G6 ch6))
      exact bodyPost_ret (results_cell1 rfl _ _ w.heap.size 36 _ (0, 0) _ rfl G6.out Try.underlying36 rfl hsL) rfl ⟨rfl, Lib.hid (ch6.below C2.out (Nat.le_refl _))⟩
end Go.Proofs.Ytfeemeddhhgigaa

/-
  Contract: (*sha.Hash).Sum.
-/
import Derived.Test.YtjidkkehhglahaaDoorShaF
namespace Go.Proofs.YtjidkkehhglahaaDoor
open Go.RowKit

theorem Tryd.sizeHash : (Tryd.prog.info? 49).map (·.size) = some 73 := by kernel_rfl
theorem Tryd.sizeSum : (Tryd.prog.info? 30).map (·.size) = some 32 := by kernel_rfl

/-- An array of one-cell elements, at a place that is known to be in it. -/
theorem agg_index {P : Program} (w : World) (t e : TypeId) (n k : Nat) (cs : Array Value) (v : Value) (i : TypeInfo) (hu : P.underlying t = some (.array n e)) (hi : P.info? e = some i) (hs : i.size = 1)
    (he : ∀ w, (isAgg e).run P w = .ok false w) (hk : k < n) (hv : cs[k]? = some v) :
    (Instr.index t (.agg cs) (.int .i64 (k : Int))).run P w = .ok v w := by
  simp [Instr.index, asIntOf, run_underlying hu, sizeOf, typeInfo, hi, hs, part, he, hv]
  omega


theorem Tryd.info39 : (Tryd.prog.info? 33).map (·.size) = some 1 := by kernel_rfl

theorem HC_one (s : Sha.St) (R : List Int) (n : Int) : (Sha.HC s R n).toArray.all (·.oneCell') = true := by
  refine all_oneCell_toArray (fun v hv => ?_)
  unfold Sha.HC at hv
  rcases List.mem_append.1 hv with h | h
  · simp only [Sha.St.l, List.mem_cons, List.not_mem_nil, or_false] at h
    rcases h with rfl | rfl | rfl | rfl | rfl | rfl | rfl | rfl <;> rfl
  · rcases List.mem_append.1 h with h | h
    · exact bytes_one _ v h
    · simp at h; subst h; rfl
theorem bytes_at {w : World} {g B : Nat} {l : List Int} {t : TypeId} (hl : Sha.Byt l) (hg : B ≠ g) (h : w.heap[B]? = some (.cells (l.map (Value.int .u8)).toArray t (0, 0))) : BytesAt w g (some ⟨B, 0, none⟩) l :=
  ⟨hl, fun _ => ⟨B, 0, rfl, hg, fun j hj => by
    rw [cell_of_row w B (0 + j) _ _ _ h]
    simp [List.getD_eq_getElem?_getD, hj]⟩⟩
theorem sum_pre {w w2 w3 : World} {X Y : Obj} {L R : List Int} {B : Nat} (ht : Tab w 0) (hR : Sha.Rest L R) (G2 : HBlk w2 (w.heap.size + 1) L R L.length) (ch : Chg (w.heap.size + 1) ((w.alloc X).alloc Y) w2)
    (hB : w2.heap.size ≤ B) (GB : w3.heap[B]? = some (.cells ((Sha.pad L.length).map (Value.int .u8)).toArray 5 (0, 0))) (hb : Below w2.heap.size w2 w3) :
    Holds w3 (w.heap.size + 1) L ∧ BytesAt w3 (w.heap.size + 1) (some ⟨B, 0, none⟩) (Sha.pad L.length) ∧ Tab w3 0 ∧ w.heap.size + 1 ≠ 0 ∧ Below w.heap.size w w3 ∧ w3.heap[w.heap.size]? = some X ∧ w.heap.size + 1 < w3.heap.size := by
  have hs : w2.heap.size = w.heap.size + 2 := by rw [ch.size]; simp
  have hb2 : Below w.heap.size w w2 := ch.below (((Below.refl _ w).alloc (Nat.le_refl _) X).alloc (by simp) Y) (by omega)
  have hb3 : Below w.heap.size w w3 := hb2.trans (hb.mono (by omega))
  have hl := ht.lt
  have h3 := hb.size
  refine ⟨⟨R, hR, ?_⟩, bytes_at (Sha.pad_byt _) (by omega) GB, ht.below hb3 hl, by omega, hb3, ?_, by omega⟩
  · unfold HBlk; rw [hb.block _ (by omega)]; exact G2
  · rw [hb.block _ (by omega), ch.block _ (by omega)]; exact heap_alloc2_old w X Y

theorem dg_cell {w : World} {G : Nat} {s : Sha.St} {k : Nat} {t : TypeId} (h : w.heap[G]? = some (.cells ((Sha.dgK s k).map (Value.int .u8)).toArray t (0, 0))) (hk : k ≤ 8) (j : Nat) (hj : j < 32) : w.cell? ⟨G, j, none⟩ = some (.int .u8 ((Sha.dgK s k).getD j 0)) := by
  rw [cell_of_row w G j _ _ _ h]
  simp [List.getD_eq_getElem?_getD, Sha.dgK_len s k hk, hj]
theorem set_u8 {w : World} {G i : Nat} {l : List Int} {x : Int} {t : TypeId} (h : w.heap[G]? = some (.cells (l.map (Value.int .u8)).toArray t (0, 0))) : (w.setCell ⟨G, i, none⟩ (.int .u8 x)).heap[G]? = some (.cells ((l.set i x).map (Value.int .u8)).toArray t (0, 0)) := by
  rw [heap_setCell_same w G i _ t _ h]
  congr 2
  apply Array.ext'
  simp
def SumSay (L : List Int) (w : World) (e : Ending) (w' : World) : Prop := e = .returned (.agg ((Sha.dg L).map (Value.int .u8)).toArray) ∧ Below w.heap.size w w'

set_option maxRecDepth 100000 in
set_option maxHeartbeats 1000000 in
theorem sum_any (hT : TakeSaid) (g : Nat) (L : List Int) (w : World) (hH : Holds w g L) (hL : L.length ≤ 1152921504606846000) (ht : Tab w 0) :
    Calls Tryd.prog 11 #[.pointer (some ⟨g, 0, none⟩)] w (SumSay L w) := by
  have HT := Lib.hid hT; clear hT
  obtain ⟨R, hR, hB⟩ := hH
  have hgl : Hid (g < w.heap.size) := lt_of_block hB
  have c72 := (cell_of_row w g 72 _ _ _ hB).trans (HC_at72 _ R _ hR.1)
  have HB := Lib.hid hB; clear hB
  have HR := Lib.hid hR; clear hR
  have Ht := Lib.hid ht; clear ht
  have hz := (zero_of_info Tryd.zeroHash).1
  obtain ⟨C, HC⟩ : ∃ C, Hid (C = (Sha.HC (Sha.stN L (L.length / 64)) R L.length).toArray) := ⟨_, rfl⟩
  have HCs : Hid (C.size = 73) := by show _ = _; rw [HC.out]; simp [Sha.HC_len, HR.out.1]
  have HB1 : Hid (w.heap[g]? = some (.cells C 49 (0, 0))) := by rw [HC.out]; exact HB.out
  go_enter Tryd.func11, Tryd.ntmps11
  have HB1a : ∀ o : Obj, Hid ((w.alloc o).heap[g]? = some (.cells C 49 (0, 0))) := fun o => (heap_alloc_old w o hgl.out).trans HB1.out
  have HC1 : Hid (C.all (·.oneCell') = true) := by show _ = _; rw [HC.out]; exact HC_one _ _ _
  have HCs2 : Hid (C.size = 73) := HCs.out
  go_upto_region 2 with (first
    | ((with_reducible refine row_load _ _ _ _ _ _ _ ?_ (HB1a _).out Tryd.underlying49 ?_ (row_size Tryd.sizeHash HCs) ?_); (exact rfl); (exact rfl))
    | ((with_reducible refine row_store _ _ _ _ _ _ _ ?_ ?_ (heap_alloc2_new w _ _) (row_size Tryd.sizeHash HCs) ?_ HC1.out ?_); (exact rfl); (exact rfl); (rw [HCs.out]; rfl); intro w2 G2 ch))
  have G2' : Hid (HBlk w2 (w.heap.size + 1) L R L.length) := by
    have h := G2.out
    rw [HC.out] at h
    exact h
  have CH := Lib.hid ch
  have hs2 : Hid (w2.heap.size = w.heap.size + 2) := by show _ = _; rw [CH.out.size]; simp
  have hbw2 : Hid (Below w.heap.size w w2) := CH.out.below (((Below.refl _ w).alloc (Nat.le_refl _) _).alloc (by simp) _) (by omega)
  have d72 : w2.cell? ⟨g, 72, none⟩ = some (.int .u64 L.length) := by rw [hbw2.out.cell (p := ⟨g, 72, none⟩) hgl.out]; exact c72
  clear c72 ch G2 HB1a HC1 HCs2 HCs HB1 HB hz HC
  go_upto_region 3 with (first
    | (go_at_call 28; refine (ending_any L.length (by omega) _).mono ?_; rintro e w3 ⟨B, rfl, hB, GB, hb3⟩; have PRE := Lib.hid (sum_pre Ht.out HR.out G2'.out CH.out hB GB.out hb3); have PL := Lib.hid (Sha.pad_len L.length))
    | (go_at_call 6; refine (add_any HT.out (w.heap.size + 1) L (Sha.pad L.length) _ _ _ PRE.out.1 PRE.out.2.1 (Nat.le_refl _) ?_ ?_ PRE.out.2.2.1 PRE.out.2.2.2.1).mono ?_; (rw [PL.out]; unfold Sha.zs; omega); (rw [PL.out]; unfold Sha.zs; omega); rintro e w4 ⟨rfl, HH, HOO⟩))
  obtain ⟨R4, hR4, hB4⟩ := HH
  have hs4 : Hid (w.heap.size + 1 < w4.heap.size) := lt_of_block hB4
  have hbw4 : Hid (Below w.heap.size w w4) := HOO.below PRE.out.2.2.2.2.1 (by omega) (by have := PRE.out.2.2.2.2.1.size; omega)
  have hres4 : Hid (w4.heap[w.heap.size]? = some (.cells (List.replicate 32 (Value.int .u8 0)).toArray 30 (0, 0))) := by
    show _ = _; rw [HOO.block _ (by have := PRE.out.2.2.2.2.2.2; omega) (by omega)]; exact PRE.out.2.2.2.2.2.1
  have HB4 := Lib.hid hB4
  unfold HBlk at HB4
  generalize hs : Sha.stN (L ++ Sha.pad L.length) ((L ++ Sha.pad L.length).length / 64) = s at HB4
  have HD : Hid (Sha.dg L = Sha.dgK s 8) := by show _ = _; rw [← hs, Sha.dg_eq]
  clear hs hB4 hR4 HOO PRE PL hb3 GB hB hs2 hbw2 d72 G2' CH HT Ht HR
  have HB5 : ∀ o : Obj, Hid ((w4.alloc o).heap[w.heap.size + 1]? = some (.cells (Sha.HC s R4 ((L ++ Sha.pad L.length).length : Nat)).toArray 49 (0, 0))) := fun o => (heap_alloc_old w4 o hs4.out).trans HB4.out
  go_wp2_with ((with_reducible refine mid_load _ _ (w.heap.size + 1) 0 _ _ s.l _ _ ?_ (HB5 _).out (HC_get0 _ _ _) Tryd.underlying45 ?_ ?_ ?_); (exact rfl); (exact rfl); (exact Tryd.size44))
  obtain ⟨i39, hi39, hz39⟩ : ∃ i, Tryd.prog.info? 33 = some i ∧ i.size = 1 := by
    have := Tryd.info39
    cases hq : Tryd.prog.info? 33 with
    | none => rw [hq] at this; cases this
    | some i => rw [hq] at this; exact ⟨i, rfl, by simpa using this⟩
  have HI := Lib.hid (And.intro hi39 hz39); clear hi39 hz39
  have HA : Hid (∀ w, (isAgg 33).run Tryd.prog w = .ok false w) := fun w => by
    unfold isAgg
    rw [Sem.run_bind, run_underlying Tryd.underlying33 w]
    rfl
  go_loopw [18] (fun v18 wr => ∃ k : Nat, k ≤ 8 ∧ v18 = .int .i64 k ∧ Hid (wr.heap[w4.heap.size]? = some (.cells ((Sha.dgK s k).map (Value.int .u8)).toArray 30 (0, 0))) ∧ Hid (wr.heap[w.heap.size]? = some (.cells (List.replicate 32 (Value.int .u8 0)).toArray 30 (0, 0))) ∧ Hid (Below w.heap.size w wr)) (fun v18 _ => 8 - (intOf v18).toNat)
  case atStart =>
    refine ⟨0, by omega, rfl, ?_, ?_, ?_⟩
    · show _ = _; rw [heap_alloc_new, Sha.dgK_zero]; rfl
    · show _ = _; rw [heap_alloc_old _ _ (by have := hs4.out; omega)]; exact hres4.out
    · exact hbw4.out.alloc hbw4.out.size _
  case round =>
    obtain ⟨k, hk, rfl, HG, HRES, HBW⟩ := hrel
    by_cases hlt : k < 8
    · have hix := agg_index (P := Tryd.prog) wr 45 33 8 k s.l.toArray (.int .u32 (s.ints.getD k 0)) i39 Tryd.underlying45 HI.out.1 HI.out.2 HA.out hlt (by simpa using Sha.St.l_get s k hlt)
      obtain ⟨x, HX⟩ : ∃ x, Hid (x = s.ints.getD k 0) := ⟨_, rfl⟩
      rw [← HX.out] at hix
      have c0 := dg_cell HG.out hk (4 * k) (by omega)
      have c1 := dg_cell HG.out hk (4 * k + 1) (by omega)
      have c2 := dg_cell HG.out hk (4 * k + 2) (by omega)
      have c3 := dg_cell HG.out hk (4 * k + 3) (by omega)
      have f0 := frozen_of_row wr w4.heap.size (4 * k) _ _ HG.out
      have f1 := frozen_of_row wr w4.heap.size (4 * k + 1) _ _ HG.out
      have f2 := frozen_of_row wr w4.heap.size (4 * k + 2) _ _ HG.out
      have f3 := frozen_of_row wr w4.heap.size (4 * k + 3) _ _ HG.out
      have hGw : Hid (w.heap.size < w4.heap.size) := by show _ < _; have := hs4.out; omega
      go_wp2
      refine ⟨⟨k + 1, by omega, by go_num, ?_, ?_, ?_⟩, by simp [intOf]; omega⟩
      · have h := set_u8 (x := x % 256) (i := 4 * k + 3) (set_u8 (x := x / 256 % 256) (i := 4 * k + 2) (set_u8 (x := x / 65536 % 256) (i := 4 * k + 1) (set_u8 (x := x / 16777216 % 256) (i := 4 * k) HG.out)))
        have hx := HX.out
        subst hx
        rw [Sha.dgK_step s k hlt] at h
        exact h
      · show _ = _
        rw [heap_setCell_other _ _ _ _ (by have := hGw.out; simp; omega), heap_setCell_other _ _ _ _ (by have := hGw.out; simp; omega), heap_setCell_other _ _ _ _ (by have := hGw.out; simp; omega), heap_setCell_other _ _ _ _ (by have := hGw.out; simp; omega)]
        exact HRES.out
      · have h := hGw.out
        exact (((HBW.out.setCell (by simp; omega) _).setCell (by simp; omega) _).setCell (by simp; omega) _).setCell (by simp; omega) _
    · have E : k = 8 := by omega
      have hge : 8 ≤ k := by omega
      obtain ⟨A, HA1, HA2, HA3⟩ : ∃ A : Array Value, Hid (A = ((Sha.dgK s 8).map (Value.int .u8)).toArray) ∧ Hid (A.size = 32) ∧ Hid (A.all (·.oneCell') = true) :=
        ⟨_, rfl, by show _ = _; simp [Sha.dgK_len s 8 (by omega)], all_oneCell_toArray (bytes_one _)⟩
      have HG8 : Hid (wr.heap[w4.heap.size]? = some (.cells A 30 (0, 0))) := by
        have h := HG.out
        rw [E, ← HA1.out] at h
        exact h
      clear E hlt HG
      go_wp2_with (first
        | ((with_reducible refine row_load _ _ _ _ _ _ _ ?_ HG8.out Tryd.underlying30 ?_ (row_size Tryd.sizeSum HA2) ?_); (exact rfl); (exact rfl))
        | ((with_reducible refine row_store _ _ _ _ _ _ _ ?_ ?_ HRES.out (row_size Tryd.sizeSum HA2) ?_ HA3.out ?_); (exact rfl); (exact rfl); (rw [HA2.out]; rfl); intro w6 G6 ch6))
      refine bodyPost_ret (results_cell_row rfl _ _ w.heap.size 30 A (0, 0) _ rfl G6.out Tryd.underlying30 rfl (row_size Tryd.sizeSum HA2)) rfl ⟨?_, ch6.below HBW.out (Nat.le_refl _)⟩
      rw [HD.out, HA1.out]

end Go.Proofs.YtjidkkehhglahaaDoor

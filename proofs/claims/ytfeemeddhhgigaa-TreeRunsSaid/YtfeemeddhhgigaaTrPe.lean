/-
  The program's tree: contracts: Refs, due, fits; slices.Index, slices.Contains.
-/
import Derived.Test.YtfeemeddhhgigaaTrPd
namespace Go.Proofs.Ytfeemeddhhgigaa
open Go.RowKit

theorem Try.zeroNodeP : (Try.prog.info? 65).map (fun i => (i.zero, i.size)) = some (some (.agg (Tr.ndA none)), 34) := by kernel_rfl
theorem Try.sizeNodeP : (Try.prog.info? 65).map (·.size) = some 34 := by kernel_rfl
theorem Try.sizeNodesP : (Try.prog.info? 66).map (·.size) = some 306 := by kernel_rfl
theorem Try.cellsNodeP : Try.prog.cellsOf 65 = 34 := by kernel_rfl
theorem agg_nodeP (w : World) : (isAgg 65).run Try.prog w = .ok true w := by
  unfold isAgg
  rw [Sem.run_bind, run_underlying Try.underlying65 w]
  rfl
theorem part_nodeP {t : Tr.T} (h : TOk t) (k : Nat) (hk : k < 9) (w : World) : (part 65 (Tr.tcn t).toArray (k * 34)).run Try.prog w = .ok (.agg (Tr.ndA (t.n k))) w := by
  obtain ⟨i, hi⟩ := info_of_underlying Try.underlying65
  unfold part
  rw [Sem.run_bind, agg_nodeP]
  simp only [Result.andThen_ok, if_true, Sem.run_bind, run_sizeOf w hi, Try.cellsNodeP, Sem.run_pure]
  congr 2
  apply Array.ext'
  simp only [Array.toList_extract, List.extract_eq_take_drop, Nat.add_sub_cancel_left]
  show ((Tr.tcn t).drop (k * 34)).take 34 = Tr.ndc (t.n k)
  have hl := ndc_len h k
  apply List.ext_getElem?
  intro j
  rw [List.getElem?_take, List.getElem?_drop]
  by_cases hj : j < 34
  · rw [if_pos hj]
    unfold Tr.tcn
    rw [Tr.flat_get _ 34 9 (fun i _ => ndc_len h i) k j hk hj]
  · rw [if_neg hj, List.getElem?_eq_none (by omega)]
theorem below_kept {w y : World} {g : Nat} {o : Obj} (hb : Below w.heap.size w y) (h : w.heap[g]? = some o) : y.heap[g]? = some o := (hb.block g (lt_of_block h)).trans h
theorem one_rfs (L : List Pg.Rf) : ∀ A ∈ L.map rfA, A.all (·.oneCell') = true := fun A hA => by
  obtain ⟨r, _, rfl⟩ := List.mem_map.1 hA
  exact rfa_one r
theorem alv_len (r : Pg.Rf) : (Tr.alv r).length ≤ 1 := by unfold Tr.alv; split <;> simp
def RpSay (t : Tr.T) (w : World) (e : Ending) (w' : World) : Prop := ToSay (Tr.refs t) w e w'
set_option maxHeartbeats 4000000 in
set_option maxRecDepth 100000 in
theorem prefs_any {K b : Nat} {t : Tr.T} (w : World) (h : PT K w b t) :
    Calls Try.prog 14 #[.pointer (some ⟨b, 0, none⟩)] w (ToSay (Tr.refs t) w) := by
  have HT := Lib.hid (h.told 64)
  have HND : Hid (∀ y, Below w.heap.size w y → y.rangeAt b 2112 (Tr.tcn t).toArray.toList) := fun y hy => (h.old hy).nodes
  have HNS : Hid ((Tr.tcn t).toArray.size = 306) := by show _ = _; rw [List.size_toArray, tcn_len h.ok]
  have hnN := row_size Try.sizeNodesP HNS
  have HPT : Hid (∀ k, k < 9 → ∀ z, (part 65 (Tr.tcn t).toArray (k * 34)).run Try.prog z = .ok (.agg (Tr.ndA (t.n k))) z) := fun k hk z => part_nodeP h.ok k hk z
  have HNO : Hid (∀ j, Pg.Ok (Tr.nr (t.n j))) := fun j => nr_ok h.ok j
  have HNZ : Hid (∀ j, 0 < (Tr.nr (t.n j)).1 ∨ Tr.nr (t.n j) = Pg.zr) := fun j => h.tz.2 j
  have HSZ : Hid (∀ j, (Tr.ndA (t.n j)).size = 34) := fun j => nda_size h.ok j
  have HONE : Hid (∀ j, (Tr.ndA (t.n j)).all (·.oneCell') = true) := fun j => nda_one _
  have HRG : Hid (∀ j (y : World) (g : Nat) (ty : TypeId), y.heap[g]? = some (.cells (Tr.ndA (t.n j)) ty (0, 0)) → y.rangeAt g 1 (rfA (Tr.nr (t.n j))).toList) := fun j y g ty hg i v hv => by
    rw [cell_of_row y g (1 + i) _ _ _ hg]
    have e : (Tr.ndA (t.n j)).toList = .int .i64 (Tr.stn (t.n j)) :: (rfA (Tr.nr (t.n j))).toList := rfl
    have e2 : (Tr.ndA (t.n j)).toList[1 + i]? = some v := by rw [e, Nat.add_comm, List.getElem?_cons_succ]; exact hv
    simpa using e2
  have HFL := Lib.hid (Tr.fr_len t)
  have HFS : Hid (∀ j, ((Tr.blocks t ++ Tr.flat (Tr.fr t) (j + 1)).map rfA) = (Tr.blocks t ++ Tr.flat (Tr.fr t) j).map rfA ++ (Tr.alv (Tr.nr (t.n j))).map rfA) := fun j => by rw [Tr.fr_succ, ← List.append_assoc, List.map_append]
  have HBL := Lib.hid (Tr.blocks_le t)
  have HE : Hid (Tr.refs t = Tr.blocks t ++ Tr.flat (Tr.fr t) 9) := rfl
  obtain ⟨ZN, hZN⟩ : ∃ ZN, Tr.ndA none = ZN := ⟨_, rfl⟩
  have hz := (zero_of_info Try.zeroNodeP).1
  have HZS : Hid (ZN.size = 34) := by show _ = _; rw [← hZN]; rfl
  rw [hZN] at hz
  have hzn : ¬ ZN = #[] := fun h => by have := HZS.out; rw [h] at this; simp at this
  unfold ToSay at HT ⊢
  rw [HE.out]
  clear h hZN
  generalize (Tr.tcn t).toArray = NA at *
  generalize Tr.blocks t = B at *
  go_enter Try.func14, Try.ntmps14
  go_wp2_with (first
    | (go_at_call 45; refine HT.out.mono ?_; rintro e1 w1 ⟨v1, rfl, F1, B1⟩; have N1 := Lib.hid (HND.out _ B1.out))
    | ((with_reducible refine rng_load _ _ _ _ _ _ ?_ N1.out Try.underlying66 ?_ hnN ?_); (exact rfl); (exact rfl)))
  clear hnN N1 HND
  go_loopw [3, 15] (fun v3 v15 wr => ∃ j : Nat, j ≤ 9 ∧ v15 = .int .i64 j ∧ Hid (Fl w.heap.size 33 33 wr v3 ((B ++ Tr.flat (Tr.fr t) j).map rfA)) ∧ Hid (Below w.heap.size w wr)) (fun _ v15 _ => 9 - (intOf v15).toNat)
  case atStart => exact ⟨0, Nat.zero_le _, rfl, by rw [Tr.flat_zero, List.append_nil]; exact F1, B1⟩
  case round =>
    clear B1 F1
    obtain ⟨j, hj, rfl, HF, HB⟩ := hrel
    by_cases hlt : j < 9
    · have hj0 : (j : Int) < 9 := by omega
      have HJ : Hid (j < 9) := hlt
      have HPJ : Hid (∀ z, (part 65 NA (j * 34)).run Try.prog z = .ok (.agg (Tr.ndA (t.n j))) z) := HPT.out j hlt
      have HXS := Lib.hid (HSZ.out j)
      have HX1 := Lib.hid (HONE.out j)
      have HXR := Lib.hid (HRG.out j)
      have hsX := row_size Try.sizeNodeP HXS
      have HS2 := Lib.hid (HFS.out j)
      obtain ⟨R, Z, eA, _, hk, hz0⟩ := rfz (HNO.out j)
      have HRS := Lib.hid hk.size
      have HR1 := Lib.hid hk.one
      have hsR := row_size Try.sizeRef33 HRS
      have HT1 : Hid (∀ (y : World) (g c : Nat), y.heap[g]? = some (.cells R 33 (0, 0)) → Calls Try.prog 45 #[.slice (some ⟨g, 0, none⟩) 1 c] y (ToSay (Tr.alv (Tr.nr (t.n j))) y)) := fun y g c hy => told_one _ (HNO.out j) (HNZ.out j) y g c R eA hy
      rw [eA] at HXR
      have HAL := Lib.hid (alv_len (Tr.nr (t.n j)))
      have HLN : Hid (((B ++ Tr.flat (Tr.fr t) j).map rfA).length ≤ 73) := by
        have q1 := HFL.out j
        have q2 := HBL.out
        show _ ≤ _
        rw [List.length_map, List.length_append]; omega
      unfold ToSay at HT1
      generalize Tr.alv (Tr.nr (t.n j)) = V at *
      generalize Tr.ndA (t.n j) = X at *
      generalize (B ++ Tr.flat (Tr.fr t) j).map rfA = M at *
      clear hk hz0 eA HPT HNO HNZ HSZ HONE HRG HFL HFS hlt HT HE HBL
      go_wp2_with (first
        | ((with_reducible refine row_index _ 65 _ _ NA j 9 34 _ ?_ ?_ Try.underlying66 HJ.out Try.sizeNodeP HPJ.out ?_); (exact rfl); (exact rfl))
        | ((with_reducible refine row_store _ _ _ _ _ _ _ ?_ ?_ (heap_alloc_new _ _) hsX ?_ HX1.out ?_); (exact rfl); (exact rfl); (rw [HXS.out, HZS.out]); intro w2 G2 ch2; have C2 := Lib.hid (ch2.below ((Below.refl _ wr).alloc (Nat.le_refl _) _) (Nat.le_refl _)); have R2 := Lib.hid (HXR.out _ _ _ G2.out))
        | ((with_reducible refine rng_load _ _ _ _ _ _ ?_ R2.out Try.underlying33 ?_ hsR ?_); (exact rfl); (exact rfl))
        | ((with_reducible refine bs1_g _ _ _ R 33 40 Try.underlying40 Try.infoRf (rfa_size pg_zr) HRS.out ?_ ?_ _ ?_ ?_); (decide); (decide); (exact rfl))
        | (go_at_call 45; refine (HT1.out _ _ _ (heap_alloc_new _ _)).mono ?_; rintro e3 w3 ⟨v3', rfl, F3, B3⟩; have C3 := Lib.hid ((C2.out.alloc C2.out.size _).trans (B3.out.mono ((C2.out.alloc C2.out.size _).size))); have FF := Lib.hid (HF.out.old C3.out); have BB := Lib.hid (HB.out.trans (C3.out.mono HB.out.size)))
        | (at_builtin; (with_reducible refine app_fl2 _ _ _ 33 40 Try.underlying40 Try.infoRf (rfa_size pg_zr) ?_ ?_ _ _ w.heap.size _ _ _ _ _ ?_ ?_ FF.out F3.out (one_rfs _) ?_ BB.out.size ?_); (decide); (decide); (exact rfl); (exact rfl); (have q1 := HAL.out; have q2 := HLN.out; rw [List.length_map]; omega); intro v9 y9 HF9 HB9; have B9 := Lib.hid (BB.out.trans HB9.out)))
      exact ⟨⟨j + 1, by omega, by go_num, by rw [HS2.out]; exact HF9, B9⟩, by simp [intOf]; omega⟩
    · have E : j = 9 := by omega
      subst E
      clear hlt
      go_wp2
      go_ret
      exact ⟨_, rfl, HF, HB⟩
/-! ### slices -/
set_option maxHeartbeats 4000000 in
set_option maxRecDepth 100000 in
theorem index_any {B : Nat} {v : Value} {L : List Nat} (N : Int) (w : World) (h : IxO B w v L) (hl : L.length ≤ 1000) :
    Calls Try.prog 67 #[v, .int .i64 N] w fun e w' => ∃ j : Int, e = .returned (.int .i64 j) ∧ (L.any (fun i => decide ((i : Int) = N)) = decide (j ≥ 0)) ∧ Hid (Below w.heap.size w w') := by
  obtain ⟨p, c, rfl⟩ := h.len
  have HM : Hid (∀ y i, Below w.heap.size w y → i < L.length → ∃ g, p = some ⟨g, 0, none⟩ ∧ y.cell? ⟨g, i, none⟩ = some (.int .i64 ((L.getD i 0 : Nat) : Int))) := fun y i hy hi => by
    obtain ⟨g, c', e, _, _, hc⟩ := (h.old hy).at_ i (L.getD i 0) (by rw [List.getD_eq_getElem?_getD, List.getElem?_eq_getElem hi]; rfl)
    injection e with e _ _
    exact ⟨g, e, hc⟩
  have HYES : Hid (∀ i, i < L.length → ((L.getD i 0 : Nat) : Int) = N → L.any (fun i => decide ((i : Int) = N)) = true) := fun i hi e => by
    rw [List.any_eq_true]
    exact ⟨_, getD_mem' L i 0 hi, decide_eq_true e⟩
  have HNO : Hid ((∀ i, i < L.length → ((L.getD i 0 : Nat) : Int) ≠ N) → L.any (fun i => decide ((i : Int) = N)) = false) := fun hall => by
    rw [List.any_eq_false]
    intro x hx
    obtain ⟨i, hi, rfl⟩ := List.mem_iff_getElem.1 hx
    have := hall i hi
    rw [List.getD_eq_getElem?_getD, List.getElem?_eq_getElem hi] at this
    rw [decide_eq_true_eq]
    exact this
  generalize L.any (fun i => decide ((i : Int) = N)) = q at *
  obtain ⟨n, hn⟩ : ∃ n, L.length = n := ⟨_, rfl⟩
  rw [hn] at HM HYES HNO hl ⊢
  clear h hn
  go_enter Try.func67, Try.ntmps67
  go_wp2
  go_loopw [8] (fun v8 wr => ∃ i : Nat, i ≤ n ∧ v8 = .int .i64 i ∧ Hid (∀ j, j < i → ((L.getD j 0 : Nat) : Int) ≠ N) ∧ Hid (Below w.heap.size w wr)) (fun v8 _ => n - (intOf v8).toNat)
  case atStart => exact ⟨0, Nat.zero_le _, rfl, fun j hj => by omega, Below.refl _ _⟩
  case round =>
    obtain ⟨i, hi, rfl, HE, HB⟩ := hrel
    by_cases hlt : i < n
    · obtain ⟨g, hp, d1⟩ := HM.out _ i HB.out hlt
      subst hp
      have hi0 : 0 ≤ (i : Int) := by omega
      have hi1 : (i : Int) < (n : Int) := by omega
      have HG := Lib.hid (HYES.out i hlt)
      have HE2 : Hid (((L.getD i 0 : Nat) : Int) ≠ N → ∀ j, j < i + 1 → ((L.getD j 0 : Nat) : Int) ≠ N) := fun h j hj => by
        by_cases e : j = i
        · rw [e]; exact h
        · exact HE.out j (by omega)
      generalize ((L.getD i 0 : Nat) : Int) = x at *
      by_cases hx : x = N
      · have e := HG.out hx
        subst e
        subst hx
        go_wp2
        go_ret
        exact ⟨_, rfl, hi0, HB⟩
      · have hxn : ¬ N = x := fun e => hx e.symm
        go_wp2
        exact ⟨⟨i + 1, by omega, by go_num, HE2.out hx, HB⟩, by simp [intOf]; omega⟩
    · have E : i = n := by omega
      have e := HNO.out (fun j hj => HE.out j (by omega))
      subst e
      subst E
      clear hlt
      go_wp2
      go_ret
      exact ⟨_, rfl, by decide, HB⟩
set_option maxHeartbeats 4000000 in
set_option maxRecDepth 100000 in
theorem contains_any {B : Nat} {v : Value} {L : List Nat} (N : Int) (w : World) (h : IxO B w v L) (hl : L.length ≤ 1000) :
    Calls Try.prog 66 #[v, .int .i64 N] w (BoSay (L.any (fun i => decide ((i : Int) = N))) w) := by
  have HI := Lib.hid (index_any N w h hl)
  unfold BoSay
  generalize L.any (fun i => decide ((i : Int) = N)) = q at *
  clear h hl
  go_enter Try.func66, Try.ntmps66
  go_wp2_with (first
    | (go_at_call 67; refine HI.out.mono ?_; rintro e1 w1 ⟨j, rfl, hj, B1⟩))
  go_ret
  exact ⟨by rw [hj]; rfl, B1⟩
def Tr.dueB (t : Tr.T) (N : Int) : Bool := (Tr.dirtyL t).any (fun i => decide ((i : Int) = N)) && (decide (N ≠ 0) || decide ((Tr.dirtyL t).length = 1))
def Tr.fitB (t : Tr.T) (N : Int) (r : Pg.Rf) : Bool := if Tr.bare t N then decide (r = Pg.zr) else decide (0 < r.1)
theorem Tr.dirtyL_le (t : Tr.T) : (Tr.dirtyL t).length ≤ 9 := by
  have := Tr.fd_len t 8
  have e : Tr.dirtyL t = Tr.flat (Tr.fd t) 8 ++ if Tr.dty (t.n 0) then [0] else [] := rfl
  rw [e, List.length_append]
  split <;> simp <;> omega
set_option maxHeartbeats 4000000 in
set_option maxRecDepth 100000 in
theorem due_any {K b : Nat} {t : Tr.T} (N : Int) (w : World) (h : PT K w b t) :
    Calls Try.prog 47 #[.pointer (some ⟨b, 0, none⟩), .int .i64 N] w (BoSay (Tr.dueB t N) w) := by
  have HD := Lib.hid (pdirty_any w h)
  have HLE := Lib.hid (Tr.dirtyL_le t)
  have HC : Hid (∀ (y : World) v, IxO w.heap.size y v (Tr.dirtyL t) → Calls Try.prog 66 #[v, .int .i64 N] y (BoSay ((Tr.dirtyL t).any (fun i => decide ((i : Int) = N))) y)) := fun y v hv => contains_any N y hv (by have := HLE.out; omega)
  unfold Tr.dueB BoSay at *
  unfold DiSay at HD
  clear h
  generalize (Tr.dirtyL t).any (fun i => decide ((i : Int) = N)) = q at *
  obtain ⟨n, hn⟩ : ∃ n, (Tr.dirtyL t).length = n := ⟨_, rfl⟩
  have HN := Lib.hid hn
  rw [hn] at ⊢
  clear hn HLE
  generalize Tr.dirtyL t = L at *
  cases q with
  | false =>
    rw [Bool.false_and]
    go_enter Try.func47, Try.ntmps47
    go_wp2_with (first
      | (go_at_call 20; refine HD.out.mono ?_; rintro e1 w1 ⟨v1, rfl, O1, B1⟩; obtain ⟨p1, c1, e9⟩ := O1.out.len; rw [HN.out] at e9; subst e9)
      | (go_at_call 66; refine (HC.out _ _ O1.out).mono ?_; rintro e2 w2 ⟨rfl, B2⟩))
    go_ret
    exact ⟨rfl, Lib.hid (B1.out.trans (B2.out.mono B1.out.size))⟩
  | true =>
    rw [Bool.true_and]
    by_cases h0 : N = 0
    · subst h0
      rw [show decide ((0 : Int) ≠ 0) = false from rfl, Bool.false_or]
      by_cases h1 : n = 1
      · subst h1
        go_enter Try.func47, Try.ntmps47
        go_wp2_with (first
          | (go_at_call 20; refine HD.out.mono ?_; rintro e1 w1 ⟨v1, rfl, O1, B1⟩; obtain ⟨p1, c1, e9⟩ := O1.out.len; rw [HN.out] at e9; subst e9)
          | (go_at_call 66; refine (HC.out _ _ O1.out).mono ?_; rintro e2 w2 ⟨rfl, B2⟩))
        go_ret
        exact ⟨rfl, Lib.hid (B1.out.trans (B2.out.mono B1.out.size))⟩
      · rw [decide_eq_false h1]
        have hn1 : ((n : Int) == 1) = false := by simp; omega
        go_enter Try.func47, Try.ntmps47
        go_wp2_with (first
          | (go_at_call 20; refine HD.out.mono ?_; rintro e1 w1 ⟨v1, rfl, O1, B1⟩; obtain ⟨p1, c1, e9⟩ := O1.out.len; rw [HN.out] at e9; subst e9)
          | (go_at_call 66; refine (HC.out _ _ O1.out).mono ?_; rintro e2 w2 ⟨rfl, B2⟩))
        go_ret
        exact ⟨rfl, Lib.hid (B1.out.trans (B2.out.mono B1.out.size))⟩
    · rw [decide_eq_true h0, Bool.true_or]
      have hm1 : (N == 0) = false := by simp [h0]
      have hm2 : (N != 0) = true := by simp [h0]
      go_enter Try.func47, Try.ntmps47
      go_wp2_with (first
        | (go_at_call 20; refine HD.out.mono ?_; rintro e1 w1 ⟨v1, rfl, O1, B1⟩; obtain ⟨p1, c1, e9⟩ := O1.out.len; rw [HN.out] at e9; subst e9)
        | (go_at_call 66; refine (HC.out _ _ O1.out).mono ?_; rintro e2 w2 ⟨rfl, B2⟩))
      go_ret
      exact ⟨rfl, Lib.hid (B1.out.trans (B2.out.mono B1.out.size))⟩
set_option maxHeartbeats 4000000 in
set_option maxRecDepth 100000 in
theorem fits_any {K b : Nat} {t : Tr.T} (N : Int) (r : Pg.Rf) (hr : Pg.Ok r) (w : World) (h : PT K w b t) :
    Calls Try.prog 48 #[.pointer (some ⟨b, 0, none⟩), .int .i64 N, .agg (rfA r)] w (BoSay (Tr.fitB t N r) w) := by
  obtain ⟨R, Z, eA, _, hk, hz0⟩ := rfz hr
  have HML : Hid (∀ y, Below w.heap.size w y → Calls Try.prog 18 #[.pointer (some ⟨b, 0, none⟩)] y fun e w' => e = .returned (.int .i64 (Tr.mapped t : Int)) ∧ Hid (Below y.heap.size y w')) := fun y hy => pmapped_any y (h.old hy)
  have HLD : Hid (∀ y, Calls Try.prog 50 #[.agg (rfA r)] y (BoSay (decide (0 < r.1)) y)) := fun y => leads_any r hr y
  rw [eA] at HLD ⊢
  have HRS := Lib.hid hk.size
  have HR1 := Lib.hid hk.one
  have heqz := hk.eqz
  have HZB := Lib.hid hz0.built
  have hsR := row_size Try.sizeRef33 HRS
  have B0' : Hid (Below w.heap.size w (w.alloc (.cells R 33))) := (Below.refl _ w).alloc (Nat.le_refl _) _
  have R0' : Hid ((w.alloc (.cells R 33)).heap[w.heap.size]? = some (.cells R 33 (0, 0))) := heap_alloc_new w _
  have hb0 : Tr.bare t N = (decide (N = 0) && decide (Tr.mapped t = 0)) := rfl
  unfold Tr.fitB
  rw [hb0]
  unfold BoSay at *
  obtain ⟨w0, hw0⟩ : ∃ x, x = w.alloc (.cells R 33) := ⟨_, rfl⟩
  rw [← hw0] at B0' R0'
  generalize decide (0 < r.1) = ql at *
  generalize decide (r = Pg.zr) = qz at *
  generalize Tr.mapped t = m at *
  clear h hk hz0 eA hb0
  by_cases h0 : N = 0
  · subst h0
    rw [show decide ((0 : Int) = 0) = true from rfl, Bool.true_and]
    by_cases h1 : m = 0
    · subst h1
      rw [show decide ((0 : Nat) = 0) = true from rfl, if_pos rfl]
      rw [show ((0 : Nat) : Int) = 0 from rfl] at HML
      cases qz <;>
      · go_enter Try.func48, Try.ntmps48
        go_wp2_with (first
          | (go_at_call 18; rw [← hw0]; clear hw0; refine (HML.out _ B0'.out).mono ?_; rintro e1 w1 ⟨rfl, B1⟩; have R1 := Lib.hid (below_kept B1.out R0'.out))
          | ((with_reducible refine row_load _ _ _ _ _ _ _ ?_ R1.out Try.underlying33 ?_ hsR ?_); (exact rfl); (exact rfl))
          | ((with_reducible refine row_build0 _ _ HZB.out ?_)))
        go_ret
        exact ⟨rfl, Lib.hid (B0'.out.trans (B1.out.mono B0'.out.size))⟩
    · rw [decide_eq_false h1, if_neg Bool.false_ne_true]
      have hm1 : ((m : Int) == 0) = false := by simp; omega
      go_enter Try.func48, Try.ntmps48
      go_wp2_with (first
        | (go_at_call 18; rw [← hw0]; clear hw0; refine (HML.out _ B0'.out).mono ?_; rintro e1 w1 ⟨rfl, B1⟩; have R1 := Lib.hid (below_kept B1.out R0'.out))
        | ((with_reducible refine row_load _ _ _ _ _ _ _ ?_ R1.out Try.underlying33 ?_ hsR ?_); (exact rfl); (exact rfl))
        | (go_at_call 50; refine (HLD.out _).mono ?_; rintro e2 w2 ⟨rfl, B2⟩))
      go_ret
      exact ⟨rfl, Lib.hid ((B0'.out.trans (B1.out.mono B0'.out.size)).trans (B2.out.mono (Nat.le_trans B0'.out.size B1.out.size)))⟩
  · rw [decide_eq_false h0, Bool.false_and, if_neg Bool.false_ne_true]
    have hm1 : (N == 0) = false := by simp [h0]
    rw [hw0] at B0' R0'
    clear hw0
    go_enter Try.func48, Try.ntmps48
    go_wp2_with (first
      | ((with_reducible refine row_load _ _ _ _ _ _ _ ?_ R0'.out Try.underlying33 ?_ hsR ?_); (exact rfl); (exact rfl))
      | (go_at_call 50; refine (HLD.out _).mono ?_; rintro e2 w2 ⟨rfl, B2⟩))
    go_ret
    exact ⟨rfl, Lib.hid (B0'.out.trans (B2.out.mono B0'.out.size))⟩
end Go.Proofs.Ytfeemeddhhgigaa

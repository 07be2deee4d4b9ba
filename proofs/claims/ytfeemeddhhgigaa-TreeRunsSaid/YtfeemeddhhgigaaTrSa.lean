/-
  The reference's tree: contract: Saved. (gensaved.py)
-/
import Derived.Test.YtfeemeddhhgigaaTrZ
namespace Go.Proofs.Ytfeemeddhhgigaa
open Go.RowKit

theorem dirt_len (t : Tr.T) (h0 : t.n 0 = some none) : (Tr.dl t = true → 1 < (Tr.dirtyL t).length) ∧ (Tr.dl t = false → (Tr.dirtyL t).length = 1) := by
  have e : Tr.dirtyL t = Tr.flat (Tr.fd t) 8 ++ [0] := by
    have e2 : Tr.dirtyL t = Tr.flat (Tr.fd t) 8 ++ if Tr.dty (t.n 0) then [0] else [] := rfl
    rw [e2, h0]; rfl
  rw [e, List.length_append]
  refine ⟨fun h => ?_, fun h => ?_⟩
  · unfold Tr.dl at h
    rw [List.any_eq_true] at h
    obtain ⟨j, hj, hd⟩ := h
    have hm : j + 1 ∈ Tr.flat (Tr.fd t) 8 := by
      unfold Tr.flat
      rw [List.mem_flatten]
      exact ⟨Tr.fd t j, List.mem_map.2 ⟨j, hj, rfl⟩, by unfold Tr.fd; rw [if_pos hd]; simp⟩
    have := List.length_pos_of_mem hm
    show 1 < _ + 1
    omega
  · have e3 : Tr.flat (Tr.fd t) 8 = Tr.flat (fun _ => ([] : List Nat)) 8 := Tr.flat_congr (fun i hi => by
      unfold Tr.fd
      rw [if_neg]
      rw [Tr.dty_iff]
      exact Tr.dl_no h (i + 1) (by omega) (by omega))
    rw [e3]; rfl
def SvSay (K b : Nat) (t : Tr.T) (E : Int) (w : World) (e : Ending) (w' : World) : Prop := e = .returned (.int .i64 E) ∧ Hid (RS K w' b t) ∧ Hid (Only b w w')
def ZNd : List Value := .int .i64 0 :: .bool false :: cl Pg.zr
theorem Try.zeroNd : (Try.prog.info? 70).map (fun i => (i.zero, i.size)) = some (some (.agg ZNd.toArray), 35) := by kernel_rfl
theorem Try.placesNd : (match Try.prog.underlying 70 with
    | some (.struct fields) => fields.toList.mapM (fun f => (Try.prog.info? f.type).map fun i => (f.offset, i.size))
    | _ => none) = some [(0, 1), (1, 1), (2, 33)] := by kernel_rfl
theorem znd_len : ZNd.length = 35 := by unfold ZNd; rw [List.length_cons, List.length_cons, cl_len Pg.ok_zr]
theorem build_ndr (k : Int) (r : Pg.Rf) (h : Pg.Ok r) : Try.prog.built 70 [(0, .int .i64 k), (2, .agg (cl r).toArray)] = some (.int .i64 k :: .bool false :: cl r).toArray := by
  have hl := cl_len h
  rw [built_of Try.zeroNd Try.placesNd, fill_step _ 0 _ 0 1 _ _ rfl rfl (by rw [List.size_toArray, znd_len]; omega), fill_step _ 2 _ 2 33 _ _ rfl (by show (cl r).toArray.size = 33; rw [List.size_toArray, hl]) (by simp [ZNd, Value.cells, cl_len Pg.ok_zr])]
  have hz := cl_len Pg.ok_zr
  unfold Instr.fill
  simp [ZNd, Value.cells, hz]
set_option maxHeartbeats 4000000 in
set_option maxRecDepth 100000 in
theorem rsaved_any {K b : Nat} {t : Tr.T} (N : Int) (r : Pg.Rf) (hr : Pg.Ok r) (w : World) (h : RS K w b t) (h9 : ∀ i, 9 ≤ i → t.n i = none) :
    Calls Try.prog 43 #[.pointer (some ⟨b, 0, none⟩), .int .i64 N, .agg (cl r).toArray] w (SvSay K b (Tr.saveI t N r) (Tr.saveE t N r) w) := by
  obtain ⟨vb, vn, L, hT, hL⟩ := h
  have hLl := hL.len
  obtain ⟨pb, cb, rfl⟩ := hT.lenb
  obtain ⟨RR, Z, eR, hk⟩ := rfk hr
  have hcr : (cl r).toArray = RR := by
    have e6 : R33 r = .agg (cl r).toArray := rfl
    rw [e6] at eR
    injection eR
  have HRS : Hid ((cl r).toArray.size = 33) := rfa_size hr
  have hf0 : (cl r).toArray[0]? = some (.int .i64 r.1) := rfl
  have heqz := hk.eqz
  have HBL := Lib.hid hk.built
  have HD : Hid (∀ y, Below w.heap.size w y → Calls Try.prog 55 #[.pointer (some ⟨b, 0, none⟩), .int .i64 N] y fun e w' => e = .returned (.bool (decide (Tr.inN N) && Tr.dty (t.n N.toNat))) ∧ Hid (Below y.heap.size y w')) := fun y hy => dirty1_any N y (hT.old hy) (by omega) h9
  have HT0 : Hid (∀ y, Below w.heap.size w y → RT K y b (.slice pb (Tr.bl t).length cb) vn L t) := fun y hy => hT.old hy
  have HLG := Lib.hid hL
  have B0' : Below w.heap.size w (w.alloc (.cells (cl r).toArray 33)) := (Below.refl _ w).alloc (Nat.le_refl _) _
  have e0 : (w.alloc (.cells (cl r).toArray 33)).cell? ⟨w.heap.size, 0, none⟩ = some (.int .i64 r.1) := by rw [cell_of_row _ _ _ _ _ _ (heap_alloc_new w _)]; exact hf0
  have hbl := Tr.bl_len t
  have hble := Tr.bl_le t
  have hbr : Tr.bare t N = (decide (N = 0) && decide (Tr.mapped t = 0)) := rfl
  by_cases hd : (decide (Tr.inN N) && Tr.dty (t.n N.toNat)) = true
  · rw [Bool.and_eq_true, decide_eq_true_eq, Tr.dty_iff] at hd
    obtain ⟨hN, hn⟩ := hd
    have hdt : (decide (Tr.inN N) && Tr.dty (t.n N.toNat)) = true := by rw [Bool.and_eq_true, decide_eq_true_eq, Tr.dty_iff]; exact ⟨hN, hn⟩
    have hdf : ¬ (decide (Tr.inN N) && Tr.dty (t.n N.toNat)) = false := by rw [hdt]; decide
    rw [hdt] at HD
    have hi9 : N.toNat < 9 := by unfold Tr.inN at hN; omega
    have HIS : Hid (∀ y, RT K y b (.slice pb (Tr.bl t).length cb) vn L t → Calls Try.prog 64 #[.pointer (some ⟨b, 0, none⟩), .agg (.int .i64 N :: .bool false :: cl r).toArray] y (IsSay K b (.slice pb (Tr.bl t).length cb) (Tr.wo L N.toNat ++ [⟨N.toNat, false, r⟩]) (Tr.saveT t N.toNat r) y)) := fun y hy => by
      have q := is_any (⟨N.toNat, false, r⟩ : Tr.Nn) y hy (by omega) hL.ok hr (by show N.toNat < 1000; omega)
      have e5 : Tr.nnA ⟨N.toNat, false, r⟩ = (.int .i64 N :: .bool false :: cl r).toArray := by
        unfold Tr.nnA
        show (Value.int .i64 ((N.toNat : Nat) : Int) :: _ : List Value).toArray = _
        rw [show ((N.toNat : Nat) : Int) = N by unfold Tr.inN at hN; omega]
      rw [e5] at q
      exact q
    have HGL := Lib.hid (hL.is (⟨N.toNat, false, r⟩ : Tr.Nn) hr hi9)
    have HBU := Lib.hid (build_ndr N r hr)
    have HDD : Hid (∀ y, Below w.heap.size w y → Calls Try.prog 31 #[.pointer (some ⟨b, 0, none⟩)] y fun e w' => ∃ p c, e = .returned (.slice p (Tr.dirtyL t).length c) ∧ Hid (Below y.heap.size y w')) := fun y hy => (rdirty_any y (hT.old hy) (by omega) h9).mono (by
      rintro e w' ⟨v, rfl, h1, h2⟩
      obtain ⟨p, c, hv⟩ := h1.out.len
      exact ⟨p, c, by rw [hv], h2⟩)
    have hdl := fun q0 => dirt_len t q0
    generalize hNA : (.int .i64 N :: .bool false :: cl r : List Value).toArray = NA at *
    have hrr : r ≠ Pg.zr → decide (r = Pg.zr) = false := fun q => decide_eq_false q
    have hrz : r = Pg.zr → decide (r = Pg.zr) = true := fun q => decide_eq_true q
    generalize hR : (cl r).toArray = R at *
    subst hcr
    have hsR := row_size Try.sizeRef33 HRS
    obtain ⟨w0, hw0⟩ : ∃ y, y = w.alloc (.cells R 33) := ⟨_, rfl⟩
    have R0 : Hid (w0.heap[w.heap.size]? = some (.cells R 33 (0, 0))) := by show _ = _; rw [hw0]; exact heap_alloc_new w _
    have B0 : Hid (Below w.heap.size w w0) := by rw [hw0]; exact B0'
    unfold SvSay
    unfold IsSay at HIS
    rw [hbl] at HT0 HIS hble
    clear B0' hT hL hk eR hNA hR hLl hi9 hdt hbl
    by_cases hN0 : N = 0
    · subst hN0
      obtain ⟨hl1, hl2⟩ := hdl hn
      cases hdv : Tr.dl t with
      | true =>
        have hlen : 1 < (((Tr.dirtyL t).length : Nat) : Int) := by have := hl1 hdv; omega
        have hE : Tr.saveE t 0 r = 16 := by unfold Tr.saveE; rw [if_neg hdf, if_pos ⟨rfl, hdv⟩]
        have hI : Tr.saveI t 0 r = t := by unfold Tr.saveI; rw [hE, if_neg (by decide)]
        rw [hE, hI]
        go_enter Try.func43, Try.ntmps43
        go_wp2_with (first
          | (go_at_call 55; rw [← hw0]; clear hw0 e0; refine (HD.out _ B0.out).mono ?_; rintro e1 w1 ⟨rfl, B1⟩; have BB := Lib.hid (B0.out.trans (B1.out.mono B0.out.size)); have R1 : Hid (w1.heap[w.heap.size]? = some (.cells R 33 (0, 0))) := (B1.out.block _ (lt_of_block R0.out)).trans R0.out; have T1 := Lib.hid (HT0.out _ BB.out); have d0 := T1.out.c0; have x1 : w1.cell? ⟨w.heap.size, 0, none⟩ = some (.int .i64 r.1) := (by rw [cell_of_row w1 _ _ _ _ _ R1.out]; exact hf0))
          | (go_at_call 31; refine (HDD.out _ BB.out).mono ?_; rintro e2 w2 ⟨pd, cd, rfl, B2⟩; have BC := Lib.hid (BB.out.trans (B2.out.mono BB.out.size)); have R2 : Hid (w2.heap[w.heap.size]? = some (.cells R 33 (0, 0))) := (B2.out.block _ (lt_of_block R1.out)).trans R1.out; have T2 := Lib.hid (HT0.out _ BC.out); have d02 := T2.out.c0; have x2 : w2.cell? ⟨w.heap.size, 0, none⟩ = some (.int .i64 r.1) := (by rw [cell_of_row w2 _ _ _ _ _ R2.out]; exact hf0))
          | ((with_reducible refine row_load_g _ _ w.heap.size _ _ _ _ ?_ ?_ R2.out Try.underlying33 ?_ hsR ?_); (exact rfl); (exact rfl); (exact rfl))
          | ((with_reducible refine row_load _ _ _ _ _ _ _ ?_ R2.out Try.underlying33 ?_ hsR ?_); (exact rfl); (exact rfl))
          | ((with_reducible refine row_build0_g _ _ ?_ HBL.out ?_); (exact rfl)))
        go_ret
        exact ⟨rfl, Lib.hid (T2.out.rs HLG.out), Lib.hid (only_of_below BC.out)⟩
      | false =>
        have hlen := hl2 hdv
        rw [hlen] at HDD
        by_cases hm : Tr.mapped t = 0
        · have hbare : Tr.bare t 0 = true := by rw [hbr, hm]; rfl
          rw [hm] at HT0 HIS
          by_cases hz : r = Pg.zr
          · simp only [hrz hz] at heqz
            have hE : Tr.saveE t 0 r = 0 := by unfold Tr.saveE; rw [if_neg hdf, if_neg (by rw [hdv]; simp), if_neg (by rw [hbare]; simp [hz])]
            have hI : Tr.saveI t 0 r = Tr.saveT t (0 : Int).toNat r := by unfold Tr.saveI; rw [hE, if_pos rfl]
            rw [hE, hI]
            go_enter Try.func43, Try.ntmps43
            go_wp2_with (first
              | (go_at_call 55; rw [← hw0]; clear hw0 e0; refine (HD.out _ B0.out).mono ?_; rintro e1 w1 ⟨rfl, B1⟩; have BB := Lib.hid (B0.out.trans (B1.out.mono B0.out.size)); have R1 : Hid (w1.heap[w.heap.size]? = some (.cells R 33 (0, 0))) := (B1.out.block _ (lt_of_block R0.out)).trans R0.out; have T1 := Lib.hid (HT0.out _ BB.out); have d0 := T1.out.c0; have x1 : w1.cell? ⟨w.heap.size, 0, none⟩ = some (.int .i64 r.1) := (by rw [cell_of_row w1 _ _ _ _ _ R1.out]; exact hf0))
              | (go_at_call 31; refine (HDD.out _ BB.out).mono ?_; rintro e2 w2 ⟨pd, cd, rfl, B2⟩; have BC := Lib.hid (BB.out.trans (B2.out.mono BB.out.size)); have R2 : Hid (w2.heap[w.heap.size]? = some (.cells R 33 (0, 0))) := (B2.out.block _ (lt_of_block R1.out)).trans R1.out; have T2 := Lib.hid (HT0.out _ BC.out); have d02 := T2.out.c0; have x2 : w2.cell? ⟨w.heap.size, 0, none⟩ = some (.int .i64 r.1) := (by rw [cell_of_row w2 _ _ _ _ _ R2.out]; exact hf0))
              | ((with_reducible refine row_load_g _ _ w.heap.size _ _ _ _ ?_ ?_ R2.out Try.underlying33 ?_ hsR ?_); (exact rfl); (exact rfl); (exact rfl))
              | ((with_reducible refine row_load _ _ _ _ _ _ _ ?_ R2.out Try.underlying33 ?_ hsR ?_); (exact rfl); (exact rfl))
              | ((with_reducible refine row_build0_g _ _ ?_ HBL.out ?_); (exact rfl))
              | ((with_reducible refine exec_row2 _ _ _ _ _ _ _ _ ?_ ?_ HBU.out ?_); (exact rfl); (exact rfl))
              | (go_at_call 64; refine (HIS.out _ T2.out).mono ?_; rintro e5 w5 ⟨vn5, rfl, T5, O5⟩))
            go_ret
            exact ⟨rfl, Lib.hid (T5.out.rs HGL.out), Lib.hid ((only_of_below BC.out).trans O5.out)⟩
          · simp only [hrr hz] at heqz
            have hE : Tr.saveE t 0 r = 7 := by unfold Tr.saveE; rw [if_neg hdf, if_neg (by rw [hdv]; simp), if_pos (Or.inl ⟨hbare, hz⟩)]
            have hI : Tr.saveI t 0 r = t := by unfold Tr.saveI; rw [hE, if_neg (by decide)]
            rw [hE, hI]
            go_enter Try.func43, Try.ntmps43
            go_wp2_with (first
              | (go_at_call 55; rw [← hw0]; clear hw0 e0; refine (HD.out _ B0.out).mono ?_; rintro e1 w1 ⟨rfl, B1⟩; have BB := Lib.hid (B0.out.trans (B1.out.mono B0.out.size)); have R1 : Hid (w1.heap[w.heap.size]? = some (.cells R 33 (0, 0))) := (B1.out.block _ (lt_of_block R0.out)).trans R0.out; have T1 := Lib.hid (HT0.out _ BB.out); have d0 := T1.out.c0; have x1 : w1.cell? ⟨w.heap.size, 0, none⟩ = some (.int .i64 r.1) := (by rw [cell_of_row w1 _ _ _ _ _ R1.out]; exact hf0))
              | (go_at_call 31; refine (HDD.out _ BB.out).mono ?_; rintro e2 w2 ⟨pd, cd, rfl, B2⟩; have BC := Lib.hid (BB.out.trans (B2.out.mono BB.out.size)); have R2 : Hid (w2.heap[w.heap.size]? = some (.cells R 33 (0, 0))) := (B2.out.block _ (lt_of_block R1.out)).trans R1.out; have T2 := Lib.hid (HT0.out _ BC.out); have d02 := T2.out.c0; have x2 : w2.cell? ⟨w.heap.size, 0, none⟩ = some (.int .i64 r.1) := (by rw [cell_of_row w2 _ _ _ _ _ R2.out]; exact hf0))
              | ((with_reducible refine row_load_g _ _ w.heap.size _ _ _ _ ?_ ?_ R2.out Try.underlying33 ?_ hsR ?_); (exact rfl); (exact rfl); (exact rfl))
              | ((with_reducible refine row_load _ _ _ _ _ _ _ ?_ R2.out Try.underlying33 ?_ hsR ?_); (exact rfl); (exact rfl))
              | ((with_reducible refine row_build0_g _ _ ?_ HBL.out ?_); (exact rfl)))
            go_ret
            exact ⟨rfl, Lib.hid (T2.out.rs HLG.out), Lib.hid (only_of_below BC.out)⟩
        · have hbare : Tr.bare t 0 = false := by rw [hbr, decide_eq_false hm, Bool.and_false]
          have hm0 : ¬ (((Tr.mapped t : Nat) : Int) = 0) := by omega
          have hm1 : ((((Tr.mapped t : Nat) : Int)) == 0) = false := beq_eq_false_iff_ne.2 hm0
          have hm2 : (!((((Tr.mapped t : Nat) : Int)) == 0)) = true := by rw [hm1]; rfl
          by_cases hp : r.1 < 1
          · have hE : Tr.saveE t 0 r = 7 := by unfold Tr.saveE; rw [if_neg hdf, if_neg (by rw [hdv]; simp), if_pos (Or.inr ⟨hbare, hp⟩)]
            have hI : Tr.saveI t 0 r = t := by unfold Tr.saveI; rw [hE, if_neg (by decide)]
            rw [hE, hI]
            go_enter Try.func43, Try.ntmps43
            go_wp2_with (first
              | (go_at_call 55; rw [← hw0]; clear hw0 e0; refine (HD.out _ B0.out).mono ?_; rintro e1 w1 ⟨rfl, B1⟩; have BB := Lib.hid (B0.out.trans (B1.out.mono B0.out.size)); have R1 : Hid (w1.heap[w.heap.size]? = some (.cells R 33 (0, 0))) := (B1.out.block _ (lt_of_block R0.out)).trans R0.out; have T1 := Lib.hid (HT0.out _ BB.out); have d0 := T1.out.c0; have x1 : w1.cell? ⟨w.heap.size, 0, none⟩ = some (.int .i64 r.1) := (by rw [cell_of_row w1 _ _ _ _ _ R1.out]; exact hf0))
              | (go_at_call 31; refine (HDD.out _ BB.out).mono ?_; rintro e2 w2 ⟨pd, cd, rfl, B2⟩; have BC := Lib.hid (BB.out.trans (B2.out.mono BB.out.size)); have R2 : Hid (w2.heap[w.heap.size]? = some (.cells R 33 (0, 0))) := (B2.out.block _ (lt_of_block R1.out)).trans R1.out; have T2 := Lib.hid (HT0.out _ BC.out); have d02 := T2.out.c0; have x2 : w2.cell? ⟨w.heap.size, 0, none⟩ = some (.int .i64 r.1) := (by rw [cell_of_row w2 _ _ _ _ _ R2.out]; exact hf0))
              | ((with_reducible refine row_load_g _ _ w.heap.size _ _ _ _ ?_ ?_ R2.out Try.underlying33 ?_ hsR ?_); (exact rfl); (exact rfl); (exact rfl))
              | ((with_reducible refine row_load _ _ _ _ _ _ _ ?_ R2.out Try.underlying33 ?_ hsR ?_); (exact rfl); (exact rfl))
              | ((with_reducible refine row_build0_g _ _ ?_ HBL.out ?_); (exact rfl)))
            go_ret
            exact ⟨rfl, Lib.hid (T2.out.rs HLG.out), Lib.hid (only_of_below BC.out)⟩
          · have hE : Tr.saveE t 0 r = 0 := by unfold Tr.saveE; rw [if_neg hdf, if_neg (by rw [hdv]; simp), if_neg (by rw [hbare]; simp; omega)]
            have hI : Tr.saveI t 0 r = Tr.saveT t (0 : Int).toNat r := by unfold Tr.saveI; rw [hE, if_pos rfl]
            rw [hE, hI]
            go_enter Try.func43, Try.ntmps43
            go_wp2_with (first
              | (go_at_call 55; rw [← hw0]; clear hw0 e0; refine (HD.out _ B0.out).mono ?_; rintro e1 w1 ⟨rfl, B1⟩; have BB := Lib.hid (B0.out.trans (B1.out.mono B0.out.size)); have R1 : Hid (w1.heap[w.heap.size]? = some (.cells R 33 (0, 0))) := (B1.out.block _ (lt_of_block R0.out)).trans R0.out; have T1 := Lib.hid (HT0.out _ BB.out); have d0 := T1.out.c0; have x1 : w1.cell? ⟨w.heap.size, 0, none⟩ = some (.int .i64 r.1) := (by rw [cell_of_row w1 _ _ _ _ _ R1.out]; exact hf0))
              | (go_at_call 31; refine (HDD.out _ BB.out).mono ?_; rintro e2 w2 ⟨pd, cd, rfl, B2⟩; have BC := Lib.hid (BB.out.trans (B2.out.mono BB.out.size)); have R2 : Hid (w2.heap[w.heap.size]? = some (.cells R 33 (0, 0))) := (B2.out.block _ (lt_of_block R1.out)).trans R1.out; have T2 := Lib.hid (HT0.out _ BC.out); have d02 := T2.out.c0; have x2 : w2.cell? ⟨w.heap.size, 0, none⟩ = some (.int .i64 r.1) := (by rw [cell_of_row w2 _ _ _ _ _ R2.out]; exact hf0))
              | ((with_reducible refine row_load_g _ _ w.heap.size _ _ _ _ ?_ ?_ R2.out Try.underlying33 ?_ hsR ?_); (exact rfl); (exact rfl); (exact rfl))
              | ((with_reducible refine row_load _ _ _ _ _ _ _ ?_ R2.out Try.underlying33 ?_ hsR ?_); (exact rfl); (exact rfl))
              | ((with_reducible refine row_build0_g _ _ ?_ HBL.out ?_); (exact rfl))
              | ((with_reducible refine exec_row2 _ _ _ _ _ _ _ _ ?_ ?_ HBU.out ?_); (exact rfl); (exact rfl))
              | (go_at_call 64; refine (HIS.out _ T2.out).mono ?_; rintro e5 w5 ⟨vn5, rfl, T5, O5⟩))
            go_ret
            exact ⟨rfl, Lib.hid (T5.out.rs HGL.out), Lib.hid ((only_of_below BC.out).trans O5.out)⟩
    · have hbare : Tr.bare t N = false := by rw [hbr, decide_eq_false hN0, Bool.false_and]
      by_cases hp : r.1 < 1
      · have hE : Tr.saveE t N r = 7 := by unfold Tr.saveE; rw [if_neg hdf, if_neg (fun q => hN0 q.1), if_pos (Or.inr ⟨hbare, hp⟩)]
        have hI : Tr.saveI t N r = t := by unfold Tr.saveI; rw [hE, if_neg (by decide)]
        rw [hE, hI]
        go_enter Try.func43, Try.ntmps43
        go_wp2_with (first
          | (go_at_call 55; rw [← hw0]; clear hw0 e0; refine (HD.out _ B0.out).mono ?_; rintro e1 w1 ⟨rfl, B1⟩; have BB := Lib.hid (B0.out.trans (B1.out.mono B0.out.size)); have R1 : Hid (w1.heap[w.heap.size]? = some (.cells R 33 (0, 0))) := (B1.out.block _ (lt_of_block R0.out)).trans R0.out; have T1 := Lib.hid (HT0.out _ BB.out); have d0 := T1.out.c0; have x1 : w1.cell? ⟨w.heap.size, 0, none⟩ = some (.int .i64 r.1) := (by rw [cell_of_row w1 _ _ _ _ _ R1.out]; exact hf0))
          | ((with_reducible refine row_load_g _ _ w.heap.size _ _ _ _ ?_ ?_ R1.out Try.underlying33 ?_ hsR ?_); (exact rfl); (exact rfl); (exact rfl))
          | ((with_reducible refine row_load _ _ _ _ _ _ _ ?_ R1.out Try.underlying33 ?_ hsR ?_); (exact rfl); (exact rfl))
          | ((with_reducible refine row_build0_g _ _ ?_ HBL.out ?_); (exact rfl)))
        go_ret
        exact ⟨rfl, Lib.hid (T1.out.rs HLG.out), Lib.hid (only_of_below BB.out)⟩
      · have hE : Tr.saveE t N r = 0 := by unfold Tr.saveE; rw [if_neg hdf, if_neg (fun q => hN0 q.1), if_neg (by rw [hbare]; simp; omega)]
        have hI : Tr.saveI t N r = Tr.saveT t N.toNat r := by unfold Tr.saveI; rw [hE, if_pos rfl]
        rw [hE, hI]
        go_enter Try.func43, Try.ntmps43
        go_wp2_with (first
          | (go_at_call 55; rw [← hw0]; clear hw0 e0; refine (HD.out _ B0.out).mono ?_; rintro e1 w1 ⟨rfl, B1⟩; have BB := Lib.hid (B0.out.trans (B1.out.mono B0.out.size)); have R1 : Hid (w1.heap[w.heap.size]? = some (.cells R 33 (0, 0))) := (B1.out.block _ (lt_of_block R0.out)).trans R0.out; have T1 := Lib.hid (HT0.out _ BB.out); have d0 := T1.out.c0; have x1 : w1.cell? ⟨w.heap.size, 0, none⟩ = some (.int .i64 r.1) := (by rw [cell_of_row w1 _ _ _ _ _ R1.out]; exact hf0))
          | ((with_reducible refine row_load_g _ _ w.heap.size _ _ _ _ ?_ ?_ R1.out Try.underlying33 ?_ hsR ?_); (exact rfl); (exact rfl); (exact rfl))
          | ((with_reducible refine row_load _ _ _ _ _ _ _ ?_ R1.out Try.underlying33 ?_ hsR ?_); (exact rfl); (exact rfl))
          | ((with_reducible refine row_build0_g _ _ ?_ HBL.out ?_); (exact rfl))
          | ((with_reducible refine exec_row2 _ _ _ _ _ _ _ _ ?_ ?_ HBU.out ?_); (exact rfl); (exact rfl))
          | (go_at_call 64; refine (HIS.out _ T1.out).mono ?_; rintro e5 w5 ⟨vn5, rfl, T5, O5⟩))
        go_ret
        exact ⟨rfl, Lib.hid (T5.out.rs HGL.out), Lib.hid ((only_of_below BB.out).trans O5.out)⟩
  · have hdt : (decide (Tr.inN N) && Tr.dty (t.n N.toNat)) = false := by rw [Bool.not_eq_true] at hd; exact hd
    rw [hdt] at HD
    generalize hR : (cl r).toArray = R at *
    subst hcr
    have hsR := row_size Try.sizeRef33 HRS
    obtain ⟨w0, hw0⟩ : ∃ y, y = w.alloc (.cells R 33) := ⟨_, rfl⟩
    have R0 : Hid (w0.heap[w.heap.size]? = some (.cells R 33 (0, 0))) := by show _ = _; rw [hw0]; exact heap_alloc_new w _
    have B0 : Hid (Below w.heap.size w w0) := by rw [hw0]; exact B0'
    unfold SvSay
    have hE : Tr.saveE t N r = 16 := by unfold Tr.saveE; rw [if_pos hdt]
    have hI : Tr.saveI t N r = t := by unfold Tr.saveI; rw [hE, if_neg (by decide)]
    rw [hE, hI]
    go_enter Try.func43, Try.ntmps43
    go_wp2_with (first
      | (go_at_call 55; rw [← hw0]; clear hw0 e0; refine (HD.out _ B0.out).mono ?_; rintro e1 w1 ⟨rfl, B1⟩; have BB := Lib.hid (B0.out.trans (B1.out.mono B0.out.size)); have R1 : Hid (w1.heap[w.heap.size]? = some (.cells R 33 (0, 0))) := (B1.out.block _ (lt_of_block R0.out)).trans R0.out; have T1 := Lib.hid (HT0.out _ BB.out); have d0 := T1.out.c0; have x1 : w1.cell? ⟨w.heap.size, 0, none⟩ = some (.int .i64 r.1) := (by rw [cell_of_row w1 _ _ _ _ _ R1.out]; exact hf0))
      | ((with_reducible refine row_load_g _ _ w.heap.size _ _ _ _ ?_ ?_ R1.out Try.underlying33 ?_ hsR ?_); (exact rfl); (exact rfl); (exact rfl))
      | ((with_reducible refine row_load _ _ _ _ _ _ _ ?_ R1.out Try.underlying33 ?_ hsR ?_); (exact rfl); (exact rfl))
      | ((with_reducible refine row_build0_g _ _ ?_ HBL.out ?_); (exact rfl)))
    go_ret
    exact ⟨rfl, Lib.hid (T1.out.rs HLG.out), Lib.hid (only_of_below BB.out)⟩
end Go.Proofs.Ytfeemeddhhgigaa

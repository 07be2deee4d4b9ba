/-
  The program's tree: contract: Saved.
-/
import Derived.Test.YtfeemeddhhgigaaTrPg
namespace Go.Proofs.Ytfeemeddhhgigaa
open Go.RowKit

theorem Try.placesNodeP : (match Try.prog.underlying 65 with
    | some (.struct fields) => fields.toList.mapM (fun f => (Try.prog.info? f.type).map fun i => (f.offset, i.size))
    | _ => none) = some [(0, 1), (1, 33)] := by kernel_rfl
theorem build_ndp (r : Pg.Rf) (h : Pg.Ok r) : Try.prog.built 65 [(0, .int .i64 1), (1, .agg (rfA r))] = some (Tr.ndA (some (some r))) := by
  have hl := cl_len h
  have hz := cl_len Pg.ok_zr
  have hs : (Tr.ndA none).size = 34 := by unfold Tr.ndA Tr.ndc; rw [List.size_toArray, List.length_cons]; exact congrArg (· + 1) hz
  rw [built_of Try.zeroNodeP Try.placesNodeP, fill_step _ 0 _ 0 1 _ _ rfl rfl (by rw [hs]; omega), fill_step _ 1 _ 1 33 _ _ rfl (by show (cl r).toArray.size = 33; rw [List.size_toArray, hl]) (by unfold Tr.ndA Tr.ndc Tr.nr; simp [Value.cells, hz])]
  unfold Instr.fill
  unfold Tr.ndA Tr.ndc Tr.nr Tr.stn rfA
  simp [Value.cells, hz]
theorem build_nds : Try.prog.built 65 [(0, .int .i64 2)] = some (Tr.ndA (some none)) := by kernel_rfl
theorem Tr.any_dirty (t : Tr.T) (N : Int) : (Tr.dirtyL t).any (fun i => decide ((i : Int) = N)) = (decide (Tr.inN N) && Tr.dty (t.n N.toNat)) := by
  rw [Bool.eq_iff_iff, List.any_eq_true, Bool.and_eq_true, decide_eq_true_eq, Tr.dty_iff]
  constructor
  · rintro ⟨i, hi, e⟩
    obtain rfl := of_decide_eq_true e
    obtain ⟨h1, h2⟩ := (Tr.dirty_mem t i).1 hi
    exact ⟨by unfold Tr.inN; omega, by rw [Int.toNat_natCast]; exact h2⟩
  · rintro ⟨h1, h2⟩
    refine ⟨N.toNat, (Tr.dirty_mem t _).2 ⟨by unfold Tr.inN at h1; omega, h2⟩, decide_eq_true ?_⟩
    unfold Tr.inN at h1
    omega
theorem Tr.fit_if (t : Tr.T) (N : Int) (r : Pg.Rf) : (if (Tr.bare t N = true ∧ r ≠ Pg.zr) ∨ (Tr.bare t N = false ∧ r.1 < 1) then (7 : Int) else 0) = if Tr.fitB t N r then 0 else 7 := by
  unfold Tr.fitB
  cases hb : Tr.bare t N with
  | true =>
    by_cases hr : r = Pg.zr
    · rw [if_neg (by simp [hr]), if_pos rfl, decide_eq_true hr]
      rfl
    · rw [if_pos (Or.inl ⟨rfl, hr⟩), if_pos rfl, decide_eq_false hr]
      rfl
  | false =>
    by_cases hr : 0 < r.1
    · rw [if_neg (by simp; omega), if_neg Bool.false_ne_true, decide_eq_true hr]
      rfl
    · rw [if_pos (Or.inr ⟨rfl, by omega⟩), if_neg Bool.false_ne_true, decide_eq_false hr]
      rfl
theorem Tr.saveE_due (t : Tr.T) (N : Int) (r : Pg.Rf) : Tr.saveE t N r = if Tr.dueB t N then (if Tr.fitB t N r then 0 else 7) else 16 := by
  unfold Tr.saveE Tr.dueB
  rw [Tr.any_dirty]
  by_cases h1 : (decide (Tr.inN N) && Tr.dty (t.n N.toNat)) = false
  · rw [if_pos h1, h1, Bool.false_and]
    rfl
  · rw [if_neg h1]
    rw [Bool.not_eq_false] at h1
    rw [h1, Bool.true_and]
    by_cases h0 : N = 0
    · subst h0
      rw [Bool.and_eq_true, Tr.dty_iff] at h1
      obtain ⟨d1, d2⟩ := dirt_len t h1.2
      rw [show decide ((0 : Int) ≠ 0) = false from rfl, Bool.false_or]
      cases hd : Tr.dl t with
      | true =>
        have e := d1 hd
        rw [if_pos ⟨rfl, rfl⟩, decide_eq_false (show ¬ (Tr.dirtyL t).length = 1 by omega)]
        rfl
      | false =>
        have e := d2 hd
        rw [if_neg (by simp), decide_eq_true (show (Tr.dirtyL t).length = 1 by omega)]
        exact Tr.fit_if t 0 r
    · rw [if_neg (fun e => h0 e.1), decide_eq_true h0, Bool.true_or]
      exact Tr.fit_if t N r
def PSay (K b : Nat) (t' : Tr.T) (v : Value) (w : World) (e : Ending) (w' : World) : Prop := e = .returned v ∧ Hid (PT K w' b t') ∧ Hid (Only b w w')
set_option maxHeartbeats 4000000 in
set_option maxRecDepth 100000 in
theorem psaved_any {K b : Nat} {t : Tr.T} (N : Int) (r : Pg.Rf) (hr : Pg.Ok r) (w : World) (h : PT K w b t) :
    Calls Try.prog 22 #[.pointer (some ⟨b, 0, none⟩), .int .i64 N, .agg (rfA r)] w (PSay K b (Tr.saveI t N r) (.int .i64 (Tr.saveE t N r)) w) := by
  have HDU : Hid (∀ y, Below w.heap.size w y → Calls Try.prog 47 #[.pointer (some ⟨b, 0, none⟩), .int .i64 N] y (BoSay (Tr.dueB t N) y)) := fun y hy => due_any N y (h.old hy)
  have HFI : Hid (∀ y, Below w.heap.size w y → Calls Try.prog 48 #[.pointer (some ⟨b, 0, none⟩), .int .i64 N, .agg (rfA r)] y (BoSay (Tr.fitB t N r) y)) := fun y hy => fits_any N r hr y (h.old hy)
  have HT : Hid (∀ y, Below w.heap.size w y → PT K y b t) := fun y hy => h.old hy
  have hE := Tr.saveE_due t N r
  have HBU := Lib.hid (build_ndp r hr)
  have HXS : Hid ((Tr.ndA (some (some r))).size = 34) := by show _ = _; unfold Tr.ndA Tr.ndc; rw [List.size_toArray, List.length_cons]; exact congrArg (· + 1) (cl_len hr)
  have HX1 := Lib.hid (nda_one (some (some r)))
  have hIk : Tr.saveE t N r = 0 → Tr.saveI t N r = Tr.saveT t N.toNat r := fun e => by unfold Tr.saveI; rw [if_pos e]
  have hIn : Tr.saveE t N r ≠ 0 → Tr.saveI t N r = t := fun e => by unfold Tr.saveI; rw [if_neg e]
  have hOK := @Tr.save_ok t N r
  obtain ⟨R, Z, eA, _, hk, hz0⟩ := rfz hr
  have HRS := Lib.hid hk.size
  have HR1 := Lib.hid hk.one
  have hsR := row_size Try.sizeRef33 HRS
  rw [eA] at HFI HBU ⊢
  have hbw : b < w.heap.size := h.lt
  have HBN : Hid (w.heap.size ≠ b) := by show _ ≠ _; omega
  have HCS : Hid ((Tr.tcs t).toArray.size = 2418) := by show _ = _; rw [List.size_toArray, tcs_len h.ok]
  have B0 : Hid (Below w.heap.size w (w.alloc (.cells R 33))) := (Below.refl _ w).alloc (Nat.le_refl _) _
  have R0 : Hid ((w.alloc (.cells R 33)).heap[w.heap.size]? = some (.cells R 33 (0, 0))) := heap_alloc_new w _
  obtain ⟨w0, hw0⟩ : ∃ x, x = w.alloc (.cells R 33) := ⟨_, rfl⟩
  rw [← hw0] at B0 R0
  unfold BoSay at HDU HFI
  unfold PSay
  clear hk hz0
  cases hd : Tr.dueB t N with
  | false =>
    rw [hd] at HDU hE
    have hE' : Tr.saveE t N r = 16 := hE
    rw [hIn (by rw [hE']; decide), hE']
    clear hE hE' hIk hIn hOK h HBU HXS HX1 eA hd
    go_enter Try.func22, Try.ntmps22
    go_wp2_with (first
      | (go_at_call 47; rw [← hw0]; clear hw0; refine (HDU.out _ B0.out).mono ?_; rintro e1 w1 ⟨rfl, B1⟩; have C1 := Lib.hid (B0.out.trans (B1.out.mono B0.out.size))))
    go_ret
    exact ⟨rfl, Lib.hid (HT.out _ C1.out), Lib.hid (only_of_below C1.out)⟩
  | true =>
    rw [hd] at HDU hE
    cases hf : Tr.fitB t N r with
    | false =>
      rw [hf] at HFI hE
      have hE' : Tr.saveE t N r = 7 := hE
      rw [hIn (by rw [hE']; decide), hE']
      clear hE hE' hIk hIn hOK h HBU HXS HX1 eA hd hf
      go_enter Try.func22, Try.ntmps22
      go_wp2_with (first
        | (go_at_call 47; rw [← hw0]; clear hw0; refine (HDU.out _ B0.out).mono ?_; rintro e1 w1 ⟨rfl, B1⟩; have C1 := Lib.hid (B0.out.trans (B1.out.mono B0.out.size)); have R1 := Lib.hid (below_kept B1.out R0.out))
        | ((with_reducible refine row_load _ _ _ _ _ _ _ ?_ R1.out Try.underlying33 ?_ hsR ?_); (exact rfl); (exact rfl))
        | (go_at_call 48; refine (HFI.out _ C1.out).mono ?_; rintro e2 w2 ⟨rfl, B2⟩; have C2 := Lib.hid (C1.out.trans (B2.out.mono C1.out.size))))
      go_ret
      exact ⟨rfl, Lib.hid (HT.out _ C2.out), Lib.hid (only_of_below C2.out)⟩
    | true =>
      rw [hf] at HFI hE
      have hE' : Tr.saveE t N r = 0 := hE
      rw [hIk hE', hE']
      obtain ⟨hN, hn, _, h4, h5⟩ := hOK hE'
      obtain ⟨i, hi⟩ : ∃ i : Nat, N = (i : Int) := ⟨N.toNat, by unfold Tr.inN at hN; omega⟩
      subst hi
      have hi9 : i < 9 := by unfold Tr.inN at hN; omega
      have hi0 : 0 ≤ (i : Int) := by omega
      have hi1 : (i : Int) < 9 := by omega
      have hzz : 0 < r.1 ∨ r = Pg.zr := by
        cases hb : Tr.bare t (i : Int) with
        | true => exact Or.inr (h4 hb)
        | false => exact Or.inl (h5 hb)
      have HPUT : Hid (∀ (y z : World), PT K y b t → z.heap[b]? = some (.cells ((Tr.tcs t).toArray.toList.take (2112 + i * 34) ++ (Tr.ndA (some (some r))).toList ++ (Tr.tcs t).toArray.toList.drop (2112 + i * 34 + (Tr.ndA (some (some r))).size)).toArray 68 (0, 0)) → PT K z b (Tr.saveT t i r)) := fun y z hy hz => hy.putn i hi9 (some (some r)) (fun x e => by injection e with e; injection e with e; rw [← e]; exact hr) hzz _ rfl hz
      rw [Int.toNat_natCast]
      generalize Tr.saveT t i r = t' at *
      generalize Tr.ndA (some (some r)) = X at *
      clear hE hE' hIk hIn hOK h eA hd hf hN hn h4 h5 hzz
      go_enter Try.func22, Try.ntmps22
      go_upto_region 5 with (first
        | (go_at_call 47; rw [← hw0]; clear hw0; refine (HDU.out _ B0.out).mono ?_; rintro e1 w1 ⟨rfl, B1⟩; have C1 := Lib.hid (B0.out.trans (B1.out.mono B0.out.size)); have R1 := Lib.hid (below_kept B1.out R0.out))
        | ((with_reducible refine row_load _ _ _ _ _ _ _ ?_ R1.out Try.underlying33 ?_ hsR ?_); (exact rfl); (exact rfl))
        | (go_at_call 48; refine (HFI.out _ C1.out).mono ?_; rintro e2 w2 ⟨rfl, B2⟩; have C2 := Lib.hid (C1.out.trans (B2.out.mono C1.out.size)); have R2 := Lib.hid (below_kept B2.out R1.out)))
      refine wp_region_any (by kernel_rfl) ?_
      change wpAny _ _ _ _ _ _ _ (World.drew _)
      have B3 : Hid (Below w.heap.size w w2.drew) := C2.out.drew
      have R3 : Hid (w2.drew.heap[w.heap.size]? = some (.cells R 33 (0, 0))) := R2.out
      obtain ⟨z, hz9⟩ : ∃ y, y = w2.drew := ⟨_, rfl⟩
      rw [← hz9] at B3 R3 ⊢
      clear hz9
      refine wpAny_of_held (S := fun y => y.heap[w.heap.size]? = some (.cells R 33 (0, 0))) _ _ _ _ ?_
      have SD : (fun y => y.heap[w.heap.size]? = some (.cells R 33 (0, 0))) z := R3.out
      have T3 := Lib.hid (HT.out _ B3.out)
      have hsX := row_size Try.sizeNodeP HXS
      refine anyH_take 0 16 (.pointer (some ⟨b, 0, none⟩)) SD rfl (by kernel_rfl) (by kernel_rfl) (by kernel_rfl) (fun _ _ _ h => h) (by rfl) (by intro y hy; go_simp) ?_
      try simp only [Act.put, List.setIfInBounds_toArray, List.set_cons_zero, List.set_cons_succ]
      refine anyH_take 1 17 (.int .i64 (i : Int)) SD rfl (by kernel_rfl) (by kernel_rfl) (by kernel_rfl) (fun _ _ _ h => h) (by rfl) (by intro y hy; go_simp) ?_
      try simp only [Act.put, List.setIfInBounds_toArray, List.set_cons_zero, List.set_cons_succ]
      refine anyH_take 2 18 (.agg R) SD rfl (by kernel_rfl) (by kernel_rfl) (by kernel_rfl) (fun _ _ _ h => h) (by rfl) (fun y hy => exec_arr _ _ w.heap.size 0 _ _ rfl (rng_whole hy) Try.underlying33 rfl hsR) ?_
      try simp only [Act.put, List.setIfInBounds_toArray, List.set_cons_zero, List.set_cons_succ]
      refine anyH_take 3 19 (.agg X) SD rfl (by kernel_rfl) (by kernel_rfl) (by kernel_rfl) (fun _ _ _ h => h) (by rfl) (fun y hy => exec_b2 _ _ _ _ _ _ _ _ rfl rfl HBU.out) ?_
      try simp only [Act.put, List.setIfInBounds_toArray, List.set_cons_zero, List.set_cons_succ]
      refine anyH_take 4 20 (.pointer (some ⟨b, 0, none⟩)) SD rfl (by kernel_rfl) (by kernel_rfl) (by kernel_rfl) (fun _ _ _ h => h) (by rfl) (by intro y hy; go_simp) ?_
      try simp only [Act.put, List.setIfInBounds_toArray, List.set_cons_zero, List.set_cons_succ]
      refine anyH_take 5 21 (.pointer (some ⟨b, 2112, none⟩)) SD rfl (by kernel_rfl) (by kernel_rfl) (by kernel_rfl) (fun _ _ _ h => h) (by rfl) (by intro y hy; go_simp) ?_
      try simp only [Act.put, List.setIfInBounds_toArray, List.set_cons_zero, List.set_cons_succ]
      refine anyH_take 6 22 (.pointer (some ⟨b, 2112 + i * 34, none⟩)) SD rfl (by kernel_rfl) (by kernel_rfl) (by kernel_rfl) (fun _ _ _ h => h) (by rfl) (by intro y hy; go_simp) ?_
      try simp only [Act.put, List.setIfInBounds_toArray, List.set_cons_zero, List.set_cons_succ]
      refine anyH_one 7 (by kernel_rfl) ?_
      refine op_mid 7 _ _ _ rfl b (2112 + i * 34) _ _ X rfl rfl T3.out.box hsX (by rw [HXS.out, HCS.out]; omega) HX1.out (fun w5 G5 C5 => ⟨(C5.block _ HBN.out).trans R3.out, ?_⟩)
      try simp only [Act.put, List.setIfInBounds_toArray, List.set_cons_zero, List.set_cons_succ]
      refine wpAnyH_done (by kernel_rfl) ?_ _
      go_wp2
      go_ret
      exact ⟨rfl, Lib.hid (HPUT.out _ _ T3.out G5.out), Lib.hid ((only_of_below B3.out).trans C5.only)⟩
end Go.Proofs.Ytfeemeddhhgigaa

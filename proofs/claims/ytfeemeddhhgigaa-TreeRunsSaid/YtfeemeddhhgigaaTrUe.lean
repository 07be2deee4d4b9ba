/-
  Both trees beside one another: Load done with both; a call of no kind.
-/
import Derived.Test.YtfeemeddhhgigaaTrUd
namespace Go.Proofs.Ytfeemeddhhgigaa
open Go.RowKit

set_option maxHeartbeats 8000000 in
set_option maxRecDepth 100000 in
theorem both_load {x w : World} {b c : Nat} {t : Tr.T} (N : Int) (r : Pg.Rf) (p : List Pg.Rf) (ho : OpOk ⟨4, N, r, p⟩) (h : Bo x w b c t) :
    Calls Try.prog 13 #[.pointer (some ⟨b, 0, none⟩), .pointer (some ⟨c, 0, none⟩), .agg (OpA ⟨4, N, r, p⟩)] w fun e w' => e = .returned (.bool true) ∧ Hid (Bo x w' b c (Tr.loadI t N p r)) := by
  have HAS := Lib.hid (opa_size ho)
  have hA1 := opa_one (⟨4, N, r, p⟩ : Tr.O)
  have hsA := row_size Try.sizeOp HAS
  have HOR : Hid (∀ y, y.heap[w.heap.size]? = some (.cells (OpA ⟨4, N, r, p⟩) 38 (0, 0)) → OpR y w.heap.size 0 ⟨4, N, r, p⟩) := fun y hy => opr_of ho (rng_whole hy)
  have B0 : Hid (Below w.heap.size w (w.alloc (.cells (OpA ⟨4, N, r, p⟩) 38))) := (Below.refl _ w).alloc (Nat.le_refl _) _
  have R0 : Hid ((w.alloc (.cells (OpA ⟨4, N, r, p⟩) 38)).heap[w.heap.size]? = some (.cells (OpA ⟨4, N, r, p⟩) 38 (0, 0))) := heap_alloc_new w _
  have P0 := Lib.hid (h.next B0.out)
  have hbw : b < w.heap.size := h.p.at_.lt
  have HBN : Hid (w.heap.size ≠ b) := by show _ ≠ _; omega
  have HRO := Lib.hid ho.r
  have HRS := Lib.hid (rfa_size ho.r)
  have hsR := row_size Try.sizeRef33 HRS
  obtain ⟨w0, hw0⟩ : ∃ y, y = w.alloc (.cells (OpA ⟨4, N, r, p⟩) 38) := ⟨_, rfl⟩
  have k0 := (HOR.out _ R0.out).k
  rw [← hw0] at B0 R0 P0
  obtain ⟨q1, q2, q3, q4, _⟩ := HOR.out _ R0.out
  rw [Nat.zero_add] at q2 q3 q4
  have HQR : Hid (∀ y : World, y.heap[w.heap.size]? = some (.cells (OpA ⟨4, N, r, p⟩) 38 (0, 0)) → y.cell? ⟨w.heap.size, 1, none⟩ = some (.int .i64 N) ∧ y.rangeAt w.heap.size 2 (rfA r).toList ∧ y.rangeAt w.heap.size 35 (cs p)) := fun y hy => by have q := (HOR.out y hy).r; have q' := (HOR.out y hy).n; rw [Nat.zero_add] at q q'; have q2 := (HOR.out y hy).p; rw [Nat.zero_add] at q2; exact ⟨q', q, q2⟩
  dsimp only at *
  have HCN : Hid (w.heap.size ≠ c) := by
    obtain ⟨vb, vn, L, q, _⟩ := h.r
    have := lt_of_block q.box
    show _ ≠ _
    omega
  have hpp : Pg.OkA p := ho.p
  obtain ⟨PA, RA, eP, hkP⟩ := pgk hpp
  have HPS := Lib.hid hkP.size
  have hsP := row_size Try.sizePage HPS
  have hPA : cs p = PA.toList := by
    have e6 : PV p = .agg (cs p).toArray := rfl
    rw [e6] at eP
    injection eP with eP
    rw [← eP]
  have HSE : Hid (∀ y, Bo x y b c t → Calls Try.prog 24 #[.pointer (some ⟨b, 0, none⟩), .int .i64 N, PV p, .agg (rfA r)] y (PeSay x b (Tr.loadI t N p r) (Tr.loadE t N p r) y)) := fun y hy => pp_load N p hpp r HRO.out hy.p
  have HRE : Hid (∀ y, RS x.heap.size y c t → Calls Try.prog 44 #[.pointer (some ⟨c, 0, none⟩), .int .i64 N, PV p, .agg (rfA r)] y (SvSay x.heap.size c (Tr.loadI t N p r) (Tr.loadE t N p r) y)) := fun y hy => rload_any N p hpp r HRO.out y hy h.p.inv
  unfold PeSay at HSE
  unfold SvSay at HRE
  rw [hPA] at HQR
  rw [eP] at HSE HRE
  generalize Tr.loadI t N p r = t' at *
  generalize Tr.loadE t N p r = E at *
  have hself : (E == E) = true := by simp
  generalize OpA ⟨4, N, r, p⟩ = A at *
  generalize rfA r = R at *
  clear h hA1 hsA HAS ho hbw HOR q3 hPA eP hkP hpp
  go_enter Try.func13, Try.ntmps13
  go_upto_region 1 with (fail)
  rw [← hw0]
  clear hw0 k0
  go_upto_region 15 with (fail)
  refine wp_region_any (by kernel_rfl) ?_
  change wpAny _ _ _ _ _ _ _ (World.drew _)
  have PZ : Hid (Bo x w0.drew b c t) := P0.out.drew
  have RZ : Hid (w0.drew.heap[w.heap.size]? = some (.cells A 38 (0, 0))) := R0.out
  obtain ⟨z, hz9⟩ : ∃ y, y = w0.drew := ⟨_, rfl⟩
  rw [← hz9] at PZ RZ ⊢
  clear hz9
  refine wpAny_of_held (S := fun y => y.cell? ⟨w.heap.size, 1, none⟩ = some (.int .i64 N) ∧ y.rangeAt w.heap.size 2 R.toList ∧ y.rangeAt w.heap.size 35 PA.toList) _ _ _ _ ?_
  have SD : (fun y => y.cell? ⟨w.heap.size, 1, none⟩ = some (.int .i64 N) ∧ y.rangeAt w.heap.size 2 R.toList ∧ y.rangeAt w.heap.size 35 PA.toList) z := HQR.out _ RZ.out
  refine anyH_take 0 63 (.pointer (some ⟨b, 0, none⟩)) SD rfl (by kernel_rfl) (by kernel_rfl) (by kernel_rfl) (fun _ _ _ h => h) (by rfl) (by intro y hy; obtain ⟨y0, y1, y2⟩ := hy; go_simp) ?_
  try simp only [Act.put, List.setIfInBounds_toArray, List.set_cons_zero, List.set_cons_succ]
  refine anyH_take 1 64 (.pointer (some ⟨w.heap.size, 1, none⟩)) SD rfl (by kernel_rfl) (by kernel_rfl) (by kernel_rfl) (fun _ _ _ h => h) (by rfl) (by intro y hy; obtain ⟨y0, y1, y2⟩ := hy; go_simp) ?_
  try simp only [Act.put, List.setIfInBounds_toArray, List.set_cons_zero, List.set_cons_succ]
  refine anyH_take 2 65 (.int .i64 N) SD rfl (by kernel_rfl) (by kernel_rfl) (by kernel_rfl) (fun _ _ _ h => h) (by rfl) (by intro y hy; obtain ⟨y0, y1, y2⟩ := hy; go_simp) ?_
  try simp only [Act.put, List.setIfInBounds_toArray, List.set_cons_zero, List.set_cons_succ]
  refine anyH_take 3 66 (.pointer (some ⟨w.heap.size, 35, none⟩)) SD rfl (by kernel_rfl) (by kernel_rfl) (by kernel_rfl) (fun _ _ _ h => h) (by rfl) (by intro y hy; obtain ⟨y0, y1, y2⟩ := hy; go_simp) ?_
  try simp only [Act.put, List.setIfInBounds_toArray, List.set_cons_zero, List.set_cons_succ]
  refine anyH_take 4 67 (.agg PA) SD rfl (by kernel_rfl) (by kernel_rfl) (by kernel_rfl) (fun _ _ _ h => h) (by rfl) (fun y hy => exec_arr _ _ w.heap.size 35 _ _ rfl hy.2.2 Try.underlying36 rfl hsP) ?_
  try simp only [Act.put, List.setIfInBounds_toArray, List.set_cons_zero, List.set_cons_succ]
  refine anyH_take 5 68 (.pointer (some ⟨w.heap.size, 2, none⟩)) SD rfl (by kernel_rfl) (by kernel_rfl) (by kernel_rfl) (fun _ _ _ h => h) (by rfl) (by intro y hy; obtain ⟨y0, y1, y2⟩ := hy; go_simp) ?_
  try simp only [Act.put, List.setIfInBounds_toArray, List.set_cons_zero, List.set_cons_succ]
  refine anyH_take 6 69 (.agg R) SD rfl (by kernel_rfl) (by kernel_rfl) (by kernel_rfl) (fun _ _ _ h => h) (by rfl) (fun y hy => exec_arr _ _ w.heap.size 2 _ _ rfl hy.2.1 Try.underlying33 rfl hsR) ?_
  try simp only [Act.put, List.setIfInBounds_toArray, List.set_cons_zero, List.set_cons_succ]
  refine anyH_take 8 71 (.pointer (some ⟨c, 0, none⟩)) SD rfl (by kernel_rfl) (by kernel_rfl) (by kernel_rfl) (fun _ _ _ h => h) (by rfl) (by intro y hy; obtain ⟨y0, y1, y2⟩ := hy; go_simp) ?_
  try simp only [Act.put, List.setIfInBounds_toArray, List.set_cons_zero, List.set_cons_succ]
  refine anyH_take 9 72 (.pointer (some ⟨w.heap.size, 1, none⟩)) SD rfl (by kernel_rfl) (by kernel_rfl) (by kernel_rfl) (fun _ _ _ h => h) (by rfl) (by intro y hy; obtain ⟨y0, y1, y2⟩ := hy; go_simp) ?_
  try simp only [Act.put, List.setIfInBounds_toArray, List.set_cons_zero, List.set_cons_succ]
  refine anyH_take 10 73 (.int .i64 N) SD rfl (by kernel_rfl) (by kernel_rfl) (by kernel_rfl) (fun _ _ _ h => h) (by rfl) (by intro y hy; obtain ⟨y0, y1, y2⟩ := hy; go_simp) ?_
  try simp only [Act.put, List.setIfInBounds_toArray, List.set_cons_zero, List.set_cons_succ]
  refine anyH_take 11 74 (.pointer (some ⟨w.heap.size, 35, none⟩)) SD rfl (by kernel_rfl) (by kernel_rfl) (by kernel_rfl) (fun _ _ _ h => h) (by rfl) (by intro y hy; obtain ⟨y0, y1, y2⟩ := hy; go_simp) ?_
  try simp only [Act.put, List.setIfInBounds_toArray, List.set_cons_zero, List.set_cons_succ]
  refine anyH_take 12 75 (.agg PA) SD rfl (by kernel_rfl) (by kernel_rfl) (by kernel_rfl) (fun _ _ _ h => h) (by rfl) (fun y hy => exec_arr _ _ w.heap.size 35 _ _ rfl hy.2.2 Try.underlying36 rfl hsP) ?_
  try simp only [Act.put, List.setIfInBounds_toArray, List.set_cons_zero, List.set_cons_succ]
  refine anyH_take 13 76 (.pointer (some ⟨w.heap.size, 2, none⟩)) SD rfl (by kernel_rfl) (by kernel_rfl) (by kernel_rfl) (fun _ _ _ h => h) (by rfl) (by intro y hy; obtain ⟨y0, y1, y2⟩ := hy; go_simp) ?_
  try simp only [Act.put, List.setIfInBounds_toArray, List.set_cons_zero, List.set_cons_succ]
  refine anyH_take 14 77 (.agg R) SD rfl (by kernel_rfl) (by kernel_rfl) (by kernel_rfl) (fun _ _ _ h => h) (by rfl) (fun y hy => exec_arr _ _ w.heap.size 2 _ _ rfl hy.2.1 Try.underlying33 rfl hsR) ?_
  try simp only [Act.put, List.setIfInBounds_toArray, List.set_cons_zero, List.set_cons_succ]
  refine anyH_one 7 (by kernel_rfl) ?_
  refine wpOp_step rfl (fun Kc hKc => ?_)
  go_simp
  refine (HSE.out _ PZ.out).mono ?_
  rintro e1 w1 ⟨rfl, P1, O1⟩
  have R1 := Lib.hid ((O1.out.block _ (lt_of_block RZ.out) HBN.out).trans RZ.out)
  have M1 := Lib.hid (PZ.out.mid O1.out)
  have SD1 : (fun y => y.cell? ⟨w.heap.size, 1, none⟩ = some (.int .i64 N) ∧ y.rangeAt w.heap.size 2 R.toList ∧ y.rangeAt w.heap.size 35 PA.toList) w1 := HQR.out _ R1.out
  dsimp only
  refine hKc _ _ ⟨SD1, ?_⟩
  clear hKc Kc SD
  have SD := SD1
  try simp only [Act.put, List.setIfInBounds_toArray, List.set_cons_zero, List.set_cons_succ]
  refine anyH_one 15 (by kernel_rfl) ?_
  refine wpOp_step rfl (fun Kc hKc => ?_)
  go_simp
  refine (HRE.out _ M1.out).mono ?_
  rintro e2 w2 ⟨rfl, S2, O2⟩
  have U2 := Lib.hid (PZ.out.join P1.out S2.out O2.out)
  have R2 := Lib.hid ((O2.out.block _ (lt_of_block R1.out) HCN.out).trans R1.out)
  have SD2 : (fun y => y.cell? ⟨w.heap.size, 1, none⟩ = some (.int .i64 N) ∧ y.rangeAt w.heap.size 2 R.toList ∧ y.rangeAt w.heap.size 35 PA.toList) w2 := HQR.out _ R2.out
  dsimp only
  refine hKc _ _ ⟨SD2, ?_⟩
  clear hKc Kc SD
  have SD := SD2
  try simp only [Act.put, List.setIfInBounds_toArray, List.set_cons_zero, List.set_cons_succ]
  refine anyH_take 16 79 (.bool true) SD rfl (by kernel_rfl) (by kernel_rfl) (by kernel_rfl) (fun _ _ _ h => h) (by rfl) (by intro y hy; obtain ⟨y0, y1, y2⟩ := hy; go_simp) ?_
  try simp only [Act.put, List.setIfInBounds_toArray, List.set_cons_zero, List.set_cons_succ]
  refine anyH_take 17 6 (.bool true) SD rfl (by kernel_rfl) (by kernel_rfl) (by kernel_rfl) (fun _ _ _ h => h) (by rfl) (by intro y hy; obtain ⟨y0, y1, y2⟩ := hy; go_simp) ?_
  try simp only [Act.put, List.setIfInBounds_toArray, List.set_cons_zero, List.set_cons_succ]
  refine wpAnyH_done (by kernel_rfl) ?_ _
  go_wp2
  go_ret
  exact ⟨rfl, U2⟩
set_option maxHeartbeats 8000000 in
set_option maxRecDepth 100000 in
theorem both_none {x w : World} {b c : Nat} {t : Tr.T} (k N : Int) (r : Pg.Rf) (p : List Pg.Rf) (ho : OpOk ⟨k, N, r, p⟩) (h : Bo x w b c t) (h0 : k ≠ 0) (h1 : k ≠ 1) (h2 : k ≠ 2) (h3 : k ≠ 3) (h4 : k ≠ 4) :
    Calls Try.prog 13 #[.pointer (some ⟨b, 0, none⟩), .pointer (some ⟨c, 0, none⟩), .agg (OpA ⟨k, N, r, p⟩)] w fun e w' => e = .returned (.bool true) ∧ Hid (Bo x w' b c t) := by
  have HAS := Lib.hid (opa_size ho)
  have hA1 := opa_one (⟨k, N, r, p⟩ : Tr.O)
  have hsA := row_size Try.sizeOp HAS
  have HOR : Hid (∀ y, y.heap[w.heap.size]? = some (.cells (OpA ⟨k, N, r, p⟩) 38 (0, 0)) → OpR y w.heap.size 0 ⟨k, N, r, p⟩) := fun y hy => opr_of ho (rng_whole hy)
  have B0 : Hid (Below w.heap.size w (w.alloc (.cells (OpA ⟨k, N, r, p⟩) 38))) := (Below.refl _ w).alloc (Nat.le_refl _) _
  have R0 : Hid ((w.alloc (.cells (OpA ⟨k, N, r, p⟩) 38)).heap[w.heap.size]? = some (.cells (OpA ⟨k, N, r, p⟩) 38 (0, 0))) := heap_alloc_new w _
  have P0 := Lib.hid (h.next B0.out)
  have hbw : b < w.heap.size := h.p.at_.lt
  have HBN : Hid (w.heap.size ≠ b) := by show _ ≠ _; omega
  have HRO := Lib.hid ho.r
  have HRS := Lib.hid (rfa_size ho.r)
  have hsR := row_size Try.sizeRef33 HRS
  obtain ⟨w0, hw0⟩ : ∃ y, y = w.alloc (.cells (OpA ⟨k, N, r, p⟩) 38) := ⟨_, rfl⟩
  have k0 := (HOR.out _ R0.out).k
  rw [← hw0] at B0 R0 P0
  obtain ⟨q1, q2, q3, q4, _⟩ := HOR.out _ R0.out
  rw [Nat.zero_add] at q2 q3 q4
  have HQR : Hid (∀ y : World, y.heap[w.heap.size]? = some (.cells (OpA ⟨k, N, r, p⟩) 38 (0, 0)) → y.cell? ⟨w.heap.size, 1, none⟩ = some (.int .i64 N) ∧ y.rangeAt w.heap.size 2 (rfA r).toList) := fun y hy => by have q := (HOR.out y hy).r; have q' := (HOR.out y hy).n; rw [Nat.zero_add] at q q'; exact ⟨q', q⟩
  dsimp only at *
  have e0 : (k == 0) = false := by simp [h0]
  have e1 : (k == 1) = false := by simp [h1]
  have e2 : (k == 2) = false := by simp [h2]
  have e3 : (k == 3) = false := by simp [h3]
  have e4 : (k == 4) = false := by simp [h4]
  have HF : Hid (∀ y : World, Fl x.heap.size 33 33 y (.slice none 0 0) (([] : List Pg.Rf).map rfA)) := fun y => fl_nil _ _ _ _
  have HSR : Hid (∀ z, Calls Try.prog 26 #[.slice none 0 0, .slice none 0 0] z (BoSay true z)) := fun z => by
    have q := samerefs_any (L := []) (M := []) (fun r hr => by cases hr) (fun r hr => by cases hr) (by decide) z (HF.out z) (HF.out z)
    rw [decide_eq_true rfl] at q
    exact q
  have HSP : Hid (∀ z, Calls Try.prog 33 #[.slice none 0 0] z fun r w' => r = .returned (.tuple #[]) ∧ Sp (.slice none 0 0) z w') := fun z => spoilrf_any z (HF.out z) (by decide)
  unfold BoSay at HSR
  generalize OpA ⟨k, N, r, p⟩ = A at *
  clear h hA1 hsA HAS ho hbw HOR q3 HQR h0 h1 h2 h3 h4
  go_enter Try.func13, Try.ntmps13
  go_upto_region 1 with (fail)
  rw [← hw0]
  clear hw0 k0
  go_wp2_with (first
    | (go_at_call 26; refine (HSR.out _).mono ?_; rintro e3 w3 ⟨rfl, B3⟩; have U3 := Lib.hid (P0.out.next B3.out))
    | (go_at_call 33; refine (HSP.out _).mono ?_; rintro e4 w4 ⟨rfl, S4⟩; have U4 := Lib.hid (U3.out.sp (HF.out _) (Nat.le_refl _) S4)))
  go_ret
  exact ⟨rfl, U4⟩
theorem both_any {x w : World} {b c : Nat} {t : Tr.T} (o : Tr.O) (ho : OpOk o) (h : Bo x w b c t) :
    Calls Try.prog 13 #[.pointer (some ⟨b, 0, none⟩), .pointer (some ⟨c, 0, none⟩), .agg (OpA o)] w fun e w' => e = .returned (.bool true) ∧ Hid (Bo x w' b c (Tr.bothT t o)) := by
  obtain ⟨k, N, r, p⟩ := o
  unfold Tr.bothT Tr.runT
  dsimp only
  by_cases h4 : k = 4
  · subst h4; rw [if_pos rfl]; exact both_load N r p ho h
  rw [if_neg h4]
  by_cases h0 : k = 0
  · subst h0; rw [if_pos rfl]; exact both_set N r p ho h
  rw [if_neg h0]
  by_cases h1 : k = 1
  · subst h1; rw [if_pos rfl]; exact both_del N r p ho h
  rw [if_neg h1]
  by_cases h2 : k = 2
  · subst h2; rw [if_pos rfl]; exact both_touch N r p ho h
  rw [if_neg h2]
  by_cases h3 : k = 3
  · subst h3; rw [if_pos rfl]; exact both_saved N r p ho h
  rw [if_neg h3]
  exact both_none k N r p ho h h0 h1 h2 h3 h4
end Go.Proofs.Ytfeemeddhhgigaa

/-
  Both trees beside one another: Saved done with both; a call of no kind.
-/
import Derived.Test.YtfeemeddhhgigaaTrUc
namespace Go.Proofs.Ytfeemeddhhgigaa
open Go.RowKit

theorem Bo.drew {x w : World} {b c : Nat} {t : Tr.T} (h : Bo x w b c t) : Bo x w.drew b c t := by
  obtain ⟨vb, vn, L, q, hL⟩ := h.r
  exact ⟨⟨⟨h.p.at_.box, h.p.at_.ok, h.p.at_.tz, h.p.at_.lo⟩, h.p.inv, h.p.old.drew⟩, ⟨vb, vn, L, ⟨q.box, q.bl, q.nd, q.rep, q.ok, q.lo⟩, hL⟩⟩
set_option maxHeartbeats 8000000 in
set_option maxRecDepth 100000 in
theorem both_saved {x w : World} {b c : Nat} {t : Tr.T} (N : Int) (r : Pg.Rf) (p : List Pg.Rf) (ho : OpOk ⟨3, N, r, p⟩) (h : Bo x w b c t) :
    Calls Try.prog 13 #[.pointer (some ⟨b, 0, none⟩), .pointer (some ⟨c, 0, none⟩), .agg (OpA ⟨3, N, r, p⟩)] w fun e w' => e = .returned (.bool true) ∧ Hid (Bo x w' b c (Tr.saveI t N r)) := by
  have HAS := Lib.hid (opa_size ho)
  have hA1 := opa_one (⟨3, N, r, p⟩ : Tr.O)
  have hsA := row_size Try.sizeOp HAS
  have HOR : Hid (∀ y, y.heap[w.heap.size]? = some (.cells (OpA ⟨3, N, r, p⟩) 38 (0, 0)) → OpR y w.heap.size 0 ⟨3, N, r, p⟩) := fun y hy => opr_of ho (rng_whole hy)
  have B0 : Hid (Below w.heap.size w (w.alloc (.cells (OpA ⟨3, N, r, p⟩) 38))) := (Below.refl _ w).alloc (Nat.le_refl _) _
  have R0 : Hid ((w.alloc (.cells (OpA ⟨3, N, r, p⟩) 38)).heap[w.heap.size]? = some (.cells (OpA ⟨3, N, r, p⟩) 38 (0, 0))) := heap_alloc_new w _
  have P0 := Lib.hid (h.next B0.out)
  have hbw : b < w.heap.size := h.p.at_.lt
  have HBN : Hid (w.heap.size ≠ b) := by show _ ≠ _; omega
  have HRO := Lib.hid ho.r
  have HRS := Lib.hid (rfa_size ho.r)
  have hsR := row_size Try.sizeRef33 HRS
  obtain ⟨w0, hw0⟩ : ∃ y, y = w.alloc (.cells (OpA ⟨3, N, r, p⟩) 38) := ⟨_, rfl⟩
  have k0 := (HOR.out _ R0.out).k
  rw [← hw0] at B0 R0 P0
  obtain ⟨q1, q2, q3, q4, _⟩ := HOR.out _ R0.out
  rw [Nat.zero_add] at q2 q3 q4
  have HQR : Hid (∀ y : World, y.heap[w.heap.size]? = some (.cells (OpA ⟨3, N, r, p⟩) 38 (0, 0)) → y.cell? ⟨w.heap.size, 1, none⟩ = some (.int .i64 N) ∧ y.rangeAt w.heap.size 2 (rfA r).toList) := fun y hy => by have q := (HOR.out y hy).r; have q' := (HOR.out y hy).n; rw [Nat.zero_add] at q q'; exact ⟨q', q⟩
  dsimp only at *
  have HCN : Hid (w.heap.size ≠ c) := by
    obtain ⟨vb, vn, L, q, _⟩ := h.r
    have := lt_of_block q.box
    show _ ≠ _
    omega
  have HSE : Hid (∀ y, Bo x y b c t → Calls Try.prog 22 #[.pointer (some ⟨b, 0, none⟩), .int .i64 N, .agg (rfA r)] y (PeSay x b (Tr.saveI t N r) (Tr.saveE t N r) y)) := fun y hy => pp_saved N r HRO.out hy.p
  have HRE : Hid (∀ y, RS x.heap.size y c t → Calls Try.prog 43 #[.pointer (some ⟨c, 0, none⟩), .int .i64 N, .agg (rfA r)] y (SvSay x.heap.size c (Tr.saveI t N r) (Tr.saveE t N r) y)) := fun y hy => rsaved_any N r HRO.out y hy h.p.inv.off
  unfold PeSay at HSE
  unfold SvSay at HRE
  generalize Tr.saveI t N r = t' at *
  generalize Tr.saveE t N r = E at *
  have hself : (E == E) = true := by simp
  generalize OpA ⟨3, N, r, p⟩ = A at *
  generalize rfA r = R at *
  clear h hA1 hsA HAS ho hbw HOR q3
  go_enter Try.func13, Try.ntmps13
  go_upto_region 1 with (fail)
  rw [← hw0]
  clear hw0 k0
  go_upto_region 13 with (fail)
  refine wp_region_any (by kernel_rfl) ?_
  change wpAny _ _ _ _ _ _ _ (World.drew _)
  have PZ : Hid (Bo x w0.drew b c t) := P0.out.drew
  have RZ : Hid (w0.drew.heap[w.heap.size]? = some (.cells A 38 (0, 0))) := R0.out
  obtain ⟨z, hz9⟩ : ∃ y, y = w0.drew := ⟨_, rfl⟩
  rw [← hz9] at PZ RZ ⊢
  clear hz9
  refine wpAny_of_held (S := fun y => y.cell? ⟨w.heap.size, 1, none⟩ = some (.int .i64 N) ∧ y.rangeAt w.heap.size 2 R.toList) _ _ _ _ ?_
  have SD : (fun y => y.cell? ⟨w.heap.size, 1, none⟩ = some (.int .i64 N) ∧ y.rangeAt w.heap.size 2 R.toList) z := HQR.out _ RZ.out
  refine anyH_take 0 48 (.pointer (some ⟨b, 0, none⟩)) SD rfl (by kernel_rfl) (by kernel_rfl) (by kernel_rfl) (fun _ _ _ h => h) (by rfl) (by intro y hy; obtain ⟨y0, y1⟩ := hy; go_simp) ?_
  try simp only [Act.put, List.setIfInBounds_toArray, List.set_cons_zero, List.set_cons_succ]
  refine anyH_take 1 49 (.pointer (some ⟨w.heap.size, 1, none⟩)) SD rfl (by kernel_rfl) (by kernel_rfl) (by kernel_rfl) (fun _ _ _ h => h) (by rfl) (by intro y hy; obtain ⟨y0, y1⟩ := hy; go_simp) ?_
  try simp only [Act.put, List.setIfInBounds_toArray, List.set_cons_zero, List.set_cons_succ]
  refine anyH_take 2 50 (.int .i64 N) SD rfl (by kernel_rfl) (by kernel_rfl) (by kernel_rfl) (fun _ _ _ h => h) (by rfl) (by intro y hy; obtain ⟨y0, y1⟩ := hy; go_simp) ?_
  try simp only [Act.put, List.setIfInBounds_toArray, List.set_cons_zero, List.set_cons_succ]
  refine anyH_take 3 51 (.pointer (some ⟨w.heap.size, 2, none⟩)) SD rfl (by kernel_rfl) (by kernel_rfl) (by kernel_rfl) (fun _ _ _ h => h) (by rfl) (by intro y hy; obtain ⟨y0, y1⟩ := hy; go_simp) ?_
  try simp only [Act.put, List.setIfInBounds_toArray, List.set_cons_zero, List.set_cons_succ]
  refine anyH_take 4 52 (.agg R) SD rfl (by kernel_rfl) (by kernel_rfl) (by kernel_rfl) (fun _ _ _ h => h) (by rfl) (fun y hy => exec_arr _ _ w.heap.size 2 _ _ rfl hy.2 Try.underlying33 rfl hsR) ?_
  try simp only [Act.put, List.setIfInBounds_toArray, List.set_cons_zero, List.set_cons_succ]
  refine anyH_take 6 54 (.pointer (some ⟨c, 0, none⟩)) SD rfl (by kernel_rfl) (by kernel_rfl) (by kernel_rfl) (fun _ _ _ h => h) (by rfl) (by intro y hy; obtain ⟨y0, y1⟩ := hy; go_simp) ?_
  try simp only [Act.put, List.setIfInBounds_toArray, List.set_cons_zero, List.set_cons_succ]
  refine anyH_take 7 55 (.pointer (some ⟨w.heap.size, 1, none⟩)) SD rfl (by kernel_rfl) (by kernel_rfl) (by kernel_rfl) (fun _ _ _ h => h) (by rfl) (by intro y hy; obtain ⟨y0, y1⟩ := hy; go_simp) ?_
  try simp only [Act.put, List.setIfInBounds_toArray, List.set_cons_zero, List.set_cons_succ]
  refine anyH_take 8 56 (.int .i64 N) SD rfl (by kernel_rfl) (by kernel_rfl) (by kernel_rfl) (fun _ _ _ h => h) (by rfl) (by intro y hy; obtain ⟨y0, y1⟩ := hy; go_simp) ?_
  try simp only [Act.put, List.setIfInBounds_toArray, List.set_cons_zero, List.set_cons_succ]
  refine anyH_take 9 57 (.pointer (some ⟨w.heap.size, 2, none⟩)) SD rfl (by kernel_rfl) (by kernel_rfl) (by kernel_rfl) (fun _ _ _ h => h) (by rfl) (by intro y hy; obtain ⟨y0, y1⟩ := hy; go_simp) ?_
  try simp only [Act.put, List.setIfInBounds_toArray, List.set_cons_zero, List.set_cons_succ]
  refine anyH_take 10 58 (.agg R) SD rfl (by kernel_rfl) (by kernel_rfl) (by kernel_rfl) (fun _ _ _ h => h) (by rfl) (fun y hy => exec_arr _ _ w.heap.size 2 _ _ rfl hy.2 Try.underlying33 rfl hsR) ?_
  try simp only [Act.put, List.setIfInBounds_toArray, List.set_cons_zero, List.set_cons_succ]
  refine anyH_one 5 (by kernel_rfl) ?_
  refine wpOp_step rfl (fun Kc hKc => ?_)
  go_simp
  refine (HSE.out _ PZ.out).mono ?_
  rintro e1 w1 ⟨rfl, P1, O1⟩
  have R1 := Lib.hid ((O1.out.block _ (lt_of_block RZ.out) HBN.out).trans RZ.out)
  have M1 := Lib.hid (PZ.out.mid O1.out)
  have SD1 : (fun y => y.cell? ⟨w.heap.size, 1, none⟩ = some (.int .i64 N) ∧ y.rangeAt w.heap.size 2 R.toList) w1 := HQR.out _ R1.out
  dsimp only
  refine hKc _ _ ⟨SD1, ?_⟩
  clear hKc Kc SD
  have SD := SD1
  try simp only [Act.put, List.setIfInBounds_toArray, List.set_cons_zero, List.set_cons_succ]
  refine anyH_one 11 (by kernel_rfl) ?_
  refine wpOp_step rfl (fun Kc hKc => ?_)
  go_simp
  refine (HRE.out _ M1.out).mono ?_
  rintro e2 w2 ⟨rfl, S2, O2⟩
  have U2 := Lib.hid (PZ.out.join P1.out S2.out O2.out)
  have R2 := Lib.hid ((O2.out.block _ (lt_of_block R1.out) HCN.out).trans R1.out)
  have SD2 : (fun y => y.cell? ⟨w.heap.size, 1, none⟩ = some (.int .i64 N) ∧ y.rangeAt w.heap.size 2 R.toList) w2 := HQR.out _ R2.out
  dsimp only
  refine hKc _ _ ⟨SD2, ?_⟩
  clear hKc Kc SD
  have SD := SD2
  try simp only [Act.put, List.setIfInBounds_toArray, List.set_cons_zero, List.set_cons_succ]
  refine anyH_take 12 60 (.bool true) SD rfl (by kernel_rfl) (by kernel_rfl) (by kernel_rfl) (fun _ _ _ h => h) (by rfl) (by intro y hy; obtain ⟨y0, y1⟩ := hy; go_simp) ?_
  try simp only [Act.put, List.setIfInBounds_toArray, List.set_cons_zero, List.set_cons_succ]
  refine anyH_take 13 6 (.bool true) SD rfl (by kernel_rfl) (by kernel_rfl) (by kernel_rfl) (fun _ _ _ h => h) (by rfl) (by intro y hy; obtain ⟨y0, y1⟩ := hy; go_simp) ?_
  try simp only [Act.put, List.setIfInBounds_toArray, List.set_cons_zero, List.set_cons_succ]
  refine wpAnyH_done (by kernel_rfl) ?_ _
  go_wp2
  go_ret
  exact ⟨rfl, U2⟩
end Go.Proofs.Ytfeemeddhhgigaa

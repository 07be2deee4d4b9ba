/-
  RgD, RgE (merged)
-/
import Derived.Test.YtpfghjnhoafcmaaRg1
import Derived.Test.YtpfghjnhoafcmaaSc1
namespace Go.Proofs.Ytpfghjnhoafcmaa

/-! RgD: Contract: region.Put. -/
section
open Go.RowKit

def GPutNo (w : World) (e : Ending) (w' : World) : Prop := e = .returned (.tuple #[.slice none 0 0, .int .i64 7]) ∧ Hid (Below w.heap.size w w')
def GPutYes (L : List Int) (w : World) (e : Ending) (w' : World) : Prop :=
  ∃ p c, e = .returned (.tuple #[.slice p 192 c, .int .i64 0]) ∧ Hid (w'.ownsRow w.heap.size 5 1 (.slice p 192 c) 192 (U8s L)) ∧ Hid (Bs w' p c L) ∧ Hid (Below w.heap.size w w')
set_option maxHeartbeats 1000000 in
set_option maxRecDepth 100000 in
theorem gput_no (r : Rg.R) (h : Rg.Ok r) (hn : Rg.may r = false) (w : World) : Calls Try.prog 31 #[RV r] w (GPutNo w) := by
  obtain ⟨A, SU, RT, B1, B2, eA, hk⟩ := rck h
  have HC0 : Hid (∀ y, Calls Try.prog 54 #[.agg A] y (BoSay false y)) := fun y => by
    have := maybe_any r h y
    rw [hn, eA] at this
    exact this
  rw [eA]
  have HAS := Lib.hid hk.size
  have h1 := hk.one
  have R0 : Hid ((w.alloc (.cells A 40)).heap[w.heap.size]? = some (.cells A 40 (0, 0))) := heap_alloc_new w _
  have B0 : Hid (Below w.heap.size w (w.alloc (.cells A 40))) := (Below.refl _ w).alloc (Nat.le_refl _) _
  clear hk h eA hn
  go_enter Try.func31, Try.ntmps31
  go_wp2_with (first
      | ((with_reducible refine row_load _ _ _ _ _ _ _ ?_ R0.out Try.underlying40 ?_ (row_size Try.sizeRec HAS) ?_); (exact rfl); (exact rfl))
      | (go_at_call 54; refine (HC0.out _).mono ?_; rintro e1 w1 ⟨rfl, HB1⟩; have B1 := Lib.hid (B0.out.trans (HB1.out.mono B0.out.size))))
  go_ret2
  exact ⟨rfl, B1.out⟩
set_option maxHeartbeats 4000000 in
set_option maxRecDepth 100000 in
theorem gput_yes (r : Rg.R) (h : Rg.Ok r) (hn : Rg.may r = true) (w : World) : Calls Try.prog 31 #[RV r] w (GPutYes (Rg.pt r) w) := by
  obtain ⟨A, SU, RT, B1, B2, eA, hk⟩ := rck h
  have HC0 : Hid (∀ y, Calls Try.prog 54 #[.agg A] y (BoSay true y)) := fun y => by
    have := maybe_any r h y
    rw [hn, eA] at this
    exact this
  have H0 : Hid (∀ y, Calls Try.prog 44 #[.slice none 0 0, .int .i64 r.gen] y (RowOf (Rg.ptk r 1) 8 y)) := fun y => by
    have := int_any [] r.gen none 0 0 8 rfl rfl (by omega) y (bs_none y)
    rw [Rg.st0] at this
    exact this
  have H1 : Hid (∀ y q d, Bs y q d (Rg.ptk r 1) → Calls Try.prog 44 #[.slice q 8 d, .int .i64 r.st] y (RowOf (Rg.ptk r 2) 16 y)) := fun y q d hy => by
    have := int_any (Rg.ptk r 1) r.st q 8 d 16 (Rg.pl1 h) rfl (by omega) y hy
    rw [Rg.st1] at this
    exact this
  have H2 : Hid (∀ y q d, Bs y q d (Rg.ptk r 2) → Calls Try.prog 44 #[.slice q 16 d, .int .i64 r.ep] y (RowOf (Rg.ptk r 3) 24 y)) := fun y q d hy => by
    have := int_any (Rg.ptk r 2) r.ep q 16 d 24 (Rg.pl2 h) rfl (by omega) y hy
    rw [Rg.st2] at this
    exact this
  have H3 : Hid (∀ y q d, Bs y q d (Rg.ptk r 3) → Calls Try.prog 56 #[.slice q 24 d, .agg SU] y (RowOf (Rg.ptk r 4) 56 y)) := fun y q d hy => by
    have := sum_any (Rg.ptk r 3) r.su h.su.1 h.su.2 q 24 d 56 (Rg.pl3 h) rfl (by omega) y hy
    rw [Rg.st3, hk.vals.1] at this
    exact this
  have H4 : Hid (∀ y q d, Bs y q d (Rg.ptk r 4) → Calls Try.prog 55 #[.slice q 56 d, .agg RT] y (RowOf (Rg.ptk r 5) 96 y)) := fun y q d hy => by
    have := ref_any (Rg.ptk r 4) r.rt h.rt.2.1 h.rt.2.2 q 56 d 96 (Rg.pl4 h) rfl (by omega) y hy
    rw [Rg.st4, hk.vals.2.1] at this
    exact this
  have H5 : Hid (∀ y q d, Bs y q d (Rg.ptk r 5) → Calls Try.prog 44 #[.slice q 96 d, .int .i64 r.bs] y (RowOf (Rg.ptk r 6) 104 y)) := fun y q d hy => by
    have := int_any (Rg.ptk r 5) r.bs q 96 d 104 (Rg.pl5 h) rfl (by omega) y hy
    rw [Rg.st5] at this
    exact this
  have H6 : Hid (∀ y q d, Bs y q d (Rg.ptk r 6) → Calls Try.prog 44 #[.slice q 104 d, .int .i64 r.bl] y (RowOf (Rg.ptk r 7) 112 y)) := fun y q d hy => by
    have := int_any (Rg.ptk r 6) r.bl q 104 d 112 (Rg.pl6 h) rfl (by omega) y hy
    rw [Rg.st6] at this
    exact this
  have H7 : Hid (∀ y q d, Bs y q d (Rg.ptk r 7) → Calls Try.prog 44 #[.slice q 112 d, .int .i64 r.ts] y (RowOf (Rg.ptk r 8) 120 y)) := fun y q d hy => by
    have := int_any (Rg.ptk r 7) r.ts q 112 d 120 (Rg.pl7 h) rfl (by omega) y hy
    rw [Rg.st7] at this
    exact this
  have H8 : Hid (∀ y q d, Bs y q d (Rg.ptk r 8) → Calls Try.prog 44 #[.slice q 120 d, .int .i64 r.tl] y (RowOf (Rg.ptk r 9) 128 y)) := fun y q d hy => by
    have := int_any (Rg.ptk r 8) r.tl q 120 d 128 (Rg.pl8 h) rfl (by omega) y hy
    rw [Rg.st8] at this
    exact this
  have H9 : Hid (∀ y q d, Bs y q d (Rg.ptk r 9) → Calls Try.prog 56 #[.slice q 128 d, .agg B1] y (RowOf (Rg.ptk r 10) 160 y)) := fun y q d hy => by
    have := sum_any (Rg.ptk r 9) r.b1 h.b1.1 h.b1.2 q 128 d 160 (Rg.pl9 h) rfl (by omega) y hy
    rw [Rg.st9, hk.vals.2.2.1] at this
    exact this
  have H10 : Hid (∀ y q d, Bs y q d (Rg.ptk r 10) → Calls Try.prog 56 #[.slice q 160 d, .agg B2] y (RowOf (Rg.ptk r 11) 192 y)) := fun y q d hy => by
    have := sum_any (Rg.ptk r 10) r.b2 h.b2.1 h.b2.2 q 160 d 192 (Rg.pl10 h) rfl (by omega) y hy
    rw [Rg.st10, hk.vals.2.2.2] at this
    exact this
  rw [eA]
  have HAS := Lib.hid hk.size
  have HX := Lib.hid hk.ints
  have HXR := Lib.hid hk.rngs
  have HSSU := Lib.hid hk.sizes.1
  have HSRT := Lib.hid hk.sizes.2.1
  have HSB1 := Lib.hid hk.sizes.2.2.1
  have HSB2 := Lib.hid hk.sizes.2.2.2
  have HEND : Hid (∀ e w', GPutYes (Rg.ptk r 11) w e w' → GPutYes (Rg.pt r) w e w') := fun e w' q => by rw [← Rg.st11]; exact q
  have h1 := hk.one
  have R0 : Hid ((w.alloc (.cells A 40)).heap[w.heap.size]? = some (.cells A 40 (0, 0))) := heap_alloc_new w _
  have B0 : Hid (Below w.heap.size w (w.alloc (.cells A 40))) := (Below.refl _ w).alloc (Nat.le_refl _) _
  clear hk h eA hn
  refine Calls.mono ?_ (fun e w' q => HEND.out e w' q)
  go_enter Try.func31, Try.ntmps31
  go_upto_region 3 with (first
      | ((with_reducible refine row_load _ _ _ _ _ _ _ ?_ R0.out Try.underlying40 ?_ (row_size Try.sizeRec HAS) ?_); (exact rfl); (exact rfl))
      | (go_at_call 54; refine (HC0.out _).mono ?_; rintro e1 w1 ⟨rfl, HB1⟩))
  have Bw1 : Hid (Below w.heap.size w w1) := B0.out.trans (HB1.out.mono B0.out.size)
  have Gw1 : Hid (w1.heap[w.heap.size]? = some (.cells A 40 (0, 0))) := (HB1.out.block _ (lt_of_block R0.out)).trans R0.out
  clear HB1 R0 B0 HC0
  refine wp_region_any (by kernel_rfl) ?_
  change wpAny _ _ _ _ _ _ _ (World.drew _)
  have Bz : Hid (Below w.heap.size w w1.drew) := Bw1.out.drew
  have Gz : Hid (w1.drew.heap[w.heap.size]? = some (.cells A 40 (0, 0))) := Gw1.out
  obtain ⟨z, hz⟩ : ∃ y, y = w1.drew := ⟨_, rfl⟩
  rw [← hz] at Bz Gz ⊢
  clear hz
  refine wpAny_of_held (S := fun y => y.heap[w.heap.size]? = some (.cells A 40 (0, 0))) _ _ _ _ ?_
  refine anyH_take 0 8 (.pointer (some ⟨w.heap.size, 0, none⟩)) Gz.out rfl (by kernel_rfl) (by kernel_rfl) (by kernel_rfl) (fun _ _ _ h => h) (by rfl) (by intro y hy; go_simp) ?_
  try simp only [Act.put, List.setIfInBounds_toArray, List.set_cons_zero, List.set_cons_succ]
  refine anyH_take 1 9 (.int .i64 r.gen) Gz.out rfl (by kernel_rfl) (by kernel_rfl) (by kernel_rfl) (fun _ _ _ h => h) (by rfl) (by intro y hy; obtain ⟨c, _, _, _, _, _, _, _⟩ := HX.out y _ _ hy; go_simp) ?_
  try simp only [Act.put, List.setIfInBounds_toArray, List.set_cons_zero, List.set_cons_succ]
  refine anyH_take 3 11 (.pointer (some ⟨w.heap.size, 1, none⟩)) Gz.out rfl (by kernel_rfl) (by kernel_rfl) (by kernel_rfl) (fun _ _ _ h => h) (by rfl) (by intro y hy; go_simp) ?_
  try simp only [Act.put, List.setIfInBounds_toArray, List.set_cons_zero, List.set_cons_succ]
  refine anyH_take 4 12 (.int .i64 r.st) Gz.out rfl (by kernel_rfl) (by kernel_rfl) (by kernel_rfl) (fun _ _ _ h => h) (by rfl) (by intro y hy; obtain ⟨_, c, _, _, _, _, _, _⟩ := HX.out y _ _ hy; go_simp) ?_
  try simp only [Act.put, List.setIfInBounds_toArray, List.set_cons_zero, List.set_cons_succ]
  refine anyH_take 6 14 (.pointer (some ⟨w.heap.size, 2, none⟩)) Gz.out rfl (by kernel_rfl) (by kernel_rfl) (by kernel_rfl) (fun _ _ _ h => h) (by rfl) (by intro y hy; go_simp) ?_
  try simp only [Act.put, List.setIfInBounds_toArray, List.set_cons_zero, List.set_cons_succ]
  refine anyH_take 7 15 (.int .i64 r.ep) Gz.out rfl (by kernel_rfl) (by kernel_rfl) (by kernel_rfl) (fun _ _ _ h => h) (by rfl) (by intro y hy; obtain ⟨_, _, c, _, _, _, _, _⟩ := HX.out y _ _ hy; go_simp) ?_
  try simp only [Act.put, List.setIfInBounds_toArray, List.set_cons_zero, List.set_cons_succ]
  refine anyH_one 2 (by kernel_rfl) ?_
  refine wpOp_step rfl (fun Kc hKc => ?_)
  go_simp
  refine (H0.out _).mono ?_
  rintro e2 w2 ⟨p2, c2, rfl, HO2, HBw2, HL2⟩
  have Bw2 : Hid (Below w.heap.size w w2) := Bz.out.trans (HL2.out.mono Bz.out.size)
  have Gw2 : Hid (w2.heap[w.heap.size]? = some (.cells A 40 (0, 0))) := (HL2.out.block _ (lt_of_block Gz.out)).trans Gz.out
  dsimp only
  refine hKc _ _ ⟨Gw2.out, ?_⟩
  clear hKc Kc
  try simp only [Act.put, List.setIfInBounds_toArray, List.set_cons_zero, List.set_cons_succ]
  refine anyH_one 5 (by kernel_rfl) ?_
  refine wpOp_step rfl (fun Kc hKc => ?_)
  go_simp
  refine (H1.out _ _ _ HBw2.out).mono ?_
  rintro e3 w3 ⟨p3, c3, rfl, HO3, HBw3, HL3⟩
  have Bw3 : Hid (Below w.heap.size w w3) := Bw2.out.trans (HL3.out.mono Bw2.out.size)
  have Gw3 : Hid (w3.heap[w.heap.size]? = some (.cells A 40 (0, 0))) := (HL3.out.block _ (lt_of_block Gw2.out)).trans Gw2.out
  dsimp only
  refine hKc _ _ ⟨Gw3.out, ?_⟩
  clear hKc Kc
  try simp only [Act.put, List.setIfInBounds_toArray, List.set_cons_zero, List.set_cons_succ]
  refine anyH_one 8 (by kernel_rfl) ?_
  refine wpOp_step rfl (fun Kc hKc => ?_)
  go_simp
  refine (H2.out _ _ _ HBw3.out).mono ?_
  rintro e4 w4 ⟨p4, c4, rfl, HO4, HBw4, HL4⟩
  have Bw4 : Hid (Below w.heap.size w w4) := Bw3.out.trans (HL4.out.mono Bw3.out.size)
  have Gw4 : Hid (w4.heap[w.heap.size]? = some (.cells A 40 (0, 0))) := (HL4.out.block _ (lt_of_block Gw3.out)).trans Gw3.out
  dsimp only
  refine hKc _ _ ⟨Gw4.out, ?_⟩
  clear hKc Kc
  try simp only [Act.put, List.setIfInBounds_toArray, List.set_cons_zero, List.set_cons_succ]
  refine anyH_take 9 4 (.slice p4 24 c4) Gw4.out rfl (by kernel_rfl) (by kernel_rfl) (by kernel_rfl) (fun _ _ _ h => h) (by rfl) (by intro y hy; go_simp) ?_
  try simp only [Act.put, List.setIfInBounds_toArray, List.set_cons_zero, List.set_cons_succ]
  refine wpAnyH_done (by kernel_rfl) ?_ _
  have OW4 := Lib.hid (own_base HO4.out Bw3.out.size)
  clear Gz Bz H0 H1 H2 Bw2 Gw2 HBw2 HO2 HL2 Bw3 Gw3 HBw3 HO3 HL3 HO4 HL4
  go_upto_region 4 with (fail)
  refine wp_region_any (by kernel_rfl) ?_
  change wpAny _ _ _ _ _ _ _ (World.drew _)
  have Bz : Hid (Below w.heap.size w w4.drew) := Bw4.out.drew
  have Gz : Hid (w4.drew.heap[w.heap.size]? = some (.cells A 40 (0, 0))) := Gw4.out
  have HBz : Hid (Bs w4.drew p4 c4 (Rg.ptk r 3)) := HBw4.out.drew
  obtain ⟨z, hz⟩ : ∃ y, y = w4.drew := ⟨_, rfl⟩
  rw [← hz] at Bz Gz HBz ⊢
  clear hz
  refine wpAny_of_held (S := fun y => y.heap[w.heap.size]? = some (.cells A 40 (0, 0))) _ _ _ _ ?_
  refine anyH_take 0 17 (.slice p4 24 c4) Gz.out rfl (by kernel_rfl) (by kernel_rfl) (by kernel_rfl) (fun _ _ _ h => h) (by rfl) (by intro y hy; go_simp) ?_
  try simp only [Act.put, List.setIfInBounds_toArray, List.set_cons_zero, List.set_cons_succ]
  refine anyH_take 1 18 (.pointer (some ⟨w.heap.size, 3, none⟩)) Gz.out rfl (by kernel_rfl) (by kernel_rfl) (by kernel_rfl) (fun _ _ _ h => h) (by rfl) (by intro y hy; go_simp) ?_
  try simp only [Act.put, List.setIfInBounds_toArray, List.set_cons_zero, List.set_cons_succ]
  refine anyH_take 2 19 (.agg SU) Gz.out rfl (by kernel_rfl) (by kernel_rfl) (by kernel_rfl) (fun _ _ _ h => h) (by rfl) (fun y hy => exec_arr _ _ w.heap.size 3 SU _ rfl (HXR.out y _ _ hy).1 Try.underlying34 rfl (row_size Try.sizeSum HSSU)) ?_
  try simp only [Act.put, List.setIfInBounds_toArray, List.set_cons_zero, List.set_cons_succ]
  refine anyH_take 4 21 (.pointer (some ⟨w.heap.size, 35, none⟩)) Gz.out rfl (by kernel_rfl) (by kernel_rfl) (by kernel_rfl) (fun _ _ _ h => h) (by rfl) (by intro y hy; go_simp) ?_
  try simp only [Act.put, List.setIfInBounds_toArray, List.set_cons_zero, List.set_cons_succ]
  refine anyH_take 5 22 (.agg RT) Gz.out rfl (by kernel_rfl) (by kernel_rfl) (by kernel_rfl) (fun _ _ _ h => h) (by rfl) (fun y hy => exec_arr _ _ w.heap.size 35 RT _ rfl (HXR.out y _ _ hy).2.1 Try.underlying36 rfl (row_size Try.sizeRef HSRT)) ?_
  try simp only [Act.put, List.setIfInBounds_toArray, List.set_cons_zero, List.set_cons_succ]
  refine anyH_one 3 (by kernel_rfl) ?_
  refine wpOp_step rfl (fun Kc hKc => ?_)
  go_simp
  refine (H3.out _ _ _ HBz.out).mono ?_
  rintro e5 w5 ⟨p5, c5, rfl, HO5, HBw5, HL5⟩
  have Bw5 : Hid (Below w.heap.size w w5) := Bz.out.trans (HL5.out.mono Bz.out.size)
  have Gw5 : Hid (w5.heap[w.heap.size]? = some (.cells A 40 (0, 0))) := (HL5.out.block _ (lt_of_block Gz.out)).trans Gz.out
  dsimp only
  refine hKc _ _ ⟨Gw5.out, ?_⟩
  clear hKc Kc
  try simp only [Act.put, List.setIfInBounds_toArray, List.set_cons_zero, List.set_cons_succ]
  refine anyH_one 6 (by kernel_rfl) ?_
  refine wpOp_step rfl (fun Kc hKc => ?_)
  go_simp
  refine (H4.out _ _ _ HBw5.out).mono ?_
  rintro e6 w6 ⟨p6, c6, rfl, HO6, HBw6, HL6⟩
  have Bw6 : Hid (Below w.heap.size w w6) := Bw5.out.trans (HL6.out.mono Bw5.out.size)
  have Gw6 : Hid (w6.heap[w.heap.size]? = some (.cells A 40 (0, 0))) := (HL6.out.block _ (lt_of_block Gw5.out)).trans Gw5.out
  dsimp only
  refine hKc _ _ ⟨Gw6.out, ?_⟩
  clear hKc Kc
  try simp only [Act.put, List.setIfInBounds_toArray, List.set_cons_zero, List.set_cons_succ]
  refine anyH_take 7 4 (.slice p6 96 c6) Gw6.out rfl (by kernel_rfl) (by kernel_rfl) (by kernel_rfl) (fun _ _ _ h => h) (by rfl) (by intro y hy; go_simp) ?_
  try simp only [Act.put, List.setIfInBounds_toArray, List.set_cons_zero, List.set_cons_succ]
  refine wpAnyH_done (by kernel_rfl) ?_ _
  have OW6 := Lib.hid (own_base HO6.out Bw5.out.size)
  clear Gz Bz HBz H3 H4 Bw5 Gw5 HBw5 HO5 HL5 HO6 HL6
  go_upto_region 5 with (fail)
  refine wp_region_any (by kernel_rfl) ?_
  change wpAny _ _ _ _ _ _ _ (World.drew _)
  have Bz : Hid (Below w.heap.size w w6.drew) := Bw6.out.drew
  have Gz : Hid (w6.drew.heap[w.heap.size]? = some (.cells A 40 (0, 0))) := Gw6.out
  have HBz : Hid (Bs w6.drew p6 c6 (Rg.ptk r 5)) := HBw6.out.drew
  obtain ⟨z, hz⟩ : ∃ y, y = w6.drew := ⟨_, rfl⟩
  rw [← hz] at Bz Gz HBz ⊢
  clear hz
  refine wpAny_of_held (S := fun y => y.heap[w.heap.size]? = some (.cells A 40 (0, 0))) _ _ _ _ ?_
  refine anyH_take 0 24 (.slice p6 96 c6) Gz.out rfl (by kernel_rfl) (by kernel_rfl) (by kernel_rfl) (fun _ _ _ h => h) (by rfl) (by intro y hy; go_simp) ?_
  try simp only [Act.put, List.setIfInBounds_toArray, List.set_cons_zero, List.set_cons_succ]
  refine anyH_take 1 25 (.pointer (some ⟨w.heap.size, 68, none⟩)) Gz.out rfl (by kernel_rfl) (by kernel_rfl) (by kernel_rfl) (fun _ _ _ h => h) (by rfl) (by intro y hy; go_simp) ?_
  try simp only [Act.put, List.setIfInBounds_toArray, List.set_cons_zero, List.set_cons_succ]
  refine anyH_take 2 26 (.pointer (some ⟨w.heap.size, 68, none⟩)) Gz.out rfl (by kernel_rfl) (by kernel_rfl) (by kernel_rfl) (fun _ _ _ h => h) (by rfl) (by intro y hy; go_simp) ?_
  try simp only [Act.put, List.setIfInBounds_toArray, List.set_cons_zero, List.set_cons_succ]
  refine anyH_take 3 27 (.int .i64 r.bs) Gz.out rfl (by kernel_rfl) (by kernel_rfl) (by kernel_rfl) (fun _ _ _ h => h) (by rfl) (by intro y hy; obtain ⟨_, _, _, _, c, _, _, _⟩ := HX.out y _ _ hy; go_simp) ?_
  try simp only [Act.put, List.setIfInBounds_toArray, List.set_cons_zero, List.set_cons_succ]
  refine anyH_take 5 29 (.pointer (some ⟨w.heap.size, 68, none⟩)) Gz.out rfl (by kernel_rfl) (by kernel_rfl) (by kernel_rfl) (fun _ _ _ h => h) (by rfl) (by intro y hy; go_simp) ?_
  try simp only [Act.put, List.setIfInBounds_toArray, List.set_cons_zero, List.set_cons_succ]
  refine anyH_take 6 30 (.pointer (some ⟨w.heap.size, 69, none⟩)) Gz.out rfl (by kernel_rfl) (by kernel_rfl) (by kernel_rfl) (fun _ _ _ h => h) (by rfl) (by intro y hy; go_simp) ?_
  try simp only [Act.put, List.setIfInBounds_toArray, List.set_cons_zero, List.set_cons_succ]
  refine anyH_take 7 31 (.int .i64 r.bl) Gz.out rfl (by kernel_rfl) (by kernel_rfl) (by kernel_rfl) (fun _ _ _ h => h) (by rfl) (by intro y hy; obtain ⟨_, _, _, _, _, c, _, _⟩ := HX.out y _ _ hy; go_simp) ?_
  try simp only [Act.put, List.setIfInBounds_toArray, List.set_cons_zero, List.set_cons_succ]
  refine anyH_one 4 (by kernel_rfl) ?_
  refine wpOp_step rfl (fun Kc hKc => ?_)
  go_simp
  refine (H5.out _ _ _ HBz.out).mono ?_
  rintro e7 w7 ⟨p7, c7, rfl, HO7, HBw7, HL7⟩
  have Bw7 : Hid (Below w.heap.size w w7) := Bz.out.trans (HL7.out.mono Bz.out.size)
  have Gw7 : Hid (w7.heap[w.heap.size]? = some (.cells A 40 (0, 0))) := (HL7.out.block _ (lt_of_block Gz.out)).trans Gz.out
  dsimp only
  refine hKc _ _ ⟨Gw7.out, ?_⟩
  clear hKc Kc
  try simp only [Act.put, List.setIfInBounds_toArray, List.set_cons_zero, List.set_cons_succ]
  refine anyH_one 8 (by kernel_rfl) ?_
  refine wpOp_step rfl (fun Kc hKc => ?_)
  go_simp
  refine (H6.out _ _ _ HBw7.out).mono ?_
  rintro e8 w8 ⟨p8, c8, rfl, HO8, HBw8, HL8⟩
  have Bw8 : Hid (Below w.heap.size w w8) := Bw7.out.trans (HL8.out.mono Bw7.out.size)
  have Gw8 : Hid (w8.heap[w.heap.size]? = some (.cells A 40 (0, 0))) := (HL8.out.block _ (lt_of_block Gw7.out)).trans Gw7.out
  dsimp only
  refine hKc _ _ ⟨Gw8.out, ?_⟩
  clear hKc Kc
  try simp only [Act.put, List.setIfInBounds_toArray, List.set_cons_zero, List.set_cons_succ]
  refine anyH_take 9 4 (.slice p8 112 c8) Gw8.out rfl (by kernel_rfl) (by kernel_rfl) (by kernel_rfl) (fun _ _ _ h => h) (by rfl) (by intro y hy; go_simp) ?_
  try simp only [Act.put, List.setIfInBounds_toArray, List.set_cons_zero, List.set_cons_succ]
  refine wpAnyH_done (by kernel_rfl) ?_ _
  have OW8 := Lib.hid (own_base HO8.out Bw7.out.size)
  clear Gz Bz HBz H5 H6 Bw7 Gw7 HBw7 HO7 HL7 HO8 HL8
  go_upto_region 6 with (fail)
  refine wp_region_any (by kernel_rfl) ?_
  change wpAny _ _ _ _ _ _ _ (World.drew _)
  have Bz : Hid (Below w.heap.size w w8.drew) := Bw8.out.drew
  have Gz : Hid (w8.drew.heap[w.heap.size]? = some (.cells A 40 (0, 0))) := Gw8.out
  have HBz : Hid (Bs w8.drew p8 c8 (Rg.ptk r 7)) := HBw8.out.drew
  obtain ⟨z, hz⟩ : ∃ y, y = w8.drew := ⟨_, rfl⟩
  rw [← hz] at Bz Gz HBz ⊢
  clear hz
  refine wpAny_of_held (S := fun y => y.heap[w.heap.size]? = some (.cells A 40 (0, 0))) _ _ _ _ ?_
  refine anyH_take 0 33 (.slice p8 112 c8) Gz.out rfl (by kernel_rfl) (by kernel_rfl) (by kernel_rfl) (fun _ _ _ h => h) (by rfl) (by intro y hy; go_simp) ?_
  try simp only [Act.put, List.setIfInBounds_toArray, List.set_cons_zero, List.set_cons_succ]
  refine anyH_take 1 34 (.pointer (some ⟨w.heap.size, 70, none⟩)) Gz.out rfl (by kernel_rfl) (by kernel_rfl) (by kernel_rfl) (fun _ _ _ h => h) (by rfl) (by intro y hy; go_simp) ?_
  try simp only [Act.put, List.setIfInBounds_toArray, List.set_cons_zero, List.set_cons_succ]
  refine anyH_take 2 35 (.pointer (some ⟨w.heap.size, 70, none⟩)) Gz.out rfl (by kernel_rfl) (by kernel_rfl) (by kernel_rfl) (fun _ _ _ h => h) (by rfl) (by intro y hy; go_simp) ?_
  try simp only [Act.put, List.setIfInBounds_toArray, List.set_cons_zero, List.set_cons_succ]
  refine anyH_take 3 36 (.int .i64 r.ts) Gz.out rfl (by kernel_rfl) (by kernel_rfl) (by kernel_rfl) (fun _ _ _ h => h) (by rfl) (by intro y hy; obtain ⟨_, _, _, _, _, _, c, _⟩ := HX.out y _ _ hy; go_simp) ?_
  try simp only [Act.put, List.setIfInBounds_toArray, List.set_cons_zero, List.set_cons_succ]
  refine anyH_take 5 38 (.pointer (some ⟨w.heap.size, 70, none⟩)) Gz.out rfl (by kernel_rfl) (by kernel_rfl) (by kernel_rfl) (fun _ _ _ h => h) (by rfl) (by intro y hy; go_simp) ?_
  try simp only [Act.put, List.setIfInBounds_toArray, List.set_cons_zero, List.set_cons_succ]
  refine anyH_take 6 39 (.pointer (some ⟨w.heap.size, 71, none⟩)) Gz.out rfl (by kernel_rfl) (by kernel_rfl) (by kernel_rfl) (fun _ _ _ h => h) (by rfl) (by intro y hy; go_simp) ?_
  try simp only [Act.put, List.setIfInBounds_toArray, List.set_cons_zero, List.set_cons_succ]
  refine anyH_take 7 40 (.int .i64 r.tl) Gz.out rfl (by kernel_rfl) (by kernel_rfl) (by kernel_rfl) (fun _ _ _ h => h) (by rfl) (by intro y hy; obtain ⟨_, _, _, _, _, _, _, c⟩ := HX.out y _ _ hy; go_simp) ?_
  try simp only [Act.put, List.setIfInBounds_toArray, List.set_cons_zero, List.set_cons_succ]
  refine anyH_one 4 (by kernel_rfl) ?_
  refine wpOp_step rfl (fun Kc hKc => ?_)
  go_simp
  refine (H7.out _ _ _ HBz.out).mono ?_
  rintro e9 w9 ⟨p9, c9, rfl, HO9, HBw9, HL9⟩
  have Bw9 : Hid (Below w.heap.size w w9) := Bz.out.trans (HL9.out.mono Bz.out.size)
  have Gw9 : Hid (w9.heap[w.heap.size]? = some (.cells A 40 (0, 0))) := (HL9.out.block _ (lt_of_block Gz.out)).trans Gz.out
  dsimp only
  refine hKc _ _ ⟨Gw9.out, ?_⟩
  clear hKc Kc
  try simp only [Act.put, List.setIfInBounds_toArray, List.set_cons_zero, List.set_cons_succ]
  refine anyH_one 8 (by kernel_rfl) ?_
  refine wpOp_step rfl (fun Kc hKc => ?_)
  go_simp
  refine (H8.out _ _ _ HBw9.out).mono ?_
  rintro e10 w10 ⟨p10, c10, rfl, HO10, HBw10, HL10⟩
  have Bw10 : Hid (Below w.heap.size w w10) := Bw9.out.trans (HL10.out.mono Bw9.out.size)
  have Gw10 : Hid (w10.heap[w.heap.size]? = some (.cells A 40 (0, 0))) := (HL10.out.block _ (lt_of_block Gw9.out)).trans Gw9.out
  dsimp only
  refine hKc _ _ ⟨Gw10.out, ?_⟩
  clear hKc Kc
  try simp only [Act.put, List.setIfInBounds_toArray, List.set_cons_zero, List.set_cons_succ]
  refine anyH_take 9 4 (.slice p10 128 c10) Gw10.out rfl (by kernel_rfl) (by kernel_rfl) (by kernel_rfl) (fun _ _ _ h => h) (by rfl) (by intro y hy; go_simp) ?_
  try simp only [Act.put, List.setIfInBounds_toArray, List.set_cons_zero, List.set_cons_succ]
  refine wpAnyH_done (by kernel_rfl) ?_ _
  have OW10 := Lib.hid (own_base HO10.out Bw9.out.size)
  clear Gz Bz HBz H7 H8 Bw9 Gw9 HBw9 HO9 HL9 HO10 HL10
  go_upto_region 7 with (fail)
  refine wp_region_any (by kernel_rfl) ?_
  change wpAny _ _ _ _ _ _ _ (World.drew _)
  have Bz : Hid (Below w.heap.size w w10.drew) := Bw10.out.drew
  have Gz : Hid (w10.drew.heap[w.heap.size]? = some (.cells A 40 (0, 0))) := Gw10.out
  have HBz : Hid (Bs w10.drew p10 c10 (Rg.ptk r 9)) := HBw10.out.drew
  obtain ⟨z, hz⟩ : ∃ y, y = w10.drew := ⟨_, rfl⟩
  rw [← hz] at Bz Gz HBz ⊢
  clear hz
  refine wpAny_of_held (S := fun y => y.heap[w.heap.size]? = some (.cells A 40 (0, 0))) _ _ _ _ ?_
  refine anyH_take 0 42 (.slice p10 128 c10) Gz.out rfl (by kernel_rfl) (by kernel_rfl) (by kernel_rfl) (fun _ _ _ h => h) (by rfl) (by intro y hy; go_simp) ?_
  try simp only [Act.put, List.setIfInBounds_toArray, List.set_cons_zero, List.set_cons_succ]
  refine anyH_take 1 43 (.pointer (some ⟨w.heap.size, 72, none⟩)) Gz.out rfl (by kernel_rfl) (by kernel_rfl) (by kernel_rfl) (fun _ _ _ h => h) (by rfl) (by intro y hy; go_simp) ?_
  try simp only [Act.put, List.setIfInBounds_toArray, List.set_cons_zero, List.set_cons_succ]
  refine anyH_take 2 44 (.agg B1) Gz.out rfl (by kernel_rfl) (by kernel_rfl) (by kernel_rfl) (fun _ _ _ h => h) (by rfl) (fun y hy => exec_arr _ _ w.heap.size 72 B1 _ rfl (HXR.out y _ _ hy).2.2.1 Try.underlying34 rfl (row_size Try.sizeSum HSB1)) ?_
  try simp only [Act.put, List.setIfInBounds_toArray, List.set_cons_zero, List.set_cons_succ]
  refine anyH_take 4 46 (.pointer (some ⟨w.heap.size, 104, none⟩)) Gz.out rfl (by kernel_rfl) (by kernel_rfl) (by kernel_rfl) (fun _ _ _ h => h) (by rfl) (by intro y hy; go_simp) ?_
  try simp only [Act.put, List.setIfInBounds_toArray, List.set_cons_zero, List.set_cons_succ]
  refine anyH_take 5 47 (.agg B2) Gz.out rfl (by kernel_rfl) (by kernel_rfl) (by kernel_rfl) (fun _ _ _ h => h) (by rfl) (fun y hy => exec_arr _ _ w.heap.size 104 B2 _ rfl (HXR.out y _ _ hy).2.2.2 Try.underlying34 rfl (row_size Try.sizeSum HSB2)) ?_
  try simp only [Act.put, List.setIfInBounds_toArray, List.set_cons_zero, List.set_cons_succ]
  refine anyH_one 3 (by kernel_rfl) ?_
  refine wpOp_step rfl (fun Kc hKc => ?_)
  go_simp
  refine (H9.out _ _ _ HBz.out).mono ?_
  rintro e11 w11 ⟨p11, c11, rfl, HO11, HBw11, HL11⟩
  have Bw11 : Hid (Below w.heap.size w w11) := Bz.out.trans (HL11.out.mono Bz.out.size)
  have Gw11 : Hid (w11.heap[w.heap.size]? = some (.cells A 40 (0, 0))) := (HL11.out.block _ (lt_of_block Gz.out)).trans Gz.out
  dsimp only
  refine hKc _ _ ⟨Gw11.out, ?_⟩
  clear hKc Kc
  try simp only [Act.put, List.setIfInBounds_toArray, List.set_cons_zero, List.set_cons_succ]
  refine anyH_one 6 (by kernel_rfl) ?_
  refine wpOp_step rfl (fun Kc hKc => ?_)
  go_simp
  refine (H10.out _ _ _ HBw11.out).mono ?_
  rintro e12 w12 ⟨p12, c12, rfl, HO12, HBw12, HL12⟩
  have Bw12 : Hid (Below w.heap.size w w12) := Bw11.out.trans (HL12.out.mono Bw11.out.size)
  have Gw12 : Hid (w12.heap[w.heap.size]? = some (.cells A 40 (0, 0))) := (HL12.out.block _ (lt_of_block Gw11.out)).trans Gw11.out
  dsimp only
  refine hKc _ _ ⟨Gw12.out, ?_⟩
  clear hKc Kc
  try simp only [Act.put, List.setIfInBounds_toArray, List.set_cons_zero, List.set_cons_succ]
  refine anyH_take 7 2 (.slice p12 192 c12) Gw12.out rfl (by kernel_rfl) (by kernel_rfl) (by kernel_rfl) (fun _ _ _ h => h) (by rfl) (by intro y hy; go_simp) ?_
  try simp only [Act.put, List.setIfInBounds_toArray, List.set_cons_zero, List.set_cons_succ]
  refine anyH_take 8 3 (.int .i64 0) Gw12.out rfl (by kernel_rfl) (by kernel_rfl) (by kernel_rfl) (fun _ _ _ h => h) (by rfl) (by intro y hy; go_simp) ?_
  try simp only [Act.put, List.setIfInBounds_toArray, List.set_cons_zero, List.set_cons_succ]
  refine wpAnyH_done (by kernel_rfl) ?_ _
  have OW12 := Lib.hid (own_base HO12.out Bw11.out.size)
  clear Gz Bz HBz H9 H10 Bw11 Gw11 HBw11 HO11 HL11 HO12 HL12
  go_wp2
  go_ret2
  exact ⟨_, _, rfl, OW12.out, HBw12.out, Bw12.out⟩
end

/-! RgE: Contract: region.Get. -/
section
open Go.RowKit

theorem fill_step (place : Nat → Option (Nat × Nat)) (i : Nat) (v : Value) (off size : Nat) (Z : Array Value) (rest : List (Nat × Value)) (h : place i = some (off, size)) (hs : v.cells.size = size) (hz : off + size ≤ Z.size) :
    Instr.fill place Z ((i, v) :: rest) = Instr.fill place (Z.toList.take off ++ v.cells.toList ++ Z.toList.drop (off + size)).toArray rest := by
  have h1 := fill_off off v.cells.toList 0 Z (by simpa [hs] using hz)
  conv => lhs; unfold Instr.fill
  rw [h]
  dsimp only
  split
  · rename_i hh
    simp [hs] at hh
    omega
  · congr 1
    show Array.foldl (fun (cs : Array Value) (x : Value × Nat) => cs.setIfInBounds (off + x.2) x.1) Z v.cells.zipIdx = _
    rw [← Array.foldl_toList, Array.toList_zipIdx, h1]
    simp [hs]
theorem built_of {ty : TypeId} {Z : Array Value} {n : Nat} {ps : List (Nat × Nat)} (hz : (Try.prog.info? ty).map (fun i => (i.zero, i.size)) = some (some (.agg Z), n)) (hp : (match Try.prog.underlying ty with
    | some (.struct fields) => fields.toList.mapM (fun f => (Try.prog.info? f.type).map fun i => (f.offset, i.size))
    | _ => none) = some ps) (parts : List (Nat × Value)) : Try.prog.built ty parts = Instr.fill (ps.toArray[·]?) Z parts := by
  unfold Program.built
  cases hi : Try.prog.info? ty with
  | none => rw [hi] at hz; cases hz
  | some i =>
    rw [hi] at hz
    simp only [Option.map_some, Option.some.injEq, Prod.mk.injEq] at hz
    cases hu : Try.prog.underlying ty with
    | none => rw [hu] at hp; cases hp
    | some d =>
      rw [hu] at hp
      cases d <;> try (exact absurd hp (fun h => by cases h))
      case struct fields =>
        dsimp only at hp ⊢
        rw [hz.1, hp]
        rfl
theorem Try.placesRec : (match Try.prog.underlying 40 with
    | some (.struct fields) => fields.toList.mapM (fun f => (Try.prog.info? f.type).map fun i => (f.offset, i.size))
    | _ => none) = some [(0, 1), (1, 1), (2, 1), (3, 32), (35, 33), (68, 2), (70, 2), (72, 32), (104, 32)] := by kernel_rfl
theorem fill_seg (place : Nat → Option (Nat × Nat)) (pre old new post : List Value) (i off size : Nat) (v : Value) (rest : List (Nat × Value)) (h : place i = some (off, size)) (h1 : pre.length = off) (h2 : old.length = size) (h3 : v.cells.toList = new) (h4 : new.length = size) :
    Instr.fill place (pre ++ (old ++ post)).toArray ((i, v) :: rest) = Instr.fill place ((pre ++ new) ++ post).toArray rest := by
  have hs : v.cells.size = size := by rw [← h4, ← h3, Array.length_toList]
  have e : List.take off (pre ++ (old ++ post)) ++ v.cells.toList ++ List.drop (off + size) (pre ++ (old ++ post)) = (pre ++ new) ++ post := by
    rw [List.take_append_of_le_length (by omega), List.take_of_length_le (by omega), ← List.append_assoc pre old post, List.drop_append_of_le_length (by rw [List.length_append]; omega), List.drop_of_length_le (by rw [List.length_append]; omega), List.nil_append, h3]
  rw [fill_step place i v off size _ rest h hs (by rw [List.size_toArray, List.length_append, List.length_append]; omega)]
  exact congrArg (fun z : List Value => Instr.fill place z.toArray rest) e
set_option maxHeartbeats 1000000 in
set_option maxRecDepth 100000 in
theorem build_rec (r : Rg.R) (h : Rg.Ok r) : Try.prog.built 40 [(0, .int .i64 r.gen), (1, .int .i64 r.st), (2, .int .i64 r.ep), (3, A32 r.su), (4, R33 r.rt), (5, Pv r.bs r.bl), (6, Pv r.ts r.tl), (7, A32 r.b1), (8, A32 r.b2)] = some (cv r).toArray := by
  have c1 : (A32 r.su).cells.toList = u8v r.su := by simp [A32, Value.cells]
  have c2 : (R33 r.rt).cells.toList = Value.int .i64 r.rt.1 :: u8v r.rt.2 := by simp [R33, Value.cells]
  have c3 : (A32 r.b1).cells.toList = u8v r.b1 := by simp [A32, Value.cells]
  have c4 : (A32 r.b2).cells.toList = u8v r.b2 := by simp [A32, Value.cells]
  have l1 : (u8v r.su).length = 32 := by rw [List.length_map, h.su.1]
  have l2 : (Value.int .i64 r.rt.1 :: u8v r.rt.2).length = 33 := by rw [List.length_cons, List.length_map, h.rt.2.1]
  have l3 : (u8v r.b1).length = 32 := by rw [List.length_map, h.b1.1]
  have l4 : (u8v r.b2).length = 32 := by rw [List.length_map, h.b2.1]
  have z1 : (u8v Rg.zero.su).length = 32 := by rw [List.length_map, Rg.ok_zero.su.1]
  have z2 : (Value.int .i64 Rg.zero.rt.1 :: u8v Rg.zero.rt.2).length = 33 := by rw [List.length_cons, List.length_map, Rg.ok_zero.rt.2.1]
  have z3 : (u8v Rg.zero.b1).length = 32 := by rw [List.length_map, Rg.ok_zero.b1.1]
  have z4 : (u8v Rg.zero.b2).length = 32 := by rw [List.length_map, Rg.ok_zero.b2.1]
  rw [built_of Try.zeroRec Try.placesRec]
  unfold cv
  generalize A32 r.su = V1 at *
  generalize R33 r.rt = V2 at *
  generalize A32 r.b1 = V3 at *
  generalize A32 r.b2 = V4 at *
  generalize u8v r.su = x1 at *
  generalize Value.int .i64 r.rt.1 :: u8v r.rt.2 = x2 at *
  generalize u8v r.b1 = x3 at *
  generalize u8v r.b2 = x4 at *
  generalize u8v Rg.zero.su = q1 at *
  generalize Value.int .i64 Rg.zero.rt.1 :: u8v Rg.zero.rt.2 = q2 at *
  generalize u8v Rg.zero.b1 = q3 at *
  generalize u8v Rg.zero.b2 = q4 at *
  obtain ⟨pl, hpl⟩ : ∃ pl : Nat → Option (Nat × Nat), pl = fun (i : Nat) => ([(0, 1), (1, 1), (2, 1), (3, 32), (35, 33), (68, 2), (70, 2), (72, 32), (104, 32)] : List (Nat × Nat)).toArray[i]? := ⟨_, rfl⟩
  rw [← hpl]
  have p0 : pl 0 = some (0, 1) := by rw [hpl]; rfl
  have p1 : pl 1 = some (1, 1) := by rw [hpl]; rfl
  have p2 : pl 2 = some (2, 1) := by rw [hpl]; rfl
  have p3 : pl 3 = some (3, 32) := by rw [hpl]; rfl
  have p4 : pl 4 = some (35, 33) := by rw [hpl]; rfl
  have p5 : pl 5 = some (68, 2) := by rw [hpl]; rfl
  have p6 : pl 6 = some (70, 2) := by rw [hpl]; rfl
  have p7 : pl 7 = some (72, 32) := by rw [hpl]; rfl
  have p8 : pl 8 = some (104, 32) := by rw [hpl]; rfl
  clear hpl
  change Instr.fill pl (([] : List Value) ++ (([Value.int .i64 Rg.zero.gen] : List Value) ++ ([Value.int .i64 Rg.zero.st] ++ ([Value.int .i64 Rg.zero.ep] ++ (q1 ++ (q2 ++ ([Value.int .i64 Rg.zero.bs, Value.int .i64 Rg.zero.bl] ++ ([Value.int .i64 Rg.zero.ts, Value.int .i64 Rg.zero.tl] ++ (q3 ++ (q4))))))) : List Value))).toArray _ = _
  rw [fill_seg pl ([] : List Value) ([Value.int .i64 Rg.zero.gen] : List Value) ([Value.int .i64 r.gen] : List Value) _ 0 0 1 (Value.int .i64 r.gen) _ p0 rfl rfl rfl rfl]
  have g1 : (([] : List Value) ++ ([Value.int .i64 r.gen] : List Value)).length = 1 := by rw [List.length_append, show ([] : List Value).length = 0 from rfl, show ([Value.int .i64 r.gen] : List Value).length = 1 from rfl]
  rw [fill_seg pl (([] : List Value) ++ ([Value.int .i64 r.gen] : List Value)) ([Value.int .i64 Rg.zero.st] : List Value) ([Value.int .i64 r.st] : List Value) _ 1 1 1 (Value.int .i64 r.st) _ p1 g1 rfl rfl rfl]
  have g2 : ((([] : List Value) ++ ([Value.int .i64 r.gen] : List Value)) ++ ([Value.int .i64 r.st] : List Value)).length = 2 := by rw [List.length_append, show (([] : List Value) ++ ([Value.int .i64 r.gen] : List Value)).length = 1 from g1, show ([Value.int .i64 r.st] : List Value).length = 1 from rfl]
  rw [fill_seg pl ((([] : List Value) ++ ([Value.int .i64 r.gen] : List Value)) ++ ([Value.int .i64 r.st] : List Value)) ([Value.int .i64 Rg.zero.ep] : List Value) ([Value.int .i64 r.ep] : List Value) _ 2 2 1 (Value.int .i64 r.ep) _ p2 g2 rfl rfl rfl]
  have g3 : (((([] : List Value) ++ ([Value.int .i64 r.gen] : List Value)) ++ ([Value.int .i64 r.st] : List Value)) ++ ([Value.int .i64 r.ep] : List Value)).length = 3 := by rw [List.length_append, show ((([] : List Value) ++ ([Value.int .i64 r.gen] : List Value)) ++ ([Value.int .i64 r.st] : List Value)).length = 2 from g2, show ([Value.int .i64 r.ep] : List Value).length = 1 from rfl]
  rw [fill_seg pl (((([] : List Value) ++ ([Value.int .i64 r.gen] : List Value)) ++ ([Value.int .i64 r.st] : List Value)) ++ ([Value.int .i64 r.ep] : List Value)) (q1 : List Value) (x1 : List Value) _ 3 3 32 (V1) _ p3 g3 z1 c1 l1]
  have g4 : ((((([] : List Value) ++ ([Value.int .i64 r.gen] : List Value)) ++ ([Value.int .i64 r.st] : List Value)) ++ ([Value.int .i64 r.ep] : List Value)) ++ (x1 : List Value)).length = 35 := by rw [List.length_append, show (((([] : List Value) ++ ([Value.int .i64 r.gen] : List Value)) ++ ([Value.int .i64 r.st] : List Value)) ++ ([Value.int .i64 r.ep] : List Value)).length = 3 from g3, show (x1 : List Value).length = 32 from l1]
  rw [fill_seg pl ((((([] : List Value) ++ ([Value.int .i64 r.gen] : List Value)) ++ ([Value.int .i64 r.st] : List Value)) ++ ([Value.int .i64 r.ep] : List Value)) ++ (x1 : List Value)) (q2 : List Value) (x2 : List Value) _ 4 35 33 (V2) _ p4 g4 z2 c2 l2]
  have g5 : (((((([] : List Value) ++ ([Value.int .i64 r.gen] : List Value)) ++ ([Value.int .i64 r.st] : List Value)) ++ ([Value.int .i64 r.ep] : List Value)) ++ (x1 : List Value)) ++ (x2 : List Value)).length = 68 := by rw [List.length_append, show ((((([] : List Value) ++ ([Value.int .i64 r.gen] : List Value)) ++ ([Value.int .i64 r.st] : List Value)) ++ ([Value.int .i64 r.ep] : List Value)) ++ (x1 : List Value)).length = 35 from g4, show (x2 : List Value).length = 33 from l2]
  rw [fill_seg pl (((((([] : List Value) ++ ([Value.int .i64 r.gen] : List Value)) ++ ([Value.int .i64 r.st] : List Value)) ++ ([Value.int .i64 r.ep] : List Value)) ++ (x1 : List Value)) ++ (x2 : List Value)) ([Value.int .i64 Rg.zero.bs, Value.int .i64 Rg.zero.bl] : List Value) ([Value.int .i64 r.bs, Value.int .i64 r.bl] : List Value) _ 5 68 2 (Pv r.bs r.bl) _ p5 g5 rfl rfl rfl]
  have g6 : ((((((([] : List Value) ++ ([Value.int .i64 r.gen] : List Value)) ++ ([Value.int .i64 r.st] : List Value)) ++ ([Value.int .i64 r.ep] : List Value)) ++ (x1 : List Value)) ++ (x2 : List Value)) ++ ([Value.int .i64 r.bs, Value.int .i64 r.bl] : List Value)).length = 70 := by rw [List.length_append, show (((((([] : List Value) ++ ([Value.int .i64 r.gen] : List Value)) ++ ([Value.int .i64 r.st] : List Value)) ++ ([Value.int .i64 r.ep] : List Value)) ++ (x1 : List Value)) ++ (x2 : List Value)).length = 68 from g5, show ([Value.int .i64 r.bs, Value.int .i64 r.bl] : List Value).length = 2 from rfl]
  rw [fill_seg pl ((((((([] : List Value) ++ ([Value.int .i64 r.gen] : List Value)) ++ ([Value.int .i64 r.st] : List Value)) ++ ([Value.int .i64 r.ep] : List Value)) ++ (x1 : List Value)) ++ (x2 : List Value)) ++ ([Value.int .i64 r.bs, Value.int .i64 r.bl] : List Value)) ([Value.int .i64 Rg.zero.ts, Value.int .i64 Rg.zero.tl] : List Value) ([Value.int .i64 r.ts, Value.int .i64 r.tl] : List Value) _ 6 70 2 (Pv r.ts r.tl) _ p6 g6 rfl rfl rfl]
  have g7 : (((((((([] : List Value) ++ ([Value.int .i64 r.gen] : List Value)) ++ ([Value.int .i64 r.st] : List Value)) ++ ([Value.int .i64 r.ep] : List Value)) ++ (x1 : List Value)) ++ (x2 : List Value)) ++ ([Value.int .i64 r.bs, Value.int .i64 r.bl] : List Value)) ++ ([Value.int .i64 r.ts, Value.int .i64 r.tl] : List Value)).length = 72 := by rw [List.length_append, show ((((((([] : List Value) ++ ([Value.int .i64 r.gen] : List Value)) ++ ([Value.int .i64 r.st] : List Value)) ++ ([Value.int .i64 r.ep] : List Value)) ++ (x1 : List Value)) ++ (x2 : List Value)) ++ ([Value.int .i64 r.bs, Value.int .i64 r.bl] : List Value)).length = 70 from g6, show ([Value.int .i64 r.ts, Value.int .i64 r.tl] : List Value).length = 2 from rfl]
  rw [fill_seg pl (((((((([] : List Value) ++ ([Value.int .i64 r.gen] : List Value)) ++ ([Value.int .i64 r.st] : List Value)) ++ ([Value.int .i64 r.ep] : List Value)) ++ (x1 : List Value)) ++ (x2 : List Value)) ++ ([Value.int .i64 r.bs, Value.int .i64 r.bl] : List Value)) ++ ([Value.int .i64 r.ts, Value.int .i64 r.tl] : List Value)) (q3 : List Value) (x3 : List Value) _ 7 72 32 (V3) _ p7 g7 z3 c3 l3]
  have g8 : ((((((((([] : List Value) ++ ([Value.int .i64 r.gen] : List Value)) ++ ([Value.int .i64 r.st] : List Value)) ++ ([Value.int .i64 r.ep] : List Value)) ++ (x1 : List Value)) ++ (x2 : List Value)) ++ ([Value.int .i64 r.bs, Value.int .i64 r.bl] : List Value)) ++ ([Value.int .i64 r.ts, Value.int .i64 r.tl] : List Value)) ++ (x3 : List Value)).length = 104 := by rw [List.length_append, show (((((((([] : List Value) ++ ([Value.int .i64 r.gen] : List Value)) ++ ([Value.int .i64 r.st] : List Value)) ++ ([Value.int .i64 r.ep] : List Value)) ++ (x1 : List Value)) ++ (x2 : List Value)) ++ ([Value.int .i64 r.bs, Value.int .i64 r.bl] : List Value)) ++ ([Value.int .i64 r.ts, Value.int .i64 r.tl] : List Value)).length = 72 from g7, show (x3 : List Value).length = 32 from l3]
  rw [show ∀ X : List Value, (X ++ q4).toArray = (X ++ (q4 ++ [])).toArray from fun X => by rw [List.append_nil]]
  rw [fill_seg pl ((((((((([] : List Value) ++ ([Value.int .i64 r.gen] : List Value)) ++ ([Value.int .i64 r.st] : List Value)) ++ ([Value.int .i64 r.ep] : List Value)) ++ (x1 : List Value)) ++ (x2 : List Value)) ++ ([Value.int .i64 r.bs, Value.int .i64 r.bl] : List Value)) ++ ([Value.int .i64 r.ts, Value.int .i64 r.tl] : List Value)) ++ (x3 : List Value)) (q4 : List Value) (x4 : List Value) _ 8 104 32 (V4) _ p8 g8 z4 c4 l4]
  have g9 : (((((((((([] : List Value) ++ ([Value.int .i64 r.gen] : List Value)) ++ ([Value.int .i64 r.st] : List Value)) ++ ([Value.int .i64 r.ep] : List Value)) ++ (x1 : List Value)) ++ (x2 : List Value)) ++ ([Value.int .i64 r.bs, Value.int .i64 r.bl] : List Value)) ++ ([Value.int .i64 r.ts, Value.int .i64 r.tl] : List Value)) ++ (x3 : List Value)) ++ (x4 : List Value)).length = 136 := by rw [List.length_append, show ((((((((([] : List Value) ++ ([Value.int .i64 r.gen] : List Value)) ++ ([Value.int .i64 r.st] : List Value)) ++ ([Value.int .i64 r.ep] : List Value)) ++ (x1 : List Value)) ++ (x2 : List Value)) ++ ([Value.int .i64 r.bs, Value.int .i64 r.bl] : List Value)) ++ ([Value.int .i64 r.ts, Value.int .i64 r.tl] : List Value)) ++ (x3 : List Value)).length = 104 from g8, show (x4 : List Value).length = 32 from l4]
  unfold Instr.fill
  simp only [List.append_assoc, List.append_nil, List.nil_append]
  rfl
section
variable {P : Program} {ops : Array Oper} {rest : List Oper} {a : Act} {w : World} {Q : Exit → Act → World → Prop} {D : Option Tmp} {T : TypeId} {ps : String} {af : Array Edge}
theorem row_buildN (t : TypeId) (parts : List (Nat × Operand)) (vs : List (Nat × Value)) (R : Array Value) (he : parts.map (fun p => (p.1, a.eval p.2)) = vs) (hr : P.built t vs = some R) (h : wpList P ops Q rest (a.put D (.agg R)) w) :
    wpList P ops Q ({ dst := D, op := .build t parts.toArray, type := T, pos := ps, after := af, guard := none } :: rest) a w :=
  wpList_plain rfl fun K hK => by
    have hrun := run_build (P := P) w t vs.toArray R hr
    unfold Oper.wp execOp
    have he2 : List.map (fun x : Nat × Operand => match x with | (i, x) => (i, a.eval x)) parts = vs := he
    simp only [List.map_toArray, he2, hrun, Sem.run_bind, Sem.run_pure, Result.andThen_ok]
    exact hK _ _ h
end
/-- What Get says. -/
def GotSay (L : List Int) (w : World) (e : Ending) (w' : World) : Prop := e = .returned (.tuple #[RV (Rg.gt L), .int .i64 (Rg.er L)]) ∧ Hid (Below w.heap.size w w')
set_option maxHeartbeats 4000000 in
set_option maxRecDepth 100000 in
theorem gget_any (L : List Int) (p : Option Addr) (n c : Nat) (hn : L.length = n) (hL : n ≤ 900000) (w : World) (hp : Bs w p c L) :
    Calls Try.prog 67 #[.slice p n c] w (GotSay L w) := by
  have HP := Lib.hid hp
  have HBY : Hid (Sha.Byt L) := hp.bat.1
  clear hp
  obtain ⟨Z, hZ⟩ : ∃ Z, Hid ((cv Rg.zero).toArray = Z) := ⟨_, rfl⟩
  have HZS : Hid (Z.size = 136) := by show _ = _; rw [← hZ.out, List.size_toArray, cv_len Rg.ok_zero]
  have HZ1 : Hid (Z.all (·.oneCell') = true) := by show _ = _; rw [← hZ.out]; exact all_oneCell_toArray (cv_one Rg.zero)
  have hz := (zero_of_info Try.zeroRec).1
  have HBT := Lib.hid Try.builtRec
  rw [hZ.out] at hz HBT
  have hzn : ¬ Z = #[] := fun h => by have := HZS.out; rw [h] at this; simp at this
  have hsz := row_size Try.sizeRec HZS
  have HOK : Hid (Rg.Ok (Rg.rc L)) := Rg.rc_ok HBY.out
  have HC0 : Hid (∀ y, Below w.heap.size w y → Calls Try.prog 47 #[.slice p n c] y (NewSay L y)) := fun y hy => read_any L p n c hn (by omega) y (HP.out.old hy)
  have hle : ∀ k, (Rg.rs L k).length ≤ 900000 := fun k => by have := Rg.rs_le L k; omega
  have HK0 : Hid (∀ y g D, RdAt y g D L false → Calls Try.prog 48 #[.pointer (some ⟨g, 0, none⟩)] y (RdSay (.int .i64 (Rg.rc L).gen) (Rg.rs L 1) (Rg.bd L 1) g D y)) := fun y g D hy => by
    rw [Rg.rcf0, Rg.rsn0, Rg.bdn0, Rg.rs0, Rg.bd0]
    exact rint_any L false g D _ rfl (by omega) y hy
  have HK1 : Hid (∀ y g D, RdAt y g D (Rg.rs L 1) (Rg.bd L 1) → Calls Try.prog 48 #[.pointer (some ⟨g, 0, none⟩)] y (RdSay (.int .i64 (Rg.rc L).st) (Rg.rs L 2) (Rg.bd L 2) g D y)) := fun y g D hy => by
    rw [Rg.rcf1, Rg.rsn1, Rg.bdn1]
    exact rint_any (Rg.rs L 1) (Rg.bd L 1) g D _ rfl (Nat.le_trans (hle 1) (by omega)) y hy
  have HK2 : Hid (∀ y g D, RdAt y g D (Rg.rs L 2) (Rg.bd L 2) → Calls Try.prog 48 #[.pointer (some ⟨g, 0, none⟩)] y (RdSay (.int .i64 (Rg.rc L).ep) (Rg.rs L 3) (Rg.bd L 3) g D y)) := fun y g D hy => by
    rw [Rg.rcf2, Rg.rsn2, Rg.bdn2]
    exact rint_any (Rg.rs L 2) (Rg.bd L 2) g D _ rfl (Nat.le_trans (hle 2) (by omega)) y hy
  have HK3 : Hid (∀ y g D, RdAt y g D (Rg.rs L 3) (Rg.bd L 3) → Calls Try.prog 84 #[.pointer (some ⟨g, 0, none⟩)] y (RdSay (A32 (Rg.rc L).su) (Rg.rs L 4) (Rg.bd L 4) g D y)) := fun y g D hy => by
    rw [Rg.rcf3, Rg.rsn3, Rg.bdn3]
    exact rsum_any (Rg.rs L 3) (Rg.bd L 3) g D _ rfl (Nat.le_trans (hle 3) (by omega)) y hy
  have HK4 : Hid (∀ y g D, RdAt y g D (Rg.rs L 4) (Rg.bd L 4) → Calls Try.prog 85 #[.pointer (some ⟨g, 0, none⟩)] y (RdSay (R33 (Rg.rc L).rt) (Rg.rs L 5) (Rg.bd L 5) g D y)) := fun y g D hy => by
    rw [Rg.rcf4, Rg.rsn4, Rg.bdn4]
    exact rref_any (Rg.rs L 4) (Rg.bd L 4) g D _ rfl (Nat.le_trans (hle 4) (by omega)) y hy
  have HK5 : Hid (∀ y g D, RdAt y g D (Rg.rs L 5) (Rg.bd L 5) → Calls Try.prog 48 #[.pointer (some ⟨g, 0, none⟩)] y (RdSay (.int .i64 (Rg.rc L).bs) (Rg.rs L 6) (Rg.bd L 6) g D y)) := fun y g D hy => by
    rw [Rg.rcf5, Rg.rsn5, Rg.bdn5]
    exact rint_any (Rg.rs L 5) (Rg.bd L 5) g D _ rfl (Nat.le_trans (hle 5) (by omega)) y hy
  have HK6 : Hid (∀ y g D, RdAt y g D (Rg.rs L 6) (Rg.bd L 6) → Calls Try.prog 48 #[.pointer (some ⟨g, 0, none⟩)] y (RdSay (.int .i64 (Rg.rc L).bl) (Rg.rs L 7) (Rg.bd L 7) g D y)) := fun y g D hy => by
    rw [Rg.rcf6, Rg.rsn6, Rg.bdn6]
    exact rint_any (Rg.rs L 6) (Rg.bd L 6) g D _ rfl (Nat.le_trans (hle 6) (by omega)) y hy
  have HK7 : Hid (∀ y g D, RdAt y g D (Rg.rs L 7) (Rg.bd L 7) → Calls Try.prog 48 #[.pointer (some ⟨g, 0, none⟩)] y (RdSay (.int .i64 (Rg.rc L).ts) (Rg.rs L 8) (Rg.bd L 8) g D y)) := fun y g D hy => by
    rw [Rg.rcf7, Rg.rsn7, Rg.bdn7]
    exact rint_any (Rg.rs L 7) (Rg.bd L 7) g D _ rfl (Nat.le_trans (hle 7) (by omega)) y hy
  have HK8 : Hid (∀ y g D, RdAt y g D (Rg.rs L 8) (Rg.bd L 8) → Calls Try.prog 48 #[.pointer (some ⟨g, 0, none⟩)] y (RdSay (.int .i64 (Rg.rc L).tl) (Rg.rs L 9) (Rg.bd L 9) g D y)) := fun y g D hy => by
    rw [Rg.rcf8, Rg.rsn8, Rg.bdn8]
    exact rint_any (Rg.rs L 8) (Rg.bd L 8) g D _ rfl (Nat.le_trans (hle 8) (by omega)) y hy
  have HK9 : Hid (∀ y g D, RdAt y g D (Rg.rs L 9) (Rg.bd L 9) → Calls Try.prog 84 #[.pointer (some ⟨g, 0, none⟩)] y (RdSay (A32 (Rg.rc L).b1) (Rg.rs L 10) (Rg.bd L 10) g D y)) := fun y g D hy => by
    rw [Rg.rcf9, Rg.rsn9, Rg.bdn9]
    exact rsum_any (Rg.rs L 9) (Rg.bd L 9) g D _ rfl (Nat.le_trans (hle 9) (by omega)) y hy
  have HK10 : Hid (∀ y g D, RdAt y g D (Rg.rs L 10) (Rg.bd L 10) → Calls Try.prog 84 #[.pointer (some ⟨g, 0, none⟩)] y (RdSay (A32 (Rg.rc L).b2) (Rg.rs L 11) (Rg.bd L 11) g D y)) := fun y g D hy => by
    rw [Rg.rcf10, Rg.rsn10, Rg.bdn10]
    exact rsum_any (Rg.rs L 10) (Rg.bd L 10) g D _ rfl (Nat.le_trans (hle 10) (by omega)) y hy
  have HKE : Hid (∀ y g D, RdAt y g D (Rg.rs L 11) (Rg.bd L 11) → Calls Try.prog 49 #[.pointer (some ⟨g, 0, none⟩)] y (EndSayP (Pk.en (Rg.rs L 11) (Rg.bd L 11)) y)) := fun y g D hy => end_any _ _ g D y hy
  have HN0 : Hid (Pk.en (Rg.rs L 11) (Rg.bd L 11) ≠ 0 → Rg.er L = Pk.en (Rg.rs L 11) (Rg.bd L 11) ∧ .agg Z = RV (Rg.gt L)) := fun h => by
    have h1 : Rg.er L = Pk.en (Rg.rs L 11) (Rg.bd L 11) := by unfold Rg.er; rw [if_pos h]
    refine ⟨h1, ?_⟩
    rw [Rg.gt_none (by rw [h1]; exact h), ← hZ.out]
    unfold RV
    rfl
  have HN1 : Hid (Pk.en (Rg.rs L 11) (Rg.bd L 11) = 0 → Rg.may (Rg.rc L) = false → Rg.er L = 7 ∧ .agg Z = RV (Rg.gt L)) := fun h h2 => by
    have h1 : Rg.er L = 7 := by unfold Rg.er; rw [if_neg (by omega), h2]; rfl
    refine ⟨h1, ?_⟩
    rw [Rg.gt_none (by omega), ← hZ.out]
    unfold RV
    rfl
  have HN2 : Hid (Pk.en (Rg.rs L 11) (Rg.bd L 11) = 0 → Rg.may (Rg.rc L) = true → Rg.er L = 0 ∧ RV (Rg.rc L) = RV (Rg.gt L)) := fun h h2 => by
    have h1 : Rg.er L = 0 := by unfold Rg.er; rw [if_neg (by omega), if_pos h2]
    refine ⟨h1, ?_⟩
    unfold Rg.gt
    rw [if_pos h1]
  have HMB : Hid (∀ y, Calls Try.prog 54 #[RV (Rg.rc L)] y (BoSay (Rg.may (Rg.rc L)) y)) := fun y => maybe_any _ HOK.out y
  have HBL := Lib.hid (build_rec (Rg.rc L) HOK.out)
  obtain ⟨A, SU, RT, B1, B2, eA, hk⟩ := rck HOK.out
  have HAS := Lib.hid hk.size
  have HA1 := Lib.hid hk.one
  have eA2 : (cv (Rg.rc L)).toArray = A := by unfold RV at eA; injection eA
  rw [eA2, hk.vals.1, hk.vals.2.1, hk.vals.2.2.1, hk.vals.2.2.2] at HBL
  rw [hk.vals.1] at HK3
  rw [hk.vals.2.1] at HK4
  rw [hk.vals.2.2.1] at HK9
  rw [hk.vals.2.2.2] at HK10
  rw [eA] at HN2 HMB
  obtain ⟨en, hen⟩ : ∃ en, Hid (Pk.en (Rg.rs L 11) (Rg.bd L 11) = en) := ⟨_, rfl⟩
  rw [hen.out] at HKE HN0 HN1 HN2
  obtain ⟨q, hq⟩ : ∃ q, Hid (Rg.may (Rg.rc L) = q) := ⟨_, rfl⟩
  rw [hq.out] at HMB HN1 HN2
  generalize Rg.rc L = r at *
  obtain ⟨gen, st, ep, su, rt, bs, bl, ts, tl, b1, b2⟩ := r
  dsimp only at *
  have R0 : Hid ((w.alloc (.cells Z 40)).heap[w.heap.size]? = some (.cells Z 40 (0, 0))) := heap_alloc_new w _
  have B0 : Hid (Below w.heap.size w (w.alloc (.cells Z 40))) := (Below.refl _ w).alloc (Nat.le_refl _) _
  have HSU : Hid (w.heap.size < (w.alloc (.cells Z 40)).heap.size) := by show _ < _; simp
  clear hn hL HP HBY hZ hk eA eA2 hen hq hle HOK
  go_enter Try.func67, Try.ntmps67
  go_upto_region 1 with (fail)
  obtain ⟨w0, hw0⟩ : ∃ x, x = w.alloc (.cells Z 40) := ⟨_, rfl⟩
  rw [← hw0] at B0 R0 HSU ⊢
  clear hw0
  go_upto_region 2 with (go_at_call 47; refine (HC0.out _ B0.out).mono ?_; rintro e1 w1 ⟨g, D, rfl, Q0, HG1, HB1⟩)
  have O0 : Hid (Only g w1 w1) := Only.refl _ _
  have NE : Hid (w.heap.size ≠ g) := by have := HSU.out; have := HG1.out.1; show _ ≠ _; omega
  have BB1 : Hid (Below w.heap.size w w1) := B0.out.trans (HB1.out.mono B0.out.size)
  have R1 : Hid (∀ y, Only g w1 y → y.heap[w.heap.size]? = some (.cells Z 40 (0, 0))) := fun y hy => by
    have r1 := (HB1.out.block _ (lt_of_block R0.out)).trans R0.out
    exact (hy.block _ (lt_of_block r1) NE.out).trans r1
  have HGW : Hid (w.heap.size ≤ g) := Nat.le_trans B0.out.size HG1.out.1
  clear HC0 HB1 R0 B0
  go_upto_region 3 with (first
    | (go_at_call 84; have TT := Q10.out; refine (HK10.out _ _ _ Q10.out).mono ?_; rintro e12 w12 ⟨rfl, Q11, OO11⟩; have O11 := Lib.hid (O10.out.trans OO11.out); clear OO11)
    | (go_at_call 84; have TT := Q9.out; refine (HK9.out _ _ _ Q9.out).mono ?_; rintro e11 w11 ⟨rfl, Q10, OO10⟩; have O10 := Lib.hid (O9.out.trans OO10.out); clear OO10)
    | (go_at_call 48; have TT := Q8.out; refine (HK8.out _ _ _ Q8.out).mono ?_; rintro e10 w10 ⟨rfl, Q9, OO9⟩; have O9 := Lib.hid (O8.out.trans OO9.out); clear OO9)
    | (go_at_call 48; have TT := Q7.out; refine (HK7.out _ _ _ Q7.out).mono ?_; rintro e9 w9 ⟨rfl, Q8, OO8⟩; have O8 := Lib.hid (O7.out.trans OO8.out); clear OO8)
    | (go_at_call 48; have TT := Q6.out; refine (HK6.out _ _ _ Q6.out).mono ?_; rintro e8 w8 ⟨rfl, Q7, OO7⟩; have O7 := Lib.hid (O6.out.trans OO7.out); clear OO7)
    | (go_at_call 48; have TT := Q5.out; refine (HK5.out _ _ _ Q5.out).mono ?_; rintro e7 w7 ⟨rfl, Q6, OO6⟩; have O6 := Lib.hid (O5.out.trans OO6.out); clear OO6)
    | (go_at_call 85; have TT := Q4.out; refine (HK4.out _ _ _ Q4.out).mono ?_; rintro e6 w6 ⟨rfl, Q5, OO5⟩; have O5 := Lib.hid (O4.out.trans OO5.out); clear OO5)
    | (go_at_call 84; have TT := Q3.out; refine (HK3.out _ _ _ Q3.out).mono ?_; rintro e5 w5 ⟨rfl, Q4, OO4⟩; have O4 := Lib.hid (O3.out.trans OO4.out); clear OO4)
    | (go_at_call 48; have TT := Q2.out; refine (HK2.out _ _ _ Q2.out).mono ?_; rintro e4 w4 ⟨rfl, Q3, OO3⟩; have O3 := Lib.hid (O2.out.trans OO3.out); clear OO3)
    | (go_at_call 48; have TT := Q1.out; refine (HK1.out _ _ _ Q1.out).mono ?_; rintro e3 w3 ⟨rfl, Q2, OO2⟩; have O2 := Lib.hid (O1.out.trans OO2.out); clear OO2)
    | (go_at_call 48; have TT := Q0.out; refine (HK0.out _ _ _ Q0.out).mono ?_; rintro e2 w2 ⟨rfl, Q1, OO1⟩; have O1 := Lib.hid (O0.out.trans OO1.out); clear OO1)
    | ((with_reducible refine row_buildN _ _ _ _ ?_ HBL.out ?_); (exact rfl))
    | ((with_reducible refine row_store _ _ _ _ _ _ _ ?_ ?_ (heap_alloc_new _ _) (row_size Try.sizeRec HAS) ?_ HA1.out ?_); (exact rfl); (exact rfl); (rw [HAS.out, HZS.out]); intro wa Ga cha))
  have HGP : Hid (w.heap.size < w12.heap.size) := by have := lt_of_block (R1.out _ O11.out); exact this
  have QA : Hid (RdAt wa g D (Rg.rs L 11) (Rg.bd L 11)) := by
    have a1 := Q11.out.old ((Below.refl _ w12).alloc (Nat.le_refl _) (.cells Z 40))
    exact a1.only cha.only (Nat.ne_of_gt Q11.out.glt) (fun h => by have := Q11.out.lt _ h; omega)
  have BA : Hid (Below w.heap.size w wa) := by
    have a1 := O11.out.below BB1.out HGW.out BB1.out.size
    exact cha.below (a1.alloc a1.size _) a1.size
  have RA : Hid (wa.heap[w.heap.size]? = some (.cells Z 40 (0, 0))) := by
    have a1 := R1.out _ O11.out
    exact (cha.block _ (Nat.ne_of_lt HGP.out)).trans ((((Below.refl _ w12).alloc (Nat.le_refl _) _).block _ (lt_of_block a1)).trans a1)
  clear HK0 HK1 HK2 HK3 HK4 HK5 HK6 HK7 HK8 HK9 HK10 HBL Q0 Q1 Q2 Q3 Q4 Q5 Q6 Q7 Q8 Q9 Q10 Q11 O0 O1 O2 O3 O4 O5 O6 O7 O8 O9 O10 O11 R1 BB1 HG1 HGW NE cha hz hzn
  generalize w12.heap.size = gp at *
  have RE := Lib.hid (HKE.out wa g D QA.out)
  have RZ : Hid (∀ x, Below wa.heap.size wa x → x.heap[w.heap.size]? = some (.cells Z 40 (0, 0))) := fun x hx => (hx.block _ (lt_of_block RA.out)).trans RA.out
  have RP : Hid (∀ x, Below wa.heap.size wa x → x.heap[gp]? = some (.cells A 40 (0, 0))) := fun x hx => (hx.block _ (lt_of_block Ga)).trans Ga
  have RB : Hid (∀ x, Below wa.heap.size wa x → Below w.heap.size w x) := fun x hx => BA.out.trans (hx.mono BA.out.size)
  clear HKE QA RA BA Ga
  by_cases h0 : en = 0
  · subst h0
    cases q with
    | false =>
      have HE := Lib.hid (HN1.out rfl rfl)
      clear HN0 HN1 HN2
      go_wp2_with (first
        | (go_at_call 49; refine RE.out.mono ?_; rintro e17 w17 ⟨rfl, hb7⟩; have HB7 := Lib.hid hb7; clear hb7)
        | ((with_reducible refine row_load _ _ _ _ _ _ _ ?_ (RP.out _ HB7.out) Try.underlying40 ?_ (row_size Try.sizeRec HAS) ?_); (exact rfl); (exact rfl))
        | (go_at_call 54; refine (HMB.out _).mono ?_; rintro e18 w18 ⟨rfl, HB8⟩; have HB9 := Lib.hid (HB7.out.trans (HB8.out.mono HB7.out.size)))
        | ((with_reducible refine row_build0 _ _ HBT.out ?_))
        | ((with_reducible refine row_store _ _ _ _ _ _ _ ?_ ?_ (RZ.out _ HB9.out) (row_size Try.sizeRec HZS) ?_ HZ1.out ?_); (exact rfl); (exact rfl); (exact rfl); intro w19 G9 ch9))
      refine bodyPost_ret (results_cell_tmp rfl _ _ w.heap.size 40 Z (0, 0) _ rfl G9 Try.underlying40 rfl (row_size Try.sizeRec HZS)) rfl ⟨?_, ch9.below (RB.out _ HB9.out) (Nat.le_refl _)⟩
      rw [HE.out.1, ← HE.out.2]; rfl
    | true =>
      have HE := Lib.hid (HN2.out rfl rfl)
      clear HN0 HN1 HN2
      go_wp2_with (first
        | (go_at_call 49; refine RE.out.mono ?_; rintro e17 w17 ⟨rfl, hb7⟩; have HB7 := Lib.hid hb7; clear hb7)
        | ((with_reducible refine row_load _ _ _ _ _ _ _ ?_ (RP.out _ HB9.out) Try.underlying40 ?_ (row_size Try.sizeRec HAS) ?_); (exact rfl); (exact rfl))
        | ((with_reducible refine row_load _ _ _ _ _ _ _ ?_ (RP.out _ HB7.out) Try.underlying40 ?_ (row_size Try.sizeRec HAS) ?_); (exact rfl); (exact rfl))
        | (go_at_call 54; refine (HMB.out _).mono ?_; rintro e18 w18 ⟨rfl, HB8⟩; have HB9 := Lib.hid (HB7.out.trans (HB8.out.mono HB7.out.size)))
        | ((with_reducible refine row_store _ _ _ _ _ _ _ ?_ ?_ (RZ.out _ HB9.out) (row_size Try.sizeRec HAS) ?_ HA1.out ?_); (exact rfl); (exact rfl); (rw [HAS.out, HZS.out]); intro w19 G9 ch9))
      refine bodyPost_ret (results_cell_tmp rfl _ _ w.heap.size 40 A (0, 0) _ rfl G9 Try.underlying40 rfl (row_size Try.sizeRec HAS)) rfl ⟨?_, ch9.below (RB.out _ HB9.out) (Nat.le_refl _)⟩
      rw [HE.out.1, ← HE.out.2]; rfl
  · have HE := Lib.hid (HN0.out h0)
    have hb0 : (en == 0) = false := by simpa using h0
    clear HN0 HN1 HN2
    go_wp2_with (first
      | (go_at_call 49; refine RE.out.mono ?_; rintro e17 w17 ⟨rfl, hb7⟩; have HB7 := Lib.hid hb7; clear hb7)
      | ((with_reducible refine row_build0 _ _ HBT.out ?_))
      | ((with_reducible refine row_store _ _ _ _ _ _ _ ?_ ?_ (RZ.out _ HB7.out) (row_size Try.sizeRec HZS) ?_ HZ1.out ?_); (exact rfl); (exact rfl); (exact rfl); intro w19 G9 ch9))
    refine bodyPost_ret (results_cell_tmp rfl _ _ w.heap.size 40 Z (0, 0) _ rfl G9 Try.underlying40 rfl (row_size Try.sizeRec HZS)) rfl ⟨?_, ch9.below (RB.out _ HB7.out) (Nat.le_refl _)⟩
    rw [HE.out.1, ← HE.out.2]; rfl
end
end Go.Proofs.Ytpfghjnhoafcmaa

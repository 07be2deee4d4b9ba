/-
  Contract: region.Put.
-/
import Derived.Test.YtjnepegohfhgiaaRgC
namespace Go.Proofs.Ytjnepegohfhgiaa
open Go.RowKit

def GPutNo (w : World) (e : Ending) (w' : World) : Prop := e = .returned (.tuple #[.slice none 0 0, .int .i64 7]) ∧ Hid (Below w.heap.size w w')
def GPutYes (L : List Int) (w : World) (e : Ending) (w' : World) : Prop :=
  ∃ p c, e = .returned (.tuple #[.slice p 192 c, .int .i64 0]) ∧ Hid (w'.ownsRow w.heap.size 5 1 (.slice p 192 c) 192 (U8s L)) ∧ Hid (Bs w' p c L) ∧ Hid (Below w.heap.size w w')
set_option maxHeartbeats 1000000 in
set_option maxRecDepth 100000 in
theorem gput_no (r : Rg.R) (h : Rg.Ok r) (hn : Rg.may r = false) (w : World) : Calls Try.prog 11 #[RV r] w (GPutNo w) := by
  obtain ⟨A, SU, RT, B1, B2, eA, hk⟩ := rck h
  have HC0 : Hid (∀ y, Calls Try.prog 38 #[.agg A] y (BoSay false y)) := fun y => by
    have := maybe_any r h y
    rw [hn, eA] at this
    exact this
  rw [eA]
  have HAS := Lib.hid hk.size
  have h1 := hk.one
  have R0 : Hid ((w.alloc (.cells A 29)).heap[w.heap.size]? = some (.cells A 29 (0, 0))) := heap_alloc_new w _
  have B0 : Hid (Below w.heap.size w (w.alloc (.cells A 29))) := (Below.refl _ w).alloc (Nat.le_refl _) _
  clear hk h eA hn
  go_enter Try.func11, Try.ntmps11
  go_wp2_with (first
      | ((with_reducible refine row_load _ _ _ _ _ _ _ ?_ R0.out Try.underlying29 ?_ (row_size Try.sizeRec HAS) ?_); (exact rfl); (exact rfl))
      | (go_at_call 38; refine (HC0.out _).mono ?_; rintro e1 w1 ⟨rfl, HB1⟩; have B1 := Lib.hid (B0.out.trans (HB1.out.mono B0.out.size))))
  go_ret2
  exact ⟨rfl, B1.out⟩
set_option maxHeartbeats 4000000 in
set_option maxRecDepth 100000 in
theorem gput_yes (r : Rg.R) (h : Rg.Ok r) (hn : Rg.may r = true) (w : World) : Calls Try.prog 11 #[RV r] w (GPutYes (Rg.pt r) w) := by
  obtain ⟨A, SU, RT, B1, B2, eA, hk⟩ := rck h
  have HC0 : Hid (∀ y, Calls Try.prog 38 #[.agg A] y (BoSay true y)) := fun y => by
    have := maybe_any r h y
    rw [hn, eA] at this
    exact this
  have H0 : Hid (∀ y, Calls Try.prog 39 #[.slice none 0 0, .int .i64 r.gen] y (RowOf (Rg.ptk r 1) 8 y)) := fun y => by
    have := int_any [] r.gen none 0 0 8 rfl rfl (by omega) y (bs_none y)
    rw [Rg.st0] at this
    exact this
  have H1 : Hid (∀ y q d, Bs y q d (Rg.ptk r 1) → Calls Try.prog 39 #[.slice q 8 d, .int .i64 r.st] y (RowOf (Rg.ptk r 2) 16 y)) := fun y q d hy => by
    have := int_any (Rg.ptk r 1) r.st q 8 d 16 (Rg.pl1 h) rfl (by omega) y hy
    rw [Rg.st1] at this
    exact this
  have H2 : Hid (∀ y q d, Bs y q d (Rg.ptk r 2) → Calls Try.prog 39 #[.slice q 16 d, .int .i64 r.ep] y (RowOf (Rg.ptk r 3) 24 y)) := fun y q d hy => by
    have := int_any (Rg.ptk r 2) r.ep q 16 d 24 (Rg.pl2 h) rfl (by omega) y hy
    rw [Rg.st2] at this
    exact this
  have H3 : Hid (∀ y q d, Bs y q d (Rg.ptk r 3) → Calls Try.prog 41 #[.slice q 24 d, .agg SU] y (RowOf (Rg.ptk r 4) 56 y)) := fun y q d hy => by
    have := sum_any (Rg.ptk r 3) r.su h.su.1 h.su.2 q 24 d 56 (Rg.pl3 h) rfl (by omega) y hy
    rw [Rg.st3, hk.vals.1] at this
    exact this
  have H4 : Hid (∀ y q d, Bs y q d (Rg.ptk r 4) → Calls Try.prog 40 #[.slice q 56 d, .agg RT] y (RowOf (Rg.ptk r 5) 96 y)) := fun y q d hy => by
    have := ref_any (Rg.ptk r 4) r.rt h.rt.2.1 h.rt.2.2 q 56 d 96 (Rg.pl4 h) rfl (by omega) y hy
    rw [Rg.st4, hk.vals.2.1] at this
    exact this
  have H5 : Hid (∀ y q d, Bs y q d (Rg.ptk r 5) → Calls Try.prog 39 #[.slice q 96 d, .int .i64 r.bs] y (RowOf (Rg.ptk r 6) 104 y)) := fun y q d hy => by
    have := int_any (Rg.ptk r 5) r.bs q 96 d 104 (Rg.pl5 h) rfl (by omega) y hy
    rw [Rg.st5] at this
    exact this
  have H6 : Hid (∀ y q d, Bs y q d (Rg.ptk r 6) → Calls Try.prog 39 #[.slice q 104 d, .int .i64 r.bl] y (RowOf (Rg.ptk r 7) 112 y)) := fun y q d hy => by
    have := int_any (Rg.ptk r 6) r.bl q 104 d 112 (Rg.pl6 h) rfl (by omega) y hy
    rw [Rg.st6] at this
    exact this
  have H7 : Hid (∀ y q d, Bs y q d (Rg.ptk r 7) → Calls Try.prog 39 #[.slice q 112 d, .int .i64 r.ts] y (RowOf (Rg.ptk r 8) 120 y)) := fun y q d hy => by
    have := int_any (Rg.ptk r 7) r.ts q 112 d 120 (Rg.pl7 h) rfl (by omega) y hy
    rw [Rg.st7] at this
    exact this
  have H8 : Hid (∀ y q d, Bs y q d (Rg.ptk r 8) → Calls Try.prog 39 #[.slice q 120 d, .int .i64 r.tl] y (RowOf (Rg.ptk r 9) 128 y)) := fun y q d hy => by
    have := int_any (Rg.ptk r 8) r.tl q 120 d 128 (Rg.pl8 h) rfl (by omega) y hy
    rw [Rg.st8] at this
    exact this
  have H9 : Hid (∀ y q d, Bs y q d (Rg.ptk r 9) → Calls Try.prog 41 #[.slice q 128 d, .agg B1] y (RowOf (Rg.ptk r 10) 160 y)) := fun y q d hy => by
    have := sum_any (Rg.ptk r 9) r.b1 h.b1.1 h.b1.2 q 128 d 160 (Rg.pl9 h) rfl (by omega) y hy
    rw [Rg.st9, hk.vals.2.2.1] at this
    exact this
  have H10 : Hid (∀ y q d, Bs y q d (Rg.ptk r 10) → Calls Try.prog 41 #[.slice q 160 d, .agg B2] y (RowOf (Rg.ptk r 11) 192 y)) := fun y q d hy => by
    have := sum_any (Rg.ptk r 10) r.b2 h.b2.1 h.b2.2 q 160 d 192 (Rg.pl10 h) rfl (by omega) y hy
    rw [Rg.st10, hk.vals.2.2.2] at this
    exact this
  rw [eA]
  have HAS := Lib.hid hk.size
  have HX := Lib.hid hk.ints
  have HXR := Lib.hid hk.rngs
  have HSSU := Lib.hid hk.sizes.1
  have HSRT := Lib.hid hk.sizes.2.1
  have HSB1 := Lib.hid hk.sizes.2.2.1
  have HSB2 := Lib.hid hk.sizes.2.2.2
  have HEND : Hid (∀ e w', GPutYes (Rg.ptk r 11) w e w' → GPutYes (Rg.pt r) w e w') := fun e w' q => by rw [← Rg.st11]; exact q
  have h1 := hk.one
  have R0 : Hid ((w.alloc (.cells A 29)).heap[w.heap.size]? = some (.cells A 29 (0, 0))) := heap_alloc_new w _
  have B0 : Hid (Below w.heap.size w (w.alloc (.cells A 29))) := (Below.refl _ w).alloc (Nat.le_refl _) _
  clear hk h eA hn
  refine Calls.mono ?_ (fun e w' q => HEND.out e w' q)
  go_enter Try.func11, Try.ntmps11
  go_upto_region 3 with (first
      | ((with_reducible refine row_load _ _ _ _ _ _ _ ?_ R0.out Try.underlying29 ?_ (row_size Try.sizeRec HAS) ?_); (exact rfl); (exact rfl))
      | (go_at_call 38; refine (HC0.out _).mono ?_; rintro e1 w1 ⟨rfl, HB1⟩))
  have Bw1 : Hid (Below w.heap.size w w1) := B0.out.trans (HB1.out.mono B0.out.size)
  have Gw1 : Hid (w1.heap[w.heap.size]? = some (.cells A 29 (0, 0))) := (HB1.out.block _ (lt_of_block R0.out)).trans R0.out
  clear HB1 R0 B0 HC0
  refine wp_region_any (by kernel_rfl) ?_
  change wpAny _ _ _ _ _ _ _ (World.drew _)
  have Bz : Hid (Below w.heap.size w w1.drew) := Bw1.out.drew
  have Gz : Hid (w1.drew.heap[w.heap.size]? = some (.cells A 29 (0, 0))) := Gw1.out
  obtain ⟨z, hz⟩ : ∃ y, y = w1.drew := ⟨_, rfl⟩
  rw [← hz] at Bz Gz ⊢
  clear hz
  refine wpAny_of_held (S := fun y => y.heap[w.heap.size]? = some (.cells A 29 (0, 0))) _ _ _ _ ?_
  refine anyH_take 0 8 (.pointer (some ⟨w.heap.size, 0, none⟩)) Gz.out rfl (by kernel_rfl) (by kernel_rfl) (by kernel_rfl) (fun _ _ _ h => h) (by rfl) (by intro y hy; go_simp) ?_
  try simp only [Act.put, List.setIfInBounds_toArray, List.set_cons_zero, List.set_cons_succ]
  refine anyH_take 1 9 (.int .i64 r.gen) Gz.out rfl (by kernel_rfl) (by kernel_rfl) (by kernel_rfl) (fun _ _ _ h => h) (by rfl) (by intro y hy; obtain ⟨c, _, _, _, _, _, _, _⟩ := HX.out y _ _ hy; go_simp) ?_
  try simp only [Act.put, List.setIfInBounds_toArray, List.set_cons_zero, List.set_cons_succ]
  refine anyH_take 3 11 (.pointer (some ⟨w.heap.size, 1, none⟩)) Gz.out rfl (by kernel_rfl) (by kernel_rfl) (by kernel_rfl) (fun _ _ _ h => h) (by rfl) (by intro y hy; go_simp) ?_
  try simp only [Act.put, List.setIfInBounds_toArray, List.set_cons_zero, List.set_cons_succ]
  refine anyH_take 4 12 (.int .i64 r.st) Gz.out rfl (by kernel_rfl) (by kernel_rfl) (by kernel_rfl) (fun _ _ _ h => h) (by rfl) (by intro y hy; obtain ⟨_, c, _, _, _, _, _, _⟩ := HX.out y _ _ hy; go_simp) ?_
  try simp only [Act.put, List.setIfInBounds_toArray, List.set_cons_zero, List.set_cons_succ]
  refine anyH_take 6 14 (.pointer (some ⟨w.heap.size, 2, none⟩)) Gz.out rfl (by kernel_rfl) (by kernel_rfl) (by kernel_rfl) (fun _ _ _ h => h) (by rfl) (by intro y hy; go_simp) ?_
  try simp only [Act.put, List.setIfInBounds_toArray, List.set_cons_zero, List.set_cons_succ]
  refine anyH_take 7 15 (.int .i64 r.ep) Gz.out rfl (by kernel_rfl) (by kernel_rfl) (by kernel_rfl) (fun _ _ _ h => h) (by rfl) (by intro y hy; obtain ⟨_, _, c, _, _, _, _, _⟩ := HX.out y _ _ hy; go_simp) ?_
  try simp only [Act.put, List.setIfInBounds_toArray, List.set_cons_zero, List.set_cons_succ]
  refine anyH_one 2 (by kernel_rfl) ?_
  refine wpOp_step rfl (fun Kc hKc => ?_)
  go_simp
  refine (H0.out _).mono ?_
  rintro e2 w2 ⟨p2, c2, rfl, HO2, HBw2, HL2⟩
  have Bw2 : Hid (Below w.heap.size w w2) := Bz.out.trans (HL2.out.mono Bz.out.size)
  have Gw2 : Hid (w2.heap[w.heap.size]? = some (.cells A 29 (0, 0))) := (HL2.out.block _ (lt_of_block Gz.out)).trans Gz.out
  dsimp only
  refine hKc _ _ ⟨Gw2.out, ?_⟩
  clear hKc Kc
  try simp only [Act.put, List.setIfInBounds_toArray, List.set_cons_zero, List.set_cons_succ]
  refine anyH_one 5 (by kernel_rfl) ?_
  refine wpOp_step rfl (fun Kc hKc => ?_)
  go_simp
  refine (H1.out _ _ _ HBw2.out).mono ?_
  rintro e3 w3 ⟨p3, c3, rfl, HO3, HBw3, HL3⟩
  have Bw3 : Hid (Below w.heap.size w w3) := Bw2.out.trans (HL3.out.mono Bw2.out.size)
  have Gw3 : Hid (w3.heap[w.heap.size]? = some (.cells A 29 (0, 0))) := (HL3.out.block _ (lt_of_block Gw2.out)).trans Gw2.out
  dsimp only
  refine hKc _ _ ⟨Gw3.out, ?_⟩
  clear hKc Kc
  try simp only [Act.put, List.setIfInBounds_toArray, List.set_cons_zero, List.set_cons_succ]
  refine anyH_one 8 (by kernel_rfl) ?_
  refine wpOp_step rfl (fun Kc hKc => ?_)
  go_simp
  refine (H2.out _ _ _ HBw3.out).mono ?_
  rintro e4 w4 ⟨p4, c4, rfl, HO4, HBw4, HL4⟩
  have Bw4 : Hid (Below w.heap.size w w4) := Bw3.out.trans (HL4.out.mono Bw3.out.size)
  have Gw4 : Hid (w4.heap[w.heap.size]? = some (.cells A 29 (0, 0))) := (HL4.out.block _ (lt_of_block Gw3.out)).trans Gw3.out
  dsimp only
  refine hKc _ _ ⟨Gw4.out, ?_⟩
  clear hKc Kc
  try simp only [Act.put, List.setIfInBounds_toArray, List.set_cons_zero, List.set_cons_succ]
  refine anyH_take 9 4 (.slice p4 24 c4) Gw4.out rfl (by kernel_rfl) (by kernel_rfl) (by kernel_rfl) (fun _ _ _ h => h) (by rfl) (by intro y hy; go_simp) ?_
  try simp only [Act.put, List.setIfInBounds_toArray, List.set_cons_zero, List.set_cons_succ]
  refine wpAnyH_done (by kernel_rfl) ?_ _
  have OW4 := Lib.hid (own_base HO4.out Bw3.out.size)
  clear Gz Bz H0 H1 H2 Bw2 Gw2 HBw2 HO2 HL2 Bw3 Gw3 HBw3 HO3 HL3 HO4 HL4
  go_upto_region 4 with (fail)
  refine wp_region_any (by kernel_rfl) ?_
  change wpAny _ _ _ _ _ _ _ (World.drew _)
  have Bz : Hid (Below w.heap.size w w4.drew) := Bw4.out.drew
  have Gz : Hid (w4.drew.heap[w.heap.size]? = some (.cells A 29 (0, 0))) := Gw4.out
  have HBz : Hid (Bs w4.drew p4 c4 (Rg.ptk r 3)) := HBw4.out.drew
  obtain ⟨z, hz⟩ : ∃ y, y = w4.drew := ⟨_, rfl⟩
  rw [← hz] at Bz Gz HBz ⊢
  clear hz
  refine wpAny_of_held (S := fun y => y.heap[w.heap.size]? = some (.cells A 29 (0, 0))) _ _ _ _ ?_
  refine anyH_take 0 17 (.slice p4 24 c4) Gz.out rfl (by kernel_rfl) (by kernel_rfl) (by kernel_rfl) (fun _ _ _ h => h) (by rfl) (by intro y hy; go_simp) ?_
  try simp only [Act.put, List.setIfInBounds_toArray, List.set_cons_zero, List.set_cons_succ]
  refine anyH_take 1 18 (.pointer (some ⟨w.heap.size, 3, none⟩)) Gz.out rfl (by kernel_rfl) (by kernel_rfl) (by kernel_rfl) (fun _ _ _ h => h) (by rfl) (by intro y hy; go_simp) ?_
  try simp only [Act.put, List.setIfInBounds_toArray, List.set_cons_zero, List.set_cons_succ]
  refine anyH_take 2 19 (.agg SU) Gz.out rfl (by kernel_rfl) (by kernel_rfl) (by kernel_rfl) (fun _ _ _ h => h) (by rfl) (fun y hy => exec_arr _ _ w.heap.size 3 SU _ rfl (HXR.out y _ _ hy).1 Try.underlying23 rfl (row_size Try.sizeSum HSSU)) ?_
  try simp only [Act.put, List.setIfInBounds_toArray, List.set_cons_zero, List.set_cons_succ]
  refine anyH_take 4 21 (.pointer (some ⟨w.heap.size, 35, none⟩)) Gz.out rfl (by kernel_rfl) (by kernel_rfl) (by kernel_rfl) (fun _ _ _ h => h) (by rfl) (by intro y hy; go_simp) ?_
  try simp only [Act.put, List.setIfInBounds_toArray, List.set_cons_zero, List.set_cons_succ]
  refine anyH_take 5 22 (.agg RT) Gz.out rfl (by kernel_rfl) (by kernel_rfl) (by kernel_rfl) (fun _ _ _ h => h) (by rfl) (fun y hy => exec_arr _ _ w.heap.size 35 RT _ rfl (HXR.out y _ _ hy).2.1 Try.underlying25 rfl (row_size Try.sizeRef HSRT)) ?_
  try simp only [Act.put, List.setIfInBounds_toArray, List.set_cons_zero, List.set_cons_succ]
  refine anyH_one 3 (by kernel_rfl) ?_
  refine wpOp_step rfl (fun Kc hKc => ?_)
  go_simp
  refine (H3.out _ _ _ HBz.out).mono ?_
  rintro e5 w5 ⟨p5, c5, rfl, HO5, HBw5, HL5⟩
  have Bw5 : Hid (Below w.heap.size w w5) := Bz.out.trans (HL5.out.mono Bz.out.size)
  have Gw5 : Hid (w5.heap[w.heap.size]? = some (.cells A 29 (0, 0))) := (HL5.out.block _ (lt_of_block Gz.out)).trans Gz.out
  dsimp only
  refine hKc _ _ ⟨Gw5.out, ?_⟩
  clear hKc Kc
  try simp only [Act.put, List.setIfInBounds_toArray, List.set_cons_zero, List.set_cons_succ]
  refine anyH_one 6 (by kernel_rfl) ?_
  refine wpOp_step rfl (fun Kc hKc => ?_)
  go_simp
  refine (H4.out _ _ _ HBw5.out).mono ?_
  rintro e6 w6 ⟨p6, c6, rfl, HO6, HBw6, HL6⟩
  have Bw6 : Hid (Below w.heap.size w w6) := Bw5.out.trans (HL6.out.mono Bw5.out.size)
  have Gw6 : Hid (w6.heap[w.heap.size]? = some (.cells A 29 (0, 0))) := (HL6.out.block _ (lt_of_block Gw5.out)).trans Gw5.out
  dsimp only
  refine hKc _ _ ⟨Gw6.out, ?_⟩
  clear hKc Kc
  try simp only [Act.put, List.setIfInBounds_toArray, List.set_cons_zero, List.set_cons_succ]
  refine anyH_take 7 4 (.slice p6 96 c6) Gw6.out rfl (by kernel_rfl) (by kernel_rfl) (by kernel_rfl) (fun _ _ _ h => h) (by rfl) (by intro y hy; go_simp) ?_
  try simp only [Act.put, List.setIfInBounds_toArray, List.set_cons_zero, List.set_cons_succ]
  refine wpAnyH_done (by kernel_rfl) ?_ _
  have OW6 := Lib.hid (own_base HO6.out Bw5.out.size)
  clear Gz Bz HBz H3 H4 Bw5 Gw5 HBw5 HO5 HL5 HO6 HL6
  go_upto_region 5 with (fail)
  refine wp_region_any (by kernel_rfl) ?_
  change wpAny _ _ _ _ _ _ _ (World.drew _)
  have Bz : Hid (Below w.heap.size w w6.drew) := Bw6.out.drew
  have Gz : Hid (w6.drew.heap[w.heap.size]? = some (.cells A 29 (0, 0))) := Gw6.out
  have HBz : Hid (Bs w6.drew p6 c6 (Rg.ptk r 5)) := HBw6.out.drew
  obtain ⟨z, hz⟩ : ∃ y, y = w6.drew := ⟨_, rfl⟩
  rw [← hz] at Bz Gz HBz ⊢
  clear hz
  refine wpAny_of_held (S := fun y => y.heap[w.heap.size]? = some (.cells A 29 (0, 0))) _ _ _ _ ?_
  refine anyH_take 0 24 (.slice p6 96 c6) Gz.out rfl (by kernel_rfl) (by kernel_rfl) (by kernel_rfl) (fun _ _ _ h => h) (by rfl) (by intro y hy; go_simp) ?_
  try simp only [Act.put, List.setIfInBounds_toArray, List.set_cons_zero, List.set_cons_succ]
  refine anyH_take 1 25 (.pointer (some ⟨w.heap.size, 68, none⟩)) Gz.out rfl (by kernel_rfl) (by kernel_rfl) (by kernel_rfl) (fun _ _ _ h => h) (by rfl) (by intro y hy; go_simp) ?_
  try simp only [Act.put, List.setIfInBounds_toArray, List.set_cons_zero, List.set_cons_succ]
  refine anyH_take 2 26 (.pointer (some ⟨w.heap.size, 68, none⟩)) Gz.out rfl (by kernel_rfl) (by kernel_rfl) (by kernel_rfl) (fun _ _ _ h => h) (by rfl) (by intro y hy; go_simp) ?_
  try simp only [Act.put, List.setIfInBounds_toArray, List.set_cons_zero, List.set_cons_succ]
  refine anyH_take 3 27 (.int .i64 r.bs) Gz.out rfl (by kernel_rfl) (by kernel_rfl) (by kernel_rfl) (fun _ _ _ h => h) (by rfl) (by intro y hy; obtain ⟨_, _, _, _, c, _, _, _⟩ := HX.out y _ _ hy; go_simp) ?_
  try simp only [Act.put, List.setIfInBounds_toArray, List.set_cons_zero, List.set_cons_succ]
  refine anyH_take 5 29 (.pointer (some ⟨w.heap.size, 68, none⟩)) Gz.out rfl (by kernel_rfl) (by kernel_rfl) (by kernel_rfl) (fun _ _ _ h => h) (by rfl) (by intro y hy; go_simp) ?_
  try simp only [Act.put, List.setIfInBounds_toArray, List.set_cons_zero, List.set_cons_succ]
  refine anyH_take 6 30 (.pointer (some ⟨w.heap.size, 69, none⟩)) Gz.out rfl (by kernel_rfl) (by kernel_rfl) (by kernel_rfl) (fun _ _ _ h => h) (by rfl) (by intro y hy; go_simp) ?_
  try simp only [Act.put, List.setIfInBounds_toArray, List.set_cons_zero, List.set_cons_succ]
  refine anyH_take 7 31 (.int .i64 r.bl) Gz.out rfl (by kernel_rfl) (by kernel_rfl) (by kernel_rfl) (fun _ _ _ h => h) (by rfl) (by intro y hy; obtain ⟨_, _, _, _, _, c, _, _⟩ := HX.out y _ _ hy; go_simp) ?_
  try simp only [Act.put, List.setIfInBounds_toArray, List.set_cons_zero, List.set_cons_succ]
  refine anyH_one 4 (by kernel_rfl) ?_
  refine wpOp_step rfl (fun Kc hKc => ?_)
  go_simp
  refine (H5.out _ _ _ HBz.out).mono ?_
  rintro e7 w7 ⟨p7, c7, rfl, HO7, HBw7, HL7⟩
  have Bw7 : Hid (Below w.heap.size w w7) := Bz.out.trans (HL7.out.mono Bz.out.size)
  have Gw7 : Hid (w7.heap[w.heap.size]? = some (.cells A 29 (0, 0))) := (HL7.out.block _ (lt_of_block Gz.out)).trans Gz.out
  dsimp only
  refine hKc _ _ ⟨Gw7.out, ?_⟩
  clear hKc Kc
  try simp only [Act.put, List.setIfInBounds_toArray, List.set_cons_zero, List.set_cons_succ]
  refine anyH_one 8 (by kernel_rfl) ?_
  refine wpOp_step rfl (fun Kc hKc => ?_)
  go_simp
  refine (H6.out _ _ _ HBw7.out).mono ?_
  rintro e8 w8 ⟨p8, c8, rfl, HO8, HBw8, HL8⟩
  have Bw8 : Hid (Below w.heap.size w w8) := Bw7.out.trans (HL8.out.mono Bw7.out.size)
  have Gw8 : Hid (w8.heap[w.heap.size]? = some (.cells A 29 (0, 0))) := (HL8.out.block _ (lt_of_block Gw7.out)).trans Gw7.out
  dsimp only
  refine hKc _ _ ⟨Gw8.out, ?_⟩
  clear hKc Kc
  try simp only [Act.put, List.setIfInBounds_toArray, List.set_cons_zero, List.set_cons_succ]
  refine anyH_take 9 4 (.slice p8 112 c8) Gw8.out rfl (by kernel_rfl) (by kernel_rfl) (by kernel_rfl) (fun _ _ _ h => h) (by rfl) (by intro y hy; go_simp) ?_
  try simp only [Act.put, List.setIfInBounds_toArray, List.set_cons_zero, List.set_cons_succ]
  refine wpAnyH_done (by kernel_rfl) ?_ _
  have OW8 := Lib.hid (own_base HO8.out Bw7.out.size)
  clear Gz Bz HBz H5 H6 Bw7 Gw7 HBw7 HO7 HL7 HO8 HL8
  go_upto_region 6 with (fail)
  refine wp_region_any (by kernel_rfl) ?_
  change wpAny _ _ _ _ _ _ _ (World.drew _)
  have Bz : Hid (Below w.heap.size w w8.drew) := Bw8.out.drew
  have Gz : Hid (w8.drew.heap[w.heap.size]? = some (.cells A 29 (0, 0))) := Gw8.out
  have HBz : Hid (Bs w8.drew p8 c8 (Rg.ptk r 7)) := HBw8.out.drew
  obtain ⟨z, hz⟩ : ∃ y, y = w8.drew := ⟨_, rfl⟩
  rw [← hz] at Bz Gz HBz ⊢
  clear hz
  refine wpAny_of_held (S := fun y => y.heap[w.heap.size]? = some (.cells A 29 (0, 0))) _ _ _ _ ?_
  refine anyH_take 0 33 (.slice p8 112 c8) Gz.out rfl (by kernel_rfl) (by kernel_rfl) (by kernel_rfl) (fun _ _ _ h => h) (by rfl) (by intro y hy; go_simp) ?_
  try simp only [Act.put, List.setIfInBounds_toArray, List.set_cons_zero, List.set_cons_succ]
  refine anyH_take 1 34 (.pointer (some ⟨w.heap.size, 70, none⟩)) Gz.out rfl (by kernel_rfl) (by kernel_rfl) (by kernel_rfl) (fun _ _ _ h => h) (by rfl) (by intro y hy; go_simp) ?_
  try simp only [Act.put, List.setIfInBounds_toArray, List.set_cons_zero, List.set_cons_succ]
  refine anyH_take 2 35 (.pointer (some ⟨w.heap.size, 70, none⟩)) Gz.out rfl (by kernel_rfl) (by kernel_rfl) (by kernel_rfl) (fun _ _ _ h => h) (by rfl) (by intro y hy; go_simp) ?_
  try simp only [Act.put, List.setIfInBounds_toArray, List.set_cons_zero, List.set_cons_succ]
  refine anyH_take 3 36 (.int .i64 r.ts) Gz.out rfl (by kernel_rfl) (by kernel_rfl) (by kernel_rfl) (fun _ _ _ h => h) (by rfl) (by intro y hy; obtain ⟨_, _, _, _, _, _, c, _⟩ := HX.out y _ _ hy; go_simp) ?_
  try simp only [Act.put, List.setIfInBounds_toArray, List.set_cons_zero, List.set_cons_succ]
  refine anyH_take 5 38 (.pointer (some ⟨w.heap.size, 70, none⟩)) Gz.out rfl (by kernel_rfl) (by kernel_rfl) (by kernel_rfl) (fun _ _ _ h => h) (by rfl) (by intro y hy; go_simp) ?_
  try simp only [Act.put, List.setIfInBounds_toArray, List.set_cons_zero, List.set_cons_succ]
  refine anyH_take 6 39 (.pointer (some ⟨w.heap.size, 71, none⟩)) Gz.out rfl (by kernel_rfl) (by kernel_rfl) (by kernel_rfl) (fun _ _ _ h => h) (by rfl) (by intro y hy; go_simp) ?_
  try simp only [Act.put, List.setIfInBounds_toArray, List.set_cons_zero, List.set_cons_succ]
  refine anyH_take 7 40 (.int .i64 r.tl) Gz.out rfl (by kernel_rfl) (by kernel_rfl) (by kernel_rfl) (fun _ _ _ h => h) (by rfl) (by intro y hy; obtain ⟨_, _, _, _, _, _, _, c⟩ := HX.out y _ _ hy; go_simp) ?_
  try simp only [Act.put, List.setIfInBounds_toArray, List.set_cons_zero, List.set_cons_succ]
  refine anyH_one 4 (by kernel_rfl) ?_
  refine wpOp_step rfl (fun Kc hKc => ?_)
  go_simp
  refine (H7.out _ _ _ HBz.out).mono ?_
  rintro e9 w9 ⟨p9, c9, rfl, HO9, HBw9, HL9⟩
  have Bw9 : Hid (Below w.heap.size w w9) := Bz.out.trans (HL9.out.mono Bz.out.size)
  have Gw9 : Hid (w9.heap[w.heap.size]? = some (.cells A 29 (0, 0))) := (HL9.out.block _ (lt_of_block Gz.out)).trans Gz.out
  dsimp only
  refine hKc _ _ ⟨Gw9.out, ?_⟩
  clear hKc Kc
  try simp only [Act.put, List.setIfInBounds_toArray, List.set_cons_zero, List.set_cons_succ]
  refine anyH_one 8 (by kernel_rfl) ?_
  refine wpOp_step rfl (fun Kc hKc => ?_)
  go_simp
  refine (H8.out _ _ _ HBw9.out).mono ?_
  rintro e10 w10 ⟨p10, c10, rfl, HO10, HBw10, HL10⟩
  have Bw10 : Hid (Below w.heap.size w w10) := Bw9.out.trans (HL10.out.mono Bw9.out.size)
  have Gw10 : Hid (w10.heap[w.heap.size]? = some (.cells A 29 (0, 0))) := (HL10.out.block _ (lt_of_block Gw9.out)).trans Gw9.out
  dsimp only
  refine hKc _ _ ⟨Gw10.out, ?_⟩
  clear hKc Kc
  try simp only [Act.put, List.setIfInBounds_toArray, List.set_cons_zero, List.set_cons_succ]
  refine anyH_take 9 4 (.slice p10 128 c10) Gw10.out rfl (by kernel_rfl) (by kernel_rfl) (by kernel_rfl) (fun _ _ _ h => h) (by rfl) (by intro y hy; go_simp) ?_
  try simp only [Act.put, List.setIfInBounds_toArray, List.set_cons_zero, List.set_cons_succ]
  refine wpAnyH_done (by kernel_rfl) ?_ _
  have OW10 := Lib.hid (own_base HO10.out Bw9.out.size)
  clear Gz Bz HBz H7 H8 Bw9 Gw9 HBw9 HO9 HL9 HO10 HL10
  go_upto_region 7 with (fail)
  refine wp_region_any (by kernel_rfl) ?_
  change wpAny _ _ _ _ _ _ _ (World.drew _)
  have Bz : Hid (Below w.heap.size w w10.drew) := Bw10.out.drew
  have Gz : Hid (w10.drew.heap[w.heap.size]? = some (.cells A 29 (0, 0))) := Gw10.out
  have HBz : Hid (Bs w10.drew p10 c10 (Rg.ptk r 9)) := HBw10.out.drew
  obtain ⟨z, hz⟩ : ∃ y, y = w10.drew := ⟨_, rfl⟩
  rw [← hz] at Bz Gz HBz ⊢
  clear hz
  refine wpAny_of_held (S := fun y => y.heap[w.heap.size]? = some (.cells A 29 (0, 0))) _ _ _ _ ?_
  refine anyH_take 0 42 (.slice p10 128 c10) Gz.out rfl (by kernel_rfl) (by kernel_rfl) (by kernel_rfl) (fun _ _ _ h => h) (by rfl) (by intro y hy; go_simp) ?_
  try simp only [Act.put, List.setIfInBounds_toArray, List.set_cons_zero, List.set_cons_succ]
  refine anyH_take 1 43 (.pointer (some ⟨w.heap.size, 72, none⟩)) Gz.out rfl (by kernel_rfl) (by kernel_rfl) (by kernel_rfl) (fun _ _ _ h => h) (by rfl) (by intro y hy; go_simp) ?_
  try simp only [Act.put, List.setIfInBounds_toArray, List.set_cons_zero, List.set_cons_succ]
  refine anyH_take 2 44 (.agg B1) Gz.out rfl (by kernel_rfl) (by kernel_rfl) (by kernel_rfl) (fun _ _ _ h => h) (by rfl) (fun y hy => exec_arr _ _ w.heap.size 72 B1 _ rfl (HXR.out y _ _ hy).2.2.1 Try.underlying23 rfl (row_size Try.sizeSum HSB1)) ?_
  try simp only [Act.put, List.setIfInBounds_toArray, List.set_cons_zero, List.set_cons_succ]
  refine anyH_take 4 46 (.pointer (some ⟨w.heap.size, 104, none⟩)) Gz.out rfl (by kernel_rfl) (by kernel_rfl) (by kernel_rfl) (fun _ _ _ h => h) (by rfl) (by intro y hy; go_simp) ?_
  try simp only [Act.put, List.setIfInBounds_toArray, List.set_cons_zero, List.set_cons_succ]
  refine anyH_take 5 47 (.agg B2) Gz.out rfl (by kernel_rfl) (by kernel_rfl) (by kernel_rfl) (fun _ _ _ h => h) (by rfl) (fun y hy => exec_arr _ _ w.heap.size 104 B2 _ rfl (HXR.out y _ _ hy).2.2.2 Try.underlying23 rfl (row_size Try.sizeSum HSB2)) ?_
  try simp only [Act.put, List.setIfInBounds_toArray, List.set_cons_zero, List.set_cons_succ]
  refine anyH_one 3 (by kernel_rfl) ?_
  refine wpOp_step rfl (fun Kc hKc => ?_)
  go_simp
  refine (H9.out _ _ _ HBz.out).mono ?_
  rintro e11 w11 ⟨p11, c11, rfl, HO11, HBw11, HL11⟩
  have Bw11 : Hid (Below w.heap.size w w11) := Bz.out.trans (HL11.out.mono Bz.out.size)
  have Gw11 : Hid (w11.heap[w.heap.size]? = some (.cells A 29 (0, 0))) := (HL11.out.block _ (lt_of_block Gz.out)).trans Gz.out
  dsimp only
  refine hKc _ _ ⟨Gw11.out, ?_⟩
  clear hKc Kc
  try simp only [Act.put, List.setIfInBounds_toArray, List.set_cons_zero, List.set_cons_succ]
  refine anyH_one 6 (by kernel_rfl) ?_
  refine wpOp_step rfl (fun Kc hKc => ?_)
  go_simp
  refine (H10.out _ _ _ HBw11.out).mono ?_
  rintro e12 w12 ⟨p12, c12, rfl, HO12, HBw12, HL12⟩
  have Bw12 : Hid (Below w.heap.size w w12) := Bw11.out.trans (HL12.out.mono Bw11.out.size)
  have Gw12 : Hid (w12.heap[w.heap.size]? = some (.cells A 29 (0, 0))) := (HL12.out.block _ (lt_of_block Gw11.out)).trans Gw11.out
  dsimp only
  refine hKc _ _ ⟨Gw12.out, ?_⟩
  clear hKc Kc
  try simp only [Act.put, List.setIfInBounds_toArray, List.set_cons_zero, List.set_cons_succ]
  refine anyH_take 7 2 (.slice p12 192 c12) Gw12.out rfl (by kernel_rfl) (by kernel_rfl) (by kernel_rfl) (fun _ _ _ h => h) (by rfl) (by intro y hy; go_simp) ?_
  try simp only [Act.put, List.setIfInBounds_toArray, List.set_cons_zero, List.set_cons_succ]
  refine anyH_take 8 3 (.int .i64 0) Gw12.out rfl (by kernel_rfl) (by kernel_rfl) (by kernel_rfl) (fun _ _ _ h => h) (by rfl) (by intro y hy; go_simp) ?_
  try simp only [Act.put, List.setIfInBounds_toArray, List.set_cons_zero, List.set_cons_succ]
  refine wpAnyH_done (by kernel_rfl) ?_ _
  have OW12 := Lib.hid (own_base HO12.out Bw11.out.size)
  clear Gz Bz HBz H9 H10 Bw11 Gw11 HBw11 HO11 HL11 HO12 HL12
  go_wp2
  go_ret2
  exact ⟨_, _, rfl, OW12.out, HBw12.out, Bw12.out⟩
end Go.Proofs.Ytjnepegohfhgiaa

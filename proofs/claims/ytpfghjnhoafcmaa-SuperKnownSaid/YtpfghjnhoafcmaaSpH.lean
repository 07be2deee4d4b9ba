/-
  Contracts: the reference's Put, Get of superblocks; the law SuperPuts walked.
-/
import Derived.Test.YtpfghjnhoafcmaaSpG
import Derived.Test.YtpfghjnhoafcmaaGe1
import Derived.Test.YtpfghjnhoafcmaaRgL
import Derived.Test.YtpfghjnhoafcmaaPa4
namespace Go.Proofs.Ytpfghjnhoafcmaa
open Go.RowKit

theorem fgcheck_any (g : Sp.G) (w : World) : Calls Try.prog 45 #[GV g] w (Num (Sp.ck g) w) := by
  unfold Sp.ck
  exact rcheck_any g.a g.b g.c w
theorem build_geo1 (a : Int) : Try.prog.built 54 [(0, .int .i64 a)] = some (GA ⟨a, 0, 0⟩) := by kernel_rfl
set_option maxHeartbeats 1000000 in
set_option maxRecDepth 100000 in
theorem fsput_no (g : Sp.G) (hn : Sp.ck g = 15) (w : World) : Calls Try.prog 21 #[GV g] w (SPutNo w) := by
  obtain ⟨A, eA, hk⟩ := gk g
  have HC0 : Hid (∀ y, Calls Try.prog 45 #[.agg A] y (Num 15 y)) := fun y => by
    have := fgcheck_any g y
    rw [hn, eA] at this
    exact this
  rw [eA]
  have HAS := Lib.hid hk.size
  have h1 := hk.one
  have R0 : Hid ((w.alloc (.cells A 54)).heap[w.heap.size]? = some (.cells A 54 (0, 0))) := heap_alloc_new w _
  have B0 : Hid (Below w.heap.size w (w.alloc (.cells A 54))) := (Below.refl _ w).alloc (Nat.le_refl _) _
  clear hk eA hn
  go_enter Try.func21, Try.ntmps21
  go_wp2_with (first
      | ((with_reducible refine row_load _ _ _ _ _ _ _ ?_ R0.out Try.underlying54 ?_ (row_size Try.sizeGeo HAS) ?_); (exact rfl); (exact rfl))
      | (go_at_call 45; refine (HC0.out _).mono ?_; rintro e1 w1 ⟨rfl, HB1⟩; have B1 := Lib.hid (B0.out.trans (HB1.mono B0.out.size))))
  go_ret2
  exact ⟨rfl, B1.out⟩
set_option maxHeartbeats 4000000 in
set_option maxRecDepth 100000 in
theorem fsput_yes (g : Sp.G) (hn : Sp.ck g = 0) (w : World) : Calls Try.prog 21 #[GV g] w (SPutYes (Sp.pt g) w) := by
  obtain ⟨A, eA, hk⟩ := gk g
  have HC0 : Hid (∀ y, Calls Try.prog 45 #[.agg A] y (Num 0 y)) := fun y => by
    have := fgcheck_any g y
    rw [hn, eA] at this
    exact this
  have H0 : Hid (∀ y, Calls Try.prog 46 #[.slice none 0 0, .int .i64 g.a] y (RowOf (Sp.p1 g) 8 y)) := fun y => by
    have := refint_any [] g.a none 0 0 8 rfl rfl (by omega) y (bs_none y)
    rw [Sp.s1] at this
    exact this
  have H1 : Hid (∀ y q d, Bs y q d (Sp.p1 g) → Calls Try.prog 46 #[.slice q 8 d, .int .i64 g.b] y (RowOf (Sp.p2 g) 16 y)) := fun y q d hy => by
    have := refint_any (Sp.p1 g) g.b q 8 d 16 (Sp.p1_len g) rfl (by omega) y hy
    rw [Sp.s2] at this
    exact this
  have H2 : Hid (∀ y q d, Bs y q d (Sp.p2 g) → Calls Try.prog 46 #[.slice q 16 d, .int .i64 g.c] y (RowOf (Sp.pt g) 24 y)) := fun y q d hy => by
    have := refint_any (Sp.p2 g) g.c q 16 d 24 (Sp.p2_len g) rfl (by omega) y hy
    rw [Sp.s3] at this
    exact this
  rw [eA]
  have HAS := Lib.hid hk.size
  have h1 := hk.one
  have HX := Lib.hid hk.at_
  obtain ⟨w0, hw0⟩ : ∃ x, x = w.alloc (.cells A 54) := ⟨_, rfl⟩
  have R0 : Hid (w0.heap[w.heap.size]? = some (.cells A 54 (0, 0))) := by rw [hw0]; exact heap_alloc_new w _
  have B0 : Hid (Below w.heap.size w w0) := by rw [hw0]; exact (Below.refl _ w).alloc (Nat.le_refl _) _
  have HL : Hid (∀ y, Below w0.heap.size w0 y → y.cell? ⟨w.heap.size, 0, none⟩ = some (.int .i64 g.a) ∧ y.cell? ⟨w.heap.size, 1, none⟩ = some (.int .i64 g.b) ∧ y.cell? ⟨w.heap.size, 2, none⟩ = some (.int .i64 g.c)) := fun y hy => HX.out y _ _ ((hy.block _ (lt_of_block R0.out)).trans R0.out)
  clear hk eA hn HX
  go_enter Try.func21, Try.ntmps21
  go_upto_region 1 with (fail)
  change Code.wp _ _ _ _ (w.alloc (.cells A 54))
  rw [← hw0]
  clear hw0
  go_upto_region 4 with (first
      | ((with_reducible refine row_load _ _ _ _ _ _ _ ?_ R0.out Try.underlying54 ?_ (row_size Try.sizeGeo HAS) ?_); (exact rfl); (exact rfl))
      | (go_at_call 45; refine (HC0.out _).mono ?_; rintro e1 w1 ⟨rfl, HB1⟩))
  refine wp_region_any (by kernel_rfl) ?_
  change wpAny _ _ _ _ _ _ _ (World.drew _)
  have BB : Hid (Below w0.heap.size w0 w1.drew) := Lib.hid HB1.drew
  obtain ⟨z, hz⟩ : ∃ y, y = w1.drew := ⟨_, rfl⟩
  rw [← hz] at BB ⊢
  clear hz HB1 HC0
  refine wpAny_of_held (S := fun y => y.cell? ⟨w.heap.size, 0, none⟩ = some (.int .i64 g.a) ∧ y.cell? ⟨w.heap.size, 1, none⟩ = some (.int .i64 g.b) ∧ y.cell? ⟨w.heap.size, 2, none⟩ = some (.int .i64 g.c)) _ _ _ _ ?_
  have SD := HL.out _ BB.out
  refine anyH_take 0 10 (.pointer (some ⟨w.heap.size, 0, none⟩)) SD rfl (by kernel_rfl) (by kernel_rfl) (by kernel_rfl) (fun _ _ _ h => h) (by rfl) (by intro x hx; obtain ⟨y0, y1, y2⟩ := hx; go_simp; try (intro h; omega)) ?_
  try simp only [Act.put, List.setIfInBounds_toArray, List.set_cons_zero, List.set_cons_succ]
  refine anyH_take 1 11 (.int .i64 g.a) SD rfl (by kernel_rfl) (by kernel_rfl) (by kernel_rfl) (fun _ _ _ h => h) (by rfl) (by intro x hx; obtain ⟨y0, y1, y2⟩ := hx; go_simp; try (intro h; omega)) ?_
  try simp only [Act.put, List.setIfInBounds_toArray, List.set_cons_zero, List.set_cons_succ]
  refine anyH_take 3 13 (.pointer (some ⟨w.heap.size, 1, none⟩)) SD rfl (by kernel_rfl) (by kernel_rfl) (by kernel_rfl) (fun _ _ _ h => h) (by rfl) (by intro x hx; obtain ⟨y0, y1, y2⟩ := hx; go_simp; try (intro h; omega)) ?_
  try simp only [Act.put, List.setIfInBounds_toArray, List.set_cons_zero, List.set_cons_succ]
  refine anyH_take 4 14 (.int .i64 g.b) SD rfl (by kernel_rfl) (by kernel_rfl) (by kernel_rfl) (fun _ _ _ h => h) (by rfl) (by intro x hx; obtain ⟨y0, y1, y2⟩ := hx; go_simp; try (intro h; omega)) ?_
  try simp only [Act.put, List.setIfInBounds_toArray, List.set_cons_zero, List.set_cons_succ]
  refine anyH_take 6 16 (.pointer (some ⟨w.heap.size, 2, none⟩)) SD rfl (by kernel_rfl) (by kernel_rfl) (by kernel_rfl) (fun _ _ _ h => h) (by rfl) (by intro x hx; obtain ⟨y0, y1, y2⟩ := hx; go_simp; try (intro h; omega)) ?_
  try simp only [Act.put, List.setIfInBounds_toArray, List.set_cons_zero, List.set_cons_succ]
  refine anyH_take 7 17 (.int .i64 g.c) SD rfl (by kernel_rfl) (by kernel_rfl) (by kernel_rfl) (fun _ _ _ h => h) (by rfl) (by intro x hx; obtain ⟨y0, y1, y2⟩ := hx; go_simp; try (intro h; omega)) ?_
  try simp only [Act.put, List.setIfInBounds_toArray, List.set_cons_zero, List.set_cons_succ]
  refine anyH_one 2 (by kernel_rfl) ?_
  refine wpOp_step rfl (fun Kc hKc => ?_)
  go_simp
  refine (H0.out _).mono ?_
  rintro e3 w3 ⟨p3, c3, rfl, O3, H3, b3⟩
  have B3 : Hid (Below w0.heap.size w0 w3) := BB.out.trans (b3.out.mono BB.out.size)
  dsimp only
  refine hKc _ _ ⟨HL.out _ B3.out, ?_⟩
  clear hKc Kc
  try simp only [Act.put, List.setIfInBounds_toArray, List.set_cons_zero, List.set_cons_succ]
  clear SD
  have SD := HL.out _ B3.out
  refine anyH_one 5 (by kernel_rfl) ?_
  refine wpOp_step rfl (fun Kc hKc => ?_)
  go_simp
  refine (H1.out _ _ _ H3.out).mono ?_
  rintro e4 w4 ⟨p4, c4, rfl, O4, H4, b4⟩
  have B4 : Hid (Below w0.heap.size w0 w4) := B3.out.trans (b4.out.mono B3.out.size)
  dsimp only
  refine hKc _ _ ⟨HL.out _ B4.out, ?_⟩
  clear hKc Kc
  try simp only [Act.put, List.setIfInBounds_toArray, List.set_cons_zero, List.set_cons_succ]
  clear SD
  have SD := HL.out _ B4.out
  refine anyH_one 8 (by kernel_rfl) ?_
  refine wpOp_step rfl (fun Kc hKc => ?_)
  go_simp
  refine (H2.out _ _ _ H4.out).mono ?_
  rintro e5 w5 ⟨p5, c5, rfl, O5, H5, b5⟩
  have B5 : Hid (Below w0.heap.size w0 w5) := B4.out.trans (b5.out.mono B4.out.size)
  dsimp only
  refine hKc _ _ ⟨HL.out _ B5.out, ?_⟩
  clear hKc Kc
  try simp only [Act.put, List.setIfInBounds_toArray, List.set_cons_zero, List.set_cons_succ]
  clear SD
  have SD := HL.out _ B5.out
  refine anyH_take 9 2 (.slice p5 24 c5) SD rfl (by kernel_rfl) (by kernel_rfl) (by kernel_rfl) (fun _ _ _ h => h) (by rfl) (by intro x hx; obtain ⟨y0, y1, y2⟩ := hx; go_simp; try (intro h; omega)) ?_
  try simp only [Act.put, List.setIfInBounds_toArray, List.set_cons_zero, List.set_cons_succ]
  refine anyH_take 10 3 (.int .i64 0) SD rfl (by kernel_rfl) (by kernel_rfl) (by kernel_rfl) (fun _ _ _ h => h) (by rfl) (by intro x hx; obtain ⟨y0, y1, y2⟩ := hx; go_simp; try (intro h; omega)) ?_
  try simp only [Act.put, List.setIfInBounds_toArray, List.set_cons_zero, List.set_cons_succ]
  refine wpAnyH_done (by kernel_rfl) ?_ _
  go_wp2
  go_ret2
  exact ⟨_, _, rfl, own_base O5.out (by have := B4.out.size; have := B0.out.size; omega), H5, B0.out.trans (B5.out.mono B0.out.size)⟩
set_option maxHeartbeats 4000000 in
set_option maxRecDepth 100000 in
theorem fsget_any (L : List Int) (p : Option Addr) (n c : Nat) (hn : L.length = n) (hL : n ≤ 900000) (w : World) (hp : Bs w p c L) :
    Calls Try.prog 23 #[.slice p n c] w (SGot L w) := by
  have HP := Lib.hid hp
  clear hp
  obtain ⟨Z, hZ⟩ : ∃ Z, Hid (GA ⟨0, 0, 0⟩ = Z) := ⟨_, rfl⟩
  have HZS : Hid (Z.size = 3) := by show _ = _; rw [← hZ.out]; rfl
  have HZ1 : Hid (Z.all (·.oneCell') = true) := by show _ = _; rw [← hZ.out]; simp [GA, Value.oneCell']
  have hz := (zero_of_info Try.zeroGeo).1
  have HBT := Lib.hid Try.builtGeo
  rw [hZ.out] at hz HBT
  have hzn : ¬ Z = #[] := fun h => by have := HZS.out; rw [h] at this; simp at this
  have hsz := row_size Try.sizeGeo HZS
  have HC0 : Hid (∀ y, Below w.heap.size w y → Calls Try.prog 50 #[.slice p n c] y (RfNew L y)) := fun y hy => refread_any L p n c hn (by omega) y (HP.out.old hy)
  have HK0 : Hid (∀ y g D, RfRd y g D L false → Calls Try.prog 51 #[.pointer (some ⟨g, 0, none⟩)] y (RfSay (.int .i64 (Sp.gc L).a) (Sp.rs L 1) (Sp.bd L 1) g D y)) := fun y g D hy => by
    rw [(Sp.n0 L).1, (Sp.n0 L).2.1, (Sp.n0 L).2.2]
    exact fint_any L false g D _ rfl y hy
  have HK1 : Hid (∀ y g D, RfRd y g D (Sp.rs L 1) (Sp.bd L 1) → Calls Try.prog 51 #[.pointer (some ⟨g, 0, none⟩)] y (RfSay (.int .i64 (Sp.gc L).b) (Sp.rs L 2) (Sp.bd L 2) g D y)) := fun y g D hy => by
    rw [(Sp.n1 L).1, (Sp.n1 L).2.1, (Sp.n1 L).2.2]
    exact fint_any _ _ g D _ rfl y hy
  have HK2 : Hid (∀ y g D, RfRd y g D (Sp.rs L 2) (Sp.bd L 2) → Calls Try.prog 51 #[.pointer (some ⟨g, 0, none⟩)] y (RfSay (.int .i64 (Sp.gc L).c) (Sp.rs L 3) (Sp.bd L 3) g D y)) := fun y g D hy => by
    rw [(Sp.n2 L).1, (Sp.n2 L).2.1, (Sp.n2 L).2.2]
    exact fint_any _ _ g D _ rfl y hy
  have HKE : Hid (∀ y g D, RfRd y g D (Sp.rs L 3) (Sp.bd L 3) → Calls Try.prog 52 #[.pointer (some ⟨g, 0, none⟩)] y (EndSayP (Sp.en L) y)) := fun y g D hy => by
    have h := refend_any _ _ g D y hy
    rw [Sp.en_is] at h
    exact h
  have HN0 : Hid (Sp.en L ≠ 0 → Sp.er L = Sp.en L ∧ .agg Z = GV (Sp.gt L)) := fun h => by
    have h1 : Sp.er L = Sp.en L := Sp.er_en h
    refine ⟨h1, ?_⟩
    rw [Sp.gt_none (by rw [h1]; exact h), ← hZ.out, Sp.zero_is]
    rfl
  have HN1 : Hid (Sp.en L = 0 → Sp.ck (Sp.gc L) = 15 → Sp.er L = 15 ∧ .agg Z = GV (Sp.gt L)) := fun h h2 => by
    have h1 : Sp.er L = 15 := by rw [Sp.er_ok h, h2]
    refine ⟨h1, ?_⟩
    rw [Sp.gt_none (by omega), ← hZ.out, Sp.zero_is]
    rfl
  have HN2 : Hid (Sp.en L = 0 → Sp.ck (Sp.gc L) = 0 → Sp.er L = 0 ∧ GV (Sp.gc L) = GV (Sp.gt L)) := fun h h2 => by
    have h1 : Sp.er L = 0 := by rw [Sp.er_ok h, h2]
    exact ⟨h1, by rw [Sp.gt_some h1]⟩
  have HMB : Hid (∀ y, Calls Try.prog 45 #[GV (Sp.gc L)] y (Num (Sp.ck (Sp.gc L)) y)) := fun y => fgcheck_any _ y
  have HOR := Lib.hid (Sp.ck_or (Sp.gc L))
  have HBL : Hid (Try.prog.built 54 [(0, .int .i64 (Sp.gc L).a)] = some (GA ⟨(Sp.gc L).a, 0, 0⟩)) := build_geo1 _
  obtain ⟨A, eA, hk⟩ := gk (Sp.gc L)
  have HAS := Lib.hid hk.size
  have HA1 := Lib.hid hk.one
  have eA2 : GA (Sp.gc L) = A := by unfold GV at eA; injection eA
  have HA2 := Lib.hid eA2.symm
  rw [eA] at HN2 HMB
  obtain ⟨en, hen⟩ : ∃ en, Hid (Sp.en L = en) := ⟨_, rfl⟩
  rw [hen.out] at HKE HN0 HN1 HN2
  obtain ⟨q, hq⟩ : ∃ q, Hid (Sp.ck (Sp.gc L) = q) := ⟨_, rfl⟩
  rw [hq.out] at HMB HN1 HN2 HOR
  generalize Sp.gc L = r at *
  obtain ⟨ga, gb, gc⟩ := r
  dsimp only at *
  have R0 : Hid ((w.alloc (.cells Z 54)).heap[w.heap.size]? = some (.cells Z 54 (0, 0))) := heap_alloc_new w _
  have B0 : Hid (Below w.heap.size w (w.alloc (.cells Z 54))) := (Below.refl _ w).alloc (Nat.le_refl _) _
  have HSU : Hid (w.heap.size < (w.alloc (.cells Z 54)).heap.size) := by show _ < _; simp
  clear hn hL HP hZ hk eA eA2 hen hq
  go_enter Try.func23, Try.ntmps23
  go_upto_region 1 with (fail)
  obtain ⟨w0, hw0⟩ : ∃ x, x = w.alloc (.cells Z 54) := ⟨_, rfl⟩
  rw [← hw0] at B0 R0 HSU ⊢
  clear hw0
  go_upto_region 2 with (go_at_call 50; refine (HC0.out _ B0.out).mono ?_; rintro e1 w1 ⟨g, D, rfl, Q0, HG1, HB1⟩)
  have O0 : Hid (Only g w1 w1) := Only.refl _ _
  have NE : Hid (w.heap.size ≠ g) := by have := HSU.out; have := HG1.out.1; show _ ≠ _; omega
  have BB1 : Hid (Below w.heap.size w w1) := B0.out.trans (HB1.out.mono B0.out.size)
  have R1 : Hid (∀ y, Only g w1 y → y.heap[w.heap.size]? = some (.cells Z 54 (0, 0))) := fun y hy => by
    have r1 := (HB1.out.block _ (lt_of_block R0.out)).trans R0.out
    exact (hy.block _ (lt_of_block r1) NE.out).trans r1
  have HGW : Hid (w.heap.size ≤ g) := Nat.le_trans B0.out.size HG1.out.1
  clear HC0 HB1 R0 B0
  have HAS1 : Hid ((GA ⟨ga, 0, 0⟩).size = 3) := rfl
  have HA11 : Hid ((GA ⟨ga, 0, 0⟩).all (·.oneCell') = true) := by show _ = _; simp [GA, Value.oneCell']
  go_upto_region 3 with (first
    | (go_at_call 51; have TT := Q0.out; refine (HK0.out _ _ _ Q0.out).mono ?_; rintro e2 w2 ⟨rfl, Q1, OO1⟩; have O1 := Lib.hid (O0.out.trans OO1.out); clear OO1)
    | ((with_reducible refine row_buildN _ _ _ _ ?_ HBL.out ?_); (exact rfl))
    | ((with_reducible refine row_store _ _ _ _ _ _ _ ?_ ?_ (heap_alloc_new _ _) (row_size Try.sizeGeo HAS1) ?_ HA11.out ?_); (exact rfl); (exact rfl); (rw [HAS1.out, HZS.out]); intro wa Ga cha))
  have HGP : Hid (w.heap.size < w2.heap.size) := by have := lt_of_block (R1.out _ O1.out); exact this
  have QA : Hid (RfRd wa g D (Sp.rs L 1) (Sp.bd L 1)) := by
    have a1 := Q1.out.old ((Below.refl _ w2).alloc (Nat.le_refl _) (.cells Z 54))
    exact a1.only cha.only (Nat.ne_of_gt Q1.out.glt) (fun h => by have := Q1.out.lt _ h; omega)
  have BA0 : Hid (Below w.heap.size w wa) := by
    have a1 := O1.out.below BB1.out HGW.out BB1.out.size
    exact cha.below (a1.alloc a1.size _) a1.size
  have RA0 : Hid (wa.heap[w.heap.size]? = some (.cells Z 54 (0, 0))) := by
    have a1 := R1.out _ O1.out
    exact (cha.block _ (Nat.ne_of_lt HGP.out)).trans ((((Below.refl _ w2).alloc (Nat.le_refl _) _).block _ (lt_of_block a1)).trans a1)
  have HGG : Hid (g ≠ w2.heap.size ∧ w.heap.size ≤ g ∧ D ≠ some w2.heap.size) := ⟨Nat.ne_of_lt Q1.out.glt, HGW.out, fun h => by have := Q1.out.lt _ h; omega⟩
  clear HK0 HBL Q0 Q1 O0 O1 R1 BB1 HG1 HGW cha HAS1 HA11
  generalize w2.heap.size = gp at *
  have Oa : Hid (Only g wa wa) := Only.refl _ _
  go_upto_region 4 with (go_at_call 51; have TT := QA.out; refine (HK1.out _ _ _ QA.out).mono ?_; rintro e3 w3 ⟨rfl, Q2, OO2⟩; clear TT; have hr3 : Hid (w3.heap[gp]? = some (.cells #[.int .i64 ga, .int .i64 0, .int .i64 0] 54 (0, 0))) := (OO2.out.block _ (lt_of_block Ga) (Ne.symm HGG.out.1)).trans Ga; have hc3 : w3.cell? ⟨gp, 1, none⟩ = some (.int .i64 0) := (by rw [cell_of_row _ _ _ _ _ _ hr3.out]; rfl); have hf3 := frozen_of_row w3 gp 1 _ _ hr3.out)
  obtain ⟨wb, hwb⟩ : ∃ y, y = w3.setCell ⟨gp, 1, none⟩ (.int .i64 gb) := ⟨_, rfl⟩
  have Gb : Hid (wb.heap[gp]? = some (.cells #[.int .i64 ga, .int .i64 gb, .int .i64 0] 54 (0, 0))) := by rw [hwb]; exact (heap_setCell_same w3 gp 1 _ _ _ hr3.out).trans rfl
  have cb : Hid (Chg gp w3 wb) := by rw [hwb]; exact Chg.setCell w3 ⟨gp, 1, none⟩ _
  have QB : Hid (RfRd wb g D (Sp.rs L 2) (Sp.bd L 2)) := Q2.out.only cb.out.only (Ne.symm HGG.out.1) HGG.out.2.2
  have BB : Hid (Below w.heap.size w wb) := cb.out.below (OO2.out.below BA0.out HGG.out.2.1 BA0.out.size) (Nat.le_of_lt HGP.out)
  have RB0 : Hid (wb.heap[w.heap.size]? = some (.cells Z 54 (0, 0))) := (cb.out.block _ (Nat.ne_of_lt HGP.out)).trans ((OO2.out.block _ (lt_of_block RA0.out) NE.out).trans RA0.out)
  rw [← hwb]
  clear hwb hr3 hc3 hf3 Q2 OO2 QA BA0 RA0 Ga HK1 cb Oa
  go_upto_region 5 with (go_at_call 51; have TT := QB.out; refine (HK2.out _ _ _ QB.out).mono ?_; rintro e4 w4 ⟨rfl, Q3, OO3⟩; have hr4 : Hid (w4.heap[gp]? = some (.cells #[.int .i64 ga, .int .i64 gb, .int .i64 0] 54 (0, 0))) := (OO3.out.block _ (lt_of_block Gb.out) (Ne.symm HGG.out.1)).trans Gb.out; have hc4 : w4.cell? ⟨gp, 2, none⟩ = some (.int .i64 0) := (by rw [cell_of_row _ _ _ _ _ _ hr4.out]; rfl); have hf4 := frozen_of_row w4 gp 2 _ _ hr4.out)
  obtain ⟨wa, hwa⟩ : ∃ y, y = w4.setCell ⟨gp, 2, none⟩ (.int .i64 gc) := ⟨_, rfl⟩
  have Ga : wa.heap[gp]? = some (.cells A 54 (0, 0)) := by rw [hwa, HA2.out]; exact (heap_setCell_same w4 gp 2 _ _ _ hr4.out).trans rfl
  have ca : Hid (Chg gp w4 wa) := by rw [hwa]; exact Chg.setCell w4 ⟨gp, 2, none⟩ _
  have QA : Hid (RfRd wa g D (Sp.rs L 3) (Sp.bd L 3)) := Q3.out.only ca.out.only (Ne.symm HGG.out.1) HGG.out.2.2
  have BA : Hid (Below w.heap.size w wa) := ca.out.below (OO3.out.below BB.out HGG.out.2.1 BB.out.size) (Nat.le_of_lt HGP.out)
  have RA : Hid (wa.heap[w.heap.size]? = some (.cells Z 54 (0, 0))) := (ca.out.block _ (Nat.ne_of_lt HGP.out)).trans ((OO3.out.block _ (lt_of_block RB0.out) NE.out).trans RB0.out)
  rw [← hwa]
  clear hwa hr4 hc4 hf4 Q3 OO3 QB BB RB0 Gb HK2 ca HGG HA2 NE hz hzn
  have RE := Lib.hid (HKE.out wa g D QA.out)
  have RZ : Hid (∀ x, Below wa.heap.size wa x → x.heap[w.heap.size]? = some (.cells Z 54 (0, 0))) := fun x hx => (hx.block _ (lt_of_block RA.out)).trans RA.out
  have RP : Hid (∀ x, Below wa.heap.size wa x → x.heap[gp]? = some (.cells A 54 (0, 0))) := fun x hx => (hx.block _ (lt_of_block Ga)).trans Ga
  have RB : Hid (∀ x, Below wa.heap.size wa x → Below w.heap.size w x) := fun x hx => BA.out.trans (hx.mono BA.out.size)
  clear HKE QA RA BA Ga
  by_cases h0 : en = 0
  · subst h0
    rcases HOR.out with hq | hq
    · subst hq
      have HE := Lib.hid (HN2.out rfl rfl)
      clear HN0 HN1 HN2 HOR
      go_wp2_with (first
        | (go_at_call 52; refine RE.out.mono ?_; rintro e17 w17 ⟨rfl, hb7⟩; have HB7 := Lib.hid hb7; clear hb7)
        | ((with_reducible refine row_load _ _ _ _ _ _ _ ?_ (RP.out _ HB9.out) Try.underlying54 ?_ (row_size Try.sizeGeo HAS) ?_); (exact rfl); (exact rfl))
        | ((with_reducible refine row_load _ _ _ _ _ _ _ ?_ (RP.out _ HB7.out) Try.underlying54 ?_ (row_size Try.sizeGeo HAS) ?_); (exact rfl); (exact rfl))
        | (go_at_call 45; refine (HMB.out _).mono ?_; rintro e18 w18 ⟨rfl, HB8⟩; have HB9 := Lib.hid (HB7.out.trans (HB8.mono HB7.out.size)))
        | ((with_reducible refine row_store _ _ _ _ _ _ _ ?_ ?_ (RZ.out _ HB9.out) (row_size Try.sizeGeo HAS) ?_ HA1.out ?_); (exact rfl); (exact rfl); (rw [HAS.out, HZS.out]); intro w19 G9 ch9))
      refine bodyPost_ret (results_cell_tmp rfl _ _ w.heap.size 54 A (0, 0) _ rfl G9 Try.underlying54 rfl (row_size Try.sizeGeo HAS)) rfl ⟨?_, ch9.below (RB.out _ HB9.out) (Nat.le_refl _)⟩
      rw [HE.out.1, ← HE.out.2]; rfl
    · subst hq
      have HE := Lib.hid (HN1.out rfl rfl)
      clear HN0 HN1 HN2 HOR
      go_wp2_with (first
        | (go_at_call 52; refine RE.out.mono ?_; rintro e17 w17 ⟨rfl, hb7⟩; have HB7 := Lib.hid hb7; clear hb7)
        | ((with_reducible refine row_load _ _ _ _ _ _ _ ?_ (RP.out _ HB7.out) Try.underlying54 ?_ (row_size Try.sizeGeo HAS) ?_); (exact rfl); (exact rfl))
        | (go_at_call 45; refine (HMB.out _).mono ?_; rintro e18 w18 ⟨rfl, HB8⟩; have HB9 := Lib.hid (HB7.out.trans (HB8.mono HB7.out.size)))
        | ((with_reducible refine row_build0 _ _ HBT.out ?_))
        | ((with_reducible refine row_store _ _ _ _ _ _ _ ?_ ?_ (RZ.out _ HB9.out) (row_size Try.sizeGeo HZS) ?_ HZ1.out ?_); (exact rfl); (exact rfl); (exact rfl); intro w19 G9 ch9))
      refine bodyPost_ret (results_cell_tmp rfl _ _ w.heap.size 54 Z (0, 0) _ rfl G9 Try.underlying54 rfl (row_size Try.sizeGeo HZS)) rfl ⟨?_, ch9.below (RB.out _ HB9.out) (Nat.le_refl _)⟩
      rw [HE.out.1, ← HE.out.2]; rfl
  · have HE := Lib.hid (HN0.out h0)
    have hb0 : (en == 0) = false := by simpa using h0
    clear HN0 HN1 HN2 HOR
    go_wp2_with (first
      | (go_at_call 52; refine RE.out.mono ?_; rintro e17 w17 ⟨rfl, hb7⟩; have HB7 := Lib.hid hb7; clear hb7)
      | ((with_reducible refine row_build0 _ _ HBT.out ?_))
      | ((with_reducible refine row_store _ _ _ _ _ _ _ ?_ ?_ (RZ.out _ HB7.out) (row_size Try.sizeGeo HZS) ?_ HZ1.out ?_); (exact rfl); (exact rfl); (exact rfl); intro w19 G9 ch9))
    refine bodyPost_ret (results_cell_tmp rfl _ _ w.heap.size 54 Z (0, 0) _ rfl G9 Try.underlying54 rfl (row_size Try.sizeGeo HZS)) rfl ⟨?_, ch9.below (RB.out _ HB7.out) (Nat.le_refl _)⟩
    rw [HE.out.1, ← HE.out.2]; rfl
def LentN (n : Nat) (L : List Int) (w : World) (e : Ending) (w' : World) : Prop :=
  ∃ g, e = .returned (.slice (some ⟨g, 0, none⟩) (n + 5) (n + 5)) ∧ Hid (w.heap.size ≤ g) ∧ Hid (w'.heap[g]? = some (.cells ((mk5 L).map (Value.int .u8)).toArray 5 (0, 0))) ∧ Hid (Below w.heap.size w w')
theorem lentn_any (L : List Int) (n : Nat) (hn : L.length = n) (hL : n ≤ 1000000) (p : Option Addr) (c : Nat) (w : World) (hp : Bs w p c L) : Calls Try.prog 19 #[.slice p n c] w (LentN n L w) := by
  subst hn
  refine (lent_any L p c w hp.bat hL).mono ?_
  rintro e w' ⟨g, h1, h2, h3, h4⟩
  exact ⟨g, h1, h2, h3, h4⟩
theorem keptn_any (L : List Int) (n : Nat) (hn : L.length = n) (hL : n ≤ 100000) (g : Nat) (q : Option Addr) (d : Nat) (w : World) (hg : w.heap[g]? = some (.cells ((mk5 L).map (Value.int .u8)).toArray 5 (0, 0))) (hq : Bs w q d L) :
    Calls Try.prog 25 #[.slice (some ⟨g, 0, none⟩) (n + 5) (n + 5), .slice q n d] w (YesSay w) := by
  subst hn
  exact kept_any L g q (L.length + 5) d w (bat_row hg (mk5_byt hq.bat.1)) hq.bat (by omega) (Nat.le_refl _)
def GotS (A : Array Value) (r : Int) (w : World) (e : Ending) (w' : World) : Prop := e = .returned (.tuple #[.agg A, .int .i64 r]) ∧ Hid (Below w.heap.size w w')
/-- What Put says, whatever it is. -/
def PutS (m : Nat) (L : List Int) (r : Int) (w : World) (e : Ending) (w' : World) : Prop := ∃ p c, e = .returned (.tuple #[.slice p m c, .int .i64 r]) ∧ Hid (Bs w' p c L) ∧ Hid (Below w.heap.size w w')
set_option maxHeartbeats 4000000 in
set_option maxRecDepth 100000 in
theorem puts_core (gg : Sp.G) (L : List Int) (p : Option Addr) (n c : Nat) (hn : L.length = n) (hL : n ≤ 4096) (w : World) (hp : Bs w p c L) (m : Nat) (M : List Int) (hm : M.length = m) (hml : m ≤ 100) (rp : Int)
    (hput : ∀ y, Calls Try.prog 20 #[GV gg] y (PutS m M rp y)) (hfput : ∀ y, Calls Try.prog 21 #[GV gg] y (PutS m M rp y)) :
    Calls Try.prog 4 #[GV gg, .slice p n c] w (YesSay w) := by
  have HWK : Hid (∀ y, Calls Try.prog 18 #[] y (YesSay y)) := fun y => sknown_any y
  have HBP := Lib.hid hp
  have HLN : Hid (∀ y, Below w.heap.size w y → Calls Try.prog 19 #[.slice p n c] y (LentN n L y)) := fun y hy => lentn_any L n hn (by omega) p c y (hp.old hy)
  have HKB : Hid (∀ y g, Below w.heap.size w y → y.heap[g]? = some (.cells ((mk5 L).map (Value.int .u8)).toArray 5 (0, 0)) → Calls Try.prog 25 #[.slice (some ⟨g, 0, none⟩) (n + 5) (n + 5), .slice p n c] y (YesSay y)) := fun y g hy hg => keptn_any L n hn (by omega) g p c y hg (hp.old hy)
  obtain ⟨A, eA, hk⟩ := gk gg
  obtain ⟨B, eB, hkb⟩ := gk (Sp.gt L)
  have HGE : Hid (∀ y g, y.heap[g]? = some (.cells ((mk5 L).map (Value.int .u8)).toArray 5 (0, 0)) → Calls Try.prog 22 #[.slice (some ⟨g, 0, none⟩) n (n + 5)] y (GotS B (Sp.er L) y)) := fun y g hg => by
    have h := lent_bs (L := L) (by omega) hg hp.bat.1
    rw [hn] at h
    have h1 := sget_any L _ n (n + 5) hn (by omega) y h
    unfold SGot at h1
    rw [eB] at h1
    exact h1
  have HRF : Hid (∀ y, Below w.heap.size w y → Calls Try.prog 23 #[.slice p n c] y (GotS B (Sp.er L) y)) := fun y hy => by
    have h1 := fsget_any L p n c hn (by omega) y (hp.old hy)
    unfold SGot at h1
    rw [eB] at h1
    exact h1
  have HSA : Hid (∀ y q d q' d', Bs y q d M → Bs y q' d' M → Calls Try.prog 24 #[.slice q m d, .slice q' m d'] y (EqSay true y)) := fun y q d q' d' h h' => by
    have hs := same_gen M M q q' m d d' hm hm y h.bat h'.bat (by omega)
    rw [decide_eq_true rfl] at hs
    exact hs
  have heq : Hid (∀ y, (Op.equalIn 10000 54 (.agg B) (.agg B)).run Try.prog y = .ok true y) := fun y => by have h := geo_eq (Sp.gt L) (Sp.gt L) y; rw [decide_eq_true rfl, eB] at h; exact h
  have HPU := Lib.hid hput
  have HFP := Lib.hid hfput
  rw [eA] at HPU HFP ⊢
  have HAS := Lib.hid hk.size
  have HBZ := Lib.hid hkb.size
  have HB1 := Lib.hid hkb.one
  have h1 := hk.one
  obtain ⟨Z, hZ⟩ : ∃ Z, Hid (GA ⟨0, 0, 0⟩ = Z) := ⟨_, rfl⟩
  have HZS : Hid (Z.size = 3) := by show _ = _; rw [← hZ.out]; rfl
  have HZ1 : Hid (Z.all (·.oneCell') = true) := by show _ = _; rw [← hZ.out]; simp [GA, Value.oneCell']
  have hz := (zero_of_info Try.zeroGeo).1
  have HBT := Lib.hid Try.builtGeo
  rw [hZ.out] at hz HBT
  have hzn : ¬ Z = #[] := fun h => by have := HZS.out; rw [h] at this; simp at this
  have hsz := row_size Try.sizeGeo HZS
  have HZV : Hid (GV Sp.zero = .agg Z) := by show _ = _; rw [← hZ.out, Sp.zero_is]; rfl
  clear hZ
  obtain ⟨w0, hw0⟩ : ∃ x, x = w.alloc (.cells A 54) := ⟨_, rfl⟩
  have R0 : Hid (w0.heap[w.heap.size]? = some (.cells A 54 (0, 0))) := by rw [hw0]; exact heap_alloc_new w _
  have B0 : Hid (Below w.heap.size w w0) := by rw [hw0]; exact (Below.refl _ w).alloc (Nat.le_refl _) _
  generalize Sp.er L = er at *
  clear hn hp hput hfput hk hkb eA eB hm
  have hl : ¬ (n : Int) > 4096 := by omega
  have hcap : (n : Int) ≤ ((n + 5 : Nat) : Int) := by omega
  have hq := heq.out
  go_enter Try.func4, Try.ntmps4
  go_upto_region 1 with (fail)
  change Code.wp _ _ _ _ (w.alloc (.cells A 54))
  rw [← hw0]
  clear hw0
  go_upto_region 4 with (go_at_call 19; refine (HLN.out _ B0.out).mono ?_; rintro e1 w1 ⟨g, rfl, HG1, R1, BL1⟩)
  have BW1 : Hid (Below w.heap.size w w1) := B0.out.trans (BL1.out.mono B0.out.size)
  have A1 : Hid (w1.heap[w.heap.size]? = some (.cells A 54 (0, 0))) := (BL1.out.block _ (lt_of_block R0.out)).trans R0.out
  clear HG1 BL1 R0 B0 HLN
  go_upto_region 5 with (first
    | ((with_reducible refine row_load _ _ _ _ _ _ _ ?_ A1.out Try.underlying54 ?_ (row_size Try.sizeGeo HAS) ?_); (exact rfl); (exact rfl))
    | (go_at_call 20; refine (HPU.out _).mono ?_; rintro e2 w2 ⟨p2, c2, rfl, P2, BL2⟩))
  have A2 : Hid (w2.heap[w.heap.size]? = some (.cells A 54 (0, 0))) := (BL2.out.block _ (lt_of_block A1.out)).trans A1.out
  have R2 := Lib.hid ((BL2.out.block _ (lt_of_block R1.out)).trans R1.out)
  have BW2 : Hid (Below w.heap.size w w2) := BW1.out.trans (BL2.out.mono BW1.out.size)
  clear A1 R1 BW1 BL2 HPU
  go_upto_region 6 with (first
    | ((with_reducible refine row_load _ _ _ _ _ _ _ ?_ A2.out Try.underlying54 ?_ (row_size Try.sizeGeo HAS) ?_); (exact rfl); (exact rfl))
    | (go_at_call 21; refine (HFP.out _).mono ?_; rintro e3 w3 ⟨p3, c3, rfl, P3, BL3⟩))
  have R3 := Lib.hid ((BL3.out.block _ (lt_of_block R2.out)).trans R2.out)
  have P23 := Lib.hid (P2.out.old BL3.out)
  have BW3 : Hid (Below w.heap.size w w3) := BW2.out.trans (BL3.out.mono BW2.out.size)
  clear A2 R2 BW2 BL3 HFP P2
  go_upto_region 7 with (first
    | (go_at_call 22; refine (HGE.out _ _ R3.out).mono ?_; rintro e4 w4 ⟨rfl, HL4⟩)
    | ((with_reducible refine row_store _ _ _ _ _ _ _ ?_ ?_ (heap_alloc_new _ _) (row_size Try.sizeGeo HBZ) ?_ HB1.out ?_); (exact rfl); (exact rfl); (rw [HBZ.out, HZS.out]); intro w5 G5 ch5))
  have K45 : Hid (Below w4.heap.size w4 w5) := ch5.below ((Below.refl _ w4).alloc (Nat.le_refl _) _) (Nat.le_refl _)
  have K35 : Hid (Below w3.heap.size w3 w5) := HL4.out.trans (K45.out.mono HL4.out.size)
  have R5 := Lib.hid ((K35.out.block _ (lt_of_block R3.out)).trans R3.out)
  have P25 := Lib.hid (P23.out.old K35.out)
  have P35 := Lib.hid (P3.out.old K35.out)
  have BW5 : Hid (Below w.heap.size w w5) := BW3.out.trans (K35.out.mono BW3.out.size)
  obtain ⟨b5, hb5⟩ : ∃ b, w4.heap.size = b := ⟨_, rfl⟩
  rw [hb5] at G5 ⊢
  clear hb5 ch5 K45 K35 HL4 R3 P23 P3 BW3 HGE
  go_upto_region 8 with (first
    | (go_at_call 23; refine (HRF.out _ BW5.out).mono ?_; rintro e6 w6 ⟨rfl, HL6⟩)
    | ((with_reducible refine row_store _ _ _ _ _ _ _ ?_ ?_ (heap_alloc_new _ _) (row_size Try.sizeGeo HBZ) ?_ HB1.out ?_); (exact rfl); (exact rfl); (rw [HBZ.out, HZS.out]); intro w7 G7 ch7))
  have K67 : Hid (Below w6.heap.size w6 w7) := ch7.below ((Below.refl _ w6).alloc (Nat.le_refl _) _) (Nat.le_refl _)
  have K57 : Hid (Below w5.heap.size w5 w7) := HL6.out.trans (K67.out.mono HL6.out.size)
  have R7 := Lib.hid ((K57.out.block _ (lt_of_block R5.out)).trans R5.out)
  have P27 := Lib.hid (P25.out.old K57.out)
  have P37 := Lib.hid (P35.out.old K57.out)
  have G57 : Hid (w7.heap[b5]? = some (.cells B 54 (0, 0))) := (K57.out.block _ (lt_of_block G5.out)).trans G5.out
  have BW7 : Hid (Below w.heap.size w w7) := BW5.out.trans (K57.out.mono BW5.out.size)
  obtain ⟨b7, hb7⟩ : ∃ b, w6.heap.size = b := ⟨_, rfl⟩
  rw [hb7] at G7 ⊢
  clear hb7 ch7 K67 K57 HL6 R5 P25 P35 G5 BW5 HRF
  have hrp : (rp == rp) = true := by simp
  have her : (er == er) = true := by simp
  go_wp2_with (first
    | (go_at_call 24; refine (HSA.out _ _ _ _ _ P27.out P37.out).mono ?_; rintro e8 w8 ⟨rfl, hb8⟩; have B8 := Lib.hid (BW7.out.trans (hb8.mono BW7.out.size)); have R8 := Lib.hid ((hb8.block _ (lt_of_block R7.out)).trans R7.out); have G58 := Lib.hid ((hb8.block _ (lt_of_block G57.out)).trans G57.out); have G78 := Lib.hid ((hb8.block _ (lt_of_block G7.out)).trans G7.out); clear hb8)
    | ((with_reducible refine row_load_g _ _ _ _ _ _ _ ?_ ?_ G58.out Try.underlying54 ?_ (row_size Try.sizeGeo HBZ) ?_); (exact rfl); (exact rfl); (exact rfl))
    | ((with_reducible refine row_load_g _ _ _ _ _ _ _ ?_ ?_ G78.out Try.underlying54 ?_ (row_size Try.sizeGeo HBZ) ?_); (exact rfl); (exact rfl); (exact rfl))
    | (go_at_call 25; refine (HKB.out _ _ B8.out R8.out).mono ?_; rintro e9 w9 ⟨rfl, hb9⟩; have B9 := Lib.hid (B8.out.trans (hb9.mono B8.out.size)); clear hb9)
    | (go_at_call 18; refine (HWK.out _).mono ?_; rintro e10 w10 ⟨rfl, hb10⟩; have B10 := Lib.hid (B9.out.trans (hb10.mono B9.out.size)); clear hb10))
  go_ret
  exact ⟨rfl, B10.out⟩
set_option maxHeartbeats 1000000 in
set_option maxRecDepth 100000 in
theorem puts_any (gg : Sp.G) (L : List Int) (p : Option Addr) (n c : Nat) (hn : L.length = n) (w : World) (hp : Bs w p c L) :
    Calls Try.prog 4 #[GV gg, .slice p n c] w (YesSay w) := by
  by_cases hlong : 4096 < n
  · have hl : (n : Int) > 4096 := by omega
    have B0 : Hid (Below w.heap.size w (w.alloc (.cells (GA gg) 54))) := (Below.refl _ w).alloc (Nat.le_refl _) _
    go_enter Try.func4, Try.ntmps4
    go_wp2_with (go_at_call 18; refine (sknown_any _).mono ?_; rintro e1 w1 ⟨rfl, hb1⟩)
    go_ret
    exact ⟨rfl, B0.out.trans (hb1.mono B0.out.size)⟩
  · rcases Sp.ck_or gg with hc | hc
    · exact puts_core gg L p n c hn (by omega) w hp 24 (Sp.pt gg) (Sp.pt_len gg) (by omega) 0 (fun y => (sput_yes gg hc y).mono fun _ _ ⟨p, c, h1, _, h3, h4⟩ => ⟨p, c, h1, h3, h4⟩) (fun y => (fsput_yes gg hc y).mono fun _ _ ⟨p, c, h1, _, h3, h4⟩ => ⟨p, c, h1, h3, h4⟩)
    · exact puts_core gg L p n c hn (by omega) w hp 0 [] rfl (by omega) 15 (fun y => (sput_no gg hc y).mono fun _ z ⟨h1, h4⟩ => ⟨none, 0, h1, bs_none z, h4⟩) (fun y => (fsput_no gg hc y).mono fun _ z ⟨h1, h4⟩ => ⟨none, 0, h1, bs_none z, h4⟩)
end Go.Proofs.Ytpfghjnhoafcmaa

/-
  PagePuts walked.
-/
import Derived.Test.YtgfnpofoedambaaPgK
namespace Go.Proofs.Ytgfnpofoedambaa
open Go.RowKit

set_option maxHeartbeats 2000000 in
set_option maxRecDepth 100000 in
theorem puts_any (i b : Int) (R : List Pg.Rf) (h : Pg.OkA R) (w : World) : Calls Try.prog 3 #[.int .i64 i, PV R, .int .i64 b] w (YesSay w) := by
  obtain ⟨A, RA, eA, hk⟩ := pgk h
  obtain ⟨L, m, er, hLm, hm1, hput, hrput⟩ := put_both i R h
  have HC1 : Hid (∀ y, Calls Try.prog 9 #[.int .i64 i, .agg A] y (PutV L m er y)) := fun y => by rw [← eA]; exact hput y
  have HC2 : Hid (∀ y, Calls Try.prog 10 #[.int .i64 i, .agg A] y (PutV L m er y)) := fun y => by rw [← eA]; exact hrput y
  obtain ⟨lf, lp, hlf⟩ : ∃ lf lp, Hid (∀ y, Calls Try.prog 11 #[.int .i64 b] y (fun e w' => e = .returned (.tuple #[.int .i64 lf, .int .i64 lp]) ∧ Hid (Below y.heap.size y w')) ∧ Calls Try.prog 12 #[.int .i64 b] y (fun e w' => e = .returned (.tuple #[.int .i64 lf, .int .i64 lp]) ∧ Hid (Below y.heap.size y w'))) := ⟨_, _, fun y => ⟨leaf_any b y, rleaf_any b y⟩⟩
  obtain ⟨q, hq⟩ : ∃ q, Hid (∀ y, Calls Try.prog 14 #[.agg A] y (BoSay q y) ∧ Calls Try.prog 15 #[.agg A] y (BoSay q y)) := ⟨_, fun y => by rw [← eA]; exact ⟨empty_any R h y, rempty_any R h y⟩⟩
  have HSM : Hid (∀ y p1 p2 c1 c2, Bs y p1 c1 L → Bs y p2 c2 L → Calls Try.prog 13 #[.slice p1 m c1, .slice p2 m c2] y (YesSay y)) := fun y p1 p2 c1 c2 h1 h2 => same_any L p1 p2 m m c1 c2 hLm hLm y h1.bat h2.bat (by omega)
  rw [eA]
  have HAS := Lib.hid hk.size
  have hsz := row_size Try.sizePage HAS
  have h1 := hk.one
  have R0 : Hid ((w.alloc (.cells A 28)).heap[w.heap.size]? = some (.cells A 28 (0, 0))) := heap_alloc_new w _
  have B0 : Hid (Below w.heap.size w (w.alloc (.cells A 28))) := (Below.refl _ w).alloc (Nat.le_refl _) _
  clear hk h eA hput hrput hLm hm1
  go_enter Try.func3, Try.ntmps3
  go_upto_region 5 with (first
    | ((with_reducible refine row_load _ _ _ _ _ _ _ ?_ R0.out Try.underlying28 ?_ hsz ?_); (exact rfl); (exact rfl))
    | (go_at_call 9; refine (HC1.out _).mono ?_; rintro e1 w1 ⟨p1, c1, rfl, HS1, HB1⟩; clear HC1; have B1 := Lib.hid (B0.out.trans (HB1.out.mono B0.out.size)); have R1 := Lib.hid ((HB1.out.block _ (lt_of_block R0.out)).trans R0.out))
    | ((with_reducible refine row_load _ _ _ _ _ _ _ ?_ R1.out Try.underlying28 ?_ hsz ?_); (exact rfl); (exact rfl))
    | (go_at_call 10; refine (HC2.out _).mono ?_; rintro e2 w2 ⟨p2, c2, rfl, HS2, HB2⟩; clear HC2; have B2 := Lib.hid (B1.out.trans (HB2.out.mono B1.out.size)); have R2 := Lib.hid ((HB2.out.block _ (lt_of_block R1.out)).trans R1.out); have HS12 := Lib.hid (HS1.out.old HB2.out))
    | (go_at_call 11; refine ((hlf.out _).1).mono ?_; rintro e3 w3 ⟨rfl, HB3⟩)
    | (go_at_call 12; refine ((hlf.out _).2).mono ?_; rintro e4 w4 ⟨rfl, HB4⟩))
  have HB24 : Hid (Below w2.heap.size w2 w4.drew) := (HB3.out.trans (HB4.out.mono HB3.out.size)).drew
  have BZ := Lib.hid (B2.out.trans (HB24.out.mono B2.out.size))
  have RZ := Lib.hid ((HB24.out.block _ (lt_of_block R2.out)).trans R2.out)
  have S1Z := Lib.hid (HS12.out.old HB24.out)
  have S2Z := Lib.hid (HS2.out.old HB24.out)
  clear HB24 B0 R0 B1 R1 B2 R2 HS1 HS2 HS12 HB1 HB2 HB3 HB4 hlf
  refine wp_region_any (by kernel_rfl) ?_
  change wpAny _ _ _ _ _ _ _ (World.drew _)
  obtain ⟨z, hz⟩ : ∃ x, x = w4.drew := ⟨_, rfl⟩
  rw [← hz] at BZ RZ S1Z S2Z ⊢
  clear hz
  have KZ : Hid (∀ y, Below z.heap.size z y → y.heap[w.heap.size]? = some (.cells A 28 (0, 0))) := fun y hy => (hy.block _ (lt_of_block RZ.out)).trans RZ.out
  have D0 : Hid (Below z.heap.size z z) := Below.refl _ _
  refine wpAny_of_held (S := fun y => y.heap[w.heap.size]? = some (.cells A 28 (0, 0))) _ _ _ _ ?_
  have SD := KZ.out _ D0.out
  refine anyH_take 0 37 (.int .i64 er) SD rfl (by kernel_rfl) (by kernel_rfl) (by kernel_rfl) (fun _ _ _ h => h) (by rfl) (by intro x hx; have y0 := hx; (first | exact exec_arr 28 (.tmp 4) w.heap.size 0 A _ rfl (fun j v hv => by rw [cell_of_row x w.heap.size (0 + j) _ _ _ hx, Nat.zero_add]; simpa using hv) Try.underlying28 rfl hsz | go_simp); try (intro h; omega)) ?_
  try simp only [Act.put, List.setIfInBounds_toArray, List.set_cons_zero, List.set_cons_succ]
  refine anyH_take 1 38 (.int .i64 er) SD rfl (by kernel_rfl) (by kernel_rfl) (by kernel_rfl) (fun _ _ _ h => h) (by rfl) (by intro x hx; have y0 := hx; (first | exact exec_arr 28 (.tmp 4) w.heap.size 0 A _ rfl (fun j v hv => by rw [cell_of_row x w.heap.size (0 + j) _ _ _ hx, Nat.zero_add]; simpa using hv) Try.underlying28 rfl hsz | go_simp); try (intro h; omega)) ?_
  try simp only [Act.put, List.setIfInBounds_toArray, List.set_cons_zero, List.set_cons_succ]
  refine anyH_take 2 39 (.bool true) SD rfl (by kernel_rfl) (by kernel_rfl) (by kernel_rfl) (fun _ _ _ h => h) (by rfl) (by intro x hx; have y0 := hx; (first | exact exec_arr 28 (.tmp 4) w.heap.size 0 A _ rfl (fun j v hv => by rw [cell_of_row x w.heap.size (0 + j) _ _ _ hx, Nat.zero_add]; simpa using hv) Try.underlying28 rfl hsz | go_simp); try (intro h; omega)) ?_
  try simp only [Act.put, List.setIfInBounds_toArray, List.set_cons_zero, List.set_cons_succ]
  refine anyH_take 3 40 (.bool true) SD rfl (by kernel_rfl) (by kernel_rfl) (by kernel_rfl) (fun _ _ _ h => h) (by rfl) (by intro x hx; have y0 := hx; (first | exact exec_arr 28 (.tmp 4) w.heap.size 0 A _ rfl (fun j v hv => by rw [cell_of_row x w.heap.size (0 + j) _ _ _ hx, Nat.zero_add]; simpa using hv) Try.underlying28 rfl hsz | go_simp); try (intro h; omega)) ?_
  try simp only [Act.put, List.setIfInBounds_toArray, List.set_cons_zero, List.set_cons_succ]
  refine anyH_take 4 41 (.slice p1 m c1) SD rfl (by kernel_rfl) (by kernel_rfl) (by kernel_rfl) (fun _ _ _ h => h) (by rfl) (by intro x hx; have y0 := hx; (first | exact exec_arr 28 (.tmp 4) w.heap.size 0 A _ rfl (fun j v hv => by rw [cell_of_row x w.heap.size (0 + j) _ _ _ hx, Nat.zero_add]; simpa using hv) Try.underlying28 rfl hsz | go_simp); try (intro h; omega)) ?_
  try simp only [Act.put, List.setIfInBounds_toArray, List.set_cons_zero, List.set_cons_succ]
  refine anyH_take 5 42 (.slice p2 m c2) SD rfl (by kernel_rfl) (by kernel_rfl) (by kernel_rfl) (fun _ _ _ h => h) (by rfl) (by intro x hx; have y0 := hx; (first | exact exec_arr 28 (.tmp 4) w.heap.size 0 A _ rfl (fun j v hv => by rw [cell_of_row x w.heap.size (0 + j) _ _ _ hx, Nat.zero_add]; simpa using hv) Try.underlying28 rfl hsz | go_simp); try (intro h; omega)) ?_
  try simp only [Act.put, List.setIfInBounds_toArray, List.set_cons_zero, List.set_cons_succ]
  refine anyH_one 6 (by kernel_rfl) ?_
  refine wpOp_step rfl (fun Kc hKc => ?_)
  go_simp
  refine (HSM.out _ _ _ _ _ S1Z.out S2Z.out).mono ?_
  rintro e1 z1 ⟨rfl, hb⟩
  have D1 := Lib.hid (D0.out.trans (hb.mono D0.out.size))
  dsimp only
  refine hKc _ _ ⟨KZ.out _ D1.out, ?_⟩
  clear hKc Kc
  try simp only [Act.put, List.setIfInBounds_toArray, List.set_cons_zero, List.set_cons_succ]
  clear SD
  have SD := KZ.out _ D1.out
  refine anyH_take 7 44 (.bool true) SD rfl (by kernel_rfl) (by kernel_rfl) (by kernel_rfl) (fun _ _ _ h => h) (by rfl) (by intro x hx; have y0 := hx; (first | exact exec_arr 28 (.tmp 4) w.heap.size 0 A _ rfl (fun j v hv => by rw [cell_of_row x w.heap.size (0 + j) _ _ _ hx, Nat.zero_add]; simpa using hv) Try.underlying28 rfl hsz | go_simp); try (intro h; omega)) ?_
  try simp only [Act.put, List.setIfInBounds_toArray, List.set_cons_zero, List.set_cons_succ]
  refine anyH_take 8 45 (.bool true) SD rfl (by kernel_rfl) (by kernel_rfl) (by kernel_rfl) (fun _ _ _ h => h) (by rfl) (by intro x hx; have y0 := hx; (first | exact exec_arr 28 (.tmp 4) w.heap.size 0 A _ rfl (fun j v hv => by rw [cell_of_row x w.heap.size (0 + j) _ _ _ hx, Nat.zero_add]; simpa using hv) Try.underlying28 rfl hsz | go_simp); try (intro h; omega)) ?_
  try simp only [Act.put, List.setIfInBounds_toArray, List.set_cons_zero, List.set_cons_succ]
  refine anyH_take 9 46 (.agg A) SD rfl (by kernel_rfl) (by kernel_rfl) (by kernel_rfl) (fun _ _ _ h => h) (by rfl) (by intro x hx; have y0 := hx; (first | exact exec_arr 28 (.tmp 4) w.heap.size 0 A _ rfl (fun j v hv => by rw [cell_of_row x w.heap.size (0 + j) _ _ _ hx, Nat.zero_add]; simpa using hv) Try.underlying28 rfl hsz | go_simp); try (intro h; omega)) ?_
  try simp only [Act.put, List.setIfInBounds_toArray, List.set_cons_zero, List.set_cons_succ]
  refine anyH_take 11 48 (.agg A) SD rfl (by kernel_rfl) (by kernel_rfl) (by kernel_rfl) (fun _ _ _ h => h) (by rfl) (by intro x hx; have y0 := hx; (first | exact exec_arr 28 (.tmp 4) w.heap.size 0 A _ rfl (fun j v hv => by rw [cell_of_row x w.heap.size (0 + j) _ _ _ hx, Nat.zero_add]; simpa using hv) Try.underlying28 rfl hsz | go_simp); try (intro h; omega)) ?_
  try simp only [Act.put, List.setIfInBounds_toArray, List.set_cons_zero, List.set_cons_succ]
  refine anyH_one 10 (by kernel_rfl) ?_
  refine wpOp_step rfl (fun Kc hKc => ?_)
  go_simp
  refine ((hq.out _).1).mono ?_
  rintro e2 z2 ⟨rfl, HB⟩
  have D2 := Lib.hid (D1.out.trans (HB.out.mono D1.out.size))
  dsimp only
  refine hKc _ _ ⟨KZ.out _ D2.out, ?_⟩
  clear hKc Kc
  try simp only [Act.put, List.setIfInBounds_toArray, List.set_cons_zero, List.set_cons_succ]
  clear SD
  have SD := KZ.out _ D2.out
  refine anyH_one 12 (by kernel_rfl) ?_
  refine wpOp_step rfl (fun Kc hKc => ?_)
  go_simp
  refine ((hq.out _).2).mono ?_
  rintro e3 z3 ⟨rfl, HB⟩
  have D3 := Lib.hid (D2.out.trans (HB.out.mono D2.out.size))
  dsimp only
  refine hKc _ _ ⟨KZ.out _ D3.out, ?_⟩
  clear hKc Kc
  try simp only [Act.put, List.setIfInBounds_toArray, List.set_cons_zero, List.set_cons_succ]
  clear SD
  have SD := KZ.out _ D3.out
  refine anyH_take 13 50 (.bool true) SD rfl (by kernel_rfl) (by kernel_rfl) (by kernel_rfl) (fun _ _ _ h => h) (by rfl) (by intro x hx; have y0 := hx; (first | exact exec_arr 28 (.tmp 4) w.heap.size 0 A _ rfl (fun j v hv => by rw [cell_of_row x w.heap.size (0 + j) _ _ _ hx, Nat.zero_add]; simpa using hv) Try.underlying28 rfl hsz | go_simp); try (intro h; omega)) ?_
  try simp only [Act.put, List.setIfInBounds_toArray, List.set_cons_zero, List.set_cons_succ]
  refine anyH_take 14 51 (.bool true) SD rfl (by kernel_rfl) (by kernel_rfl) (by kernel_rfl) (fun _ _ _ h => h) (by rfl) (by intro x hx; have y0 := hx; (first | exact exec_arr 28 (.tmp 4) w.heap.size 0 A _ rfl (fun j v hv => by rw [cell_of_row x w.heap.size (0 + j) _ _ _ hx, Nat.zero_add]; simpa using hv) Try.underlying28 rfl hsz | go_simp); try (intro h; omega)) ?_
  try simp only [Act.put, List.setIfInBounds_toArray, List.set_cons_zero, List.set_cons_succ]
  refine anyH_take 15 52 (.bool true) SD rfl (by kernel_rfl) (by kernel_rfl) (by kernel_rfl) (fun _ _ _ h => h) (by rfl) (by intro x hx; have y0 := hx; (first | exact exec_arr 28 (.tmp 4) w.heap.size 0 A _ rfl (fun j v hv => by rw [cell_of_row x w.heap.size (0 + j) _ _ _ hx, Nat.zero_add]; simpa using hv) Try.underlying28 rfl hsz | go_simp); try (intro h; omega)) ?_
  try simp only [Act.put, List.setIfInBounds_toArray, List.set_cons_zero, List.set_cons_succ]
  refine anyH_take 16 53 (.int .i64 lf) SD rfl (by kernel_rfl) (by kernel_rfl) (by kernel_rfl) (fun _ _ _ h => h) (by rfl) (by intro x hx; have y0 := hx; (first | exact exec_arr 28 (.tmp 4) w.heap.size 0 A _ rfl (fun j v hv => by rw [cell_of_row x w.heap.size (0 + j) _ _ _ hx, Nat.zero_add]; simpa using hv) Try.underlying28 rfl hsz | go_simp); try (intro h; omega)) ?_
  try simp only [Act.put, List.setIfInBounds_toArray, List.set_cons_zero, List.set_cons_succ]
  refine anyH_take 17 54 (.int .i64 lf) SD rfl (by kernel_rfl) (by kernel_rfl) (by kernel_rfl) (fun _ _ _ h => h) (by rfl) (by intro x hx; have y0 := hx; (first | exact exec_arr 28 (.tmp 4) w.heap.size 0 A _ rfl (fun j v hv => by rw [cell_of_row x w.heap.size (0 + j) _ _ _ hx, Nat.zero_add]; simpa using hv) Try.underlying28 rfl hsz | go_simp); try (intro h; omega)) ?_
  try simp only [Act.put, List.setIfInBounds_toArray, List.set_cons_zero, List.set_cons_succ]
  refine anyH_take 18 55 (.bool true) SD rfl (by kernel_rfl) (by kernel_rfl) (by kernel_rfl) (fun _ _ _ h => h) (by rfl) (by intro x hx; have y0 := hx; (first | exact exec_arr 28 (.tmp 4) w.heap.size 0 A _ rfl (fun j v hv => by rw [cell_of_row x w.heap.size (0 + j) _ _ _ hx, Nat.zero_add]; simpa using hv) Try.underlying28 rfl hsz | go_simp); try (intro h; omega)) ?_
  try simp only [Act.put, List.setIfInBounds_toArray, List.set_cons_zero, List.set_cons_succ]
  refine anyH_take 19 56 (.bool true) SD rfl (by kernel_rfl) (by kernel_rfl) (by kernel_rfl) (fun _ _ _ h => h) (by rfl) (by intro x hx; have y0 := hx; (first | exact exec_arr 28 (.tmp 4) w.heap.size 0 A _ rfl (fun j v hv => by rw [cell_of_row x w.heap.size (0 + j) _ _ _ hx, Nat.zero_add]; simpa using hv) Try.underlying28 rfl hsz | go_simp); try (intro h; omega)) ?_
  try simp only [Act.put, List.setIfInBounds_toArray, List.set_cons_zero, List.set_cons_succ]
  refine anyH_take 20 57 (.bool true) SD rfl (by kernel_rfl) (by kernel_rfl) (by kernel_rfl) (fun _ _ _ h => h) (by rfl) (by intro x hx; have y0 := hx; (first | exact exec_arr 28 (.tmp 4) w.heap.size 0 A _ rfl (fun j v hv => by rw [cell_of_row x w.heap.size (0 + j) _ _ _ hx, Nat.zero_add]; simpa using hv) Try.underlying28 rfl hsz | go_simp); try (intro h; omega)) ?_
  try simp only [Act.put, List.setIfInBounds_toArray, List.set_cons_zero, List.set_cons_succ]
  refine anyH_take 21 58 (.int .i64 lp) SD rfl (by kernel_rfl) (by kernel_rfl) (by kernel_rfl) (fun _ _ _ h => h) (by rfl) (by intro x hx; have y0 := hx; (first | exact exec_arr 28 (.tmp 4) w.heap.size 0 A _ rfl (fun j v hv => by rw [cell_of_row x w.heap.size (0 + j) _ _ _ hx, Nat.zero_add]; simpa using hv) Try.underlying28 rfl hsz | go_simp); try (intro h; omega)) ?_
  try simp only [Act.put, List.setIfInBounds_toArray, List.set_cons_zero, List.set_cons_succ]
  refine anyH_take 22 59 (.int .i64 lp) SD rfl (by kernel_rfl) (by kernel_rfl) (by kernel_rfl) (fun _ _ _ h => h) (by rfl) (by intro x hx; have y0 := hx; (first | exact exec_arr 28 (.tmp 4) w.heap.size 0 A _ rfl (fun j v hv => by rw [cell_of_row x w.heap.size (0 + j) _ _ _ hx, Nat.zero_add]; simpa using hv) Try.underlying28 rfl hsz | go_simp); try (intro h; omega)) ?_
  try simp only [Act.put, List.setIfInBounds_toArray, List.set_cons_zero, List.set_cons_succ]
  refine anyH_take 23 60 (.bool true) SD rfl (by kernel_rfl) (by kernel_rfl) (by kernel_rfl) (fun _ _ _ h => h) (by rfl) (by intro x hx; have y0 := hx; (first | exact exec_arr 28 (.tmp 4) w.heap.size 0 A _ rfl (fun j v hv => by rw [cell_of_row x w.heap.size (0 + j) _ _ _ hx, Nat.zero_add]; simpa using hv) Try.underlying28 rfl hsz | go_simp); try (intro h; omega)) ?_
  try simp only [Act.put, List.setIfInBounds_toArray, List.set_cons_zero, List.set_cons_succ]
  refine anyH_take 24 61 (.bool true) SD rfl (by kernel_rfl) (by kernel_rfl) (by kernel_rfl) (fun _ _ _ h => h) (by rfl) (by intro x hx; have y0 := hx; (first | exact exec_arr 28 (.tmp 4) w.heap.size 0 A _ rfl (fun j v hv => by rw [cell_of_row x w.heap.size (0 + j) _ _ _ hx, Nat.zero_add]; simpa using hv) Try.underlying28 rfl hsz | go_simp); try (intro h; omega)) ?_
  try simp only [Act.put, List.setIfInBounds_toArray, List.set_cons_zero, List.set_cons_succ]
  refine anyH_take 25 62 (.bool true) SD rfl (by kernel_rfl) (by kernel_rfl) (by kernel_rfl) (fun _ _ _ h => h) (by rfl) (by intro x hx; have y0 := hx; (first | exact exec_arr 28 (.tmp 4) w.heap.size 0 A _ rfl (fun j v hv => by rw [cell_of_row x w.heap.size (0 + j) _ _ _ hx, Nat.zero_add]; simpa using hv) Try.underlying28 rfl hsz | go_simp); try (intro h; omega)) ?_
  try simp only [Act.put, List.setIfInBounds_toArray, List.set_cons_zero, List.set_cons_succ]
  refine anyH_one 26 (by kernel_rfl) ?_
  refine wpOp_step rfl (fun Kc hKc => ?_)
  go_simp
  refine (known_any _).mono ?_
  rintro e4 z4 ⟨rfl, HB⟩
  have D4 := Lib.hid (D3.out.trans (HB.out.mono D3.out.size))
  dsimp only
  refine hKc _ _ ⟨KZ.out _ D4.out, ?_⟩
  clear hKc Kc
  try simp only [Act.put, List.setIfInBounds_toArray, List.set_cons_zero, List.set_cons_succ]
  clear SD
  have SD := KZ.out _ D4.out
  refine anyH_take 27 64 (.bool true) SD rfl (by kernel_rfl) (by kernel_rfl) (by kernel_rfl) (fun _ _ _ h => h) (by rfl) (by intro x hx; have y0 := hx; (first | exact exec_arr 28 (.tmp 4) w.heap.size 0 A _ rfl (fun j v hv => by rw [cell_of_row x w.heap.size (0 + j) _ _ _ hx, Nat.zero_add]; simpa using hv) Try.underlying28 rfl hsz | go_simp); try (intro h; omega)) ?_
  try simp only [Act.put, List.setIfInBounds_toArray, List.set_cons_zero, List.set_cons_succ]
  refine anyH_take 28 6 (.bool true) SD rfl (by kernel_rfl) (by kernel_rfl) (by kernel_rfl) (fun _ _ _ h => h) (by rfl) (by intro x hx; have y0 := hx; (first | exact exec_arr 28 (.tmp 4) w.heap.size 0 A _ rfl (fun j v hv => by rw [cell_of_row x w.heap.size (0 + j) _ _ _ hx, Nat.zero_add]; simpa using hv) Try.underlying28 rfl hsz | go_simp); try (intro h; omega)) ?_
  try simp only [Act.put, List.setIfInBounds_toArray, List.set_cons_zero, List.set_cons_succ]
  refine wpAnyH_done (by kernel_rfl) ?_ _
  go_wp2
  go_ret
  exact ⟨rfl, BZ.out.trans (D4.out.mono BZ.out.size)⟩
end Go.Proofs.Ytgfnpofoedambaa

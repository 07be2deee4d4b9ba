/-
  Contract of the reference: rillref09.Ref.
-/
import Derived.Test.YtgfnpofoedambaaPaM
namespace Go.Proofs.Ytgfnpofoedambaa
open Go.RowKit

set_option maxHeartbeats 1000000 in
set_option maxRecDepth 100000 in
theorem refref_any (L : List Int) (r : Int × List Int) (hS : r.2.length = 32) (hb : Sha.Byt r.2) (p : Option Addr) (n c m : Nat) (hn : L.length = n) (hm : n + 40 = m) (hL : n ≤ 900000) (w : World) (hp : Bs w p c L) :
    Calls Try.prog 27 #[.slice p n c, R33 r] w (RowOf (L ++ Pk.ref r) m w) := by
  have HP := Lib.hid hp; clear hp
  have HN := Lib.hid hn; clear hn
  obtain ⟨k, S⟩ := r
  have HS32 : Hid (S.length = 32) := hS
  have HSB : Hid (Sha.Byt S) := hb
  clear hS hb
  obtain ⟨A, HA1⟩ : ∃ A, Hid (A = (S.map (Value.int .u8)).toArray) := ⟨_, rfl⟩
  have HA2 : Hid (A.size = 32) := by show _ = _; rw [HA1.out]; simp [HS32.out]
  obtain ⟨B, HB1⟩ : ∃ B, Hid (B = (Value.int .i64 k :: S.map (Value.int .u8)).toArray) := ⟨_, rfl⟩
  have HB2 : Hid (B.size = 33) := by show _ = _; rw [HB1.out]; simp [HS32.out]
  have hsz := row_size Try.sizeRef HB2
  have h1 : B.all (·.oneCell') = true := by
    rw [HB1.out]
    apply all_oneCell_toArray
    intro v hv
    simp at hv
    rcases hv with rfl | ⟨x, _, rfl⟩ <;> rfl
  have R0 : Hid ((w.alloc (.cells B 25)).heap[w.heap.size]? = some (.cells B 25 (0, 0))) := heap_alloc_new w _
  have B0 : Hid (Below w.heap.size w (w.alloc (.cells B 25))) := (Below.refl _ w).alloc (Nat.le_refl _) _
  have HK : Hid (∀ y, Below (w.alloc (.cells B 25)).heap.size (w.alloc (.cells B 25)) y → y.cell? ⟨w.heap.size, 0, none⟩ = some (.int .i64 k) ∧ y.rangeAt w.heap.size 1 A.toList) := fun y hy => by
    have h := (hy.block w.heap.size (by simp)).trans R0.out
    rw [HB1.out] at h
    constructor
    · rw [cell_of_row y w.heap.size 0 _ _ _ h]; rfl
    · intro j v hv
      rw [cell_of_row y w.heap.size (1 + j) _ _ _ h, Nat.add_comm]
      rw [HA1.out] at hv
      simpa using hv
  have e33 : R33 (k, S) = .agg B := by unfold R33; rw [HB1.out]
  have e32 : A32 S = .agg A := by unfold A32; rw [HA1.out]
  have HC1 : Hid (∀ y, Below w.heap.size w y → Calls Try.prog 26 #[.slice p n c, .int .i64 k] y (RowOf (L ++ Pk.e8 k 8) (n + 8) y)) := fun y hy => refint_any L k p n c (n + 8) HN.out rfl (by omega) y (HP.out.old hy)
  have HC2 : Hid (∀ y p1 c1, Bs y p1 c1 (L ++ Pk.e8 k 8) → Calls Try.prog 40 #[.slice p1 (n + 8) c1, .agg A] y (RowOf (L ++ Pk.ref (k, S)) m y)) := fun y p1 c1 hy => by
    rw [← e32, Pk.ref, ← List.append_assoc]
    exact refsum_any (L ++ Pk.e8 k 8) S HS32.out HSB.out p1 (n + 8) c1 m (by simp only [List.length_append, Pk.e8_len]; rw [HN.out]) (by omega) (by omega) y hy
  clear HB1 HA1
  rw [e33]
  go_enter Try.func27, Try.ntmps27
  go_upto_region 1 with (fail)
  refine wp_region_any (by kernel_rfl) ?_
  change wpAny _ _ _ _ _ _ _ (World.drew _)
  obtain ⟨w1, hw1e⟩ : ∃ x, x = (w.alloc (.cells B 25)).drew := ⟨_, rfl⟩
  have B1 : Hid (Below w.heap.size w w1) := by rw [hw1e]; exact B0.out.drew
  have B1' : Hid (Below (w.alloc (.cells B 25)).heap.size (w.alloc (.cells B 25)) w1) := by rw [hw1e]; exact (Below.refl _ _).drew
  rw [← hw1e]
  clear hw1e
  refine wpAny_of_held (S := fun y => y.cell? ⟨w.heap.size, 0, none⟩ = some (.int .i64 k) ∧ y.rangeAt w.heap.size 1 A.toList) _ _ _ _ ?_
  have SD := HK.out _ B1'.out
  refine anyH_take 0 5 (.slice p n c) SD rfl (by kernel_rfl) (by kernel_rfl) (by kernel_rfl) (fun _ _ _ h => h) (by rfl) (by intro x hx; go_simp) ?_
  try simp only [Act.put, List.setIfInBounds_toArray, List.set_cons_zero, List.set_cons_succ]
  refine anyH_take 1 6 (.pointer (some ⟨w.heap.size, 0, none⟩)) SD rfl (by kernel_rfl) (by kernel_rfl) (by kernel_rfl) (fun _ _ _ h => h) (by rfl) (by intro x hx; go_simp) ?_
  try simp only [Act.put, List.setIfInBounds_toArray, List.set_cons_zero, List.set_cons_succ]
  refine anyH_take 2 7 (.int .i64 k) SD rfl (by kernel_rfl) (by kernel_rfl) (by kernel_rfl) (fun _ _ _ h => h) (by rfl) (by intro x hx; have h0 := hx.1; go_simp) ?_
  try simp only [Act.put, List.setIfInBounds_toArray, List.set_cons_zero, List.set_cons_succ]
  refine anyH_take 4 9 (.pointer (some ⟨w.heap.size, 1, none⟩)) SD rfl (by kernel_rfl) (by kernel_rfl) (by kernel_rfl) (fun _ _ _ h => h) (by rfl) (by intro x hx; go_simp) ?_
  try simp only [Act.put, List.setIfInBounds_toArray, List.set_cons_zero, List.set_cons_succ]
  refine anyH_take 5 10 (.agg A) SD rfl (by kernel_rfl) (by kernel_rfl) (by kernel_rfl) (fun _ _ _ h => h) (by rfl) (fun x hx => exec_arr 23 (.tmp 9) w.heap.size 1 A _ rfl hx.2 Try.underlying23 rfl (row_size Try.sizeSum HA2)) ?_
  try simp only [Act.put, List.setIfInBounds_toArray, List.set_cons_zero, List.set_cons_succ]
  refine anyH_one 3 (by kernel_rfl) ?_
  refine wpOp_step rfl (fun Kc hKc => ?_)
  go_simp
  refine (HC1.out _ B1.out).mono ?_
  rintro e2 w2 ⟨p2, c2, rfl, HO2, HB2, HL2⟩
  dsimp only
  have B2' : Hid (Below (w.alloc (.cells B 25)).heap.size (w.alloc (.cells B 25)) w2) := B1'.out.trans (HL2.out.mono B1'.out.size)
  have B2 : Hid (Below w.heap.size w w2) := B1.out.trans (HL2.out.mono B1.out.size)
  refine hKc _ _ ⟨HK.out _ B2'.out, ?_⟩
  clear hKc Kc SD
  try simp only [Act.put, List.setIfInBounds_toArray, List.set_cons_zero, List.set_cons_succ]
  refine anyH_one 6 (by kernel_rfl) ?_
  refine wpOp_step rfl (fun Kc hKc => ?_)
  go_simp
  refine (HC2.out _ _ _ HB2.out).mono ?_
  rintro e3 w3 ⟨p3, c3, rfl, HO3, HB3, HL3⟩
  dsimp only
  have B3' : Hid (Below (w.alloc (.cells B 25)).heap.size (w.alloc (.cells B 25)) w3) := B2'.out.trans (HL3.out.mono B2'.out.size)
  have B3 : Hid (Below w.heap.size w w3) := B2.out.trans (HL3.out.mono B2.out.size)
  refine hKc _ _ ⟨HK.out _ B3'.out, ?_⟩
  clear hKc Kc
  try simp only [Act.put, List.setIfInBounds_toArray, List.set_cons_zero, List.set_cons_succ]
  have SD := HK.out _ B3'.out
  refine anyH_one 7 (by kernel_rfl) ?_
  refine wpOp_step rfl (fun Kc hKc => ?_)
  go_simp
  refine hKc _ _ ⟨SD, ?_⟩
  clear hKc Kc
  refine wpAnyH_done (by kernel_rfl) ?_ _
  go_wp2
  go_ret
  refine ⟨p3, c3, rfl, ?_, HB3.out, B3.out⟩
  have h := own_base HO3.out B2.out.size
  exact h
end Go.Proofs.Ytgfnpofoedambaa

/-
  Contracts: batch.Put, and the reference's.
-/
import Derived.Test.YtkgefogkdmbciaaBaG
namespace Go.Proofs.Ytkgefogkdmbciaa
open Go.RowKit

/-- Behind a Put that is done; that is refused. -/
def PutOk (R : List Int) (m : Nat) (w : World) (e : Ending) (w' : World) : Prop :=
  ∃ p c, e = .returned (.tuple #[.slice p m c, .int .i64 0]) ∧ Hid (w'.ownsRow w.heap.size 5 1 (.slice p m c) m (U8s R)) ∧ Hid (Bs w' p c R) ∧ Hid (Below w.heap.size w w')
def PutNo (r : Int) (w : World) (e : Ending) (w' : World) : Prop := e = .returned (.tuple #[.slice none 0 0, .int .i64 r]) ∧ Below w.heap.size w w'
/-- What a summary's row gives. -/
structure SmX (X : Array Value) (g : Nat) (t n : Int) (A : Array Value) (v : Value) : Prop where
  size : X.size = 35
  at_ : ∀ z : World, z.heap[g]? = some (.cells X 26 (0, 0)) → z.cell? ⟨g, 0, none⟩ = some (.int .i64 t) ∧ z.cell? ⟨g, 33, none⟩ = some (.int .i64 n) ∧ z.cell? ⟨g, 34, none⟩ = some v ∧ z.rangeAt g 1 A.toList
theorem smx_of (g : Nat) (t n : Int) {P : List Int} (v : Value) (hP : P.length = 32) {A : Array Value} (hA : A32 P = .agg A) : SmX (SmA t P n v) g t n A v :=
  ⟨smA_size t n v hP, fun z hz => by
    have a1 : SmAt z g t P n v := hz
    exact ⟨a1.c0, a1.c33 hP, a1.c34 hP, a1.rng hA⟩⟩
set_option maxHeartbeats 1000000 in
set_option maxRecDepth 100000 in
theorem put_no (t n : Int) (P : List Int) (p : Option Addr) (m c : Nat) (L : List Bt.En) (hm : L.length = m) (w : World) (h : Sv w P p c L) (r : Int) (hr : Bt.ck t n L = r) (h0 : r ≠ 0) :
    Calls Try.prog 12 #[.agg (SmA t P n (.slice p m c))] w (PutNo r w) := by
  have HCK : Hid (∀ z, Below w.heap.size w z → Calls Try.prog 14 #[.agg (SmA t P n (.slice p m c))] z (InSay r z)) := fun z hz => by rw [← hr]; exact check_any t n P p m c L hm z (h.old hz)
  have HXS : Hid ((SmA t P n (.slice p m c)).size = 35) := smA_size t n _ h.len
  have hsx := sm_info HXS.out
  have hb0 : (r == 0) = false := by simp [h0]
  clear h hr h0
  generalize SmA t P n (.slice p m c) = X at *
  have B0 : Hid (Below w.heap.size w (w.alloc (.cells X 26))) := (Below.refl _ w).alloc (Nat.le_refl _) _
  have G0 : Hid ((w.alloc (.cells X 26)).heap[w.heap.size]? = some (.cells X 26 (0, 0))) := heap_alloc_new w _
  go_enter Try.func12, Try.ntmps12
  go_upto_region 1 with (fail)
  change Code.wp _ _ _ _ (w.alloc (.cells X 26))
  obtain ⟨w0, hw0⟩ : ∃ y, y = w.alloc (.cells X 26) := ⟨_, rfl⟩
  rw [← hw0] at B0 G0 ⊢
  clear hw0
  go_wp2_with (first
    | ((with_reducible refine row_load _ _ _ _ _ _ _ ?_ G0.out Try.underlying26 ?_ (sm_info HXS.out) ?_); (exact rfl); (exact rfl))
    | (go_at_call 14; refine (HCK.out _ B0.out).mono ?_; rintro e1 w1 ⟨rfl, hb1⟩))
  refine bodyPost_ret (results_tmp2 rfl _ _ _) rfl ⟨rfl, B0.out.trans (hb1.mono B0.out.size)⟩
set_option maxHeartbeats 4000000 in
set_option maxRecDepth 100000 in
theorem put_ok (t n : Int) (P : List Int) (p : Option Addr) (m c : Nat) (L : List Bt.En) (hm : L.length = m) (w : World) (h : Sv w P p c L) (hr : Bt.ck t n L = 0) :
    Calls Try.prog 12 #[.agg (SmA t P n (.slice p m c))] w (PutOk (Bt.ofS t P n L) (56 + 56 * m) w) := by
  have HCK : Hid (∀ z, Below w.heap.size w z → Calls Try.prog 14 #[.agg (SmA t P n (.slice p m c))] z (InSay 0 z)) := fun z hz => by rw [← hr]; exact check_any t n P p m c L hm z (h.old hz)
  have hl16 : m ≤ 16 := by rw [← hm]; exact (Bt.ck_ok hr).1
  obtain ⟨A, hA, hA2, _⟩ := a32_agg P h.len
  have HX := Lib.hid (smx_of w.heap.size t n (.slice p m c) h.len hA)
  have HA2 := Lib.hid hA2
  have HXS : Hid ((SmA t P n (.slice p m c)).size = 35) := HX.out.size
  have hsx := sm_info HXS.out
  have HM := Lib.hid hm
  have HE : Hid (Es w p c L) := h.es
  have HI1 : Hid (∀ y, Calls Try.prog 31 #[.slice none 0 0, .int .i64 t] y (RowOf (Pk.e8 t 8) 8 y)) := fun y => by
    have h := int_any [] t none 0 0 8 rfl rfl (by omega) y (bs_none y)
    rw [List.nil_append] at h
    exact h
  have HS1 : Hid (∀ y q d, Bs y q d (Pk.e8 t 8) → Calls Try.prog 30 #[.slice q 8 d, .agg A] y (RowOf (Pk.e8 t 8 ++ P) 40 y)) := fun y q d hy => by rw [← hA]; exact sum_any _ P h.len h.byt q 8 d 40 (Pk.e8_len _ _) rfl (by omega) y hy
  have HI2 : Hid (∀ y q d, Bs y q d (Pk.e8 t 8 ++ P) → Calls Try.prog 31 #[.slice q 40 d, .int .i64 n] y (RowOf (Pk.e8 t 8 ++ P ++ Pk.e8 n 8) 48 y)) := fun y q d hy => int_any _ n q 40 d 48 (by rw [List.length_append, Pk.e8_len, h.len]) rfl (by omega) y hy
  have HI3 : Hid (∀ y q d, Bs y q d (Pk.e8 t 8 ++ P ++ Pk.e8 n 8) → Calls Try.prog 31 #[.slice q 48 d, .int .i64 (m : Nat)] y (RowOf (Bt.hd t P n (L.length : Nat) ++ Bt.bo (L.take 0)) 56 y)) := fun y q d hy => by
    have h := int_any _ (m : Nat) q 48 d 56 (by rw [List.length_append, List.length_append, Pk.e8_len, Pk.e8_len, h.len]) rfl (by omega) y hy
    have e : Pk.e8 t 8 ++ P ++ Pk.e8 n 8 ++ Pk.e8 (m : Nat) 8 = Bt.hd t P n (L.length : Nat) ++ Bt.bo (L.take 0) := by
      rw [hm, List.take_zero]
      unfold Bt.hd Bt.bo
      rw [List.append_nil]
    rw [e] at h
    exact h
  have HLP : Hid (∀ k, k ≤ m → (Bt.hd t P n (L.length : Nat) ++ Bt.bo (L.take k)).length = 56 + 56 * k) := fun k hk => by
    rw [List.length_append, Bt.hd_len t n _ h.len, Bt.bo_len (fun x hx => h.es.ok x (List.mem_of_mem_take hx)), List.length_take]
    omega
  have HEND : Hid (Bt.hd t P n (L.length : Nat) ++ Bt.bo (L.take m) = Bt.ofS t P n L) := by
    show _ = _
    unfold Bt.ofS
    rw [← hm, List.take_length]
  have HSN : Hid (∀ k, k < m → Bt.hd t P n (L.length : Nat) ++ Bt.bo (L.take k) ++ Pk.e8 (L.getD k Bt.en0).k 8 ++ Pk.e8 (L.getD k Bt.en0).b 8 ++ Pk.e8 (L.getD k Bt.en0).s 8 ++ (L.getD k Bt.en0).u = Bt.hd t P n (L.length : Nat) ++ Bt.bo (L.take (k + 1))) := fun k hk => by
    rw [Bt.bo_snoc L k (by omega)]
    unfold Bt.eb
    simp only [List.append_assoc]
  have HRES : Hid (∀ e w', PutOk (Bt.hd t P n (L.length : Nat) ++ Bt.bo (L.take m)) (56 + 56 * m) w e w' → PutOk (Bt.ofS t P n L) (56 + 56 * m) w e w') := fun e w' h => by rw [HEND.out] at h; exact h
  generalize Bt.hd t P n (L.length : Nat) = H0 at *
  generalize SmA t P n (.slice p m c) = X at *
  clear h hr hA hA2 hm HEND
  have B0 : Hid (Below w.heap.size w (w.alloc (.cells X 26))) := (Below.refl _ w).alloc (Nat.le_refl _) _
  have G0 : Hid ((w.alloc (.cells X 26)).heap[w.heap.size]? = some (.cells X 26 (0, 0))) := heap_alloc_new w _
  refine Calls.mono ?_ (fun e w' h => HRES.out e w' h)
  go_enter Try.func12, Try.ntmps12
  go_upto_region 1 with (fail)
  change Code.wp _ _ _ _ (w.alloc (.cells X 26))
  obtain ⟨w0, hw0⟩ : ∃ y, y = w.alloc (.cells X 26) := ⟨_, rfl⟩
  rw [← hw0] at B0 G0 ⊢
  clear hw0
  go_upto_region 4 with (first
    | ((with_reducible refine row_load _ _ _ _ _ _ _ ?_ G0.out Try.underlying26 ?_ (sm_info HXS.out) ?_); (exact rfl); (exact rfl))
    | (go_at_call 14; refine (HCK.out _ B0.out).mono ?_; rintro e1 w1 ⟨rfl, hb1⟩))
  have B1 : Hid (Below w.heap.size w w1) := B0.out.trans (hb1.mono B0.out.size)
  have G1 : Hid (w1.heap[w.heap.size]? = some (.cells X 26 (0, 0))) := (hb1.block _ (lt_of_block G0.out)).trans G0.out
  clear hb1 G0 B0 HCK
  refine wp_region_any (by kernel_rfl) ?_
  change wpAny _ _ _ _ _ _ _ (World.drew _)
  have Bz : Hid (Below w.heap.size w w1.drew) := B1.out.drew
  have Gz : Hid (w1.drew.heap[w.heap.size]? = some (.cells X 26 (0, 0))) := G1.out
  obtain ⟨z, hz⟩ : ∃ y, y = w1.drew := ⟨_, rfl⟩
  rw [← hz] at Bz Gz ⊢
  clear hz
  refine wpAny_of_held (S := fun y => y.heap[w.heap.size]? = some (.cells X 26 (0, 0))) _ _ _ _ ?_
  refine anyH_take 0 13 (.pointer (some ⟨w.heap.size, 0, none⟩)) Gz.out rfl (by kernel_rfl) (by kernel_rfl) (by kernel_rfl) (fun _ _ _ h => h) (by rfl) (by intro y hy; go_simp) ?_
  try simp only [Act.put, List.setIfInBounds_toArray, List.set_cons_zero, List.set_cons_succ]
  refine anyH_take 1 14 (.int .i64 t) Gz.out rfl (by kernel_rfl) (by kernel_rfl) (by kernel_rfl) (fun _ _ _ h => h) (by rfl) (by intro y hy; have c := (HX.out.at_ y hy).1; go_simp) ?_
  try simp only [Act.put, List.setIfInBounds_toArray, List.set_cons_zero, List.set_cons_succ]
  refine anyH_take 3 16 (.pointer (some ⟨w.heap.size, 1, none⟩)) Gz.out rfl (by kernel_rfl) (by kernel_rfl) (by kernel_rfl) (fun _ _ _ h => h) (by rfl) (by intro y hy; go_simp) ?_
  try simp only [Act.put, List.setIfInBounds_toArray, List.set_cons_zero, List.set_cons_succ]
  refine anyH_take 4 17 (.agg A) Gz.out rfl (by kernel_rfl) (by kernel_rfl) (by kernel_rfl) (fun _ _ _ h => h) (by rfl) (fun y hy => exec_arr _ _ w.heap.size 1 A _ rfl (HX.out.at_ y hy).2.2.2 Try.underlying23 rfl (row_size Try.sizeSum HA2)) ?_
  try simp only [Act.put, List.setIfInBounds_toArray, List.set_cons_zero, List.set_cons_succ]
  refine anyH_one 2 (by kernel_rfl) ?_
  refine wpOp_step rfl (fun Kc hKc => ?_)
  go_simp
  refine (HI1.out _).mono ?_
  rintro e2 w2 ⟨p2, c2, rfl, HO2, HB2, HL2⟩
  have B2 : Hid (Below w.heap.size w w2) := Bz.out.trans (HL2.out.mono Bz.out.size)
  have G2 : Hid (w2.heap[w.heap.size]? = some (.cells X 26 (0, 0))) := (HL2.out.block _ (lt_of_block Gz.out)).trans Gz.out
  dsimp only
  refine hKc _ _ ⟨G2.out, ?_⟩
  clear hKc Kc
  try simp only [Act.put, List.setIfInBounds_toArray, List.set_cons_zero, List.set_cons_succ]
  refine anyH_one 5 (by kernel_rfl) ?_
  refine wpOp_step rfl (fun Kc hKc => ?_)
  go_simp
  refine (HS1.out _ _ _ HB2.out).mono ?_
  rintro e3 w3 ⟨p3, c3, rfl, HO3, HB3, HL3⟩
  have B3 : Hid (Below w.heap.size w w3) := B2.out.trans (HL3.out.mono B2.out.size)
  have G3 : Hid (w3.heap[w.heap.size]? = some (.cells X 26 (0, 0))) := (HL3.out.block _ (lt_of_block G2.out)).trans G2.out
  dsimp only
  refine hKc _ _ ⟨G3.out, ?_⟩
  clear hKc Kc
  try simp only [Act.put, List.setIfInBounds_toArray, List.set_cons_zero, List.set_cons_succ]
  refine anyH_take 6 5 (.slice p3 40 c3) G3.out rfl (by kernel_rfl) (by kernel_rfl) (by kernel_rfl) (fun _ _ _ h => h) (by rfl) (by intro y hy; go_simp) ?_
  try simp only [Act.put, List.setIfInBounds_toArray, List.set_cons_zero, List.set_cons_succ]
  refine wpAnyH_done (by kernel_rfl) ?_ _
  clear HO2 HB2 HL2 G2 B2 HL3 HO3 Gz Bz HI1 HS1
  go_upto_region 5 with (fail)
  refine wp_region_any (by kernel_rfl) ?_
  change wpAny _ _ _ _ _ _ _ (World.drew _)
  have Bz : Hid (Below w.heap.size w w3.drew) := B3.out.drew
  have Gz : Hid (w3.drew.heap[w.heap.size]? = some (.cells X 26 (0, 0))) := G3.out
  have HBz : Hid (Bs w3.drew p3 c3 (Pk.e8 t 8 ++ P)) := HB3.out.drew
  obtain ⟨z, hz⟩ : ∃ y, y = w3.drew := ⟨_, rfl⟩
  rw [← hz] at Bz Gz HBz ⊢
  clear hz
  refine wpAny_of_held (S := fun y => y.heap[w.heap.size]? = some (.cells X 26 (0, 0))) _ _ _ _ ?_
  refine anyH_take 0 19 (.slice p3 40 c3) Gz.out rfl (by kernel_rfl) (by kernel_rfl) (by kernel_rfl) (fun _ _ _ h => h) (by rfl) (by intro y hy; go_simp) ?_
  try simp only [Act.put, List.setIfInBounds_toArray, List.set_cons_zero, List.set_cons_succ]
  refine anyH_take 1 20 (.pointer (some ⟨w.heap.size, 33, none⟩)) Gz.out rfl (by kernel_rfl) (by kernel_rfl) (by kernel_rfl) (fun _ _ _ h => h) (by rfl) (by intro y hy; go_simp) ?_
  try simp only [Act.put, List.setIfInBounds_toArray, List.set_cons_zero, List.set_cons_succ]
  refine anyH_take 2 21 (.int .i64 n) Gz.out rfl (by kernel_rfl) (by kernel_rfl) (by kernel_rfl) (fun _ _ _ h => h) (by rfl) (by intro y hy; have c := (HX.out.at_ y hy).2.1; go_simp) ?_
  try simp only [Act.put, List.setIfInBounds_toArray, List.set_cons_zero, List.set_cons_succ]
  refine anyH_take 4 23 (.pointer (some ⟨w.heap.size, 34, none⟩)) Gz.out rfl (by kernel_rfl) (by kernel_rfl) (by kernel_rfl) (fun _ _ _ h => h) (by rfl) (by intro y hy; go_simp) ?_
  try simp only [Act.put, List.setIfInBounds_toArray, List.set_cons_zero, List.set_cons_succ]
  refine anyH_take 5 24 (.slice p m c) Gz.out rfl (by kernel_rfl) (by kernel_rfl) (by kernel_rfl) (fun _ _ _ h => h) (by rfl) (by intro y hy; have c := (HX.out.at_ y hy).2.2.1; go_simp) ?_
  try simp only [Act.put, List.setIfInBounds_toArray, List.set_cons_zero, List.set_cons_succ]
  refine anyH_take 6 25 (.int .i64 (m : Nat)) Gz.out rfl (by kernel_rfl) (by kernel_rfl) (by kernel_rfl) (fun _ _ _ h => h) (by rfl) (by intro y hy; go_simp) ?_
  try simp only [Act.put, List.setIfInBounds_toArray, List.set_cons_zero, List.set_cons_succ]
  refine anyH_one 3 (by kernel_rfl) ?_
  refine wpOp_step rfl (fun Kc hKc => ?_)
  go_simp
  refine (HI2.out _ _ _ HBz.out).mono ?_
  rintro e4 w4 ⟨p4, c4, rfl, HO4, HB4, HL4⟩
  have B4 : Hid (Below w.heap.size w w4) := Bz.out.trans (HL4.out.mono Bz.out.size)
  have G4 : Hid (w4.heap[w.heap.size]? = some (.cells X 26 (0, 0))) := (HL4.out.block _ (lt_of_block Gz.out)).trans Gz.out
  dsimp only
  refine hKc _ _ ⟨G4.out, ?_⟩
  clear hKc Kc
  try simp only [Act.put, List.setIfInBounds_toArray, List.set_cons_zero, List.set_cons_succ]
  refine anyH_one 7 (by kernel_rfl) ?_
  refine wpOp_step rfl (fun Kc hKc => ?_)
  go_simp
  refine (HI3.out _ _ _ HB4.out).mono ?_
  rintro e5 w5 ⟨p5, c5, rfl, HO5, HB5, HL5⟩
  have B5 : Hid (Below w.heap.size w w5) := B4.out.trans (HL5.out.mono B4.out.size)
  have G5 : Hid (w5.heap[w.heap.size]? = some (.cells X 26 (0, 0))) := (HL5.out.block _ (lt_of_block G4.out)).trans G4.out
  dsimp only
  refine hKc _ _ ⟨G5.out, ?_⟩
  clear hKc Kc
  try simp only [Act.put, List.setIfInBounds_toArray, List.set_cons_zero, List.set_cons_succ]
  refine anyH_take 8 5 (.slice p5 56 c5) G5.out rfl (by kernel_rfl) (by kernel_rfl) (by kernel_rfl) (fun _ _ _ h => h) (by rfl) (by intro y hy; go_simp) ?_
  try simp only [Act.put, List.setIfInBounds_toArray, List.set_cons_zero, List.set_cons_succ]
  refine wpAnyH_done (by kernel_rfl) ?_ _
  have HOX : Hid (w5.ownsRow w.heap.size 5 1 (.slice p5 56 c5) 56 (U8s (H0 ++ Bt.bo (L.take 0)))) := own_base HO5.out B4.out.size
  have HE5 : Hid (Es w5 p c L) := HE.out.old B5.out
  have HLT5 : Hid (w.heap.size < w5.heap.size) := lt_of_block G5.out
  clear HO4 HB4 HL4 G4 B4 HL5 HO5 Gz Bz HBz HI2 HI3 HB3 G3 B3 G1 B1 HE
  obtain ⟨_, c33, c34, _⟩ := HX.out.at_ _ G5.out
  go_wp2
  go_loopw [5, 30] (fun v5 v30 wr => ∃ (k : Nat) (q : Option Addr) (d N : Nat), k ≤ m ∧ v30 = .int .i64 k ∧ N = 56 + 56 * k ∧ v5 = .slice q N d ∧ Hid (wr.ownsRow w.heap.size 5 1 (.slice q N d) N (U8s (H0 ++ Bt.bo (L.take k)))) ∧ Hid (Bs wr q d (H0 ++ Bt.bo (L.take k))) ∧ Hid (Below w.heap.size w wr) ∧ Hid (Below w5.heap.size w5 wr)) (fun _ v30 _ => m - (intOf v30).toNat)
  case atStart => exact ⟨0, p5, c5, 56, by omega, rfl, rfl, rfl, HOX.out, HB5.out, B5.out, Below.refl _ _⟩
  case round =>
    clear HOX HB5 B5 G5 c33 c34
    obtain ⟨k, q, d, N, hk, rfl, hN, rfl, HO, HB, HL, HK⟩ := hrel
    by_cases hlt : k < m
    · obtain ⟨ab, ao, hpp, _⟩ := HE5.out.at_ (by rw [HM.out]; omega)
      subst hpp
      have HEr : Hid (Es wr (some ⟨ab, ao, none⟩) c L) := HE5.out.old HK.out
      have HRG : Hid (wr.rangeAt ab (ao + k * 35) (EnA (L.getD k Bt.en0)).toList) := HEr.out.rng (by rw [HM.out]; exact hlt)
      have HOK : Hid ((L.getD k Bt.en0).ok) := HE5.out.getD k
      have HLN := Lib.hid (HLP.out k hk)
      have HSK := Lib.hid (HSN.out k hlt)
      generalize L.getD k Bt.en0 = x at *
      have HXI : Hid ((Try.prog.info? 50).map (·.size) = some (EnA x).size) := en_info HOK.out
      have HXS2 : Hid ((EnA x).size = 35) := enA_size HOK.out
      have HX1 : Hid ((EnA x).all (·.oneCell') = true) := enA_one x
      obtain ⟨U, hU, hU2, _⟩ := a32_agg x.u HOK.out.2.2.2.1
      have HU := Lib.hid hU
      have HU2 := Lib.hid hU2
      have hi0 : 0 ≤ (k : Int) := by omega
      have hi1 : (k : Int) < (m : Int) := by omega
      have HNL : Hid (N ≤ 1000) := by show _ ≤ _; omega
      rw [← hN] at HLN
      have HNN := Lib.hid hN
      clear hU hU2 HEr hN
      obtain ⟨N1, hN1⟩ : ∃ N1, N + 8 = N1 := ⟨_, rfl⟩
      obtain ⟨N2, hN2⟩ : ∃ N2, N1 + 8 = N2 := ⟨_, rfl⟩
      obtain ⟨N3, hN3⟩ : ∃ N3, N2 + 8 = N3 := ⟨_, rfl⟩
      obtain ⟨N4, hN4⟩ : ∃ N4, N3 + 32 = N4 := ⟨_, rfl⟩
      generalize H0 ++ Bt.bo (L.take k) = Q0 at *
      have HJ1 : Hid (∀ y q d, Bs y q d Q0 → Calls Try.prog 31 #[.slice q N d, .int .i64 x.k] y (RowOf (Q0 ++ Pk.e8 x.k 8) N1 y)) := fun y q d hy => int_any Q0 x.k q N d N1 HLN.out hN1 (by have := HNL.out; omega) y hy
      have HJ2 : Hid (∀ y q d, Bs y q d (Q0 ++ Pk.e8 x.k 8) → Calls Try.prog 31 #[.slice q N1 d, .int .i64 x.b] y (RowOf (Q0 ++ Pk.e8 x.k 8 ++ Pk.e8 x.b 8) N2 y)) := fun y q d hy => int_any _ x.b q N1 d N2 (by rw [List.length_append, Pk.e8_len, HLN.out, hN1]) hN2 (by have := HNL.out; omega) y hy
      have HJ3 : Hid (∀ y q d, Bs y q d (Q0 ++ Pk.e8 x.k 8 ++ Pk.e8 x.b 8) → Calls Try.prog 31 #[.slice q N2 d, .int .i64 x.s] y (RowOf (Q0 ++ Pk.e8 x.k 8 ++ Pk.e8 x.b 8 ++ Pk.e8 x.s 8) N3 y)) := fun y q d hy => int_any _ x.s q N2 d N3 (by rw [List.length_append, List.length_append, Pk.e8_len, Pk.e8_len, HLN.out]; omega) hN3 (by have := HNL.out; omega) y hy
      have HJ4 : Hid (∀ y q d, Bs y q d (Q0 ++ Pk.e8 x.k 8 ++ Pk.e8 x.b 8 ++ Pk.e8 x.s 8) → Calls Try.prog 30 #[.slice q N3 d, .agg U] y (RowOf (H0 ++ Bt.bo (L.take (k + 1))) N4 y)) := fun y q d hy => by
        have h := sum_any _ x.u HOK.out.2.2.2.1 HOK.out.2.2.2.2 q N3 d N4 (by rw [List.length_append, List.length_append, List.length_append, Pk.e8_len, Pk.e8_len, Pk.e8_len, HLN.out]; omega) hN4 (by have := HNL.out; omega) y hy
        rw [HSK.out, HU.out] at h
        exact h
      have HNE : Hid (N4 = 56 + 56 * (k + 1)) := by have := HNN.out; show _ = _; omega
      clear hN1 hN2 hN3 hN4 HSK HLN HNL HNN HSN HLP
      go_upto_region 9 with (first
        | ((with_reducible refine rng_load _ _ _ _ _ _ ?_ HRG.out Try.underlying50 ?_ HXI.out ?_); (exact rfl); (exact rfl))
        | ((with_reducible refine row_store _ _ _ _ _ _ _ ?_ ?_ (heap_alloc_new _ _) HXI.out ?_ HX1.out ?_); (exact rfl); (exact rfl); (rw [HXS2.out]; rfl); intro w6 G6 ch6))
      have K6 : Hid (Below wr.heap.size wr w6) := ch6.below ((Below.refl _ wr).alloc (Nat.le_refl _) _) (Nat.le_refl _)
      clear ch6
      refine wp_region_any (by kernel_rfl) ?_
      change wpAny _ _ _ _ _ _ _ (World.drew _)
      have Kz : Hid (Below wr.heap.size wr w6.drew) := K6.out.drew
      have Ez : Hid (w6.drew.heap[wr.heap.size]? = some (.cells (EnA x) 50 (0, 0))) := G6.out
      have Qz : Hid (Bs w6.drew q d Q0) := (HB.out.old K6.out).drew
      obtain ⟨z, hz⟩ : ∃ y, y = w6.drew := ⟨_, rfl⟩
      rw [← hz] at Kz Ez Qz ⊢
      clear hz
      refine wpAny_of_held (S := fun y => y.heap[wr.heap.size]? = some (.cells (EnA x) 50 (0, 0))) _ _ _ _ ?_
      refine anyH_take 0 34 (.slice q N d) Ez.out rfl (by kernel_rfl) (by kernel_rfl) (by kernel_rfl) (fun _ _ _ h => h) (by rfl) (by intro y hy; go_simp) ?_
      try simp only [Act.put, List.setIfInBounds_toArray, List.set_cons_zero, List.set_cons_succ]
      refine anyH_take 1 35 (.pointer (some ⟨wr.heap.size, 0, none⟩)) Ez.out rfl (by kernel_rfl) (by kernel_rfl) (by kernel_rfl) (fun _ _ _ h => h) (by rfl) (by intro y hy; go_simp) ?_
      try simp only [Act.put, List.setIfInBounds_toArray, List.set_cons_zero, List.set_cons_succ]
      refine anyH_take 2 36 (.int .i64 x.k) Ez.out rfl (by kernel_rfl) (by kernel_rfl) (by kernel_rfl) (fun _ _ _ h => h) (by rfl) (by intro y hy; have c := (en_at (box_rng hy)).ck; go_simp) ?_
      try simp only [Act.put, List.setIfInBounds_toArray, List.set_cons_zero, List.set_cons_succ]
      refine anyH_take 4 38 (.pointer (some ⟨wr.heap.size, 1, none⟩)) Ez.out rfl (by kernel_rfl) (by kernel_rfl) (by kernel_rfl) (fun _ _ _ h => h) (by rfl) (by intro y hy; go_simp) ?_
      try simp only [Act.put, List.setIfInBounds_toArray, List.set_cons_zero, List.set_cons_succ]
      refine anyH_take 5 39 (.int .i64 x.b) Ez.out rfl (by kernel_rfl) (by kernel_rfl) (by kernel_rfl) (fun _ _ _ h => h) (by rfl) (by intro y hy; have c := (en_at (box_rng hy)).cb; rw [Nat.zero_add] at c; go_simp) ?_
      try simp only [Act.put, List.setIfInBounds_toArray, List.set_cons_zero, List.set_cons_succ]
      refine anyH_take 7 41 (.pointer (some ⟨wr.heap.size, 2, none⟩)) Ez.out rfl (by kernel_rfl) (by kernel_rfl) (by kernel_rfl) (fun _ _ _ h => h) (by rfl) (by intro y hy; go_simp) ?_
      try simp only [Act.put, List.setIfInBounds_toArray, List.set_cons_zero, List.set_cons_succ]
      refine anyH_take 8 42 (.int .i64 x.s) Ez.out rfl (by kernel_rfl) (by kernel_rfl) (by kernel_rfl) (fun _ _ _ h => h) (by rfl) (by intro y hy; have c := (en_at (box_rng hy)).cs; rw [Nat.zero_add] at c; go_simp) ?_
      try simp only [Act.put, List.setIfInBounds_toArray, List.set_cons_zero, List.set_cons_succ]
      refine anyH_one 3 (by kernel_rfl) ?_
      refine wpOp_step rfl (fun Kc hKc => ?_)
      go_simp
      refine (HJ1.out _ _ _ Qz.out).mono ?_
      rintro e7 w7 ⟨p7, c7, rfl, HO7, HB7, HL7⟩
      have K7 : Hid (Below wr.heap.size wr w7) := Kz.out.trans (HL7.out.mono Kz.out.size)
      have E7 : Hid (w7.heap[wr.heap.size]? = some (.cells (EnA x) 50 (0, 0))) := (HL7.out.block _ (lt_of_block Ez.out)).trans Ez.out
      dsimp only
      refine hKc _ _ ⟨E7.out, ?_⟩
      clear hKc Kc
      try simp only [Act.put, List.setIfInBounds_toArray, List.set_cons_zero, List.set_cons_succ]
      refine anyH_one 6 (by kernel_rfl) ?_
      refine wpOp_step rfl (fun Kc hKc => ?_)
      go_simp
      refine (HJ2.out _ _ _ HB7.out).mono ?_
      rintro e8 w8 ⟨p8, c8, rfl, HO8, HB8, HL8⟩
      have K8 : Hid (Below wr.heap.size wr w8) := K7.out.trans (HL8.out.mono K7.out.size)
      have E8 : Hid (w8.heap[wr.heap.size]? = some (.cells (EnA x) 50 (0, 0))) := (HL8.out.block _ (lt_of_block E7.out)).trans E7.out
      dsimp only
      refine hKc _ _ ⟨E8.out, ?_⟩
      clear hKc Kc
      try simp only [Act.put, List.setIfInBounds_toArray, List.set_cons_zero, List.set_cons_succ]
      refine anyH_one 9 (by kernel_rfl) ?_
      refine wpOp_step rfl (fun Kc hKc => ?_)
      go_simp
      refine (HJ3.out _ _ _ HB8.out).mono ?_
      rintro e9 w9 ⟨p9, c9, rfl, HO9, HB9, HL9⟩
      have K9 : Hid (Below wr.heap.size wr w9) := K8.out.trans (HL9.out.mono K8.out.size)
      have E9 : Hid (w9.heap[wr.heap.size]? = some (.cells (EnA x) 50 (0, 0))) := (HL9.out.block _ (lt_of_block E8.out)).trans E8.out
      dsimp only
      refine hKc _ _ ⟨E9.out, ?_⟩
      clear hKc Kc
      try simp only [Act.put, List.setIfInBounds_toArray, List.set_cons_zero, List.set_cons_succ]
      refine anyH_take 10 5 (.slice p9 N3 c9) E9.out rfl (by kernel_rfl) (by kernel_rfl) (by kernel_rfl) (fun _ _ _ h => h) (by rfl) (by intro y hy; go_simp) ?_
      try simp only [Act.put, List.setIfInBounds_toArray, List.set_cons_zero, List.set_cons_succ]
      refine wpAnyH_done (by kernel_rfl) ?_ _
      clear HO7 HB7 HL7 HO8 HB8 HL8 HO9 HL9 E7 E8 K7 K8 Kz Ez Qz
      have RU : Hid (w9.rangeAt wr.heap.size 3 U.toList) := by have h := (en_at (box_rng E9.out)).cu U HU.out; rw [Nat.zero_add] at h; exact h
      go_wp2_with (first
        | ((with_reducible refine rng_load _ _ _ _ _ _ ?_ RU.out Try.underlying23 ?_ (row_size Try.sizeSum HU2) ?_); (exact rfl); (exact rfl))
        | (go_at_call 30; refine (HJ4.out _ _ _ HB9.out).mono ?_; rintro e10 w10 ⟨p10, c10, rfl, HO10, HB10, HL10⟩))
      have K10 : Hid (Below wr.heap.size wr w10) := K9.out.trans (HL10.out.mono K9.out.size)
      exact ⟨⟨k + 1, p10, c10, N4, by omega, by go_num, HNE.out, rfl, own_base HO10.out (HL.out.trans (K9.out.mono HL.out.size)).size, HB10.out, HL.out.trans (K10.out.mono HL.out.size), HK.out.trans (K10.out.mono HK.out.size)⟩, by simp [intOf]; omega⟩
    · obtain rfl : k = m := by omega
      subst hN
      clear hlt HLP HSN
      go_wp2
      refine bodyPost_ret (results_tmp2 rfl _ _ _) rfl ⟨q, d, rfl, HO.out, HB.out, HL.out⟩
end Go.Proofs.Ytkgefogkdmbciaa

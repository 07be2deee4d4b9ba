/-
  The law SuperKnown walked.
-/
import Derived.Test.YtpfghjnhoafcmaaSpJ
import Derived.Test.YtpfghjnhoafcmaaSpH
namespace Go.Proofs.Ytpfghjnhoafcmaa
open Go.RowKit

namespace Sp
def one : G := ⟨1, 1, 1⟩
def big : G := ⟨32, 64, 64⟩
theorem one_ck : ck one = 15 := by unfold ck one Ge.ck; rw [if_neg (by decide)]
theorem zero_ck : ck ⟨0, 0, 0⟩ = 15 := by unfold ck Ge.ck; rw [if_neg (by decide)]
theorem ok_of {g : G} (ha : -100 ≤ g.a ∧ g.a ≤ 100) (hb : -100 ≤ g.b ∧ g.b ≤ 100) (hc : -100 ≤ g.c ∧ g.c ≤ 100) : Ok g :=
  ⟨by unfold Pk.In64; omega, by unfold Pk.In64; omega, by unfold Pk.In64; omega⟩
theorem pt_zero : pt ⟨0, 0, 0⟩ = List.replicate 24 0 := by
  have h : Pk.e8 0 8 = List.replicate 8 0 := by kernel_rfl
  unfold pt p2 p1
  dsimp only
  rw [h]
  rfl
theorem nul : er (List.replicate 24 0) = 15 ∧ gt (List.replicate 24 0) = zero := by
  have h1 : er (List.replicate 24 0) = 15 := by
    rw [← pt_zero, er_is (pt_len _), back_gc (ok_of (by decide) (by decide) (by decide)), zero_ck]
  exact ⟨h1, gt_none (by rw [h1]; decide)⟩
theorem cut : er ((pt small).take 23) = 4 ∧ gt ((pt small).take 23) = zero := by
  have h1 : er ((pt small).take 23) = 4 := er_short (by rw [List.length_take, pt_len]; omega)
  exact ⟨h1, gt_none (by rw [h1]; decide)⟩
theorem long : er (pt small ++ [0]) = 3 ∧ gt (pt small ++ [0]) = zero := by
  have h1 : er (pt small ++ [0]) = 3 := er_long (by rw [List.length_append, pt_len]; decide)
  exact ⟨h1, gt_none (by rw [h1]; decide)⟩
end Sp
section
variable {P : Program} {md : Region.Mode} {ops : Array Oper} {Q : Exit → Act → World → Prop} {S : World → Prop}
theorem anyH_of (rs : List Nat) {fuel : Nat} {listed : Array Bool} {a : Act} {w : World} (hr : Region.ready md ops listed = rs) (hne : rs ≠ [])
    (h : ∀ j ∈ rs, wpOp P ops Q j (fun a' w' => S w' ∧ wpAnyH P md ops Q S fuel (listed.setIfInBounds j true) a' w') a w) : wpAnyH P md ops Q S (fuel + 1) listed a w :=
  ⟨fun h0 => absurd (hr.symm.trans h0) hne, fun j hj => h j (hr ▸ hj)⟩
end
/-- Geometries in a row of their own. -/
theorem gs_row {y : World} {b : Nat} {L : List Sp.G} (h : y.heap[b]? = some (.cells (fl (L.map GA)).toArray 54 (0, 0))) (hok : ∀ x ∈ L, Sp.Ok x) (hl : L.length ≤ 100) : Gs y (some ⟨b, 0, none⟩) L := by
  refine ⟨hok, fun h0 => ⟨b, 0, rfl, fun i hi j u hu => ?_⟩, by omega⟩
  have hj : j < 3 := (List.getElem?_eq_some_iff.1 hu).1
  have e := fl_at (s := 3) (L := L.map GA) (fun A hA => by obtain ⟨g, _, rfl⟩ := List.mem_map.1 hA; rfl) i j (by rw [List.length_map]; exact hi) hj
  have e2 : (L.map GA).getD i #[] = GA (L.getD i Sp.zero) := by simp [List.getD_eq_getElem?_getD, hi]
  rw [e2, hu] at e
  rw [cell_of_row y b _ _ _ _ h, Nat.zero_add]
  simpa using e
set_option maxHeartbeats 8000000 in
set_option maxRecDepth 100000 in
theorem kn_any (w : World) : Calls Try.prog 6 #[] w (YesSay w) := by
  have HKN : Hid (∀ y, Calls Try.prog 18 #[] y (YesSay y)) := fun y => sknown_any y
  have HSM : Hid (∀ y, Calls Try.prog 29 #[] y (SSm (GA Sp.small) y)) := fun y => (small_any y).mono fun _ _ q => ⟨q.1, q.2⟩
  have HP1 : Hid (∀ y, Calls Try.prog 20 #[.agg (GA Sp.small)] y (SPutYes (Sp.pt Sp.small) y)) := fun y => sput_yes Sp.small Sp.small_ck y
  have HP2 : Hid (∀ y, Calls Try.prog 20 #[.agg #[.int .i64 1, .int .i64 1, .int .i64 1]] y (SPutNo y)) := fun y => sput_no Sp.one Sp.one_ck y
  obtain ⟨Z, hZ⟩ : ∃ Z, Hid (GA ⟨0, 0, 0⟩ = Z) := ⟨_, rfl⟩
  have HZS : Hid (Z.size = 3) := by show _ = _; rw [← hZ.out]; rfl
  have HZ1 : Hid (Z.all (·.oneCell') = true) := by show _ = _; rw [← hZ.out]; simp [GA, Value.oneCell']
  have hz := (zero_of_info Try.zeroGeo).1
  have HBT := Lib.hid Try.builtGeo
  rw [hZ.out] at hz HBT
  have hzn : ¬ Z = #[] := fun h => by have := HZS.out; rw [h] at this; simp at this
  have hsz := row_size Try.sizeGeo HZS
  have HZV : Hid (GV Sp.zero = .agg Z) := by show _ = _; rw [← hZ.out, Sp.zero_is]; rfl
  clear hZ
  have hgot : ∀ (L : List Int) (n : Nat) (r : Int) (g : Sp.G), L.length = n → n ≤ 1000 → Sp.er L = r → Sp.gt L = g → ∀ y q d, Bs y q d L → Calls Try.prog 22 #[.slice q n d] y (GotS (GA g) r y) := fun L n r g hn hl hr hg y q d hy => by
    have h := sget_any L q n d hn (by omega) y hy
    unfold SGot at h
    rw [hr, hg] at h
    exact h
  have HZ3 : Hid (GA Sp.zero = Z) := by have h := HZV.out; unfold GV at h; show _ = _; injection h
  have HG1 : Hid (∀ y q d, Bs y q d ((Sp.pt Sp.small).take 23) → Calls Try.prog 22 #[.slice q 23 d] y (GotS Z 4 y)) := by
    have h := hgot ((Sp.pt Sp.small).take 23) 23 4 Sp.zero (by rw [List.length_take, Sp.pt_len]; rfl) (by omega) Sp.cut.1 Sp.cut.2
    rw [HZ3.out] at h
    exact h
  have HG2 : Hid (∀ y q d, Bs y q d (Sp.pt Sp.small ++ [0]) → Calls Try.prog 22 #[.slice q 25 d] y (GotS Z 3 y)) := by
    have h := hgot (Sp.pt Sp.small ++ [0]) 25 3 Sp.zero (by rw [List.length_append, Sp.pt_len]; rfl) (by omega) Sp.long.1 Sp.long.2
    rw [HZ3.out] at h
    exact h
  have HG3 : Hid (∀ y q d, Bs y q d (List.replicate 24 0) → Calls Try.prog 22 #[.slice q 24 d] y (GotS Z 15 y)) := by
    have h := hgot (List.replicate 24 0) 24 15 Sp.zero (by rw [List.length_replicate]) (by omega) Sp.nul.1 Sp.nul.2
    rw [HZ3.out] at h
    exact h
  have hbk := Sp.back Sp.small_ok Sp.small_ck
  have HG4 : Hid (∀ y q d, Bs y q d (Sp.pt Sp.small) → Calls Try.prog 22 #[.slice q 24 d] y (GotS (GA Sp.small) 0 y)) := hgot (Sp.pt Sp.small) 24 0 Sp.small (Sp.pt_len _) (by omega) hbk.1 hbk.2
  have HCP : Hid (∀ y q d, Bs y q d (Sp.pt Sp.small) → Calls Try.prog 28 #[.slice q 24 d] y fun e w' => ∃ v, e = .returned v ∧ w'.ownsRow y.heap.size 5 1 v 24 (U8s (Sp.pt Sp.small)) ∧ Below y.heap.size y w') := fun y q d hy => copybytes_any (Sp.pt Sp.small) q 24 d (Sp.pt_len _) (by rw [Sp.pt_len]; omega) y hy.bat
  have HBB : Hid (Sha.Byt (Sp.pt Sp.small ++ [0])) := Sha.byt_append (Sp.pt_byt _) (fun x hx => by rw [List.mem_singleton] at hx; omega)
  have HBN : Hid (Sha.Byt (List.replicate 24 0)) := byt_rep 24 0 (by omega)
  have HF1 : Hid (∀ y b, y.heap[b]? = some (.cells #[.int .i64 18, .int .i64 32, .int .i64 4, .int .i64 32, .int .i64 64, .int .i64 64] 54 (0, 0)) → Calls Try.prog 5 #[.slice (some ⟨b, 0, none⟩) 2 2, .slice none 0 0, .slice none 0 0, .int .i64 0] y (YesSay y)) := fun y b hb =>
    found_any [Sp.small, Sp.big] _ 2 2 rfl [] none 0 0 rfl [] none 0 0 rfl 0 y (gs_row hb (fun x hx => by
      simp only [List.mem_cons, List.not_mem_nil, or_false] at hx
      rcases hx with rfl | rfl
      · exact Sp.small_ok
      · exact Sp.ok_of (by decide) (by decide) (by decide)) (by decide)) (fun h0 => by simp at h0) (bs_none y)
  have HF2 : Hid (∀ y b b2 b3, y.heap[b]? = some (.cells #[.int .i64 18, .int .i64 32, .int .i64 4] 54 (0, 0)) → y.heap[b2]? = some (.cells #[.int .i64 (-1)] 3 (0, 0)) → y.heap[b3]? = some (.cells #[.int .u8 1] 5 (0, 0)) → Calls Try.prog 5 #[.slice (some ⟨b, 0, none⟩) 1 1, .slice (some ⟨b2, 0, none⟩) 1 1, .slice (some ⟨b3, 0, none⟩) 1 1, .int .i64 1] y (YesSay y)) := fun y b b2 b3 hb hb2 hb3 =>
    found_any [Sp.small] _ 1 1 rfl [-1] _ 1 1 rfl [1] _ 1 1 rfl 1 y (gs_row hb (fun x hx => by rw [List.mem_singleton] at hx; rw [hx]; exact Sp.small_ok) (by decide)) (fun _ => ⟨b2, 0, rfl, fun j hj => by
      have hj0 : j = 0 := by simpa using hj
      subst hj0
      rw [cell_of_row y b2 _ _ _ _ hb2]
      rfl⟩) ⟨bat_row hb3 (fun x hx => by rw [List.mem_singleton] at hx; omega), ⟨by decide, by decide⟩, fun h => by cases h⟩
  have heq : Hid (∀ y, (Op.equalIn 10000 54 (.agg (GA Sp.small)) (.agg (GA Sp.small))).run Try.prog y = .ok true y) := fun y => by have h := geo_eq Sp.small Sp.small y; rw [decide_eq_true rfl] at h; exact h
  have HA1 : Hid ((GA Sp.small).all (·.oneCell') = true) := by show _ = _; simp [GA, Value.oneCell']
  have HAS : Hid ((GA Sp.small).size = 3) := rfl
  have HPL : Hid ((Sp.pt Sp.small).length = 24) := Sp.pt_len _
  obtain ⟨i0, hii, hz0, hz1, hz2⟩ := info_parts Try.info_u8
  generalize Sp.pt Sp.small = B at *
  clear hgot hbk HZ3
  have HA : Hid (GA Sp.small = #[.int .i64 18, .int .i64 32, .int .i64 4]) := rfl
  rw [HA.out] at HSM HP1 HG4 heq HA1 HAS
  clear HA
  go_enter Try.func6, Try.ntmps6
  have HB1x : Hid (Try.prog.built 54 [(0, .int .i64 1), (1, .int .i64 1), (2, .int .i64 1)] = some #[.int .i64 1, .int .i64 1, .int .i64 1]) := build_geo Sp.one
  go_upto_region 5 with (first
    | ((with_reducible refine row_buildN _ _ _ _ ?_ HB1x.out ?_); (exact rfl))
    | (go_at_call 29; refine (HSM.out _).mono ?_; rintro e1 w1 ⟨rfl, HB1⟩)
    | (go_at_call 20; (with_reducible refine (HP1.out _).mono ?_); rintro e2 w2 ⟨p2, c2, rfl, HO2, HS2, HB2⟩; have HC2 := Lib.hid (HB1.out.trans (HB2.out.mono HB1.out.size)))
    | (go_at_call 20; (with_reducible refine (HP2.out _).mono ?_); rintro e3 w3 ⟨rfl, HB3⟩; have HC3 := Lib.hid (HC2.out.trans (HB3.out.mono HC2.out.size)); have HS3 := Lib.hid (HS2.out.old HB3.out)))
  obtain ⟨pb, po, hpp, _⟩ := HS3.out.bat.2 (by rw [HPL.out]; omega)
  subst hpp
  have hcap := HS3.out.cap.1
  rw [HPL.out] at hcap
  have hc23 : (23 : Int) ≤ (c2 : Int) := by omega
  have hc24 : ¬ ((c2 : Int) < 23) := by omega
  clear HB1 HB2 HC2 HO2 HS2 HB3 HP1 HP2
  go_upto_region 6 with (first
    | (go_at_call 22; refine (HG1.out _ _ _ (HS3.out.take 23)).mono ?_; rintro e4 w4 ⟨rfl, HB4⟩)
    | ((with_reducible refine row_store _ _ _ _ _ _ _ ?_ ?_ (heap_alloc_new _ _) (row_size Try.sizeGeo HZS) ?_ HZ1.out ?_); (exact rfl); (exact rfl); (exact rfl); intro w5 G5 ch5))
  have K5 : Hid (Below w3.heap.size w3 w5) := ch5.below (HB4.out.alloc HB4.out.size _) HB4.out.size
  have S5 := Lib.hid (HS3.out.old K5.out)
  have C5 : Hid (Below w.heap.size w w5) := HC3.out.trans (K5.out.mono HC3.out.size)
  generalize w4.heap.size = b5 at *
  clear G5 ch5 HB4 K5 HC3 HS3 HG1
  go_upto_region 7 with (first
    | (go_at_call 28; refine (HCP.out _ _ _ S5.out).mono ?_; rintro e9 w9 ⟨v9, rfl, ho9, hb9⟩; have HO9 := Lib.hid ho9; have HL9 := Lib.hid hb9; clear ho9 hb9)
    | (at_builtin; refine wpList_append_own _ rfl _ _ 41 rfl w5.heap.size 5 i0 (.int .u8 0) 1 1 Try.underlying41 hii hz0 hz1 hz2 rfl (by decide) _ _ _ rfl (HO9.out.alloc _) ⟨w9.heap.size, 0, none⟩ 1 1 [.int .u8 0] rfl rfl (u8_cell _ _ _) (u8_one _) (by unfold maxLen; omega) (by omega) (by have := HL9.out.size; simp; omega) ?_; intro v10 w10 hown10 hgrow10 _; have HB10 : Hid (Below w5.heap.size w5 w10) := below_own HL9.out HL9.out.size HO9.out hgrow10; have HBS10 := own_bs (by rw [U8s_snoc] at hown10; exact hown10) HBB.out; obtain ⟨p10, c10, hv10, hbs10, hl10⟩ := HBS10; rw [hl10] at hv10; subst hv10; have HBS10 := Lib.hid hbs10; clear hown10 hgrow10 hbs10 hl10)
    | (go_at_call 22; refine (HG2.out _ _ _ HBS10.out).mono ?_; rintro e11 w11 ⟨rfl, HB11⟩)
    | ((with_reducible refine row_store _ _ _ _ _ _ _ ?_ ?_ (heap_alloc_new _ _) (row_size Try.sizeGeo HZS) ?_ HZ1.out ?_); (exact rfl); (exact rfl); (exact rfl); intro w12 G12 ch12))
  have K11 := Lib.hid (HB10.out.trans (HB11.out.mono HB10.out.size))
  have K12 : Hid (Below w5.heap.size w5 w12) := ch12.below (K11.out.alloc K11.out.size _) K11.out.size
  have S12 := Lib.hid (S5.out.old K12.out)
  have C12 : Hid (Below w.heap.size w w12) := C5.out.trans (K12.out.mono C5.out.size)
  generalize w11.heap.size = b12 at *
  clear K12 K11 ch12 HB11 HB10 C5 S5 HG2 HCP HO9 HL9 HBS10 G12
  have HMK : Hid (∀ (y : World) b, y.heap[b]? = some (.cells (List.replicate 24 (Value.int .u8 0)).toArray 5 (0, 0)) → Bs y (some ⟨b, 0, none⟩) 24 (List.replicate 24 0)) := fun y b hb => ⟨bat_row (l := List.replicate 24 0) (by rw [List.map_replicate]; exact hb) HBN.out, ⟨by decide, by decide⟩, fun h => by cases h⟩
  go_upto_region 8 with (first
    | ((with_reducible refine make_at _ _ _ _ (.int .u8 0) 1 24 24 ?_ ?_ Try.underlying41 Try.info_u8 rfl ?_ ?_ ?_ ?_); (exact rfl); (exact rfl); (omega); (omega); (omega); intro wm Gm Bm0 Sm0; have Bm := Lib.hid Bm0; clear Bm0 Sm0)
    | (go_at_call 22; refine (HG3.out _ _ _ (HMK.out _ _ Gm.out)).mono ?_; rintro e13 w13 ⟨rfl, HB13⟩)
    | ((with_reducible refine row_store _ _ _ _ _ _ _ ?_ ?_ (heap_alloc_new _ _) (row_size Try.sizeGeo HZS) ?_ HZ1.out ?_); (exact rfl); (exact rfl); (exact rfl); intro w14 G14 ch14))
  have K13 : Hid (Below w12.heap.size w12 w13) := Bm.out.trans (HB13.out.mono Bm.out.size)
  have K14 : Hid (Below w12.heap.size w12 w14) := ch14.below (K13.out.alloc K13.out.size _) K13.out.size
  have S14 := Lib.hid (S12.out.old K14.out)
  have C14 : Hid (Below w.heap.size w w14) := C12.out.trans (K14.out.mono C12.out.size)
  generalize w13.heap.size = b14 at *
  clear K13 K14 ch14 HB13 C12 S12 HG3 HMK G14 Gm Bm
  go_upto_region 9 with (first
    | (go_at_call 22; refine (HG4.out _ _ _ S14.out).mono ?_; rintro e15 w15 ⟨rfl, HB15⟩)
    | ((with_reducible refine row_store _ _ _ _ _ _ _ ?_ ?_ (heap_alloc_new _ _) (row_size Try.sizeGeo HAS) ?_ HA1.out ?_); (exact rfl); (exact rfl); (rw [HAS.out, HZS.out]); intro w16 G16 ch16))
  have K16 : Hid (Below w14.heap.size w14 w16) := ch16.below (HB15.out.alloc HB15.out.size _) HB15.out.size
  have BZ : Hid (Below w.heap.size w w16.drew) := (C14.out.trans (K16.out.mono C14.out.size)).drew
  have GZ : Hid (w16.drew.heap[w15.heap.size]? = some (.cells #[.int .i64 18, .int .i64 32, .int .i64 4] 54 (0, 0))) := G16.out
  clear K16 ch16 HB15 C14 S14 HG4 G16 hz hzn hsz HBT HB1x
  generalize w15.heap.size = b11 at *
  refine wp_region_any (by kernel_rfl) ?_
  change wpAny _ _ _ _ _ _ _ (World.drew _)
  obtain ⟨z, hz'⟩ : ∃ x, x = w16.drew := ⟨_, rfl⟩
  rw [← hz'] at BZ GZ ⊢
  clear hz'
  have he1 := heq.out
  have KZ : Hid (∀ y, Below z.heap.size z y → y.heap[b11]? = some (.cells #[.int .i64 18, .int .i64 32, .int .i64 4] 54 (0, 0))) := fun y hy => (hy.block _ (lt_of_block GZ.out)).trans GZ.out
  have D0 : Hid (Below z.heap.size z z) := Below.refl _ _
  refine wpAny_of_held (S := fun y => y.heap[b11]? = some (.cells #[.int .i64 18, .int .i64 32, .int .i64 4] 54 (0, 0))) _ _ _ _ ?_
  have SD := KZ.out _ D0.out
  refine anyH_take 0 58 (.int .i64 4) SD rfl (by kernel_rfl) (by kernel_rfl) (by kernel_rfl) (fun _ _ _ h => h) (by rfl) (by intro x hx; have y0 := hx; (first | exact exec_arr 54 (.tmp 11) b11 0 #[.int .i64 18, .int .i64 32, .int .i64 4] _ rfl (row_rng hx) Try.underlying54 rfl Try.sizeGeo | go_simp); try (intro h; omega)) ?_
  try simp only [Act.put, List.setIfInBounds_toArray, List.set_cons_zero, List.set_cons_succ]
  refine anyH_take 1 59 (.bool true) SD rfl (by kernel_rfl) (by kernel_rfl) (by kernel_rfl) (fun _ _ _ h => h) (by rfl) (by intro x hx; have y0 := hx; (first | exact exec_arr 54 (.tmp 11) b11 0 #[.int .i64 18, .int .i64 32, .int .i64 4] _ rfl (row_rng hx) Try.underlying54 rfl Try.sizeGeo | go_simp); try (intro h; omega)) ?_
  try simp only [Act.put, List.setIfInBounds_toArray, List.set_cons_zero, List.set_cons_succ]
  refine anyH_take 2 60 (.bool true) SD rfl (by kernel_rfl) (by kernel_rfl) (by kernel_rfl) (fun _ _ _ h => h) (by rfl) (by intro x hx; have y0 := hx; (first | exact exec_arr 54 (.tmp 11) b11 0 #[.int .i64 18, .int .i64 32, .int .i64 4] _ rfl (row_rng hx) Try.underlying54 rfl Try.sizeGeo | go_simp); try (intro h; omega)) ?_
  try simp only [Act.put, List.setIfInBounds_toArray, List.set_cons_zero, List.set_cons_succ]
  refine anyH_take 3 61 (.int .i64 3) SD rfl (by kernel_rfl) (by kernel_rfl) (by kernel_rfl) (fun _ _ _ h => h) (by rfl) (by intro x hx; have y0 := hx; (first | exact exec_arr 54 (.tmp 11) b11 0 #[.int .i64 18, .int .i64 32, .int .i64 4] _ rfl (row_rng hx) Try.underlying54 rfl Try.sizeGeo | go_simp); try (intro h; omega)) ?_
  try simp only [Act.put, List.setIfInBounds_toArray, List.set_cons_zero, List.set_cons_succ]
  refine anyH_take 4 62 (.bool true) SD rfl (by kernel_rfl) (by kernel_rfl) (by kernel_rfl) (fun _ _ _ h => h) (by rfl) (by intro x hx; have y0 := hx; (first | exact exec_arr 54 (.tmp 11) b11 0 #[.int .i64 18, .int .i64 32, .int .i64 4] _ rfl (row_rng hx) Try.underlying54 rfl Try.sizeGeo | go_simp); try (intro h; omega)) ?_
  try simp only [Act.put, List.setIfInBounds_toArray, List.set_cons_zero, List.set_cons_succ]
  refine anyH_take 5 63 (.bool true) SD rfl (by kernel_rfl) (by kernel_rfl) (by kernel_rfl) (fun _ _ _ h => h) (by rfl) (by intro x hx; have y0 := hx; (first | exact exec_arr 54 (.tmp 11) b11 0 #[.int .i64 18, .int .i64 32, .int .i64 4] _ rfl (row_rng hx) Try.underlying54 rfl Try.sizeGeo | go_simp); try (intro h; omega)) ?_
  try simp only [Act.put, List.setIfInBounds_toArray, List.set_cons_zero, List.set_cons_succ]
  refine anyH_take 6 64 (.bool true) SD rfl (by kernel_rfl) (by kernel_rfl) (by kernel_rfl) (fun _ _ _ h => h) (by rfl) (by intro x hx; have y0 := hx; (first | exact exec_arr 54 (.tmp 11) b11 0 #[.int .i64 18, .int .i64 32, .int .i64 4] _ rfl (row_rng hx) Try.underlying54 rfl Try.sizeGeo | go_simp); try (intro h; omega)) ?_
  try simp only [Act.put, List.setIfInBounds_toArray, List.set_cons_zero, List.set_cons_succ]
  refine anyH_take 7 65 (.int .i64 15) SD rfl (by kernel_rfl) (by kernel_rfl) (by kernel_rfl) (fun _ _ _ h => h) (by rfl) (by intro x hx; have y0 := hx; (first | exact exec_arr 54 (.tmp 11) b11 0 #[.int .i64 18, .int .i64 32, .int .i64 4] _ rfl (row_rng hx) Try.underlying54 rfl Try.sizeGeo | go_simp); try (intro h; omega)) ?_
  try simp only [Act.put, List.setIfInBounds_toArray, List.set_cons_zero, List.set_cons_succ]
  refine anyH_take 8 66 (.bool true) SD rfl (by kernel_rfl) (by kernel_rfl) (by kernel_rfl) (fun _ _ _ h => h) (by rfl) (by intro x hx; have y0 := hx; (first | exact exec_arr 54 (.tmp 11) b11 0 #[.int .i64 18, .int .i64 32, .int .i64 4] _ rfl (row_rng hx) Try.underlying54 rfl Try.sizeGeo | go_simp); try (intro h; omega)) ?_
  try simp only [Act.put, List.setIfInBounds_toArray, List.set_cons_zero, List.set_cons_succ]
  refine anyH_take 9 67 (.bool true) SD rfl (by kernel_rfl) (by kernel_rfl) (by kernel_rfl) (fun _ _ _ h => h) (by rfl) (by intro x hx; have y0 := hx; (first | exact exec_arr 54 (.tmp 11) b11 0 #[.int .i64 18, .int .i64 32, .int .i64 4] _ rfl (row_rng hx) Try.underlying54 rfl Try.sizeGeo | go_simp); try (intro h; omega)) ?_
  try simp only [Act.put, List.setIfInBounds_toArray, List.set_cons_zero, List.set_cons_succ]
  refine anyH_take 10 68 (.bool true) SD rfl (by kernel_rfl) (by kernel_rfl) (by kernel_rfl) (fun _ _ _ h => h) (by rfl) (by intro x hx; have y0 := hx; (first | exact exec_arr 54 (.tmp 11) b11 0 #[.int .i64 18, .int .i64 32, .int .i64 4] _ rfl (row_rng hx) Try.underlying54 rfl Try.sizeGeo | go_simp); try (intro h; omega)) ?_
  try simp only [Act.put, List.setIfInBounds_toArray, List.set_cons_zero, List.set_cons_succ]
  refine anyH_take 11 69 (.int .i64 0) SD rfl (by kernel_rfl) (by kernel_rfl) (by kernel_rfl) (fun _ _ _ h => h) (by rfl) (by intro x hx; have y0 := hx; (first | exact exec_arr 54 (.tmp 11) b11 0 #[.int .i64 18, .int .i64 32, .int .i64 4] _ rfl (row_rng hx) Try.underlying54 rfl Try.sizeGeo | go_simp); try (intro h; omega)) ?_
  try simp only [Act.put, List.setIfInBounds_toArray, List.set_cons_zero, List.set_cons_succ]
  refine anyH_take 12 70 (.bool true) SD rfl (by kernel_rfl) (by kernel_rfl) (by kernel_rfl) (fun _ _ _ h => h) (by rfl) (by intro x hx; have y0 := hx; (first | exact exec_arr 54 (.tmp 11) b11 0 #[.int .i64 18, .int .i64 32, .int .i64 4] _ rfl (row_rng hx) Try.underlying54 rfl Try.sizeGeo | go_simp); try (intro h; omega)) ?_
  try simp only [Act.put, List.setIfInBounds_toArray, List.set_cons_zero, List.set_cons_succ]
  refine anyH_take 13 71 (.bool true) SD rfl (by kernel_rfl) (by kernel_rfl) (by kernel_rfl) (fun _ _ _ h => h) (by rfl) (by intro x hx; have y0 := hx; (first | exact exec_arr 54 (.tmp 11) b11 0 #[.int .i64 18, .int .i64 32, .int .i64 4] _ rfl (row_rng hx) Try.underlying54 rfl Try.sizeGeo | go_simp); try (intro h; omega)) ?_
  try simp only [Act.put, List.setIfInBounds_toArray, List.set_cons_zero, List.set_cons_succ]
  refine anyH_take 14 72 (.bool true) SD rfl (by kernel_rfl) (by kernel_rfl) (by kernel_rfl) (fun _ _ _ h => h) (by rfl) (by intro x hx; have y0 := hx; (first | exact exec_arr 54 (.tmp 11) b11 0 #[.int .i64 18, .int .i64 32, .int .i64 4] _ rfl (row_rng hx) Try.underlying54 rfl Try.sizeGeo | go_simp); try (intro h; omega)) ?_
  try simp only [Act.put, List.setIfInBounds_toArray, List.set_cons_zero, List.set_cons_succ]
  refine anyH_take 15 73 (.agg #[.int .i64 18, .int .i64 32, .int .i64 4]) SD rfl (by kernel_rfl) (by kernel_rfl) (by kernel_rfl) (fun _ _ _ h => h) (by rfl) (by intro x hx; have y0 := hx; (first | exact exec_arr 54 (.tmp 11) b11 0 #[.int .i64 18, .int .i64 32, .int .i64 4] _ rfl (row_rng hx) Try.underlying54 rfl Try.sizeGeo | go_simp); try (intro h; omega)) ?_
  try simp only [Act.put, List.setIfInBounds_toArray, List.set_cons_zero, List.set_cons_succ]
  refine anyH_one 16 (by kernel_rfl) ?_
  refine wpOp_step rfl (fun Kc hKc => ?_)
  go_simp
  refine (HSM.out _).mono ?_
  rintro e21 z1 ⟨rfl, hb1⟩
  have D1 := Lib.hid (D0.out.trans (hb1.mono D0.out.size))
  clear hb1
  dsimp only
  refine hKc _ _ ⟨KZ.out _ D1.out, ?_⟩
  clear hKc Kc
  try simp only [Act.put, List.setIfInBounds_toArray, List.set_cons_zero, List.set_cons_succ]
  clear SD
  have SD := KZ.out _ D1.out
  refine anyH_take 17 75 (.bool true) SD rfl (by kernel_rfl) (by kernel_rfl) (by kernel_rfl) (fun _ _ _ h => h) (by rfl) (by intro x hx; have y0 := hx; (first | exact exec_arr 54 (.tmp 11) b11 0 #[.int .i64 18, .int .i64 32, .int .i64 4] _ rfl (row_rng hx) Try.underlying54 rfl Try.sizeGeo | go_simp); try (intro h; omega)) ?_
  try simp only [Act.put, List.setIfInBounds_toArray, List.set_cons_zero, List.set_cons_succ]
  refine anyH_take 18 76 (.bool true) SD rfl (by kernel_rfl) (by kernel_rfl) (by kernel_rfl) (fun _ _ _ h => h) (by rfl) (by intro x hx; have y0 := hx; (first | exact exec_arr 54 (.tmp 11) b11 0 #[.int .i64 18, .int .i64 32, .int .i64 4] _ rfl (row_rng hx) Try.underlying54 rfl Try.sizeGeo | go_simp); try (intro h; omega)) ?_
  try simp only [Act.put, List.setIfInBounds_toArray, List.set_cons_zero, List.set_cons_succ]
  refine anyH_take 19 77 (.bool true) SD rfl (by kernel_rfl) (by kernel_rfl) (by kernel_rfl) (fun _ _ _ h => h) (by rfl) (by intro x hx; have y0 := hx; (first | exact exec_arr 54 (.tmp 11) b11 0 #[.int .i64 18, .int .i64 32, .int .i64 4] _ rfl (row_rng hx) Try.underlying54 rfl Try.sizeGeo | go_simp); try (intro h; omega)) ?_
  try simp only [Act.put, List.setIfInBounds_toArray, List.set_cons_zero, List.set_cons_succ]
  refine anyH_take 21 79 (.agg #[.int .i64 32, .int .i64 64, .int .i64 64]) SD rfl (by kernel_rfl) (by kernel_rfl) (by kernel_rfl) (fun _ _ _ h => h) (by rfl) (by intro x hx; have y0 := hx; (first | exact exec_arr 54 (.tmp 11) b11 0 #[.int .i64 18, .int .i64 32, .int .i64 4] _ rfl (row_rng hx) Try.underlying54 rfl Try.sizeGeo | go_simp); try (intro h; omega)) ?_
  try simp only [Act.put, List.setIfInBounds_toArray, List.set_cons_zero, List.set_cons_succ]
  refine anyH_one 20 (by kernel_rfl) ?_
  refine wpOp_step rfl (fun Kc hKc => ?_)
  go_simp
  refine (HSM.out _).mono ?_
  rintro e22 z2 ⟨rfl, hb2⟩
  have D2 := Lib.hid (D1.out.trans (hb2.mono D1.out.size))
  clear hb2
  dsimp only
  refine hKc _ _ ⟨KZ.out _ D2.out, ?_⟩
  clear hKc Kc
  try simp only [Act.put, List.setIfInBounds_toArray, List.set_cons_zero, List.set_cons_succ]
  clear SD
  have SD := KZ.out _ D2.out
  refine anyH_one 22 (by kernel_rfl) ?_
  refine wpOp_step rfl (fun Kc hKc => ?_)
  go_simp
  have D3 : Hid (Below z.heap.size z (z2.alloc (.cells #[.int .i64 18, .int .i64 32, .int .i64 4, .int .i64 32, .int .i64 64, .int .i64 64] 54))) := D2.out.alloc D2.out.size _
  refine hKc _ _ ⟨KZ.out _ D3.out, ?_⟩
  clear hKc Kc
  try simp only [Act.put, List.setIfInBounds_toArray, List.set_cons_zero, List.set_cons_succ]
  have GF : Hid ((z2.alloc (.cells #[.int .i64 18, .int .i64 32, .int .i64 4, .int .i64 32, .int .i64 64, .int .i64 64] 54)).heap[z2.heap.size]? = some (.cells #[.int .i64 18, .int .i64 32, .int .i64 4, .int .i64 32, .int .i64 64, .int .i64 64] 54 (0, 0))) := heap_alloc_new _ _
  obtain ⟨z3, hz3⟩ : ∃ y, y = z2.alloc (.cells #[.int .i64 18, .int .i64 32, .int .i64 4, .int .i64 32, .int .i64 64, .int .i64 64] 54) := ⟨_, rfl⟩
  rw [← hz3] at D3 GF ⊢
  clear hz3 SD
  have SD := KZ.out _ D3.out
  obtain ⟨b_GF, hb_GF⟩ : ∃ b, b = z2.heap.size := ⟨_, rfl⟩
  rw [← hb_GF] at GF ⊢
  clear hb_GF
  refine anyH_one 23 (by kernel_rfl) ?_
  refine wpOp_step rfl (fun Kc hKc => ?_)
  go_simp
  refine (HF1.out _ _ GF.out).mono ?_
  rintro e24 z4 ⟨rfl, hb4⟩
  have D4 := Lib.hid (D3.out.trans (hb4.mono D3.out.size))
  have GF : Hid (z4.heap[b_GF]? = some (.cells #[.int .i64 18, .int .i64 32, .int .i64 4, .int .i64 32, .int .i64 64, .int .i64 64] 54 (0, 0))) := (hb4.block _ (lt_of_block GF.out)).trans GF.out
  clear hb4
  dsimp only
  refine hKc _ _ ⟨KZ.out _ D4.out, ?_⟩
  clear hKc Kc
  try simp only [Act.put, List.setIfInBounds_toArray, List.set_cons_zero, List.set_cons_succ]
  clear SD
  have SD := KZ.out _ D4.out
  refine anyH_take 24 82 (.bool true) SD rfl (by kernel_rfl) (by kernel_rfl) (by kernel_rfl) (fun _ _ _ h => h) (by rfl) (by intro x hx; have y0 := hx; (first | exact exec_arr 54 (.tmp 11) b11 0 #[.int .i64 18, .int .i64 32, .int .i64 4] _ rfl (row_rng hx) Try.underlying54 rfl Try.sizeGeo | go_simp); try (intro h; omega)) ?_
  try simp only [Act.put, List.setIfInBounds_toArray, List.set_cons_zero, List.set_cons_succ]
  refine anyH_take 25 83 (.bool true) SD rfl (by kernel_rfl) (by kernel_rfl) (by kernel_rfl) (fun _ _ _ h => h) (by rfl) (by intro x hx; have y0 := hx; (first | exact exec_arr 54 (.tmp 11) b11 0 #[.int .i64 18, .int .i64 32, .int .i64 4] _ rfl (row_rng hx) Try.underlying54 rfl Try.sizeGeo | go_simp); try (intro h; omega)) ?_
  try simp only [Act.put, List.setIfInBounds_toArray, List.set_cons_zero, List.set_cons_succ]
  refine anyH_of [26, 28, 29] (by kernel_rfl) (by decide) (fun j hj => ?_)
  simp only [List.mem_cons, List.not_mem_nil, or_false] at hj
  rcases hj with rfl | rfl | rfl
  · refine wpOp_step rfl (fun Kc hKc => ?_)
    go_simp
    refine (HSM.out _).mono ?_
    rintro e25 z5 ⟨rfl, hb5⟩
    have D5 := Lib.hid (D4.out.trans (hb5.mono D4.out.size))
    have GF : Hid (z5.heap[b_GF]? = some (.cells #[.int .i64 18, .int .i64 32, .int .i64 4, .int .i64 32, .int .i64 64, .int .i64 64] 54 (0, 0))) := (hb5.block _ (lt_of_block GF.out)).trans GF.out
    clear hb5
    dsimp only
    refine hKc _ _ ⟨KZ.out _ D5.out, ?_⟩
    clear hKc Kc
    try simp only [Act.put, List.setIfInBounds_toArray, List.set_cons_zero, List.set_cons_succ]
    clear SD
    have SD := KZ.out _ D5.out
    refine anyH_of [27, 28, 29] (by kernel_rfl) (by decide) (fun j hj => ?_)
    simp only [List.mem_cons, List.not_mem_nil, or_false] at hj
    rcases hj with rfl | rfl | rfl
    · refine wpOp_step rfl (fun Kc hKc => ?_)
      go_simp
      have D6 : Hid (Below z.heap.size z (z5.alloc (.cells #[.int .i64 18, .int .i64 32, .int .i64 4] 54))) := D5.out.alloc D5.out.size _
      refine hKc _ _ ⟨KZ.out _ D6.out, ?_⟩
      clear hKc Kc
      try simp only [Act.put, List.setIfInBounds_toArray, List.set_cons_zero, List.set_cons_succ]
      have GX : Hid ((z5.alloc (.cells #[.int .i64 18, .int .i64 32, .int .i64 4] 54)).heap[z5.heap.size]? = some (.cells #[.int .i64 18, .int .i64 32, .int .i64 4] 54 (0, 0))) := heap_alloc_new _ _
      have GF : Hid ((z5.alloc (.cells #[.int .i64 18, .int .i64 32, .int .i64 4] 54)).heap[b_GF]? = some (.cells #[.int .i64 18, .int .i64 32, .int .i64 4, .int .i64 32, .int .i64 64, .int .i64 64] 54 (0, 0))) := (((Below.refl _ z5).alloc (Nat.le_refl _) _).block _ (lt_of_block GF.out)).trans GF.out
      obtain ⟨z6, hz6⟩ : ∃ y, y = z5.alloc (.cells #[.int .i64 18, .int .i64 32, .int .i64 4] 54) := ⟨_, rfl⟩
      rw [← hz6] at D6 GF GX ⊢
      clear hz6 SD
      have SD := KZ.out _ D6.out
      obtain ⟨b_GX, hb_GX⟩ : ∃ b, b = z5.heap.size := ⟨_, rfl⟩
      rw [← hb_GX] at GX ⊢
      clear hb_GX
      refine anyH_of [28, 29] (by kernel_rfl) (by decide) (fun j hj => ?_)
      simp only [List.mem_cons, List.not_mem_nil, or_false] at hj
      rcases hj with rfl | rfl
      · refine wpOp_step rfl (fun Kc hKc => ?_)
        go_simp
        have D7 : Hid (Below z.heap.size z (z6.alloc (.cells #[.int .i64 (-1)] 3))) := D6.out.alloc D6.out.size _
        refine hKc _ _ ⟨KZ.out _ D7.out, ?_⟩
        clear hKc Kc
        try simp only [Act.put, List.setIfInBounds_toArray, List.set_cons_zero, List.set_cons_succ]
        have GY : Hid ((z6.alloc (.cells #[.int .i64 (-1)] 3)).heap[z6.heap.size]? = some (.cells #[.int .i64 (-1)] 3 (0, 0))) := heap_alloc_new _ _
        have GF : Hid ((z6.alloc (.cells #[.int .i64 (-1)] 3)).heap[b_GF]? = some (.cells #[.int .i64 18, .int .i64 32, .int .i64 4, .int .i64 32, .int .i64 64, .int .i64 64] 54 (0, 0))) := (((Below.refl _ z6).alloc (Nat.le_refl _) _).block _ (lt_of_block GF.out)).trans GF.out
        have GX : Hid ((z6.alloc (.cells #[.int .i64 (-1)] 3)).heap[b_GX]? = some (.cells #[.int .i64 18, .int .i64 32, .int .i64 4] 54 (0, 0))) := (((Below.refl _ z6).alloc (Nat.le_refl _) _).block _ (lt_of_block GX.out)).trans GX.out
        obtain ⟨z7, hz7⟩ : ∃ y, y = z6.alloc (.cells #[.int .i64 (-1)] 3) := ⟨_, rfl⟩
        rw [← hz7] at D7 GF GX GY ⊢
        clear hz7 SD
        have SD := KZ.out _ D7.out
        obtain ⟨b_GY, hb_GY⟩ : ∃ b, b = z6.heap.size := ⟨_, rfl⟩
        rw [← hb_GY] at GY ⊢
        clear hb_GY
        refine anyH_one 29 (by kernel_rfl) ?_
        refine wpOp_step rfl (fun Kc hKc => ?_)
        go_simp
        have D8 : Hid (Below z.heap.size z (z7.alloc (.cells #[.int .u8 1] 5))) := D7.out.alloc D7.out.size _
        refine hKc _ _ ⟨KZ.out _ D8.out, ?_⟩
        clear hKc Kc
        try simp only [Act.put, List.setIfInBounds_toArray, List.set_cons_zero, List.set_cons_succ]
        have GW : Hid ((z7.alloc (.cells #[.int .u8 1] 5)).heap[z7.heap.size]? = some (.cells #[.int .u8 1] 5 (0, 0))) := heap_alloc_new _ _
        have GF : Hid ((z7.alloc (.cells #[.int .u8 1] 5)).heap[b_GF]? = some (.cells #[.int .i64 18, .int .i64 32, .int .i64 4, .int .i64 32, .int .i64 64, .int .i64 64] 54 (0, 0))) := (((Below.refl _ z7).alloc (Nat.le_refl _) _).block _ (lt_of_block GF.out)).trans GF.out
        have GX : Hid ((z7.alloc (.cells #[.int .u8 1] 5)).heap[b_GX]? = some (.cells #[.int .i64 18, .int .i64 32, .int .i64 4] 54 (0, 0))) := (((Below.refl _ z7).alloc (Nat.le_refl _) _).block _ (lt_of_block GX.out)).trans GX.out
        have GY : Hid ((z7.alloc (.cells #[.int .u8 1] 5)).heap[b_GY]? = some (.cells #[.int .i64 (-1)] 3 (0, 0))) := (((Below.refl _ z7).alloc (Nat.le_refl _) _).block _ (lt_of_block GY.out)).trans GY.out
        obtain ⟨z8, hz8⟩ : ∃ y, y = z7.alloc (.cells #[.int .u8 1] 5) := ⟨_, rfl⟩
        rw [← hz8] at D8 GF GX GY GW ⊢
        clear hz8 SD
        have SD := KZ.out _ D8.out
        obtain ⟨b_GW, hb_GW⟩ : ∃ b, b = z7.heap.size := ⟨_, rfl⟩
        rw [← hb_GW] at GW ⊢
        clear hb_GW
        refine anyH_one 30 (by kernel_rfl) ?_
        refine wpOp_step rfl (fun Kc hKc => ?_)
        go_simp
        refine (HF2.out _ _ _ _ GX.out GY.out GW.out).mono ?_
        rintro e29 z9 ⟨rfl, hb9⟩
        have D9 := Lib.hid (D8.out.trans (hb9.mono D8.out.size))
        have GF : Hid (z9.heap[b_GF]? = some (.cells #[.int .i64 18, .int .i64 32, .int .i64 4, .int .i64 32, .int .i64 64, .int .i64 64] 54 (0, 0))) := (hb9.block _ (lt_of_block GF.out)).trans GF.out
        have GX : Hid (z9.heap[b_GX]? = some (.cells #[.int .i64 18, .int .i64 32, .int .i64 4] 54 (0, 0))) := (hb9.block _ (lt_of_block GX.out)).trans GX.out
        have GY : Hid (z9.heap[b_GY]? = some (.cells #[.int .i64 (-1)] 3 (0, 0))) := (hb9.block _ (lt_of_block GY.out)).trans GY.out
        have GW : Hid (z9.heap[b_GW]? = some (.cells #[.int .u8 1] 5 (0, 0))) := (hb9.block _ (lt_of_block GW.out)).trans GW.out
        clear hb9
        dsimp only
        refine hKc _ _ ⟨KZ.out _ D9.out, ?_⟩
        clear hKc Kc
        try simp only [Act.put, List.setIfInBounds_toArray, List.set_cons_zero, List.set_cons_succ]
        clear SD
        have SD := KZ.out _ D9.out
        refine anyH_take 31 89 (.bool true) SD rfl (by kernel_rfl) (by kernel_rfl) (by kernel_rfl) (fun _ _ _ h => h) (by rfl) (by intro x hx; have y0 := hx; (first | exact exec_arr 54 (.tmp 11) b11 0 #[.int .i64 18, .int .i64 32, .int .i64 4] _ rfl (row_rng hx) Try.underlying54 rfl Try.sizeGeo | go_simp); try (intro h; omega)) ?_
        try simp only [Act.put, List.setIfInBounds_toArray, List.set_cons_zero, List.set_cons_succ]
        refine anyH_take 32 90 (.bool true) SD rfl (by kernel_rfl) (by kernel_rfl) (by kernel_rfl) (fun _ _ _ h => h) (by rfl) (by intro x hx; have y0 := hx; (first | exact exec_arr 54 (.tmp 11) b11 0 #[.int .i64 18, .int .i64 32, .int .i64 4] _ rfl (row_rng hx) Try.underlying54 rfl Try.sizeGeo | go_simp); try (intro h; omega)) ?_
        try simp only [Act.put, List.setIfInBounds_toArray, List.set_cons_zero, List.set_cons_succ]
        refine anyH_one 33 (by kernel_rfl) ?_
        refine wpOp_step rfl (fun Kc hKc => ?_)
        go_simp
        refine (HKN.out _).mono ?_
        rintro e30 z10 ⟨rfl, hb10⟩
        have D10 := Lib.hid (D9.out.trans (hb10.mono D9.out.size))
        have GF : Hid (z10.heap[b_GF]? = some (.cells #[.int .i64 18, .int .i64 32, .int .i64 4, .int .i64 32, .int .i64 64, .int .i64 64] 54 (0, 0))) := (hb10.block _ (lt_of_block GF.out)).trans GF.out
        have GX : Hid (z10.heap[b_GX]? = some (.cells #[.int .i64 18, .int .i64 32, .int .i64 4] 54 (0, 0))) := (hb10.block _ (lt_of_block GX.out)).trans GX.out
        have GY : Hid (z10.heap[b_GY]? = some (.cells #[.int .i64 (-1)] 3 (0, 0))) := (hb10.block _ (lt_of_block GY.out)).trans GY.out
        have GW : Hid (z10.heap[b_GW]? = some (.cells #[.int .u8 1] 5 (0, 0))) := (hb10.block _ (lt_of_block GW.out)).trans GW.out
        clear hb10
        dsimp only
        refine hKc _ _ ⟨KZ.out _ D10.out, ?_⟩
        clear hKc Kc
        try simp only [Act.put, List.setIfInBounds_toArray, List.set_cons_zero, List.set_cons_succ]
        clear SD
        have SD := KZ.out _ D10.out
        refine anyH_take 34 92 (.bool true) SD rfl (by kernel_rfl) (by kernel_rfl) (by kernel_rfl) (fun _ _ _ h => h) (by rfl) (by intro x hx; have y0 := hx; (first | exact exec_arr 54 (.tmp 11) b11 0 #[.int .i64 18, .int .i64 32, .int .i64 4] _ rfl (row_rng hx) Try.underlying54 rfl Try.sizeGeo | go_simp); try (intro h; omega)) ?_
        try simp only [Act.put, List.setIfInBounds_toArray, List.set_cons_zero, List.set_cons_succ]
        refine anyH_take 35 0 (.bool true) SD rfl (by kernel_rfl) (by kernel_rfl) (by kernel_rfl) (fun _ _ _ h => h) (by rfl) (by intro x hx; have y0 := hx; (first | exact exec_arr 54 (.tmp 11) b11 0 #[.int .i64 18, .int .i64 32, .int .i64 4] _ rfl (row_rng hx) Try.underlying54 rfl Try.sizeGeo | go_simp); try (intro h; omega)) ?_
        try simp only [Act.put, List.setIfInBounds_toArray, List.set_cons_zero]
        refine wpAnyH_done (by kernel_rfl) ?_ _
        go_wp2
        go_ret
        exact ⟨rfl, BZ.out.trans (D10.out.mono BZ.out.size)⟩
      · refine wpOp_step rfl (fun Kc hKc => ?_)
        go_simp
        have D7 : Hid (Below z.heap.size z (z6.alloc (.cells #[.int .u8 1] 5))) := D6.out.alloc D6.out.size _
        refine hKc _ _ ⟨KZ.out _ D7.out, ?_⟩
        clear hKc Kc
        try simp only [Act.put, List.setIfInBounds_toArray, List.set_cons_zero, List.set_cons_succ]
        have GW : Hid ((z6.alloc (.cells #[.int .u8 1] 5)).heap[z6.heap.size]? = some (.cells #[.int .u8 1] 5 (0, 0))) := heap_alloc_new _ _
        have GF : Hid ((z6.alloc (.cells #[.int .u8 1] 5)).heap[b_GF]? = some (.cells #[.int .i64 18, .int .i64 32, .int .i64 4, .int .i64 32, .int .i64 64, .int .i64 64] 54 (0, 0))) := (((Below.refl _ z6).alloc (Nat.le_refl _) _).block _ (lt_of_block GF.out)).trans GF.out
        have GX : Hid ((z6.alloc (.cells #[.int .u8 1] 5)).heap[b_GX]? = some (.cells #[.int .i64 18, .int .i64 32, .int .i64 4] 54 (0, 0))) := (((Below.refl _ z6).alloc (Nat.le_refl _) _).block _ (lt_of_block GX.out)).trans GX.out
        obtain ⟨z7, hz7⟩ : ∃ y, y = z6.alloc (.cells #[.int .u8 1] 5) := ⟨_, rfl⟩
        rw [← hz7] at D7 GF GX GW ⊢
        clear hz7 SD
        have SD := KZ.out _ D7.out
        obtain ⟨b_GW, hb_GW⟩ : ∃ b, b = z6.heap.size := ⟨_, rfl⟩
        rw [← hb_GW] at GW ⊢
        clear hb_GW
        refine anyH_one 28 (by kernel_rfl) ?_
        refine wpOp_step rfl (fun Kc hKc => ?_)
        go_simp
        have D8 : Hid (Below z.heap.size z (z7.alloc (.cells #[.int .i64 (-1)] 3))) := D7.out.alloc D7.out.size _
        refine hKc _ _ ⟨KZ.out _ D8.out, ?_⟩
        clear hKc Kc
        try simp only [Act.put, List.setIfInBounds_toArray, List.set_cons_zero, List.set_cons_succ]
        have GY : Hid ((z7.alloc (.cells #[.int .i64 (-1)] 3)).heap[z7.heap.size]? = some (.cells #[.int .i64 (-1)] 3 (0, 0))) := heap_alloc_new _ _
        have GF : Hid ((z7.alloc (.cells #[.int .i64 (-1)] 3)).heap[b_GF]? = some (.cells #[.int .i64 18, .int .i64 32, .int .i64 4, .int .i64 32, .int .i64 64, .int .i64 64] 54 (0, 0))) := (((Below.refl _ z7).alloc (Nat.le_refl _) _).block _ (lt_of_block GF.out)).trans GF.out
        have GX : Hid ((z7.alloc (.cells #[.int .i64 (-1)] 3)).heap[b_GX]? = some (.cells #[.int .i64 18, .int .i64 32, .int .i64 4] 54 (0, 0))) := (((Below.refl _ z7).alloc (Nat.le_refl _) _).block _ (lt_of_block GX.out)).trans GX.out
        have GW : Hid ((z7.alloc (.cells #[.int .i64 (-1)] 3)).heap[b_GW]? = some (.cells #[.int .u8 1] 5 (0, 0))) := (((Below.refl _ z7).alloc (Nat.le_refl _) _).block _ (lt_of_block GW.out)).trans GW.out
        obtain ⟨z8, hz8⟩ : ∃ y, y = z7.alloc (.cells #[.int .i64 (-1)] 3) := ⟨_, rfl⟩
        rw [← hz8] at D8 GF GX GW GY ⊢
        clear hz8 SD
        have SD := KZ.out _ D8.out
        obtain ⟨b_GY, hb_GY⟩ : ∃ b, b = z7.heap.size := ⟨_, rfl⟩
        rw [← hb_GY] at GY ⊢
        clear hb_GY
        refine anyH_one 30 (by kernel_rfl) ?_
        refine wpOp_step rfl (fun Kc hKc => ?_)
        go_simp
        refine (HF2.out _ _ _ _ GX.out GY.out GW.out).mono ?_
        rintro e29 z9 ⟨rfl, hb9⟩
        have D9 := Lib.hid (D8.out.trans (hb9.mono D8.out.size))
        have GF : Hid (z9.heap[b_GF]? = some (.cells #[.int .i64 18, .int .i64 32, .int .i64 4, .int .i64 32, .int .i64 64, .int .i64 64] 54 (0, 0))) := (hb9.block _ (lt_of_block GF.out)).trans GF.out
        have GX : Hid (z9.heap[b_GX]? = some (.cells #[.int .i64 18, .int .i64 32, .int .i64 4] 54 (0, 0))) := (hb9.block _ (lt_of_block GX.out)).trans GX.out
        have GW : Hid (z9.heap[b_GW]? = some (.cells #[.int .u8 1] 5 (0, 0))) := (hb9.block _ (lt_of_block GW.out)).trans GW.out
        have GY : Hid (z9.heap[b_GY]? = some (.cells #[.int .i64 (-1)] 3 (0, 0))) := (hb9.block _ (lt_of_block GY.out)).trans GY.out
        clear hb9
        dsimp only
        refine hKc _ _ ⟨KZ.out _ D9.out, ?_⟩
        clear hKc Kc
        try simp only [Act.put, List.setIfInBounds_toArray, List.set_cons_zero, List.set_cons_succ]
        clear SD
        have SD := KZ.out _ D9.out
        refine anyH_take 31 89 (.bool true) SD rfl (by kernel_rfl) (by kernel_rfl) (by kernel_rfl) (fun _ _ _ h => h) (by rfl) (by intro x hx; have y0 := hx; (first | exact exec_arr 54 (.tmp 11) b11 0 #[.int .i64 18, .int .i64 32, .int .i64 4] _ rfl (row_rng hx) Try.underlying54 rfl Try.sizeGeo | go_simp); try (intro h; omega)) ?_
        try simp only [Act.put, List.setIfInBounds_toArray, List.set_cons_zero, List.set_cons_succ]
        refine anyH_take 32 90 (.bool true) SD rfl (by kernel_rfl) (by kernel_rfl) (by kernel_rfl) (fun _ _ _ h => h) (by rfl) (by intro x hx; have y0 := hx; (first | exact exec_arr 54 (.tmp 11) b11 0 #[.int .i64 18, .int .i64 32, .int .i64 4] _ rfl (row_rng hx) Try.underlying54 rfl Try.sizeGeo | go_simp); try (intro h; omega)) ?_
        try simp only [Act.put, List.setIfInBounds_toArray, List.set_cons_zero, List.set_cons_succ]
        refine anyH_one 33 (by kernel_rfl) ?_
        refine wpOp_step rfl (fun Kc hKc => ?_)
        go_simp
        refine (HKN.out _).mono ?_
        rintro e30 z10 ⟨rfl, hb10⟩
        have D10 := Lib.hid (D9.out.trans (hb10.mono D9.out.size))
        have GF : Hid (z10.heap[b_GF]? = some (.cells #[.int .i64 18, .int .i64 32, .int .i64 4, .int .i64 32, .int .i64 64, .int .i64 64] 54 (0, 0))) := (hb10.block _ (lt_of_block GF.out)).trans GF.out
        have GX : Hid (z10.heap[b_GX]? = some (.cells #[.int .i64 18, .int .i64 32, .int .i64 4] 54 (0, 0))) := (hb10.block _ (lt_of_block GX.out)).trans GX.out
        have GW : Hid (z10.heap[b_GW]? = some (.cells #[.int .u8 1] 5 (0, 0))) := (hb10.block _ (lt_of_block GW.out)).trans GW.out
        have GY : Hid (z10.heap[b_GY]? = some (.cells #[.int .i64 (-1)] 3 (0, 0))) := (hb10.block _ (lt_of_block GY.out)).trans GY.out
        clear hb10
        dsimp only
        refine hKc _ _ ⟨KZ.out _ D10.out, ?_⟩
        clear hKc Kc
        try simp only [Act.put, List.setIfInBounds_toArray, List.set_cons_zero, List.set_cons_succ]
        clear SD
        have SD := KZ.out _ D10.out
        refine anyH_take 34 92 (.bool true) SD rfl (by kernel_rfl) (by kernel_rfl) (by kernel_rfl) (fun _ _ _ h => h) (by rfl) (by intro x hx; have y0 := hx; (first | exact exec_arr 54 (.tmp 11) b11 0 #[.int .i64 18, .int .i64 32, .int .i64 4] _ rfl (row_rng hx) Try.underlying54 rfl Try.sizeGeo | go_simp); try (intro h; omega)) ?_
        try simp only [Act.put, List.setIfInBounds_toArray, List.set_cons_zero, List.set_cons_succ]
        refine anyH_take 35 0 (.bool true) SD rfl (by kernel_rfl) (by kernel_rfl) (by kernel_rfl) (fun _ _ _ h => h) (by rfl) (by intro x hx; have y0 := hx; (first | exact exec_arr 54 (.tmp 11) b11 0 #[.int .i64 18, .int .i64 32, .int .i64 4] _ rfl (row_rng hx) Try.underlying54 rfl Try.sizeGeo | go_simp); try (intro h; omega)) ?_
        try simp only [Act.put, List.setIfInBounds_toArray, List.set_cons_zero]
        refine wpAnyH_done (by kernel_rfl) ?_ _
        go_wp2
        go_ret
        exact ⟨rfl, BZ.out.trans (D10.out.mono BZ.out.size)⟩
    · refine wpOp_step rfl (fun Kc hKc => ?_)
      go_simp
      have D6 : Hid (Below z.heap.size z (z5.alloc (.cells #[.int .i64 (-1)] 3))) := D5.out.alloc D5.out.size _
      refine hKc _ _ ⟨KZ.out _ D6.out, ?_⟩
      clear hKc Kc
      try simp only [Act.put, List.setIfInBounds_toArray, List.set_cons_zero, List.set_cons_succ]
      have GY : Hid ((z5.alloc (.cells #[.int .i64 (-1)] 3)).heap[z5.heap.size]? = some (.cells #[.int .i64 (-1)] 3 (0, 0))) := heap_alloc_new _ _
      have GF : Hid ((z5.alloc (.cells #[.int .i64 (-1)] 3)).heap[b_GF]? = some (.cells #[.int .i64 18, .int .i64 32, .int .i64 4, .int .i64 32, .int .i64 64, .int .i64 64] 54 (0, 0))) := (((Below.refl _ z5).alloc (Nat.le_refl _) _).block _ (lt_of_block GF.out)).trans GF.out
      obtain ⟨z6, hz6⟩ : ∃ y, y = z5.alloc (.cells #[.int .i64 (-1)] 3) := ⟨_, rfl⟩
      rw [← hz6] at D6 GF GY ⊢
      clear hz6 SD
      have SD := KZ.out _ D6.out
      obtain ⟨b_GY, hb_GY⟩ : ∃ b, b = z5.heap.size := ⟨_, rfl⟩
      rw [← hb_GY] at GY ⊢
      clear hb_GY
      refine anyH_of [27, 29] (by kernel_rfl) (by decide) (fun j hj => ?_)
      simp only [List.mem_cons, List.not_mem_nil, or_false] at hj
      rcases hj with rfl | rfl
      · refine wpOp_step rfl (fun Kc hKc => ?_)
        go_simp
        have D7 : Hid (Below z.heap.size z (z6.alloc (.cells #[.int .i64 18, .int .i64 32, .int .i64 4] 54))) := D6.out.alloc D6.out.size _
        refine hKc _ _ ⟨KZ.out _ D7.out, ?_⟩
        clear hKc Kc
        try simp only [Act.put, List.setIfInBounds_toArray, List.set_cons_zero, List.set_cons_succ]
        have GX : Hid ((z6.alloc (.cells #[.int .i64 18, .int .i64 32, .int .i64 4] 54)).heap[z6.heap.size]? = some (.cells #[.int .i64 18, .int .i64 32, .int .i64 4] 54 (0, 0))) := heap_alloc_new _ _
        have GF : Hid ((z6.alloc (.cells #[.int .i64 18, .int .i64 32, .int .i64 4] 54)).heap[b_GF]? = some (.cells #[.int .i64 18, .int .i64 32, .int .i64 4, .int .i64 32, .int .i64 64, .int .i64 64] 54 (0, 0))) := (((Below.refl _ z6).alloc (Nat.le_refl _) _).block _ (lt_of_block GF.out)).trans GF.out
        have GY : Hid ((z6.alloc (.cells #[.int .i64 18, .int .i64 32, .int .i64 4] 54)).heap[b_GY]? = some (.cells #[.int .i64 (-1)] 3 (0, 0))) := (((Below.refl _ z6).alloc (Nat.le_refl _) _).block _ (lt_of_block GY.out)).trans GY.out
        obtain ⟨z7, hz7⟩ : ∃ y, y = z6.alloc (.cells #[.int .i64 18, .int .i64 32, .int .i64 4] 54) := ⟨_, rfl⟩
        rw [← hz7] at D7 GF GY GX ⊢
        clear hz7 SD
        have SD := KZ.out _ D7.out
        obtain ⟨b_GX, hb_GX⟩ : ∃ b, b = z6.heap.size := ⟨_, rfl⟩
        rw [← hb_GX] at GX ⊢
        clear hb_GX
        refine anyH_one 29 (by kernel_rfl) ?_
        refine wpOp_step rfl (fun Kc hKc => ?_)
        go_simp
        have D8 : Hid (Below z.heap.size z (z7.alloc (.cells #[.int .u8 1] 5))) := D7.out.alloc D7.out.size _
        refine hKc _ _ ⟨KZ.out _ D8.out, ?_⟩
        clear hKc Kc
        try simp only [Act.put, List.setIfInBounds_toArray, List.set_cons_zero, List.set_cons_succ]
        have GW : Hid ((z7.alloc (.cells #[.int .u8 1] 5)).heap[z7.heap.size]? = some (.cells #[.int .u8 1] 5 (0, 0))) := heap_alloc_new _ _
        have GF : Hid ((z7.alloc (.cells #[.int .u8 1] 5)).heap[b_GF]? = some (.cells #[.int .i64 18, .int .i64 32, .int .i64 4, .int .i64 32, .int .i64 64, .int .i64 64] 54 (0, 0))) := (((Below.refl _ z7).alloc (Nat.le_refl _) _).block _ (lt_of_block GF.out)).trans GF.out
        have GY : Hid ((z7.alloc (.cells #[.int .u8 1] 5)).heap[b_GY]? = some (.cells #[.int .i64 (-1)] 3 (0, 0))) := (((Below.refl _ z7).alloc (Nat.le_refl _) _).block _ (lt_of_block GY.out)).trans GY.out
        have GX : Hid ((z7.alloc (.cells #[.int .u8 1] 5)).heap[b_GX]? = some (.cells #[.int .i64 18, .int .i64 32, .int .i64 4] 54 (0, 0))) := (((Below.refl _ z7).alloc (Nat.le_refl _) _).block _ (lt_of_block GX.out)).trans GX.out
        obtain ⟨z8, hz8⟩ : ∃ y, y = z7.alloc (.cells #[.int .u8 1] 5) := ⟨_, rfl⟩
        rw [← hz8] at D8 GF GY GX GW ⊢
        clear hz8 SD
        have SD := KZ.out _ D8.out
        obtain ⟨b_GW, hb_GW⟩ : ∃ b, b = z7.heap.size := ⟨_, rfl⟩
        rw [← hb_GW] at GW ⊢
        clear hb_GW
        refine anyH_one 30 (by kernel_rfl) ?_
        refine wpOp_step rfl (fun Kc hKc => ?_)
        go_simp
        refine (HF2.out _ _ _ _ GX.out GY.out GW.out).mono ?_
        rintro e29 z9 ⟨rfl, hb9⟩
        have D9 := Lib.hid (D8.out.trans (hb9.mono D8.out.size))
        have GF : Hid (z9.heap[b_GF]? = some (.cells #[.int .i64 18, .int .i64 32, .int .i64 4, .int .i64 32, .int .i64 64, .int .i64 64] 54 (0, 0))) := (hb9.block _ (lt_of_block GF.out)).trans GF.out
        have GY : Hid (z9.heap[b_GY]? = some (.cells #[.int .i64 (-1)] 3 (0, 0))) := (hb9.block _ (lt_of_block GY.out)).trans GY.out
        have GX : Hid (z9.heap[b_GX]? = some (.cells #[.int .i64 18, .int .i64 32, .int .i64 4] 54 (0, 0))) := (hb9.block _ (lt_of_block GX.out)).trans GX.out
        have GW : Hid (z9.heap[b_GW]? = some (.cells #[.int .u8 1] 5 (0, 0))) := (hb9.block _ (lt_of_block GW.out)).trans GW.out
        clear hb9
        dsimp only
        refine hKc _ _ ⟨KZ.out _ D9.out, ?_⟩
        clear hKc Kc
        try simp only [Act.put, List.setIfInBounds_toArray, List.set_cons_zero, List.set_cons_succ]
        clear SD
        have SD := KZ.out _ D9.out
        refine anyH_take 31 89 (.bool true) SD rfl (by kernel_rfl) (by kernel_rfl) (by kernel_rfl) (fun _ _ _ h => h) (by rfl) (by intro x hx; have y0 := hx; (first | exact exec_arr 54 (.tmp 11) b11 0 #[.int .i64 18, .int .i64 32, .int .i64 4] _ rfl (row_rng hx) Try.underlying54 rfl Try.sizeGeo | go_simp); try (intro h; omega)) ?_
        try simp only [Act.put, List.setIfInBounds_toArray, List.set_cons_zero, List.set_cons_succ]
        refine anyH_take 32 90 (.bool true) SD rfl (by kernel_rfl) (by kernel_rfl) (by kernel_rfl) (fun _ _ _ h => h) (by rfl) (by intro x hx; have y0 := hx; (first | exact exec_arr 54 (.tmp 11) b11 0 #[.int .i64 18, .int .i64 32, .int .i64 4] _ rfl (row_rng hx) Try.underlying54 rfl Try.sizeGeo | go_simp); try (intro h; omega)) ?_
        try simp only [Act.put, List.setIfInBounds_toArray, List.set_cons_zero, List.set_cons_succ]
        refine anyH_one 33 (by kernel_rfl) ?_
        refine wpOp_step rfl (fun Kc hKc => ?_)
        go_simp
        refine (HKN.out _).mono ?_
        rintro e30 z10 ⟨rfl, hb10⟩
        have D10 := Lib.hid (D9.out.trans (hb10.mono D9.out.size))
        have GF : Hid (z10.heap[b_GF]? = some (.cells #[.int .i64 18, .int .i64 32, .int .i64 4, .int .i64 32, .int .i64 64, .int .i64 64] 54 (0, 0))) := (hb10.block _ (lt_of_block GF.out)).trans GF.out
        have GY : Hid (z10.heap[b_GY]? = some (.cells #[.int .i64 (-1)] 3 (0, 0))) := (hb10.block _ (lt_of_block GY.out)).trans GY.out
        have GX : Hid (z10.heap[b_GX]? = some (.cells #[.int .i64 18, .int .i64 32, .int .i64 4] 54 (0, 0))) := (hb10.block _ (lt_of_block GX.out)).trans GX.out
        have GW : Hid (z10.heap[b_GW]? = some (.cells #[.int .u8 1] 5 (0, 0))) := (hb10.block _ (lt_of_block GW.out)).trans GW.out
        clear hb10
        dsimp only
        refine hKc _ _ ⟨KZ.out _ D10.out, ?_⟩
        clear hKc Kc
        try simp only [Act.put, List.setIfInBounds_toArray, List.set_cons_zero, List.set_cons_succ]
        clear SD
        have SD := KZ.out _ D10.out
        refine anyH_take 34 92 (.bool true) SD rfl (by kernel_rfl) (by kernel_rfl) (by kernel_rfl) (fun _ _ _ h => h) (by rfl) (by intro x hx; have y0 := hx; (first | exact exec_arr 54 (.tmp 11) b11 0 #[.int .i64 18, .int .i64 32, .int .i64 4] _ rfl (row_rng hx) Try.underlying54 rfl Try.sizeGeo | go_simp); try (intro h; omega)) ?_
        try simp only [Act.put, List.setIfInBounds_toArray, List.set_cons_zero, List.set_cons_succ]
        refine anyH_take 35 0 (.bool true) SD rfl (by kernel_rfl) (by kernel_rfl) (by kernel_rfl) (fun _ _ _ h => h) (by rfl) (by intro x hx; have y0 := hx; (first | exact exec_arr 54 (.tmp 11) b11 0 #[.int .i64 18, .int .i64 32, .int .i64 4] _ rfl (row_rng hx) Try.underlying54 rfl Try.sizeGeo | go_simp); try (intro h; omega)) ?_
        try simp only [Act.put, List.setIfInBounds_toArray, List.set_cons_zero]
        refine wpAnyH_done (by kernel_rfl) ?_ _
        go_wp2
        go_ret
        exact ⟨rfl, BZ.out.trans (D10.out.mono BZ.out.size)⟩
      · refine wpOp_step rfl (fun Kc hKc => ?_)
        go_simp
        have D7 : Hid (Below z.heap.size z (z6.alloc (.cells #[.int .u8 1] 5))) := D6.out.alloc D6.out.size _
        refine hKc _ _ ⟨KZ.out _ D7.out, ?_⟩
        clear hKc Kc
        try simp only [Act.put, List.setIfInBounds_toArray, List.set_cons_zero, List.set_cons_succ]
        have GW : Hid ((z6.alloc (.cells #[.int .u8 1] 5)).heap[z6.heap.size]? = some (.cells #[.int .u8 1] 5 (0, 0))) := heap_alloc_new _ _
        have GF : Hid ((z6.alloc (.cells #[.int .u8 1] 5)).heap[b_GF]? = some (.cells #[.int .i64 18, .int .i64 32, .int .i64 4, .int .i64 32, .int .i64 64, .int .i64 64] 54 (0, 0))) := (((Below.refl _ z6).alloc (Nat.le_refl _) _).block _ (lt_of_block GF.out)).trans GF.out
        have GY : Hid ((z6.alloc (.cells #[.int .u8 1] 5)).heap[b_GY]? = some (.cells #[.int .i64 (-1)] 3 (0, 0))) := (((Below.refl _ z6).alloc (Nat.le_refl _) _).block _ (lt_of_block GY.out)).trans GY.out
        obtain ⟨z7, hz7⟩ : ∃ y, y = z6.alloc (.cells #[.int .u8 1] 5) := ⟨_, rfl⟩
        rw [← hz7] at D7 GF GY GW ⊢
        clear hz7 SD
        have SD := KZ.out _ D7.out
        obtain ⟨b_GW, hb_GW⟩ : ∃ b, b = z6.heap.size := ⟨_, rfl⟩
        rw [← hb_GW] at GW ⊢
        clear hb_GW
        refine anyH_one 27 (by kernel_rfl) ?_
        refine wpOp_step rfl (fun Kc hKc => ?_)
        go_simp
        have D8 : Hid (Below z.heap.size z (z7.alloc (.cells #[.int .i64 18, .int .i64 32, .int .i64 4] 54))) := D7.out.alloc D7.out.size _
        refine hKc _ _ ⟨KZ.out _ D8.out, ?_⟩
        clear hKc Kc
        try simp only [Act.put, List.setIfInBounds_toArray, List.set_cons_zero, List.set_cons_succ]
        have GX : Hid ((z7.alloc (.cells #[.int .i64 18, .int .i64 32, .int .i64 4] 54)).heap[z7.heap.size]? = some (.cells #[.int .i64 18, .int .i64 32, .int .i64 4] 54 (0, 0))) := heap_alloc_new _ _
        have GF : Hid ((z7.alloc (.cells #[.int .i64 18, .int .i64 32, .int .i64 4] 54)).heap[b_GF]? = some (.cells #[.int .i64 18, .int .i64 32, .int .i64 4, .int .i64 32, .int .i64 64, .int .i64 64] 54 (0, 0))) := (((Below.refl _ z7).alloc (Nat.le_refl _) _).block _ (lt_of_block GF.out)).trans GF.out
        have GY : Hid ((z7.alloc (.cells #[.int .i64 18, .int .i64 32, .int .i64 4] 54)).heap[b_GY]? = some (.cells #[.int .i64 (-1)] 3 (0, 0))) := (((Below.refl _ z7).alloc (Nat.le_refl _) _).block _ (lt_of_block GY.out)).trans GY.out
        have GW : Hid ((z7.alloc (.cells #[.int .i64 18, .int .i64 32, .int .i64 4] 54)).heap[b_GW]? = some (.cells #[.int .u8 1] 5 (0, 0))) := (((Below.refl _ z7).alloc (Nat.le_refl _) _).block _ (lt_of_block GW.out)).trans GW.out
        obtain ⟨z8, hz8⟩ : ∃ y, y = z7.alloc (.cells #[.int .i64 18, .int .i64 32, .int .i64 4] 54) := ⟨_, rfl⟩
        rw [← hz8] at D8 GF GY GW GX ⊢
        clear hz8 SD
        have SD := KZ.out _ D8.out
        obtain ⟨b_GX, hb_GX⟩ : ∃ b, b = z7.heap.size := ⟨_, rfl⟩
        rw [← hb_GX] at GX ⊢
        clear hb_GX
        refine anyH_one 30 (by kernel_rfl) ?_
        refine wpOp_step rfl (fun Kc hKc => ?_)
        go_simp
        refine (HF2.out _ _ _ _ GX.out GY.out GW.out).mono ?_
        rintro e29 z9 ⟨rfl, hb9⟩
        have D9 := Lib.hid (D8.out.trans (hb9.mono D8.out.size))
        have GF : Hid (z9.heap[b_GF]? = some (.cells #[.int .i64 18, .int .i64 32, .int .i64 4, .int .i64 32, .int .i64 64, .int .i64 64] 54 (0, 0))) := (hb9.block _ (lt_of_block GF.out)).trans GF.out
        have GY : Hid (z9.heap[b_GY]? = some (.cells #[.int .i64 (-1)] 3 (0, 0))) := (hb9.block _ (lt_of_block GY.out)).trans GY.out
        have GW : Hid (z9.heap[b_GW]? = some (.cells #[.int .u8 1] 5 (0, 0))) := (hb9.block _ (lt_of_block GW.out)).trans GW.out
        have GX : Hid (z9.heap[b_GX]? = some (.cells #[.int .i64 18, .int .i64 32, .int .i64 4] 54 (0, 0))) := (hb9.block _ (lt_of_block GX.out)).trans GX.out
        clear hb9
        dsimp only
        refine hKc _ _ ⟨KZ.out _ D9.out, ?_⟩
        clear hKc Kc
        try simp only [Act.put, List.setIfInBounds_toArray, List.set_cons_zero, List.set_cons_succ]
        clear SD
        have SD := KZ.out _ D9.out
        refine anyH_take 31 89 (.bool true) SD rfl (by kernel_rfl) (by kernel_rfl) (by kernel_rfl) (fun _ _ _ h => h) (by rfl) (by intro x hx; have y0 := hx; (first | exact exec_arr 54 (.tmp 11) b11 0 #[.int .i64 18, .int .i64 32, .int .i64 4] _ rfl (row_rng hx) Try.underlying54 rfl Try.sizeGeo | go_simp); try (intro h; omega)) ?_
        try simp only [Act.put, List.setIfInBounds_toArray, List.set_cons_zero, List.set_cons_succ]
        refine anyH_take 32 90 (.bool true) SD rfl (by kernel_rfl) (by kernel_rfl) (by kernel_rfl) (fun _ _ _ h => h) (by rfl) (by intro x hx; have y0 := hx; (first | exact exec_arr 54 (.tmp 11) b11 0 #[.int .i64 18, .int .i64 32, .int .i64 4] _ rfl (row_rng hx) Try.underlying54 rfl Try.sizeGeo | go_simp); try (intro h; omega)) ?_
        try simp only [Act.put, List.setIfInBounds_toArray, List.set_cons_zero, List.set_cons_succ]
        refine anyH_one 33 (by kernel_rfl) ?_
        refine wpOp_step rfl (fun Kc hKc => ?_)
        go_simp
        refine (HKN.out _).mono ?_
        rintro e30 z10 ⟨rfl, hb10⟩
        have D10 := Lib.hid (D9.out.trans (hb10.mono D9.out.size))
        have GF : Hid (z10.heap[b_GF]? = some (.cells #[.int .i64 18, .int .i64 32, .int .i64 4, .int .i64 32, .int .i64 64, .int .i64 64] 54 (0, 0))) := (hb10.block _ (lt_of_block GF.out)).trans GF.out
        have GY : Hid (z10.heap[b_GY]? = some (.cells #[.int .i64 (-1)] 3 (0, 0))) := (hb10.block _ (lt_of_block GY.out)).trans GY.out
        have GW : Hid (z10.heap[b_GW]? = some (.cells #[.int .u8 1] 5 (0, 0))) := (hb10.block _ (lt_of_block GW.out)).trans GW.out
        have GX : Hid (z10.heap[b_GX]? = some (.cells #[.int .i64 18, .int .i64 32, .int .i64 4] 54 (0, 0))) := (hb10.block _ (lt_of_block GX.out)).trans GX.out
        clear hb10
        dsimp only
        refine hKc _ _ ⟨KZ.out _ D10.out, ?_⟩
        clear hKc Kc
        try simp only [Act.put, List.setIfInBounds_toArray, List.set_cons_zero, List.set_cons_succ]
        clear SD
        have SD := KZ.out _ D10.out
        refine anyH_take 34 92 (.bool true) SD rfl (by kernel_rfl) (by kernel_rfl) (by kernel_rfl) (fun _ _ _ h => h) (by rfl) (by intro x hx; have y0 := hx; (first | exact exec_arr 54 (.tmp 11) b11 0 #[.int .i64 18, .int .i64 32, .int .i64 4] _ rfl (row_rng hx) Try.underlying54 rfl Try.sizeGeo | go_simp); try (intro h; omega)) ?_
        try simp only [Act.put, List.setIfInBounds_toArray, List.set_cons_zero, List.set_cons_succ]
        refine anyH_take 35 0 (.bool true) SD rfl (by kernel_rfl) (by kernel_rfl) (by kernel_rfl) (fun _ _ _ h => h) (by rfl) (by intro x hx; have y0 := hx; (first | exact exec_arr 54 (.tmp 11) b11 0 #[.int .i64 18, .int .i64 32, .int .i64 4] _ rfl (row_rng hx) Try.underlying54 rfl Try.sizeGeo | go_simp); try (intro h; omega)) ?_
        try simp only [Act.put, List.setIfInBounds_toArray, List.set_cons_zero]
        refine wpAnyH_done (by kernel_rfl) ?_ _
        go_wp2
        go_ret
        exact ⟨rfl, BZ.out.trans (D10.out.mono BZ.out.size)⟩
    · refine wpOp_step rfl (fun Kc hKc => ?_)
      go_simp
      have D6 : Hid (Below z.heap.size z (z5.alloc (.cells #[.int .u8 1] 5))) := D5.out.alloc D5.out.size _
      refine hKc _ _ ⟨KZ.out _ D6.out, ?_⟩
      clear hKc Kc
      try simp only [Act.put, List.setIfInBounds_toArray, List.set_cons_zero, List.set_cons_succ]
      have GW : Hid ((z5.alloc (.cells #[.int .u8 1] 5)).heap[z5.heap.size]? = some (.cells #[.int .u8 1] 5 (0, 0))) := heap_alloc_new _ _
      have GF : Hid ((z5.alloc (.cells #[.int .u8 1] 5)).heap[b_GF]? = some (.cells #[.int .i64 18, .int .i64 32, .int .i64 4, .int .i64 32, .int .i64 64, .int .i64 64] 54 (0, 0))) := (((Below.refl _ z5).alloc (Nat.le_refl _) _).block _ (lt_of_block GF.out)).trans GF.out
      obtain ⟨z6, hz6⟩ : ∃ y, y = z5.alloc (.cells #[.int .u8 1] 5) := ⟨_, rfl⟩
      rw [← hz6] at D6 GF GW ⊢
      clear hz6 SD
      have SD := KZ.out _ D6.out
      obtain ⟨b_GW, hb_GW⟩ : ∃ b, b = z5.heap.size := ⟨_, rfl⟩
      rw [← hb_GW] at GW ⊢
      clear hb_GW
      refine anyH_of [27, 28] (by kernel_rfl) (by decide) (fun j hj => ?_)
      simp only [List.mem_cons, List.not_mem_nil, or_false] at hj
      rcases hj with rfl | rfl
      · refine wpOp_step rfl (fun Kc hKc => ?_)
        go_simp
        have D7 : Hid (Below z.heap.size z (z6.alloc (.cells #[.int .i64 18, .int .i64 32, .int .i64 4] 54))) := D6.out.alloc D6.out.size _
        refine hKc _ _ ⟨KZ.out _ D7.out, ?_⟩
        clear hKc Kc
        try simp only [Act.put, List.setIfInBounds_toArray, List.set_cons_zero, List.set_cons_succ]
        have GX : Hid ((z6.alloc (.cells #[.int .i64 18, .int .i64 32, .int .i64 4] 54)).heap[z6.heap.size]? = some (.cells #[.int .i64 18, .int .i64 32, .int .i64 4] 54 (0, 0))) := heap_alloc_new _ _
        have GF : Hid ((z6.alloc (.cells #[.int .i64 18, .int .i64 32, .int .i64 4] 54)).heap[b_GF]? = some (.cells #[.int .i64 18, .int .i64 32, .int .i64 4, .int .i64 32, .int .i64 64, .int .i64 64] 54 (0, 0))) := (((Below.refl _ z6).alloc (Nat.le_refl _) _).block _ (lt_of_block GF.out)).trans GF.out
        have GW : Hid ((z6.alloc (.cells #[.int .i64 18, .int .i64 32, .int .i64 4] 54)).heap[b_GW]? = some (.cells #[.int .u8 1] 5 (0, 0))) := (((Below.refl _ z6).alloc (Nat.le_refl _) _).block _ (lt_of_block GW.out)).trans GW.out
        obtain ⟨z7, hz7⟩ : ∃ y, y = z6.alloc (.cells #[.int .i64 18, .int .i64 32, .int .i64 4] 54) := ⟨_, rfl⟩
        rw [← hz7] at D7 GF GW GX ⊢
        clear hz7 SD
        have SD := KZ.out _ D7.out
        obtain ⟨b_GX, hb_GX⟩ : ∃ b, b = z6.heap.size := ⟨_, rfl⟩
        rw [← hb_GX] at GX ⊢
        clear hb_GX
        refine anyH_one 28 (by kernel_rfl) ?_
        refine wpOp_step rfl (fun Kc hKc => ?_)
        go_simp
        have D8 : Hid (Below z.heap.size z (z7.alloc (.cells #[.int .i64 (-1)] 3))) := D7.out.alloc D7.out.size _
        refine hKc _ _ ⟨KZ.out _ D8.out, ?_⟩
        clear hKc Kc
        try simp only [Act.put, List.setIfInBounds_toArray, List.set_cons_zero, List.set_cons_succ]
        have GY : Hid ((z7.alloc (.cells #[.int .i64 (-1)] 3)).heap[z7.heap.size]? = some (.cells #[.int .i64 (-1)] 3 (0, 0))) := heap_alloc_new _ _
        have GF : Hid ((z7.alloc (.cells #[.int .i64 (-1)] 3)).heap[b_GF]? = some (.cells #[.int .i64 18, .int .i64 32, .int .i64 4, .int .i64 32, .int .i64 64, .int .i64 64] 54 (0, 0))) := (((Below.refl _ z7).alloc (Nat.le_refl _) _).block _ (lt_of_block GF.out)).trans GF.out
        have GW : Hid ((z7.alloc (.cells #[.int .i64 (-1)] 3)).heap[b_GW]? = some (.cells #[.int .u8 1] 5 (0, 0))) := (((Below.refl _ z7).alloc (Nat.le_refl _) _).block _ (lt_of_block GW.out)).trans GW.out
        have GX : Hid ((z7.alloc (.cells #[.int .i64 (-1)] 3)).heap[b_GX]? = some (.cells #[.int .i64 18, .int .i64 32, .int .i64 4] 54 (0, 0))) := (((Below.refl _ z7).alloc (Nat.le_refl _) _).block _ (lt_of_block GX.out)).trans GX.out
        obtain ⟨z8, hz8⟩ : ∃ y, y = z7.alloc (.cells #[.int .i64 (-1)] 3) := ⟨_, rfl⟩
        rw [← hz8] at D8 GF GW GX GY ⊢
        clear hz8 SD
        have SD := KZ.out _ D8.out
        obtain ⟨b_GY, hb_GY⟩ : ∃ b, b = z7.heap.size := ⟨_, rfl⟩
        rw [← hb_GY] at GY ⊢
        clear hb_GY
        refine anyH_one 30 (by kernel_rfl) ?_
        refine wpOp_step rfl (fun Kc hKc => ?_)
        go_simp
        refine (HF2.out _ _ _ _ GX.out GY.out GW.out).mono ?_
        rintro e29 z9 ⟨rfl, hb9⟩
        have D9 := Lib.hid (D8.out.trans (hb9.mono D8.out.size))
        have GF : Hid (z9.heap[b_GF]? = some (.cells #[.int .i64 18, .int .i64 32, .int .i64 4, .int .i64 32, .int .i64 64, .int .i64 64] 54 (0, 0))) := (hb9.block _ (lt_of_block GF.out)).trans GF.out
        have GW : Hid (z9.heap[b_GW]? = some (.cells #[.int .u8 1] 5 (0, 0))) := (hb9.block _ (lt_of_block GW.out)).trans GW.out
        have GX : Hid (z9.heap[b_GX]? = some (.cells #[.int .i64 18, .int .i64 32, .int .i64 4] 54 (0, 0))) := (hb9.block _ (lt_of_block GX.out)).trans GX.out
        have GY : Hid (z9.heap[b_GY]? = some (.cells #[.int .i64 (-1)] 3 (0, 0))) := (hb9.block _ (lt_of_block GY.out)).trans GY.out
        clear hb9
        dsimp only
        refine hKc _ _ ⟨KZ.out _ D9.out, ?_⟩
        clear hKc Kc
        try simp only [Act.put, List.setIfInBounds_toArray, List.set_cons_zero, List.set_cons_succ]
        clear SD
        have SD := KZ.out _ D9.out
        refine anyH_take 31 89 (.bool true) SD rfl (by kernel_rfl) (by kernel_rfl) (by kernel_rfl) (fun _ _ _ h => h) (by rfl) (by intro x hx; have y0 := hx; (first | exact exec_arr 54 (.tmp 11) b11 0 #[.int .i64 18, .int .i64 32, .int .i64 4] _ rfl (row_rng hx) Try.underlying54 rfl Try.sizeGeo | go_simp); try (intro h; omega)) ?_
        try simp only [Act.put, List.setIfInBounds_toArray, List.set_cons_zero, List.set_cons_succ]
        refine anyH_take 32 90 (.bool true) SD rfl (by kernel_rfl) (by kernel_rfl) (by kernel_rfl) (fun _ _ _ h => h) (by rfl) (by intro x hx; have y0 := hx; (first | exact exec_arr 54 (.tmp 11) b11 0 #[.int .i64 18, .int .i64 32, .int .i64 4] _ rfl (row_rng hx) Try.underlying54 rfl Try.sizeGeo | go_simp); try (intro h; omega)) ?_
        try simp only [Act.put, List.setIfInBounds_toArray, List.set_cons_zero, List.set_cons_succ]
        refine anyH_one 33 (by kernel_rfl) ?_
        refine wpOp_step rfl (fun Kc hKc => ?_)
        go_simp
        refine (HKN.out _).mono ?_
        rintro e30 z10 ⟨rfl, hb10⟩
        have D10 := Lib.hid (D9.out.trans (hb10.mono D9.out.size))
        have GF : Hid (z10.heap[b_GF]? = some (.cells #[.int .i64 18, .int .i64 32, .int .i64 4, .int .i64 32, .int .i64 64, .int .i64 64] 54 (0, 0))) := (hb10.block _ (lt_of_block GF.out)).trans GF.out
        have GW : Hid (z10.heap[b_GW]? = some (.cells #[.int .u8 1] 5 (0, 0))) := (hb10.block _ (lt_of_block GW.out)).trans GW.out
        have GX : Hid (z10.heap[b_GX]? = some (.cells #[.int .i64 18, .int .i64 32, .int .i64 4] 54 (0, 0))) := (hb10.block _ (lt_of_block GX.out)).trans GX.out
        have GY : Hid (z10.heap[b_GY]? = some (.cells #[.int .i64 (-1)] 3 (0, 0))) := (hb10.block _ (lt_of_block GY.out)).trans GY.out
        clear hb10
        dsimp only
        refine hKc _ _ ⟨KZ.out _ D10.out, ?_⟩
        clear hKc Kc
        try simp only [Act.put, List.setIfInBounds_toArray, List.set_cons_zero, List.set_cons_succ]
        clear SD
        have SD := KZ.out _ D10.out
        refine anyH_take 34 92 (.bool true) SD rfl (by kernel_rfl) (by kernel_rfl) (by kernel_rfl) (fun _ _ _ h => h) (by rfl) (by intro x hx; have y0 := hx; (first | exact exec_arr 54 (.tmp 11) b11 0 #[.int .i64 18, .int .i64 32, .int .i64 4] _ rfl (row_rng hx) Try.underlying54 rfl Try.sizeGeo | go_simp); try (intro h; omega)) ?_
        try simp only [Act.put, List.setIfInBounds_toArray, List.set_cons_zero, List.set_cons_succ]
        refine anyH_take 35 0 (.bool true) SD rfl (by kernel_rfl) (by kernel_rfl) (by kernel_rfl) (fun _ _ _ h => h) (by rfl) (by intro x hx; have y0 := hx; (first | exact exec_arr 54 (.tmp 11) b11 0 #[.int .i64 18, .int .i64 32, .int .i64 4] _ rfl (row_rng hx) Try.underlying54 rfl Try.sizeGeo | go_simp); try (intro h; omega)) ?_
        try simp only [Act.put, List.setIfInBounds_toArray, List.set_cons_zero]
        refine wpAnyH_done (by kernel_rfl) ?_ _
        go_wp2
        go_ret
        exact ⟨rfl, BZ.out.trans (D10.out.mono BZ.out.size)⟩
      · refine wpOp_step rfl (fun Kc hKc => ?_)
        go_simp
        have D7 : Hid (Below z.heap.size z (z6.alloc (.cells #[.int .i64 (-1)] 3))) := D6.out.alloc D6.out.size _
        refine hKc _ _ ⟨KZ.out _ D7.out, ?_⟩
        clear hKc Kc
        try simp only [Act.put, List.setIfInBounds_toArray, List.set_cons_zero, List.set_cons_succ]
        have GY : Hid ((z6.alloc (.cells #[.int .i64 (-1)] 3)).heap[z6.heap.size]? = some (.cells #[.int .i64 (-1)] 3 (0, 0))) := heap_alloc_new _ _
        have GF : Hid ((z6.alloc (.cells #[.int .i64 (-1)] 3)).heap[b_GF]? = some (.cells #[.int .i64 18, .int .i64 32, .int .i64 4, .int .i64 32, .int .i64 64, .int .i64 64] 54 (0, 0))) := (((Below.refl _ z6).alloc (Nat.le_refl _) _).block _ (lt_of_block GF.out)).trans GF.out
        have GW : Hid ((z6.alloc (.cells #[.int .i64 (-1)] 3)).heap[b_GW]? = some (.cells #[.int .u8 1] 5 (0, 0))) := (((Below.refl _ z6).alloc (Nat.le_refl _) _).block _ (lt_of_block GW.out)).trans GW.out
        obtain ⟨z7, hz7⟩ : ∃ y, y = z6.alloc (.cells #[.int .i64 (-1)] 3) := ⟨_, rfl⟩
        rw [← hz7] at D7 GF GW GY ⊢
        clear hz7 SD
        have SD := KZ.out _ D7.out
        obtain ⟨b_GY, hb_GY⟩ : ∃ b, b = z6.heap.size := ⟨_, rfl⟩
        rw [← hb_GY] at GY ⊢
        clear hb_GY
        refine anyH_one 27 (by kernel_rfl) ?_
        refine wpOp_step rfl (fun Kc hKc => ?_)
        go_simp
        have D8 : Hid (Below z.heap.size z (z7.alloc (.cells #[.int .i64 18, .int .i64 32, .int .i64 4] 54))) := D7.out.alloc D7.out.size _
        refine hKc _ _ ⟨KZ.out _ D8.out, ?_⟩
        clear hKc Kc
        try simp only [Act.put, List.setIfInBounds_toArray, List.set_cons_zero, List.set_cons_succ]
        have GX : Hid ((z7.alloc (.cells #[.int .i64 18, .int .i64 32, .int .i64 4] 54)).heap[z7.heap.size]? = some (.cells #[.int .i64 18, .int .i64 32, .int .i64 4] 54 (0, 0))) := heap_alloc_new _ _
        have GF : Hid ((z7.alloc (.cells #[.int .i64 18, .int .i64 32, .int .i64 4] 54)).heap[b_GF]? = some (.cells #[.int .i64 18, .int .i64 32, .int .i64 4, .int .i64 32, .int .i64 64, .int .i64 64] 54 (0, 0))) := (((Below.refl _ z7).alloc (Nat.le_refl _) _).block _ (lt_of_block GF.out)).trans GF.out
        have GW : Hid ((z7.alloc (.cells #[.int .i64 18, .int .i64 32, .int .i64 4] 54)).heap[b_GW]? = some (.cells #[.int .u8 1] 5 (0, 0))) := (((Below.refl _ z7).alloc (Nat.le_refl _) _).block _ (lt_of_block GW.out)).trans GW.out
        have GY : Hid ((z7.alloc (.cells #[.int .i64 18, .int .i64 32, .int .i64 4] 54)).heap[b_GY]? = some (.cells #[.int .i64 (-1)] 3 (0, 0))) := (((Below.refl _ z7).alloc (Nat.le_refl _) _).block _ (lt_of_block GY.out)).trans GY.out
        obtain ⟨z8, hz8⟩ : ∃ y, y = z7.alloc (.cells #[.int .i64 18, .int .i64 32, .int .i64 4] 54) := ⟨_, rfl⟩
        rw [← hz8] at D8 GF GW GY GX ⊢
        clear hz8 SD
        have SD := KZ.out _ D8.out
        obtain ⟨b_GX, hb_GX⟩ : ∃ b, b = z7.heap.size := ⟨_, rfl⟩
        rw [← hb_GX] at GX ⊢
        clear hb_GX
        refine anyH_one 30 (by kernel_rfl) ?_
        refine wpOp_step rfl (fun Kc hKc => ?_)
        go_simp
        refine (HF2.out _ _ _ _ GX.out GY.out GW.out).mono ?_
        rintro e29 z9 ⟨rfl, hb9⟩
        have D9 := Lib.hid (D8.out.trans (hb9.mono D8.out.size))
        have GF : Hid (z9.heap[b_GF]? = some (.cells #[.int .i64 18, .int .i64 32, .int .i64 4, .int .i64 32, .int .i64 64, .int .i64 64] 54 (0, 0))) := (hb9.block _ (lt_of_block GF.out)).trans GF.out
        have GW : Hid (z9.heap[b_GW]? = some (.cells #[.int .u8 1] 5 (0, 0))) := (hb9.block _ (lt_of_block GW.out)).trans GW.out
        have GY : Hid (z9.heap[b_GY]? = some (.cells #[.int .i64 (-1)] 3 (0, 0))) := (hb9.block _ (lt_of_block GY.out)).trans GY.out
        have GX : Hid (z9.heap[b_GX]? = some (.cells #[.int .i64 18, .int .i64 32, .int .i64 4] 54 (0, 0))) := (hb9.block _ (lt_of_block GX.out)).trans GX.out
        clear hb9
        dsimp only
        refine hKc _ _ ⟨KZ.out _ D9.out, ?_⟩
        clear hKc Kc
        try simp only [Act.put, List.setIfInBounds_toArray, List.set_cons_zero, List.set_cons_succ]
        clear SD
        have SD := KZ.out _ D9.out
        refine anyH_take 31 89 (.bool true) SD rfl (by kernel_rfl) (by kernel_rfl) (by kernel_rfl) (fun _ _ _ h => h) (by rfl) (by intro x hx; have y0 := hx; (first | exact exec_arr 54 (.tmp 11) b11 0 #[.int .i64 18, .int .i64 32, .int .i64 4] _ rfl (row_rng hx) Try.underlying54 rfl Try.sizeGeo | go_simp); try (intro h; omega)) ?_
        try simp only [Act.put, List.setIfInBounds_toArray, List.set_cons_zero, List.set_cons_succ]
        refine anyH_take 32 90 (.bool true) SD rfl (by kernel_rfl) (by kernel_rfl) (by kernel_rfl) (fun _ _ _ h => h) (by rfl) (by intro x hx; have y0 := hx; (first | exact exec_arr 54 (.tmp 11) b11 0 #[.int .i64 18, .int .i64 32, .int .i64 4] _ rfl (row_rng hx) Try.underlying54 rfl Try.sizeGeo | go_simp); try (intro h; omega)) ?_
        try simp only [Act.put, List.setIfInBounds_toArray, List.set_cons_zero, List.set_cons_succ]
        refine anyH_one 33 (by kernel_rfl) ?_
        refine wpOp_step rfl (fun Kc hKc => ?_)
        go_simp
        refine (HKN.out _).mono ?_
        rintro e30 z10 ⟨rfl, hb10⟩
        have D10 := Lib.hid (D9.out.trans (hb10.mono D9.out.size))
        have GF : Hid (z10.heap[b_GF]? = some (.cells #[.int .i64 18, .int .i64 32, .int .i64 4, .int .i64 32, .int .i64 64, .int .i64 64] 54 (0, 0))) := (hb10.block _ (lt_of_block GF.out)).trans GF.out
        have GW : Hid (z10.heap[b_GW]? = some (.cells #[.int .u8 1] 5 (0, 0))) := (hb10.block _ (lt_of_block GW.out)).trans GW.out
        have GY : Hid (z10.heap[b_GY]? = some (.cells #[.int .i64 (-1)] 3 (0, 0))) := (hb10.block _ (lt_of_block GY.out)).trans GY.out
        have GX : Hid (z10.heap[b_GX]? = some (.cells #[.int .i64 18, .int .i64 32, .int .i64 4] 54 (0, 0))) := (hb10.block _ (lt_of_block GX.out)).trans GX.out
        clear hb10
        dsimp only
        refine hKc _ _ ⟨KZ.out _ D10.out, ?_⟩
        clear hKc Kc
        try simp only [Act.put, List.setIfInBounds_toArray, List.set_cons_zero, List.set_cons_succ]
        clear SD
        have SD := KZ.out _ D10.out
        refine anyH_take 34 92 (.bool true) SD rfl (by kernel_rfl) (by kernel_rfl) (by kernel_rfl) (fun _ _ _ h => h) (by rfl) (by intro x hx; have y0 := hx; (first | exact exec_arr 54 (.tmp 11) b11 0 #[.int .i64 18, .int .i64 32, .int .i64 4] _ rfl (row_rng hx) Try.underlying54 rfl Try.sizeGeo | go_simp); try (intro h; omega)) ?_
        try simp only [Act.put, List.setIfInBounds_toArray, List.set_cons_zero, List.set_cons_succ]
        refine anyH_take 35 0 (.bool true) SD rfl (by kernel_rfl) (by kernel_rfl) (by kernel_rfl) (fun _ _ _ h => h) (by rfl) (by intro x hx; have y0 := hx; (first | exact exec_arr 54 (.tmp 11) b11 0 #[.int .i64 18, .int .i64 32, .int .i64 4] _ rfl (row_rng hx) Try.underlying54 rfl Try.sizeGeo | go_simp); try (intro h; omega)) ?_
        try simp only [Act.put, List.setIfInBounds_toArray, List.set_cons_zero]
        refine wpAnyH_done (by kernel_rfl) ?_ _
        go_wp2
        go_ret
        exact ⟨rfl, BZ.out.trans (D10.out.mono BZ.out.size)⟩
  · refine wpOp_step rfl (fun Kc hKc => ?_)
    go_simp
    have D5 : Hid (Below z.heap.size z (z4.alloc (.cells #[.int .i64 (-1)] 3))) := D4.out.alloc D4.out.size _
    refine hKc _ _ ⟨KZ.out _ D5.out, ?_⟩
    clear hKc Kc
    try simp only [Act.put, List.setIfInBounds_toArray, List.set_cons_zero, List.set_cons_succ]
    have GY : Hid ((z4.alloc (.cells #[.int .i64 (-1)] 3)).heap[z4.heap.size]? = some (.cells #[.int .i64 (-1)] 3 (0, 0))) := heap_alloc_new _ _
    have GF : Hid ((z4.alloc (.cells #[.int .i64 (-1)] 3)).heap[b_GF]? = some (.cells #[.int .i64 18, .int .i64 32, .int .i64 4, .int .i64 32, .int .i64 64, .int .i64 64] 54 (0, 0))) := (((Below.refl _ z4).alloc (Nat.le_refl _) _).block _ (lt_of_block GF.out)).trans GF.out
    obtain ⟨z5, hz5⟩ : ∃ y, y = z4.alloc (.cells #[.int .i64 (-1)] 3) := ⟨_, rfl⟩
    rw [← hz5] at D5 GF GY ⊢
    clear hz5 SD
    have SD := KZ.out _ D5.out
    obtain ⟨b_GY, hb_GY⟩ : ∃ b, b = z4.heap.size := ⟨_, rfl⟩
    rw [← hb_GY] at GY ⊢
    clear hb_GY
    refine anyH_of [26, 29] (by kernel_rfl) (by decide) (fun j hj => ?_)
    simp only [List.mem_cons, List.not_mem_nil, or_false] at hj
    rcases hj with rfl | rfl
    · refine wpOp_step rfl (fun Kc hKc => ?_)
      go_simp
      refine (HSM.out _).mono ?_
      rintro e26 z6 ⟨rfl, hb6⟩
      have D6 := Lib.hid (D5.out.trans (hb6.mono D5.out.size))
      have GF : Hid (z6.heap[b_GF]? = some (.cells #[.int .i64 18, .int .i64 32, .int .i64 4, .int .i64 32, .int .i64 64, .int .i64 64] 54 (0, 0))) := (hb6.block _ (lt_of_block GF.out)).trans GF.out
      have GY : Hid (z6.heap[b_GY]? = some (.cells #[.int .i64 (-1)] 3 (0, 0))) := (hb6.block _ (lt_of_block GY.out)).trans GY.out
      clear hb6
      dsimp only
      refine hKc _ _ ⟨KZ.out _ D6.out, ?_⟩
      clear hKc Kc
      try simp only [Act.put, List.setIfInBounds_toArray, List.set_cons_zero, List.set_cons_succ]
      clear SD
      have SD := KZ.out _ D6.out
      refine anyH_of [27, 29] (by kernel_rfl) (by decide) (fun j hj => ?_)
      simp only [List.mem_cons, List.not_mem_nil, or_false] at hj
      rcases hj with rfl | rfl
      · refine wpOp_step rfl (fun Kc hKc => ?_)
        go_simp
        have D7 : Hid (Below z.heap.size z (z6.alloc (.cells #[.int .i64 18, .int .i64 32, .int .i64 4] 54))) := D6.out.alloc D6.out.size _
        refine hKc _ _ ⟨KZ.out _ D7.out, ?_⟩
        clear hKc Kc
        try simp only [Act.put, List.setIfInBounds_toArray, List.set_cons_zero, List.set_cons_succ]
        have GX : Hid ((z6.alloc (.cells #[.int .i64 18, .int .i64 32, .int .i64 4] 54)).heap[z6.heap.size]? = some (.cells #[.int .i64 18, .int .i64 32, .int .i64 4] 54 (0, 0))) := heap_alloc_new _ _
        have GF : Hid ((z6.alloc (.cells #[.int .i64 18, .int .i64 32, .int .i64 4] 54)).heap[b_GF]? = some (.cells #[.int .i64 18, .int .i64 32, .int .i64 4, .int .i64 32, .int .i64 64, .int .i64 64] 54 (0, 0))) := (((Below.refl _ z6).alloc (Nat.le_refl _) _).block _ (lt_of_block GF.out)).trans GF.out
        have GY : Hid ((z6.alloc (.cells #[.int .i64 18, .int .i64 32, .int .i64 4] 54)).heap[b_GY]? = some (.cells #[.int .i64 (-1)] 3 (0, 0))) := (((Below.refl _ z6).alloc (Nat.le_refl _) _).block _ (lt_of_block GY.out)).trans GY.out
        obtain ⟨z7, hz7⟩ : ∃ y, y = z6.alloc (.cells #[.int .i64 18, .int .i64 32, .int .i64 4] 54) := ⟨_, rfl⟩
        rw [← hz7] at D7 GF GY GX ⊢
        clear hz7 SD
        have SD := KZ.out _ D7.out
        obtain ⟨b_GX, hb_GX⟩ : ∃ b, b = z6.heap.size := ⟨_, rfl⟩
        rw [← hb_GX] at GX ⊢
        clear hb_GX
        refine anyH_one 29 (by kernel_rfl) ?_
        refine wpOp_step rfl (fun Kc hKc => ?_)
        go_simp
        have D8 : Hid (Below z.heap.size z (z7.alloc (.cells #[.int .u8 1] 5))) := D7.out.alloc D7.out.size _
        refine hKc _ _ ⟨KZ.out _ D8.out, ?_⟩
        clear hKc Kc
        try simp only [Act.put, List.setIfInBounds_toArray, List.set_cons_zero, List.set_cons_succ]
        have GW : Hid ((z7.alloc (.cells #[.int .u8 1] 5)).heap[z7.heap.size]? = some (.cells #[.int .u8 1] 5 (0, 0))) := heap_alloc_new _ _
        have GF : Hid ((z7.alloc (.cells #[.int .u8 1] 5)).heap[b_GF]? = some (.cells #[.int .i64 18, .int .i64 32, .int .i64 4, .int .i64 32, .int .i64 64, .int .i64 64] 54 (0, 0))) := (((Below.refl _ z7).alloc (Nat.le_refl _) _).block _ (lt_of_block GF.out)).trans GF.out
        have GY : Hid ((z7.alloc (.cells #[.int .u8 1] 5)).heap[b_GY]? = some (.cells #[.int .i64 (-1)] 3 (0, 0))) := (((Below.refl _ z7).alloc (Nat.le_refl _) _).block _ (lt_of_block GY.out)).trans GY.out
        have GX : Hid ((z7.alloc (.cells #[.int .u8 1] 5)).heap[b_GX]? = some (.cells #[.int .i64 18, .int .i64 32, .int .i64 4] 54 (0, 0))) := (((Below.refl _ z7).alloc (Nat.le_refl _) _).block _ (lt_of_block GX.out)).trans GX.out
        obtain ⟨z8, hz8⟩ : ∃ y, y = z7.alloc (.cells #[.int .u8 1] 5) := ⟨_, rfl⟩
        rw [← hz8] at D8 GF GY GX GW ⊢
        clear hz8 SD
        have SD := KZ.out _ D8.out
        obtain ⟨b_GW, hb_GW⟩ : ∃ b, b = z7.heap.size := ⟨_, rfl⟩
        rw [← hb_GW] at GW ⊢
        clear hb_GW
        refine anyH_one 30 (by kernel_rfl) ?_
        refine wpOp_step rfl (fun Kc hKc => ?_)
        go_simp
        refine (HF2.out _ _ _ _ GX.out GY.out GW.out).mono ?_
        rintro e29 z9 ⟨rfl, hb9⟩
        have D9 := Lib.hid (D8.out.trans (hb9.mono D8.out.size))
        have GF : Hid (z9.heap[b_GF]? = some (.cells #[.int .i64 18, .int .i64 32, .int .i64 4, .int .i64 32, .int .i64 64, .int .i64 64] 54 (0, 0))) := (hb9.block _ (lt_of_block GF.out)).trans GF.out
        have GY : Hid (z9.heap[b_GY]? = some (.cells #[.int .i64 (-1)] 3 (0, 0))) := (hb9.block _ (lt_of_block GY.out)).trans GY.out
        have GX : Hid (z9.heap[b_GX]? = some (.cells #[.int .i64 18, .int .i64 32, .int .i64 4] 54 (0, 0))) := (hb9.block _ (lt_of_block GX.out)).trans GX.out
        have GW : Hid (z9.heap[b_GW]? = some (.cells #[.int .u8 1] 5 (0, 0))) := (hb9.block _ (lt_of_block GW.out)).trans GW.out
        clear hb9
        dsimp only
        refine hKc _ _ ⟨KZ.out _ D9.out, ?_⟩
        clear hKc Kc
        try simp only [Act.put, List.setIfInBounds_toArray, List.set_cons_zero, List.set_cons_succ]
        clear SD
        have SD := KZ.out _ D9.out
        refine anyH_take 31 89 (.bool true) SD rfl (by kernel_rfl) (by kernel_rfl) (by kernel_rfl) (fun _ _ _ h => h) (by rfl) (by intro x hx; have y0 := hx; (first | exact exec_arr 54 (.tmp 11) b11 0 #[.int .i64 18, .int .i64 32, .int .i64 4] _ rfl (row_rng hx) Try.underlying54 rfl Try.sizeGeo | go_simp); try (intro h; omega)) ?_
        try simp only [Act.put, List.setIfInBounds_toArray, List.set_cons_zero, List.set_cons_succ]
        refine anyH_take 32 90 (.bool true) SD rfl (by kernel_rfl) (by kernel_rfl) (by kernel_rfl) (fun _ _ _ h => h) (by rfl) (by intro x hx; have y0 := hx; (first | exact exec_arr 54 (.tmp 11) b11 0 #[.int .i64 18, .int .i64 32, .int .i64 4] _ rfl (row_rng hx) Try.underlying54 rfl Try.sizeGeo | go_simp); try (intro h; omega)) ?_
        try simp only [Act.put, List.setIfInBounds_toArray, List.set_cons_zero, List.set_cons_succ]
        refine anyH_one 33 (by kernel_rfl) ?_
        refine wpOp_step rfl (fun Kc hKc => ?_)
        go_simp
        refine (HKN.out _).mono ?_
        rintro e30 z10 ⟨rfl, hb10⟩
        have D10 := Lib.hid (D9.out.trans (hb10.mono D9.out.size))
        have GF : Hid (z10.heap[b_GF]? = some (.cells #[.int .i64 18, .int .i64 32, .int .i64 4, .int .i64 32, .int .i64 64, .int .i64 64] 54 (0, 0))) := (hb10.block _ (lt_of_block GF.out)).trans GF.out
        have GY : Hid (z10.heap[b_GY]? = some (.cells #[.int .i64 (-1)] 3 (0, 0))) := (hb10.block _ (lt_of_block GY.out)).trans GY.out
        have GX : Hid (z10.heap[b_GX]? = some (.cells #[.int .i64 18, .int .i64 32, .int .i64 4] 54 (0, 0))) := (hb10.block _ (lt_of_block GX.out)).trans GX.out
        have GW : Hid (z10.heap[b_GW]? = some (.cells #[.int .u8 1] 5 (0, 0))) := (hb10.block _ (lt_of_block GW.out)).trans GW.out
        clear hb10
        dsimp only
        refine hKc _ _ ⟨KZ.out _ D10.out, ?_⟩
        clear hKc Kc
        try simp only [Act.put, List.setIfInBounds_toArray, List.set_cons_zero, List.set_cons_succ]
        clear SD
        have SD := KZ.out _ D10.out
        refine anyH_take 34 92 (.bool true) SD rfl (by kernel_rfl) (by kernel_rfl) (by kernel_rfl) (fun _ _ _ h => h) (by rfl) (by intro x hx; have y0 := hx; (first | exact exec_arr 54 (.tmp 11) b11 0 #[.int .i64 18, .int .i64 32, .int .i64 4] _ rfl (row_rng hx) Try.underlying54 rfl Try.sizeGeo | go_simp); try (intro h; omega)) ?_
        try simp only [Act.put, List.setIfInBounds_toArray, List.set_cons_zero, List.set_cons_succ]
        refine anyH_take 35 0 (.bool true) SD rfl (by kernel_rfl) (by kernel_rfl) (by kernel_rfl) (fun _ _ _ h => h) (by rfl) (by intro x hx; have y0 := hx; (first | exact exec_arr 54 (.tmp 11) b11 0 #[.int .i64 18, .int .i64 32, .int .i64 4] _ rfl (row_rng hx) Try.underlying54 rfl Try.sizeGeo | go_simp); try (intro h; omega)) ?_
        try simp only [Act.put, List.setIfInBounds_toArray, List.set_cons_zero]
        refine wpAnyH_done (by kernel_rfl) ?_ _
        go_wp2
        go_ret
        exact ⟨rfl, BZ.out.trans (D10.out.mono BZ.out.size)⟩
      · refine wpOp_step rfl (fun Kc hKc => ?_)
        go_simp
        have D7 : Hid (Below z.heap.size z (z6.alloc (.cells #[.int .u8 1] 5))) := D6.out.alloc D6.out.size _
        refine hKc _ _ ⟨KZ.out _ D7.out, ?_⟩
        clear hKc Kc
        try simp only [Act.put, List.setIfInBounds_toArray, List.set_cons_zero, List.set_cons_succ]
        have GW : Hid ((z6.alloc (.cells #[.int .u8 1] 5)).heap[z6.heap.size]? = some (.cells #[.int .u8 1] 5 (0, 0))) := heap_alloc_new _ _
        have GF : Hid ((z6.alloc (.cells #[.int .u8 1] 5)).heap[b_GF]? = some (.cells #[.int .i64 18, .int .i64 32, .int .i64 4, .int .i64 32, .int .i64 64, .int .i64 64] 54 (0, 0))) := (((Below.refl _ z6).alloc (Nat.le_refl _) _).block _ (lt_of_block GF.out)).trans GF.out
        have GY : Hid ((z6.alloc (.cells #[.int .u8 1] 5)).heap[b_GY]? = some (.cells #[.int .i64 (-1)] 3 (0, 0))) := (((Below.refl _ z6).alloc (Nat.le_refl _) _).block _ (lt_of_block GY.out)).trans GY.out
        obtain ⟨z7, hz7⟩ : ∃ y, y = z6.alloc (.cells #[.int .u8 1] 5) := ⟨_, rfl⟩
        rw [← hz7] at D7 GF GY GW ⊢
        clear hz7 SD
        have SD := KZ.out _ D7.out
        obtain ⟨b_GW, hb_GW⟩ : ∃ b, b = z6.heap.size := ⟨_, rfl⟩
        rw [← hb_GW] at GW ⊢
        clear hb_GW
        refine anyH_one 27 (by kernel_rfl) ?_
        refine wpOp_step rfl (fun Kc hKc => ?_)
        go_simp
        have D8 : Hid (Below z.heap.size z (z7.alloc (.cells #[.int .i64 18, .int .i64 32, .int .i64 4] 54))) := D7.out.alloc D7.out.size _
        refine hKc _ _ ⟨KZ.out _ D8.out, ?_⟩
        clear hKc Kc
        try simp only [Act.put, List.setIfInBounds_toArray, List.set_cons_zero, List.set_cons_succ]
        have GX : Hid ((z7.alloc (.cells #[.int .i64 18, .int .i64 32, .int .i64 4] 54)).heap[z7.heap.size]? = some (.cells #[.int .i64 18, .int .i64 32, .int .i64 4] 54 (0, 0))) := heap_alloc_new _ _
        have GF : Hid ((z7.alloc (.cells #[.int .i64 18, .int .i64 32, .int .i64 4] 54)).heap[b_GF]? = some (.cells #[.int .i64 18, .int .i64 32, .int .i64 4, .int .i64 32, .int .i64 64, .int .i64 64] 54 (0, 0))) := (((Below.refl _ z7).alloc (Nat.le_refl _) _).block _ (lt_of_block GF.out)).trans GF.out
        have GY : Hid ((z7.alloc (.cells #[.int .i64 18, .int .i64 32, .int .i64 4] 54)).heap[b_GY]? = some (.cells #[.int .i64 (-1)] 3 (0, 0))) := (((Below.refl _ z7).alloc (Nat.le_refl _) _).block _ (lt_of_block GY.out)).trans GY.out
        have GW : Hid ((z7.alloc (.cells #[.int .i64 18, .int .i64 32, .int .i64 4] 54)).heap[b_GW]? = some (.cells #[.int .u8 1] 5 (0, 0))) := (((Below.refl _ z7).alloc (Nat.le_refl _) _).block _ (lt_of_block GW.out)).trans GW.out
        obtain ⟨z8, hz8⟩ : ∃ y, y = z7.alloc (.cells #[.int .i64 18, .int .i64 32, .int .i64 4] 54) := ⟨_, rfl⟩
        rw [← hz8] at D8 GF GY GW GX ⊢
        clear hz8 SD
        have SD := KZ.out _ D8.out
        obtain ⟨b_GX, hb_GX⟩ : ∃ b, b = z7.heap.size := ⟨_, rfl⟩
        rw [← hb_GX] at GX ⊢
        clear hb_GX
        refine anyH_one 30 (by kernel_rfl) ?_
        refine wpOp_step rfl (fun Kc hKc => ?_)
        go_simp
        refine (HF2.out _ _ _ _ GX.out GY.out GW.out).mono ?_
        rintro e29 z9 ⟨rfl, hb9⟩
        have D9 := Lib.hid (D8.out.trans (hb9.mono D8.out.size))
        have GF : Hid (z9.heap[b_GF]? = some (.cells #[.int .i64 18, .int .i64 32, .int .i64 4, .int .i64 32, .int .i64 64, .int .i64 64] 54 (0, 0))) := (hb9.block _ (lt_of_block GF.out)).trans GF.out
        have GY : Hid (z9.heap[b_GY]? = some (.cells #[.int .i64 (-1)] 3 (0, 0))) := (hb9.block _ (lt_of_block GY.out)).trans GY.out
        have GW : Hid (z9.heap[b_GW]? = some (.cells #[.int .u8 1] 5 (0, 0))) := (hb9.block _ (lt_of_block GW.out)).trans GW.out
        have GX : Hid (z9.heap[b_GX]? = some (.cells #[.int .i64 18, .int .i64 32, .int .i64 4] 54 (0, 0))) := (hb9.block _ (lt_of_block GX.out)).trans GX.out
        clear hb9
        dsimp only
        refine hKc _ _ ⟨KZ.out _ D9.out, ?_⟩
        clear hKc Kc
        try simp only [Act.put, List.setIfInBounds_toArray, List.set_cons_zero, List.set_cons_succ]
        clear SD
        have SD := KZ.out _ D9.out
        refine anyH_take 31 89 (.bool true) SD rfl (by kernel_rfl) (by kernel_rfl) (by kernel_rfl) (fun _ _ _ h => h) (by rfl) (by intro x hx; have y0 := hx; (first | exact exec_arr 54 (.tmp 11) b11 0 #[.int .i64 18, .int .i64 32, .int .i64 4] _ rfl (row_rng hx) Try.underlying54 rfl Try.sizeGeo | go_simp); try (intro h; omega)) ?_
        try simp only [Act.put, List.setIfInBounds_toArray, List.set_cons_zero, List.set_cons_succ]
        refine anyH_take 32 90 (.bool true) SD rfl (by kernel_rfl) (by kernel_rfl) (by kernel_rfl) (fun _ _ _ h => h) (by rfl) (by intro x hx; have y0 := hx; (first | exact exec_arr 54 (.tmp 11) b11 0 #[.int .i64 18, .int .i64 32, .int .i64 4] _ rfl (row_rng hx) Try.underlying54 rfl Try.sizeGeo | go_simp); try (intro h; omega)) ?_
        try simp only [Act.put, List.setIfInBounds_toArray, List.set_cons_zero, List.set_cons_succ]
        refine anyH_one 33 (by kernel_rfl) ?_
        refine wpOp_step rfl (fun Kc hKc => ?_)
        go_simp
        refine (HKN.out _).mono ?_
        rintro e30 z10 ⟨rfl, hb10⟩
        have D10 := Lib.hid (D9.out.trans (hb10.mono D9.out.size))
        have GF : Hid (z10.heap[b_GF]? = some (.cells #[.int .i64 18, .int .i64 32, .int .i64 4, .int .i64 32, .int .i64 64, .int .i64 64] 54 (0, 0))) := (hb10.block _ (lt_of_block GF.out)).trans GF.out
        have GY : Hid (z10.heap[b_GY]? = some (.cells #[.int .i64 (-1)] 3 (0, 0))) := (hb10.block _ (lt_of_block GY.out)).trans GY.out
        have GW : Hid (z10.heap[b_GW]? = some (.cells #[.int .u8 1] 5 (0, 0))) := (hb10.block _ (lt_of_block GW.out)).trans GW.out
        have GX : Hid (z10.heap[b_GX]? = some (.cells #[.int .i64 18, .int .i64 32, .int .i64 4] 54 (0, 0))) := (hb10.block _ (lt_of_block GX.out)).trans GX.out
        clear hb10
        dsimp only
        refine hKc _ _ ⟨KZ.out _ D10.out, ?_⟩
        clear hKc Kc
        try simp only [Act.put, List.setIfInBounds_toArray, List.set_cons_zero, List.set_cons_succ]
        clear SD
        have SD := KZ.out _ D10.out
        refine anyH_take 34 92 (.bool true) SD rfl (by kernel_rfl) (by kernel_rfl) (by kernel_rfl) (fun _ _ _ h => h) (by rfl) (by intro x hx; have y0 := hx; (first | exact exec_arr 54 (.tmp 11) b11 0 #[.int .i64 18, .int .i64 32, .int .i64 4] _ rfl (row_rng hx) Try.underlying54 rfl Try.sizeGeo | go_simp); try (intro h; omega)) ?_
        try simp only [Act.put, List.setIfInBounds_toArray, List.set_cons_zero, List.set_cons_succ]
        refine anyH_take 35 0 (.bool true) SD rfl (by kernel_rfl) (by kernel_rfl) (by kernel_rfl) (fun _ _ _ h => h) (by rfl) (by intro x hx; have y0 := hx; (first | exact exec_arr 54 (.tmp 11) b11 0 #[.int .i64 18, .int .i64 32, .int .i64 4] _ rfl (row_rng hx) Try.underlying54 rfl Try.sizeGeo | go_simp); try (intro h; omega)) ?_
        try simp only [Act.put, List.setIfInBounds_toArray, List.set_cons_zero]
        refine wpAnyH_done (by kernel_rfl) ?_ _
        go_wp2
        go_ret
        exact ⟨rfl, BZ.out.trans (D10.out.mono BZ.out.size)⟩
    · refine wpOp_step rfl (fun Kc hKc => ?_)
      go_simp
      have D6 : Hid (Below z.heap.size z (z5.alloc (.cells #[.int .u8 1] 5))) := D5.out.alloc D5.out.size _
      refine hKc _ _ ⟨KZ.out _ D6.out, ?_⟩
      clear hKc Kc
      try simp only [Act.put, List.setIfInBounds_toArray, List.set_cons_zero, List.set_cons_succ]
      have GW : Hid ((z5.alloc (.cells #[.int .u8 1] 5)).heap[z5.heap.size]? = some (.cells #[.int .u8 1] 5 (0, 0))) := heap_alloc_new _ _
      have GF : Hid ((z5.alloc (.cells #[.int .u8 1] 5)).heap[b_GF]? = some (.cells #[.int .i64 18, .int .i64 32, .int .i64 4, .int .i64 32, .int .i64 64, .int .i64 64] 54 (0, 0))) := (((Below.refl _ z5).alloc (Nat.le_refl _) _).block _ (lt_of_block GF.out)).trans GF.out
      have GY : Hid ((z5.alloc (.cells #[.int .u8 1] 5)).heap[b_GY]? = some (.cells #[.int .i64 (-1)] 3 (0, 0))) := (((Below.refl _ z5).alloc (Nat.le_refl _) _).block _ (lt_of_block GY.out)).trans GY.out
      obtain ⟨z6, hz6⟩ : ∃ y, y = z5.alloc (.cells #[.int .u8 1] 5) := ⟨_, rfl⟩
      rw [← hz6] at D6 GF GY GW ⊢
      clear hz6 SD
      have SD := KZ.out _ D6.out
      obtain ⟨b_GW, hb_GW⟩ : ∃ b, b = z5.heap.size := ⟨_, rfl⟩
      rw [← hb_GW] at GW ⊢
      clear hb_GW
      refine anyH_one 26 (by kernel_rfl) ?_
      refine wpOp_step rfl (fun Kc hKc => ?_)
      go_simp
      refine (HSM.out _).mono ?_
      rintro e27 z7 ⟨rfl, hb7⟩
      have D7 := Lib.hid (D6.out.trans (hb7.mono D6.out.size))
      have GF : Hid (z7.heap[b_GF]? = some (.cells #[.int .i64 18, .int .i64 32, .int .i64 4, .int .i64 32, .int .i64 64, .int .i64 64] 54 (0, 0))) := (hb7.block _ (lt_of_block GF.out)).trans GF.out
      have GY : Hid (z7.heap[b_GY]? = some (.cells #[.int .i64 (-1)] 3 (0, 0))) := (hb7.block _ (lt_of_block GY.out)).trans GY.out
      have GW : Hid (z7.heap[b_GW]? = some (.cells #[.int .u8 1] 5 (0, 0))) := (hb7.block _ (lt_of_block GW.out)).trans GW.out
      clear hb7
      dsimp only
      refine hKc _ _ ⟨KZ.out _ D7.out, ?_⟩
      clear hKc Kc
      try simp only [Act.put, List.setIfInBounds_toArray, List.set_cons_zero, List.set_cons_succ]
      clear SD
      have SD := KZ.out _ D7.out
      refine anyH_one 27 (by kernel_rfl) ?_
      refine wpOp_step rfl (fun Kc hKc => ?_)
      go_simp
      have D8 : Hid (Below z.heap.size z (z7.alloc (.cells #[.int .i64 18, .int .i64 32, .int .i64 4] 54))) := D7.out.alloc D7.out.size _
      refine hKc _ _ ⟨KZ.out _ D8.out, ?_⟩
      clear hKc Kc
      try simp only [Act.put, List.setIfInBounds_toArray, List.set_cons_zero, List.set_cons_succ]
      have GX : Hid ((z7.alloc (.cells #[.int .i64 18, .int .i64 32, .int .i64 4] 54)).heap[z7.heap.size]? = some (.cells #[.int .i64 18, .int .i64 32, .int .i64 4] 54 (0, 0))) := heap_alloc_new _ _
      have GF : Hid ((z7.alloc (.cells #[.int .i64 18, .int .i64 32, .int .i64 4] 54)).heap[b_GF]? = some (.cells #[.int .i64 18, .int .i64 32, .int .i64 4, .int .i64 32, .int .i64 64, .int .i64 64] 54 (0, 0))) := (((Below.refl _ z7).alloc (Nat.le_refl _) _).block _ (lt_of_block GF.out)).trans GF.out
      have GY : Hid ((z7.alloc (.cells #[.int .i64 18, .int .i64 32, .int .i64 4] 54)).heap[b_GY]? = some (.cells #[.int .i64 (-1)] 3 (0, 0))) := (((Below.refl _ z7).alloc (Nat.le_refl _) _).block _ (lt_of_block GY.out)).trans GY.out
      have GW : Hid ((z7.alloc (.cells #[.int .i64 18, .int .i64 32, .int .i64 4] 54)).heap[b_GW]? = some (.cells #[.int .u8 1] 5 (0, 0))) := (((Below.refl _ z7).alloc (Nat.le_refl _) _).block _ (lt_of_block GW.out)).trans GW.out
      obtain ⟨z8, hz8⟩ : ∃ y, y = z7.alloc (.cells #[.int .i64 18, .int .i64 32, .int .i64 4] 54) := ⟨_, rfl⟩
      rw [← hz8] at D8 GF GY GW GX ⊢
      clear hz8 SD
      have SD := KZ.out _ D8.out
      obtain ⟨b_GX, hb_GX⟩ : ∃ b, b = z7.heap.size := ⟨_, rfl⟩
      rw [← hb_GX] at GX ⊢
      clear hb_GX
      refine anyH_one 30 (by kernel_rfl) ?_
      refine wpOp_step rfl (fun Kc hKc => ?_)
      go_simp
      refine (HF2.out _ _ _ _ GX.out GY.out GW.out).mono ?_
      rintro e29 z9 ⟨rfl, hb9⟩
      have D9 := Lib.hid (D8.out.trans (hb9.mono D8.out.size))
      have GF : Hid (z9.heap[b_GF]? = some (.cells #[.int .i64 18, .int .i64 32, .int .i64 4, .int .i64 32, .int .i64 64, .int .i64 64] 54 (0, 0))) := (hb9.block _ (lt_of_block GF.out)).trans GF.out
      have GY : Hid (z9.heap[b_GY]? = some (.cells #[.int .i64 (-1)] 3 (0, 0))) := (hb9.block _ (lt_of_block GY.out)).trans GY.out
      have GW : Hid (z9.heap[b_GW]? = some (.cells #[.int .u8 1] 5 (0, 0))) := (hb9.block _ (lt_of_block GW.out)).trans GW.out
      have GX : Hid (z9.heap[b_GX]? = some (.cells #[.int .i64 18, .int .i64 32, .int .i64 4] 54 (0, 0))) := (hb9.block _ (lt_of_block GX.out)).trans GX.out
      clear hb9
      dsimp only
      refine hKc _ _ ⟨KZ.out _ D9.out, ?_⟩
      clear hKc Kc
      try simp only [Act.put, List.setIfInBounds_toArray, List.set_cons_zero, List.set_cons_succ]
      clear SD
      have SD := KZ.out _ D9.out
      refine anyH_take 31 89 (.bool true) SD rfl (by kernel_rfl) (by kernel_rfl) (by kernel_rfl) (fun _ _ _ h => h) (by rfl) (by intro x hx; have y0 := hx; (first | exact exec_arr 54 (.tmp 11) b11 0 #[.int .i64 18, .int .i64 32, .int .i64 4] _ rfl (row_rng hx) Try.underlying54 rfl Try.sizeGeo | go_simp); try (intro h; omega)) ?_
      try simp only [Act.put, List.setIfInBounds_toArray, List.set_cons_zero, List.set_cons_succ]
      refine anyH_take 32 90 (.bool true) SD rfl (by kernel_rfl) (by kernel_rfl) (by kernel_rfl) (fun _ _ _ h => h) (by rfl) (by intro x hx; have y0 := hx; (first | exact exec_arr 54 (.tmp 11) b11 0 #[.int .i64 18, .int .i64 32, .int .i64 4] _ rfl (row_rng hx) Try.underlying54 rfl Try.sizeGeo | go_simp); try (intro h; omega)) ?_
      try simp only [Act.put, List.setIfInBounds_toArray, List.set_cons_zero, List.set_cons_succ]
      refine anyH_one 33 (by kernel_rfl) ?_
      refine wpOp_step rfl (fun Kc hKc => ?_)
      go_simp
      refine (HKN.out _).mono ?_
      rintro e30 z10 ⟨rfl, hb10⟩
      have D10 := Lib.hid (D9.out.trans (hb10.mono D9.out.size))
      have GF : Hid (z10.heap[b_GF]? = some (.cells #[.int .i64 18, .int .i64 32, .int .i64 4, .int .i64 32, .int .i64 64, .int .i64 64] 54 (0, 0))) := (hb10.block _ (lt_of_block GF.out)).trans GF.out
      have GY : Hid (z10.heap[b_GY]? = some (.cells #[.int .i64 (-1)] 3 (0, 0))) := (hb10.block _ (lt_of_block GY.out)).trans GY.out
      have GW : Hid (z10.heap[b_GW]? = some (.cells #[.int .u8 1] 5 (0, 0))) := (hb10.block _ (lt_of_block GW.out)).trans GW.out
      have GX : Hid (z10.heap[b_GX]? = some (.cells #[.int .i64 18, .int .i64 32, .int .i64 4] 54 (0, 0))) := (hb10.block _ (lt_of_block GX.out)).trans GX.out
      clear hb10
      dsimp only
      refine hKc _ _ ⟨KZ.out _ D10.out, ?_⟩
      clear hKc Kc
      try simp only [Act.put, List.setIfInBounds_toArray, List.set_cons_zero, List.set_cons_succ]
      clear SD
      have SD := KZ.out _ D10.out
      refine anyH_take 34 92 (.bool true) SD rfl (by kernel_rfl) (by kernel_rfl) (by kernel_rfl) (fun _ _ _ h => h) (by rfl) (by intro x hx; have y0 := hx; (first | exact exec_arr 54 (.tmp 11) b11 0 #[.int .i64 18, .int .i64 32, .int .i64 4] _ rfl (row_rng hx) Try.underlying54 rfl Try.sizeGeo | go_simp); try (intro h; omega)) ?_
      try simp only [Act.put, List.setIfInBounds_toArray, List.set_cons_zero, List.set_cons_succ]
      refine anyH_take 35 0 (.bool true) SD rfl (by kernel_rfl) (by kernel_rfl) (by kernel_rfl) (fun _ _ _ h => h) (by rfl) (by intro x hx; have y0 := hx; (first | exact exec_arr 54 (.tmp 11) b11 0 #[.int .i64 18, .int .i64 32, .int .i64 4] _ rfl (row_rng hx) Try.underlying54 rfl Try.sizeGeo | go_simp); try (intro h; omega)) ?_
      try simp only [Act.put, List.setIfInBounds_toArray, List.set_cons_zero]
      refine wpAnyH_done (by kernel_rfl) ?_ _
      go_wp2
      go_ret
      exact ⟨rfl, BZ.out.trans (D10.out.mono BZ.out.size)⟩
  · refine wpOp_step rfl (fun Kc hKc => ?_)
    go_simp
    have D5 : Hid (Below z.heap.size z (z4.alloc (.cells #[.int .u8 1] 5))) := D4.out.alloc D4.out.size _
    refine hKc _ _ ⟨KZ.out _ D5.out, ?_⟩
    clear hKc Kc
    try simp only [Act.put, List.setIfInBounds_toArray, List.set_cons_zero, List.set_cons_succ]
    have GW : Hid ((z4.alloc (.cells #[.int .u8 1] 5)).heap[z4.heap.size]? = some (.cells #[.int .u8 1] 5 (0, 0))) := heap_alloc_new _ _
    have GF : Hid ((z4.alloc (.cells #[.int .u8 1] 5)).heap[b_GF]? = some (.cells #[.int .i64 18, .int .i64 32, .int .i64 4, .int .i64 32, .int .i64 64, .int .i64 64] 54 (0, 0))) := (((Below.refl _ z4).alloc (Nat.le_refl _) _).block _ (lt_of_block GF.out)).trans GF.out
    obtain ⟨z5, hz5⟩ : ∃ y, y = z4.alloc (.cells #[.int .u8 1] 5) := ⟨_, rfl⟩
    rw [← hz5] at D5 GF GW ⊢
    clear hz5 SD
    have SD := KZ.out _ D5.out
    obtain ⟨b_GW, hb_GW⟩ : ∃ b, b = z4.heap.size := ⟨_, rfl⟩
    rw [← hb_GW] at GW ⊢
    clear hb_GW
    refine anyH_of [26, 28] (by kernel_rfl) (by decide) (fun j hj => ?_)
    simp only [List.mem_cons, List.not_mem_nil, or_false] at hj
    rcases hj with rfl | rfl
    · refine wpOp_step rfl (fun Kc hKc => ?_)
      go_simp
      refine (HSM.out _).mono ?_
      rintro e26 z6 ⟨rfl, hb6⟩
      have D6 := Lib.hid (D5.out.trans (hb6.mono D5.out.size))
      have GF : Hid (z6.heap[b_GF]? = some (.cells #[.int .i64 18, .int .i64 32, .int .i64 4, .int .i64 32, .int .i64 64, .int .i64 64] 54 (0, 0))) := (hb6.block _ (lt_of_block GF.out)).trans GF.out
      have GW : Hid (z6.heap[b_GW]? = some (.cells #[.int .u8 1] 5 (0, 0))) := (hb6.block _ (lt_of_block GW.out)).trans GW.out
      clear hb6
      dsimp only
      refine hKc _ _ ⟨KZ.out _ D6.out, ?_⟩
      clear hKc Kc
      try simp only [Act.put, List.setIfInBounds_toArray, List.set_cons_zero, List.set_cons_succ]
      clear SD
      have SD := KZ.out _ D6.out
      refine anyH_of [27, 28] (by kernel_rfl) (by decide) (fun j hj => ?_)
      simp only [List.mem_cons, List.not_mem_nil, or_false] at hj
      rcases hj with rfl | rfl
      · refine wpOp_step rfl (fun Kc hKc => ?_)
        go_simp
        have D7 : Hid (Below z.heap.size z (z6.alloc (.cells #[.int .i64 18, .int .i64 32, .int .i64 4] 54))) := D6.out.alloc D6.out.size _
        refine hKc _ _ ⟨KZ.out _ D7.out, ?_⟩
        clear hKc Kc
        try simp only [Act.put, List.setIfInBounds_toArray, List.set_cons_zero, List.set_cons_succ]
        have GX : Hid ((z6.alloc (.cells #[.int .i64 18, .int .i64 32, .int .i64 4] 54)).heap[z6.heap.size]? = some (.cells #[.int .i64 18, .int .i64 32, .int .i64 4] 54 (0, 0))) := heap_alloc_new _ _
        have GF : Hid ((z6.alloc (.cells #[.int .i64 18, .int .i64 32, .int .i64 4] 54)).heap[b_GF]? = some (.cells #[.int .i64 18, .int .i64 32, .int .i64 4, .int .i64 32, .int .i64 64, .int .i64 64] 54 (0, 0))) := (((Below.refl _ z6).alloc (Nat.le_refl _) _).block _ (lt_of_block GF.out)).trans GF.out
        have GW : Hid ((z6.alloc (.cells #[.int .i64 18, .int .i64 32, .int .i64 4] 54)).heap[b_GW]? = some (.cells #[.int .u8 1] 5 (0, 0))) := (((Below.refl _ z6).alloc (Nat.le_refl _) _).block _ (lt_of_block GW.out)).trans GW.out
        obtain ⟨z7, hz7⟩ : ∃ y, y = z6.alloc (.cells #[.int .i64 18, .int .i64 32, .int .i64 4] 54) := ⟨_, rfl⟩
        rw [← hz7] at D7 GF GW GX ⊢
        clear hz7 SD
        have SD := KZ.out _ D7.out
        obtain ⟨b_GX, hb_GX⟩ : ∃ b, b = z6.heap.size := ⟨_, rfl⟩
        rw [← hb_GX] at GX ⊢
        clear hb_GX
        refine anyH_one 28 (by kernel_rfl) ?_
        refine wpOp_step rfl (fun Kc hKc => ?_)
        go_simp
        have D8 : Hid (Below z.heap.size z (z7.alloc (.cells #[.int .i64 (-1)] 3))) := D7.out.alloc D7.out.size _
        refine hKc _ _ ⟨KZ.out _ D8.out, ?_⟩
        clear hKc Kc
        try simp only [Act.put, List.setIfInBounds_toArray, List.set_cons_zero, List.set_cons_succ]
        have GY : Hid ((z7.alloc (.cells #[.int .i64 (-1)] 3)).heap[z7.heap.size]? = some (.cells #[.int .i64 (-1)] 3 (0, 0))) := heap_alloc_new _ _
        have GF : Hid ((z7.alloc (.cells #[.int .i64 (-1)] 3)).heap[b_GF]? = some (.cells #[.int .i64 18, .int .i64 32, .int .i64 4, .int .i64 32, .int .i64 64, .int .i64 64] 54 (0, 0))) := (((Below.refl _ z7).alloc (Nat.le_refl _) _).block _ (lt_of_block GF.out)).trans GF.out
        have GW : Hid ((z7.alloc (.cells #[.int .i64 (-1)] 3)).heap[b_GW]? = some (.cells #[.int .u8 1] 5 (0, 0))) := (((Below.refl _ z7).alloc (Nat.le_refl _) _).block _ (lt_of_block GW.out)).trans GW.out
        have GX : Hid ((z7.alloc (.cells #[.int .i64 (-1)] 3)).heap[b_GX]? = some (.cells #[.int .i64 18, .int .i64 32, .int .i64 4] 54 (0, 0))) := (((Below.refl _ z7).alloc (Nat.le_refl _) _).block _ (lt_of_block GX.out)).trans GX.out
        obtain ⟨z8, hz8⟩ : ∃ y, y = z7.alloc (.cells #[.int .i64 (-1)] 3) := ⟨_, rfl⟩
        rw [← hz8] at D8 GF GW GX GY ⊢
        clear hz8 SD
        have SD := KZ.out _ D8.out
        obtain ⟨b_GY, hb_GY⟩ : ∃ b, b = z7.heap.size := ⟨_, rfl⟩
        rw [← hb_GY] at GY ⊢
        clear hb_GY
        refine anyH_one 30 (by kernel_rfl) ?_
        refine wpOp_step rfl (fun Kc hKc => ?_)
        go_simp
        refine (HF2.out _ _ _ _ GX.out GY.out GW.out).mono ?_
        rintro e29 z9 ⟨rfl, hb9⟩
        have D9 := Lib.hid (D8.out.trans (hb9.mono D8.out.size))
        have GF : Hid (z9.heap[b_GF]? = some (.cells #[.int .i64 18, .int .i64 32, .int .i64 4, .int .i64 32, .int .i64 64, .int .i64 64] 54 (0, 0))) := (hb9.block _ (lt_of_block GF.out)).trans GF.out
        have GW : Hid (z9.heap[b_GW]? = some (.cells #[.int .u8 1] 5 (0, 0))) := (hb9.block _ (lt_of_block GW.out)).trans GW.out
        have GX : Hid (z9.heap[b_GX]? = some (.cells #[.int .i64 18, .int .i64 32, .int .i64 4] 54 (0, 0))) := (hb9.block _ (lt_of_block GX.out)).trans GX.out
        have GY : Hid (z9.heap[b_GY]? = some (.cells #[.int .i64 (-1)] 3 (0, 0))) := (hb9.block _ (lt_of_block GY.out)).trans GY.out
        clear hb9
        dsimp only
        refine hKc _ _ ⟨KZ.out _ D9.out, ?_⟩
        clear hKc Kc
        try simp only [Act.put, List.setIfInBounds_toArray, List.set_cons_zero, List.set_cons_succ]
        clear SD
        have SD := KZ.out _ D9.out
        refine anyH_take 31 89 (.bool true) SD rfl (by kernel_rfl) (by kernel_rfl) (by kernel_rfl) (fun _ _ _ h => h) (by rfl) (by intro x hx; have y0 := hx; (first | exact exec_arr 54 (.tmp 11) b11 0 #[.int .i64 18, .int .i64 32, .int .i64 4] _ rfl (row_rng hx) Try.underlying54 rfl Try.sizeGeo | go_simp); try (intro h; omega)) ?_
        try simp only [Act.put, List.setIfInBounds_toArray, List.set_cons_zero, List.set_cons_succ]
        refine anyH_take 32 90 (.bool true) SD rfl (by kernel_rfl) (by kernel_rfl) (by kernel_rfl) (fun _ _ _ h => h) (by rfl) (by intro x hx; have y0 := hx; (first | exact exec_arr 54 (.tmp 11) b11 0 #[.int .i64 18, .int .i64 32, .int .i64 4] _ rfl (row_rng hx) Try.underlying54 rfl Try.sizeGeo | go_simp); try (intro h; omega)) ?_
        try simp only [Act.put, List.setIfInBounds_toArray, List.set_cons_zero, List.set_cons_succ]
        refine anyH_one 33 (by kernel_rfl) ?_
        refine wpOp_step rfl (fun Kc hKc => ?_)
        go_simp
        refine (HKN.out _).mono ?_
        rintro e30 z10 ⟨rfl, hb10⟩
        have D10 := Lib.hid (D9.out.trans (hb10.mono D9.out.size))
        have GF : Hid (z10.heap[b_GF]? = some (.cells #[.int .i64 18, .int .i64 32, .int .i64 4, .int .i64 32, .int .i64 64, .int .i64 64] 54 (0, 0))) := (hb10.block _ (lt_of_block GF.out)).trans GF.out
        have GW : Hid (z10.heap[b_GW]? = some (.cells #[.int .u8 1] 5 (0, 0))) := (hb10.block _ (lt_of_block GW.out)).trans GW.out
        have GX : Hid (z10.heap[b_GX]? = some (.cells #[.int .i64 18, .int .i64 32, .int .i64 4] 54 (0, 0))) := (hb10.block _ (lt_of_block GX.out)).trans GX.out
        have GY : Hid (z10.heap[b_GY]? = some (.cells #[.int .i64 (-1)] 3 (0, 0))) := (hb10.block _ (lt_of_block GY.out)).trans GY.out
        clear hb10
        dsimp only
        refine hKc _ _ ⟨KZ.out _ D10.out, ?_⟩
        clear hKc Kc
        try simp only [Act.put, List.setIfInBounds_toArray, List.set_cons_zero, List.set_cons_succ]
        clear SD
        have SD := KZ.out _ D10.out
        refine anyH_take 34 92 (.bool true) SD rfl (by kernel_rfl) (by kernel_rfl) (by kernel_rfl) (fun _ _ _ h => h) (by rfl) (by intro x hx; have y0 := hx; (first | exact exec_arr 54 (.tmp 11) b11 0 #[.int .i64 18, .int .i64 32, .int .i64 4] _ rfl (row_rng hx) Try.underlying54 rfl Try.sizeGeo | go_simp); try (intro h; omega)) ?_
        try simp only [Act.put, List.setIfInBounds_toArray, List.set_cons_zero, List.set_cons_succ]
        refine anyH_take 35 0 (.bool true) SD rfl (by kernel_rfl) (by kernel_rfl) (by kernel_rfl) (fun _ _ _ h => h) (by rfl) (by intro x hx; have y0 := hx; (first | exact exec_arr 54 (.tmp 11) b11 0 #[.int .i64 18, .int .i64 32, .int .i64 4] _ rfl (row_rng hx) Try.underlying54 rfl Try.sizeGeo | go_simp); try (intro h; omega)) ?_
        try simp only [Act.put, List.setIfInBounds_toArray, List.set_cons_zero]
        refine wpAnyH_done (by kernel_rfl) ?_ _
        go_wp2
        go_ret
        exact ⟨rfl, BZ.out.trans (D10.out.mono BZ.out.size)⟩
      · refine wpOp_step rfl (fun Kc hKc => ?_)
        go_simp
        have D7 : Hid (Below z.heap.size z (z6.alloc (.cells #[.int .i64 (-1)] 3))) := D6.out.alloc D6.out.size _
        refine hKc _ _ ⟨KZ.out _ D7.out, ?_⟩
        clear hKc Kc
        try simp only [Act.put, List.setIfInBounds_toArray, List.set_cons_zero, List.set_cons_succ]
        have GY : Hid ((z6.alloc (.cells #[.int .i64 (-1)] 3)).heap[z6.heap.size]? = some (.cells #[.int .i64 (-1)] 3 (0, 0))) := heap_alloc_new _ _
        have GF : Hid ((z6.alloc (.cells #[.int .i64 (-1)] 3)).heap[b_GF]? = some (.cells #[.int .i64 18, .int .i64 32, .int .i64 4, .int .i64 32, .int .i64 64, .int .i64 64] 54 (0, 0))) := (((Below.refl _ z6).alloc (Nat.le_refl _) _).block _ (lt_of_block GF.out)).trans GF.out
        have GW : Hid ((z6.alloc (.cells #[.int .i64 (-1)] 3)).heap[b_GW]? = some (.cells #[.int .u8 1] 5 (0, 0))) := (((Below.refl _ z6).alloc (Nat.le_refl _) _).block _ (lt_of_block GW.out)).trans GW.out
        obtain ⟨z7, hz7⟩ : ∃ y, y = z6.alloc (.cells #[.int .i64 (-1)] 3) := ⟨_, rfl⟩
        rw [← hz7] at D7 GF GW GY ⊢
        clear hz7 SD
        have SD := KZ.out _ D7.out
        obtain ⟨b_GY, hb_GY⟩ : ∃ b, b = z6.heap.size := ⟨_, rfl⟩
        rw [← hb_GY] at GY ⊢
        clear hb_GY
        refine anyH_one 27 (by kernel_rfl) ?_
        refine wpOp_step rfl (fun Kc hKc => ?_)
        go_simp
        have D8 : Hid (Below z.heap.size z (z7.alloc (.cells #[.int .i64 18, .int .i64 32, .int .i64 4] 54))) := D7.out.alloc D7.out.size _
        refine hKc _ _ ⟨KZ.out _ D8.out, ?_⟩
        clear hKc Kc
        try simp only [Act.put, List.setIfInBounds_toArray, List.set_cons_zero, List.set_cons_succ]
        have GX : Hid ((z7.alloc (.cells #[.int .i64 18, .int .i64 32, .int .i64 4] 54)).heap[z7.heap.size]? = some (.cells #[.int .i64 18, .int .i64 32, .int .i64 4] 54 (0, 0))) := heap_alloc_new _ _
        have GF : Hid ((z7.alloc (.cells #[.int .i64 18, .int .i64 32, .int .i64 4] 54)).heap[b_GF]? = some (.cells #[.int .i64 18, .int .i64 32, .int .i64 4, .int .i64 32, .int .i64 64, .int .i64 64] 54 (0, 0))) := (((Below.refl _ z7).alloc (Nat.le_refl _) _).block _ (lt_of_block GF.out)).trans GF.out
        have GW : Hid ((z7.alloc (.cells #[.int .i64 18, .int .i64 32, .int .i64 4] 54)).heap[b_GW]? = some (.cells #[.int .u8 1] 5 (0, 0))) := (((Below.refl _ z7).alloc (Nat.le_refl _) _).block _ (lt_of_block GW.out)).trans GW.out
        have GY : Hid ((z7.alloc (.cells #[.int .i64 18, .int .i64 32, .int .i64 4] 54)).heap[b_GY]? = some (.cells #[.int .i64 (-1)] 3 (0, 0))) := (((Below.refl _ z7).alloc (Nat.le_refl _) _).block _ (lt_of_block GY.out)).trans GY.out
        obtain ⟨z8, hz8⟩ : ∃ y, y = z7.alloc (.cells #[.int .i64 18, .int .i64 32, .int .i64 4] 54) := ⟨_, rfl⟩
        rw [← hz8] at D8 GF GW GY GX ⊢
        clear hz8 SD
        have SD := KZ.out _ D8.out
        obtain ⟨b_GX, hb_GX⟩ : ∃ b, b = z7.heap.size := ⟨_, rfl⟩
        rw [← hb_GX] at GX ⊢
        clear hb_GX
        refine anyH_one 30 (by kernel_rfl) ?_
        refine wpOp_step rfl (fun Kc hKc => ?_)
        go_simp
        refine (HF2.out _ _ _ _ GX.out GY.out GW.out).mono ?_
        rintro e29 z9 ⟨rfl, hb9⟩
        have D9 := Lib.hid (D8.out.trans (hb9.mono D8.out.size))
        have GF : Hid (z9.heap[b_GF]? = some (.cells #[.int .i64 18, .int .i64 32, .int .i64 4, .int .i64 32, .int .i64 64, .int .i64 64] 54 (0, 0))) := (hb9.block _ (lt_of_block GF.out)).trans GF.out
        have GW : Hid (z9.heap[b_GW]? = some (.cells #[.int .u8 1] 5 (0, 0))) := (hb9.block _ (lt_of_block GW.out)).trans GW.out
        have GY : Hid (z9.heap[b_GY]? = some (.cells #[.int .i64 (-1)] 3 (0, 0))) := (hb9.block _ (lt_of_block GY.out)).trans GY.out
        have GX : Hid (z9.heap[b_GX]? = some (.cells #[.int .i64 18, .int .i64 32, .int .i64 4] 54 (0, 0))) := (hb9.block _ (lt_of_block GX.out)).trans GX.out
        clear hb9
        dsimp only
        refine hKc _ _ ⟨KZ.out _ D9.out, ?_⟩
        clear hKc Kc
        try simp only [Act.put, List.setIfInBounds_toArray, List.set_cons_zero, List.set_cons_succ]
        clear SD
        have SD := KZ.out _ D9.out
        refine anyH_take 31 89 (.bool true) SD rfl (by kernel_rfl) (by kernel_rfl) (by kernel_rfl) (fun _ _ _ h => h) (by rfl) (by intro x hx; have y0 := hx; (first | exact exec_arr 54 (.tmp 11) b11 0 #[.int .i64 18, .int .i64 32, .int .i64 4] _ rfl (row_rng hx) Try.underlying54 rfl Try.sizeGeo | go_simp); try (intro h; omega)) ?_
        try simp only [Act.put, List.setIfInBounds_toArray, List.set_cons_zero, List.set_cons_succ]
        refine anyH_take 32 90 (.bool true) SD rfl (by kernel_rfl) (by kernel_rfl) (by kernel_rfl) (fun _ _ _ h => h) (by rfl) (by intro x hx; have y0 := hx; (first | exact exec_arr 54 (.tmp 11) b11 0 #[.int .i64 18, .int .i64 32, .int .i64 4] _ rfl (row_rng hx) Try.underlying54 rfl Try.sizeGeo | go_simp); try (intro h; omega)) ?_
        try simp only [Act.put, List.setIfInBounds_toArray, List.set_cons_zero, List.set_cons_succ]
        refine anyH_one 33 (by kernel_rfl) ?_
        refine wpOp_step rfl (fun Kc hKc => ?_)
        go_simp
        refine (HKN.out _).mono ?_
        rintro e30 z10 ⟨rfl, hb10⟩
        have D10 := Lib.hid (D9.out.trans (hb10.mono D9.out.size))
        have GF : Hid (z10.heap[b_GF]? = some (.cells #[.int .i64 18, .int .i64 32, .int .i64 4, .int .i64 32, .int .i64 64, .int .i64 64] 54 (0, 0))) := (hb10.block _ (lt_of_block GF.out)).trans GF.out
        have GW : Hid (z10.heap[b_GW]? = some (.cells #[.int .u8 1] 5 (0, 0))) := (hb10.block _ (lt_of_block GW.out)).trans GW.out
        have GY : Hid (z10.heap[b_GY]? = some (.cells #[.int .i64 (-1)] 3 (0, 0))) := (hb10.block _ (lt_of_block GY.out)).trans GY.out
        have GX : Hid (z10.heap[b_GX]? = some (.cells #[.int .i64 18, .int .i64 32, .int .i64 4] 54 (0, 0))) := (hb10.block _ (lt_of_block GX.out)).trans GX.out
        clear hb10
        dsimp only
        refine hKc _ _ ⟨KZ.out _ D10.out, ?_⟩
        clear hKc Kc
        try simp only [Act.put, List.setIfInBounds_toArray, List.set_cons_zero, List.set_cons_succ]
        clear SD
        have SD := KZ.out _ D10.out
        refine anyH_take 34 92 (.bool true) SD rfl (by kernel_rfl) (by kernel_rfl) (by kernel_rfl) (fun _ _ _ h => h) (by rfl) (by intro x hx; have y0 := hx; (first | exact exec_arr 54 (.tmp 11) b11 0 #[.int .i64 18, .int .i64 32, .int .i64 4] _ rfl (row_rng hx) Try.underlying54 rfl Try.sizeGeo | go_simp); try (intro h; omega)) ?_
        try simp only [Act.put, List.setIfInBounds_toArray, List.set_cons_zero, List.set_cons_succ]
        refine anyH_take 35 0 (.bool true) SD rfl (by kernel_rfl) (by kernel_rfl) (by kernel_rfl) (fun _ _ _ h => h) (by rfl) (by intro x hx; have y0 := hx; (first | exact exec_arr 54 (.tmp 11) b11 0 #[.int .i64 18, .int .i64 32, .int .i64 4] _ rfl (row_rng hx) Try.underlying54 rfl Try.sizeGeo | go_simp); try (intro h; omega)) ?_
        try simp only [Act.put, List.setIfInBounds_toArray, List.set_cons_zero]
        refine wpAnyH_done (by kernel_rfl) ?_ _
        go_wp2
        go_ret
        exact ⟨rfl, BZ.out.trans (D10.out.mono BZ.out.size)⟩
    · refine wpOp_step rfl (fun Kc hKc => ?_)
      go_simp
      have D6 : Hid (Below z.heap.size z (z5.alloc (.cells #[.int .i64 (-1)] 3))) := D5.out.alloc D5.out.size _
      refine hKc _ _ ⟨KZ.out _ D6.out, ?_⟩
      clear hKc Kc
      try simp only [Act.put, List.setIfInBounds_toArray, List.set_cons_zero, List.set_cons_succ]
      have GY : Hid ((z5.alloc (.cells #[.int .i64 (-1)] 3)).heap[z5.heap.size]? = some (.cells #[.int .i64 (-1)] 3 (0, 0))) := heap_alloc_new _ _
      have GF : Hid ((z5.alloc (.cells #[.int .i64 (-1)] 3)).heap[b_GF]? = some (.cells #[.int .i64 18, .int .i64 32, .int .i64 4, .int .i64 32, .int .i64 64, .int .i64 64] 54 (0, 0))) := (((Below.refl _ z5).alloc (Nat.le_refl _) _).block _ (lt_of_block GF.out)).trans GF.out
      have GW : Hid ((z5.alloc (.cells #[.int .i64 (-1)] 3)).heap[b_GW]? = some (.cells #[.int .u8 1] 5 (0, 0))) := (((Below.refl _ z5).alloc (Nat.le_refl _) _).block _ (lt_of_block GW.out)).trans GW.out
      obtain ⟨z6, hz6⟩ : ∃ y, y = z5.alloc (.cells #[.int .i64 (-1)] 3) := ⟨_, rfl⟩
      rw [← hz6] at D6 GF GW GY ⊢
      clear hz6 SD
      have SD := KZ.out _ D6.out
      obtain ⟨b_GY, hb_GY⟩ : ∃ b, b = z5.heap.size := ⟨_, rfl⟩
      rw [← hb_GY] at GY ⊢
      clear hb_GY
      refine anyH_one 26 (by kernel_rfl) ?_
      refine wpOp_step rfl (fun Kc hKc => ?_)
      go_simp
      refine (HSM.out _).mono ?_
      rintro e27 z7 ⟨rfl, hb7⟩
      have D7 := Lib.hid (D6.out.trans (hb7.mono D6.out.size))
      have GF : Hid (z7.heap[b_GF]? = some (.cells #[.int .i64 18, .int .i64 32, .int .i64 4, .int .i64 32, .int .i64 64, .int .i64 64] 54 (0, 0))) := (hb7.block _ (lt_of_block GF.out)).trans GF.out
      have GW : Hid (z7.heap[b_GW]? = some (.cells #[.int .u8 1] 5 (0, 0))) := (hb7.block _ (lt_of_block GW.out)).trans GW.out
      have GY : Hid (z7.heap[b_GY]? = some (.cells #[.int .i64 (-1)] 3 (0, 0))) := (hb7.block _ (lt_of_block GY.out)).trans GY.out
      clear hb7
      dsimp only
      refine hKc _ _ ⟨KZ.out _ D7.out, ?_⟩
      clear hKc Kc
      try simp only [Act.put, List.setIfInBounds_toArray, List.set_cons_zero, List.set_cons_succ]
      clear SD
      have SD := KZ.out _ D7.out
      refine anyH_one 27 (by kernel_rfl) ?_
      refine wpOp_step rfl (fun Kc hKc => ?_)
      go_simp
      have D8 : Hid (Below z.heap.size z (z7.alloc (.cells #[.int .i64 18, .int .i64 32, .int .i64 4] 54))) := D7.out.alloc D7.out.size _
      refine hKc _ _ ⟨KZ.out _ D8.out, ?_⟩
      clear hKc Kc
      try simp only [Act.put, List.setIfInBounds_toArray, List.set_cons_zero, List.set_cons_succ]
      have GX : Hid ((z7.alloc (.cells #[.int .i64 18, .int .i64 32, .int .i64 4] 54)).heap[z7.heap.size]? = some (.cells #[.int .i64 18, .int .i64 32, .int .i64 4] 54 (0, 0))) := heap_alloc_new _ _
      have GF : Hid ((z7.alloc (.cells #[.int .i64 18, .int .i64 32, .int .i64 4] 54)).heap[b_GF]? = some (.cells #[.int .i64 18, .int .i64 32, .int .i64 4, .int .i64 32, .int .i64 64, .int .i64 64] 54 (0, 0))) := (((Below.refl _ z7).alloc (Nat.le_refl _) _).block _ (lt_of_block GF.out)).trans GF.out
      have GW : Hid ((z7.alloc (.cells #[.int .i64 18, .int .i64 32, .int .i64 4] 54)).heap[b_GW]? = some (.cells #[.int .u8 1] 5 (0, 0))) := (((Below.refl _ z7).alloc (Nat.le_refl _) _).block _ (lt_of_block GW.out)).trans GW.out
      have GY : Hid ((z7.alloc (.cells #[.int .i64 18, .int .i64 32, .int .i64 4] 54)).heap[b_GY]? = some (.cells #[.int .i64 (-1)] 3 (0, 0))) := (((Below.refl _ z7).alloc (Nat.le_refl _) _).block _ (lt_of_block GY.out)).trans GY.out
      obtain ⟨z8, hz8⟩ : ∃ y, y = z7.alloc (.cells #[.int .i64 18, .int .i64 32, .int .i64 4] 54) := ⟨_, rfl⟩
      rw [← hz8] at D8 GF GW GY GX ⊢
      clear hz8 SD
      have SD := KZ.out _ D8.out
      obtain ⟨b_GX, hb_GX⟩ : ∃ b, b = z7.heap.size := ⟨_, rfl⟩
      rw [← hb_GX] at GX ⊢
      clear hb_GX
      refine anyH_one 30 (by kernel_rfl) ?_
      refine wpOp_step rfl (fun Kc hKc => ?_)
      go_simp
      refine (HF2.out _ _ _ _ GX.out GY.out GW.out).mono ?_
      rintro e29 z9 ⟨rfl, hb9⟩
      have D9 := Lib.hid (D8.out.trans (hb9.mono D8.out.size))
      have GF : Hid (z9.heap[b_GF]? = some (.cells #[.int .i64 18, .int .i64 32, .int .i64 4, .int .i64 32, .int .i64 64, .int .i64 64] 54 (0, 0))) := (hb9.block _ (lt_of_block GF.out)).trans GF.out
      have GW : Hid (z9.heap[b_GW]? = some (.cells #[.int .u8 1] 5 (0, 0))) := (hb9.block _ (lt_of_block GW.out)).trans GW.out
      have GY : Hid (z9.heap[b_GY]? = some (.cells #[.int .i64 (-1)] 3 (0, 0))) := (hb9.block _ (lt_of_block GY.out)).trans GY.out
      have GX : Hid (z9.heap[b_GX]? = some (.cells #[.int .i64 18, .int .i64 32, .int .i64 4] 54 (0, 0))) := (hb9.block _ (lt_of_block GX.out)).trans GX.out
      clear hb9
      dsimp only
      refine hKc _ _ ⟨KZ.out _ D9.out, ?_⟩
      clear hKc Kc
      try simp only [Act.put, List.setIfInBounds_toArray, List.set_cons_zero, List.set_cons_succ]
      clear SD
      have SD := KZ.out _ D9.out
      refine anyH_take 31 89 (.bool true) SD rfl (by kernel_rfl) (by kernel_rfl) (by kernel_rfl) (fun _ _ _ h => h) (by rfl) (by intro x hx; have y0 := hx; (first | exact exec_arr 54 (.tmp 11) b11 0 #[.int .i64 18, .int .i64 32, .int .i64 4] _ rfl (row_rng hx) Try.underlying54 rfl Try.sizeGeo | go_simp); try (intro h; omega)) ?_
      try simp only [Act.put, List.setIfInBounds_toArray, List.set_cons_zero, List.set_cons_succ]
      refine anyH_take 32 90 (.bool true) SD rfl (by kernel_rfl) (by kernel_rfl) (by kernel_rfl) (fun _ _ _ h => h) (by rfl) (by intro x hx; have y0 := hx; (first | exact exec_arr 54 (.tmp 11) b11 0 #[.int .i64 18, .int .i64 32, .int .i64 4] _ rfl (row_rng hx) Try.underlying54 rfl Try.sizeGeo | go_simp); try (intro h; omega)) ?_
      try simp only [Act.put, List.setIfInBounds_toArray, List.set_cons_zero, List.set_cons_succ]
      refine anyH_one 33 (by kernel_rfl) ?_
      refine wpOp_step rfl (fun Kc hKc => ?_)
      go_simp
      refine (HKN.out _).mono ?_
      rintro e30 z10 ⟨rfl, hb10⟩
      have D10 := Lib.hid (D9.out.trans (hb10.mono D9.out.size))
      have GF : Hid (z10.heap[b_GF]? = some (.cells #[.int .i64 18, .int .i64 32, .int .i64 4, .int .i64 32, .int .i64 64, .int .i64 64] 54 (0, 0))) := (hb10.block _ (lt_of_block GF.out)).trans GF.out
      have GW : Hid (z10.heap[b_GW]? = some (.cells #[.int .u8 1] 5 (0, 0))) := (hb10.block _ (lt_of_block GW.out)).trans GW.out
      have GY : Hid (z10.heap[b_GY]? = some (.cells #[.int .i64 (-1)] 3 (0, 0))) := (hb10.block _ (lt_of_block GY.out)).trans GY.out
      have GX : Hid (z10.heap[b_GX]? = some (.cells #[.int .i64 18, .int .i64 32, .int .i64 4] 54 (0, 0))) := (hb10.block _ (lt_of_block GX.out)).trans GX.out
      clear hb10
      dsimp only
      refine hKc _ _ ⟨KZ.out _ D10.out, ?_⟩
      clear hKc Kc
      try simp only [Act.put, List.setIfInBounds_toArray, List.set_cons_zero, List.set_cons_succ]
      clear SD
      have SD := KZ.out _ D10.out
      refine anyH_take 34 92 (.bool true) SD rfl (by kernel_rfl) (by kernel_rfl) (by kernel_rfl) (fun _ _ _ h => h) (by rfl) (by intro x hx; have y0 := hx; (first | exact exec_arr 54 (.tmp 11) b11 0 #[.int .i64 18, .int .i64 32, .int .i64 4] _ rfl (row_rng hx) Try.underlying54 rfl Try.sizeGeo | go_simp); try (intro h; omega)) ?_
      try simp only [Act.put, List.setIfInBounds_toArray, List.set_cons_zero, List.set_cons_succ]
      refine anyH_take 35 0 (.bool true) SD rfl (by kernel_rfl) (by kernel_rfl) (by kernel_rfl) (fun _ _ _ h => h) (by rfl) (by intro x hx; have y0 := hx; (first | exact exec_arr 54 (.tmp 11) b11 0 #[.int .i64 18, .int .i64 32, .int .i64 4] _ rfl (row_rng hx) Try.underlying54 rfl Try.sizeGeo | go_simp); try (intro h; omega)) ?_
      try simp only [Act.put, List.setIfInBounds_toArray, List.set_cons_zero]
      refine wpAnyH_done (by kernel_rfl) ?_ _
      go_wp2
      go_ret
      exact ⟨rfl, BZ.out.trans (D10.out.mono BZ.out.size)⟩
end Go.Proofs.Ytpfghjnhoafcmaa

/-
  BatchForms: the law walked.
-/
import Derived.Test.YtkgefogkdmbciaaBaM
namespace Go.Proofs.Ytkgefogkdmbciaa
open Go.RowKit

theorem Bt.vp_len (B : List Int) : (Bt.vp B).length = 32 := by rw [Bt.vp_def]; exact Pk.vs_len _
theorem Bt.vp_byt {B : List Int} (h : Sha.Byt B) : Sha.Byt (Bt.vp B) := by rw [Bt.vp_def, Bt.g1_def]; exact Bt.vs_byt (Pk.nx_byt h)
theorem Bt.g4_byt {B : List Int} (h : Sha.Byt B) : Sha.Byt (Bt.g4 B) := by rw [Bt.g4_def, Bt.g3_def, Bt.g2_def, Bt.g1_def]; exact Pk.nx_byt (Pk.nx_byt (Pk.nx_byt (Pk.nx_byt h)))
set_option maxHeartbeats 2000000 in
set_option maxRecDepth 100000 in
theorem forms_small (B : List Int) (p : Option Addr) (n c : Nat) (hn : B.length = n) (hL : n ≤ 8192) (w : World) (h : Bs w p c B) :
    Calls Try.prog 6 #[.slice p n c] w (YesSay w) := by
  have HWK : Hid (∀ y, Calls Try.prog 10 #[] y (YesSay y)) := fun y => works_any y
  have HP : Hid (Bs w p c B) := h
  have HN := Lib.hid hn
  have hle : ¬ (n : Int) > 8192 := by omega
  have HG : Hid (Calls Try.prog 20 #[.slice p n c] w (fun e w' => (Bt.gc B = 0 ∧ GetOk (Bt.vt B) (Bt.vp B) (Bt.vn B) (Bt.vm B).toNat (Bt.re (Bt.g4 B) (Bt.vm B).toNat) w e w') ∨ (Bt.gc B ≠ 0 ∧ GetNo (Bt.gc B) w e w'))) := get_any B p n c hn (by omega) w h
  obtain ⟨M, hM⟩ : ∃ M, (Bt.vm B).toNat = M := ⟨_, rfl⟩
  rw [hM] at HG
  have HFO : Hid (∀ x ∈ Bt.re (Bt.g4 B) M, x.ok) := Bt.re_ok (Bt.g4_byt h.bat.1) M
  by_cases h0 : Bt.gc B = 0
  · obtain ⟨k1, k2, k3, k4⟩ := Bt.gc_ok h0
    have hMi : (M : Int) = Bt.vm B := by rw [← hM]; exact Int.toNat_of_nonneg k2
    rw [hM] at k4
    have hf := Bt.forms h.bat.1 h0
    rw [hM] at hf
    have hn2 : 56 + 56 * M = n := by omega
    have HG2 : Hid (Calls Try.prog 20 #[.slice p n c] w (GetOk (Bt.vt B) (Bt.vp B) (Bt.vn B) M (Bt.re (Bt.g4 B) M) w)) := HG.out.mono fun e w' h => by
      rcases h with ⟨_, h1⟩ | ⟨h1, _⟩
      · exact h1
      · exact absurd h0 h1
    have HPT : Hid (∀ y g, EsRow y g (Bt.re (Bt.g4 B) M) → Calls Try.prog 12 #[.agg (SmA (Bt.vt B) (Bt.vp B) (Bt.vn B) (.slice (some ⟨g, 0, none⟩) M M))] y (PutOk B n y)) := fun y g hy => by
      have e := put_ok (Bt.vt B) (Bt.vn B) (Bt.vp B) (some ⟨g, 0, none⟩) M M (Bt.re (Bt.g4 B) M) (Bt.re_len _ _) y ⟨Bt.vp_len B, Bt.vp_byt HP.out.bat.1, hy.es HFO.out (by rw [Bt.re_len]; omega)⟩ k4
      rw [hf, hn2] at e
      exact e
    have HSB : Hid (∀ y q d, Below w.heap.size w y → Bs y q d B → Calls Try.prog 16 #[.slice q n d, .slice p n c] y (YesSay y)) := fun y q d hy hq => samen_any B n HN.out (by omega) q p d c y hq (HP.out.old hy)
    have HXG : Hid (∀ g, (SmA (Bt.vt B) (Bt.vp B) (Bt.vn B) (.slice (some ⟨g, 0, none⟩) M M)).size = 35) := fun g => smA_size _ _ _ (Bt.vp_len B)
    have HXH : Hid (∀ g, (SmA (Bt.vt B) (Bt.vp B) (Bt.vn B) (.slice (some ⟨g, 0, none⟩) M M)).all (·.oneCell') = true) := fun g => smA_one _ _ _ _ _ _
    clear h k1 k2 k3 k4 hMi hf HG h0 hM hn2 hn HFO
    generalize Bt.re (Bt.g4 B) M = L at *
    generalize Bt.vt B = t at *
    generalize Bt.vp B = P at *
    generalize Bt.vn B = nn at *
    go_enter Try.func6, Try.ntmps6
    go_upto_region 4 with (first
      | (go_at_call 20; refine HG2.out.mono ?_; rintro e2 w2 ⟨g2, rfl, R2, HG3, B2⟩)
      | ((with_reducible refine row_store _ _ _ _ _ _ _ ?_ ?_ (heap_alloc_new _ _) (sm_info (HXG.out g2)) ?_ (HXH.out g2) ?_); (exact rfl); (exact rfl); (rw [HXG.out g2]; rfl); intro w3 G3 ch3))
    have K3 : Hid (Below w2.heap.size w2 w3) := ch3.below ((Below.refl _ w2).alloc (Nat.le_refl _) _) (Nat.le_refl _)
    have R3 : Hid (EsRow w3 g2 L) := R2.out.old K3.out
    have B3 : Hid (Below w.heap.size w w3) := B2.out.trans (K3.out.mono B2.out.size)
    clear ch3 K3 R2 B2 HG2 HG3
    go_wp2_with (first
      | ((with_reducible refine row_load _ _ _ _ _ _ _ ?_ G3.out Try.underlying26 ?_ (sm_info (HXG.out g2)) ?_); (exact rfl); (exact rfl))
      | (go_at_call 12; refine (HPT.out _ _ R3.out).mono ?_; rintro e4 w4 ⟨p4, c4, rfl, HO4, HB4, B4⟩; have BW4 : Hid (Below w.heap.size w w4) := B3.out.trans (B4.out.mono B3.out.size))
      | (go_at_call 16; refine (HSB.out _ _ _ BW4.out HB4.out).mono ?_; rintro e5 w5 ⟨rfl, hb5⟩)
      | (go_at_call 10; refine (HWK.out _).mono ?_; rintro e6 w6 ⟨rfl, hb6⟩))
    go_ret
    exact ⟨rfl, BW4.out.trans ((hb5.trans (hb6.mono hb5.size)).mono BW4.out.size)⟩
  · obtain ⟨r, hr⟩ : ∃ r, Bt.gc B = r := ⟨_, rfl⟩
    have HG2 : Hid (Calls Try.prog 20 #[.slice p n c] w (fun e w' => e = .returned (.tuple #[.agg (SmA 0 Bt.Z 0 (.slice none 0 0)), .int .i64 r]) ∧ Below w.heap.size w w')) := HG.out.mono fun e w' h => by
      rcases h with ⟨h1, _⟩ | ⟨_, h1⟩
      · exact absurd h1 h0
      · rw [hr] at h1; exact h1
    have HSM : Hid (∀ y, Calls Try.prog 22 #[.agg (SmA 0 Bt.Z 0 (.slice none 0 0)), .agg ZSm.toArray] y (YesSay y)) := fun y => by
      rw [zsm_eq]
      exact same_self 0 0 Bt.Z none none 0 0 0 [] rfl (by omega) y ⟨Bt.z_len, Bt.z_byt, es_none y⟩ ⟨Bt.z_len, Bt.z_byt, es_none y⟩
    have HXG : Hid ((SmA 0 Bt.Z 0 (.slice none 0 0)).size = 35) := smA_size _ _ _ Bt.z_len
    have HXH : Hid ((SmA 0 Bt.Z 0 (.slice none 0 0)).all (·.oneCell') = true) := smA_one _ _ _ _ _ _
    have hb0 : (r == 0) = false := by rw [← hr]; simp [h0]
    have hzb := build_sm0
    clear h HG h0 hM hn HFO hr
    generalize SmA 0 Bt.Z 0 (.slice none 0 0) = X at *
    generalize ZSm.toArray = Z at *
    have HZB := Lib.hid hzb
    clear hzb
    go_enter Try.func6, Try.ntmps6
    go_upto_region 4 with (first
      | (go_at_call 20; refine HG2.out.mono ?_; rintro e2 w2 ⟨rfl, B2⟩)
      | ((with_reducible refine row_store _ _ _ _ _ _ _ ?_ ?_ (heap_alloc_new _ _) (sm_info HXG.out) ?_ HXH.out ?_); (exact rfl); (exact rfl); (rw [HXG.out]; rfl); intro w3 G3 ch3))
    have K3 : Hid (Below w2.heap.size w2 w3) := ch3.below ((Below.refl _ w2).alloc (Nat.le_refl _) _) (Nat.le_refl _)
    have B3 : Hid (Below w.heap.size w w3) := B2.trans (K3.out.mono B2.size)
    clear ch3 K3 B2 HG2
    go_wp2_with (first
      | ((with_reducible refine row_load _ _ _ _ _ _ _ ?_ G3.out Try.underlying26 ?_ (sm_info HXG.out) ?_); (exact rfl); (exact rfl))
      | ((with_reducible refine build0_g _ _ ?_ HZB.out ?_); (exact rfl))
      | (go_at_call 22; refine (HSM.out _).mono ?_; rintro e5 w5 ⟨rfl, hb5⟩)
      | (go_at_call 10; refine (HWK.out _).mono ?_; rintro e6 w6 ⟨rfl, hb6⟩))
    go_ret
    exact ⟨rfl, B3.out.trans ((hb5.trans (hb6.mono hb5.size)).mono B3.out.size)⟩
set_option maxRecDepth 100000 in
theorem forms_any (B : List Int) (p : Option Addr) (c : Nat) (w : World) (h : Bs w p c B) :
    Calls Try.prog 6 #[.slice p B.length c] w (YesSay w) := by
  by_cases hL : B.length ≤ 8192
  · exact forms_small B p B.length c rfl hL w h
  · have HWK : Hid (∀ y, Calls Try.prog 10 #[] y (YesSay y)) := fun y => works_any y
    obtain ⟨n, hn⟩ : ∃ n, B.length = n := ⟨_, rfl⟩
    rw [hn] at hL ⊢
    have hgt : (n : Int) > 8192 := by omega
    clear hn h hL
    go_enter Try.func6, Try.ntmps6
    go_wp2_with (go_at_call 10; refine (HWK.out _).mono ?_; rintro e6 w6 ⟨rfl, hb6⟩)
    go_ret
    exact ⟨rfl, hb6⟩
end Go.Proofs.Ytkgefogkdmbciaa

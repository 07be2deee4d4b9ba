/-
  Contract: region.All, whoever opens.
-/
import Derived.Test.YtjnepegohfhgiaaRgG
import Derived.Test.YtjnepegohfhgiaaRgL
namespace Go.Proofs.Ytjnepegohfhgiaa
open Go.RowKit

namespace Rg
/-- What All tells, and the disk then. -/
def alH (m : Dk.M) (G : Int → List Int → Int × Sc.S) (k : Nat) : Option R := hd m ((k : Int) + 1) (G ((k : Int) + 1))
def alL (m : Dk.M) (G : Int → List Int → Int × Sc.S) : Nat → List R
  | 0 => []
  | k + 1 => alL m G k ++ (alH m G k).toList
def alM (m : Dk.M) : Nat → Dk.M
  | 0 => m
  | k + 1 => Dk.rdM (alM m k) ((k : Int) + 1)
def al (m : Dk.M) (G : Int → List Int → Int × Sc.S) : List R := alL m G 2
theorem rdM_same (m : Dk.M) (i : Int) : (Dk.rdM m i).n = m.n ∧ (Dk.rdM m i).ls = m.ls ∧ (Dk.rdM m i).ca = m.ca ∧ (Dk.rdM m i).wr = m.wr ∧ (Dk.rdM m i).left = m.left ∧ (Dk.rdM m i).down = m.down := by
  unfold Dk.rdM
  split <;> exact ⟨rfl, rfl, rfl, rfl, rfl, rfl⟩
theorem rdM_rd (m : Dk.M) (i : Int) (B : Nat) (h : ∀ j, m.rd j ≤ B) : ∀ j, (Dk.rdM m i).rd j ≤ B + 1 := fun j => by
  unfold Dk.rdM
  split
  · show upd m.rd i.toNat (m.rd i.toNat + 1) j ≤ B + 1
    unfold upd
    split
    · have := h i.toNat; omega
    · have := h j; omega
  · have := h j; omega
theorem alM_same (m : Dk.M) : ∀ k, (alM m k).n = m.n ∧ (alM m k).ls = m.ls ∧ (alM m k).ca = m.ca ∧ (alM m k).wr = m.wr ∧ (alM m k).left = m.left ∧ (alM m k).down = m.down
  | 0 => ⟨rfl, rfl, rfl, rfl, rfl, rfl⟩
  | k + 1 => by
    obtain ⟨h1, h2, h3, h4, h5, h6⟩ := alM_same m k
    obtain ⟨g1, g2, g3, g4, g5, g6⟩ := rdM_same (alM m k) ((k : Int) + 1)
    exact ⟨g1.trans h1, g2.trans h2, g3.trans h3, g4.trans h4, g5.trans h5, g6.trans h6⟩
theorem alM_rd (m : Dk.M) (B : Nat) (h : ∀ j, m.rd j ≤ B) : ∀ k j, (alM m k).rd j ≤ B + k
  | 0, j => h j
  | k + 1, j => rdM_rd (alM m k) _ (B + k) (fun j => alM_rd m B h k j) j
theorem rdX_same {m m' : Dk.M} (h1 : m'.n = m.n) (h2 : m'.ls = m.ls) (h3 : m'.ca = m.ca) (i : Int) : Dk.rdX m' i = Dk.rdX m i ∧ Dk.here m' i = Dk.here m i := by
  unfold Dk.rdX Dk.here Dk.peek
  rw [h1, h2, h3]
  exact ⟨rfl, rfl⟩
theorem alM_rdX (m : Dk.M) (k : Nat) (i : Int) : Dk.rdX (alM m k) i = Dk.rdX m i ∧ Dk.here (alM m k) i = Dk.here m i := by
  obtain ⟨h1, h2, h3, _⟩ := alM_same m k
  exact rdX_same h1 h2 h3 i
theorem hd_same {m m' : Dk.M} (at_ : Int) (G : List Int → Int × Sc.S) (h : Dk.rdX m' at_ = Dk.rdX m at_ ∧ Dk.here m' at_ = Dk.here m at_) : hd m' at_ G = hd m at_ G := by
  unfold hd
  rw [h.1, h.2]
theorem hd_ok {m : Dk.M} {at_ : Int} {G : List Int → Int × Sc.S} (hb : Sha.Byt (G (Dk.rdX m at_)).2.L) {r : R} (h : hd m at_ G = some r) : Ok r := by
  cases hh : Dk.here m at_ with
  | false => rw [hd_no G hh] at h; cases h
  | true =>
    rw [hd_yes G hh] at h
    rw [(hb_some h).2.2.2.2]
    exact gt_ok hb
end Rg
theorem own_mv {B e s n : Nat} {ks : List Nat} {y z : World} {v : Value} {xs : List Value} (h : y.ownsRow B e s v n xs) (hm : Mv ks y z) (hk : ∀ k ∈ ks, k < B) : z.ownsRow B e s v n xs := by
  refine ⟨h.1, ?_⟩
  rcases h.2 with h1 | ⟨g, cap, cur, h1, h2, h3, h4⟩
  · exact Or.inl h1
  · exact Or.inr ⟨g, cap, cur, h1, h2, (hm.block g (lt_of_block h3) (fun q => by have := hk g q; omega)).trans h3, h4⟩
theorem mv_low {ks : List Nat} {w y z : World} (h : Mv ks w y) (hb : Below w.heap.size y z) : Mv ks w z :=
  ⟨hb.os.trans h.os, hb.tape.trans h.tape, hb.output.trans h.output, Nat.le_trans h.size hb.size, fun k hk hn => (hb.block k hk).trans (h.block k hk hn)⟩
/-- Behind All. -/
def AlSay (L : List Rg.R) (T : Nat → Prop) (d lb rb cb : Nat) (m' : Dk.M) (w : World) (e : Ending) (w' : World) : Prop :=
  ∃ v, e = .returned v ∧ Hid (RsO w.heap.size w' v L) ∧ Hid (∀ x ∈ L, Rg.Ok x) ∧ Hid (DkAt w' T d lb rb cb m') ∧ Hid (Mv [d, lb, rb, cb] w w')
set_option maxHeartbeats 4000000 in
set_option maxRecDepth 100000 in
theorem all_gen (TT : TypeId) (vv : Value) (G : Int → List Int → Int × Sc.S) {T : Nat → Prop} {d lb rb cb : Nat} {m : Dk.M} (w : World) (hd : DkAt w T d lb rb cb m) (hrd : ∀ j, m.rd j ≤ 999999990)
    (hGL : ∀ k : Nat, k < 2 → (G ((k : Int) + 1) (Dk.rdX m ((k : Int) + 1))).2.L.length ≤ 900000)
    (hGB : ∀ k : Nat, k < 2 → Sha.Byt (G ((k : Int) + 1) (Dk.rdX m ((k : Int) + 1))).2.L)
    (hget : ∀ k : Nat, k < 2 → ∀ y q n c, Mv [d, lb, rb, cb] w y → (Dk.rdX m ((k : Int) + 1)).length = n → Bs y q c (Dk.rdX m ((k : Int) + 1)) → Calls Try.prog 87 #[.iface TT vv, .int .i64 2, .int .i64 ((k : Int) + 1), .slice q n c] y (LGet (G ((k : Int) + 1) (Dk.rdX m ((k : Int) + 1))) y)) :
    Calls Try.prog 27 #[.pointer (some ⟨d, 0, none⟩), .iface TT vv] w (AlSay (Rg.al m G) T d lb rb cb (Rg.alM m 2) w) := by
  have HC : Hid (∀ k : Nat, k < 2 → ∀ y, DkAt y T d lb rb cb (Rg.alM m k) → Mv [d, lb, rb, cb] w y → Calls Try.prog 62 #[.pointer (some ⟨d, 0, none⟩), .iface TT vv, .int .i64 ((k : Int) + 1)] y (HdSay (Rg.alH m G k) T d lb rb cb (Rg.alM m (k + 1)) y)) := fun k hk y hy hm => by
    have hx := Rg.alM_rdX m k ((k : Int) + 1)
    have h := held_gen TT vv ((k : Int) + 1) (G ((k : Int) + 1)) y hy (fun j => Nat.le_trans (Rg.alM_rd m 999999990 hrd k j) (by omega)) (by rw [hx.1]; exact hGL k hk) (fun z q n c hz hn hb => by
      rw [hx.1] at hn hb ⊢
      exact hget k hk z q n c (hm.trans hz) hn hb)
    rw [Rg.hd_same ((k : Int) + 1) (G ((k : Int) + 1)) hx] at h
    exact h
  have HO : Hid (∀ k : Nat, k < 2 → ∀ r, Rg.alH m G k = some r → Rg.Ok r) := fun k hk r hr => Rg.hd_ok (hGB k hk) hr
  have HLS : Hid (∀ k, Rg.alL m G (k + 1) = Rg.alL m G k ++ (Rg.alH m G k).toList) := fun k => rfl
  have HAL : Hid (Rg.al m G = Rg.alL m G 2) := rfl
  have HL0 : Hid (Rg.alL m G 0 = []) := rfl
  have HL2 : Hid (∀ k : Nat, k ≤ 2 → (∀ x ∈ Rg.alL m G k, Rg.Ok x) ∧ (Rg.alL m G k).length ≤ k) := fun k => by
    induction k with
    | zero => exact fun _ => ⟨fun x hx => (by cases hx), Nat.le_refl _⟩
    | succ k ih =>
      intro hk
      obtain ⟨h1, h2⟩ := ih (by omega)
      rw [HLS.out]
      cases q : Rg.alH m G k with
      | none => simp only [Option.toList_none, List.append_nil]; exact ⟨h1, by omega⟩
      | some r =>
        simp only [Option.toList_some]
        refine ⟨Rg.ok_app h1 (fun x hx => by rw [List.mem_singleton] at hx; rw [hx]; exact HO.out k (by omega) r q), ?_⟩
        rw [List.length_append, List.length_singleton]
        omega
  have HD0 : Hid (DkAt w T d lb rb cb (Rg.alM m 0)) := hd
  have HTP : Hid (∀ k, T k → k < w.heap.size) := hd.top
  have HKS : Hid (∀ k ∈ [d, lb, rb, cb], k < w.heap.size) := fun k hk => by
    simp only [List.mem_cons, List.not_mem_nil, or_false] at hk
    rcases hk with rfl | rfl | rfl | rfl
    · exact hd.top _ hd.lt.1
    · exact hd.top _ hd.lt.2.1
    · exact hd.top _ hd.lt.2.2.1
    · exact hd.top _ hd.lt.2.2.2
  rw [HAL.out]
  clear hGL hGB hget hrd hd HAL
  generalize Rg.alL m G = LL at *
  generalize Rg.alH m G = HH at *
  generalize Rg.alM m = MM at *
  obtain ⟨Z, hZ⟩ : ∃ Z, Hid ((cv Rg.zero).toArray = Z) := ⟨_, rfl⟩
  have HZS : Hid (Z.size = 136) := by show _ = _; rw [← hZ.out, List.size_toArray, cv_len Rg.ok_zero]
  have hz := (zero_of_info Try.zeroRec).1
  rw [hZ.out] at hz
  have hzn : ¬ Z = #[] := fun h => by have := HZS.out; rw [h] at this; simp at this
  have hsz := row_size Try.sizeRec HZS
  have HZA : Hid (RAr Rg.zero = Z) := hZ.out
  go_enter Try.func27, Try.ntmps27
  go_wp2
  go_loopw [5, 6] (fun v5 v6 wr => ∃ k : Nat, k ≤ 2 ∧ v6 = .int .i64 ((k : Int) + 1) ∧ Hid (RsO w.heap.size wr v5 (LL k)) ∧ Hid (DkAt wr T d lb rb cb (MM k)) ∧ Hid (Mv [d, lb, rb, cb] w wr)) (fun _ v6 _ => 4 - (intOf v6).toNat)
  case atStart => exact ⟨0, by omega, rfl, by rw [HL0.out]; exact rso_nil _ _, HD0.out, Mv.refl _ _⟩
  case round =>
    obtain ⟨k, hk, rfl, HO1, HD1, HM1⟩ := hrel
    by_cases hlt : k < 2
    · have hle : (k : Int) + 1 ≤ 2 := by omega
      have HK := Lib.hid (HC.out k hlt wr HD1.out HM1.out)
      have HLK := Lib.hid (HLS.out k)
      have HOK := Lib.hid (HO.out k hlt)
      have HL3 := Lib.hid (HL2.out k hk)
      cases hq : HH k with
      | none =>
        rw [hq] at HK HLK
        have HV : Hid (RVo none = .agg Z) := by show _ = _; unfold RVo; rw [← HZA.out, ← rv_eq]; rfl
        have HZ1 : Hid (Z.all (·.oneCell') = true) := by show _ = _; rw [← HZA.out]; exact rar_one _
        unfold HdSay at HK
        rw [HV.out] at HK
        clear HC HO HL2 HLS hq
        go_wp2_with (first
          | (go_at_call 62; refine HK.out.mono ?_; rintro e1 w1 ⟨rfl, HD2, HM2⟩)
          | ((with_reducible refine row_store _ _ _ _ _ _ _ ?_ ?_ (heap_alloc_new _ _) (row_size Try.sizeRec HZS) ?_ HZ1.out ?_); (exact rfl); (exact rfl); (exact rfl); intro w2 G2 ch2))
        have HB2 : Hid (Below w1.heap.size w1 w2) := ch2.below ((Below.refl _ w1).alloc (Nat.le_refl _) _) (Nat.le_refl _)
        exact ⟨⟨k + 1, by omega, by go_num, by rw [HLK.out]; simp only [Option.toList_none, List.append_nil]; exact (own_mv HO1.out HM2.out HKS.out |> fun h => own_keepX h HB2.out), HD2.out.old HB2.out, (HM1.out.trans HM2.out).trans (Mv.of_below HB2.out)⟩, by simp [intOf]; omega⟩
      | some r =>
        rw [hq] at HK HLK
        have HRO : Hid (Rg.Ok r) := HOK.out r hq
        have HV : Hid (RVo (some r) = .agg (RAr r)) := by show _ = _; unfold RVo; rw [← rv_eq]; rfl
        have HA1 : Hid ((RAr r).all (·.oneCell') = true) := rar_one _
        have HAI := Lib.hid (rc_info HRO.out)
        have HAS : Hid ((RAr r).size = 136) := rar_size HRO.out
        unfold HdSay at HK
        rw [HV.out] at HK
        clear HC HO HL2 HLS hq HOK
        obtain ⟨N, hN⟩ : ∃ N, (LL k).length = N := ⟨_, rfl⟩
        have HNL : Hid (N ≤ 100000) := by have := HL3.out.2; show _ ≤ _; omega
        have HNN := Lib.hid hN
        clear hN
        go_upto_region 7 with (first
          | (go_at_call 62; refine HK.out.mono ?_; rintro e1 w1 ⟨rfl, HD2, HM2⟩)
          | ((with_reducible refine row_store _ _ _ _ _ _ _ ?_ ?_ (heap_alloc_new _ _) (row_size Try.sizeRec HAS) ?_ HA1.out ?_); (exact rfl); (exact rfl); (rw [HAS.out, HZS.out]); intro w2 G2 ch2))
        have HB2 : Hid (Below w1.heap.size w1 w2) := ch2.below ((Below.refl _ w1).alloc (Nat.le_refl _) _) (Nat.le_refl _)
        have HO2 : Hid (RsO w.heap.size w2 u5 (LL k)) := own_keepX (own_mv HO1.out HM2.out HKS.out) HB2.out
        have HW2 : Hid (w.heap.size ≤ w2.heap.size) := Nat.le_trans (Nat.le_trans HM1.out.size HM2.out.size) HB2.out.size
        go_wp2_with (first
          | ((with_reducible refine row_load _ _ _ _ _ _ _ ?_ G2.out Try.underlying29 ?_ HAI.out ?_); (exact rfl); (exact rfl))
          | ((with_reducible refine bs_one _ r HRO.out ?_ ?_); (exact rfl))
          | ((with_reducible refine app_rc _ _ w.heap.size _ (LL k) r ?_ ?_ HO2.out HL3.out.1 HRO.out N HNN.out HNL.out HW2.out ?_); (exact rfl); (exact rfl); intro q1 d1 w3 O3 K3 _))
        have HB3 : Hid (Below w.heap.size w2 w3) := K3
        exact ⟨⟨k + 1, by omega, by go_num, by rw [HLK.out]; simp only [Option.toList_some]; exact O3.out, (HD2.out.old HB2.out).below HB3.out HTP.out, mv_low ((HM1.out.trans HM2.out).trans (Mv.of_below HB2.out)) HB3.out⟩, by simp [intOf]; omega⟩
    · have E : k = 2 := by omega
      subst E
      have hge : ¬ ((2 : Nat) : Int) + 1 ≤ 2 := by omega
      clear hlt
      go_wp2
      go_ret
      exact ⟨_, rfl, HO1, (HL2.out 2 (by omega)).1, HD1, HM1⟩
end Go.Proofs.Ytjnepegohfhgiaa

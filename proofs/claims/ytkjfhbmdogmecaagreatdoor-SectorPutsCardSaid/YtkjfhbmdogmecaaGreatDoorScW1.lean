/-
  Contract: the reference's Get.
-/
import Derived.Test.YtkjfhbmdogmecaaGreatDoorScW0
namespace Go.Proofs.YtkjfhbmdogmecaaGreatDoor
open Go.RowKit

theorem ep16 {b : List Int} (h : 17 ≤ b.length) : Sc.ep (b.take 17) = Pk.vi ((b.drop 1).take 16) := by
  unfold Sc.ep
  rw [Sc.nx_drop (by rw [List.length_take]; omega), List.drop_take]
theorem nu16 {b : List Int} (h : 17 ≤ b.length) : Sc.nu (b.take 17) = Pk.vi (Pk.nx 8 ((b.drop 1).take 16)) := by
  unfold Sc.nu
  rw [Sc.nx_drop (k := 1) (by rw [List.length_take]; omega), List.drop_take]
theorem kd_iff {b : List Int} {k : Int} (h : 17 ≤ b.length) (hk : Sc.isK k = true) : Sc.kd b = k ↔ b.getD 0 0 = k := by
  rw [kd_long (by omega)]
  constructor
  · intro h2
    by_cases q : Sc.isK (b.getD 0 0) = true
    · rw [if_pos q] at h2; exact h2
    · rw [if_neg q] at h2
      have := Sc.isK_iff.1 hk
      omega
  · intro h2
    rw [h2, if_pos hk]
theorem ger_short {k a : Int} {b : List Int} (h : b.length < 17) : Sc.ger k a b = 2 := by unfold Sc.ger; rw [if_pos h]
theorem ger_long {k a : Int} {b : List Int} (h : 1024 < b.length) : Sc.ger k a b = 3 := by unfold Sc.ger; rw [if_neg (by omega), if_pos h]
theorem ger_kind {k a : Int} {b : List Int} (h : ¬ b.length < 17) (h1 : ¬ 1024 < b.length) (h2 : ¬ (Sc.isK k = true ∧ Sc.kd b = k)) : Sc.ger k a b = 5 := by unfold Sc.ger; rw [if_neg h, if_neg h1, if_neg h2]
theorem ger_range {k a : Int} {b : List Int} (h : ¬ b.length < 17) (h1 : ¬ 1024 < b.length) (h2 : Sc.isK k = true ∧ Sc.kd b = k) (h3 : Sc.inP (Sc.ep (b.take 17)) (Sc.nu (b.take 17)) a = false) : Sc.ger k a b = 7 := by unfold Sc.ger; rw [if_neg h, if_neg h1, if_pos h2, if_neg (by simp [h3])]
set_option maxHeartbeats 4000000 in
set_option maxRecDepth 100000 in
theorem rget_any (K : List Int) (B g : Nat) (k a : Int) (b : List Int) (p : Option Addr) (n c : Nat) (hn : b.length = n) (w : World) (hg : CrAt B w g K) (hp : Bs w p c b) (ht : Tab w 1) :
    Calls Tryz.prog 11 #[.pointer (some ⟨g, 0, none⟩), .int .i64 k, .int .i64 a, .slice p n c] w (LGet (Sc.gt (Seal.op K) k a b) w) := by
  have B0 : Hid (Below w.heap.size w (w.alloc (SO 0 0 0 0 none 0 0))) := (Below.refl _ w).alloc (Nat.le_refl _) _
  have HS : Hid (∀ y, Below (w.alloc (SO 0 0 0 0 none 0 0)).heap.size (w.alloc (SO 0 0 0 0 none 0 0)) y → SAt y w.heap.size 0 0 0 0 none 0 0) := fun y hy => (SAt.new w 0 0 0 0 none 0 0).old hy
  have P0 : Hid (Bs (w.alloc (SO 0 0 0 0 none 0 0)) p c b) := hp.old B0.out
  have HI : Hid (∀ x, Calls Tryz.prog 27 #[.int .i64 k] x fun r x' => r = .returned (.bool (Sc.isK k)) ∧ x = x') := fun x => fkind_any k x
  have HN : Hid (∀ y x, Calls Tryz.prog 28 #[.int .i64 y] x fun r x' => r = .returned (.bool (inR y)) ∧ x = x') := fun y x => fnumber_any y x
  have HA : Hid (∀ x, Calls Tryz.prog 29 #[.int .i64 a] x fun r x' => r = .returned (.bool (Sc.inA a)) ∧ x = x') := fun x => fplace_any a x
  have HNO : Hid (∀ e v y, Sc.ger k a b = e → e ≠ 0 → GNo e w v y → LGet (Sc.gt (Seal.op K) k a b) w v y) := fun e v y h1 h2 h3 => lget_no h3 (by rw [Sc.gt_no (by rw [h1]; exact h2), h1])
  by_cases h0 : n < 17
  · have HE : Hid (Sc.ger k a b = 2) := ger_short (by omega)
    have h0' : (n : Int) < 17 := by omega
    go_enter Tryz.func11, Tryz.ntmps11
    go_upto_region 1 with (fail)
    change Code.wp _ _ _ _ (w.alloc (SO 0 0 0 0 none 0 0))
    obtain ⟨w0, hw0⟩ : ∃ x, x = w.alloc (SO 0 0 0 0 none 0 0) := ⟨_, rfl⟩
    rw [← hw0] at B0 HS P0 ⊢
    clear hw0
    obtain ⟨d0, d1, d2, d3, d4⟩ := (HS.out _ (Below.refl _ _)).all
    obtain ⟨f0, f1, f2, f3, f4⟩ := (HS.out _ (Below.refl _ _)).fro
    go_wp2
    have q := gno B0.out (HS.out _ (Below.refl _ _))
    exact bodyPost_ret (results_cell_tmp rfl _ _ w.heap.size 24 _ (0, 0) _ rfl q.1.row Tryz.underlying24 rfl (by rw [ssize]; rfl)) rfl (HNO.out _ _ _ HE.out (by decide) ⟨rfl, q.2⟩)
  by_cases h1 : 1024 < n
  · have HE : Hid (Sc.ger k a b = 3) := ger_long (by omega)
    have h0' : ¬ (n : Int) < 17 := by omega
    have h1' : (n : Int) > 1024 := by omega
    go_enter Tryz.func11, Tryz.ntmps11
    go_upto_region 1 with (fail)
    change Code.wp _ _ _ _ (w.alloc (SO 0 0 0 0 none 0 0))
    obtain ⟨w0, hw0⟩ : ∃ x, x = w.alloc (SO 0 0 0 0 none 0 0) := ⟨_, rfl⟩
    rw [← hw0] at B0 HS P0 ⊢
    clear hw0
    obtain ⟨d0, d1, d2, d3, d4⟩ := (HS.out _ (Below.refl _ _)).all
    obtain ⟨f0, f1, f2, f3, f4⟩ := (HS.out _ (Below.refl _ _)).fro
    go_wp2
    have q := gno B0.out (HS.out _ (Below.refl _ _))
    exact bodyPost_ret (results_cell_tmp rfl _ _ w.heap.size 24 _ (0, 0) _ rfl q.1.row Tryz.underlying24 rfl (by rw [ssize]; rfl)) rfl (HNO.out _ _ _ HE.out (by decide) ⟨rfl, q.2⟩)
  have h0' : ¬ (n : Int) < 17 := by omega
  have h1' : ¬ (n : Int) > 1024 := by omega
  cases hk : Sc.isK k with
  | false =>
    rw [hk] at HI
    have HE : Hid (Sc.ger k a b = 5) := ger_kind (by omega) (by omega) (fun q => by rw [hk] at q; cases q.1)
    go_enter Tryz.func11, Tryz.ntmps11
    go_upto_region 1 with (fail)
    change Code.wp _ _ _ _ (w.alloc (SO 0 0 0 0 none 0 0))
    obtain ⟨w0, hw0⟩ : ∃ x, x = w.alloc (SO 0 0 0 0 none 0 0) := ⟨_, rfl⟩
    rw [← hw0] at B0 HS P0 ⊢
    clear hw0
    obtain ⟨d0, d1, d2, d3, d4⟩ := (HS.out _ (Below.refl _ _)).all
    obtain ⟨f0, f1, f2, f3, f4⟩ := (HS.out _ (Below.refl _ _)).fro
    go_wp2_with (go_at_call 27; refine (HI.out _).mono ?_; rintro e1 w1 ⟨rfl, rfl⟩)
    have q := gno B0.out (HS.out _ (Below.refl _ _))
    exact bodyPost_ret (results_cell_tmp rfl _ _ w.heap.size 24 _ (0, 0) _ rfl q.1.row Tryz.underlying24 rfl (by rw [ssize]; rfl)) rfl (HNO.out _ _ _ HE.out (by decide) ⟨rfl, q.2⟩)
  | true =>
    rw [hk] at HI
    obtain ⟨ab, ao, hpe, hcl⟩ := hp.bat.2 (by omega)
    subst hpe
    have hc0 := (P0.out.bat.2 (by omega))
    obtain ⟨ab', ao', he', hc0⟩ := hc0
    cases he'
    have hc0 := hc0 0 (by omega)
    rw [Nat.add_zero] at hc0
    have HCZ : Hid (∀ y, y = w.alloc (SO 0 0 0 0 none 0 0) → y.cell? ⟨ab, ao, none⟩ = some (.int .u8 (b.getD 0 0))) := fun y hy => by rw [hy]; exact hc0
    clear hc0 hcl
    have hb0 := Sha.byt_getD hp.bat.1 0
    have hn1 : (0 : Int) < (n : Int) := by omega
    have hcap := hp.cap
    rw [hn] at hcap
    have hkd := kd_iff (b := b) (by omega) hk
    by_cases hb : b.getD 0 0 = k
    case neg =>
      have HE : Hid (Sc.ger k a b = 5) := ger_kind (by omega) (by omega) (fun q => hb (hkd.1 q.2))
      have hbk : (b.getD 0 0 == k) = false := by simpa using hb
      generalize b.getD 0 0 = x0 at *
      have hw : IntKind.i64.wrap x0 = x0 := IntWalk.i64_in _ ⟨by omega, by omega⟩
      clear hb hkd hb0
      go_enter Tryz.func11, Tryz.ntmps11
      go_upto_region 1 with (fail)
      change Code.wp _ _ _ _ (w.alloc (SO 0 0 0 0 none 0 0))
      obtain ⟨w0, hw0⟩ : ∃ x, x = w.alloc (SO 0 0 0 0 none 0 0) := ⟨_, rfl⟩
      rw [← hw0] at B0 HS P0 ⊢
      have hw0k := hw0
      clear hw0
      obtain ⟨d0, d1, d2, d3, d4⟩ := (HS.out _ (Below.refl _ _)).all
      obtain ⟨f0, f1, f2, f3, f4⟩ := (HS.out _ (Below.refl _ _)).fro
      have hc0 : w0.cell? ⟨ab, ao, none⟩ = some (.int .u8 x0) := HCZ.out _ hw0k
      clear hw0k
      go_wp2_with (go_at_call 27; refine (HI.out _).mono ?_; rintro e1 w1 ⟨rfl, rfl⟩)
      have q := gno B0.out (HS.out _ (Below.refl _ _))
      exact bodyPost_ret (results_cell_tmp rfl _ _ w.heap.size 24 _ (0, 0) _ rfl q.1.row Tryz.underlying24 rfl (by rw [ssize]; rfl)) rfl (HNO.out _ _ _ HE.out (by decide) ⟨rfl, q.2⟩)
    case pos =>
      have hk5 := Sc.isK_iff.1 hk
      have hgk : Sc.isK k = true ∧ Sc.kd b = k := ⟨hk, hkd.2 hb⟩
      have HRD : Hid (∀ x, Below w.heap.size w x → Calls Tryz.prog 34 #[.slice (some ⟨ab, ao + 1, none⟩) 16 (c - 1)] x (RfNew ((b.drop 1).take 16) x)) := fun x hx =>
        refread_any _ _ 16 (c - 1) (by rw [List.length_take, List.length_drop]; omega) (by omega) x (((hp.old hx).dropk (k := 1) (by omega)).take 16)
      have HL16 : Hid (((b.drop 1).take 16).length = 16) := by show _ = _; rw [List.length_take, List.length_drop]; omega
      have HEE : Hid (Pk.vi ((b.drop 1).take 16) = Sc.ep (b.take 17)) := (ep16 (by omega)).symm
      have HNN : Hid (Pk.vi (Pk.nx 8 ((b.drop 1).take 16)) = Sc.nu (b.take 17)) := (nu16 (by omega)).symm
      have HHD : Hid (∀ x, Calls Tryz.prog 32 #[.int .i64 k, .int .i64 a] x (RowOf (Sc.mk k a) 9 x)) := fun x => fhead_any k a (by omega) x
      have HOP : Hid (∀ y q d, Below w.heap.size w y → Bs y q d (Sc.mk k a) → Calls Tryz.prog 36 #[.pointer (some ⟨g, 0, none⟩), .int .i64 (Sc.ep (b.take 17)), .int .i64 (Sc.nu (b.take 17)), .slice q 9 d, .slice (adv ab ao 17 c) (n - 17) (c - 17)] y (OpenSay (Seal.op K (Sc.ep (b.take 17)) (Sc.nu (b.take 17)) (Sc.mk k a) (b.drop 17)) y)) := fun y q d hy hq =>
        cropen_any K (Sc.mk k a) (b.drop 17) B g _ _ q _ 9 (n - 17) d _ (Sc.mk_len _ _) (by rw [List.length_drop, hn]) y (hg.old hy) hq (adv_bs (hp.old hy) (by omega)) (by omega) (ht.below hy ht.lt)
      have HG0 : Hid (Sc.inP (Sc.ep (b.take 17)) (Sc.nu (b.take 17)) a = true → Sc.ger k a b = 0) := fun h => Sc.ger_zero.2 ⟨by omega, hgk, h⟩
      have HG7 : Hid (Sc.inP (Sc.ep (b.take 17)) (Sc.nu (b.take 17)) a = false → Sc.ger k a b = 7) := fun h => ger_range (by omega) (by omega) hgk h
      have HFI : Hid (∀ o v y, Sc.ger k a b = 0 → Seal.op K (Sc.ep (b.take 17)) (Sc.nu (b.take 17)) (Sc.mk k a) (b.drop 17) = o → SGet k (Sc.ep (b.take 17)) (Sc.nu (b.take 17)) a o w v y → LGet (Sc.gt (Seal.op K) k a b) w v y) := fun o v y h1 h2 h3 => lget_of h1 h2 h3
      have hbk : (b.getD 0 0 == k) = true := by simpa using hb
      have hw : IntKind.i64.wrap (b.getD 0 0) = b.getD 0 0 := IntWalk.i64_in _ ⟨by omega, by omega⟩
      have hc1 : ¬ c = 1 := by omega
      have hc17 : (17 : Int) ≤ (c : Int) := by omega
      have hn17 : (17 : Int) ≤ (n : Int) := by omega
      obtain ⟨oo, hoo⟩ : ∃ o, Seal.op K (Sc.ep (b.take 17)) (Sc.nu (b.take 17)) (Sc.mk k a) (b.drop 17) = o := ⟨_, rfl⟩
      rw [hoo] at HOP
      have HOO := Lib.hid hoo; clear hoo
      clear hb hkd hgk hk5 hg ht hp
      generalize Sc.ep (b.take 17) = e0 at *
      generalize Sc.nu (b.take 17) = n0 at *
      generalize Sc.mk k a = M2 at *
      generalize (b.drop 1).take 16 = L16 at *
      generalize b.getD 0 0 = x0 at *
      have HN8 : Hid ((Pk.nx 8 L16).length ≤ 16) := by show _ ≤ _; have := Pk.nx_le 8 L16; have := HL16.out; omega
      have TK : Hid (0 = 0) := rfl
      go_enter Tryz.func11, Tryz.ntmps11
      go_upto_region 1 with (fail)
      change Code.wp _ _ _ _ (w.alloc (SO 0 0 0 0 none 0 0))
      obtain ⟨w0, hw0⟩ : ∃ x, x = w.alloc (SO 0 0 0 0 none 0 0) := ⟨_, rfl⟩
      rw [← hw0] at B0 HS P0 ⊢
      have hw0k := hw0
      clear hw0
      obtain ⟨d0, d1, d2, d3, d4⟩ := (HS.out _ (Below.refl _ _)).all
      obtain ⟨f0, f1, f2, f3, f4⟩ := (HS.out _ (Below.refl _ _)).fro
      have hc0 : w0.cell? ⟨ab, ao, none⟩ = some (.int .u8 x0) := HCZ.out _ hw0k
      clear hw0k
      go_upto_region 10 with (first
        | (go_at_call 27; refine (HI.out _).mono ?_; rintro e1 w1 ⟨rfl, rfl⟩)
        | (go_at_call 34; refine (HRD.out _ B0.out).mono ?_; rintro e1 w1 ⟨g1, D1, rfl, R1, G1, b1⟩)
        | (go_at_call 35; have TT := TK.out; clear TK; refine (fint_any L16 false g1 D1 16 HL16.out _ R1.out).mono ?_; rintro e2 w2 ⟨rfl, R2, O2⟩; rw [HEE.out])
        | (go_at_call 35; refine (fint_any (Pk.nx 8 L16) _ g1 D1 _ rfl _ R2.out).mono ?_; rintro e3 w3 ⟨rfl, R3, O3⟩; rw [HNN.out]))
      have B3 : Hid (Below w0.heap.size w0 w3) := (O2.out.trans O3.out).below b1.out G1.out.1 b1.out.size
      have W3 : Hid (Below w.heap.size w w3) := B0.out.trans (B3.out.mono B0.out.size)
      clear R1 R2 R3 O2 O3 G1 b1 HRD HL16 HEE HNN HN8 d0 d1 d2 d3 d4 f0 f1 f2 f3 f4 hc0
      obtain ⟨d0, d1, d2, d3, d4⟩ := (HS.out _ B3.out).all
      obtain ⟨f0, f1, f2, f3, f4⟩ := (HS.out _ B3.out).fro
      cases hie : inR e0 with
      | false =>
        have hin : inR e0 = false := hie
        have HE : Hid (Sc.ger k a b = 7) := HG7.out (inP_bad (Or.inl hie))
        go_wp2_with (first
          | (go_at_call 29; refine (HA.out _).mono ?_; rintro e2 w2 ⟨rfl, rfl⟩)
          | (go_at_call 28; refine (HN.out _ _).mono ?_; rintro e4 w4 ⟨rfl, rfl⟩; first | rw [hie] | rw [hin]))
        have q := gno W3.out (HS.out _ B3.out)
        exact bodyPost_ret (results_cell_tmp rfl _ _ w.heap.size 24 _ (0, 0) _ rfl q.1.row Tryz.underlying24 rfl (by rw [ssize]; rfl)) rfl (HNO.out _ _ _ HE.out (by decide) ⟨rfl, q.2⟩)
      | true =>
        cases hin : inR n0 with
        | false =>
          have HE : Hid (Sc.ger k a b = 7) := HG7.out (inP_bad (Or.inr (Or.inl hin)))
          go_wp2_with (first
            | (go_at_call 29; refine (HA.out _).mono ?_; rintro e2 w2 ⟨rfl, rfl⟩)
            | (go_at_call 28; refine (HN.out _ _).mono ?_; rintro e4 w4 ⟨rfl, rfl⟩; first | rw [hie] | rw [hin]))
          have q := gno W3.out (HS.out _ B3.out)
          exact bodyPost_ret (results_cell_tmp rfl _ _ w.heap.size 24 _ (0, 0) _ rfl q.1.row Tryz.underlying24 rfl (by rw [ssize]; rfl)) rfl (HNO.out _ _ _ HE.out (by decide) ⟨rfl, q.2⟩)
        | true =>
          cases hia : Sc.inA a with
          | false =>
            rw [hia] at HA
            have HE : Hid (Sc.ger k a b = 7) := HG7.out (inP_bad (Or.inr (Or.inr hia)))
            go_wp2_with (first
              | (go_at_call 29; refine (HA.out _).mono ?_; rintro e2 w2 ⟨rfl, rfl⟩)
              | (go_at_call 28; refine (HN.out _ _).mono ?_; rintro e4 w4 ⟨rfl, rfl⟩; first | rw [hie] | rw [hin]))
            have q := gno W3.out (HS.out _ B3.out)
            exact bodyPost_ret (results_cell_tmp rfl _ _ w.heap.size 24 _ (0, 0) _ rfl q.1.row Tryz.underlying24 rfl (by rw [ssize]; rfl)) rfl (HNO.out _ _ _ HE.out (by decide) ⟨rfl, q.2⟩)
          | true =>
            rw [hia] at HA
            have HZ : Hid (Sc.ger k a b = 0) := HG0.out (inP_good hie hin hia)
            go_upto_region 12 with (first
              | (go_at_call 29; refine (HA.out _).mono ?_; rintro e2 w2 ⟨rfl, rfl⟩)
              | (go_at_call 28; refine (HN.out _ _).mono ?_; rintro e4 w4 ⟨rfl, rfl⟩; first | rw [hie] | rw [hin]))
            clear HG0 HG7 HNO HCZ hcap hn1 hc1 h0 h1 h0' h1' hbk hw hb0 hie hin hia hk hn
            have hcc0 : ¬ ((c : Int) < 17) := by omega
            by_cases hcc : c = 17
            · subst hcc
              have HOQ : Hid (∀ y q d, Below w.heap.size w y → Bs y q d M2 → Calls Tryz.prog 36 #[.pointer (some ⟨g, 0, none⟩), .int .i64 e0, .int .i64 n0, .slice q 9 d, .slice (some ⟨ab, ao, none⟩) (n - 17) 0] y (OpenSay oo y)) := by have h := HOP.out; unfold adv at h; rw [if_pos rfl] at h; exact h
              clear HOP
              have HK : Hid (∀ y, Below w3.heap.size w3 y → y.cell? ⟨w.heap.size, 0, none⟩ = some (.int .i64 0)) := fun y hy => (HS.out y (B3.out.trans (hy.mono B3.out.size))).c0
              have B3d : Hid (Below w3.heap.size w3 w3.drew) := (Below.refl _ w3).drew
              go_region_held3 (fun y => y.cell? ⟨w.heap.size, 0, none⟩ = some (.int .i64 0))
                (exact HK.out _ (Hid.out (by assumption)))
                ((first
                  | (go_at_call 32; refine (HHD.out _).mono ?_; rintro e6 w6 ⟨p6, c6, rfl, O6, H6, b6⟩; have B6 : Hid (Below w3.heap.size w3 w6) := (Below.refl _ w3).drew.trans b6.out)
                  | (go_at_call 36; refine (HOQ.out _ _ _ (W3.out.trans (B6.out.mono W3.out.size)) H6.out).mono ?_; rintro e7 w7 ⟨u7, d7, m7, rfl, L7, O7, H7, b7⟩; have B7 : Hid (Below w3.heap.size w3 w7) := B6.out.trans (b7.mono B6.out.size))))
              all_goals
                have W7 : Hid (Below w.heap.size w w7) := W3.out.trans (B7.out.mono W3.out.size)
                have B07 : Hid (Below w0.heap.size w0 w7) := B3.out.trans (B7.out.mono B3.out.size)
                have R7 := Lib.hid (HS.out _ B07.out)
                have LZ : Hid (w.heap.size < w6.heap.size) := by show _ < _; have h1 := (HS.out _ B3.out).lt; have := B6.out.size; omega
                clear HHD HOQ H6 O6 b6 B6 HI HN HA HS P0 d0 d1 d2 d3 d4 f0 f1 f2 f3 f4
                obtain ⟨d0, d1, d2, d3, d4⟩ := R7.out.all
                obtain ⟨f0, f1, f2, f3, f4⟩ := R7.out.fro
                cases oo with
                | none =>
                  simp only [Option.isSome_none]
                  go_wp2
                  have q := gno W7.out R7.out
                  exact bodyPost_ret (results_cell_tmp rfl _ _ w.heap.size 24 _ (0, 0) _ rfl q.1.row Tryz.underlying24 rfl (by rw [ssize]; rfl)) rfl (HFI.out _ _ _ HZ.out HOO.out (Or.inl ⟨rfl, rfl, q.2⟩))
                | some R =>
                  simp only [Option.isSome_some]
                  rw [Option.getD_some] at L7 O7 H7
                  go_wp2
                  have hS9 := sset (k' := k) (e' := e0) (n' := n0) (a' := a) (p' := u7) (m' := m7) (c' := d7) R7.out.row
                  have C9 := sset_chg w7 w.heap.size (.int .i64 k) (.int .i64 e0) (.int .i64 n0) (.int .i64 a) (.slice u7 m7 d7)
                  have O9 := own_chg O7.out C9 LZ.out
                  have hbs := own_bs O9 H7.out.bat.1
                  refine bodyPost_ret (results_cell_tmp rfl _ _ w.heap.size 24 _ (0, 0) _ rfl hS9 Tryz.underlying24 rfl (by rw [ssize]; rfl)) rfl (HFI.out _ _ _ HZ.out HOO.out (Or.inr ⟨R, u7, m7, d7, rfl, L7, rfl, own_baseS O9 (Nat.le_of_lt LZ.out), ?_, C9.below W7.out (Nat.le_refl _)⟩))
                  obtain ⟨p', c', he, hb, _⟩ := hbs
                  cases he
                  exact hb
            · have HOQ : Hid (∀ y q d, Below w.heap.size w y → Bs y q d M2 → Calls Tryz.prog 36 #[.pointer (some ⟨g, 0, none⟩), .int .i64 e0, .int .i64 n0, .slice q 9 d, .slice (some ⟨ab, ao + 17, none⟩) (n - 17) (c - 17)] y (OpenSay oo y)) := by have h := HOP.out; unfold adv at h; rw [if_neg hcc] at h; exact h
              clear HOP
              have HK : Hid (∀ y, Below w3.heap.size w3 y → y.cell? ⟨w.heap.size, 0, none⟩ = some (.int .i64 0)) := fun y hy => (HS.out y (B3.out.trans (hy.mono B3.out.size))).c0
              have B3d : Hid (Below w3.heap.size w3 w3.drew) := (Below.refl _ w3).drew
              go_region_held3 (fun y => y.cell? ⟨w.heap.size, 0, none⟩ = some (.int .i64 0))
                (exact HK.out _ (Hid.out (by assumption)))
                ((first
                  | (go_at_call 32; refine (HHD.out _).mono ?_; rintro e6 w6 ⟨p6, c6, rfl, O6, H6, b6⟩; have B6 : Hid (Below w3.heap.size w3 w6) := (Below.refl _ w3).drew.trans b6.out)
                  | (go_at_call 36; refine (HOQ.out _ _ _ (W3.out.trans (B6.out.mono W3.out.size)) H6.out).mono ?_; rintro e7 w7 ⟨u7, d7, m7, rfl, L7, O7, H7, b7⟩; have B7 : Hid (Below w3.heap.size w3 w7) := B6.out.trans (b7.mono B6.out.size))))
              all_goals
                have W7 : Hid (Below w.heap.size w w7) := W3.out.trans (B7.out.mono W3.out.size)
                have B07 : Hid (Below w0.heap.size w0 w7) := B3.out.trans (B7.out.mono B3.out.size)
                have R7 := Lib.hid (HS.out _ B07.out)
                have LZ : Hid (w.heap.size < w6.heap.size) := by show _ < _; have h1 := (HS.out _ B3.out).lt; have := B6.out.size; omega
                clear HHD HOQ H6 O6 b6 B6 HI HN HA HS P0 d0 d1 d2 d3 d4 f0 f1 f2 f3 f4
                obtain ⟨d0, d1, d2, d3, d4⟩ := R7.out.all
                obtain ⟨f0, f1, f2, f3, f4⟩ := R7.out.fro
                cases oo with
                | none =>
                  simp only [Option.isSome_none]
                  go_wp2
                  have q := gno W7.out R7.out
                  exact bodyPost_ret (results_cell_tmp rfl _ _ w.heap.size 24 _ (0, 0) _ rfl q.1.row Tryz.underlying24 rfl (by rw [ssize]; rfl)) rfl (HFI.out _ _ _ HZ.out HOO.out (Or.inl ⟨rfl, rfl, q.2⟩))
                | some R =>
                  simp only [Option.isSome_some]
                  rw [Option.getD_some] at L7 O7 H7
                  go_wp2
                  have hS9 := sset (k' := k) (e' := e0) (n' := n0) (a' := a) (p' := u7) (m' := m7) (c' := d7) R7.out.row
                  have C9 := sset_chg w7 w.heap.size (.int .i64 k) (.int .i64 e0) (.int .i64 n0) (.int .i64 a) (.slice u7 m7 d7)
                  have O9 := own_chg O7.out C9 LZ.out
                  have hbs := own_bs O9 H7.out.bat.1
                  refine bodyPost_ret (results_cell_tmp rfl _ _ w.heap.size 24 _ (0, 0) _ rfl hS9 Tryz.underlying24 rfl (by rw [ssize]; rfl)) rfl (HFI.out _ _ _ HZ.out HOO.out (Or.inr ⟨R, u7, m7, d7, rfl, L7, rfl, own_baseS O9 (Nat.le_of_lt LZ.out), ?_, C9.below W7.out (Nat.le_refl _)⟩))
                  obtain ⟨p', c', he, hb, _⟩ := hbs
                  cases he
                  exact hb
end Go.Proofs.YtkjfhbmdogmecaaGreatDoor

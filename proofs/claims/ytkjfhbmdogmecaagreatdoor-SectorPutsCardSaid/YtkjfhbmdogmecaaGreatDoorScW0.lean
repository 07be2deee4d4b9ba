/-
  Contract: the reference's Put.
-/
import Derived.Test.YtkjfhbmdogmecaaGreatDoorScV
namespace Go.Proofs.YtkjfhbmdogmecaaGreatDoor
open Go.RowKit

theorem inP_bad {e n a : Int} (h : inR e = false ∨ inR n = false ∨ Sc.inA a = false) : Sc.inP e n a = false := by
  unfold Sc.inP
  rcases h with h | h | h <;> simp [h]
theorem inP_good {e n a : Int} (h1 : inR e = true) (h2 : inR n = true) (h3 : Sc.inA a = true) : Sc.inP e n a = true := by unfold Sc.inP; simp [h1, h2, h3]
theorem er_kind {k e n a : Int} {m : Nat} (h : Sc.isK k = false) : Sc.er k e n a m = 5 := by unfold Sc.er; rw [if_neg (by simp [h])]
theorem er_range {k e n a : Int} {m : Nat} (h : Sc.isK k = true) (h2 : Sc.inP e n a = false) : Sc.er k e n a m = 7 := by unfold Sc.er; rw [if_pos h, if_neg (by simp [h2])]
theorem er_long {k e n a : Int} {m : Nat} (h : Sc.isK k = true) (h2 : Sc.inP e n a = true) (h3 : 975 < m) : Sc.er k e n a m = 3 := by unfold Sc.er; rw [if_pos h, if_pos h2, if_pos h3]
set_option maxHeartbeats 4000000 in
set_option maxRecDepth 100000 in
theorem rput_no (vg : Value) (k e n a : Int) (p : Option Addr) (m c : Nat) (h : Sc.er k e n a m ≠ 0) (w : World) :
    Calls Tryz.prog 9 #[vg, SV k e n a p m c] w (NoSay (Sc.er k e n a m) w) := by
  have B0 : Hid (Below w.heap.size w (w.alloc (SO k e n a p m c))) := (Below.refl _ w).alloc (Nat.le_refl _) _
  have HS : Hid (∀ y, Below (w.alloc (SO k e n a p m c)).heap.size (w.alloc (SO k e n a p m c)) y → SAt y w.heap.size k e n a p m c) := fun y hy => (SAt.new w k e n a p m c).old hy
  have HI : Hid (∀ x, Calls Tryz.prog 27 #[.int .i64 k] x fun r x' => r = .returned (.bool (Sc.isK k)) ∧ x = x') := fun x => fkind_any k x
  have HN : Hid (∀ y x, Calls Tryz.prog 28 #[.int .i64 y] x fun r x' => r = .returned (.bool (inR y)) ∧ x = x') := fun y x => fnumber_any y x
  have HA : Hid (∀ x, Calls Tryz.prog 29 #[.int .i64 a] x fun r x' => r = .returned (.bool (Sc.inA a)) ∧ x = x') := fun x => fplace_any a x
  cases hk : Sc.isK k with
  | false =>
    rw [er_kind hk]
    rw [hk] at HI
    have hie : inR e = inR e := rfl
    have hin : inR n = inR n := rfl
    go_enter Tryz.func9, Tryz.ntmps9
    go_upto_region 1 with (fail)
    change Code.wp _ _ _ _ (w.alloc (SO k e n a p m c))
    obtain ⟨w0, hw0⟩ : ∃ x, x = w.alloc (SO k e n a p m c) := ⟨_, rfl⟩
    rw [← hw0] at B0 HS ⊢
    clear hw0
    obtain ⟨d0, d1, d2, d3, d4⟩ := (HS.out _ (Below.refl _ _)).all
    go_wp2_with (first
      | (go_at_call 27; refine (HI.out _).mono ?_; rintro e1 w1 ⟨rfl, rfl⟩)
      | (go_at_call 29; refine (HA.out _).mono ?_; rintro e2 w2 ⟨rfl, rfl⟩)
      | (go_at_call 28; refine (HN.out _ _).mono ?_; rintro e3 w3 ⟨rfl, rfl⟩; first | rw [hie] | rw [hin]))
    go_ret2
    exact ⟨rfl, B0.out⟩
  | true =>
    rw [hk] at HI
    cases hie : inR e with
    | false =>
      rw [er_range hk (inP_bad (Or.inl hie))]
      have hin : inR e = false := hie
      go_enter Tryz.func9, Tryz.ntmps9
      go_upto_region 1 with (fail)
      change Code.wp _ _ _ _ (w.alloc (SO k e n a p m c))
      obtain ⟨w0, hw0⟩ : ∃ x, x = w.alloc (SO k e n a p m c) := ⟨_, rfl⟩
      rw [← hw0] at B0 HS ⊢
      clear hw0
      obtain ⟨d0, d1, d2, d3, d4⟩ := (HS.out _ (Below.refl _ _)).all
      go_wp2_with (first
        | (go_at_call 27; refine (HI.out _).mono ?_; rintro e1 w1 ⟨rfl, rfl⟩)
        | (go_at_call 29; refine (HA.out _).mono ?_; rintro e2 w2 ⟨rfl, rfl⟩)
        | (go_at_call 28; refine (HN.out _ _).mono ?_; rintro e3 w3 ⟨rfl, rfl⟩; first | rw [hie] | rw [hin]))
      go_ret2
      exact ⟨rfl, B0.out⟩
    | true =>
      cases hin : inR n with
      | false =>
        rw [er_range hk (inP_bad (Or.inr (Or.inl hin)))]
        go_enter Tryz.func9, Tryz.ntmps9
        go_upto_region 1 with (fail)
        change Code.wp _ _ _ _ (w.alloc (SO k e n a p m c))
        obtain ⟨w0, hw0⟩ : ∃ x, x = w.alloc (SO k e n a p m c) := ⟨_, rfl⟩
        rw [← hw0] at B0 HS ⊢
        clear hw0
        obtain ⟨d0, d1, d2, d3, d4⟩ := (HS.out _ (Below.refl _ _)).all
        go_wp2_with (first
          | (go_at_call 27; refine (HI.out _).mono ?_; rintro e1 w1 ⟨rfl, rfl⟩)
          | (go_at_call 29; refine (HA.out _).mono ?_; rintro e2 w2 ⟨rfl, rfl⟩)
          | (go_at_call 28; refine (HN.out _ _).mono ?_; rintro e3 w3 ⟨rfl, rfl⟩; first | rw [hie] | rw [hin]))
        go_ret2
        exact ⟨rfl, B0.out⟩
      | true =>
        cases hia : Sc.inA a with
        | false =>
          rw [er_range hk (inP_bad (Or.inr (Or.inr hia)))]
          rw [hia] at HA
          go_enter Tryz.func9, Tryz.ntmps9
          go_upto_region 1 with (fail)
          change Code.wp _ _ _ _ (w.alloc (SO k e n a p m c))
          obtain ⟨w0, hw0⟩ : ∃ x, x = w.alloc (SO k e n a p m c) := ⟨_, rfl⟩
          rw [← hw0] at B0 HS ⊢
          clear hw0
          obtain ⟨d0, d1, d2, d3, d4⟩ := (HS.out _ (Below.refl _ _)).all
          go_wp2_with (first
            | (go_at_call 27; refine (HI.out _).mono ?_; rintro e1 w1 ⟨rfl, rfl⟩)
            | (go_at_call 29; refine (HA.out _).mono ?_; rintro e2 w2 ⟨rfl, rfl⟩)
            | (go_at_call 28; refine (HN.out _ _).mono ?_; rintro e3 w3 ⟨rfl, rfl⟩; first | rw [hie] | rw [hin]))
          go_ret2
          exact ⟨rfl, B0.out⟩
        | true =>
          have hm : 975 < m := by
            by_cases q : 975 < m
            · exact q
            · exact absurd (Sc.er_zero.2 ⟨hk, inP_good hie hin hia, by omega⟩) h
          rw [er_long hk (inP_good hie hin hia) hm]
          rw [hia] at HA
          have hm2 : (m : Int) > 975 := by omega
          go_enter Tryz.func9, Tryz.ntmps9
          go_upto_region 1 with (fail)
          change Code.wp _ _ _ _ (w.alloc (SO k e n a p m c))
          obtain ⟨w0, hw0⟩ : ∃ x, x = w.alloc (SO k e n a p m c) := ⟨_, rfl⟩
          rw [← hw0] at B0 HS ⊢
          clear hw0
          obtain ⟨d0, d1, d2, d3, d4⟩ := (HS.out _ (Below.refl _ _)).all
          go_wp2_with (first
            | (go_at_call 27; refine (HI.out _).mono ?_; rintro e1 w1 ⟨rfl, rfl⟩)
            | (go_at_call 29; refine (HA.out _).mono ?_; rintro e2 w2 ⟨rfl, rfl⟩)
            | (go_at_call 28; refine (HN.out _ _).mono ?_; rintro e3 w3 ⟨rfl, rfl⟩; first | rw [hie] | rw [hin]))
          go_ret2
          exact ⟨rfl, B0.out⟩
def rowB (k : Int) : Obj := .cells #[.int .u8 k] 5
set_option maxHeartbeats 4000000 in
set_option maxRecDepth 100000 in
theorem rput_good (K L : List Int) (B g : Nat) (k e n a : Int) (p : Option Addr) (m c : Nat) (hm : L.length = m) (h : Sc.er k e n a m = 0) (w : World) (hg : CrAt B w g K) (hL : Bs w p c L) (ht : Tab w 1) :
    Calls Tryz.prog 9 #[.pointer (some ⟨g, 0, none⟩), SV k e n a p m c] w (LPut (0, Sc.fr k e n ++ Seal.sl K e n (Sc.mk k a) L) w (Below w.heap.size w)) := by
  obtain ⟨hk, hp, hml⟩ := Sc.er_zero.1 h
  have h4 := Sc.inP_iff.1 hp
  have hk2 := Sc.isK_iff.1 hk
  have hie := inR_of _ h4.1
  have hin := inR_of _ h4.2.1
  have hia := Sc.inA_iff.2 h4.2.2
  have B0 : Hid (Below w.heap.size w (w.alloc (SO k e n a p m c))) := (Below.refl _ w).alloc (Nat.le_refl _) _
  have HS : Hid (∀ y, Below (w.alloc (SO k e n a p m c)).heap.size (w.alloc (SO k e n a p m c)) y → SAt y w.heap.size k e n a p m c) := fun y hy => (SAt.new w k e n a p m c).old hy
  have HI : Hid (∀ x, Calls Tryz.prog 27 #[.int .i64 k] x fun r x' => r = .returned (.bool true) ∧ x = x') := fun x => by have h := fkind_any k x; rw [hk] at h; exact h
  have HN : Hid (∀ y x, Calls Tryz.prog 28 #[.int .i64 y] x fun r x' => r = .returned (.bool (inR y)) ∧ x = x') := fun y x => fnumber_any y x
  have HA : Hid (∀ x, Calls Tryz.prog 29 #[.int .i64 a] x fun r x' => r = .returned (.bool true) ∧ x = x') := fun x => by have h := fplace_any a x; rw [hia] at h; exact h
  have HI1 : Hid (∀ x : World, Calls Tryz.prog 30 #[.slice (some ⟨x.heap.size, 0, none⟩) 1 1, .int .i64 e] (x.alloc (rowB k)) (RowOf (Sc.mk k e) 9 (x.alloc (rowB k)))) := fun x => by
    have h := refint_any [k] e (some ⟨x.heap.size, 0, none⟩) 1 1 9 rfl rfl (by omega) _ (lit_one x [k] 1 (0, 0) rfl (by omega) (fun x hx => by simp at hx; omega))
    unfold Sc.mk
    exact h
  have HI2 : Hid (∀ x q d, Bs x q d (Sc.mk k e) → Calls Tryz.prog 30 #[.slice q 9 d, .int .i64 n] x (RowOf (Sc.fr k e n) 17 x)) := fun x q d h => by
    have h2 := refint_any (Sc.mk k e) n q 9 d 17 (Sc.mk_len k e) rfl (by omega) x h
    unfold Sc.fr
    exact h2
  have HHD : Hid (∀ x, Calls Tryz.prog 32 #[.int .i64 k, .int .i64 a] x (RowOf (Sc.mk k a) 9 x)) := fun x => fhead_any k a (by omega) x
  have HSL : Hid (∀ y q d, Below w.heap.size w y → Bs y q d (Sc.mk k a) → Calls Tryz.prog 31 #[.pointer (some ⟨g, 0, none⟩), .int .i64 e, .int .i64 n, .slice q 9 d, .slice p m c] y (OwnSay (Seal.sl K e n (Sc.mk k a) L) y)) := fun y q d hy hq =>
    crseal_any K (Sc.mk k a) L B g e n q p 9 m d c (Sc.mk_len _ _) hm y (hg.old hy) hq (hL.old hy) (by omega) (ht.below hy ht.lt)
  have HLF : Hid ((Sc.fr k e n).length = 17) := Sc.fr_len k e n
  have HFB : Hid (Sha.Byt (Sc.fr k e n)) := Sc.fr_byt (by omega) e n
  have HLS : Hid ((Seal.sl K e n (Sc.mk k a) L).length = m + 32) := by show _ = _; rw [Seal.sl_len hie hin, hm]
  have HSB : Hid (Sha.Byt (Seal.sl K e n (Sc.mk k a) L)) := Seal.sl_byt _ _ _ _ _
  have hm2 : ¬ ((m : Int) > 975) := by omega
  have hwk : IntKind.u8.wrap k = k := by simp [IntKind.wrap_u8]; omega
  have HML : Hid (m ≤ 975) := hml
  clear hk hp h4 hk2 hia hg hL ht h hm hml
  generalize Sc.fr k e n = FR at *
  generalize Sc.mk k e = M1 at *
  generalize Sc.mk k a = M2 at *
  generalize Seal.sl K e n M2 L = SL at *
  go_enter Tryz.func9, Tryz.ntmps9
  go_upto_region 1 with (fail)
  change Code.wp _ _ _ _ (w.alloc (SO k e n a p m c))
  obtain ⟨w0, hw0⟩ : ∃ x, x = w.alloc (SO k e n a p m c) := ⟨_, rfl⟩
  rw [← hw0] at B0 HS ⊢
  clear hw0
  obtain ⟨d0, d1, d2, d3, d4⟩ := (HS.out _ (Below.refl _ _)).all
  go_upto_region 7 with (first
    | (go_at_call 27; refine (HI.out _).mono ?_; rintro e1 w1 ⟨rfl, rfl⟩)
    | (go_at_call 29; refine (HA.out _).mono ?_; rintro e2 w2 ⟨rfl, rfl⟩)
    | (go_at_call 28; refine (HN.out _ _).mono ?_; rintro e3 w3 ⟨rfl, rfl⟩; first | rw [hie] | rw [hin]))
  have HK : Hid (∀ y, Below w0.heap.size w0 y → y.cell? ⟨w.heap.size, 0, none⟩ = some (.int .i64 k) ∧ y.cell? ⟨w.heap.size, 1, none⟩ = some (.int .i64 e) ∧ y.cell? ⟨w.heap.size, 2, none⟩ = some (.int .i64 n) ∧ y.cell? ⟨w.heap.size, 3, none⟩ = some (.int .i64 a) ∧ y.cell? ⟨w.heap.size, 4, none⟩ = some (.slice p m c)) := fun y hy => (HS.out y hy).all
  have HKA : Hid (∀ y o, Below w0.heap.size w0 y → (y.alloc o).cell? ⟨w.heap.size, 0, none⟩ = some (.int .i64 k) ∧ (y.alloc o).cell? ⟨w.heap.size, 1, none⟩ = some (.int .i64 e) ∧ (y.alloc o).cell? ⟨w.heap.size, 2, none⟩ = some (.int .i64 n) ∧ (y.alloc o).cell? ⟨w.heap.size, 3, none⟩ = some (.int .i64 a) ∧ (y.alloc o).cell? ⟨w.heap.size, 4, none⟩ = some (.slice p m c)) := fun y o hy => HK.out _ (hy.alloc hy.size o)
  have B0d : Hid (Below w0.heap.size w0 w0.drew) := (Below.refl _ w0).drew
  have B0a : Hid (Below w0.heap.size w0 (w0.alloc (rowB k)).drew) := ((Below.refl _ w0).alloc (Nat.le_refl _) _).drew
  have HI1d : Hid (Calls Tryz.prog 30 #[.slice (some ⟨w0.heap.size, 0, none⟩) 1 1, .int .i64 e] (w0.alloc (rowB k)).drew (RowOf M1 9 (w0.alloc (rowB k)).drew)) := HI1.out w0.drew
  have TK : Hid (0 = 0) := rfl
  go_region_held3 (fun y => y.cell? ⟨w.heap.size, 0, none⟩ = some (.int .i64 k) ∧ y.cell? ⟨w.heap.size, 1, none⟩ = some (.int .i64 e) ∧ y.cell? ⟨w.heap.size, 2, none⟩ = some (.int .i64 n) ∧ y.cell? ⟨w.heap.size, 3, none⟩ = some (.int .i64 a) ∧ y.cell? ⟨w.heap.size, 4, none⟩ = some (.slice p m c))
    (first | exact HK.out _ (Hid.out (by assumption)) | exact HKA.out _ _ (Hid.out (by assumption)))
    ((first
      | (go_at_call 30; have TT := TK.out; clear TK; refine HI1d.out.mono ?_; rintro e3 w3 ⟨p3, c3, rfl, O3, H3, b3⟩; have B3 : Hid (Below w0.heap.size w0 w3) := B0a.out.trans (b3.out.mono B0a.out.size))
      | (go_at_call 30; refine (HI2.out _ _ _ H3.out).mono ?_; rintro e4 w4 ⟨p4, c4, rfl, O4, H4, b4⟩; have B4 : Hid (Below w0.heap.size w0 w4) := B3.out.trans (b4.out.mono B3.out.size))))
  all_goals
    go_upto_region 8 with (fail)
    have OF4 : Hid (w4.drew.ownsRow w0.heap.size 5 1 (.slice p4 17 c4) 17 (U8s FR)) := own_keepX (own_baseS O4.out B3.out.size) (Below.refl _ w4).drew
    have B4d : Hid (Below w0.heap.size w0 w4.drew) := B4.out.drew
    clear HKA B0a HI1d HI1 HI2 b3 b4 B3 O3 H3 O4 H4 HI HN HA
    refine wp_region_any (by kernel_rfl) ?_
    change wpAny _ _ _ _ _ _ _ (World.drew _)
    generalize w4.drew = z at *
    have TD := HK.out _ B4d.out
    refine wpAny_of_held (S := fun y => y.cell? ⟨w.heap.size, 0, none⟩ = some (.int .i64 k) ∧ y.cell? ⟨w.heap.size, 1, none⟩ = some (.int .i64 e) ∧ y.cell? ⟨w.heap.size, 2, none⟩ = some (.int .i64 n) ∧ y.cell? ⟨w.heap.size, 3, none⟩ = some (.int .i64 a) ∧ y.cell? ⟨w.heap.size, 4, none⟩ = some (.slice p m c)) _ _ _ _ ?_
    refine anyH_take 0 41 (.slice p4 17 c4) TD rfl (by kernel_rfl) (by kernel_rfl) (by kernel_rfl) (fun _ _ _ h => h) (by rfl) (by intro x hx; obtain ⟨y0, y1, y2, y3, y4⟩ := hx; go_simp; try (intro h; omega)) ?_
    try simp only [Act.put, List.setIfInBounds_toArray, List.set_cons_zero, List.set_cons_succ]
    refine anyH_take 1 42 (.pointer (some ⟨g, 0, none⟩)) TD rfl (by kernel_rfl) (by kernel_rfl) (by kernel_rfl) (fun _ _ _ h => h) (by rfl) (by intro x hx; obtain ⟨y0, y1, y2, y3, y4⟩ := hx; go_simp; try (intro h; omega)) ?_
    try simp only [Act.put, List.setIfInBounds_toArray, List.set_cons_zero, List.set_cons_succ]
    refine anyH_take 2 43 (.pointer (some ⟨w.heap.size, 1, none⟩)) TD rfl (by kernel_rfl) (by kernel_rfl) (by kernel_rfl) (fun _ _ _ h => h) (by rfl) (by intro x hx; obtain ⟨y0, y1, y2, y3, y4⟩ := hx; go_simp; try (intro h; omega)) ?_
    try simp only [Act.put, List.setIfInBounds_toArray, List.set_cons_zero, List.set_cons_succ]
    refine anyH_take 3 44 (.int .i64 e) TD rfl (by kernel_rfl) (by kernel_rfl) (by kernel_rfl) (fun _ _ _ h => h) (by rfl) (by intro x hx; obtain ⟨y0, y1, y2, y3, y4⟩ := hx; go_simp; try (intro h; omega)) ?_
    try simp only [Act.put, List.setIfInBounds_toArray, List.set_cons_zero, List.set_cons_succ]
    refine anyH_take 4 45 (.pointer (some ⟨w.heap.size, 2, none⟩)) TD rfl (by kernel_rfl) (by kernel_rfl) (by kernel_rfl) (fun _ _ _ h => h) (by rfl) (by intro x hx; obtain ⟨y0, y1, y2, y3, y4⟩ := hx; go_simp; try (intro h; omega)) ?_
    try simp only [Act.put, List.setIfInBounds_toArray, List.set_cons_zero, List.set_cons_succ]
    refine anyH_take 5 46 (.int .i64 n) TD rfl (by kernel_rfl) (by kernel_rfl) (by kernel_rfl) (fun _ _ _ h => h) (by rfl) (by intro x hx; obtain ⟨y0, y1, y2, y3, y4⟩ := hx; go_simp; try (intro h; omega)) ?_
    try simp only [Act.put, List.setIfInBounds_toArray, List.set_cons_zero, List.set_cons_succ]
    refine anyH_take 6 47 (.pointer (some ⟨w.heap.size, 0, none⟩)) TD rfl (by kernel_rfl) (by kernel_rfl) (by kernel_rfl) (fun _ _ _ h => h) (by rfl) (by intro x hx; obtain ⟨y0, y1, y2, y3, y4⟩ := hx; go_simp; try (intro h; omega)) ?_
    try simp only [Act.put, List.setIfInBounds_toArray, List.set_cons_zero, List.set_cons_succ]
    refine anyH_take 7 48 (.int .i64 k) TD rfl (by kernel_rfl) (by kernel_rfl) (by kernel_rfl) (fun _ _ _ h => h) (by rfl) (by intro x hx; obtain ⟨y0, y1, y2, y3, y4⟩ := hx; go_simp; try (intro h; omega)) ?_
    try simp only [Act.put, List.setIfInBounds_toArray, List.set_cons_zero, List.set_cons_succ]
    refine anyH_take 8 49 (.pointer (some ⟨w.heap.size, 3, none⟩)) TD rfl (by kernel_rfl) (by kernel_rfl) (by kernel_rfl) (fun _ _ _ h => h) (by rfl) (by intro x hx; obtain ⟨y0, y1, y2, y3, y4⟩ := hx; go_simp; try (intro h; omega)) ?_
    try simp only [Act.put, List.setIfInBounds_toArray, List.set_cons_zero, List.set_cons_succ]
    refine anyH_take 9 50 (.int .i64 a) TD rfl (by kernel_rfl) (by kernel_rfl) (by kernel_rfl) (fun _ _ _ h => h) (by rfl) (by intro x hx; obtain ⟨y0, y1, y2, y3, y4⟩ := hx; go_simp; try (intro h; omega)) ?_
    try simp only [Act.put, List.setIfInBounds_toArray, List.set_cons_zero, List.set_cons_succ]
    refine anyH_take 11 52 (.pointer (some ⟨w.heap.size, 4, none⟩)) TD rfl (by kernel_rfl) (by kernel_rfl) (by kernel_rfl) (fun _ _ _ h => h) (by rfl) (by intro x hx; obtain ⟨y0, y1, y2, y3, y4⟩ := hx; go_simp; try (intro h; omega)) ?_
    try simp only [Act.put, List.setIfInBounds_toArray, List.set_cons_zero, List.set_cons_succ]
    refine anyH_take 12 53 (.slice p m c) TD rfl (by kernel_rfl) (by kernel_rfl) (by kernel_rfl) (fun _ _ _ h => h) (by rfl) (by intro x hx; obtain ⟨y0, y1, y2, y3, y4⟩ := hx; go_simp; try (intro h; omega)) ?_
    try simp only [Act.put, List.setIfInBounds_toArray, List.set_cons_zero, List.set_cons_succ]
    refine anyH_one 10 (by kernel_rfl) ?_
    refine wpOp_step rfl (fun Kc hKc => ?_)
    go_simp
    refine (HHD.out _).mono ?_
    rintro e5 w5 ⟨p5, c5, rfl, O5, H5, b5⟩
    have B5 : Hid (Below w0.heap.size w0 w5) := B4d.out.trans (b5.out.mono B4d.out.size)
    dsimp only
    refine hKc _ _ ⟨HK.out _ B5.out, ?_⟩
    clear hKc Kc TD
    try simp only [Act.put, List.setIfInBounds_toArray, List.set_cons_zero, List.set_cons_succ]
    refine anyH_one 13 (by kernel_rfl) ?_
    refine wpOp_step rfl (fun Kc hKc => ?_)
    go_simp
    refine (HSL.out _ _ _ (B0.out.trans (B5.out.mono B0.out.size)) H5.out).mono ?_
    rintro e6 w6 ⟨p6, c6, m6, rfl, l6, o6, H6, b6⟩
    obtain rfl : m6 = m + 32 := l6.symm.trans HLS.out
    have B6 : Hid (Below w0.heap.size w0 w6) := B5.out.trans (b6.mono B5.out.size)
    have OF6 : Hid (w6.ownsRow w0.heap.size 5 1 (.slice p4 17 c4) 17 (U8s FR)) := own_keepX (own_keepX OF4.out b5.out) b6
    dsimp only
    refine hKc _ _ ⟨HK.out _ B6.out, ?_⟩
    clear hKc Kc
    try simp only [Act.put, List.setIfInBounds_toArray, List.set_cons_zero, List.set_cons_succ]
    refine anyH_one 14 (by kernel_rfl) ?_
    refine op_append_bts 14 (.tmp 41) (.tmp 54) SL w0.heap.size (.slice p4 17 c4) 17 FR p6 (m + 32) c6 rfl rfl rfl l6 H6.out OF6.out (by have := HML.out; omega) B6.out.size ?_
    intro v7 w7 ho7 hg7
    have B7 : Hid (Below w0.heap.size w0 w7) := B6.out.grown hg7 B6.out.size (fun q hq => (OF6.out.lt q hq).1)
    refine ⟨HK.out _ B7.out, ?_⟩
    have TG := HK.out _ B7.out
    try simp only [Act.put, List.setIfInBounds_toArray, List.set_cons_zero, List.set_cons_succ]
    refine anyH_take 15 4 v7 TG rfl (by kernel_rfl) (by kernel_rfl) (by kernel_rfl) (fun _ _ _ h => h) (by rfl) (by intro x hx; obtain ⟨y0, y1, y2, y3, y4⟩ := hx; go_simp; try (intro h; omega)) ?_
    try simp only [Act.put, List.setIfInBounds_toArray, List.set_cons_zero, List.set_cons_succ]
    refine anyH_take 16 5 (.int .i64 0) TG rfl (by kernel_rfl) (by kernel_rfl) (by kernel_rfl) (fun _ _ _ h => h) (by rfl) (by intro x hx; obtain ⟨y0, y1, y2, y3, y4⟩ := hx; go_simp; try (intro h; omega)) ?_
    try simp only [Act.put, List.setIfInBounds_toArray, List.set_cons_zero, List.set_cons_succ]
    refine anyH_done (by kernel_rfl) ?_ _
    clear TG
    go_wp2
    have hby : Sha.Byt (FR ++ SL) := Sha.byt_append HFB.out HSB.out
    obtain ⟨q7, d7, rfl, hb7, hl7⟩ := own_bs ho7 hby
    have hl8 := hl7
    rw [hl7] at ho7
    go_ret2
    rw [hl7]
    refine ⟨q7, _, d7, rfl, hl8, own_baseS ho7 B0.out.size, hb7, B0.out.trans (B7.out.mono B0.out.size)⟩
theorem rput_any (K : List Int) (B g : Nat) (s : Sc.S) (p : Option Addr) (m c : Nat) (hm : s.L.length = m) (w : World) (hg : CrAt B w g K) (hL : Bs w p c s.L) (ht : Tab w 1) :
    Calls Tryz.prog 9 #[.pointer (some ⟨g, 0, none⟩), Sv s p m c] w (LPut (Sc.pt (Seal.sl K) s) w (Below w.heap.size w)) := by
  subst hm
  by_cases h : Sc.ers s = 0
  · rw [Sc.pt_ok h]
    exact rput_good K s.L B g s.k s.e s.n s.a p s.L.length c rfl h w hg hL ht
  · exact (rput_no _ s.k s.e s.n s.a p s.L.length c h w).mono fun r w' q => lput_no q (Sc.pt_no h) id
end Go.Proofs.YtkjfhbmdogmecaaGreatDoor

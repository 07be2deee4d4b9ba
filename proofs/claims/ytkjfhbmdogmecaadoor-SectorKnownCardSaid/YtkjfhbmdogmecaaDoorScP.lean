/-
  The law SectorKnown walked.
-/
import Derived.Test.YtkjfhbmdogmecaaDoorScP0
namespace Go.Proofs.YtkjfhbmdogmecaaDoor
open Go.RowKit

set_option maxHeartbeats 8000000 in
set_option maxRecDepth 100000 in
theorem sknown_any (hT : TakeSaid) (w : World) (ht : Tab w 0) : Calls Tryd.prog 6 #[] w (YesSay w) := by
  have HKN : Hid (∀ x, Below w.heap.size w x → Calls Tryd.prog 8 #[] x (YesSay x)) := fun x hx => known_any hT x (ht.below hx ht.lt)
  have HNW : Hid (∀ x, Calls Tryd.prog 10 #[] x (NewNam x)) := newnam_any
  clear hT ht
  go_enter Tryd.func6, Tryd.ntmps6
  go_upto_region 2 with (go_at_call 10; refine (HNW.out _).mono ?_; rintro e1 w1 ⟨g, b, cc, rfl, L1, St1, B1⟩)
  go_cut [2] from 22 to 35 (fun v2 y => ∃ tb a1 a2 : Nat, v2 = .slice (some ⟨tb, 0, none⟩) 11 11 ∧ KRow y tb a1 a2 ∧ Below w1.heap.size w1 y ∧ w1.heap.size ≤ tb)
  case first =>
    refine wp_region_any (by kernel_rfl) ?_
    change wpAny _ _ _ _ _ _ _ (World.drew _)
    have BZ : Hid (Below w1.heap.size w1 w1.drew) := (Below.refl _ w1).drew
    generalize w1.drew = z at *
    refine any_take 0 22 (SV 0 0 0 0 none 0 0) rfl (by kernel_rfl) (by kernel_rfl) (by kernel_rfl) (fun _ _ _ h => h) (by intro x; go_simp) ?_
    try simp only [Act.put, List.setIfInBounds_toArray, List.set_cons_zero, List.set_cons_succ]
    refine any_take 1 23 (SV 6 0 0 0 none 0 0) rfl (by kernel_rfl) (by kernel_rfl) (by kernel_rfl) (fun _ _ _ h => h) (by intro x; go_simp) ?_
    try simp only [Act.put, List.setIfInBounds_toArray, List.set_cons_zero, List.set_cons_succ]
    refine any_take 2 24 (SV (-1) 0 0 0 none 0 0) rfl (by kernel_rfl) (by kernel_rfl) (by kernel_rfl) (fun _ _ _ h => h) (by intro x; go_simp) ?_
    try simp only [Act.put, List.setIfInBounds_toArray, List.set_cons_zero, List.set_cons_succ]
    refine any_take 3 25 (SV 1 0 0 0 none 0 0) rfl (by kernel_rfl) (by kernel_rfl) (by kernel_rfl) (fun _ _ _ h => h) (by intro x; go_simp) ?_
    try simp only [Act.put, List.setIfInBounds_toArray, List.set_cons_zero, List.set_cons_succ]
    refine any_take 4 26 (SV 5 (-1) 0 0 none 0 0) rfl (by kernel_rfl) (by kernel_rfl) (by kernel_rfl) (fun _ _ _ h => h) (by intro x; go_simp) ?_
    try simp only [Act.put, List.setIfInBounds_toArray, List.set_cons_zero, List.set_cons_succ]
    refine any_take 5 27 (SV 5 1099511627776 1099511627776 4095 none 0 0) rfl (by kernel_rfl) (by kernel_rfl) (by kernel_rfl) (fun _ _ _ h => h) (by intro x; go_simp) ?_
    try simp only [Act.put, List.setIfInBounds_toArray, List.set_cons_zero, List.set_cons_succ]
    refine any_take 6 28 (SV 5 0 1099511627777 0 none 0 0) rfl (by kernel_rfl) (by kernel_rfl) (by kernel_rfl) (fun _ _ _ h => h) (by intro x; go_simp) ?_
    try simp only [Act.put, List.setIfInBounds_toArray, List.set_cons_zero, List.set_cons_succ]
    refine any_take 7 29 (SV 5 0 0 4096 none 0 0) rfl (by kernel_rfl) (by kernel_rfl) (by kernel_rfl) (fun _ _ _ h => h) (by intro x; go_simp) ?_
    try simp only [Act.put, List.setIfInBounds_toArray, List.set_cons_zero, List.set_cons_succ]
    refine any_take 8 30 (SV 5 0 0 (-1) none 0 0) rfl (by kernel_rfl) (by kernel_rfl) (by kernel_rfl) (fun _ _ _ h => h) (by intro x; go_simp) ?_
    try simp only [Act.put, List.setIfInBounds_toArray, List.set_cons_zero, List.set_cons_succ]
    refine any_two 9 11 (by kernel_rfl) ?_ ?_
    · refine op_make 9 22 5 (.const (.int .i64 975)) (.const (.int .i64 975)) (.int .u8 0) 1 975 975 rfl rfl rfl Tryd.underlying22 Tryd.info_u8 rfl (by omega) (by omega) (by omega) ?_
      intro m1 Gm1 bm1 sm1
      have Bm1 := Lib.hid bm1
      try simp only [Act.put, List.setIfInBounds_toArray, List.set_cons_zero, List.set_cons_succ]
      refine any_take 10 32 (SV 4 0 0 0 (some ⟨z.heap.size, 0, none⟩) 975 975) rfl (by kernel_rfl) (by kernel_rfl) (by kernel_rfl) (fun _ _ _ h => h) (by intro x; go_simp) ?_
      try simp only [Act.put, List.setIfInBounds_toArray, List.set_cons_zero, List.set_cons_succ]
      refine any_one 11 (by kernel_rfl) ?_
      refine op_make 11 22 5 (.const (.int .i64 976)) (.const (.int .i64 976)) (.int .u8 0) 1 976 976 rfl rfl rfl Tryd.underlying22 Tryd.info_u8 rfl (by omega) (by omega) (by omega) ?_
      intro m2 Gm2 bm2 sm2
      have Bm2 := Lib.hid bm2
      try simp only [Act.put, List.setIfInBounds_toArray, List.set_cons_zero, List.set_cons_succ]
      refine any_take 12 34 (SV 4 0 0 0 (some ⟨m1.heap.size, 0, none⟩) 976 976) rfl (by kernel_rfl) (by kernel_rfl) (by kernel_rfl) (fun _ _ _ h => h) (by intro x; go_simp) ?_
      try simp only [Act.put, List.setIfInBounds_toArray, List.set_cons_zero, List.set_cons_succ]
      have BX : Hid (Below w1.heap.size w1 m2) := BZ.out.trans ((Bm1.out.trans (Bm2.out.mono Bm1.out.size)).mono BZ.out.size)
      have BL : Hid (Below m2.heap.size m2 (m2.alloc (krow z.heap.size m1.heap.size))) := (Below.refl _ _).alloc (Nat.le_refl _) _
      have X1 : Bs (m2.alloc (krow z.heap.size m1.heap.size)) (some ⟨z.heap.size, 0, none⟩) 975 (zs 975) := ((bs_made (by omega) Gm1.out).old Bm2.out).old BL.out
      have X2 : Bs (m2.alloc (krow z.heap.size m1.heap.size)) (some ⟨m1.heap.size, 0, none⟩) 976 (zs 976) := (bs_made (by omega) Gm2.out).old BL.out
      refine any_one 13 (by kernel_rfl) ?_
      refine wpOp_step rfl (fun Kc hKc => ?_)
      go_simp
      change Kc _ (m2.alloc (krow z.heap.size m1.heap.size))
      refine hKc _ _ ?_
      clear hKc Kc
      try simp only [Act.put, List.setIfInBounds_toArray, List.set_cons_zero, List.set_cons_succ]
      refine any_take 14 2 (.slice (some ⟨m2.heap.size, 0, none⟩) 11 11) rfl (by kernel_rfl) (by kernel_rfl) (by kernel_rfl) (fun _ _ _ h => h) (by intro x; go_simp) ?_
      try simp only [Act.put, List.setIfInBounds_toArray, List.set_cons_zero, List.set_cons_succ]
      refine wpAny_done (by kernel_rfl) ?_ _
      go_wp2
      go_meet
      case rel => exact ⟨m2.heap.size, z.heap.size, m1.heap.size, rfl, ⟨heap_alloc_new m2 _, X1, X2⟩, BX.out.trans (BL.out.mono BX.out.size), BX.out.size⟩
    · refine op_make 11 22 5 (.const (.int .i64 976)) (.const (.int .i64 976)) (.int .u8 0) 1 976 976 rfl rfl rfl Tryd.underlying22 Tryd.info_u8 rfl (by omega) (by omega) (by omega) ?_
      intro m2 Gm2 bm2 sm2
      have Bm2 := Lib.hid bm2
      try simp only [Act.put, List.setIfInBounds_toArray, List.set_cons_zero, List.set_cons_succ]
      refine any_take 12 34 (SV 4 0 0 0 (some ⟨z.heap.size, 0, none⟩) 976 976) rfl (by kernel_rfl) (by kernel_rfl) (by kernel_rfl) (fun _ _ _ h => h) (by intro x; go_simp) ?_
      try simp only [Act.put, List.setIfInBounds_toArray, List.set_cons_zero, List.set_cons_succ]
      refine any_one 9 (by kernel_rfl) ?_
      refine op_make 9 22 5 (.const (.int .i64 975)) (.const (.int .i64 975)) (.int .u8 0) 1 975 975 rfl rfl rfl Tryd.underlying22 Tryd.info_u8 rfl (by omega) (by omega) (by omega) ?_
      intro m1 Gm1 bm1 sm1
      have Bm1 := Lib.hid bm1
      try simp only [Act.put, List.setIfInBounds_toArray, List.set_cons_zero, List.set_cons_succ]
      refine any_take 10 32 (SV 4 0 0 0 (some ⟨m2.heap.size, 0, none⟩) 975 975) rfl (by kernel_rfl) (by kernel_rfl) (by kernel_rfl) (fun _ _ _ h => h) (by intro x; go_simp) ?_
      try simp only [Act.put, List.setIfInBounds_toArray, List.set_cons_zero, List.set_cons_succ]
      have BX : Hid (Below w1.heap.size w1 m1) := BZ.out.trans ((Bm2.out.trans (Bm1.out.mono Bm2.out.size)).mono BZ.out.size)
      have BL : Hid (Below m1.heap.size m1 (m1.alloc (krow m2.heap.size z.heap.size))) := (Below.refl _ _).alloc (Nat.le_refl _) _
      have X2 : Bs (m1.alloc (krow m2.heap.size z.heap.size)) (some ⟨z.heap.size, 0, none⟩) 976 (zs 976) := ((bs_made (by omega) Gm2.out).old Bm1.out).old BL.out
      have X1 : Bs (m1.alloc (krow m2.heap.size z.heap.size)) (some ⟨m2.heap.size, 0, none⟩) 975 (zs 975) := (bs_made (by omega) Gm1.out).old BL.out
      refine any_one 13 (by kernel_rfl) ?_
      refine wpOp_step rfl (fun Kc hKc => ?_)
      go_simp
      change Kc _ (m1.alloc (krow m2.heap.size z.heap.size))
      refine hKc _ _ ?_
      clear hKc Kc
      try simp only [Act.put, List.setIfInBounds_toArray, List.set_cons_zero, List.set_cons_succ]
      refine any_take 14 2 (.slice (some ⟨m1.heap.size, 0, none⟩) 11 11) rfl (by kernel_rfl) (by kernel_rfl) (by kernel_rfl) (fun _ _ _ h => h) (by intro x; go_simp) ?_
      try simp only [Act.put, List.setIfInBounds_toArray, List.set_cons_zero, List.set_cons_succ]
      refine wpAny_done (by kernel_rfl) ?_ _
      go_wp2
      go_meet
      case rel => exact ⟨m1.heap.size, m2.heap.size, z.heap.size, rfl, ⟨heap_alloc_new m1 _, X1, X2⟩, BX.out.trans (BL.out.mono BX.out.size), BX.out.size⟩
  case rest =>
    obtain ⟨tb, a1, a2, rfl, hkr, hb2, htb⟩ := hcut
    have KR := Lib.hid hkr
    have B2 := Lib.hid hb2
    clear hkr hb2
    go_upto_region 4 with (fail)
    change Code.wp _ _ _ _ (wc.alloc wrow)
    have B3 : Hid (Below wc.heap.size wc (wc.alloc wrow)) := (Below.refl _ wc).alloc (Nat.le_refl _) _
    have R3 : Hid ((wc.alloc wrow).heap[wc.heap.size]? = some wrow) := heap_alloc_new wc _
    obtain ⟨wb, hwb⟩ : ∃ x, x = wc.heap.size := ⟨_, rfl⟩
    obtain ⟨w3, hw3⟩ : ∃ x, x = wc.alloc wrow := ⟨_, rfl⟩
    have LWB : Hid (b ≠ wb ∧ b ≠ tb) := ⟨by rw [hwb]; have := St1.out.lt.2.1; have := B2.out.size; omega, by have := St1.out.lt.2.1; omega⟩
    rw [← hw3] at B3 R3 ⊢
    rw [← hwb] at R3 ⊢
    clear hw3 hwb htb
    have K3 : Hid (KRow w3 tb a1 a2) := ⟨(B3.out.block _ (lt_of_block KR.out.row)).trans KR.out.row, KR.out.b1.old B3.out, KR.out.b2.old B3.out⟩
    have St3 : Hid (StAt w3 g b cc Nm.St.none) := (St1.out.old B2.out).old B3.out
    have W3 : Hid (Below w.heap.size w w3) := B1.out.trans ((B2.out.trans (B3.out.mono B2.out.size)).mono B1.out.size)
    have HWW : Hid (∀ y, Only b w3 y → Below w.heap.size w y) := fun y hy => hy.below W3.out L1.out.2.1 W3.out.size
    have HSEC : Hid (∀ k, k < 11 → ∃ p c, ∀ y, Only b w3 y → SecAt y tb (k * 5) (Sc.lk k) p c) := fun k hk => by
      obtain ⟨p, c, h⟩ := K3.out.at k hk
      exact ⟨p, c, fun y hy => h.only hy LWB.out.2.symm (bs_map h.2 St3.out.ss)⟩
    have HWK : Hid (∀ y, Only b w3 y → ∀ k, k < 11 → y.cell? ⟨wb, k, none⟩ = some (.int .i64 (Sc.wk k))) := fun y hy k hk => hy.cell LWB.out.1.symm (wrow_at R3.out k hk)
    clear KR B2 B3 R3 St1 B1 K3 HNW
    go_wp2
    go_loopw [4] (fun v4 wr => ∃ (k : Nat) (T : Nm.St), k ≤ 11 ∧ v4 = .int .i64 k ∧ Hid (Only b w3 wr) ∧ Hid (StAt wr g b cc T) ∧ Hid (T.ss.length ≤ k)) (fun v4 _ => 11 - (intOf v4).toNat)
    case atStart => exact ⟨0, Nm.St.none, by omega, rfl, Only.refl _ _, St3.out, Nat.le_refl 0⟩
    case round =>
      obtain ⟨k, T, hk, rfl, HO, HST, HTL⟩ := hrel
      by_cases hlt : k < 11
      · have hk1 : (k : Int) < 11 := by omega
        have hk0 : 0 ≤ (k : Int) := by omega
        obtain ⟨p, c, hsc⟩ := HSEC.out k hlt
        have HE := Sc.ers_lk k hlt
        have HLL := Sc.lk_len k
        have HWk : Hid (∀ y, Only b w3 y → y.cell? ⟨wb, k, none⟩ = some (.int .i64 (Sc.ers (Sc.lk k)))) := fun y hy => by rw [HE]; exact HWK.out y hy k hlt
        clear HE
        generalize Sc.lk k = s at *
        have HSC := Lib.hid hsc
        have hsec := hsc _ HO.out
        clear hsc
        have HFE := Sc.get_put T s
        have HGL := Sc.get_len T s
        have HPL := Sc.put_len T s HLL
        have HPT : Hid (Calls Tryd.prog 11 #[.iface 28 (.pointer (some ⟨g, 0, none⟩)), SV s.k s.e s.n s.a p s.L.length c] wr (LPut (Sc.pt (Sc.nsl T) s) wr (fun z => StAt z g b cc (Sc.nd T s) ∧ Only b wr z))) := nput_any T g b cc s p s.L.length c rfl wr HST.out hsec.2 (by have := HTL.out; omega)
        have HND : Hid ((Sc.nd T s).ss.length ≤ k + 1) := by show _ ≤ _; have := Sc.nd_le T s; have := HTL.out; omega
        have HGT : Hid (∀ x u m d, (Sc.pt (Sc.nsl T) s).2.length = m → StAt x g b cc (Sc.nd T s) → Bs x u d (Sc.pt (Sc.nsl T) s).2 → Calls Tryd.prog 13 #[.iface 28 (.pointer (some ⟨g, 0, none⟩)), .int .i64 s.k, .int .i64 s.a, .slice u m d] x (LGet (Sc.gt (Nm.opn (Sc.nd T s)) s.k s.a (Sc.pt (Sc.nsl T) s).2) x)) := fun x u m d hm hx hb => nget_any (Sc.nd T s) g b cc s.k s.a _ u m d hm x hx hb
        have hX1 := Sc.pt_fst (Sc.nsl T) s
        generalize Sc.gt (Nm.opn (Sc.nd T s)) s.k s.a (Sc.pt (Sc.nsl T) s).2 = XG at *
        generalize Sc.pt (Sc.nsl T) s = XP at *
        generalize Sc.nd T s = T1 at *
        obtain ⟨fe, s2⟩ := XG
        obtain ⟨pe, XL⟩ := XP
        simp only at HFE HGL HPL HPT HGT hX1
        subst hX1
        generalize Sc.ers s = E at *
        have HS2L : Hid (s2.L.length ≤ 976) := Nat.le_trans HGL HLL
        obtain ⟨c0, c1, c2, c3, c4⟩ := hsec.1
        have hEE : (E != E) = false := by simp
        have HPL2 := Lib.hid HPL
        clear hsec HLL HGL HPL
        go_upto_region 8 with (go_at_call 11; refine (HPT.out.mono (fun _ _ q => putf_of q)).mono ?_; rintro e5 w5 ⟨u5, m5, d5, rfl, l5, O5, H5, F5⟩)
        have FF5 := Lib.hid F5
        have A5 : Hid (Only b w3 w5) := HO.out.trans F5.2
        clear F5 c0 c1 c2 c3 c4
        have c0 := HWk.out _ A5.out
        have hm5 : ¬ ((m5 : Int) > 1024) := by have := HPL2.out; omega
        go_upto_region 10 with (fail)
        have HKC : Hid (∀ y, Only b w3 y → (y.cell? ⟨tb, k * 5, none⟩ = some (.int .i64 s.k) ∧ y.cell? ⟨tb, k * 5 + 3, none⟩ = some (.int .i64 s.a))) := fun y hy => ⟨(HSC.out y hy).1.1, (HSC.out y hy).1.2.2.2.1⟩
        have Oz : Hid (Only b w3 w5.drew) := A5.out.drew
        have Stz : Hid (StAt w5.drew g b cc T1) := FF5.out.1.drew
        have Hxz : Hid (Bs w5.drew u5 d5 XL) := H5.out.drew
        have l5' := Lib.hid l5
        clear O5 H5 FF5 A5 c0 HPT HO HST HWk HSC
        refine wp_region_any (by kernel_rfl) ?_
        change wpAny _ _ _ _ _ _ _ (World.drew _)
        generalize w5.drew = z at *
        have TD := HKC.out _ Oz.out
        refine wpAny_of_held (S := fun y => y.cell? ⟨tb, k * 5, none⟩ = some (.int .i64 s.k) ∧ y.cell? ⟨tb, k * 5 + 3, none⟩ = some (.int .i64 s.a)) _ _ _ _ ?_
        refine anyH_take 0 65 (.pointer (some ⟨g, 0, none⟩)) TD rfl (by kernel_rfl) (by kernel_rfl) (by kernel_rfl) (fun _ _ _ h => h) (by rfl) (by intro x hx; obtain ⟨y0, y1⟩ := hx; go_simp; try (intro h; omega)) ?_
        try simp only [Act.put, List.setIfInBounds_toArray, List.set_cons_zero, List.set_cons_succ]
        refine anyH_take 1 66 (.iface 28 (.pointer (some ⟨g, 0, none⟩))) TD rfl (by kernel_rfl) (by kernel_rfl) (by kernel_rfl) (fun _ _ _ h => h) (by rfl) (by intro x hx; obtain ⟨y0, y1⟩ := hx; go_simp; try (intro h; omega)) ?_
        try simp only [Act.put, List.setIfInBounds_toArray, List.set_cons_zero, List.set_cons_succ]
        refine anyH_take 2 67 (.slice (some ⟨tb, 0, none⟩) 11 11) TD rfl (by kernel_rfl) (by kernel_rfl) (by kernel_rfl) (fun _ _ _ h => h) (by rfl) (by intro x hx; obtain ⟨y0, y1⟩ := hx; go_simp; try (intro h; omega)) ?_
        try simp only [Act.put, List.setIfInBounds_toArray, List.set_cons_zero, List.set_cons_succ]
        refine anyH_take 3 68 (.int .i64 (k : Int)) TD rfl (by kernel_rfl) (by kernel_rfl) (by kernel_rfl) (fun _ _ _ h => h) (by rfl) (by intro x hx; obtain ⟨y0, y1⟩ := hx; go_simp; try (intro h; omega)) ?_
        try simp only [Act.put, List.setIfInBounds_toArray, List.set_cons_zero, List.set_cons_succ]
        refine anyH_take 4 69 (.pointer (some ⟨tb, k * 5, none⟩)) TD rfl (by kernel_rfl) (by kernel_rfl) (by kernel_rfl) (fun _ _ _ h => h) (by rfl) (by intro x hx; obtain ⟨y0, y1⟩ := hx; go_simp; try (intro h; omega)) ?_
        try simp only [Act.put, List.setIfInBounds_toArray, List.set_cons_zero, List.set_cons_succ]
        refine anyH_take 5 70 (.pointer (some ⟨tb, k * 5, none⟩)) TD rfl (by kernel_rfl) (by kernel_rfl) (by kernel_rfl) (fun _ _ _ h => h) (by rfl) (by intro x hx; obtain ⟨y0, y1⟩ := hx; go_simp; try (intro h; omega)) ?_
        try simp only [Act.put, List.setIfInBounds_toArray, List.set_cons_zero, List.set_cons_succ]
        refine anyH_take 6 71 (.int .i64 s.k) TD rfl (by kernel_rfl) (by kernel_rfl) (by kernel_rfl) (fun _ _ _ h => h) (by rfl) (by intro x hx; obtain ⟨y0, y1⟩ := hx; go_simp; try (intro h; omega)) ?_
        try simp only [Act.put, List.setIfInBounds_toArray, List.set_cons_zero, List.set_cons_succ]
        refine anyH_take 7 72 (.slice (some ⟨tb, 0, none⟩) 11 11) TD rfl (by kernel_rfl) (by kernel_rfl) (by kernel_rfl) (fun _ _ _ h => h) (by rfl) (by intro x hx; obtain ⟨y0, y1⟩ := hx; go_simp; try (intro h; omega)) ?_
        try simp only [Act.put, List.setIfInBounds_toArray, List.set_cons_zero, List.set_cons_succ]
        refine anyH_take 8 73 (.int .i64 (k : Int)) TD rfl (by kernel_rfl) (by kernel_rfl) (by kernel_rfl) (fun _ _ _ h => h) (by rfl) (by intro x hx; obtain ⟨y0, y1⟩ := hx; go_simp; try (intro h; omega)) ?_
        try simp only [Act.put, List.setIfInBounds_toArray, List.set_cons_zero, List.set_cons_succ]
        refine anyH_take 9 74 (.pointer (some ⟨tb, k * 5, none⟩)) TD rfl (by kernel_rfl) (by kernel_rfl) (by kernel_rfl) (fun _ _ _ h => h) (by rfl) (by intro x hx; obtain ⟨y0, y1⟩ := hx; go_simp; try (intro h; omega)) ?_
        try simp only [Act.put, List.setIfInBounds_toArray, List.set_cons_zero, List.set_cons_succ]
        refine anyH_take 10 75 (.pointer (some ⟨tb, k * 5 + 3, none⟩)) TD rfl (by kernel_rfl) (by kernel_rfl) (by kernel_rfl) (fun _ _ _ h => h) (by rfl) (by intro x hx; obtain ⟨y0, y1⟩ := hx; go_simp; try (intro h; omega)) ?_
        try simp only [Act.put, List.setIfInBounds_toArray, List.set_cons_zero, List.set_cons_succ]
        refine anyH_take 11 76 (.int .i64 s.a) TD rfl (by kernel_rfl) (by kernel_rfl) (by kernel_rfl) (fun _ _ _ h => h) (by rfl) (by intro x hx; obtain ⟨y0, y1⟩ := hx; go_simp; try (intro h; omega)) ?_
        try simp only [Act.put, List.setIfInBounds_toArray, List.set_cons_zero, List.set_cons_succ]
        refine anyH_take 12 77 (.slice u5 m5 d5) TD rfl (by kernel_rfl) (by kernel_rfl) (by kernel_rfl) (fun _ _ _ h => h) (by rfl) (by intro x hx; obtain ⟨y0, y1⟩ := hx; go_simp; try (intro h; omega)) ?_
        try simp only [Act.put, List.setIfInBounds_toArray, List.set_cons_zero, List.set_cons_succ]
        refine anyH_two 13 17 (by kernel_rfl) ?_ ?_
        · refine wpOp_step rfl (fun Kc hKc => ?_)
          go_simp
          refine ((HGT.out z u5 m5 d5 l5'.out Stz.out Hxz.out).mono (fun _ _ q => getx_of q)).mono ?_
          rintro e6 w6 ⟨u6, m6, d6, rfl, l6, P6, H6, b6⟩
          have O6 : Hid (Only b w3 w6) := Oz.out.trans (only_of_below b6.out)
          dsimp only
          refine hKc _ _ ⟨HKC.out _ O6.out, ?_⟩
          clear hKc Kc
          have TE := HKC.out _ O6.out
          try simp only [Act.put, List.setIfInBounds_toArray, List.set_cons_zero, List.set_cons_succ]
          refine anyH_take 14 64 (.tuple #[Sv s2 u6 m6 d6, .int .i64 fe]) TE rfl (by kernel_rfl) (by kernel_rfl) (by kernel_rfl) (fun _ _ _ h => h) (by rfl) (by intro x hx; obtain ⟨y0, y1⟩ := hx; go_simp; try (intro h; omega)) ?_
          try simp only [Act.put, List.setIfInBounds_toArray, List.set_cons_zero, List.set_cons_succ]
          refine anyH_take 15 79 (Sv s2 u6 m6 d6) TE rfl (by kernel_rfl) (by kernel_rfl) (by kernel_rfl) (fun _ _ _ h => h) (by rfl) (by intro x hx; obtain ⟨y0, y1⟩ := hx; go_simp; try (intro h; omega)) ?_
          try simp only [Act.put, List.setIfInBounds_toArray, List.set_cons_zero, List.set_cons_succ]
          refine anyH_take 16 80 (.int .i64 fe) TE rfl (by kernel_rfl) (by kernel_rfl) (by kernel_rfl) (fun _ _ _ h => h) (by rfl) (by intro x hx; obtain ⟨y0, y1⟩ := hx; go_simp; try (intro h; omega)) ?_
          try simp only [Act.put, List.setIfInBounds_toArray, List.set_cons_zero, List.set_cons_succ]
          refine anyH_one 17 (by kernel_rfl) ?_
          refine wpOp_step rfl (fun Kc hKc => ?_)
          go_simp
          refine hKc _ _ ⟨HKC.out _ (O6.out.alloc _), ?_⟩
          clear hKc Kc TE
          try simp only [Act.put, List.setIfInBounds_toArray, List.set_cons_zero, List.set_cons_succ]
          refine anyH_one 18 (by kernel_rfl) ?_
          refine op_store 18 24 (.tmp 7) (.tmp 79) rfl w6.heap.size 0 24 [.int .i64 0, .int .i64 0, .int .i64 0, .int .i64 0, .slice none 0 0] #[.int .i64 s2.k, .int .i64 s2.e, .int .i64 s2.n, .int .i64 s2.a, .slice u6 m6 d6] rfl rfl (heap_alloc_new w6 _) (by rw [ssize]; rfl) (by simp) (by simp [Value.oneCell']) ?_
          intro w7 G7 ch7
          have O7 : Hid (Only b w3 w7) := only_newS (O6.out.alloc _) ch7.only O6.out.size
          refine ⟨HKC.out _ O7.out, ?_⟩
          have TF := HKC.out _ O7.out
          have Z7 : Hid (SAt w7 w6.heap.size s2.k s2.e s2.n s2.a u6 m6 d6) := ⟨G7.out⟩
          try simp only [Act.put, List.setIfInBounds_toArray, List.set_cons_zero, List.set_cons_succ]
          refine anyH_take 19 8 (.int .i64 fe) TF rfl (by kernel_rfl) (by kernel_rfl) (by kernel_rfl) (fun _ _ _ h => h) (by rfl) (by intro x hx; obtain ⟨y0, y1⟩ := hx; go_simp; try (intro h; omega)) ?_
          try simp only [Act.put, List.setIfInBounds_toArray, List.set_cons_zero, List.set_cons_succ]
          refine anyH_done (by kernel_rfl) ?_ _
          clear TF
          have B67 : Hid (Below w6.heap.size w6 w7) := ch7.below ((Below.refl _ w6).alloc (Nat.le_refl _) _) (Nat.le_refl _)
          have BZ7 : Hid (Below z.heap.size z w7) := b6.out.trans (B67.out.mono b6.out.size)
          have H67 : Hid (Bs w7 u6 d6 s2.L) := H6.out.old B67.out
          clear ch7 G7 B67
          have Hx7 : Hid (Bs w7 u5 d5 XL) := Hxz.out.old BZ7.out
          have St7 : Hid (StAt w7 g b cc T1) := Stz.out.old BZ7.out
          have O9 := Lib.hid O7.out
          cases hE0 : (E == 0) with
          | true =>
            rw [hE0] at HFE
            go_wp2
            exact ⟨⟨k + 1, T1, by omega, by go_num, O9.out, St7.out, HND.out⟩, by simp [intOf]; omega⟩
          | false =>
            rw [hE0] at HFE
            go_wp2
            exact ⟨⟨k + 1, T1, by omega, by go_num, O9.out, St7.out, HND.out⟩, by simp [intOf]; omega⟩
        · refine wpOp_step rfl (fun Kc hKc => ?_)
          go_simp
          change Kc _ (z.alloc (SO 0 0 0 0 none 0 0))
          refine hKc _ _ ⟨HKC.out _ (Oz.out.alloc _), ?_⟩
          clear hKc Kc TD
          have Oa : Hid (Only b w3 (z.alloc (SO 0 0 0 0 none 0 0))) := (Oz.out.alloc _)
          have BA : Hid (Below z.heap.size z (z.alloc (SO 0 0 0 0 none 0 0))) := (Below.refl _ _).alloc (Nat.le_refl _) _
          have RA : Hid ((z.alloc (SO 0 0 0 0 none 0 0)).heap[z.heap.size]? = some (SO 0 0 0 0 none 0 0)) := heap_alloc_new _ _
          have LA : Hid (z.heap.size < (z.alloc (SO 0 0 0 0 none 0 0)).heap.size) := by show _ < _; simp
          have Hxa : Hid (Bs (z.alloc (SO 0 0 0 0 none 0 0)) u5 d5 XL) := Hxz.out.old BA.out
          have Sta : Hid (StAt (z.alloc (SO 0 0 0 0 none 0 0)) g b cc T1) := Stz.out.old BA.out
          obtain ⟨za, hza⟩ : ∃ x, x = z.alloc (SO 0 0 0 0 none 0 0) := ⟨_, rfl⟩
          rw [← hza] at Oa BA RA LA Hxa Sta ⊢
          clear hza
          try simp only [Act.put, List.setIfInBounds_toArray, List.set_cons_zero, List.set_cons_succ]
          have TD := HKC.out _ Oa.out
          refine anyH_one 13 (by kernel_rfl) ?_
          refine wpOp_step rfl (fun Kc hKc => ?_)
          go_simp
          refine ((HGT.out za u5 m5 d5 l5'.out Sta.out Hxa.out).mono (fun _ _ q => getx_of q)).mono ?_
          rintro e6 w6 ⟨u6, m6, d6, rfl, l6, P6, H6, b6⟩
          have O6 : Hid (Only b w3 w6) := Oa.out.trans (only_of_below b6.out)
          dsimp only
          refine hKc _ _ ⟨HKC.out _ O6.out, ?_⟩
          clear hKc Kc
          have TE := HKC.out _ O6.out
          try simp only [Act.put, List.setIfInBounds_toArray, List.set_cons_zero, List.set_cons_succ]
          refine anyH_take 14 64 (.tuple #[Sv s2 u6 m6 d6, .int .i64 fe]) TE rfl (by kernel_rfl) (by kernel_rfl) (by kernel_rfl) (fun _ _ _ h => h) (by rfl) (by intro x hx; obtain ⟨y0, y1⟩ := hx; go_simp; try (intro h; omega)) ?_
          try simp only [Act.put, List.setIfInBounds_toArray, List.set_cons_zero, List.set_cons_succ]
          refine anyH_take 15 79 (Sv s2 u6 m6 d6) TE rfl (by kernel_rfl) (by kernel_rfl) (by kernel_rfl) (fun _ _ _ h => h) (by rfl) (by intro x hx; obtain ⟨y0, y1⟩ := hx; go_simp; try (intro h; omega)) ?_
          try simp only [Act.put, List.setIfInBounds_toArray, List.set_cons_zero, List.set_cons_succ]
          refine anyH_take 16 80 (.int .i64 fe) TE rfl (by kernel_rfl) (by kernel_rfl) (by kernel_rfl) (fun _ _ _ h => h) (by rfl) (by intro x hx; obtain ⟨y0, y1⟩ := hx; go_simp; try (intro h; omega)) ?_
          try simp only [Act.put, List.setIfInBounds_toArray, List.set_cons_zero, List.set_cons_succ]
          have R6 : Hid (w6.heap[z.heap.size]? = some (SO 0 0 0 0 none 0 0)) := (b6.out.block _ (lt_of_block RA.out)).trans RA.out
          refine anyH_one 18 (by kernel_rfl) ?_
          refine op_store 18 24 (.tmp 7) (.tmp 79) rfl z.heap.size 0 24 [.int .i64 0, .int .i64 0, .int .i64 0, .int .i64 0, .slice none 0 0] #[.int .i64 s2.k, .int .i64 s2.e, .int .i64 s2.n, .int .i64 s2.a, .slice u6 m6 d6] rfl rfl R6.out (by rw [ssize]; rfl) (by simp) (by simp [Value.oneCell']) ?_
          intro w7 G7 ch7
          have O7 : Hid (Only b w3 w7) := only_newS O6.out ch7.only Oz.out.size
          refine ⟨HKC.out _ O7.out, ?_⟩
          have TF := HKC.out _ O7.out
          have Z7 : Hid (SAt w7 z.heap.size s2.k s2.e s2.n s2.a u6 m6 d6) := ⟨G7.out⟩
          try simp only [Act.put, List.setIfInBounds_toArray, List.set_cons_zero, List.set_cons_succ]
          refine anyH_take 19 8 (.int .i64 fe) TF rfl (by kernel_rfl) (by kernel_rfl) (by kernel_rfl) (fun _ _ _ h => h) (by rfl) (by intro x hx; obtain ⟨y0, y1⟩ := hx; go_simp; try (intro h; omega)) ?_
          try simp only [Act.put, List.setIfInBounds_toArray, List.set_cons_zero, List.set_cons_succ]
          refine anyH_done (by kernel_rfl) ?_ _
          clear TF
          have BZ7 : Hid (Below z.heap.size z w7) := ch7.below (BA.out.trans (b6.out.mono BA.out.size)) (Nat.le_refl _)
          have H67 : Hid (Bs w7 u6 d6 s2.L) := bs_own_only H6.out P6.out ch7.only LA.out
          clear ch7 G7 R6 RA LA BA Oa Hxa Sta
          have Hx7 : Hid (Bs w7 u5 d5 XL) := Hxz.out.old BZ7.out
          have St7 : Hid (StAt w7 g b cc T1) := Stz.out.old BZ7.out
          have O9 := Lib.hid O7.out
          cases hE0 : (E == 0) with
          | true =>
            rw [hE0] at HFE
            go_wp2
            exact ⟨⟨k + 1, T1, by omega, by go_num, O9.out, St7.out, HND.out⟩, by simp [intOf]; omega⟩
          | false =>
            rw [hE0] at HFE
            go_wp2
            exact ⟨⟨k + 1, T1, by omega, by go_num, O9.out, St7.out, HND.out⟩, by simp [intOf]; omega⟩
      · obtain rfl : k = 11 := by omega
        have he1 : Sc.ers ⟨4, 0, 0, 3, []⟩ = 0 := Sc.er_zero.2 ⟨Sc.isK_iff.2 (by decide), Sc.inP_iff.2 (by decide), by decide⟩
        obtain ⟨V, hV, hVl⟩ : ∃ V, Sc.pt (Sc.nsl T) ⟨4, 0, 0, 3, []⟩ = (0, V) ∧ V.length = 49 := ⟨_, Sc.pt_ok he1, by have h := Sc.nam_put_len T he1; rw [Sc.pt_ok he1] at h; exact h⟩
        have kV : Sc.kd V = 4 := by have h := Sc.kd_fr 4 0 0 (Sc.ers_parts he1).1 (Sc.nsl T 0 0 (Sc.mk 4 3) []); have q := Sc.pt_ok (f := Sc.nsl T) he1; rw [hV] at q; cases q; exact h
        have HPV : Hid (Calls Tryd.prog 11 #[.iface 28 (.pointer (some ⟨g, 0, none⟩)), SV 4 0 0 3 none 0 0] wr (PutOk V 49 wr (fun z => StAt z g b cc (Sc.nd T ⟨4, 0, 0, 3, []⟩) ∧ Only b wr z))) := (nput_any T g b cc ⟨4, 0, 0, 3, []⟩ none 0 0 rfl wr HST.out (bs_none _) (by have := HTL.out; omega)).mono fun _ _ q => putok_of hV hVl q
        generalize Sc.nd T ⟨4, 0, 0, 3, []⟩ = T2 at *
        have hV16 : (V.take 16).length = 16 := by rw [List.length_take]; omega
        have G1 : Hid (∀ x u d, StAt x g b cc T2 → Bs x u d (V.take 16) → Calls Tryd.prog 13 #[.iface 28 (.pointer (some ⟨g, 0, none⟩)), .int .i64 4, .int .i64 3, .slice u 16 d] x (GetBad 2 x)) := fun x u d hx hb =>
          (nget_any T2 g b cc 4 3 (V.take 16) u 16 d hV16 x hx hb).mono fun _ _ q => getbad_of (by rw [Sc.gt_no (by rw [ger_short (by omega)]; decide), ger_short (by omega)]) q
        have G2 : Hid (∀ x u d, StAt x g b cc T2 → Bs x u d (zs 1025) → Calls Tryd.prog 13 #[.iface 28 (.pointer (some ⟨g, 0, none⟩)), .int .i64 4, .int .i64 3, .slice u 1025 d] x (GetBad 3 x)) := fun x u d hx hb =>
          (nget_any T2 g b cc 4 3 (zs 1025) u 1025 d (zs_len _) x hx hb).mono fun _ _ q => getbad_of (by rw [Sc.gt_no (by rw [ger_long (by rw [zs_len]; omega)]; decide), ger_long (by rw [zs_len]; omega)]) q
        have G3 : Hid (∀ x u d, StAt x g b cc T2 → Bs x u d V → Calls Tryd.prog 13 #[.iface 28 (.pointer (some ⟨g, 0, none⟩)), .int .i64 5, .int .i64 3, .slice u 49 d] x (GetBad 5 x)) := fun x u d hx hb => by
          have e : Sc.ger 5 3 V = 5 := ger_kind (by omega) (by omega) (fun q => by rw [kV] at q; have := q.2; omega)
          exact (nget_any T2 g b cc 5 3 V u 49 d hVl x hx hb).mono fun _ _ q => getbad_of (by rw [Sc.gt_no (by rw [e]; decide), e]) q
        have G4 : Hid (∀ x u d, StAt x g b cc T2 → Bs x u d (zs 20) → Calls Tryd.prog 13 #[.iface 28 (.pointer (some ⟨g, 0, none⟩)), .int .i64 0, .int .i64 3, .slice u 20 d] x (GetBad 5 x)) := fun x u d hx hb => by
          have e : Sc.ger 0 3 (zs 20) = 5 := ger_kind (by rw [zs_len]; omega) (by rw [zs_len]; omega) (fun q => by have := Sc.isK_iff.1 q.1; omega)
          exact (nget_any T2 g b cc 0 3 (zs 20) u 20 d (zs_len _) x hx hb).mono fun _ _ q => getbad_of (by rw [Sc.gt_no (by rw [e]; decide), e]) q
        have G5 : Hid (∀ x u d, StAt x g b cc T2 → Bs x u d V → Calls Tryd.prog 13 #[.iface 28 (.pointer (some ⟨g, 0, none⟩)), .int .i64 4, .int .i64 4096, .slice u 49 d] x (GetBad 7 x)) := fun x u d hx hb => by
          have e : Sc.ger 4 4096 V = 7 := ger_range (by omega) (by omega) ⟨Sc.isK_iff.2 (by decide), kV⟩ (by rw [← Bool.not_eq_true, Sc.inP_iff]; omega)
          exact (nget_any T2 g b cc 4 4096 V u 49 d hVl x hx hb).mono fun _ _ q => getbad_of (by rw [Sc.gt_no (by rw [e]; decide), e]) q
        have K1 : Hid (∀ x u d, Bs x u d V → Calls Tryd.prog 15 #[.slice u 49 d] x fun r x' => r = .returned (.int .i64 4) ∧ x = x') := fun x u d hb => (kind_any V u 49 d hVl x hb).mono fun _ _ q => by rw [kV] at q; exact ⟨q.1, q.2.symm⟩
        have K2 : Hid (∀ x u d, Bs x u d (V.take 16) → Calls Tryd.prog 15 #[.slice u 16 d] x fun r x' => r = .returned (.int .i64 0) ∧ x = x') := fun x u d hb => (kind_any _ u 16 d hV16 x hb).mono fun _ _ q => by rw [kd_short (by omega)] at q; exact ⟨q.1, q.2.symm⟩
        have kz : Sc.kd (zs 99) = 0 := by
          rw [kd_long (by rw [zs_len]; omega)]
          have : (zs 99).getD 0 0 = 0 := by unfold zs; rfl
          rw [this]
          split <;> rfl
        have K3 : Hid (∀ x u d, Bs x u d (zs 99) → Calls Tryd.prog 15 #[.slice u 99 d] x fun r x' => r = .returned (.int .i64 0) ∧ x = x') := fun x u d hb => (kind_any _ u 99 d (zs_len _) x hb).mono fun _ _ q => by rw [kz] at q; exact ⟨q.1, q.2.symm⟩
        clear hV he1 kV kz HTL HST HSEC HWK
        go_upto_region 14 with (go_at_call 11; refine HPV.out.mono ?_; rintro e5 w5 ⟨u5, d5, rfl, O5, H5, F5⟩; have A5 : Hid (Only b w3 w5) := HO.out.trans F5.out.2)
        have W5 := Lib.hid (HWW.out _ A5.out)
        have St5 := Lib.hid F5.out.1
        obtain ⟨ab, ao, hu, _⟩ := H5.out.bat.2 (by omega)
        subst hu
        have hcap := H5.out.cap
        rw [hVl] at hcap
        have hd16 : (16 : Int) ≤ (d5 : Int) := by omega
        have H16 : Hid (∀ y, Below w5.heap.size w5 y → Bs y (some ⟨ab, ao, none⟩) d5 (V.take 16)) := fun y hy => (H5.out.old hy).take 16
        have HVV : Hid (∀ y, Below w5.heap.size w5 y → Bs y (some ⟨ab, ao, none⟩) d5 V) := fun y hy => H5.out.old hy
        have HSS : Hid (∀ y, Below w5.heap.size w5 y → StAt y g b cc T2) := fun y hy => St5.out.old hy
        have BR5 : Hid (Below w5.heap.size w5 w5) := Below.refl _ _
        clear HPV HO O5 H5 F5 A5 St5 hVl hV16 hcap HWW
        have TKa : Hid (0 = 0) := rfl
        have TKb : Hid (1 = 1) := rfl
        go_upto_region 17 with (go_at_call 13; refine (G1.out _ _ _ (HSS.out _ BR5.out) (H16.out _ BR5.out)).mono ?_; rintro e6 w6 ⟨u6, d6, rfl, H6, b6⟩)
        change Code.wp _ _ _ _ (w6.alloc (SO 0 0 0 0 u6 0 d6))
        have C6 : Hid (Below w5.heap.size w5 (w6.alloc (SO 0 0 0 0 u6 0 d6))) := BR5.out.trans ((b6.out.alloc b6.out.size _).mono BR5.out.size)
        obtain ⟨v6, hv6⟩ : ∃ x, x = w6.alloc (SO 0 0 0 0 u6 0 d6) := ⟨_, rfl⟩
        rw [← hv6] at C6 ⊢
        clear hv6 H6 b6
        go_upto_region 18 with (first
          | ((with_reducible refine make_at _ 5 _ _ (.int .u8 0) 1 1025 1025 ?_ ?_ ?_ ?_ rfl ?_ ?_ ?_ ?_); (exact rfl); (exact rfl); (exact Tryd.underlying22); (exact Tryd.info_u8); omega; omega; omega; intro m1 Gm1 bm1 sm1; have Cm1 : Hid (Below w5.heap.size w5 m1) := C6.out.trans (bm1.mono C6.out.size); clear bm1 sm1)
          | (go_at_call 13; refine (G2.out _ _ _ (HSS.out _ Cm1.out) (bs_made (by omega) Gm1.out)).mono ?_; rintro e7 w7 ⟨u7, d7, rfl, H7, b7⟩))
        change Code.wp _ _ _ _ (w7.alloc (SO 0 0 0 0 u7 0 d7))
        have C7 : Hid (Below w5.heap.size w5 (w7.alloc (SO 0 0 0 0 u7 0 d7))) := Cm1.out.trans ((b7.out.alloc b7.out.size _).mono Cm1.out.size)
        obtain ⟨v7, hv7⟩ : ∃ x, x = w7.alloc (SO 0 0 0 0 u7 0 d7) := ⟨_, rfl⟩
        rw [← hv7] at C7 ⊢
        clear hv7 H7 b7
        go_upto_region 19 with (go_at_call 13; refine (G3.out _ _ _ (HSS.out _ C7.out) (HVV.out _ C7.out)).mono ?_; rintro e8 w8 ⟨u8, d8, rfl, H8, b8⟩)
        change Code.wp _ _ _ _ (w8.alloc (SO 0 0 0 0 u8 0 d8))
        have C8 : Hid (Below w5.heap.size w5 (w8.alloc (SO 0 0 0 0 u8 0 d8))) := C7.out.trans ((b8.out.alloc b8.out.size _).mono C7.out.size)
        obtain ⟨v8, hv8⟩ : ∃ x, x = w8.alloc (SO 0 0 0 0 u8 0 d8) := ⟨_, rfl⟩
        rw [← hv8] at C8 ⊢
        clear hv8 H8 b8
        go_upto_region 20 with (first
          | ((with_reducible refine make_at _ 5 _ _ (.int .u8 0) 1 20 20 ?_ ?_ ?_ ?_ rfl ?_ ?_ ?_ ?_); (exact rfl); (exact rfl); (exact Tryd.underlying22); (exact Tryd.info_u8); omega; omega; omega; intro m2 Gm2 bm2 sm2; have Cm2 : Hid (Below w5.heap.size w5 m2) := C8.out.trans (bm2.mono C8.out.size); clear bm2 sm2)
          | (go_at_call 13; refine (G4.out _ _ _ (HSS.out _ Cm2.out) (bs_made (by omega) Gm2.out)).mono ?_; rintro e9 w9 ⟨u9, d9, rfl, H9, b9⟩))
        change Code.wp _ _ _ _ (w9.alloc (SO 0 0 0 0 u9 0 d9))
        have C9 : Hid (Below w5.heap.size w5 (w9.alloc (SO 0 0 0 0 u9 0 d9))) := Cm2.out.trans ((b9.out.alloc b9.out.size _).mono Cm2.out.size)
        obtain ⟨v9, hv9⟩ : ∃ x, x = w9.alloc (SO 0 0 0 0 u9 0 d9) := ⟨_, rfl⟩
        rw [← hv9] at C9 ⊢
        clear hv9 H9 b9
        go_upto_region 21 with (go_at_call 13; refine (G5.out _ _ _ (HSS.out _ C9.out) (HVV.out _ C9.out)).mono ?_; rintro e10 w10 ⟨u10, d10, rfl, H10, b10⟩)
        change Code.wp _ _ _ _ (w10.alloc (SO 0 0 0 0 u10 0 d10))
        have C10 : Hid (Below w5.heap.size w5 (w10.alloc (SO 0 0 0 0 u10 0 d10))) := C9.out.trans ((b10.out.alloc b10.out.size _).mono C9.out.size)
        obtain ⟨v10, hv10⟩ : ∃ x, x = w10.alloc (SO 0 0 0 0 u10 0 d10) := ⟨_, rfl⟩
        rw [← hv10] at C10 ⊢
        clear hv10 H10 b10
        go_wp2_with (first
          | ((with_reducible refine make_g _ 5 _ _ (.int .u8 0) 1 99 99 ?_ ?_ ?_ ?_ ?_ rfl ?_ ?_ ?_ ?_); (rfl); (exact rfl); (exact rfl); (exact Tryd.underlying22); (exact Tryd.info_u8); omega; omega; omega; intro m3 Gm3 bm3 sm3; have Bm3 := Lib.hid bm3; clear bm3 sm3)
          | (go_at_call 15; have TT := TKa.out; clear TKa; refine (K1.out _ _ _ (HVV.out _ C10.out)).mono ?_; rintro e11 w11 ⟨rfl, rfl⟩)
          | (go_at_call 15; have TT2 := TKb.out; clear TKb; refine (K2.out _ _ _ (H16.out _ C10.out)).mono ?_; rintro e12 w12 ⟨rfl, rfl⟩)
          | (go_at_call 15; refine (K3.out _ _ _ (bs_made (by omega) Gm3.out)).mono ?_; rintro e13 w13 ⟨rfl, rfl⟩)
          | (go_at_call 8; refine (HKN.out _ (W5.out.trans ((C10.out.trans (Bm3.out.mono C10.out.size)).mono W5.out.size))).mono ?_; rintro e14 w14 ⟨rfl, b14⟩))
        go_ret
        exact ⟨rfl, (W5.out.trans ((C10.out.trans (Bm3.out.mono C10.out.size)).mono W5.out.size)).trans (b14.mono ((W5.out.trans ((C10.out.trans (Bm3.out.mono C10.out.size)).mono W5.out.size)).size))⟩
end Go.Proofs.YtkjfhbmdogmecaaDoor

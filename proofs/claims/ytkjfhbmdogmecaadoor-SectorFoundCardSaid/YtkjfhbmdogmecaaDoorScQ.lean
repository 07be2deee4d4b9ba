/-
  The law SectorFound walked.
-/
import Derived.Test.YtkjfhbmdogmecaaDoorScQ0
import Derived.BigQuiet
namespace Go.Proofs.YtkjfhbmdogmecaaDoor
open Go.RowKit

theorem bits_bytF (u v : Int) : 0 ≤ bits .xor .u8 u v ∧ bits .xor .u8 u v ≤ 255 := by
  have h : ∀ x : Int, 0 ≤ IntKind.u8.wrap x ∧ IntKind.u8.wrap x ≤ 255 := fun x => by
    simp [IntKind.wrap, IntKind.signed, IntKind.bits]
    omega
  exact h _
set_option maxHeartbeats 8000000 in
set_option maxRecDepth 100000 in
theorem found_any (hT : TakeSaid) (l : Nat → Sc.S) (M : Nat) (tp : Option Addr) (cp : Nat) (b : List Int) (K A : Int) (q : Option Addr) (n d : Nat) (hn : b.length = n) (w : World) (hl : SRows w tp M l) (hcp : M ≤ cp ∧ cp ≤ 9223372036854775807) (hb : Bs w q d b) (ht : Tab w 0) :
    Calls Tryd.prog 5 #[.slice tp M cp, .agg #[.int .i64 K, .int .i64 A], .slice q n d] w (YesSay w) := by
  have B0 : Hid (Below w.heap.size w (w.alloc (AO K A))) := (Below.refl _ w).alloc (Nat.le_refl _) _
  have A0 : Hid (AAt (w.alloc (AO K A)) w.heap.size K A) := AAt.new w K A
  have HKN : Hid (∀ x, Below w.heap.size w x → Calls Tryd.prog 8 #[] x (YesSay x)) := fun x hx => known_any hT x (ht.below hx ht.lt)
  have HNW : Hid (∀ x, Calls Tryd.prog 10 #[] x (NewNam x)) := newnam_any
  obtain ⟨w0, hw0⟩ : ∃ x, x = w.alloc (AO K A) := ⟨_, rfl⟩
  rw [← hw0] at B0 A0
  clear hT ht
  by_cases hl0 : (n : Int) > 4096
  · go_enter Tryd.func5, Tryd.ntmps5
    go_upto_region 1 with (fail)
    change Code.wp _ _ _ _ (w.alloc (AO K A))
    rw [← hw0]
    clear hw0
    go_wp2_with (go_at_call 8; refine (HKN.out _ B0.out).mono ?_; rintro e1 w1 ⟨rfl, hb1⟩)
    go_ret
    exact ⟨rfl, B0.out.trans (hb1.mono B0.out.size)⟩
  obtain ⟨N, hN⟩ : ∃ N, N = min M 30 := ⟨_, rfl⟩
  have hNM : N ≤ M := by omega
  have hN3 : N ≤ 30 := by omega
  have hNN : ∀ k : Nat, k < M → k < 30 → k < N := fun k h1 h2 => by omega
  have hn4 : n ≤ 4096 := by omega
  have HNN := Lib.hid hNN
  have HBB : Hid (∀ x, Below w.heap.size w x → Bs x q d b) := fun x hx => hb.old hx
  have HBY : Hid (Sha.Byt b) := hb.bat.1
  have HAA : Hid (∀ x, Below w0.heap.size w0 x → x.cell? ⟨w.heap.size, 0, none⟩ = some (.int .i64 K) ∧ x.cell? ⟨w.heap.size, 1, none⟩ = some (.int .i64 A)) := fun x hx => ⟨(A0.out.old hx).c0, (A0.out.old hx).c1⟩
  have HSE : Hid (∀ k, k < N → ∃ tb tf p c, tp = some ⟨tb, tf, none⟩ ∧ ∀ y, Below w.heap.size w y → SecAt y tb (tf + k * 5) (l k) p c) := fun k hk => by
    obtain ⟨tb, tf, h1, h2, h3⟩ := hl (by omega)
    obtain ⟨p, c, h⟩ := h3 k (by omega)
    exact ⟨tb, tf, p, c, h1, fun y hy => h.old hy⟩
  have HMC : Hid ((M : Int) ≤ (cp : Int)) := by show _ ≤ _; omega
  clear hl hb hNN hN hl0 A0
  go_enter Tryd.func5, Tryd.ntmps5
  go_upto_region 1 with (fail)
  change Code.wp _ _ _ _ (w.alloc (AO K A))
  rw [← hw0]
  clear hw0
  have hle : ¬ (n : Int) > 4096 := by omega
  go_wp2_with (go_at_call 10; refine (HNW.out _).mono ?_; rintro e1 w1 ⟨g, bb, cc, rfl, L1, St1, B1⟩)
  have HB0 : Hid (∀ y, Only bb w1 y → Below w0.heap.size w0 y) := fun y hy => hy.below B1.out L1.out.2.1 B1.out.size
  have HBW : Hid (∀ y, Only bb w1 y → Below w.heap.size w y) := fun y hy => B0.out.trans ((HB0.out y hy).mono B0.out.size)
  have HSC : Hid (∀ k, k < N → ∃ tb tf p c, tp = some ⟨tb, tf, none⟩ ∧ ∀ y, Below w0.heap.size w0 y → SecAt y tb (tf + k * 5) (l k) p c) := fun k hk => by
    obtain ⟨tb, tf, p, c, h1, h2⟩ := HSE.out k hk
    exact ⟨tb, tf, p, c, h1, fun y hy => h2 y (B0.out.trans (hy.mono B0.out.size))⟩
  clear HSE HNW hle
  go_loopw [8, 9, 10] (fun v8 v9 v10 wr => ∃ (k : Nat) (F : Bool) (u : Option Addr) (m dd : Nat) (Ls : List Int), k ≤ N ∧ v10 = .int .i64 k ∧ v8 = .bool F ∧ v9 = .slice u m dd ∧ Hid (Ls.length = m) ∧ Hid (m ≤ 2000) ∧ Hid (F = true ↔ Sc.Fnd l k K A b) ∧ Hid (Only bb w1 wr) ∧ Hid (StAt wr g bb cc (Sc.tr l k)) ∧ Hid (∀ y, Only bb wr y → Bs y u dd Ls)) (fun _ _ v10 _ => N - (intOf v10).toNat)
  case atStart => exact ⟨0, false, none, 0, 0, [], by omega, rfl, rfl, rfl, rfl, (by show (0 : Nat) ≤ 2000; omega), ⟨(fun h => by cases h), (fun h => absurd h Sc.fnd_zero)⟩, Only.refl _ _, St1.out, fun y _ => bs_none y⟩
  case round =>
    obtain ⟨k, F, u, m, dd, Ls, hk, rfl, rfl, rfl, HLm, Hm, HF, HO, HST, HLS⟩ := hrel
    go_upto_region 7 with (fail)
    go_cut [36] from 29 to 85 (fun v36 y => v36 = .bool (decide (k < N)) ∧ Hid (wr = y))
    case first =>
      by_cases h1 : (k : Int) < (M : Int)
      · by_cases h2 : (k : Int) < 30
        · go_wp2
          go_meet
          case rel => exact ⟨by rw [decide_eq_true (HNN.out k (by omega) (by omega))], rfl⟩
        · go_wp2
          go_meet
          case rel => exact ⟨by rw [decide_eq_false (show ¬ k < N by omega)], rfl⟩
      · go_wp2
        go_meet
        case rel => exact ⟨by rw [decide_eq_false (show ¬ k < N by omega)], rfl⟩
    case rest =>
      obtain ⟨rfl, hwc⟩ := hcut
      have hwc := hwc.out
      subst hwc
      by_cases hlt : k < N
      · rw [decide_eq_true hlt]
        as_aux_lemma =>
          have hkM : (k : Int) < (M : Int) := by omega
          have hk0 : (0 : Int) ≤ (k : Int) := by omega
          obtain ⟨tb, tf, p, c, htp, hsc⟩ := HSC.out k hlt
          subst htp
          have HSK := Lib.hid hsc
          have hsec := hsc _ (HB0.out _ HO.out)
          clear hsc
          have hcl : k < cp := by have := HMC.out; omega
          have HTL := Sc.tr_len l k
          have HPT : Hid (Calls Tryd.prog 11 #[.iface 28 (.pointer (some ⟨g, 0, none⟩)), SV (l k).k (l k).e (l k).n (l k).a p (l k).L.length c] wr (LPut (Sc.pt (Sc.nsl (Sc.tr l k)) (l k)) wr (fun z => StAt z g bb cc (Sc.nd (Sc.tr l k) (l k)) ∧ Only bb wr z))) := nput_any (Sc.tr l k) g bb cc (l k) p _ c rfl wr HST.out hsec.2 (by omega)
          have HFS : Hid (Sc.Fnd l (k + 1) K A b ↔ (Sc.Fnd l k K A b ∨ (Sc.ers (l k) = 0 ∧ (l k).k = K ∧ (l k).a = A ∧ (Sc.pt (Sc.nsl (Sc.tr l k)) (l k)).2 = b))) := Sc.fnd_succ
          have HTR : Hid (Sc.tr l (k + 1) = Sc.nd (Sc.tr l k) (l k)) := Sc.tr_succ l k
          have HXL : Hid (Sc.ers (l k) = 0 → (Sc.pt (Sc.nsl (Sc.tr l k)) (l k)).2.length ≤ 2000) := fun h => by
            rw [Sc.nam_put_len _ h]
            have := (Sc.ers_parts h).2.2
            omega
          have hX1 := Sc.pt_fst (Sc.nsl (Sc.tr l k)) (l k)
          generalize Sc.nd (Sc.tr l k) (l k) = T1 at *
          generalize Sc.pt (Sc.nsl (Sc.tr l k)) (l k) = XP at *
          generalize l k = s at *
          obtain ⟨E, XL⟩ := XP
          simp only at hX1 HPT HFS HXL
          subst hX1
          generalize Sc.ers s = E at *
          obtain ⟨c0, c1, c2, c3, c4⟩ := hsec.1
          clear hsec HTL
          by_cases hlen : (s.L.length : Int) > 1024
          · go_wp2_with (go_at_call 8; refine (HKN.out _ (HBW.out _ HO.out)).mono ?_; rintro e5 w5 ⟨rfl, hb5⟩)
            go_ret
            exact ⟨rfl, (HBW.out _ HO.out).trans (hb5.mono (HBW.out _ HO.out).size)⟩
          have BBL : Hid (bb < wr.heap.size) := HST.out.lt.2.1
          by_cases hE : E = 0
          · subst hE
            go_upto_region 14 with (go_at_call 11; refine (HPT.out.mono (fun _ _ q => putf_of q)).mono ?_; rintro e5 w5 ⟨u5, m5, d5, rfl, l5, O5, H5, F5⟩)
            have FF5 := Lib.hid F5
            have A5 : Hid (Only bb w1 w5) := HO.out.trans F5.2
            have HNX : Hid (∀ y, Only bb w5 y → Bs y u5 d5 XL) := fun y hy => bs_own_only H5.out O5.out hy BBL.out
            have l5' := Lib.hid l5
            have H5m : Hid (m5 ≤ 2000) := by show _ ≤ _; have := HXL.out (by first | rfl | trivial); omega
            clear F5 c0 c1 c2 c3 c4 HPT O5 H5 l5
            have HKC : Hid (∀ y, Below w0.heap.size w0 y → (y.cell? ⟨w.heap.size, 0, none⟩ = some (.int .i64 K) ∧ y.cell? ⟨w.heap.size, 1, none⟩ = some (.int .i64 A)) ∧ (y.cell? ⟨tb, tf + k * 5, none⟩ = some (.int .i64 s.k) ∧ y.cell? ⟨tb, tf + k * 5 + 3, none⟩ = some (.int .i64 s.a))) := fun y hy => ⟨HAA.out y hy, (HSK.out y hy).1.1, (HSK.out y hy).1.2.2.2.1⟩
            have HSB : Hid (∀ y, Below w5.heap.size w5 y → Calls Tryd.prog 16 #[.slice u5 m5 d5, .slice q n d] y fun r y' => r = .returned (.bool (decide (XL = b))) ∧ Below y.heap.size y y') := fun y hy => same_all XL b u5 q m5 n d5 d l5'.out hn y (HNX.out y (only_of_below hy)).bat (HBB.out y (HBW.out y (A5.out.trans (only_of_below hy)))).bat (by have := H5m.out; omega)
            have HJ : Hid (decide (XL = b) = true ↔ XL = b) := decide_eq_true_iff
            generalize decide (XL = b) = J at *
            have B5d : Hid (Below w0.heap.size w0 w5.drew) := (HB0.out _ A5.out).drew
            have W5d : Hid (Below w5.heap.size w5 w5.drew) := (Below.refl _ w5).drew
            cases F with
            | true =>
              have HF1 : Hid (true = true ↔ Sc.Fnd l (k + 1) K A b) := ⟨fun _ => HFS.out.2 (Or.inl (HF.out.1 rfl)), fun _ => rfl⟩
              clear HF HFS HJ HSB
              obtain ⟨⟨a0, a1⟩, a2, a3⟩ := HKC.out _ (HB0.out _ A5.out)
              go_quiet ((fail))
              have WQ : Hid (Below w5.heap.size w5 (w5.drewN nq)) := below_dn (Below.refl _ w5) nq
              go_wp2
              exact ⟨⟨k + 1, _, u5, m5, d5, XL, by omega, by go_num, rfl, rfl, l5'.out, H5m.out, (by first | exact HF1.out | (show (_ ↔ _); simpa using HF1.out)), A5.out.trans (only_of_below WQ.out), (by rw [HTR.out]; exact FF5.out.1.old WQ.out), fun y hy => HNX.out y ((only_of_below WQ.out).trans hy)⟩, by simp [intOf]; omega⟩
            | false =>
              have HF0 : ¬ Sc.Fnd l k K A b := fun h => by have := HF.out.2 h; cases this
              by_cases hK : s.k = K
              · by_cases hA : s.a = A
                · have HF1 : Hid (J = true ↔ Sc.Fnd l (k + 1) K A b) := HJ.out.trans ⟨fun h => HFS.out.2 (Or.inr ⟨by first | rfl | trivial, hK, hA, h⟩), fun h => (HFS.out.1 h).elim (fun r => absurd r HF0) fun r => r.2.2.2⟩
                  have hK1 : (s.k == K) = true := by simpa using hK
                  have hA1 : (s.a == A) = true := by simpa using hA
                  clear HF HFS HJ HF0 hK hA
                  cases J
                  all_goals
                    as_aux_lemma =>
                    go_region_held3 (fun y => (y.cell? ⟨w.heap.size, 0, none⟩ = some (.int .i64 K) ∧ y.cell? ⟨w.heap.size, 1, none⟩ = some (.int .i64 A)) ∧ (y.cell? ⟨tb, tf + k * 5, none⟩ = some (.int .i64 s.k) ∧ y.cell? ⟨tb, tf + k * 5 + 3, none⟩ = some (.int .i64 s.a)))
                      (exact HKC.out _ (Hid.out (by assumption)))
                      ((go_at_call 16; refine (HSB.out _ W5d.out).mono ?_; rintro e6 w6 ⟨rfl, b6⟩; have B6 : Hid (Below w0.heap.size w0 w6) := B5d.out.trans (b6.mono B5d.out.size); have BZ6 : Hid (Below w5.heap.size w5 w6) := W5d.out.trans (b6.mono W5d.out.size)))
                    all_goals (go_wp2; exact ⟨⟨k + 1, _, u5, m5, d5, XL, by omega, by go_num, rfl, rfl, l5'.out, H5m.out, (by first | exact HF1.out | (show (_ ↔ _); simpa using HF1.out)), A5.out.trans (only_of_below BZ6.out), (by rw [HTR.out]; exact FF5.out.1.old BZ6.out), fun y hy => HNX.out y ((only_of_below BZ6.out).trans hy)⟩, by simp [intOf]; omega⟩)
                · have HF1 : Hid (false = true ↔ Sc.Fnd l (k + 1) K A b) := ⟨fun h => (by cases h), fun h => absurd h (fun h => (HFS.out.1 h).elim (fun r => HF0 r) fun r => hA r.2.2.1)⟩
                  have hK1 : (s.k == K) = true := by simpa using hK
                  have hA1 : (s.a == A) = false := by simpa using hA
                  clear HF HFS HJ HF0 hK hA HSB
                  obtain ⟨⟨a0, a1⟩, a2, a3⟩ := HKC.out _ (HB0.out _ A5.out)
                  go_quiet ((fail))
                  have WQ : Hid (Below w5.heap.size w5 (w5.drewN nq)) := below_dn (Below.refl _ w5) nq
                  go_wp2
                  exact ⟨⟨k + 1, _, u5, m5, d5, XL, by omega, by go_num, rfl, rfl, l5'.out, H5m.out, (by first | exact HF1.out | (show (_ ↔ _); simpa using HF1.out)), A5.out.trans (only_of_below WQ.out), (by rw [HTR.out]; exact FF5.out.1.old WQ.out), fun y hy => HNX.out y ((only_of_below WQ.out).trans hy)⟩, by simp [intOf]; omega⟩
              · have HF1 : Hid (false = true ↔ Sc.Fnd l (k + 1) K A b) := ⟨fun h => (by cases h), fun h => absurd h (fun h => (HFS.out.1 h).elim (fun r => HF0 r) fun r => hK r.2.1)⟩
                have hK1 : (s.k == K) = false := by simpa using hK
                clear HF HFS HJ HF0 hK HSB
                obtain ⟨⟨a0, a1⟩, a2, a3⟩ := HKC.out _ (HB0.out _ A5.out)
                go_quiet ((fail))
                have WQ : Hid (Below w5.heap.size w5 (w5.drewN nq)) := below_dn (Below.refl _ w5) nq
                go_wp2
                exact ⟨⟨k + 1, _, u5, m5, d5, XL, by omega, by go_num, rfl, rfl, l5'.out, H5m.out, (by first | exact HF1.out | (show (_ ↔ _); simpa using HF1.out)), A5.out.trans (only_of_below WQ.out), (by rw [HTR.out]; exact FF5.out.1.old WQ.out), fun y hy => HNX.out y ((only_of_below WQ.out).trans hy)⟩, by simp [intOf]; omega⟩
          · have hE1 : (E == 0) = false := by simpa using hE
            have hE2 : (E != 0) = true := by simpa using hE
            have HF2 : Hid (F = true ↔ Sc.Fnd l (k + 1) K A b) := HF.out.trans ⟨fun h => HFS.out.2 (Or.inl h), fun h => (HFS.out.1 h).elim id fun r => absurd r.1 hE⟩
            clear hE
            go_wp2_with (go_at_call 11; refine (HPT.out.mono (fun _ _ q => putf_of q)).mono ?_; rintro e5 w5 ⟨u5, m5, d5, rfl, l5, O5, H5, F5⟩)
            exact ⟨⟨k + 1, F, u, m, dd, Ls, by omega, by go_num, rfl, rfl, HLm.out, Hm.out, HF2.out, HO.out.trans F5.2, (by rw [HTR.out]; exact F5.1), fun y hy => HLS.out y (F5.2.trans hy)⟩, by simp [intOf]; omega⟩
      · rw [decide_eq_false hlt]
        as_aux_lemma =>
          have HKN2 : Hid (k = N) := by show _ = _; omega
          have HK3 : Hid (k ≤ 30) := by show _ ≤ _; omega
          have HPT : Hid (∀ i, i < k → ∀ x p c, StAt x g bb cc (Sc.tr l k) → Bs x p c (l i).L → Calls Tryd.prog 11 #[.iface 28 (.pointer (some ⟨g, 0, none⟩)), SV (l i).k (l i).e (l i).n (l i).a p (l i).L.length c] x (LPut (Sc.pt (Sc.nsl (Sc.tr l k)) (l i)) x (fun z => StAt z g bb cc (Sc.tr l k) ∧ Only bb x z))) := fun i hi x p c hx hb => by
            have h := nput_any (Sc.tr l k) g bb cc (l i) p _ c rfl x hx hb (by have := Sc.tr_len l k; omega)
            rw [Sc.nd_again hi] at h
            exact h
          have HQT : Hid (∀ Y Ka Aa, Sha.Byt Y → (Sc.gt (Nm.opn (Sc.tr l k)) Ka Aa Y).1 = 0 → Sc.Pt l k k Y) := fun Y Ka Aa h1 h2 => Sc.gt_Pt h1 (by omega) h2
          have HPS : Hid (∀ i Y, ¬ Sc.Pt l k i Y → (Sc.Pt l k (i + 1) Y ↔ (Sc.ers (l i) = 0 ∧ (Sc.pt (Sc.nsl (Sc.tr l k)) (l i)).2 = Y))) := fun i Y h => Sc.pt_succ h
          have HPL : Hid (∀ i, Sc.ers (l i) = 0 → (Sc.pt (Sc.nsl (Sc.tr l k)) (l i)).2.length ≤ 2000) := fun i h => by
            rw [Sc.nam_put_len _ h]
            have := (Sc.ers_parts h).2.2
            omega
          have HGF : Hid ((Sc.gt (Nm.opn (Sc.tr l k)) K A b).1 = 0 ↔ F = true) := (Sc.gt_fnd HBY.out (by omega)).trans HF.out.symm
          have HGZ : Hid ((Sc.gt (Nm.opn (Sc.tr l k)) K A b).1 ≠ 0 → (Sc.gt (Nm.opn (Sc.tr l k)) K A b).2 = Sc.S.zero) := Sc.gt_zero
          have HG0 : Hid (Calls Tryd.prog 13 #[.iface 28 (.pointer (some ⟨g, 0, none⟩)), .int .i64 K, .int .i64 A, .slice q n d] wr (LGet (Sc.gt (Nm.opn (Sc.tr l k)) K A b) wr)) := nget_any (Sc.tr l k) g bb cc K A b q n d hn wr HST.out (HBB.out _ (HBW.out _ HO.out))
          have HGA : Hid (∀ x Ka Aa Y uu mm de, Y.length = mm → StAt x g bb cc (Sc.tr l k) → Bs x uu de Y → Calls Tryd.prog 13 #[.iface 28 (.pointer (some ⟨g, 0, none⟩)), .int .i64 Ka, .int .i64 Aa, .slice uu mm de] x (LGet (Sc.gt (Nm.opn (Sc.tr l k)) Ka Aa Y) x)) := fun x Ka Aa Y uu mm de h1 h2 h3 => nget_any (Sc.tr l k) g bb cc Ka Aa Y uu mm de h1 x h2 h3
          have HSZ : Hid (∀ x u d, Bs x u d [] → Calls Tryd.prog 14 #[SV 0 0 0 0 u 0 d, SV 0 0 0 0 none 0 0] x fun r x' => r = .returned (.bool true) ∧ Below x.heap.size x x') := fun x u d h => (samesec_any Sc.S.zero Sc.S.zero u none 0 0 d 0 rfl rfl x h (bs_none _) (by omega)).mono fun r x' q => ⟨by rw [q.1, decide_eq_true rfl], q.2⟩
          clear hcp HF
          generalize Sc.tr l k = T at *
          generalize Sc.gt (Nm.opn T) K A b = XG at *
          obtain ⟨e0, s2⟩ := XG
          simp only at HGF HGZ HG0
          obtain ⟨x0, x1⟩ := HAA.out _ (HB0.out _ HO.out)
          go_upto_region 16 with (go_at_call 13; refine (HG0.out.mono (fun _ _ q => getx_of q)).mono ?_; rintro e6 w6 ⟨u6, m6, d6, rfl, l6, P6, H6, b6⟩)
          change Code.wp _ _ _ _ (w6.alloc (SO s2.k s2.e s2.n s2.a u6 m6 d6))
          have B67 : Hid (Below w6.heap.size w6 (w6.alloc (SO s2.k s2.e s2.n s2.a u6 m6 d6))) := (Below.refl _ w6).alloc (Nat.le_refl _) _
          have SA7 : Hid (SAt (w6.alloc (SO s2.k s2.e s2.n s2.a u6 m6 d6)) w6.heap.size s2.k s2.e s2.n s2.a u6 m6 d6) := SAt.new w6 _ _ _ _ _ _ _
          obtain ⟨w7, hw7⟩ : ∃ x, x = w6.alloc (SO s2.k s2.e s2.n s2.a u6 m6 d6) := ⟨_, rfl⟩
          rw [← hw7] at B67 SA7 ⊢
          clear hw7 x0 x1
          have H67 : Hid (Bs w7 u6 d6 s2.L) := H6.out.old B67.out
          have BR7 : Hid (Below wr.heap.size wr w7) := b6.out.trans (B67.out.mono b6.out.size)
          clear P6 H6 b6 B67 HG0
          go_cut [110] from 97 to 110 (fun v110 y => v110 = .bool false ∧ Hid (Below w7.heap.size w7 y))
          case first =>
            by_cases he : e0 = 0
            · have hF := HGF.out.1 he
              subst hF
              subst he
              go_wp2
              go_meet
              case rel => exact ⟨rfl, Below.refl _ _⟩
            · have hF : F = false := by
                cases F with
                | false => rfl
                | true => exact absurd (HGF.out.2 rfl) he
              subst hF
              have hs := HGZ.out he
              subst hs
              have hE1 : (e0 == 0) = false := by simpa using he
              have hE2 : (e0 != 0) = true := by simpa using he
              obtain rfl : m6 = 0 := l6.symm
              obtain ⟨x0, x1, x2, x3, x4⟩ := SA7.out.all
              clear he
              go_wp2_with (go_at_call 14; refine (HSZ.out _ _ _ H67.out).mono ?_; rintro e8 w8 ⟨rfl, b8⟩)
              go_meet
              case rel => exact ⟨rfl, b8⟩
          case rest =>
            obtain ⟨rfl, HB8⟩ := hcut
            have O8 : Hid (Only bb w1 wc) := HO.out.trans ((only_of_below BR7.out).trans (only_of_below HB8.out))
            have St8 : Hid (StAt wc g bb cc T) := (HST.out.old BR7.out).old HB8.out
            have HL8 : Hid (∀ y, Only bb wc y → Bs y u dd Ls) := fun y hy => HLS.out y ((only_of_below BR7.out).trans ((only_of_below HB8.out).trans hy))
            clear HGF HGZ HSZ SA7 H67 BR7 HB8 HLS HST HO
            obtain ⟨wB, hwB⟩ : ∃ x, x = wc := ⟨_, rfl⟩
            rw [← hwB] at O8 St8 HL8 ⊢
            clear hwB
            go_wp2
            go_loopw [15] (fun v15 x2 => ∃ j : Nat, j ≤ m ∧ v15 = .int .i64 j ∧ Hid (Only bb wB x2) ∧ Hid (StAt x2 g bb cc T)) (fun v15 _ => m - (intOf v15).toNat)
            case atStart => exact ⟨0, by omega, rfl, Only.refl _ _, St8.out⟩
            case round =>
              clear St8
              obtain ⟨j, hj, rfl, HO2, HST2⟩ := hrel
              by_cases hjm : j < m
              · have hjm1 : (j : Int) < (m : Int) := by omega
                as_aux_lemma =>
                  have hm2 : (m : Int) ≤ 2000 := by have := Hm.out; omega
                  have hj0 : (0 : Int) ≤ (j : Int) := by omega
                  have HLB := Lib.hid (HL8.out _ HO2.out)
                  have HLY : Hid (Sha.Byt Ls) := HLB.out.bat.1
                  have BBL2 : Hid (bb < wr.heap.size) := HST2.out.lt.2.1
                  go_upto_region 22 with (go_at_call 17; refine (copybytes_any Ls u m dd HLm.out (by rw [HLm.out]; have := Hm.out; omega) _ HLB.out.bat).mono ?_; rintro e1 y1 ⟨a1, rfl, ho1, hb1⟩; obtain ⟨p1, c1Y, rfl, _, _⟩ := own_bs ho1 HLY.out; rw [HLm.out] at ho1 ⊢; have HO1 := Lib.hid ho1; have BY1 := Lib.hid hb1; clear ho1 hb1)
                  rcases HO1.out.2 with ⟨h2, _⟩ | ⟨gg, cap', cur, h2, hgb, h3, h4, h5, h6, h7⟩
                  · cases h2; omega
                  cases h2
                  have HGB := Lib.hid hgb
                  have HH3 := Lib.hid h3
                  have HSZ2 := Lib.hid (show m ≤ c1Y ∧ cur.size = c1Y * 1 from ⟨h4, h6⟩)
                  have HMX := Lib.hid (h5)
                  have HTK := Lib.hid h7
                  have c0 := u8_at HO1.out j (by omega)
                  have f0 := frozen_of_row y1 gg j _ _ h3
                  clear h3 h4 h5 h6 h7 hgb
                  generalize Ls.getD j 0 = y0 at *
                  go_cut [16] from 111 to 200 (fun v16 y => v16 = .slice (some ⟨gg, 0, none⟩) m c1Y ∧ ∃ X : Int, Hid (y = y1.setCell ⟨gg, j, none⟩ (.int .u8 (bits .xor .u8 y0 X))))
                  case first =>
                    go_wp2
                    go_meet
                    case rel => exact ⟨rfl, _, rfl⟩
                  case rest =>
                    obtain ⟨rfl, X, HWX⟩ := hcut
                    obtain ⟨y2, hy2⟩ : ∃ x, x = wc := ⟨_, rfl⟩
                    rw [← hy2] at HWX ⊢
                    clear hy2
                    clear c0 f0
                    obtain ⟨Y, HY, HYl, HYb⟩ : ∃ Y : List Int, Hid (Y = Ls.set j (bits .xor .u8 y0 X)) ∧ Hid (Y.length = m) ∧ Hid (Sha.Byt Y) := ⟨_, rfl, by show (List.set _ _ _).length = m; rw [List.length_set]; exact HLm.out, fun z hz => by
                      rcases List.mem_or_eq_of_mem_set hz with h | h
                      · exact HLY.out z h
                      · rw [h]; exact bits_bytF _ _⟩
                    have HYO : Hid (y2.ownsRow wr.heap.size 5 1 (.slice (some ⟨gg, 0, none⟩) m c1Y) m (U8s Y)) := by
                      show World.ownsRow _ _ _ _ _ _ _
                      rw [HWX.out, HY.out]
                      refine ⟨by simp [U8s, HLm.out], Or.inr ⟨gg, c1Y, cur.setIfInBounds j (.int .u8 (bits .xor .u8 y0 X)), rfl, HGB.out, ?_, HSZ2.out.1, HMX.out, by simpa using HSZ2.out.2, ?_⟩⟩
                      · rw [heap_setCell_same y1 gg j _ _ _ HH3.out]
                      · have h := HTK.out
                        simp only [Array.toList_setIfInBounds, List.take_set]
                        rw [h]
                        simp [U8s, List.map_set]
                    have BX2 : Hid (Below wr.heap.size wr y2) := by
                      show Below _ _ _
                      rw [HWX.out]
                      exact BY1.out.setCell HGB.out _
                    obtain ⟨p2, c2, e2, hb2, _⟩ := own_bs HYO.out HYb.out
                    rw [HYl.out] at e2
                    cases e2
                    have HYS : Hid (∀ z, Only bb y2 z → Bs z (some ⟨gg, 0, none⟩) c1Y Y) := fun z hz => bs_own_only hb2 HYO.out hz BBL2.out
                    have O9 : Hid (Only bb wB y2) := HO2.out.trans (only_of_below BX2.out)
                    have St9 : Hid (StAt y2 g bb cc T) := HST2.out.old BX2.out
                    clear hb2 HYO HWX HY HO1 HGB HH3 HSZ2 HMX HTK HLB HLY BX2 BY1 HST2 HO2
                    go_wp2
                    go_loopw [17, 18] (fun v17 v18 x3 => ∃ (i : Nat) (Pb : Bool), i ≤ k ∧ v18 = .int .i64 i ∧ v17 = .bool Pb ∧ Hid (Pb = true → Sc.Pt l k k Y) ∧ Hid (Pb = false → ¬ Sc.Pt l k i Y) ∧ Hid (Only bb y2 x3) ∧ Hid (StAt x3 g bb cc T)) (fun _ v18 _ => k - (intOf v18).toNat)
                    case atStart => exact ⟨0, false, by omega, rfl, rfl, (fun h => by cases h), (fun _ => Sc.pt_zero), Only.refl _ _, St9.out⟩
                    case round =>
                      clear St9
                      obtain ⟨i, Pb, hi, rfl, rfl, HP1, HP2, HO3, HST3⟩ := hrel
                      go_upto_region 25 with (fail)
                      go_cut [143] from 132 to 162 (fun v143 y => v143 = .bool (decide (i < k) && !Pb) ∧ Hid (wr = y))
                      case first =>
                        have HNI : Hid (∀ i : Nat, i < M → i < 30 → i < k) := fun i h1 h2 => by have := HNN.out i h1 h2; have := HKN2.out; omega
                        have hkM : k ≤ M := by have := HKN2.out; omega
                        have hk3 : k ≤ 30 := HK3.out
                        by_cases h1 : (i : Int) < (M : Int)
                        · by_cases h2 : (i : Int) < 30
                          · have e : decide (i < k) = true := decide_eq_true (HNI.out i (by omega) (by omega))
                            cases Pb
                            · go_wp2
                              go_meet
                              case rel => exact ⟨by rw [e]; rfl, rfl⟩
                            · go_wp2
                              go_meet
                              case rel => exact ⟨by rw [e]; rfl, rfl⟩
                          · have e : decide (i < k) = false := decide_eq_false (by omega)
                            go_wp2
                            go_meet
                            case rel => exact ⟨by rw [e]; rfl, rfl⟩
                        · have e : decide (i < k) = false := decide_eq_false (by omega)
                          go_wp2
                          go_meet
                          case rel => exact ⟨by rw [e]; rfl, rfl⟩
                      case rest =>
                        obtain ⟨rfl, hwc⟩ := hcut
                        have hwc := hwc.out
                        subst hwc
                        by_cases hg : i < k ∧ Pb = false
                        · obtain ⟨hg, rfl⟩ := hg
                          rw [show (decide (i < k) && !false) = true by rw [decide_eq_true hg]; rfl]
                          as_aux_lemma =>
                            obtain ⟨tb, tf, p, c, htp, hsc⟩ := HSC.out i (by have := HKN2.out; omega)
                            subst htp
                            have hsec := hsc _ (HB0.out _ (O8.out.trans (O9.out.trans HO3.out)))
                            clear hsc
                            have hiM : (i : Int) < (M : Int) := by have := HKN2.out; omega
                            have hi0 : (0 : Int) ≤ (i : Int) := by omega
                            have hic : i < cp := by have := HMC.out; omega
                            have HPC : Hid (Calls Tryd.prog 11 #[.iface 28 (.pointer (some ⟨g, 0, none⟩)), SV (l i).k (l i).e (l i).n (l i).a p (l i).L.length c] wr (LPut (Sc.pt (Sc.nsl T) (l i)) wr (fun z => StAt z g bb cc T ∧ Only bb wr z))) := HPT.out i hg wr p c HST3.out hsec.2
                            have HS := Lib.hid (HPS.out i Y (HP2.out rfl))
                            have HL := Lib.hid (HPL.out i)
                            have HM1 : Hid (Sc.Pt l k (i + 1) Y → Sc.Pt l k k Y) := fun h => Sc.pt_mono h (by omega)
                            have hX1 := Sc.pt_fst (Sc.nsl T) (l i)
                            generalize Sc.pt (Sc.nsl T) (l i) = XP at *
                            generalize l i = s at *
                            obtain ⟨E, XL⟩ := XP
                            simp only at hX1 HPC HS HL
                            subst hX1
                            generalize Sc.ers s = E at *
                            obtain ⟨c0, c1, c2, c3, c4⟩ := hsec.1
                            have BBL3 : Hid (bb < wr.heap.size) := HST3.out.lt.2.1
                            clear hsec
                            by_cases hE : E = 0
                            · have HJ1 : Hid (decide (XL = Y) = true → Sc.Pt l k k Y) := fun h => HM1.out (HS.out.2 ⟨hE, of_decide_eq_true h⟩)
                              have HJ2 : Hid (decide (XL = Y) = false → ¬ Sc.Pt l k (i + 1) Y) := fun h q => of_decide_eq_false h (HS.out.1 q).2
                              have HLL : Hid (XL.length ≤ 2000) := HL.out hE
                              subst hE
                              clear HS HL HM1 HP1 HP2
                              go_upto_region 28 with (go_at_call 11; refine (HPC.out.mono (fun _ _ q => putf_of q)).mono ?_; rintro e5 w5 ⟨u5, m5, d5, rfl, l5, O5, H5, F5⟩)
                              have FF5 := Lib.hid F5
                              have A5 : Hid (Only bb y2 w5) := HO3.out.trans F5.2
                              have HSB : Hid (Calls Tryd.prog 16 #[.slice u5 m5 d5, .slice (some ⟨gg, 0, none⟩) m c1Y] w5 fun r y' => r = .returned (.bool (decide (XL = Y))) ∧ Below w5.heap.size w5 y') := same_all XL Y u5 _ m5 m d5 c1Y l5 HYl.out w5 H5.out.bat (HYS.out _ A5.out).bat (by have := HLL.out; omega)
                              clear F5 c0 c1 c2 c3 c4 HPC O5 H5 l5
                              generalize decide (XL = Y) = J at *
                              go_wp2_with (go_at_call 16; refine HSB.out.mono ?_; rintro e6 w6 ⟨rfl, b6⟩)
                              exact ⟨⟨i + 1, J, by omega, by go_num, rfl, HJ1.out, HJ2.out, A5.out.trans (only_of_below b6), FF5.out.1.old b6⟩, by simp [intOf]; omega⟩
                            · have hE1 : (E == 0) = false := by simpa using hE
                              have HJ2 : Hid (¬ Sc.Pt l k (i + 1) Y) := fun q => hE (HS.out.1 q).1
                              clear HS HL HM1 HP1 HP2 hE
                              go_wp2_with (go_at_call 11; refine (HPC.out.mono (fun _ _ q => putf_of q)).mono ?_; rintro e5 w5 ⟨u5, m5, d5, rfl, l5, O5, H5, F5⟩)
                              exact ⟨⟨i + 1, false, by omega, by go_num, rfl, (fun h => by cases h), (fun _ => HJ2.out), HO3.out.trans F5.2, F5.1⟩, by simp [intOf]; omega⟩
                        · have HQ : Hid (Sc.Pt l k k Y → Pb = true) := fun h => by
                            cases Pb with
                            | true => rfl
                            | false =>
                              have hik : i = k := by
                                have : ¬ i < k := fun q => hg ⟨q, rfl⟩
                                omega
                              subst hik
                              exact absurd h (HP2.out rfl)
                          rw [show (decide (i < k) && !Pb) = false by
                            cases Pb with
                            | true => simp
                            | false => rw [decide_eq_false (fun q => hg ⟨q, rfl⟩)]; rfl]
                          clear hg HP1 HP2
                          as_aux_lemma =>
                            go_wp2
                            go_loopw [21] (fun v21 x4 => ∃ i : Nat, i ≤ k ∧ v21 = .int .i64 i ∧ Hid (Only bb y2 x4) ∧ Hid (StAt x4 g bb cc T)) (fun v21 _ => k - (intOf v21).toNat)
                            case atStart => exact ⟨0, by omega, rfl, HO3.out, HST3.out⟩
                            case round =>
                              clear HO3 HST3 hi
                              obtain ⟨i, hi, rfl, HO3, HST3⟩ := hrel
                              go_upto_region 30 with (fail)
                              go_cut [175] from 163 to 200 (fun v175 y => ∃ c : Bool, v175 = .bool c ∧ Hid (c = true → i < k) ∧ Hid (wr = y))
                              case first =>
                                have HNI : Hid (∀ i : Nat, i < M → i < 30 → i < k) := fun i h1 h2 => by have := HNN.out i h1 h2; have := HKN2.out; omega
                                by_cases h1 : (i : Int) < (M : Int)
                                · by_cases h2 : (i : Int) < 30
                                  · go_wp2
                                    go_meet
                                    case rel => exact ⟨_, rfl, (fun _ => HNI.out i (by omega) (by omega)), rfl⟩
                                  · go_wp2
                                    go_meet
                                    case rel => exact ⟨_, rfl, (fun h => by cases h), rfl⟩
                                · go_wp2
                                  go_meet
                                  case rel => exact ⟨_, rfl, (fun h => by cases h), rfl⟩
                              case rest =>
                                obtain ⟨c, rfl, HC, hwc⟩ := hcut
                                have hwc := hwc.out
                                subst hwc
                                cases c with
                                | true =>
                                  have hg : i < k := HC.out rfl
                                  clear HC
                                  as_aux_lemma =>
                                    obtain ⟨tb, tf, p, c, htp, hsc⟩ := HSC.out i (by have := HKN2.out; omega)
                                    subst htp
                                    have HSK := Lib.hid hsc
                                    clear hsc
                                    have hiM : (i : Int) < (M : Int) := by have := HKN2.out; omega
                                    have hi0 : (0 : Int) ≤ (i : Int) := by omega
                                    have hic : i < cp := by have := HMC.out; omega
                                    have HGC : Hid (∀ x, StAt x g bb cc T → Bs x (some ⟨gg, 0, none⟩) c1Y Y → Calls Tryd.prog 13 #[.iface 28 (.pointer (some ⟨g, 0, none⟩)), .int .i64 (l i).k, .int .i64 (l i).a, .slice (some ⟨gg, 0, none⟩) m c1Y] x (LGet (Sc.gt (Nm.opn T) (l i).k (l i).a Y) x)) := fun x h1 h2 => HGA.out x _ _ Y _ m c1Y HYl.out h1 h2
                                    have HEQ : Hid ((Sc.gt (Nm.opn T) (l i).k (l i).a Y).1 = 0 → Pb = true) := fun h => HQ.out (HQT.out Y _ _ HYb.out h)
                                    generalize Sc.gt (Nm.opn T) (l i).k (l i).a Y = XG at *
                                    generalize l i = s at *
                                    obtain ⟨fe, s3⟩ := XG
                                    simp only at HEQ HGC
                                    have HKC : Hid (∀ y, Only bb y2 y → (y.cell? ⟨tb, tf + i * 5, none⟩ = some (.int .i64 s.k) ∧ y.cell? ⟨tb, tf + i * 5 + 3, none⟩ = some (.int .i64 s.a))) := fun y hy => ⟨(HSK.out y (HB0.out y (O8.out.trans (O9.out.trans hy)))).1.1, (HSK.out y (HB0.out y (O8.out.trans (O9.out.trans hy)))).1.2.2.2.1⟩
                                    go_upto_region 32 with (fail)
                                    have Oz : Hid (Only bb y2 wr.drew) := HO3.out.drew
                                    have Stz : Hid (StAt wr.drew g bb cc T) := HST3.out.drew
                                    have Hxz : Hid (Bs wr.drew (some ⟨gg, 0, none⟩) c1Y Y) := (HYS.out _ HO3.out).drew
                                    clear HO3 HST3 HSK HPT HPS HPL HQT HGA HSC HQ
                                    refine wp_region_any (by kernel_rfl) ?_
                                    change wpAny _ _ _ _ _ _ _ (World.drew _)
                                    generalize wr.drew = z at *
                                    have TD := HKC.out _ Oz.out
                                    refine wpAny_of_held (S := fun y => y.cell? ⟨tb, tf + i * 5, none⟩ = some (.int .i64 s.k) ∧ y.cell? ⟨tb, tf + i * 5 + 3, none⟩ = some (.int .i64 s.a)) _ _ _ _ ?_
                                    refine anyH_take 0 179 (.pointer (some ⟨g, 0, none⟩)) TD rfl (by kernel_rfl) (by kernel_rfl) (by kernel_rfl) (fun _ _ _ h => h) (by rfl) (by intro x hx; obtain ⟨y0, y1⟩ := hx; go_simp; try (intro h; omega)) ?_
                                    try simp only [Act.put, List.setIfInBounds_toArray, List.set_cons_zero, List.set_cons_succ]
                                    refine anyH_take 1 180 (.iface 28 (.pointer (some ⟨g, 0, none⟩))) TD rfl (by kernel_rfl) (by kernel_rfl) (by kernel_rfl) (fun _ _ _ h => h) (by rfl) (by intro x hx; obtain ⟨y0, y1⟩ := hx; go_simp; try (intro h; omega)) ?_
                                    try simp only [Act.put, List.setIfInBounds_toArray, List.set_cons_zero, List.set_cons_succ]
                                    refine anyH_take 2 181 (.slice (some ⟨tb, tf, none⟩) M cp) TD rfl (by kernel_rfl) (by kernel_rfl) (by kernel_rfl) (fun _ _ _ h => h) (by rfl) (by intro x hx; obtain ⟨y0, y1⟩ := hx; go_simp; try (intro h; omega)) ?_
                                    try simp only [Act.put, List.setIfInBounds_toArray, List.set_cons_zero, List.set_cons_succ]
                                    refine anyH_take 3 182 (.int .i64 (i : Int)) TD rfl (by kernel_rfl) (by kernel_rfl) (by kernel_rfl) (fun _ _ _ h => h) (by rfl) (by intro x hx; obtain ⟨y0, y1⟩ := hx; go_simp; try (intro h; omega)) ?_
                                    try simp only [Act.put, List.setIfInBounds_toArray, List.set_cons_zero, List.set_cons_succ]
                                    refine anyH_take 4 183 (.pointer (some ⟨tb, tf + i * 5, none⟩)) TD rfl (by kernel_rfl) (by kernel_rfl) (by kernel_rfl) (fun _ _ _ h => h) (by rfl) (by intro x hx; obtain ⟨y0, y1⟩ := hx; go_simp; try (intro h; omega)) ?_
                                    try simp only [Act.put, List.setIfInBounds_toArray, List.set_cons_zero, List.set_cons_succ]
                                    refine anyH_take 5 184 (.pointer (some ⟨tb, tf + i * 5, none⟩)) TD rfl (by kernel_rfl) (by kernel_rfl) (by kernel_rfl) (fun _ _ _ h => h) (by rfl) (by intro x hx; obtain ⟨y0, y1⟩ := hx; go_simp; try (intro h; omega)) ?_
                                    try simp only [Act.put, List.setIfInBounds_toArray, List.set_cons_zero, List.set_cons_succ]
                                    refine anyH_take 6 185 (.int .i64 s.k) TD rfl (by kernel_rfl) (by kernel_rfl) (by kernel_rfl) (fun _ _ _ h => h) (by rfl) (by intro x hx; obtain ⟨y0, y1⟩ := hx; go_simp; try (intro h; omega)) ?_
                                    try simp only [Act.put, List.setIfInBounds_toArray, List.set_cons_zero, List.set_cons_succ]
                                    refine anyH_take 7 186 (.slice (some ⟨tb, tf, none⟩) M cp) TD rfl (by kernel_rfl) (by kernel_rfl) (by kernel_rfl) (fun _ _ _ h => h) (by rfl) (by intro x hx; obtain ⟨y0, y1⟩ := hx; go_simp; try (intro h; omega)) ?_
                                    try simp only [Act.put, List.setIfInBounds_toArray, List.set_cons_zero, List.set_cons_succ]
                                    refine anyH_take 8 187 (.int .i64 (i : Int)) TD rfl (by kernel_rfl) (by kernel_rfl) (by kernel_rfl) (fun _ _ _ h => h) (by rfl) (by intro x hx; obtain ⟨y0, y1⟩ := hx; go_simp; try (intro h; omega)) ?_
                                    try simp only [Act.put, List.setIfInBounds_toArray, List.set_cons_zero, List.set_cons_succ]
                                    refine anyH_take 9 188 (.pointer (some ⟨tb, tf + i * 5, none⟩)) TD rfl (by kernel_rfl) (by kernel_rfl) (by kernel_rfl) (fun _ _ _ h => h) (by rfl) (by intro x hx; obtain ⟨y0, y1⟩ := hx; go_simp; try (intro h; omega)) ?_
                                    try simp only [Act.put, List.setIfInBounds_toArray, List.set_cons_zero, List.set_cons_succ]
                                    refine anyH_take 10 189 (.pointer (some ⟨tb, tf + i * 5 + 3, none⟩)) TD rfl (by kernel_rfl) (by kernel_rfl) (by kernel_rfl) (fun _ _ _ h => h) (by rfl) (by intro x hx; obtain ⟨y0, y1⟩ := hx; go_simp; try (intro h; omega)) ?_
                                    try simp only [Act.put, List.setIfInBounds_toArray, List.set_cons_zero, List.set_cons_succ]
                                    refine anyH_take 11 190 (.int .i64 s.a) TD rfl (by kernel_rfl) (by kernel_rfl) (by kernel_rfl) (fun _ _ _ h => h) (by rfl) (by intro x hx; obtain ⟨y0, y1⟩ := hx; go_simp; try (intro h; omega)) ?_
                                    try simp only [Act.put, List.setIfInBounds_toArray, List.set_cons_zero, List.set_cons_succ]
                                    refine anyH_take 12 191 (.slice (some ⟨gg, 0, none⟩) m c1Y) TD rfl (by kernel_rfl) (by kernel_rfl) (by kernel_rfl) (fun _ _ _ h => h) (by rfl) (by intro x hx; obtain ⟨y0, y1⟩ := hx; go_simp; try (intro h; omega)) ?_
                                    try simp only [Act.put, List.setIfInBounds_toArray, List.set_cons_zero, List.set_cons_succ]
                                    refine anyH_two 13 17 (by kernel_rfl) ?_ ?_
                                    · refine wpOp_step rfl (fun Kc hKc => ?_)
                                      go_simp
                                      refine ((HGC.out z Stz.out Hxz.out).mono (fun _ _ q => getx_of q)).mono ?_
                                      rintro e6 w6 ⟨u6, m6, d6, rfl, l6, P6, H6, b6⟩
                                      have O6 : Hid (Only bb y2 w6) := Oz.out.trans (only_of_below b6.out)
                                      dsimp only
                                      refine hKc _ _ ⟨HKC.out _ O6.out, ?_⟩
                                      clear hKc Kc
                                      have TE := HKC.out _ O6.out
                                      try simp only [Act.put, List.setIfInBounds_toArray, List.set_cons_zero, List.set_cons_succ]
                                      refine anyH_take 14 178 (.tuple #[Sv s3 u6 m6 d6, .int .i64 fe]) TE rfl (by kernel_rfl) (by kernel_rfl) (by kernel_rfl) (fun _ _ _ h => h) (by rfl) (by intro x hx; obtain ⟨y0, y1⟩ := hx; go_simp; try (intro h; omega)) ?_
                                      try simp only [Act.put, List.setIfInBounds_toArray, List.set_cons_zero, List.set_cons_succ]
                                      refine anyH_take 15 193 (Sv s3 u6 m6 d6) TE rfl (by kernel_rfl) (by kernel_rfl) (by kernel_rfl) (fun _ _ _ h => h) (by rfl) (by intro x hx; obtain ⟨y0, y1⟩ := hx; go_simp; try (intro h; omega)) ?_
                                      try simp only [Act.put, List.setIfInBounds_toArray, List.set_cons_zero, List.set_cons_succ]
                                      refine anyH_take 16 194 (.int .i64 fe) TE rfl (by kernel_rfl) (by kernel_rfl) (by kernel_rfl) (fun _ _ _ h => h) (by rfl) (by intro x hx; obtain ⟨y0, y1⟩ := hx; go_simp; try (intro h; omega)) ?_
                                      try simp only [Act.put, List.setIfInBounds_toArray, List.set_cons_zero, List.set_cons_succ]
                                      refine anyH_one 17 (by kernel_rfl) ?_
                                      refine wpOp_step rfl (fun Kc hKc => ?_)
                                      go_simp
                                      refine hKc _ _ ⟨HKC.out _ (O6.out.alloc _), ?_⟩
                                      clear hKc Kc TE
                                      try simp only [Act.put, List.setIfInBounds_toArray, List.set_cons_zero, List.set_cons_succ]
                                      refine anyH_one 18 (by kernel_rfl) ?_
                                      refine op_store 18 24 (.tmp 22) (.tmp 193) rfl w6.heap.size 0 24 [.int .i64 0, .int .i64 0, .int .i64 0, .int .i64 0, .slice none 0 0] #[.int .i64 s3.k, .int .i64 s3.e, .int .i64 s3.n, .int .i64 s3.a, .slice u6 m6 d6] rfl rfl (heap_alloc_new w6 _) (by rw [ssize]; rfl) (by simp) (by simp [Value.oneCell']) ?_
                                      intro w7 G7 ch7
                                      have O7 : Hid (Only bb y2 w7) := only_newS (O6.out.alloc _) ch7.only O6.out.size
                                      refine ⟨HKC.out _ O7.out, ?_⟩
                                      have TF := HKC.out _ O7.out
                                      have Z7 : Hid (SAt w7 w6.heap.size s3.k s3.e s3.n s3.a u6 m6 d6) := ⟨G7.out⟩
                                      try simp only [Act.put, List.setIfInBounds_toArray, List.set_cons_zero, List.set_cons_succ]
                                      refine anyH_take 19 23 (.int .i64 fe) TF rfl (by kernel_rfl) (by kernel_rfl) (by kernel_rfl) (fun _ _ _ h => h) (by rfl) (by intro x hx; obtain ⟨y0, y1⟩ := hx; go_simp; try (intro h; omega)) ?_
                                      try simp only [Act.put, List.setIfInBounds_toArray, List.set_cons_zero, List.set_cons_succ]
                                      refine anyH_done (by kernel_rfl) ?_ _
                                      clear TF
                                      have B67 : Hid (Below w6.heap.size w6 w7) := ch7.below ((Below.refl _ w6).alloc (Nat.le_refl _) _) (Nat.le_refl _)
                                      have BZ7 : Hid (Below z.heap.size z w7) := b6.out.trans (B67.out.mono b6.out.size)
                                      have H67 : Hid (Bs w7 u6 d6 s3.L) := H6.out.old B67.out
                                      clear ch7 G7 B67
                                      have Hx7 : Hid (Bs w7 (some ⟨gg, 0, none⟩) c1Y Y) := Hxz.out.old BZ7.out
                                      have St7 : Hid (StAt w7 g bb cc T) := Stz.out.old BZ7.out
                                      have O9b := Lib.hid O7.out
                                      by_cases he : fe = 0
                                      · have hP := HEQ.out he
                                        subst hP
                                        subst he
                                        go_wp2
                                        exact ⟨⟨i + 1, by omega, by go_num, O9b.out, St7.out⟩, by simp [intOf]; omega⟩
                                      · have hE1 : (fe == 0) = false := by simpa using he
                                        clear he
                                        go_wp2
                                        exact ⟨⟨i + 1, by omega, by go_num, O9b.out, St7.out⟩, by simp [intOf]; omega⟩
                                    · refine wpOp_step rfl (fun Kc hKc => ?_)
                                      go_simp
                                      change Kc _ (z.alloc (SO 0 0 0 0 none 0 0))
                                      refine hKc _ _ ⟨HKC.out _ (Oz.out.alloc _), ?_⟩
                                      clear hKc Kc TD
                                      have Oa : Hid (Only bb y2 (z.alloc (SO 0 0 0 0 none 0 0))) := (Oz.out.alloc _)
                                      have BA : Hid (Below z.heap.size z (z.alloc (SO 0 0 0 0 none 0 0))) := (Below.refl _ _).alloc (Nat.le_refl _) _
                                      have RA : Hid ((z.alloc (SO 0 0 0 0 none 0 0)).heap[z.heap.size]? = some (SO 0 0 0 0 none 0 0)) := heap_alloc_new _ _
                                      have LA : Hid (z.heap.size < (z.alloc (SO 0 0 0 0 none 0 0)).heap.size) := by show _ < _; simp
                                      have Hxa : Hid (Bs (z.alloc (SO 0 0 0 0 none 0 0)) (some ⟨gg, 0, none⟩) c1Y Y) := Hxz.out.old BA.out
                                      have Sta : Hid (StAt (z.alloc (SO 0 0 0 0 none 0 0)) g bb cc T) := Stz.out.old BA.out
                                      obtain ⟨za, hza⟩ : ∃ x, x = z.alloc (SO 0 0 0 0 none 0 0) := ⟨_, rfl⟩
                                      rw [← hza] at Oa BA RA LA Hxa Sta ⊢
                                      clear hza
                                      try simp only [Act.put, List.setIfInBounds_toArray, List.set_cons_zero, List.set_cons_succ]
                                      have TD := HKC.out _ Oa.out
                                      refine anyH_one 13 (by kernel_rfl) ?_
                                      refine wpOp_step rfl (fun Kc hKc => ?_)
                                      go_simp
                                      refine ((HGC.out za Sta.out Hxa.out).mono (fun _ _ q => getx_of q)).mono ?_
                                      rintro e6 w6 ⟨u6, m6, d6, rfl, l6, P6, H6, b6⟩
                                      have O6 : Hid (Only bb y2 w6) := Oa.out.trans (only_of_below b6.out)
                                      dsimp only
                                      refine hKc _ _ ⟨HKC.out _ O6.out, ?_⟩
                                      clear hKc Kc
                                      have TE := HKC.out _ O6.out
                                      try simp only [Act.put, List.setIfInBounds_toArray, List.set_cons_zero, List.set_cons_succ]
                                      refine anyH_take 14 178 (.tuple #[Sv s3 u6 m6 d6, .int .i64 fe]) TE rfl (by kernel_rfl) (by kernel_rfl) (by kernel_rfl) (fun _ _ _ h => h) (by rfl) (by intro x hx; obtain ⟨y0, y1⟩ := hx; go_simp; try (intro h; omega)) ?_
                                      try simp only [Act.put, List.setIfInBounds_toArray, List.set_cons_zero, List.set_cons_succ]
                                      refine anyH_take 15 193 (Sv s3 u6 m6 d6) TE rfl (by kernel_rfl) (by kernel_rfl) (by kernel_rfl) (fun _ _ _ h => h) (by rfl) (by intro x hx; obtain ⟨y0, y1⟩ := hx; go_simp; try (intro h; omega)) ?_
                                      try simp only [Act.put, List.setIfInBounds_toArray, List.set_cons_zero, List.set_cons_succ]
                                      refine anyH_take 16 194 (.int .i64 fe) TE rfl (by kernel_rfl) (by kernel_rfl) (by kernel_rfl) (fun _ _ _ h => h) (by rfl) (by intro x hx; obtain ⟨y0, y1⟩ := hx; go_simp; try (intro h; omega)) ?_
                                      try simp only [Act.put, List.setIfInBounds_toArray, List.set_cons_zero, List.set_cons_succ]
                                      have R6 : Hid (w6.heap[z.heap.size]? = some (SO 0 0 0 0 none 0 0)) := (b6.out.block _ (lt_of_block RA.out)).trans RA.out
                                      refine anyH_one 18 (by kernel_rfl) ?_
                                      refine op_store 18 24 (.tmp 22) (.tmp 193) rfl z.heap.size 0 24 [.int .i64 0, .int .i64 0, .int .i64 0, .int .i64 0, .slice none 0 0] #[.int .i64 s3.k, .int .i64 s3.e, .int .i64 s3.n, .int .i64 s3.a, .slice u6 m6 d6] rfl rfl R6.out (by rw [ssize]; rfl) (by simp) (by simp [Value.oneCell']) ?_
                                      intro w7 G7 ch7
                                      have O7 : Hid (Only bb y2 w7) := only_newS O6.out ch7.only Oz.out.size
                                      refine ⟨HKC.out _ O7.out, ?_⟩
                                      have TF := HKC.out _ O7.out
                                      have Z7 : Hid (SAt w7 z.heap.size s3.k s3.e s3.n s3.a u6 m6 d6) := ⟨G7.out⟩
                                      try simp only [Act.put, List.setIfInBounds_toArray, List.set_cons_zero, List.set_cons_succ]
                                      refine anyH_take 19 23 (.int .i64 fe) TF rfl (by kernel_rfl) (by kernel_rfl) (by kernel_rfl) (fun _ _ _ h => h) (by rfl) (by intro x hx; obtain ⟨y0, y1⟩ := hx; go_simp; try (intro h; omega)) ?_
                                      try simp only [Act.put, List.setIfInBounds_toArray, List.set_cons_zero, List.set_cons_succ]
                                      refine anyH_done (by kernel_rfl) ?_ _
                                      clear TF
                                      have BZ7 : Hid (Below z.heap.size z w7) := ch7.below (BA.out.trans (b6.out.mono BA.out.size)) (Nat.le_refl _)
                                      have H67 : Hid (Bs w7 u6 d6 s3.L) := bs_own_only H6.out P6.out ch7.only LA.out
                                      clear ch7 G7 R6 RA LA BA Oa Hxa Sta
                                      have Hx7 : Hid (Bs w7 (some ⟨gg, 0, none⟩) c1Y Y) := Hxz.out.old BZ7.out
                                      have St7 : Hid (StAt w7 g bb cc T) := Stz.out.old BZ7.out
                                      have O9b := Lib.hid O7.out
                                      by_cases he : fe = 0
                                      · have hP := HEQ.out he
                                        subst hP
                                        subst he
                                        go_wp2
                                        exact ⟨⟨i + 1, by omega, by go_num, O9b.out, St7.out⟩, by simp [intOf]; omega⟩
                                      · have hE1 : (fe == 0) = false := by simpa using he
                                        clear he
                                        go_wp2
                                        exact ⟨⟨i + 1, by omega, by go_num, O9b.out, St7.out⟩, by simp [intOf]; omega⟩
                                | false =>
                                  clear HC
                                  go_wp2
                                  exact ⟨⟨j + 1, by omega, by go_num, O9.out.trans HO3.out, HST3.out⟩, by simp [intOf]; omega⟩
              · have hjm1 : ¬ (j : Int) < (m : Int) := by omega
                go_wp2_with (go_at_call 8; refine (HKN.out _ (HBW.out _ (O8.out.trans HO2.out))).mono ?_; rintro e9 w9 ⟨rfl, b9⟩)
                go_ret
                exact ⟨rfl, (HBW.out _ (O8.out.trans HO2.out)).trans (b9.mono (HBW.out _ (O8.out.trans HO2.out)).size)⟩
end Go.Proofs.YtkjfhbmdogmecaaDoor

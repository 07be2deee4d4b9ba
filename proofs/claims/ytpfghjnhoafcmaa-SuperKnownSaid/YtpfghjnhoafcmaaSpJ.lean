/-
  The law SuperFound walked.
-/
import Derived.Test.YtpfghjnhoafcmaaSpJ0
import Derived.Test.YtpfghjnhoafcmaaRgX0
import Derived.Test.YtpfghjnhoafcmaaSpRo
namespace Go.Proofs.Ytpfghjnhoafcmaa
open Go.RowKit

namespace Sp
theorem peek_over (m : Dk.M) (L : List Int) : Dk.peek (Dk.over m 0 L) 0 = L := by
  unfold Dk.peek Dk.over upd
  rfl
/-- What is told of laid bytes. -/
theorem rv_tells {S : Nm.St} {T : List (G × Int)} (h : Wr S T) {B : List Int} (hB : Sha.Byt B) :
    (∀ j (hj : j < T.length), (bs S T).getD j [] = B → rv S B = ((T[j]).1, sm S (by_ S (T[j]).1 (T[j]).2), 0)) ∧ ((∀ j, j < T.length → (bs S T).getD j [] ≠ B) → B ≠ [] → rv S B = (zero, Rg.z32, 14)) := by
  obtain ⟨h1, h2⟩ := h.tells hB
  refine ⟨fun j hj hb => ?_, fun hn hne => ?_⟩
  · rw [(tab_at j hj).1] at hb
    have hne : B ≠ [] := fun q => by have := by_len S (T[j]).1 (T[j]).2; rw [hb, q] at this; simp at this
    rw [rv_ok hne (h1 _ (List.getElem_mem hj) hb.symm), hb]
  · refine rv_bad hne ?_
    cases hv : vh S B with
    | none => rfl
    | some g =>
      obtain ⟨x, hx, hb, _⟩ := h2 g hv
      obtain ⟨j, hj, rfl⟩ := List.mem_iff_getElem.1 hx
      exact absurd ((tab_at j hj).1.trans hb.symm) (hn j hj)
theorem rv_len (S : Nm.St) (B : List Int) : (rv S B).2.1.length = 32 := by
  unfold rv
  split
  · exact Rg.oks_z.1
  · split
    · exact Rg.oks_z.1
    · exact sm_len _ _
theorem bs_le (S : Nm.St) (T : List (G × Int)) (j : Nat) : ((bs S T).getD j []).length ≤ 73 := by
  by_cases h : j < T.length
  · rw [(tab_at j h).1, by_len]; omega
  · rw [List.getD_eq_getElem?_getD, List.getElem?_eq_none (by rw [bs_len]; omega)]
    exact Nat.zero_le _
theorem by_byt (S : Nm.St) (g : G) (e : Int) : Sha.Byt (by_ S g e) := by
  unfold by_ Sc.bys sec
  exact Sha.byt_append (Sc.fr_byt (k := 1) (by omega) _ _) (Sha.byt_append (pt_byt g) (Nm.tg_byt _ _ (by omega)))
theorem bs_byt (S : Nm.St) (T : List (G × Int)) : ∀ j, j < T.length → Sha.Byt ((bs S T).getD j []) := fun j hj => by
  rw [(tab_at j hj).1]
  exact by_byt S _ _
end Sp
theorem blk_of {a b n m c d : Nat} (h : Value.slice (some ⟨a, 0, none⟩) n c = Value.slice (some ⟨b, 0, none⟩) m d) : a = b := by
  injection h with h _ _
  injection h with h
  injection h with h
set_option maxHeartbeats 16000000 in
set_option maxRecDepth 100000 in
theorem found_any (L : List Sp.G) (p0 : Option Addr) (n0 c0 : Nat) (hn0 : L.length = n0) (E : List Int) (p1 : Option Addr) (n1 c1 : Nat) (hn1 : E.length = n1) (B : List Int) (p2 : Option Addr) (n2 c2 : Nat) (hn2 : B.length = n2) (bk : Int) (w : World) (h0 : Gs w p0 L) (h1 : IAt w p1 E) (h2 : Bs w p2 c2 B) :
    Calls Try.prog 5 #[.slice p0 n0 c0, .slice p1 n1 c1, .slice p2 n2 c2, .int .i64 bk] w (YesSay w) := by
  have HKN : Hid (∀ y, Calls Try.prog 18 #[] y (YesSay y)) := fun y => sknown_any y
  by_cases hl0 : (n2 : Int) > 2048
  · go_enter Try.func5, Try.ntmps5
    go_wp2_with (first
      | (go_at_call 9; refine (new4 5 (by omega) (by omega) _).mono ?_; rintro e1 w1 ⟨d, lb, rb, cb, rfl, hd1, hb1⟩; have HB1 := Lib.hid hb1)
      | (go_at_call 10; refine (new_any _).mono ?_; rintro e2 w2 ⟨g, b, c, rfl, hg2, hs2, hb2⟩; have HB2 := Lib.hid (HB1.out.trans (hb2.mono HB1.out.size)))
      | (go_at_call 18; refine (HKN.out _).mono ?_; rintro e3 w3 ⟨rfl, hb3⟩; have HB3 := Lib.hid (HB2.out.trans (hb3.mono HB2.out.size))))
    go_ret
    exact ⟨rfl, HB3.out⟩
  obtain ⟨N, hN⟩ : ∃ N, N = min n0 20 := ⟨_, rfl⟩
  have hNM : N ≤ n0 := by omega
  have hN2 : N ≤ 20 := by omega
  have HNN : Hid (∀ k : Nat, k < n0 → k < 20 → k < N) := fun k h1 h2 => by omega
  have hn4 : n2 ≤ 2048 := by omega
  have HGE : Hid (∀ k, k < N → ∃ ab ao, p0 = some ⟨ab, ao, none⟩ ∧ ∀ y, Below w.heap.size w y → y.rangeAt ab (ao + k * 3) (GA (L.getD k Sp.zero)).toList) := fun k hk => by
    obtain ⟨ab, ao, q1, q2⟩ := h0.at_ (by omega)
    exact ⟨ab, ao, q1, fun y hy => rng_old (q2 k (by omega)) hy⟩
  have HGO : Hid (∀ k, k < N → Sp.Ok (L.getD k Sp.zero)) := fun k hk => h0.ok _ (by rw [List.getD_eq_getElem?_getD, List.getElem?_eq_getElem (by omega)]; exact List.getElem_mem _)
  have HEE : Hid (∀ k, k < n1 → ∃ eb eo, p1 = some ⟨eb, eo, none⟩ ∧ ∀ y, Below w.heap.size w y → y.cell? ⟨eb, eo + k, none⟩ = some (.int .i64 (E.getD k 0))) := fun k hk => by
    obtain ⟨eb, eo, q1, q2⟩ := h1 (by omega)
    exact ⟨eb, eo, q1, fun y hy => (hy.cell (World.block_lt_of_cell? _ _ (q2 k (by omega)))).trans (q2 k (by omega))⟩
  have HBB : Hid (∀ y, Below w.heap.size w y → Bs y p2 c2 B) := fun y hy => h2.old hy
  have HBL : Hid (B.length = n2) := hn2
  clear h0 h1 h2 hn0 hn1 hn2 hN
  obtain ⟨Z, hZ⟩ : ∃ Z, Hid (GA ⟨0, 0, 0⟩ = Z) := ⟨_, rfl⟩
  have HZS : Hid (Z.size = 3) := by show _ = _; rw [← hZ.out]; rfl
  have HZ1 : Hid (Z.all (·.oneCell') = true) := by show _ = _; rw [← hZ.out]; simp [GA, Value.oneCell']
  have hz := (zero_of_info Try.zeroGeo).1
  have HBT := Lib.hid Try.builtGeo
  rw [hZ.out] at hz HBT
  have hzn : ¬ Z = #[] := fun h => by have := HZS.out; rw [h] at this; simp at this
  have hsz := row_size Try.sizeGeo HZS
  have HZV : Hid (GV Sp.zero = .agg Z) := by show _ = _; rw [← hZ.out, Sp.zero_is]; rfl
  clear hZ
  obtain ⟨S0, hS0⟩ : ∃ S0, Hid (sA Rg.z32 = S0) := ⟨_, rfl⟩
  have HSS : Hid (S0.size = 32) := by show _ = _; rw [← hS0.out]; exact sa_size z32_len
  have HS1 : Hid (S0.all (·.oneCell') = true) := by show _ = _; rw [← hS0.out]; exact sa_one _
  have hzs := (zero_of_info Try.zeroSumS).1
  have HBS := Lib.hid Try.builtSumS
  rw [hS0.out] at hzs HBS
  have hzsn : ¬ S0 = #[] := fun h => by have := HSS.out; rw [h] at this; simp at this
  have hszs := row_size Try.sizeSum HSS
  have HSV : Hid (A32 Rg.z32 = .agg S0) := by show _ = _; rw [← hS0.out, a32_is]
  clear hS0
  go_enter Try.func5, Try.ntmps5
  go_upto_region 5 with (first
    | (go_at_call 9; refine (new4 5 (by omega) (by omega) _).mono ?_; rintro e1 w1 ⟨d, lb, rb, cb, rfl, hd1, hb1⟩; have HB1 := Lib.hid hb1)
    | (go_at_call 10; refine (new_any _).mono ?_; rintro e2 w2 ⟨g, b, c, rfl, hg2, hs2, hb2⟩; have HV2 : Hid (Vu w w2.heap.size w2 d g (Dk.fresh 5) Nm.St.none) := vu_make hd1.out HB1.out hs2.out hg2.out hb2))
  clear hd1 hs2 hg2 hb2 hb1 HB1 hl0
  generalize w2.heap.size = K at *
  go_wp2
  go_loopw [12, 13, 14, 15] (fun v12 v13 v14 v15 wr => ∃ (k : Nat) (T : List (Sp.G × Int)) (S : Nm.St) (m : Dk.M), k ≤ N ∧ v15 = .int .i64 (k : Int) ∧ Hid (Rw K wr v12 (Sp.bs S T)) ∧ Hid (Fl K 54 3 wr v13 (Sp.gs T)) ∧ Hid (Fl K 34 32 wr v14 (Sp.ms S T)) ∧ Hid (Sp.Wr S T) ∧ Hid (Vu w K wr d g m S) ∧ Hid (Dk.Up m 5 ∧ m.wr ≤ k ∧ (∀ j, m.rd j ≤ 2 * k) ∧ S.ss.length ≤ k ∧ S.ts.length ≤ k ∧ T.length ≤ k)) (fun _ _ _ v15 _ => N - (intOf v15).toNat)
  case atStart => exact ⟨0, [], Nm.St.none, Dk.fresh 5, by omega, rfl, by unfold Sp.bs; exact rw_nil _ _, by unfold Sp.gs; exact fl_nil _ _ _ _, by unfold Sp.ms; exact fl_nil _ _ _ _, Sp.wr_none, HV2.out, ⟨Dk.Up.fresh 5, Nat.le_refl _, fun j => Nat.le_refl _, Nat.le_refl _, Nat.le_refl _, Nat.le_refl _⟩⟩
  case round =>
    obtain ⟨k, T, S, m, hk, rfl, HR, HG, HQ, HW, HV, HC⟩ := hrel
    obtain ⟨q12, d12, hv12⟩ := HR.out.len
    obtain ⟨q13, d13, hv13⟩ := HG.out.len
    obtain ⟨q14, d14, hv14⟩ := HQ.out.len
    rw [Sp.bs_len] at hv12
    rw [Sp.gs_len] at hv13
    rw [Sp.ms_len] at hv14
    subst hv12
    subst hv13
    subst hv14
    go_upto_region 9 with (fail)
    go_cut [49] from 42 to 114 (fun v49 y => v49 = .bool (decide (k < N)) ∧ Hid (wr = y))
    case first =>
      by_cases h1 : (k : Int) < (n0 : Int)
      · by_cases h2 : (k : Int) < 20
        · go_wp2
          go_meet
          case rel => exact ⟨by rw [decide_eq_true (HNN.out k (by omega) (by omega))], rfl⟩
        · go_wp2
          go_meet
          case rel => exact ⟨by rw [decide_eq_false (show ¬ k < N by omega)], rfl⟩
      · go_wp2
        go_meet
        case rel => exact ⟨by rw [decide_eq_false (show ¬ k < N by omega)], rfl⟩
    case rest =>
      obtain ⟨rfl, hwc⟩ := hcut
      have hwc := hwc.out
      subst hwc
      clear HV2
      by_cases hlt : k < N
      · rw [decide_eq_true hlt]
        as_aux_lemma =>
          have hk0 : (0 : Int) ≤ (k : Int) := by omega
          have hkM : (k : Int) < (n0 : Int) := by omega
          obtain ⟨ab, ao, htp, hrg⟩ := HGE.out k hlt
          subst htp
          have HRG := Lib.hid hrg
          have HGK := Lib.hid (HGO.out k hlt)
          obtain ⟨gg, hgg⟩ : ∃ x, L.getD k Sp.zero = x := ⟨_, rfl⟩
          rw [hgg] at HRG HGK
          clear hrg hgg
          obtain ⟨A, eA, hA⟩ := gk gg
          have eA2 : GA gg = A := by unfold GV at eA; injection eA
          have HAS := Lib.hid hA.size
          have HA1 := Lib.hid hA.one
          have HEA := Lib.hid eA
          rw [eA2] at HRG
          have HGG : Hid (Sp.gs T ++ [A] = Sp.gs T ++ [GA gg]) := by show _ = _; rw [eA2]
          have HGQ : Hid (∀ y, (Op.equalIn 10000 54 (.agg A) (.agg A)).run Try.prog y = .ok true y) := fun y => by have h := geo_eq gg gg y; rw [decide_eq_true rfl, eA] at h; exact h
          clear eA eA2 hA
          by_cases hk1 : (k : Int) < (n1 : Int)
          · obtain ⟨eb, eo, hpe, hec⟩ := HEE.out k (by omega)
            subst hpe
            have c16 := hec wr HV.out.low
            obtain ⟨e, he⟩ : ∃ e, E.getD k 0 = e := ⟨_, rfl⟩
            rw [he] at c16
            clear he hec
            go_upto_region 14 with (fail)
            have HRW : Hid (wr.rangeAt ab (ao + k * 3) A.toList) := HRG.out wr HV.out.low
            have HWR := Lib.hid (vu_write gg e HC.out.1 HV.out (by have := HC.out.2.1; omega) (by have := HC.out.2.2.2.1; omega) (by have := HC.out.2.2.2.2.1; omega))
            rw [HEA.out, a32_is] at HWR
            have HLS := Lib.hid (Sp.vS_ss S gg e)
            by_cases hok : Sp.okw gg e
            · obtain ⟨hwm, hws⟩ := Sp.wM_ok (m := m) (S := S) hok
              have hwn := Sp.wv_ok (S := S) hok
              rw [hwm, hws, hwn] at HWR
              rw [hws] at HLS
              have HW1 := Lib.hid (HW.out.add HGK.out hok.1 hok.2)
              have HU1 : Hid (Dk.Up (Dk.put m 0 (Sp.by_ (Sp.vS S gg e) gg e)) 5) := HC.out.1.put _ _
              have HPK : Hid (Dk.peek (Dk.put m 0 (Sp.by_ (Sp.vS S gg e) gg e)) 0 = Sp.by_ (Sp.vS S gg e) gg e) := by show _ = _; rw [Rg.peek_put, if_pos rfl]
              have HRB := Lib.hid (Sp.rv_back HW.out HGK.out hok)
              have HBL2 := Lib.hid (Sp.by_len (Sp.vS S gg e) gg e)
              have HWV : Hid (sA (Sp.sm (Sp.vS S gg e) (Sp.by_ (Sp.vS S gg e) gg e)) = sA (Sp.wv S gg e).1) := by show _ = _; unfold Sp.wv; rw [if_pos hok]
              have hQL := Sp.wv_len S gg e
              have HQS := Lib.hid (sa_size hQL)
              have HQ1 := Lib.hid (sa_one (Sp.wv S gg e).1)
              have HQQ : Hid (∀ y, (Op.equalIn 10000 34 (.agg (sA (Sp.wv S gg e).1)) (.agg (sA (Sp.wv S gg e).1))).run Try.prog y = .ok true y) := fun y => by have h := a32_eq _ _ hQL hQL y; rw [decide_eq_true rfl] at h; exact h
              have HRQ := Lib.hid (a32_is (Sp.wv S gg e).1)
              have HBA := Lib.hid (Sp.bs_add HW.out gg e)
              have HMA := Lib.hid (Sp.ms_add HW.out gg e)
              have HGA := Lib.hid (Sp.gs_add T gg e)
              rw [HWV.out] at HMA
              rw [← HGG.out] at HGA
              have HM1 : Hid ((Dk.put m 0 (Sp.by_ (Sp.vS S gg e) gg e)).wr ≤ k + 1 ∧ (∀ j, (Dk.put m 0 (Sp.by_ (Sp.vS S gg e) gg e)).rd j ≤ 2 * k)) := ⟨by have := HC.out.2.1; show m.wr + 1 ≤ _; omega, HC.out.2.2.1⟩
              have HCN : Hid ((Sp.vS S gg e).ss.length ≤ k + 1 ∧ (Sp.vS S gg e).ts.length ≤ k + 1 ∧ (T ++ [(gg, e)]).length ≤ k + 1) := ⟨by have := HLS.out.1; have := HC.out.2.2.2.1; omega, by have := HLS.out.2; have := HC.out.2.2.2.2.1; omega, by rw [List.length_append]; have := HC.out.2.2.2.2.2; show _ + 1 ≤ _; omega⟩
              have HTN : Hid (T.length + 1 = (T ++ [(gg, e)]).length) := by show _ = _; rw [List.length_append]; rfl
              have HTL := Lib.hid HC.out.2.2.2.2.2
              clear hwm hws hwn hok hQL HWV HLS HC HGG HW
              generalize Dk.put m 0 (Sp.by_ (Sp.vS S gg e) gg e) = m1 at *
              generalize Sp.by_ (Sp.vS S gg e) gg e = By at *
              generalize Sp.vS S gg e = S1 at *
              generalize sA (Sp.wv S gg e).1 = Q at *
              go_upto_region 16 with (first
                | ((with_reducible refine rng_load _ _ ab (ao + k * 3) A _ ?_ HRW.out Try.underlying54 ?_ (row_size Try.sizeGeo HAS) ?_); (exact rfl); (exact rfl))
                | (go_at_call 26; refine HWR.out.mono ?_; rintro e3 w3 ⟨rfl, HV3, HK3⟩)
                | ((with_reducible refine row_store _ _ _ _ _ _ _ ?_ ?_ (heap_alloc_new _ _) (row_size Try.sizeSum HQS) ?_ HQ1.out ?_); (exact rfl); (exact rfl); (rw [HQS.out, HSS.out]); intro w4 G4 ch4))
              have B34 : Hid (Below w3.heap.size w3 w4) := ch4.below ((Below.refl _ w3).alloc (Nat.le_refl _) _) (Nat.le_refl _)
              have HV4 := Lib.hid (HV3.out.old B34.out)
              have K4 : Hid (Kp K wr w4) := HK3.out.trans (Kp.of_below B34.out)
              have HKB : Hid (K ≤ w3.heap.size) := HV3.out.size
              obtain ⟨b17, hb17⟩ : ∃ b, w3.heap.size = b := ⟨_, rfl⟩
              rw [hb17] at G4 HKB ⊢
              clear hb17 ch4 B34 HV3 HK3 HWR HRW
              have HDR := Lib.hid (vu_disk 0 (fun j => by have := HM1.out.2 j; omega) HV4.out)
              have hrx : Dk.rdX m1 0 = By := (HU1.out.rd 0 (by omega)).2.1.trans HPK.out
              unfold VuRd at HDR
              rw [hrx, HBL2.out] at HDR
              obtain ⟨hu2, hp2, hw2, hr2⟩ := Sp.up_rd HU1.out 0
              have HU2 := Lib.hid hu2
              have HP2 : Hid (Dk.peek (Dk.rdM m1 0) 0 = By) := (hp2 0).trans HPK.out
              have HM2 : Hid ((Dk.rdM m1 0).wr ≤ k + 1 ∧ ∀ j, (Dk.rdM m1 0).rd j ≤ 2 * k + 1) := ⟨by rw [hw2]; exact HM1.out.1, fun j => by have := hr2 j; have := HM1.out.2 j; omega⟩
              clear hrx hu2 hp2 hw2 hr2 HU1 HPK HM1
              generalize Dk.rdM m1 0 = m2 at *
              go_upto_region 17 with (go_at_call 17; refine HDR.out.mono ?_; rintro e5 w5 ⟨p5, c5, rfl, HO5, HB5, HV5, HK5⟩)
              have K5 : Hid (Kp K wr w5) := K4.out.trans HK5.out
              have G5 : Hid (w5.heap[b17]? = some (.cells Q 34 (0, 0))) := (HK5.out.block _ HKB.out (lt_of_block G4.out)).trans G4.out
              have HO5' : Hid (w5.ownsRow K 5 1 (.slice p5 73 c5) 73 (U8s By)) := own_base HO5.out HV4.out.size
              have HRR := Lib.hid (vu_read HW1.out HU2.out HV5.out (fun j => by have := HM2.out.2 j; omega) (by have := HCN.out.2.1; omega))
              unfold VuRr at HRR
              rw [HP2.out, HRB.out] at HRR
              dsimp only at HRR
              rw [HEA.out, HRQ.out] at HRR
              obtain ⟨hu3, hp3, hw3, hr3⟩ := Sp.up_rd HU2.out 0
              have HU3 := Lib.hid hu3
              have HM3 : Hid ((Dk.rdM m2 0).wr ≤ k + 1 ∧ ∀ j, (Dk.rdM m2 0).rd j ≤ 2 * (k + 1)) := ⟨by rw [hw3]; exact HM2.out.1, fun j => by have := hr3 j; have := HM2.out.2 j; omega⟩
              clear hu3 hp3 hw3 hr3 HU2 HP2 HM2 HDR HV4 K4 HO5 HB5 HK5 G4 HRB HBL2
              generalize Dk.rdM m2 0 = m3 at *
              go_upto_region 18 with (first
                | (go_at_call 27; refine HRR.out.mono ?_; rintro e6 w6 ⟨rfl, HV6, HK6⟩)
                | ((with_reducible refine row_store _ _ _ _ _ _ _ ?_ ?_ (heap_alloc2_old _ _ _) (row_size Try.sizeGeo HAS) ?_ HA1.out ?_); (exact rfl); (exact rfl); (rw [HAS.out, HZS.out]); intro wg6 Gg6 cg6)
                | ((with_reducible refine row_store _ _ _ _ _ _ _ ?_ ?_ ((cg6.block _ (by simp)).trans (heap_alloc2_new _ _ _)) (row_size Try.sizeSum HQS) ?_ HQ1.out ?_); (exact rfl); (exact rfl); (rw [HQS.out, HSS.out]); intro ws6 Gs6 cs6))
              have Bt6 : Hid (Below w6.heap.size w6 ws6) := cs6.below (cg6.below (((Below.refl _ w6).alloc (Nat.le_refl _) _).alloc (by simp) _) (Nat.le_refl _)) (by simp)
              have Gh6 : Hid (ws6.heap[w6.heap.size]? = some (.cells A 54 (0, 0))) := (cs6.block _ (by simp)).trans Gg6.out
              have Kt6 : Hid (Kp K w5 ws6) := HK6.out.trans (Kp.of_below Bt6.out)
              have HV7 := Lib.hid (HV6.out.old Bt6.out)
              have K7 : Hid (Kp K wr ws6) := K5.out.trans Kt6.out
              have G17 : Hid (ws6.heap[b17]? = some (.cells Q 34 (0, 0))) := (Kt6.out.block _ HKB.out (lt_of_block G5.out)).trans G5.out
              have HO7 := Lib.hid (own_kp HO5'.out Kt6.out (Nat.le_refl _))
              have HRX : Hid (ws6.rangeAt ab (ao + k * 3) A.toList) := HRG.out _ HV7.out.low
              have Gs6' := Gs6.out
              have HSZ : Hid (w6.heap.size + 1 < ws6.heap.size) := lt_of_block Gs6.out
              have HKX : Hid (K ≤ ws6.heap.size) := HV7.out.size
              clear HV5 HV6 HK6 Kt6 Bt6 Gg6 cg6 cs6 K5 HO5' G5 HRR HKB
              generalize w6.heap.size = b21 at *
              refine wp_region_any (by kernel_rfl) ?_
              change wpAny _ _ _ _ _ _ _ (World.drew _)
              have Vz : Hid (Vu w K ws6.drew d g m3 S1) := HV7.out.old (Below.refl _ ws6).drew
              have Kz : Hid (Kp K wr ws6.drew) := K7.out.trans (Kp.of_below (Below.refl _ ws6).drew)
              have G17z : Hid (ws6.drew.heap[b17]? = some (.cells Q 34 (0, 0))) := G17.out
              have G21z : Hid (ws6.drew.heap[b21]? = some (.cells A 54 (0, 0))) := Gh6.out
              have G22z : Hid (ws6.drew.heap[b21 + 1]? = some (.cells Q 34 (0, 0))) := Gs6.out
              have Oz : Hid (ws6.drew.ownsRow K 5 1 (.slice p5 73 c5) 73 (U8s By)) := HO7.out
              have Rz : Hid (ws6.drew.rangeAt ab (ao + k * 3) A.toList) := HRX.out
              have Sz : Hid (K ≤ ws6.drew.heap.size) := HKX.out
              obtain ⟨z, hz'⟩ : ∃ x, x = ws6.drew := ⟨_, rfl⟩
              rw [← hz'] at Vz Kz G17z G21z G22z Oz Rz Sz ⊢
              clear hz' HV7 K7 G17 HO7 HRX Gs6' HSZ HKX Gh6 Gs6
              have he1 := HGQ.out
              have he2 := HQQ.out
              refine wpAny_of_held (S := fun y => y.heap[b21]? = some (.cells A 54 (0, 0)) ∧ y.rangeAt ab (ao + k * 3) A.toList ∧ y.heap[b21 + 1]? = some (.cells Q 34 (0, 0)) ∧ y.heap[b17]? = some (.cells Q 34 (0, 0))) _ _ _ _ ?_
              have SD : z.heap[b21]? = some (.cells A 54 (0, 0)) ∧ z.rangeAt ab (ao + k * 3) A.toList ∧ z.heap[b21 + 1]? = some (.cells Q 34 (0, 0)) ∧ z.heap[b17]? = some (.cells Q 34 (0, 0)) := ⟨G21z.out, Rz.out, G22z.out, G17z.out⟩
              refine anyH_take 0 88 (.int .i64 0) SD rfl (by kernel_rfl) (by kernel_rfl) (by kernel_rfl) (fun _ _ _ h => h) (by rfl) (by intro x hx; have y0 := hx; (first | exact exec_arr 54 (.tmp 21) b21 0 A _ rfl (row_rng hx.1) Try.underlying54 rfl (row_size Try.sizeGeo HAS) | exact exec_arr 54 (.tmp 94) ab (ao + k * 3) A _ rfl hx.2.1 Try.underlying54 rfl (row_size Try.sizeGeo HAS) | exact exec_arr 34 (.tmp 22) (b21 + 1) 0 Q _ rfl (row_rng hx.2.2.1) Try.underlying34 rfl (row_size Try.sizeSum HQS) | exact exec_arr 34 (.tmp 17) b17 0 Q _ rfl (row_rng hx.2.2.2) Try.underlying34 rfl (row_size Try.sizeSum HQS) | go_simp); try (intro h; omega)) ?_
              try simp only [Act.put, List.setIfInBounds_toArray, List.set_cons_zero, List.set_cons_succ]
              refine anyH_take 1 89 (.bool false) SD rfl (by kernel_rfl) (by kernel_rfl) (by kernel_rfl) (fun _ _ _ h => h) (by rfl) (by intro x hx; have y0 := hx; (first | exact exec_arr 54 (.tmp 21) b21 0 A _ rfl (row_rng hx.1) Try.underlying54 rfl (row_size Try.sizeGeo HAS) | exact exec_arr 54 (.tmp 94) ab (ao + k * 3) A _ rfl hx.2.1 Try.underlying54 rfl (row_size Try.sizeGeo HAS) | exact exec_arr 34 (.tmp 22) (b21 + 1) 0 Q _ rfl (row_rng hx.2.2.1) Try.underlying34 rfl (row_size Try.sizeSum HQS) | exact exec_arr 34 (.tmp 17) b17 0 Q _ rfl (row_rng hx.2.2.2) Try.underlying34 rfl (row_size Try.sizeSum HQS) | go_simp); try (intro h; omega)) ?_
              try simp only [Act.put, List.setIfInBounds_toArray, List.set_cons_zero, List.set_cons_succ]
              refine anyH_take 2 90 (.bool false) SD rfl (by kernel_rfl) (by kernel_rfl) (by kernel_rfl) (fun _ _ _ h => h) (by rfl) (by intro x hx; have y0 := hx; (first | exact exec_arr 54 (.tmp 21) b21 0 A _ rfl (row_rng hx.1) Try.underlying54 rfl (row_size Try.sizeGeo HAS) | exact exec_arr 54 (.tmp 94) ab (ao + k * 3) A _ rfl hx.2.1 Try.underlying54 rfl (row_size Try.sizeGeo HAS) | exact exec_arr 34 (.tmp 22) (b21 + 1) 0 Q _ rfl (row_rng hx.2.2.1) Try.underlying34 rfl (row_size Try.sizeSum HQS) | exact exec_arr 34 (.tmp 17) b17 0 Q _ rfl (row_rng hx.2.2.2) Try.underlying34 rfl (row_size Try.sizeSum HQS) | go_simp); try (intro h; omega)) ?_
              try simp only [Act.put, List.setIfInBounds_toArray, List.set_cons_zero, List.set_cons_succ]
              refine anyH_take 3 91 (.agg A) SD rfl (by kernel_rfl) (by kernel_rfl) (by kernel_rfl) (fun _ _ _ h => h) (by rfl) (by intro x hx; have y0 := hx; (first | exact exec_arr 54 (.tmp 21) b21 0 A _ rfl (row_rng hx.1) Try.underlying54 rfl (row_size Try.sizeGeo HAS) | exact exec_arr 54 (.tmp 94) ab (ao + k * 3) A _ rfl hx.2.1 Try.underlying54 rfl (row_size Try.sizeGeo HAS) | exact exec_arr 34 (.tmp 22) (b21 + 1) 0 Q _ rfl (row_rng hx.2.2.1) Try.underlying34 rfl (row_size Try.sizeSum HQS) | exact exec_arr 34 (.tmp 17) b17 0 Q _ rfl (row_rng hx.2.2.2) Try.underlying34 rfl (row_size Try.sizeSum HQS) | go_simp); try (intro h; omega)) ?_
              try simp only [Act.put, List.setIfInBounds_toArray, List.set_cons_zero, List.set_cons_succ]
              refine anyH_take 4 92 (.slice (some ⟨ab, ao, none⟩) n0 c0) SD rfl (by kernel_rfl) (by kernel_rfl) (by kernel_rfl) (fun _ _ _ h => h) (by rfl) (by intro x hx; have y0 := hx; (first | exact exec_arr 54 (.tmp 21) b21 0 A _ rfl (row_rng hx.1) Try.underlying54 rfl (row_size Try.sizeGeo HAS) | exact exec_arr 54 (.tmp 94) ab (ao + k * 3) A _ rfl hx.2.1 Try.underlying54 rfl (row_size Try.sizeGeo HAS) | exact exec_arr 34 (.tmp 22) (b21 + 1) 0 Q _ rfl (row_rng hx.2.2.1) Try.underlying34 rfl (row_size Try.sizeSum HQS) | exact exec_arr 34 (.tmp 17) b17 0 Q _ rfl (row_rng hx.2.2.2) Try.underlying34 rfl (row_size Try.sizeSum HQS) | go_simp); try (intro h; omega)) ?_
              try simp only [Act.put, List.setIfInBounds_toArray, List.set_cons_zero, List.set_cons_succ]
              refine anyH_take 5 93 (.int .i64 (k : Int)) SD rfl (by kernel_rfl) (by kernel_rfl) (by kernel_rfl) (fun _ _ _ h => h) (by rfl) (by intro x hx; have y0 := hx; (first | exact exec_arr 54 (.tmp 21) b21 0 A _ rfl (row_rng hx.1) Try.underlying54 rfl (row_size Try.sizeGeo HAS) | exact exec_arr 54 (.tmp 94) ab (ao + k * 3) A _ rfl hx.2.1 Try.underlying54 rfl (row_size Try.sizeGeo HAS) | exact exec_arr 34 (.tmp 22) (b21 + 1) 0 Q _ rfl (row_rng hx.2.2.1) Try.underlying34 rfl (row_size Try.sizeSum HQS) | exact exec_arr 34 (.tmp 17) b17 0 Q _ rfl (row_rng hx.2.2.2) Try.underlying34 rfl (row_size Try.sizeSum HQS) | go_simp); try (intro h; omega)) ?_
              try simp only [Act.put, List.setIfInBounds_toArray, List.set_cons_zero, List.set_cons_succ]
              refine anyH_take 6 94 (.pointer (some ⟨ab, (ao + k * 3), none⟩)) SD rfl (by kernel_rfl) (by kernel_rfl) (by kernel_rfl) (fun _ _ _ h => h) (by rfl) (by intro x hx; have y0 := hx; (first | exact exec_arr 54 (.tmp 21) b21 0 A _ rfl (row_rng hx.1) Try.underlying54 rfl (row_size Try.sizeGeo HAS) | exact exec_arr 54 (.tmp 94) ab (ao + k * 3) A _ rfl hx.2.1 Try.underlying54 rfl (row_size Try.sizeGeo HAS) | exact exec_arr 34 (.tmp 22) (b21 + 1) 0 Q _ rfl (row_rng hx.2.2.1) Try.underlying34 rfl (row_size Try.sizeSum HQS) | exact exec_arr 34 (.tmp 17) b17 0 Q _ rfl (row_rng hx.2.2.2) Try.underlying34 rfl (row_size Try.sizeSum HQS) | go_simp); try (intro h; omega)) ?_
              try simp only [Act.put, List.setIfInBounds_toArray, List.set_cons_zero, List.set_cons_succ]
              refine anyH_take 7 95 (.agg A) SD rfl (by kernel_rfl) (by kernel_rfl) (by kernel_rfl) (fun _ _ _ h => h) (by rfl) (by intro x hx; have y0 := hx; (first | exact exec_arr 54 (.tmp 21) b21 0 A _ rfl (row_rng hx.1) Try.underlying54 rfl (row_size Try.sizeGeo HAS) | exact exec_arr 54 (.tmp 94) ab (ao + k * 3) A _ rfl hx.2.1 Try.underlying54 rfl (row_size Try.sizeGeo HAS) | exact exec_arr 34 (.tmp 22) (b21 + 1) 0 Q _ rfl (row_rng hx.2.2.1) Try.underlying34 rfl (row_size Try.sizeSum HQS) | exact exec_arr 34 (.tmp 17) b17 0 Q _ rfl (row_rng hx.2.2.2) Try.underlying34 rfl (row_size Try.sizeSum HQS) | go_simp); try (intro h; omega)) ?_
              try simp only [Act.put, List.setIfInBounds_toArray, List.set_cons_zero, List.set_cons_succ]
              refine anyH_take 8 96 (.bool false) SD rfl (by kernel_rfl) (by kernel_rfl) (by kernel_rfl) (fun _ _ _ h => h) (by rfl) (by intro x hx; have y0 := hx; (first | exact exec_arr 54 (.tmp 21) b21 0 A _ rfl (row_rng hx.1) Try.underlying54 rfl (row_size Try.sizeGeo HAS) | exact exec_arr 54 (.tmp 94) ab (ao + k * 3) A _ rfl hx.2.1 Try.underlying54 rfl (row_size Try.sizeGeo HAS) | exact exec_arr 34 (.tmp 22) (b21 + 1) 0 Q _ rfl (row_rng hx.2.2.1) Try.underlying34 rfl (row_size Try.sizeSum HQS) | exact exec_arr 34 (.tmp 17) b17 0 Q _ rfl (row_rng hx.2.2.2) Try.underlying34 rfl (row_size Try.sizeSum HQS) | go_simp); try (intro h; omega)) ?_
              try simp only [Act.put, List.setIfInBounds_toArray, List.set_cons_zero, List.set_cons_succ]
              refine anyH_take 9 97 (.bool false) SD rfl (by kernel_rfl) (by kernel_rfl) (by kernel_rfl) (fun _ _ _ h => h) (by rfl) (by intro x hx; have y0 := hx; (first | exact exec_arr 54 (.tmp 21) b21 0 A _ rfl (row_rng hx.1) Try.underlying54 rfl (row_size Try.sizeGeo HAS) | exact exec_arr 54 (.tmp 94) ab (ao + k * 3) A _ rfl hx.2.1 Try.underlying54 rfl (row_size Try.sizeGeo HAS) | exact exec_arr 34 (.tmp 22) (b21 + 1) 0 Q _ rfl (row_rng hx.2.2.1) Try.underlying34 rfl (row_size Try.sizeSum HQS) | exact exec_arr 34 (.tmp 17) b17 0 Q _ rfl (row_rng hx.2.2.2) Try.underlying34 rfl (row_size Try.sizeSum HQS) | go_simp); try (intro h; omega)) ?_
              try simp only [Act.put, List.setIfInBounds_toArray, List.set_cons_zero, List.set_cons_succ]
              refine anyH_take 10 98 (.bool false) SD rfl (by kernel_rfl) (by kernel_rfl) (by kernel_rfl) (fun _ _ _ h => h) (by rfl) (by intro x hx; have y0 := hx; (first | exact exec_arr 54 (.tmp 21) b21 0 A _ rfl (row_rng hx.1) Try.underlying54 rfl (row_size Try.sizeGeo HAS) | exact exec_arr 54 (.tmp 94) ab (ao + k * 3) A _ rfl hx.2.1 Try.underlying54 rfl (row_size Try.sizeGeo HAS) | exact exec_arr 34 (.tmp 22) (b21 + 1) 0 Q _ rfl (row_rng hx.2.2.1) Try.underlying34 rfl (row_size Try.sizeSum HQS) | exact exec_arr 34 (.tmp 17) b17 0 Q _ rfl (row_rng hx.2.2.2) Try.underlying34 rfl (row_size Try.sizeSum HQS) | go_simp); try (intro h; omega)) ?_
              try simp only [Act.put, List.setIfInBounds_toArray, List.set_cons_zero, List.set_cons_succ]
              refine anyH_take 11 99 (.agg Q) SD rfl (by kernel_rfl) (by kernel_rfl) (by kernel_rfl) (fun _ _ _ h => h) (by rfl) (by intro x hx; have y0 := hx; (first | exact exec_arr 54 (.tmp 21) b21 0 A _ rfl (row_rng hx.1) Try.underlying54 rfl (row_size Try.sizeGeo HAS) | exact exec_arr 54 (.tmp 94) ab (ao + k * 3) A _ rfl hx.2.1 Try.underlying54 rfl (row_size Try.sizeGeo HAS) | exact exec_arr 34 (.tmp 22) (b21 + 1) 0 Q _ rfl (row_rng hx.2.2.1) Try.underlying34 rfl (row_size Try.sizeSum HQS) | exact exec_arr 34 (.tmp 17) b17 0 Q _ rfl (row_rng hx.2.2.2) Try.underlying34 rfl (row_size Try.sizeSum HQS) | go_simp); try (intro h; omega)) ?_
              try simp only [Act.put, List.setIfInBounds_toArray, List.set_cons_zero, List.set_cons_succ]
              refine anyH_take 12 100 (.agg Q) SD rfl (by kernel_rfl) (by kernel_rfl) (by kernel_rfl) (fun _ _ _ h => h) (by rfl) (by intro x hx; have y0 := hx; (first | exact exec_arr 54 (.tmp 21) b21 0 A _ rfl (row_rng hx.1) Try.underlying54 rfl (row_size Try.sizeGeo HAS) | exact exec_arr 54 (.tmp 94) ab (ao + k * 3) A _ rfl hx.2.1 Try.underlying54 rfl (row_size Try.sizeGeo HAS) | exact exec_arr 34 (.tmp 22) (b21 + 1) 0 Q _ rfl (row_rng hx.2.2.1) Try.underlying34 rfl (row_size Try.sizeSum HQS) | exact exec_arr 34 (.tmp 17) b17 0 Q _ rfl (row_rng hx.2.2.2) Try.underlying34 rfl (row_size Try.sizeSum HQS) | go_simp); try (intro h; omega)) ?_
              try simp only [Act.put, List.setIfInBounds_toArray, List.set_cons_zero, List.set_cons_succ]
              refine anyH_take 13 101 (.bool false) SD rfl (by kernel_rfl) (by kernel_rfl) (by kernel_rfl) (fun _ _ _ h => h) (by rfl) (by intro x hx; have y0 := hx; (first | exact exec_arr 54 (.tmp 21) b21 0 A _ rfl (row_rng hx.1) Try.underlying54 rfl (row_size Try.sizeGeo HAS) | exact exec_arr 54 (.tmp 94) ab (ao + k * 3) A _ rfl hx.2.1 Try.underlying54 rfl (row_size Try.sizeGeo HAS) | exact exec_arr 34 (.tmp 22) (b21 + 1) 0 Q _ rfl (row_rng hx.2.2.1) Try.underlying34 rfl (row_size Try.sizeSum HQS) | exact exec_arr 34 (.tmp 17) b17 0 Q _ rfl (row_rng hx.2.2.2) Try.underlying34 rfl (row_size Try.sizeSum HQS) | go_simp); try (intro h; omega)) ?_
              try simp only [Act.put, List.setIfInBounds_toArray, List.set_cons_zero, List.set_cons_succ]
              refine anyH_take 14 102 (.bool false) SD rfl (by kernel_rfl) (by kernel_rfl) (by kernel_rfl) (fun _ _ _ h => h) (by rfl) (by intro x hx; have y0 := hx; (first | exact exec_arr 54 (.tmp 21) b21 0 A _ rfl (row_rng hx.1) Try.underlying54 rfl (row_size Try.sizeGeo HAS) | exact exec_arr 54 (.tmp 94) ab (ao + k * 3) A _ rfl hx.2.1 Try.underlying54 rfl (row_size Try.sizeGeo HAS) | exact exec_arr 34 (.tmp 22) (b21 + 1) 0 Q _ rfl (row_rng hx.2.2.1) Try.underlying34 rfl (row_size Try.sizeSum HQS) | exact exec_arr 34 (.tmp 17) b17 0 Q _ rfl (row_rng hx.2.2.2) Try.underlying34 rfl (row_size Try.sizeSum HQS) | go_simp); try (intro h; omega)) ?_
              try simp only [Act.put, List.setIfInBounds_toArray, List.set_cons_zero, List.set_cons_succ]
              refine wpAnyH_done (by kernel_rfl) ?_ _
              clear SD he1 he2 HGQ HQQ
              have HRz : Hid (Rw K z (.slice q12 T.length d12) (Sp.bs S T)) := HR.out.kp Kz.out
              have HGz : Hid (Fl K 54 3 z (.slice q13 T.length d13) (Sp.gs T)) := HG.out.kp Kz.out
              have HQz : Hid (Fl K 34 32 z (.slice q14 T.length d14) (Sp.ms S T)) := HQ.out.kp Kz.out
              have HBn := Lib.hid (Sp.bs_len S T)
              have HGn := Lib.hid (Sp.gs_len T)
              have HMn := Lib.hid (Sp.ms_len S T)
              have HNT : Hid (T.length ≤ 1000) := by have := HTL.out; show _ ≤ _; omega
              have HBYL : Hid (By.length = 73) := by have h := Oz.out.1; unfold U8s at h; show _ = _; simpa using h
              clear HR HG HQ Kz Rz G22z HRG
              obtain ⟨NT, hNT⟩ : ∃ NT, T.length = NT := ⟨_, rfl⟩
              rw [hNT] at HRz HGz HQz HBn HGn HMn HNT HTN ⊢
              clear hNT
              go_upto_region 21 with (at_builtin; (with_reducible refine app_rw _ _ K _ p5 c5 By 73 HBYL.out _ NT ?_ ?_ HRz.out Oz.out HBn.out HNT.out Sz.out ?_); (exact rfl); (exact rfl); intro q8 d8 y8 HR8 HT8 HG8)
              have V8 := Lib.hid (vu_far Vz.out HT8.out (by decide) (by decide) HG8.out)
              have F8 := Lib.hid (fun q hq => (HT8.out q hq).2)
              have G8g := Lib.hid (HGz.out.off F8.out (by decide) HG8.out)
              have G8q := Lib.hid (HQz.out.off F8.out (by decide) HG8.out)
              have G8a := Lib.hid (blk_off G21z.out F8.out (by decide) HG8.out)
              have G8s := Lib.hid (blk_off G17z.out F8.out (by decide) HG8.out)
              have S8 : Hid (K ≤ y8.heap.size) := V8.out.size
              clear HT8 HG8 F8 HRz HGz HQz Oz G21z G17z Vz Sz
              go_upto_region 22 with (first
                | ((with_reducible refine row_load _ _ _ _ _ _ _ ?_ G8a.out Try.underlying54 ?_ (row_size Try.sizeGeo HAS) ?_); (exact rfl); (exact rfl))
                | ((with_reducible refine bs1_g _ _ _ A 3 24 Try.underlying61 Try.infoGeo rfl HAS.out ?_ ?_ _ ?_ ?_); (decide); (decide); (exact rfl))
                | (at_builtin; (with_reducible refine app_fl _ _ _ A 3 24 Try.underlying61 Try.infoGeo rfl HAS.out ?_ ?_ HA1.out _ _ K _ _ NT ?_ ?_ G8g.out HGn.out ?_ S8.out ?_); (decide); (decide); (exact rfl); (exact rfl); (have := HNT.out; omega); intro q9 d9 y9 HF9 HT9 HG9))
              have V9 := Lib.hid (vu_far V8.out HT9.out (by decide) (by decide) HG9.out)
              have F9 := Lib.hid (fun q hq => (HT9.out q hq).2)
              have R9 := Lib.hid (HR8.out.off F9.out (by decide) (by decide) HG9.out)
              have G9q := Lib.hid (G8q.out.off F9.out (by decide) HG9.out)
              have G9s := Lib.hid (blk_off G8s.out F9.out (by decide) HG9.out)
              have S9 : Hid (K ≤ y9.heap.size) := V9.out.size
              clear HT9 HG9 F9 HR8 G8g G8q G8a G8s V8 S8
              go_upto_region 10 with (first
                | ((with_reducible refine row_load _ _ _ _ _ _ _ ?_ G9s.out Try.underlying34 ?_ (row_size Try.sizeSum HQS) ?_); (exact rfl); (exact rfl))
                | ((with_reducible refine bs1_g _ _ _ Q 32 32 Try.underlying62 Try.infoSumS (sa_size z32_len) HQS.out ?_ ?_ _ ?_ ?_); (decide); (decide); (exact rfl))
                | (at_builtin; (with_reducible refine app_fl _ _ _ Q 32 32 Try.underlying62 Try.infoSumS (sa_size z32_len) HQS.out ?_ ?_ HQ1.out _ _ K _ _ NT ?_ ?_ G9q.out HMn.out ?_ S9.out ?_); (decide); (decide); (exact rfl); (exact rfl); (have := HNT.out; omega); intro q10 d10 y10 HF10 HT10 HG10))
              have V10 := Lib.hid (vu_far V9.out HT10.out (by decide) (by decide) HG10.out)
              have F10 := Lib.hid (fun q hq => (HT10.out q hq).2)
              have R10 := Lib.hid (R9.out.off F10.out (by decide) (by decide) HG10.out)
              have F10g := Lib.hid (HF9.out.off F10.out (by decide) HG10.out)
              have R11 : Hid (Rw K y10 (.slice q8 (NT + 1) d8) (Sp.bs S1 (T ++ [(gg, e)]))) := by rw [HBA.out]; exact R10.out
              have G11 : Hid (Fl K 54 3 y10 (.slice q9 (NT + 1) d9) (Sp.gs (T ++ [(gg, e)]))) := by rw [HGA.out]; exact F10g.out
              have Q11 : Hid (Fl K 34 32 y10 (.slice q10 (NT + 1) d10) (Sp.ms S1 (T ++ [(gg, e)]))) := by rw [HMA.out]; exact HF10.out
              clear HT10 HG10 F10 R9 R10 HF9 HF10 F10g V9 S9 G9q G9s HBA HGA HMA
              go_wp2
              exact ⟨⟨k + 1, T ++ [(gg, e)], S1, m3, by omega, by go_num, R11.out, G11.out, Q11.out, HW1.out, V10.out, ⟨HU3.out, HM3.out.1, HM3.out.2, HCN.out⟩⟩, by simp [intOf]; omega⟩
            · obtain ⟨hwn, hwm, hws⟩ := Sp.wv_no (m := m) (S := S) hok
              rw [hwm, hws] at HWR
              have hQL := Sp.wv_len S gg e
              have HQS := Lib.hid (sa_size hQL)
              have HQ1 := Lib.hid (sa_one (Sp.wv S gg e).1)
              clear hwm hws hok hQL HLS
              generalize sA (Sp.wv S gg e).1 = Q at *
              generalize (Sp.wv S gg e).2 = rn at *
              have hb0 : (rn == 0) = false := by simpa using hwn
              have hb1 : (rn != 0) = true := by simpa using hwn
              go_upto_region 10 with (first
                | ((with_reducible refine rng_load _ _ ab (ao + k * 3) A _ ?_ HRW.out Try.underlying54 ?_ (row_size Try.sizeGeo HAS) ?_); (exact rfl); (exact rfl))
                | (go_at_call 26; refine HWR.out.mono ?_; rintro e3 w3 ⟨rfl, HV3, HK3⟩)
                | ((with_reducible refine row_store _ _ _ _ _ _ _ ?_ ?_ (heap_alloc_new _ _) (row_size Try.sizeSum HQS) ?_ HQ1.out ?_); (exact rfl); (exact rfl); (rw [HQS.out, HSS.out]); intro w4 G4 ch4))
              have B34 : Hid (Below w3.heap.size w3 w4) := ch4.below ((Below.refl _ w3).alloc (Nat.le_refl _) _) (Nat.le_refl _)
              have HV4 := Lib.hid (HV3.out.old B34.out)
              have K4 : Hid (Kp K wr w4) := HK3.out.trans (Kp.of_below B34.out)
              go_wp2
              exact ⟨⟨k + 1, T, S, m, by omega, by go_num, HR.out.kp K4.out, HG.out.kp K4.out, HQ.out.kp K4.out, HW.out, HV4.out, ⟨HC.out.1, Nat.le_succ_of_le HC.out.2.1, fun j => Nat.le_trans (HC.out.2.2.1 j) (by omega), Nat.le_succ_of_le HC.out.2.2.2.1, Nat.le_succ_of_le HC.out.2.2.2.2.1, Nat.le_succ_of_le HC.out.2.2.2.2.2⟩⟩, by simp [intOf]; omega⟩
          · go_upto_region 14 with (fail)
            have HRW : Hid (wr.rangeAt ab (ao + k * 3) A.toList) := HRG.out wr HV.out.low
            have HWR := Lib.hid (vu_write gg (k : Int) HC.out.1 HV.out (by have := HC.out.2.1; omega) (by have := HC.out.2.2.2.1; omega) (by have := HC.out.2.2.2.2.1; omega))
            rw [HEA.out, a32_is] at HWR
            have HLS := Lib.hid (Sp.vS_ss S gg (k : Int))
            by_cases hok : Sp.okw gg (k : Int)
            · obtain ⟨hwm, hws⟩ := Sp.wM_ok (m := m) (S := S) hok
              have hwn := Sp.wv_ok (S := S) hok
              rw [hwm, hws, hwn] at HWR
              rw [hws] at HLS
              have HW1 := Lib.hid (HW.out.add HGK.out hok.1 hok.2)
              have HU1 : Hid (Dk.Up (Dk.put m 0 (Sp.by_ (Sp.vS S gg (k : Int)) gg (k : Int))) 5) := HC.out.1.put _ _
              have HPK : Hid (Dk.peek (Dk.put m 0 (Sp.by_ (Sp.vS S gg (k : Int)) gg (k : Int))) 0 = Sp.by_ (Sp.vS S gg (k : Int)) gg (k : Int)) := by show _ = _; rw [Rg.peek_put, if_pos rfl]
              have HRB := Lib.hid (Sp.rv_back HW.out HGK.out hok)
              have HBL2 := Lib.hid (Sp.by_len (Sp.vS S gg (k : Int)) gg (k : Int))
              have HWV : Hid (sA (Sp.sm (Sp.vS S gg (k : Int)) (Sp.by_ (Sp.vS S gg (k : Int)) gg (k : Int))) = sA (Sp.wv S gg (k : Int)).1) := by show _ = _; unfold Sp.wv; rw [if_pos hok]
              have hQL := Sp.wv_len S gg (k : Int)
              have HQS := Lib.hid (sa_size hQL)
              have HQ1 := Lib.hid (sa_one (Sp.wv S gg (k : Int)).1)
              have HQQ : Hid (∀ y, (Op.equalIn 10000 34 (.agg (sA (Sp.wv S gg (k : Int)).1)) (.agg (sA (Sp.wv S gg (k : Int)).1))).run Try.prog y = .ok true y) := fun y => by have h := a32_eq _ _ hQL hQL y; rw [decide_eq_true rfl] at h; exact h
              have HRQ := Lib.hid (a32_is (Sp.wv S gg (k : Int)).1)
              have HBA := Lib.hid (Sp.bs_add HW.out gg (k : Int))
              have HMA := Lib.hid (Sp.ms_add HW.out gg (k : Int))
              have HGA := Lib.hid (Sp.gs_add T gg (k : Int))
              rw [HWV.out] at HMA
              rw [← HGG.out] at HGA
              have HM1 : Hid ((Dk.put m 0 (Sp.by_ (Sp.vS S gg (k : Int)) gg (k : Int))).wr ≤ k + 1 ∧ (∀ j, (Dk.put m 0 (Sp.by_ (Sp.vS S gg (k : Int)) gg (k : Int))).rd j ≤ 2 * k)) := ⟨by have := HC.out.2.1; show m.wr + 1 ≤ _; omega, HC.out.2.2.1⟩
              have HCN : Hid ((Sp.vS S gg (k : Int)).ss.length ≤ k + 1 ∧ (Sp.vS S gg (k : Int)).ts.length ≤ k + 1 ∧ (T ++ [(gg, (k : Int))]).length ≤ k + 1) := ⟨by have := HLS.out.1; have := HC.out.2.2.2.1; omega, by have := HLS.out.2; have := HC.out.2.2.2.2.1; omega, by rw [List.length_append]; have := HC.out.2.2.2.2.2; show _ + 1 ≤ _; omega⟩
              have HTN : Hid (T.length + 1 = (T ++ [(gg, (k : Int))]).length) := by show _ = _; rw [List.length_append]; rfl
              have HTL := Lib.hid HC.out.2.2.2.2.2
              clear hwm hws hwn hok hQL HWV HLS HC HGG HW
              generalize Dk.put m 0 (Sp.by_ (Sp.vS S gg (k : Int)) gg (k : Int)) = m1 at *
              generalize Sp.by_ (Sp.vS S gg (k : Int)) gg (k : Int) = By at *
              generalize Sp.vS S gg (k : Int) = S1 at *
              generalize sA (Sp.wv S gg (k : Int)).1 = Q at *
              go_upto_region 16 with (first
                | ((with_reducible refine rng_load _ _ ab (ao + k * 3) A _ ?_ HRW.out Try.underlying54 ?_ (row_size Try.sizeGeo HAS) ?_); (exact rfl); (exact rfl))
                | (go_at_call 26; refine HWR.out.mono ?_; rintro e3 w3 ⟨rfl, HV3, HK3⟩)
                | ((with_reducible refine row_store _ _ _ _ _ _ _ ?_ ?_ (heap_alloc_new _ _) (row_size Try.sizeSum HQS) ?_ HQ1.out ?_); (exact rfl); (exact rfl); (rw [HQS.out, HSS.out]); intro w4 G4 ch4))
              have B34 : Hid (Below w3.heap.size w3 w4) := ch4.below ((Below.refl _ w3).alloc (Nat.le_refl _) _) (Nat.le_refl _)
              have HV4 := Lib.hid (HV3.out.old B34.out)
              have K4 : Hid (Kp K wr w4) := HK3.out.trans (Kp.of_below B34.out)
              have HKB : Hid (K ≤ w3.heap.size) := HV3.out.size
              obtain ⟨b17, hb17⟩ : ∃ b, w3.heap.size = b := ⟨_, rfl⟩
              rw [hb17] at G4 HKB ⊢
              clear hb17 ch4 B34 HV3 HK3 HWR HRW
              have HDR := Lib.hid (vu_disk 0 (fun j => by have := HM1.out.2 j; omega) HV4.out)
              have hrx : Dk.rdX m1 0 = By := (HU1.out.rd 0 (by omega)).2.1.trans HPK.out
              unfold VuRd at HDR
              rw [hrx, HBL2.out] at HDR
              obtain ⟨hu2, hp2, hw2, hr2⟩ := Sp.up_rd HU1.out 0
              have HU2 := Lib.hid hu2
              have HP2 : Hid (Dk.peek (Dk.rdM m1 0) 0 = By) := (hp2 0).trans HPK.out
              have HM2 : Hid ((Dk.rdM m1 0).wr ≤ k + 1 ∧ ∀ j, (Dk.rdM m1 0).rd j ≤ 2 * k + 1) := ⟨by rw [hw2]; exact HM1.out.1, fun j => by have := hr2 j; have := HM1.out.2 j; omega⟩
              clear hrx hu2 hp2 hw2 hr2 HU1 HPK HM1
              generalize Dk.rdM m1 0 = m2 at *
              go_upto_region 17 with (go_at_call 17; refine HDR.out.mono ?_; rintro e5 w5 ⟨p5, c5, rfl, HO5, HB5, HV5, HK5⟩)
              have K5 : Hid (Kp K wr w5) := K4.out.trans HK5.out
              have G5 : Hid (w5.heap[b17]? = some (.cells Q 34 (0, 0))) := (HK5.out.block _ HKB.out (lt_of_block G4.out)).trans G4.out
              have HO5' : Hid (w5.ownsRow K 5 1 (.slice p5 73 c5) 73 (U8s By)) := own_base HO5.out HV4.out.size
              have HRR := Lib.hid (vu_read HW1.out HU2.out HV5.out (fun j => by have := HM2.out.2 j; omega) (by have := HCN.out.2.1; omega))
              unfold VuRr at HRR
              rw [HP2.out, HRB.out] at HRR
              dsimp only at HRR
              rw [HEA.out, HRQ.out] at HRR
              obtain ⟨hu3, hp3, hw3, hr3⟩ := Sp.up_rd HU2.out 0
              have HU3 := Lib.hid hu3
              have HM3 : Hid ((Dk.rdM m2 0).wr ≤ k + 1 ∧ ∀ j, (Dk.rdM m2 0).rd j ≤ 2 * (k + 1)) := ⟨by rw [hw3]; exact HM2.out.1, fun j => by have := hr3 j; have := HM2.out.2 j; omega⟩
              clear hu3 hp3 hw3 hr3 HU2 HP2 HM2 HDR HV4 K4 HO5 HB5 HK5 G4 HRB HBL2
              generalize Dk.rdM m2 0 = m3 at *
              go_upto_region 18 with (first
                | (go_at_call 27; refine HRR.out.mono ?_; rintro e6 w6 ⟨rfl, HV6, HK6⟩)
                | ((with_reducible refine row_store _ _ _ _ _ _ _ ?_ ?_ (heap_alloc2_old _ _ _) (row_size Try.sizeGeo HAS) ?_ HA1.out ?_); (exact rfl); (exact rfl); (rw [HAS.out, HZS.out]); intro wg6 Gg6 cg6)
                | ((with_reducible refine row_store _ _ _ _ _ _ _ ?_ ?_ ((cg6.block _ (by simp)).trans (heap_alloc2_new _ _ _)) (row_size Try.sizeSum HQS) ?_ HQ1.out ?_); (exact rfl); (exact rfl); (rw [HQS.out, HSS.out]); intro ws6 Gs6 cs6))
              have Bt6 : Hid (Below w6.heap.size w6 ws6) := cs6.below (cg6.below (((Below.refl _ w6).alloc (Nat.le_refl _) _).alloc (by simp) _) (Nat.le_refl _)) (by simp)
              have Gh6 : Hid (ws6.heap[w6.heap.size]? = some (.cells A 54 (0, 0))) := (cs6.block _ (by simp)).trans Gg6.out
              have Kt6 : Hid (Kp K w5 ws6) := HK6.out.trans (Kp.of_below Bt6.out)
              have HV7 := Lib.hid (HV6.out.old Bt6.out)
              have K7 : Hid (Kp K wr ws6) := K5.out.trans Kt6.out
              have G17 : Hid (ws6.heap[b17]? = some (.cells Q 34 (0, 0))) := (Kt6.out.block _ HKB.out (lt_of_block G5.out)).trans G5.out
              have HO7 := Lib.hid (own_kp HO5'.out Kt6.out (Nat.le_refl _))
              have HRX : Hid (ws6.rangeAt ab (ao + k * 3) A.toList) := HRG.out _ HV7.out.low
              have Gs6' := Gs6.out
              have HSZ : Hid (w6.heap.size + 1 < ws6.heap.size) := lt_of_block Gs6.out
              have HKX : Hid (K ≤ ws6.heap.size) := HV7.out.size
              clear HV5 HV6 HK6 Kt6 Bt6 Gg6 cg6 cs6 K5 HO5' G5 HRR HKB
              generalize w6.heap.size = b21 at *
              refine wp_region_any (by kernel_rfl) ?_
              change wpAny _ _ _ _ _ _ _ (World.drew _)
              have Vz : Hid (Vu w K ws6.drew d g m3 S1) := HV7.out.old (Below.refl _ ws6).drew
              have Kz : Hid (Kp K wr ws6.drew) := K7.out.trans (Kp.of_below (Below.refl _ ws6).drew)
              have G17z : Hid (ws6.drew.heap[b17]? = some (.cells Q 34 (0, 0))) := G17.out
              have G21z : Hid (ws6.drew.heap[b21]? = some (.cells A 54 (0, 0))) := Gh6.out
              have G22z : Hid (ws6.drew.heap[b21 + 1]? = some (.cells Q 34 (0, 0))) := Gs6.out
              have Oz : Hid (ws6.drew.ownsRow K 5 1 (.slice p5 73 c5) 73 (U8s By)) := HO7.out
              have Rz : Hid (ws6.drew.rangeAt ab (ao + k * 3) A.toList) := HRX.out
              have Sz : Hid (K ≤ ws6.drew.heap.size) := HKX.out
              obtain ⟨z, hz'⟩ : ∃ x, x = ws6.drew := ⟨_, rfl⟩
              rw [← hz'] at Vz Kz G17z G21z G22z Oz Rz Sz ⊢
              clear hz' HV7 K7 G17 HO7 HRX Gs6' HSZ HKX Gh6 Gs6
              have he1 := HGQ.out
              have he2 := HQQ.out
              refine wpAny_of_held (S := fun y => y.heap[b21]? = some (.cells A 54 (0, 0)) ∧ y.rangeAt ab (ao + k * 3) A.toList ∧ y.heap[b21 + 1]? = some (.cells Q 34 (0, 0)) ∧ y.heap[b17]? = some (.cells Q 34 (0, 0))) _ _ _ _ ?_
              have SD : z.heap[b21]? = some (.cells A 54 (0, 0)) ∧ z.rangeAt ab (ao + k * 3) A.toList ∧ z.heap[b21 + 1]? = some (.cells Q 34 (0, 0)) ∧ z.heap[b17]? = some (.cells Q 34 (0, 0)) := ⟨G21z.out, Rz.out, G22z.out, G17z.out⟩
              refine anyH_take 0 88 (.int .i64 0) SD rfl (by kernel_rfl) (by kernel_rfl) (by kernel_rfl) (fun _ _ _ h => h) (by rfl) (by intro x hx; have y0 := hx; (first | exact exec_arr 54 (.tmp 21) b21 0 A _ rfl (row_rng hx.1) Try.underlying54 rfl (row_size Try.sizeGeo HAS) | exact exec_arr 54 (.tmp 94) ab (ao + k * 3) A _ rfl hx.2.1 Try.underlying54 rfl (row_size Try.sizeGeo HAS) | exact exec_arr 34 (.tmp 22) (b21 + 1) 0 Q _ rfl (row_rng hx.2.2.1) Try.underlying34 rfl (row_size Try.sizeSum HQS) | exact exec_arr 34 (.tmp 17) b17 0 Q _ rfl (row_rng hx.2.2.2) Try.underlying34 rfl (row_size Try.sizeSum HQS) | go_simp); try (intro h; omega)) ?_
              try simp only [Act.put, List.setIfInBounds_toArray, List.set_cons_zero, List.set_cons_succ]
              refine anyH_take 1 89 (.bool false) SD rfl (by kernel_rfl) (by kernel_rfl) (by kernel_rfl) (fun _ _ _ h => h) (by rfl) (by intro x hx; have y0 := hx; (first | exact exec_arr 54 (.tmp 21) b21 0 A _ rfl (row_rng hx.1) Try.underlying54 rfl (row_size Try.sizeGeo HAS) | exact exec_arr 54 (.tmp 94) ab (ao + k * 3) A _ rfl hx.2.1 Try.underlying54 rfl (row_size Try.sizeGeo HAS) | exact exec_arr 34 (.tmp 22) (b21 + 1) 0 Q _ rfl (row_rng hx.2.2.1) Try.underlying34 rfl (row_size Try.sizeSum HQS) | exact exec_arr 34 (.tmp 17) b17 0 Q _ rfl (row_rng hx.2.2.2) Try.underlying34 rfl (row_size Try.sizeSum HQS) | go_simp); try (intro h; omega)) ?_
              try simp only [Act.put, List.setIfInBounds_toArray, List.set_cons_zero, List.set_cons_succ]
              refine anyH_take 2 90 (.bool false) SD rfl (by kernel_rfl) (by kernel_rfl) (by kernel_rfl) (fun _ _ _ h => h) (by rfl) (by intro x hx; have y0 := hx; (first | exact exec_arr 54 (.tmp 21) b21 0 A _ rfl (row_rng hx.1) Try.underlying54 rfl (row_size Try.sizeGeo HAS) | exact exec_arr 54 (.tmp 94) ab (ao + k * 3) A _ rfl hx.2.1 Try.underlying54 rfl (row_size Try.sizeGeo HAS) | exact exec_arr 34 (.tmp 22) (b21 + 1) 0 Q _ rfl (row_rng hx.2.2.1) Try.underlying34 rfl (row_size Try.sizeSum HQS) | exact exec_arr 34 (.tmp 17) b17 0 Q _ rfl (row_rng hx.2.2.2) Try.underlying34 rfl (row_size Try.sizeSum HQS) | go_simp); try (intro h; omega)) ?_
              try simp only [Act.put, List.setIfInBounds_toArray, List.set_cons_zero, List.set_cons_succ]
              refine anyH_take 3 91 (.agg A) SD rfl (by kernel_rfl) (by kernel_rfl) (by kernel_rfl) (fun _ _ _ h => h) (by rfl) (by intro x hx; have y0 := hx; (first | exact exec_arr 54 (.tmp 21) b21 0 A _ rfl (row_rng hx.1) Try.underlying54 rfl (row_size Try.sizeGeo HAS) | exact exec_arr 54 (.tmp 94) ab (ao + k * 3) A _ rfl hx.2.1 Try.underlying54 rfl (row_size Try.sizeGeo HAS) | exact exec_arr 34 (.tmp 22) (b21 + 1) 0 Q _ rfl (row_rng hx.2.2.1) Try.underlying34 rfl (row_size Try.sizeSum HQS) | exact exec_arr 34 (.tmp 17) b17 0 Q _ rfl (row_rng hx.2.2.2) Try.underlying34 rfl (row_size Try.sizeSum HQS) | go_simp); try (intro h; omega)) ?_
              try simp only [Act.put, List.setIfInBounds_toArray, List.set_cons_zero, List.set_cons_succ]
              refine anyH_take 4 92 (.slice (some ⟨ab, ao, none⟩) n0 c0) SD rfl (by kernel_rfl) (by kernel_rfl) (by kernel_rfl) (fun _ _ _ h => h) (by rfl) (by intro x hx; have y0 := hx; (first | exact exec_arr 54 (.tmp 21) b21 0 A _ rfl (row_rng hx.1) Try.underlying54 rfl (row_size Try.sizeGeo HAS) | exact exec_arr 54 (.tmp 94) ab (ao + k * 3) A _ rfl hx.2.1 Try.underlying54 rfl (row_size Try.sizeGeo HAS) | exact exec_arr 34 (.tmp 22) (b21 + 1) 0 Q _ rfl (row_rng hx.2.2.1) Try.underlying34 rfl (row_size Try.sizeSum HQS) | exact exec_arr 34 (.tmp 17) b17 0 Q _ rfl (row_rng hx.2.2.2) Try.underlying34 rfl (row_size Try.sizeSum HQS) | go_simp); try (intro h; omega)) ?_
              try simp only [Act.put, List.setIfInBounds_toArray, List.set_cons_zero, List.set_cons_succ]
              refine anyH_take 5 93 (.int .i64 (k : Int)) SD rfl (by kernel_rfl) (by kernel_rfl) (by kernel_rfl) (fun _ _ _ h => h) (by rfl) (by intro x hx; have y0 := hx; (first | exact exec_arr 54 (.tmp 21) b21 0 A _ rfl (row_rng hx.1) Try.underlying54 rfl (row_size Try.sizeGeo HAS) | exact exec_arr 54 (.tmp 94) ab (ao + k * 3) A _ rfl hx.2.1 Try.underlying54 rfl (row_size Try.sizeGeo HAS) | exact exec_arr 34 (.tmp 22) (b21 + 1) 0 Q _ rfl (row_rng hx.2.2.1) Try.underlying34 rfl (row_size Try.sizeSum HQS) | exact exec_arr 34 (.tmp 17) b17 0 Q _ rfl (row_rng hx.2.2.2) Try.underlying34 rfl (row_size Try.sizeSum HQS) | go_simp); try (intro h; omega)) ?_
              try simp only [Act.put, List.setIfInBounds_toArray, List.set_cons_zero, List.set_cons_succ]
              refine anyH_take 6 94 (.pointer (some ⟨ab, (ao + k * 3), none⟩)) SD rfl (by kernel_rfl) (by kernel_rfl) (by kernel_rfl) (fun _ _ _ h => h) (by rfl) (by intro x hx; have y0 := hx; (first | exact exec_arr 54 (.tmp 21) b21 0 A _ rfl (row_rng hx.1) Try.underlying54 rfl (row_size Try.sizeGeo HAS) | exact exec_arr 54 (.tmp 94) ab (ao + k * 3) A _ rfl hx.2.1 Try.underlying54 rfl (row_size Try.sizeGeo HAS) | exact exec_arr 34 (.tmp 22) (b21 + 1) 0 Q _ rfl (row_rng hx.2.2.1) Try.underlying34 rfl (row_size Try.sizeSum HQS) | exact exec_arr 34 (.tmp 17) b17 0 Q _ rfl (row_rng hx.2.2.2) Try.underlying34 rfl (row_size Try.sizeSum HQS) | go_simp); try (intro h; omega)) ?_
              try simp only [Act.put, List.setIfInBounds_toArray, List.set_cons_zero, List.set_cons_succ]
              refine anyH_take 7 95 (.agg A) SD rfl (by kernel_rfl) (by kernel_rfl) (by kernel_rfl) (fun _ _ _ h => h) (by rfl) (by intro x hx; have y0 := hx; (first | exact exec_arr 54 (.tmp 21) b21 0 A _ rfl (row_rng hx.1) Try.underlying54 rfl (row_size Try.sizeGeo HAS) | exact exec_arr 54 (.tmp 94) ab (ao + k * 3) A _ rfl hx.2.1 Try.underlying54 rfl (row_size Try.sizeGeo HAS) | exact exec_arr 34 (.tmp 22) (b21 + 1) 0 Q _ rfl (row_rng hx.2.2.1) Try.underlying34 rfl (row_size Try.sizeSum HQS) | exact exec_arr 34 (.tmp 17) b17 0 Q _ rfl (row_rng hx.2.2.2) Try.underlying34 rfl (row_size Try.sizeSum HQS) | go_simp); try (intro h; omega)) ?_
              try simp only [Act.put, List.setIfInBounds_toArray, List.set_cons_zero, List.set_cons_succ]
              refine anyH_take 8 96 (.bool false) SD rfl (by kernel_rfl) (by kernel_rfl) (by kernel_rfl) (fun _ _ _ h => h) (by rfl) (by intro x hx; have y0 := hx; (first | exact exec_arr 54 (.tmp 21) b21 0 A _ rfl (row_rng hx.1) Try.underlying54 rfl (row_size Try.sizeGeo HAS) | exact exec_arr 54 (.tmp 94) ab (ao + k * 3) A _ rfl hx.2.1 Try.underlying54 rfl (row_size Try.sizeGeo HAS) | exact exec_arr 34 (.tmp 22) (b21 + 1) 0 Q _ rfl (row_rng hx.2.2.1) Try.underlying34 rfl (row_size Try.sizeSum HQS) | exact exec_arr 34 (.tmp 17) b17 0 Q _ rfl (row_rng hx.2.2.2) Try.underlying34 rfl (row_size Try.sizeSum HQS) | go_simp); try (intro h; omega)) ?_
              try simp only [Act.put, List.setIfInBounds_toArray, List.set_cons_zero, List.set_cons_succ]
              refine anyH_take 9 97 (.bool false) SD rfl (by kernel_rfl) (by kernel_rfl) (by kernel_rfl) (fun _ _ _ h => h) (by rfl) (by intro x hx; have y0 := hx; (first | exact exec_arr 54 (.tmp 21) b21 0 A _ rfl (row_rng hx.1) Try.underlying54 rfl (row_size Try.sizeGeo HAS) | exact exec_arr 54 (.tmp 94) ab (ao + k * 3) A _ rfl hx.2.1 Try.underlying54 rfl (row_size Try.sizeGeo HAS) | exact exec_arr 34 (.tmp 22) (b21 + 1) 0 Q _ rfl (row_rng hx.2.2.1) Try.underlying34 rfl (row_size Try.sizeSum HQS) | exact exec_arr 34 (.tmp 17) b17 0 Q _ rfl (row_rng hx.2.2.2) Try.underlying34 rfl (row_size Try.sizeSum HQS) | go_simp); try (intro h; omega)) ?_
              try simp only [Act.put, List.setIfInBounds_toArray, List.set_cons_zero, List.set_cons_succ]
              refine anyH_take 10 98 (.bool false) SD rfl (by kernel_rfl) (by kernel_rfl) (by kernel_rfl) (fun _ _ _ h => h) (by rfl) (by intro x hx; have y0 := hx; (first | exact exec_arr 54 (.tmp 21) b21 0 A _ rfl (row_rng hx.1) Try.underlying54 rfl (row_size Try.sizeGeo HAS) | exact exec_arr 54 (.tmp 94) ab (ao + k * 3) A _ rfl hx.2.1 Try.underlying54 rfl (row_size Try.sizeGeo HAS) | exact exec_arr 34 (.tmp 22) (b21 + 1) 0 Q _ rfl (row_rng hx.2.2.1) Try.underlying34 rfl (row_size Try.sizeSum HQS) | exact exec_arr 34 (.tmp 17) b17 0 Q _ rfl (row_rng hx.2.2.2) Try.underlying34 rfl (row_size Try.sizeSum HQS) | go_simp); try (intro h; omega)) ?_
              try simp only [Act.put, List.setIfInBounds_toArray, List.set_cons_zero, List.set_cons_succ]
              refine anyH_take 11 99 (.agg Q) SD rfl (by kernel_rfl) (by kernel_rfl) (by kernel_rfl) (fun _ _ _ h => h) (by rfl) (by intro x hx; have y0 := hx; (first | exact exec_arr 54 (.tmp 21) b21 0 A _ rfl (row_rng hx.1) Try.underlying54 rfl (row_size Try.sizeGeo HAS) | exact exec_arr 54 (.tmp 94) ab (ao + k * 3) A _ rfl hx.2.1 Try.underlying54 rfl (row_size Try.sizeGeo HAS) | exact exec_arr 34 (.tmp 22) (b21 + 1) 0 Q _ rfl (row_rng hx.2.2.1) Try.underlying34 rfl (row_size Try.sizeSum HQS) | exact exec_arr 34 (.tmp 17) b17 0 Q _ rfl (row_rng hx.2.2.2) Try.underlying34 rfl (row_size Try.sizeSum HQS) | go_simp); try (intro h; omega)) ?_
              try simp only [Act.put, List.setIfInBounds_toArray, List.set_cons_zero, List.set_cons_succ]
              refine anyH_take 12 100 (.agg Q) SD rfl (by kernel_rfl) (by kernel_rfl) (by kernel_rfl) (fun _ _ _ h => h) (by rfl) (by intro x hx; have y0 := hx; (first | exact exec_arr 54 (.tmp 21) b21 0 A _ rfl (row_rng hx.1) Try.underlying54 rfl (row_size Try.sizeGeo HAS) | exact exec_arr 54 (.tmp 94) ab (ao + k * 3) A _ rfl hx.2.1 Try.underlying54 rfl (row_size Try.sizeGeo HAS) | exact exec_arr 34 (.tmp 22) (b21 + 1) 0 Q _ rfl (row_rng hx.2.2.1) Try.underlying34 rfl (row_size Try.sizeSum HQS) | exact exec_arr 34 (.tmp 17) b17 0 Q _ rfl (row_rng hx.2.2.2) Try.underlying34 rfl (row_size Try.sizeSum HQS) | go_simp); try (intro h; omega)) ?_
              try simp only [Act.put, List.setIfInBounds_toArray, List.set_cons_zero, List.set_cons_succ]
              refine anyH_take 13 101 (.bool false) SD rfl (by kernel_rfl) (by kernel_rfl) (by kernel_rfl) (fun _ _ _ h => h) (by rfl) (by intro x hx; have y0 := hx; (first | exact exec_arr 54 (.tmp 21) b21 0 A _ rfl (row_rng hx.1) Try.underlying54 rfl (row_size Try.sizeGeo HAS) | exact exec_arr 54 (.tmp 94) ab (ao + k * 3) A _ rfl hx.2.1 Try.underlying54 rfl (row_size Try.sizeGeo HAS) | exact exec_arr 34 (.tmp 22) (b21 + 1) 0 Q _ rfl (row_rng hx.2.2.1) Try.underlying34 rfl (row_size Try.sizeSum HQS) | exact exec_arr 34 (.tmp 17) b17 0 Q _ rfl (row_rng hx.2.2.2) Try.underlying34 rfl (row_size Try.sizeSum HQS) | go_simp); try (intro h; omega)) ?_
              try simp only [Act.put, List.setIfInBounds_toArray, List.set_cons_zero, List.set_cons_succ]
              refine anyH_take 14 102 (.bool false) SD rfl (by kernel_rfl) (by kernel_rfl) (by kernel_rfl) (fun _ _ _ h => h) (by rfl) (by intro x hx; have y0 := hx; (first | exact exec_arr 54 (.tmp 21) b21 0 A _ rfl (row_rng hx.1) Try.underlying54 rfl (row_size Try.sizeGeo HAS) | exact exec_arr 54 (.tmp 94) ab (ao + k * 3) A _ rfl hx.2.1 Try.underlying54 rfl (row_size Try.sizeGeo HAS) | exact exec_arr 34 (.tmp 22) (b21 + 1) 0 Q _ rfl (row_rng hx.2.2.1) Try.underlying34 rfl (row_size Try.sizeSum HQS) | exact exec_arr 34 (.tmp 17) b17 0 Q _ rfl (row_rng hx.2.2.2) Try.underlying34 rfl (row_size Try.sizeSum HQS) | go_simp); try (intro h; omega)) ?_
              try simp only [Act.put, List.setIfInBounds_toArray, List.set_cons_zero, List.set_cons_succ]
              refine wpAnyH_done (by kernel_rfl) ?_ _
              clear SD he1 he2 HGQ HQQ
              have HRz : Hid (Rw K z (.slice q12 T.length d12) (Sp.bs S T)) := HR.out.kp Kz.out
              have HGz : Hid (Fl K 54 3 z (.slice q13 T.length d13) (Sp.gs T)) := HG.out.kp Kz.out
              have HQz : Hid (Fl K 34 32 z (.slice q14 T.length d14) (Sp.ms S T)) := HQ.out.kp Kz.out
              have HBn := Lib.hid (Sp.bs_len S T)
              have HGn := Lib.hid (Sp.gs_len T)
              have HMn := Lib.hid (Sp.ms_len S T)
              have HNT : Hid (T.length ≤ 1000) := by have := HTL.out; show _ ≤ _; omega
              have HBYL : Hid (By.length = 73) := by have h := Oz.out.1; unfold U8s at h; show _ = _; simpa using h
              clear HR HG HQ Kz Rz G22z HRG
              obtain ⟨NT, hNT⟩ : ∃ NT, T.length = NT := ⟨_, rfl⟩
              rw [hNT] at HRz HGz HQz HBn HGn HMn HNT HTN ⊢
              clear hNT
              go_upto_region 21 with (at_builtin; (with_reducible refine app_rw _ _ K _ p5 c5 By 73 HBYL.out _ NT ?_ ?_ HRz.out Oz.out HBn.out HNT.out Sz.out ?_); (exact rfl); (exact rfl); intro q8 d8 y8 HR8 HT8 HG8)
              have V8 := Lib.hid (vu_far Vz.out HT8.out (by decide) (by decide) HG8.out)
              have F8 := Lib.hid (fun q hq => (HT8.out q hq).2)
              have G8g := Lib.hid (HGz.out.off F8.out (by decide) HG8.out)
              have G8q := Lib.hid (HQz.out.off F8.out (by decide) HG8.out)
              have G8a := Lib.hid (blk_off G21z.out F8.out (by decide) HG8.out)
              have G8s := Lib.hid (blk_off G17z.out F8.out (by decide) HG8.out)
              have S8 : Hid (K ≤ y8.heap.size) := V8.out.size
              clear HT8 HG8 F8 HRz HGz HQz Oz G21z G17z Vz Sz
              go_upto_region 22 with (first
                | ((with_reducible refine row_load _ _ _ _ _ _ _ ?_ G8a.out Try.underlying54 ?_ (row_size Try.sizeGeo HAS) ?_); (exact rfl); (exact rfl))
                | ((with_reducible refine bs1_g _ _ _ A 3 24 Try.underlying61 Try.infoGeo rfl HAS.out ?_ ?_ _ ?_ ?_); (decide); (decide); (exact rfl))
                | (at_builtin; (with_reducible refine app_fl _ _ _ A 3 24 Try.underlying61 Try.infoGeo rfl HAS.out ?_ ?_ HA1.out _ _ K _ _ NT ?_ ?_ G8g.out HGn.out ?_ S8.out ?_); (decide); (decide); (exact rfl); (exact rfl); (have := HNT.out; omega); intro q9 d9 y9 HF9 HT9 HG9))
              have V9 := Lib.hid (vu_far V8.out HT9.out (by decide) (by decide) HG9.out)
              have F9 := Lib.hid (fun q hq => (HT9.out q hq).2)
              have R9 := Lib.hid (HR8.out.off F9.out (by decide) (by decide) HG9.out)
              have G9q := Lib.hid (G8q.out.off F9.out (by decide) HG9.out)
              have G9s := Lib.hid (blk_off G8s.out F9.out (by decide) HG9.out)
              have S9 : Hid (K ≤ y9.heap.size) := V9.out.size
              clear HT9 HG9 F9 HR8 G8g G8q G8a G8s V8 S8
              go_upto_region 10 with (first
                | ((with_reducible refine row_load _ _ _ _ _ _ _ ?_ G9s.out Try.underlying34 ?_ (row_size Try.sizeSum HQS) ?_); (exact rfl); (exact rfl))
                | ((with_reducible refine bs1_g _ _ _ Q 32 32 Try.underlying62 Try.infoSumS (sa_size z32_len) HQS.out ?_ ?_ _ ?_ ?_); (decide); (decide); (exact rfl))
                | (at_builtin; (with_reducible refine app_fl _ _ _ Q 32 32 Try.underlying62 Try.infoSumS (sa_size z32_len) HQS.out ?_ ?_ HQ1.out _ _ K _ _ NT ?_ ?_ G9q.out HMn.out ?_ S9.out ?_); (decide); (decide); (exact rfl); (exact rfl); (have := HNT.out; omega); intro q10 d10 y10 HF10 HT10 HG10))
              have V10 := Lib.hid (vu_far V9.out HT10.out (by decide) (by decide) HG10.out)
              have F10 := Lib.hid (fun q hq => (HT10.out q hq).2)
              have R10 := Lib.hid (R9.out.off F10.out (by decide) (by decide) HG10.out)
              have F10g := Lib.hid (HF9.out.off F10.out (by decide) HG10.out)
              have R11 : Hid (Rw K y10 (.slice q8 (NT + 1) d8) (Sp.bs S1 (T ++ [(gg, (k : Int))]))) := by rw [HBA.out]; exact R10.out
              have G11 : Hid (Fl K 54 3 y10 (.slice q9 (NT + 1) d9) (Sp.gs (T ++ [(gg, (k : Int))]))) := by rw [HGA.out]; exact F10g.out
              have Q11 : Hid (Fl K 34 32 y10 (.slice q10 (NT + 1) d10) (Sp.ms S1 (T ++ [(gg, (k : Int))]))) := by rw [HMA.out]; exact HF10.out
              clear HT10 HG10 F10 R9 R10 HF9 HF10 F10g V9 S9 G9q G9s HBA HGA HMA
              go_wp2
              exact ⟨⟨k + 1, T ++ [(gg, (k : Int))], S1, m3, by omega, by go_num, R11.out, G11.out, Q11.out, HW1.out, V10.out, ⟨HU3.out, HM3.out.1, HM3.out.2, HCN.out⟩⟩, by simp [intOf]; omega⟩
            · obtain ⟨hwn, hwm, hws⟩ := Sp.wv_no (m := m) (S := S) hok
              rw [hwm, hws] at HWR
              have hQL := Sp.wv_len S gg (k : Int)
              have HQS := Lib.hid (sa_size hQL)
              have HQ1 := Lib.hid (sa_one (Sp.wv S gg (k : Int)).1)
              clear hwm hws hok hQL HLS
              generalize sA (Sp.wv S gg (k : Int)).1 = Q at *
              generalize (Sp.wv S gg (k : Int)).2 = rn at *
              have hb0 : (rn == 0) = false := by simpa using hwn
              have hb1 : (rn != 0) = true := by simpa using hwn
              go_upto_region 10 with (first
                | ((with_reducible refine rng_load _ _ ab (ao + k * 3) A _ ?_ HRW.out Try.underlying54 ?_ (row_size Try.sizeGeo HAS) ?_); (exact rfl); (exact rfl))
                | (go_at_call 26; refine HWR.out.mono ?_; rintro e3 w3 ⟨rfl, HV3, HK3⟩)
                | ((with_reducible refine row_store _ _ _ _ _ _ _ ?_ ?_ (heap_alloc_new _ _) (row_size Try.sizeSum HQS) ?_ HQ1.out ?_); (exact rfl); (exact rfl); (rw [HQS.out, HSS.out]); intro w4 G4 ch4))
              have B34 : Hid (Below w3.heap.size w3 w4) := ch4.below ((Below.refl _ w3).alloc (Nat.le_refl _) _) (Nat.le_refl _)
              have HV4 := Lib.hid (HV3.out.old B34.out)
              have K4 : Hid (Kp K wr w4) := HK3.out.trans (Kp.of_below B34.out)
              go_wp2
              exact ⟨⟨k + 1, T, S, m, by omega, by go_num, HR.out.kp K4.out, HG.out.kp K4.out, HQ.out.kp K4.out, HW.out, HV4.out, ⟨HC.out.1, Nat.le_succ_of_le HC.out.2.1, fun j => Nat.le_trans (HC.out.2.2.1 j) (by omega), Nat.le_succ_of_le HC.out.2.2.2.1, Nat.le_succ_of_le HC.out.2.2.2.2.1, Nat.le_succ_of_le HC.out.2.2.2.2.2⟩⟩, by simp [intOf]; omega⟩
      · rw [decide_eq_false hlt]
        as_aux_lemma =>
          have HBn := Lib.hid (Sp.bs_len S T)
          have HGn := Lib.hid (Sp.gs_len T)
          have HMn := Lib.hid (Sp.ms_len S T)
          have HTA : Hid (∀ j (hj : j < T.length), (Sp.bs S T).getD j [] = Sp.by_ S (T[j]).1 (T[j]).2 ∧ (Sp.ms S T).getD j #[] = sA (Sp.sm S (Sp.by_ S (T[j]).1 (T[j]).2)) ∧ (Sp.gs T).getD j #[] = GA (T[j]).1) := fun j hj => Sp.tab_at j hj
          have HTE : Hid (∀ B, Sha.Byt B → _) := fun B hB => Sp.rv_tells HW.out (B := B) hB
          have HBYT : Hid (∀ j, j < T.length → Sha.Byt ((Sp.bs S T).getD j [])) := Sp.bs_byt S T
          have HNT : Hid (T.length ≤ 20) := by have := HC.out.2.2.2.2.2; show _ ≤ _; omega
          have HBW : Hid (Bs wr p2 c2 B) := HBB.out wr HV.out.low
          have HCP : Hid (Calls Try.prog 28 #[.slice p2 n2 c2] wr fun e w' => ∃ v, e = .returned v ∧ w'.ownsRow wr.heap.size 5 1 v n2 (U8s B) ∧ Below wr.heap.size wr w') := copybytes_any B p2 n2 c2 HBL.out (by have := HBL.out; omega) wr HBW.out.bat
          have hPK : Hid (∀ (x : Int) y, 0 < T.length → Calls Try.prog 12 #[.int .i64 x, .int .i64 (T.length : Int)] y fun r w' => w' = y ∧ ∃ j : Int, 0 ≤ j ∧ j < (T.length : Int) ∧ r = .returned (.int .i64 j)) := fun x y h => pickz_any _ _ (by omega) (by have := HNT.out; omega) y
          clear HGE HGO HEE HNN hlt
          go_upto_region 24 with (go_at_call 28; refine HCP.out.mono ?_; rintro e1 y1 ⟨v1, rfl, ho1, hb1⟩; have HO1 := Lib.hid ho1; have HB1 := Lib.hid hb1; clear ho1 hb1)
          have HV1 := Lib.hid (HV.out.old HB1.out)
          have HR1 := Lib.hid (HR.out.kp (Kp.of_below HB1.out))
          have HG1 := Lib.hid (HG.out.kp (Kp.of_below HB1.out))
          have HQ1 := Lib.hid (HQ.out.kp (Kp.of_below HB1.out))
          have HBA0 : Hid (Sha.Byt B ∧ y1.ownsRow K 5 1 v1 n2 (U8s B)) := ⟨HBW.out.bat.1, own_base HO1.out HV.out.size⟩
          obtain ⟨pa, ca, hva⟩ := own_len HBA0.out.2
          subst hva
          have HBA := HBA0
          clear HBA0 HO1 HB1 HR HG HQ HV HCP HBW
          by_cases hT0 : 0 < T.length
          · obtain ⟨b12, c12, _, _, hvr, _, _, _⟩ := HR1.out.at_ 0 (by rw [HBn.out]; exact hT0)
            rw [HBn.out] at hvr
            injection hvr with hv1 _ hv2
            subst hv1
            subst hv2
            go_cut [124] from 117 to 203 (fun v124 y => ∃ q : Bool, v124 = .bool q ∧ Hid (q = true → 0 < T.length) ∧ Hid (y1 = y))
            case first =>
              go_wp2
              go_meet
              case rel => exact ⟨_, rfl, fun _ => hT0, rfl⟩
            case rest =>
              obtain ⟨q, rfl, HQT, hwc⟩ := hcut
              have hwc := hwc.out
              subst hwc
              go_upto_if 124 with (fail)
              go_cut [24] from 117 to 203 (fun v24 y => ∃ (p : Option Addr) (n c : Nat) (Ly : List Int), v24 = .slice p n c ∧ Hid (Ly.length = n) ∧ Hid (Sha.Byt Ly ∧ y.ownsRow K 5 1 (.slice p n c) n (U8s Ly)) ∧ Hid (y1 = y))
              case first =>
                cases q with
                | true =>
                  have h0 := HQT.out rfl
                  go_wp2_with (go_at_call 12; refine (hPK.out _ _ h0).mono ?_; rintro e3 y3 ⟨rfl, jz, hj0, hj1, rfl⟩; obtain ⟨j, rfl⟩ := Int.eq_ofNat_of_zero_le hj0; obtain ⟨b9, c9, p9, dd, hvr, hkb, hcell, hown⟩ := HR1.out.at_ j (by rw [HBn.out]; omega); rw [HBn.out] at hvr; have hq9 : b9 = b12 := blk_of hvr.symm; rw [hq9] at hcell; clear hvr)
                  go_meet
                  case rel => exact ⟨_, _, _, _, rfl, rfl, ⟨HBYT.out j (by omega), hown⟩, rfl⟩
                | false =>
                  go_wp2
                  go_meet
                  case rel => exact ⟨_, _, _, B, rfl, HBL.out, HBA.out, rfl⟩
              case rest =>
                obtain ⟨pl, n, cl, Ly, rfl, HLY, HBY, hwc⟩ := hcut
                have hwc := hwc.out
                subst hwc
                clear HQT hPK HBA
                as_aux_lemma =>
                  by_cases hbig : (n : Int) > 1024
                  · go_wp2_with (go_at_call 18; refine (HKN.out _).mono ?_; rintro e3 w3 ⟨rfl, hb3⟩; have HB3 := Lib.hid (HV1.out.low.trans (hb3.mono HV1.out.low.size)))
                    go_ret
                    exact ⟨rfl, HB3.out⟩
                  have hn1 : n ≤ 1024 := by omega
                  have hlm := HLY.out
                  obtain ⟨pq, cq, hvq, hbq, _⟩ := own_bs HBY.out.2 HBY.out.1
                  rw [HLY.out] at hvq
                  injection hvq with g1 g2 g3
                  subst g1
                  subst g3
                  have HTM := Lib.hid (vu_tamper 0 Ly pl n cl HLY.out (by omega) HV1.out hbq)
                  have htp : Dk.tpM m 0 Ly = Dk.over m 0 Ly := HC.out.1.tpM 0 (by omega) Ly (by omega)
                  unfold VuSay at HTM
                  rw [htp] at HTM
                  have HTY := Lib.hid (HTE.out Ly HBY.out.1)
                  clear htp hbig
                  go_upto_region 29 with (go_at_call 11; refine HTM.out.mono ?_; rintro e4 w4 ⟨rfl, HV4, HK4⟩)
                  have HR4 := Lib.hid (HR1.out.kp HK4.out)
                  have HG4 := Lib.hid (HG1.out.kp HK4.out)
                  have HQ4 := Lib.hid (HQ1.out.kp HK4.out)
                  have HY4 := Lib.hid (own_kp HBY.out.2 HK4.out (Nat.le_refl _))
                  clear hbq
                  have HRR := Lib.hid (vu_read HW.out (HC.out.1.over 0 Ly) HV4.out (fun j => by have := HC.out.2.2.1 j; show m.rd j ≤ _; omega) (by have := HC.out.2.2.2.2.1; omega))
                  unfold VuRr at HRR
                  rw [Sp.peek_over] at HRR
                  have hrl := Sp.rv_len S Ly
                  have hnil : Ly = [] → (Sp.rv S Ly).2.2 = 9 := fun h => by rw [h, Sp.rv_nil]
                  generalize Dk.rdM (Dk.over m 0 Ly) 0 = m5 at *
                  generalize hrv : Sp.rv S Ly = R at *
                  obtain ⟨rg, rs, rn⟩ := R
                  dsimp only at hrl hnil HRR
                  obtain ⟨A, eA, hA⟩ := gk rg
                  have eA2 : GA rg = A := by unfold GV at eA; injection eA
                  have HAS := Lib.hid hA.size
                  have HA1 := Lib.hid hA.one
                  have HSZ := Lib.hid (sa_size hrl)
                  have HSO := Lib.hid (sa_one rs)
                  rw [eA, a32_is] at HRR
                  obtain ⟨Q, hQ⟩ : ∃ Q, sA rs = Q := ⟨_, rfl⟩
                  rw [hQ] at HRR HSZ HSO
                  have HFA : Hid (∀ j, j < T.length → (Sp.bs S T).getD j [] = Ly → rn = 0 ∧ (Sp.gs T).getD j #[] = A ∧ (Sp.ms S T).getD j #[] = Q) := fun j hj h => by
                    have h3 := HTY.out.1 j hj h
                    injection h3 with h4 h5
                    injection h5 with h5 h6
                    refine ⟨h6, ?_, ?_⟩
                    · rw [(HTA.out j hj).2.2, ← h4, eA2]
                    · rw [(HTA.out j hj).2.1, ← h5, hQ]
                  have HFB : Hid ((∀ j, j < T.length → (Sp.bs S T).getD j [] ≠ Ly) → Ly ≠ [] → rn = 14 ∧ A = Z ∧ Q = S0) := fun h hne => by
                    have h3 := HTY.out.2 h hne
                    injection h3 with h4 h5
                    injection h5 with h5 h6
                    refine ⟨h6, ?_, ?_⟩
                    · have q := HZV.out
                      rw [← h4, eA] at q
                      injection q
                    · have q := HSV.out
                      rw [← h5, a32_is, hQ] at q
                      injection q
                  have HGQ : Hid (∀ y, (Op.equalIn 10000 54 (.agg A) (.agg A)).run Try.prog y = .ok true y) := fun y => by have h := geo_eq rg rg y; rw [decide_eq_true rfl, eA] at h; exact h
                  have HQQ : Hid (∀ y, (Op.equalIn 10000 34 (.agg Q) (.agg Q)).run Try.prog y = .ok true y) := fun y => by have h := a32_eq _ _ hrl hrl y; rw [decide_eq_true rfl, a32_is, hQ] at h; exact h
                  have HNIL := Lib.hid hnil
                  clear hrl hnil hrv eA eA2 hA hQ HTY HTE HTA HTM HR1 HG1 HQ1 HC HW
                  go_upto_region 30 with (first
                    | (go_at_call 27; refine HRR.out.mono ?_; rintro e6 w6 ⟨rfl, HV6, HK6⟩)
                    | ((with_reducible refine row_store _ _ _ _ _ _ _ ?_ ?_ (heap_alloc2_old _ _ _) (row_size Try.sizeGeo HAS) ?_ HA1.out ?_); (exact rfl); (exact rfl); (rw [HAS.out, HZS.out]); intro wg6 Gg6 cg6)
                    | ((with_reducible refine row_store _ _ _ _ _ _ _ ?_ ?_ ((cg6.block _ (by simp)).trans (heap_alloc2_new _ _ _)) (row_size Try.sizeSum HSZ) ?_ HSO.out ?_); (exact rfl); (exact rfl); (rw [HSZ.out, HSS.out]); intro ws6 Gs6 cs6))
                  have Bt6 : Hid (Below w6.heap.size w6 ws6) := cs6.below (cg6.below (((Below.refl _ w6).alloc (Nat.le_refl _) _).alloc (by simp) _) (Nat.le_refl _)) (by simp)
                  have Gh6 : Hid (ws6.heap[w6.heap.size]? = some (.cells A 54 (0, 0))) := (cs6.block _ (by simp)).trans Gg6.out
                  have Kt6 : Hid (Kp K w4 ws6) := HK6.out.trans (Kp.of_below Bt6.out)
                  have HV7 := Lib.hid (HV6.out.old Bt6.out)
                  have HR7 := Lib.hid (HR4.out.kp Kt6.out)
                  have HG7 := Lib.hid (HG4.out.kp Kt6.out)
                  have HQ7 := Lib.hid (HQ4.out.kp Kt6.out)
                  have HB7 : Hid (Bs ws6 pl cl Ly) := by
                    obtain ⟨pq, cq, hvq, hbq, _⟩ := own_bs (own_kp HY4.out Kt6.out (Nat.le_refl _)) HBY.out.1
                    rw [HLY.out] at hvq
                    injection hvq with g1 g2 g3
                    subst g1
                    subst g3
                    exact hbq
                  have HL7 : Hid (Below w.heap.size w ws6) := HV7.out.low
                  clear HV4 HK4 HY4 HR4 HG4 HQ4 HRR HV6 HK6 Kt6 Bt6 Gg6 cg6 cs6 HV7 HV1
                  generalize w6.heap.size = b25 at *
                  by_cases hn0 : n = 0
                  · have hLn : Ly = [] := List.eq_nil_of_length_eq_zero (by rw [HLY.out, hn0])
                    have h9 := HNIL.out hLn
                    subst h9
                    subst hn0
                    go_wp2_with (go_at_call 18; refine (HKN.out _).mono ?_; rintro e8 w8 ⟨rfl, hb8⟩; have HB8 := Lib.hid (HL7.out.trans (hb8.mono HL7.out.size)))
                    go_ret
                    exact ⟨rfl, HB8.out⟩
                  have hne : Ly ≠ [] := fun h => hn0 (by rw [← HLY.out, h]; rfl)
                  have HNE := Lib.hid hne
                  have hni : ¬ (n : Int) = 0 := by omega
                  have hnb : ((n : Int) == 0) = false := by simpa using hn0
                  clear hne HNIL
                  go_wp2
                  go_loopw [28] (fun v28 wr2 => ∃ j : Nat, j ≤ T.length ∧ v28 = .int .i64 (j : Int) ∧ Hid (∀ i, i < j → (Sp.bs S T).getD i [] ≠ Ly) ∧ Hid (Below ws6.heap.size ws6 wr2)) (fun v28 _ => T.length - (intOf v28).toNat)
                  case atStart => exact ⟨0, by omega, rfl, fun i hi => by omega, Below.refl _ _⟩
                  case round =>
                    obtain ⟨j, hj, rfl, HNO, HBJ⟩ := hrel
                    have HLW : Hid (Below w.heap.size w wr) := HL7.out.trans (HBJ.out.mono HL7.out.size)
                    have HBYW := Lib.hid (HB7.out.old HBJ.out)
                    have GaW : Hid (wr.heap[b25]? = some (.cells A 54 (0, 0))) := (HBJ.out.block _ (lt_of_block Gh6.out)).trans Gh6.out
                    have GsW : Hid (wr.heap[b25 + 1]? = some (.cells Q 34 (0, 0))) := (HBJ.out.block _ (lt_of_block Gs6.out)).trans Gs6.out
                    have HRW := Lib.hid (HR7.out.kp (Kp.of_below HBJ.out))
                    have HGW := Lib.hid (HG7.out.kp (Kp.of_below HBJ.out))
                    have HQW := Lib.hid (HQ7.out.kp (Kp.of_below HBJ.out))
                    have hT20 : T.length ≤ 20 := HNT.out
                    by_cases hjl : j < T.length
                    · have hji : (j : Int) < (T.length : Int) := by omega
                      have hj0 : (0 : Int) ≤ (j : Int) := by omega
                      obtain ⟨br, cr, pr, dr, hvr, hkb, hcell, hown⟩ := HRW.out.at_ j (by rw [HBn.out]; exact hjl)
                      rw [HBn.out] at hvr
                      injection hvr with hv1 _ hv2
                      first
                        | subst hv1
                        | (injection hv1 with hv1; injection hv1 with hv1 _ _; subst hv1)
                      subst hv2
                      obtain ⟨p5, c5, hv5, hb5, _⟩ := own_bs hown (HBYT.out j hjl)
                      injection hv5 with g1 g2 g3
                      subst g1
                      subst g3
                      have HB5 := Lib.hid hb5
                      have hbl : ((Sp.bs S T).getD j []).length ≤ 10000000 := by have := hb5.cap; exact Nat.le_trans (Sp.bs_le S T j) (by omega)
                      have HSB := Lib.hid (same_all ((Sp.bs S T).getD j []) Ly pr pl _ n dr cl rfl HLY.out wr hb5.bat HBYW.out.bat hbl)
                      clear hb5 hown
                      by_cases heq : (Sp.bs S T).getD j [] = Ly
                      · as_aux_lemma =>
                          obtain ⟨h0, hgj, hmj⟩ := HFA.out j hjl heq
                          rw [decide_eq_true heq] at HSB
                          obtain ⟨bg, cg, hvg, _, hrg⟩ := HGW.out.rng j (by rw [HGn.out]; exact hjl)
                          obtain ⟨bm, cm, hvm, _, hrm⟩ := HQW.out.rng j (by rw [HMn.out]; exact hjl)
                          rw [HGn.out] at hvg
                          rw [HMn.out] at hvm
                          injection hvg with hg1 _ hg2
                          injection hvm with hm1 _ hm2
                          subst hg1
                          subst hg2
                          subst hm1
                          subst hm2
                          rw [hgj] at hrg
                          rw [hmj] at hrm
                          subst h0
                          have HRG := Lib.hid hrg
                          have HRM := Lib.hid hrm
                          clear hrg hrm hgj hmj heq HFA HFB
                          generalize (Sp.bs S T).getD j [] = Bj at *
                          generalize Bj.length = nj at *
                          go_upto_region 36 with (go_at_call 24; refine HSB.out.mono ?_; rintro e9 w9 ⟨rfl, hb9⟩; have HB9 := Lib.hid hb9; clear hb9)
                          refine wp_region_any (by kernel_rfl) ?_
                          change wpAny _ _ _ _ _ _ _ (World.drew _)
                          have KZ : Hid (∀ y, Below w9.drew.heap.size w9.drew y → y.heap[b25]? = some (.cells A 54 (0, 0)) ∧ y.rangeAt bg (j * 3) A.toList ∧ y.heap[b25 + 1]? = some (.cells Q 34 (0, 0)) ∧ y.rangeAt bm (j * 32) Q.toList) := fun y hy => by
                            have hz : Below wr.heap.size wr y := HB9.out.drew.trans (hy.mono HB9.out.size)
                            exact ⟨(hz.block _ (lt_of_block GaW.out)).trans GaW.out, rng_old HRG.out hz, (hz.block _ (lt_of_block GsW.out)).trans GsW.out, rng_old HRM.out hz⟩
                          have HZL : Hid (Below w.heap.size w w9.drew) := (HLW.out.trans (HB9.out.mono HLW.out.size)).drew
                          obtain ⟨z, hz'⟩ : ∃ x, x = w9.drew := ⟨_, rfl⟩
                          rw [← hz'] at KZ HZL ⊢
                          clear hz'
                          have D0 : Hid (Below z.heap.size z z) := Below.refl _ _
                          have he1 := HGQ.out
                          have he2 := HQQ.out
                          refine wpAny_of_held (S := fun y => y.heap[b25]? = some (.cells A 54 (0, 0)) ∧ y.rangeAt bg (j * 3) A.toList ∧ y.heap[b25 + 1]? = some (.cells Q 34 (0, 0)) ∧ y.rangeAt bm (j * 32) Q.toList) _ _ _ _ ?_
                          have SD := KZ.out _ D0.out
                          refine anyH_take 0 168 (.int .i64 0) SD rfl (by kernel_rfl) (by kernel_rfl) (by kernel_rfl) (fun _ _ _ h => h) (by rfl) (by intro x hx; have y0 := hx; (first | exact exec_arr 54 (.tmp 25) b25 0 A _ rfl (row_rng hx.1) Try.underlying54 rfl (row_size Try.sizeGeo HAS) | exact exec_arr 54 (.tmp 174) bg (j * 3) A _ rfl hx.2.1 Try.underlying54 rfl (row_size Try.sizeGeo HAS) | exact exec_arr 34 (.tmp 26) (b25 + 1) 0 Q _ rfl (row_rng hx.2.2.1) Try.underlying34 rfl (row_size Try.sizeSum HSZ) | exact exec_arr 34 (.tmp 182) bm (j * 32) Q _ rfl hx.2.2.2 Try.underlying34 rfl (row_size Try.sizeSum HSZ) | go_simp); try (intro h; omega)) ?_
                          try simp only [Act.put, List.setIfInBounds_toArray, List.set_cons_zero, List.set_cons_succ]
                          refine anyH_take 1 169 (.bool true) SD rfl (by kernel_rfl) (by kernel_rfl) (by kernel_rfl) (fun _ _ _ h => h) (by rfl) (by intro x hx; have y0 := hx; (first | exact exec_arr 54 (.tmp 25) b25 0 A _ rfl (row_rng hx.1) Try.underlying54 rfl (row_size Try.sizeGeo HAS) | exact exec_arr 54 (.tmp 174) bg (j * 3) A _ rfl hx.2.1 Try.underlying54 rfl (row_size Try.sizeGeo HAS) | exact exec_arr 34 (.tmp 26) (b25 + 1) 0 Q _ rfl (row_rng hx.2.2.1) Try.underlying34 rfl (row_size Try.sizeSum HSZ) | exact exec_arr 34 (.tmp 182) bm (j * 32) Q _ rfl hx.2.2.2 Try.underlying34 rfl (row_size Try.sizeSum HSZ) | go_simp); try (intro h; omega)) ?_
                          try simp only [Act.put, List.setIfInBounds_toArray, List.set_cons_zero, List.set_cons_succ]
                          refine anyH_take 2 170 (.bool true) SD rfl (by kernel_rfl) (by kernel_rfl) (by kernel_rfl) (fun _ _ _ h => h) (by rfl) (by intro x hx; have y0 := hx; (first | exact exec_arr 54 (.tmp 25) b25 0 A _ rfl (row_rng hx.1) Try.underlying54 rfl (row_size Try.sizeGeo HAS) | exact exec_arr 54 (.tmp 174) bg (j * 3) A _ rfl hx.2.1 Try.underlying54 rfl (row_size Try.sizeGeo HAS) | exact exec_arr 34 (.tmp 26) (b25 + 1) 0 Q _ rfl (row_rng hx.2.2.1) Try.underlying34 rfl (row_size Try.sizeSum HSZ) | exact exec_arr 34 (.tmp 182) bm (j * 32) Q _ rfl hx.2.2.2 Try.underlying34 rfl (row_size Try.sizeSum HSZ) | go_simp); try (intro h; omega)) ?_
                          try simp only [Act.put, List.setIfInBounds_toArray, List.set_cons_zero, List.set_cons_succ]
                          refine anyH_take 3 171 (.agg A) SD rfl (by kernel_rfl) (by kernel_rfl) (by kernel_rfl) (fun _ _ _ h => h) (by rfl) (by intro x hx; have y0 := hx; (first | exact exec_arr 54 (.tmp 25) b25 0 A _ rfl (row_rng hx.1) Try.underlying54 rfl (row_size Try.sizeGeo HAS) | exact exec_arr 54 (.tmp 174) bg (j * 3) A _ rfl hx.2.1 Try.underlying54 rfl (row_size Try.sizeGeo HAS) | exact exec_arr 34 (.tmp 26) (b25 + 1) 0 Q _ rfl (row_rng hx.2.2.1) Try.underlying34 rfl (row_size Try.sizeSum HSZ) | exact exec_arr 34 (.tmp 182) bm (j * 32) Q _ rfl hx.2.2.2 Try.underlying34 rfl (row_size Try.sizeSum HSZ) | go_simp); try (intro h; omega)) ?_
                          try simp only [Act.put, List.setIfInBounds_toArray, List.set_cons_zero, List.set_cons_succ]
                          refine anyH_take 4 172 (.slice (some ⟨bg, 0, none⟩) T.length d13) SD rfl (by kernel_rfl) (by kernel_rfl) (by kernel_rfl) (fun _ _ _ h => h) (by rfl) (by intro x hx; have y0 := hx; (first | exact exec_arr 54 (.tmp 25) b25 0 A _ rfl (row_rng hx.1) Try.underlying54 rfl (row_size Try.sizeGeo HAS) | exact exec_arr 54 (.tmp 174) bg (j * 3) A _ rfl hx.2.1 Try.underlying54 rfl (row_size Try.sizeGeo HAS) | exact exec_arr 34 (.tmp 26) (b25 + 1) 0 Q _ rfl (row_rng hx.2.2.1) Try.underlying34 rfl (row_size Try.sizeSum HSZ) | exact exec_arr 34 (.tmp 182) bm (j * 32) Q _ rfl hx.2.2.2 Try.underlying34 rfl (row_size Try.sizeSum HSZ) | go_simp); try (intro h; omega)) ?_
                          try simp only [Act.put, List.setIfInBounds_toArray, List.set_cons_zero, List.set_cons_succ]
                          refine anyH_take 5 173 (.int .i64 (j : Int)) SD rfl (by kernel_rfl) (by kernel_rfl) (by kernel_rfl) (fun _ _ _ h => h) (by rfl) (by intro x hx; have y0 := hx; (first | exact exec_arr 54 (.tmp 25) b25 0 A _ rfl (row_rng hx.1) Try.underlying54 rfl (row_size Try.sizeGeo HAS) | exact exec_arr 54 (.tmp 174) bg (j * 3) A _ rfl hx.2.1 Try.underlying54 rfl (row_size Try.sizeGeo HAS) | exact exec_arr 34 (.tmp 26) (b25 + 1) 0 Q _ rfl (row_rng hx.2.2.1) Try.underlying34 rfl (row_size Try.sizeSum HSZ) | exact exec_arr 34 (.tmp 182) bm (j * 32) Q _ rfl hx.2.2.2 Try.underlying34 rfl (row_size Try.sizeSum HSZ) | go_simp); try (intro h; omega)) ?_
                          try simp only [Act.put, List.setIfInBounds_toArray, List.set_cons_zero, List.set_cons_succ]
                          refine anyH_take 6 174 (.pointer (some ⟨bg, (j * 3), none⟩)) SD rfl (by kernel_rfl) (by kernel_rfl) (by kernel_rfl) (fun _ _ _ h => h) (by rfl) (by intro x hx; have y0 := hx; (first | exact exec_arr 54 (.tmp 25) b25 0 A _ rfl (row_rng hx.1) Try.underlying54 rfl (row_size Try.sizeGeo HAS) | exact exec_arr 54 (.tmp 174) bg (j * 3) A _ rfl hx.2.1 Try.underlying54 rfl (row_size Try.sizeGeo HAS) | exact exec_arr 34 (.tmp 26) (b25 + 1) 0 Q _ rfl (row_rng hx.2.2.1) Try.underlying34 rfl (row_size Try.sizeSum HSZ) | exact exec_arr 34 (.tmp 182) bm (j * 32) Q _ rfl hx.2.2.2 Try.underlying34 rfl (row_size Try.sizeSum HSZ) | go_simp); try (intro h; omega)) ?_
                          try simp only [Act.put, List.setIfInBounds_toArray, List.set_cons_zero, List.set_cons_succ]
                          refine anyH_take 7 175 (.agg A) SD rfl (by kernel_rfl) (by kernel_rfl) (by kernel_rfl) (fun _ _ _ h => h) (by rfl) (by intro x hx; have y0 := hx; (first | exact exec_arr 54 (.tmp 25) b25 0 A _ rfl (row_rng hx.1) Try.underlying54 rfl (row_size Try.sizeGeo HAS) | exact exec_arr 54 (.tmp 174) bg (j * 3) A _ rfl hx.2.1 Try.underlying54 rfl (row_size Try.sizeGeo HAS) | exact exec_arr 34 (.tmp 26) (b25 + 1) 0 Q _ rfl (row_rng hx.2.2.1) Try.underlying34 rfl (row_size Try.sizeSum HSZ) | exact exec_arr 34 (.tmp 182) bm (j * 32) Q _ rfl hx.2.2.2 Try.underlying34 rfl (row_size Try.sizeSum HSZ) | go_simp); try (intro h; omega)) ?_
                          try simp only [Act.put, List.setIfInBounds_toArray, List.set_cons_zero, List.set_cons_succ]
                          refine anyH_take 8 176 (.bool true) SD rfl (by kernel_rfl) (by kernel_rfl) (by kernel_rfl) (fun _ _ _ h => h) (by rfl) (by intro x hx; have y0 := hx; (first | exact exec_arr 54 (.tmp 25) b25 0 A _ rfl (row_rng hx.1) Try.underlying54 rfl (row_size Try.sizeGeo HAS) | exact exec_arr 54 (.tmp 174) bg (j * 3) A _ rfl hx.2.1 Try.underlying54 rfl (row_size Try.sizeGeo HAS) | exact exec_arr 34 (.tmp 26) (b25 + 1) 0 Q _ rfl (row_rng hx.2.2.1) Try.underlying34 rfl (row_size Try.sizeSum HSZ) | exact exec_arr 34 (.tmp 182) bm (j * 32) Q _ rfl hx.2.2.2 Try.underlying34 rfl (row_size Try.sizeSum HSZ) | go_simp); try (intro h; omega)) ?_
                          try simp only [Act.put, List.setIfInBounds_toArray, List.set_cons_zero, List.set_cons_succ]
                          refine anyH_take 9 177 (.bool true) SD rfl (by kernel_rfl) (by kernel_rfl) (by kernel_rfl) (fun _ _ _ h => h) (by rfl) (by intro x hx; have y0 := hx; (first | exact exec_arr 54 (.tmp 25) b25 0 A _ rfl (row_rng hx.1) Try.underlying54 rfl (row_size Try.sizeGeo HAS) | exact exec_arr 54 (.tmp 174) bg (j * 3) A _ rfl hx.2.1 Try.underlying54 rfl (row_size Try.sizeGeo HAS) | exact exec_arr 34 (.tmp 26) (b25 + 1) 0 Q _ rfl (row_rng hx.2.2.1) Try.underlying34 rfl (row_size Try.sizeSum HSZ) | exact exec_arr 34 (.tmp 182) bm (j * 32) Q _ rfl hx.2.2.2 Try.underlying34 rfl (row_size Try.sizeSum HSZ) | go_simp); try (intro h; omega)) ?_
                          try simp only [Act.put, List.setIfInBounds_toArray, List.set_cons_zero, List.set_cons_succ]
                          refine anyH_take 10 178 (.bool true) SD rfl (by kernel_rfl) (by kernel_rfl) (by kernel_rfl) (fun _ _ _ h => h) (by rfl) (by intro x hx; have y0 := hx; (first | exact exec_arr 54 (.tmp 25) b25 0 A _ rfl (row_rng hx.1) Try.underlying54 rfl (row_size Try.sizeGeo HAS) | exact exec_arr 54 (.tmp 174) bg (j * 3) A _ rfl hx.2.1 Try.underlying54 rfl (row_size Try.sizeGeo HAS) | exact exec_arr 34 (.tmp 26) (b25 + 1) 0 Q _ rfl (row_rng hx.2.2.1) Try.underlying34 rfl (row_size Try.sizeSum HSZ) | exact exec_arr 34 (.tmp 182) bm (j * 32) Q _ rfl hx.2.2.2 Try.underlying34 rfl (row_size Try.sizeSum HSZ) | go_simp); try (intro h; omega)) ?_
                          try simp only [Act.put, List.setIfInBounds_toArray, List.set_cons_zero, List.set_cons_succ]
                          refine anyH_take 11 179 (.agg Q) SD rfl (by kernel_rfl) (by kernel_rfl) (by kernel_rfl) (fun _ _ _ h => h) (by rfl) (by intro x hx; have y0 := hx; (first | exact exec_arr 54 (.tmp 25) b25 0 A _ rfl (row_rng hx.1) Try.underlying54 rfl (row_size Try.sizeGeo HAS) | exact exec_arr 54 (.tmp 174) bg (j * 3) A _ rfl hx.2.1 Try.underlying54 rfl (row_size Try.sizeGeo HAS) | exact exec_arr 34 (.tmp 26) (b25 + 1) 0 Q _ rfl (row_rng hx.2.2.1) Try.underlying34 rfl (row_size Try.sizeSum HSZ) | exact exec_arr 34 (.tmp 182) bm (j * 32) Q _ rfl hx.2.2.2 Try.underlying34 rfl (row_size Try.sizeSum HSZ) | go_simp); try (intro h; omega)) ?_
                          try simp only [Act.put, List.setIfInBounds_toArray, List.set_cons_zero, List.set_cons_succ]
                          refine anyH_take 12 180 (.slice (some ⟨bm, 0, none⟩) T.length d14) SD rfl (by kernel_rfl) (by kernel_rfl) (by kernel_rfl) (fun _ _ _ h => h) (by rfl) (by intro x hx; have y0 := hx; (first | exact exec_arr 54 (.tmp 25) b25 0 A _ rfl (row_rng hx.1) Try.underlying54 rfl (row_size Try.sizeGeo HAS) | exact exec_arr 54 (.tmp 174) bg (j * 3) A _ rfl hx.2.1 Try.underlying54 rfl (row_size Try.sizeGeo HAS) | exact exec_arr 34 (.tmp 26) (b25 + 1) 0 Q _ rfl (row_rng hx.2.2.1) Try.underlying34 rfl (row_size Try.sizeSum HSZ) | exact exec_arr 34 (.tmp 182) bm (j * 32) Q _ rfl hx.2.2.2 Try.underlying34 rfl (row_size Try.sizeSum HSZ) | go_simp); try (intro h; omega)) ?_
                          try simp only [Act.put, List.setIfInBounds_toArray, List.set_cons_zero, List.set_cons_succ]
                          refine anyH_take 13 181 (.int .i64 (j : Int)) SD rfl (by kernel_rfl) (by kernel_rfl) (by kernel_rfl) (fun _ _ _ h => h) (by rfl) (by intro x hx; have y0 := hx; (first | exact exec_arr 54 (.tmp 25) b25 0 A _ rfl (row_rng hx.1) Try.underlying54 rfl (row_size Try.sizeGeo HAS) | exact exec_arr 54 (.tmp 174) bg (j * 3) A _ rfl hx.2.1 Try.underlying54 rfl (row_size Try.sizeGeo HAS) | exact exec_arr 34 (.tmp 26) (b25 + 1) 0 Q _ rfl (row_rng hx.2.2.1) Try.underlying34 rfl (row_size Try.sizeSum HSZ) | exact exec_arr 34 (.tmp 182) bm (j * 32) Q _ rfl hx.2.2.2 Try.underlying34 rfl (row_size Try.sizeSum HSZ) | go_simp); try (intro h; omega)) ?_
                          try simp only [Act.put, List.setIfInBounds_toArray, List.set_cons_zero, List.set_cons_succ]
                          refine anyH_take 14 182 (.pointer (some ⟨bm, (j * 32), none⟩)) SD rfl (by kernel_rfl) (by kernel_rfl) (by kernel_rfl) (fun _ _ _ h => h) (by rfl) (by intro x hx; have y0 := hx; (first | exact exec_arr 54 (.tmp 25) b25 0 A _ rfl (row_rng hx.1) Try.underlying54 rfl (row_size Try.sizeGeo HAS) | exact exec_arr 54 (.tmp 174) bg (j * 3) A _ rfl hx.2.1 Try.underlying54 rfl (row_size Try.sizeGeo HAS) | exact exec_arr 34 (.tmp 26) (b25 + 1) 0 Q _ rfl (row_rng hx.2.2.1) Try.underlying34 rfl (row_size Try.sizeSum HSZ) | exact exec_arr 34 (.tmp 182) bm (j * 32) Q _ rfl hx.2.2.2 Try.underlying34 rfl (row_size Try.sizeSum HSZ) | go_simp); try (intro h; omega)) ?_
                          try simp only [Act.put, List.setIfInBounds_toArray, List.set_cons_zero, List.set_cons_succ]
                          refine anyH_take 15 183 (.agg Q) SD rfl (by kernel_rfl) (by kernel_rfl) (by kernel_rfl) (fun _ _ _ h => h) (by rfl) (by intro x hx; have y0 := hx; (first | exact exec_arr 54 (.tmp 25) b25 0 A _ rfl (row_rng hx.1) Try.underlying54 rfl (row_size Try.sizeGeo HAS) | exact exec_arr 54 (.tmp 174) bg (j * 3) A _ rfl hx.2.1 Try.underlying54 rfl (row_size Try.sizeGeo HAS) | exact exec_arr 34 (.tmp 26) (b25 + 1) 0 Q _ rfl (row_rng hx.2.2.1) Try.underlying34 rfl (row_size Try.sizeSum HSZ) | exact exec_arr 34 (.tmp 182) bm (j * 32) Q _ rfl hx.2.2.2 Try.underlying34 rfl (row_size Try.sizeSum HSZ) | go_simp); try (intro h; omega)) ?_
                          try simp only [Act.put, List.setIfInBounds_toArray, List.set_cons_zero, List.set_cons_succ]
                          refine anyH_take 16 184 (.bool true) SD rfl (by kernel_rfl) (by kernel_rfl) (by kernel_rfl) (fun _ _ _ h => h) (by rfl) (by intro x hx; have y0 := hx; (first | exact exec_arr 54 (.tmp 25) b25 0 A _ rfl (row_rng hx.1) Try.underlying54 rfl (row_size Try.sizeGeo HAS) | exact exec_arr 54 (.tmp 174) bg (j * 3) A _ rfl hx.2.1 Try.underlying54 rfl (row_size Try.sizeGeo HAS) | exact exec_arr 34 (.tmp 26) (b25 + 1) 0 Q _ rfl (row_rng hx.2.2.1) Try.underlying34 rfl (row_size Try.sizeSum HSZ) | exact exec_arr 34 (.tmp 182) bm (j * 32) Q _ rfl hx.2.2.2 Try.underlying34 rfl (row_size Try.sizeSum HSZ) | go_simp); try (intro h; omega)) ?_
                          try simp only [Act.put, List.setIfInBounds_toArray, List.set_cons_zero, List.set_cons_succ]
                          refine anyH_take 17 185 (.bool true) SD rfl (by kernel_rfl) (by kernel_rfl) (by kernel_rfl) (fun _ _ _ h => h) (by rfl) (by intro x hx; have y0 := hx; (first | exact exec_arr 54 (.tmp 25) b25 0 A _ rfl (row_rng hx.1) Try.underlying54 rfl (row_size Try.sizeGeo HAS) | exact exec_arr 54 (.tmp 174) bg (j * 3) A _ rfl hx.2.1 Try.underlying54 rfl (row_size Try.sizeGeo HAS) | exact exec_arr 34 (.tmp 26) (b25 + 1) 0 Q _ rfl (row_rng hx.2.2.1) Try.underlying34 rfl (row_size Try.sizeSum HSZ) | exact exec_arr 34 (.tmp 182) bm (j * 32) Q _ rfl hx.2.2.2 Try.underlying34 rfl (row_size Try.sizeSum HSZ) | go_simp); try (intro h; omega)) ?_
                          try simp only [Act.put, List.setIfInBounds_toArray, List.set_cons_zero, List.set_cons_succ]
                          refine anyH_take 18 186 (.bool true) SD rfl (by kernel_rfl) (by kernel_rfl) (by kernel_rfl) (fun _ _ _ h => h) (by rfl) (by intro x hx; have y0 := hx; (first | exact exec_arr 54 (.tmp 25) b25 0 A _ rfl (row_rng hx.1) Try.underlying54 rfl (row_size Try.sizeGeo HAS) | exact exec_arr 54 (.tmp 174) bg (j * 3) A _ rfl hx.2.1 Try.underlying54 rfl (row_size Try.sizeGeo HAS) | exact exec_arr 34 (.tmp 26) (b25 + 1) 0 Q _ rfl (row_rng hx.2.2.1) Try.underlying34 rfl (row_size Try.sizeSum HSZ) | exact exec_arr 34 (.tmp 182) bm (j * 32) Q _ rfl hx.2.2.2 Try.underlying34 rfl (row_size Try.sizeSum HSZ) | go_simp); try (intro h; omega)) ?_
                          try simp only [Act.put, List.setIfInBounds_toArray, List.set_cons_zero, List.set_cons_succ]
                          refine anyH_one 19 (by kernel_rfl) ?_
                          refine wpOp_step rfl (fun Kc hKc => ?_)
                          go_simp
                          refine (HKN.out _).mono ?_
                          rintro e21 z1 ⟨rfl, HBz1⟩
                          have D1 := Lib.hid (D0.out.trans (HBz1.mono D0.out.size))
                          dsimp only
                          refine hKc _ _ ⟨KZ.out _ D1.out, ?_⟩
                          clear hKc Kc
                          try simp only [Act.put, List.setIfInBounds_toArray, List.set_cons_zero, List.set_cons_succ]
                          clear SD
                          have SD := KZ.out _ D1.out
                          refine anyH_take 20 188 (.bool true) SD rfl (by kernel_rfl) (by kernel_rfl) (by kernel_rfl) (fun _ _ _ h => h) (by rfl) (by intro x hx; have y0 := hx; (first | exact exec_arr 54 (.tmp 25) b25 0 A _ rfl (row_rng hx.1) Try.underlying54 rfl (row_size Try.sizeGeo HAS) | exact exec_arr 54 (.tmp 174) bg (j * 3) A _ rfl hx.2.1 Try.underlying54 rfl (row_size Try.sizeGeo HAS) | exact exec_arr 34 (.tmp 26) (b25 + 1) 0 Q _ rfl (row_rng hx.2.2.1) Try.underlying34 rfl (row_size Try.sizeSum HSZ) | exact exec_arr 34 (.tmp 182) bm (j * 32) Q _ rfl hx.2.2.2 Try.underlying34 rfl (row_size Try.sizeSum HSZ) | go_simp); try (intro h; omega)) ?_
                          try simp only [Act.put, List.setIfInBounds_toArray, List.set_cons_zero, List.set_cons_succ]
                          refine anyH_take 21 8 (.bool true) SD rfl (by kernel_rfl) (by kernel_rfl) (by kernel_rfl) (fun _ _ _ h => h) (by rfl) (by intro x hx; have y0 := hx; (first | exact exec_arr 54 (.tmp 25) b25 0 A _ rfl (row_rng hx.1) Try.underlying54 rfl (row_size Try.sizeGeo HAS) | exact exec_arr 54 (.tmp 174) bg (j * 3) A _ rfl hx.2.1 Try.underlying54 rfl (row_size Try.sizeGeo HAS) | exact exec_arr 34 (.tmp 26) (b25 + 1) 0 Q _ rfl (row_rng hx.2.2.1) Try.underlying34 rfl (row_size Try.sizeSum HSZ) | exact exec_arr 34 (.tmp 182) bm (j * 32) Q _ rfl hx.2.2.2 Try.underlying34 rfl (row_size Try.sizeSum HSZ) | go_simp); try (intro h; omega)) ?_
                          try simp only [Act.put, List.setIfInBounds_toArray, List.set_cons_zero, List.set_cons_succ]
                          refine wpAnyH_done (by kernel_rfl) ?_ _
                          go_wp2
                          go_ret
                          exact ⟨rfl, HZL.out.trans (D1.out.mono HZL.out.size)⟩
                      · as_aux_lemma =>
                          rw [decide_eq_false heq] at HSB
                          have HNJ : Hid (∀ i, i < j + 1 → (Sp.bs S T).getD i [] ≠ Ly) := fun i hi => by
                            by_cases q : i < j
                            · exact HNO.out i q
                            · obtain rfl : i = j := by omega
                              exact heq
                          clear heq HFA HFB
                          go_wp2_with (go_at_call 24; refine HSB.out.mono ?_; rintro e9 w9 ⟨rfl, hb9⟩; have HB9 := Lib.hid (HBJ.out.trans (hb9.mono HBJ.out.size)); clear hb9)
                          exact ⟨⟨j + 1, by omega, by go_num, HNJ.out, HB9.out⟩, by simp [intOf]; omega⟩
                    · as_aux_lemma =>
                        have hjt : j = T.length := by omega
                        have hji : ¬ (j : Int) < (T.length : Int) := by omega
                        obtain ⟨h14, hAZ, hQS⟩ := HFB.out (fun i hi => HNO.out i (by omega)) HNE.out
                        subst h14
                        subst hAZ
                        subst hQS
                        have he1 := HGQ.out
                        have he2 := HQQ.out
                        go_wp2_with (first
                          | ((with_reducible refine row_load_g _ _ _ _ _ _ _ ?_ ?_ GaW.out Try.underlying54 ?_ (row_size Try.sizeGeo HAS) ?_); (exact rfl); (exact rfl); (exact rfl))
                          | ((with_reducible refine row_load_g _ _ _ _ _ _ _ ?_ ?_ GsW.out Try.underlying34 ?_ (row_size Try.sizeSum HSZ) ?_); (exact rfl); (exact rfl); (exact rfl))
                          | ((with_reducible refine row_build0_g _ _ ?_ HBT.out ?_); (exact rfl))
                          | ((with_reducible refine row_build0_g _ _ ?_ HBS.out ?_); (exact rfl))
                          | (go_at_call 18; refine (HKN.out _).mono ?_; rintro e8 w8 ⟨rfl, hb8⟩; have HB8 := Lib.hid (HLW.out.trans (hb8.mono HLW.out.size))))
                        go_ret
                        exact ⟨rfl, HB8.out⟩
          · have hT0' : ¬ (T.length : Int) > 0 := by omega
            have hT0b : decide ((T.length : Int) > 0) = false := decide_eq_false hT0'
            obtain ⟨pl, n, cl, Ly, hpl, hnl, hcl, hLy⟩ : ∃ pl n cl Ly, pl = pa ∧ n = n2 ∧ cl = ca ∧ Ly = B := ⟨_, _, _, _, rfl, rfl, rfl, rfl⟩
            have HLY : Hid (Ly.length = n) := by rw [hLy, hnl]; exact HBL.out
            have HBY : Hid (Sha.Byt Ly ∧ y1.ownsRow K 5 1 (.slice pl n cl) n (U8s Ly)) := by rw [hLy, hnl, hpl, hcl]; exact HBA.out
            go_upto_region 26 with (fail)
            rw [← hpl, ← hnl, ← hcl]
            clear hpl hnl hcl hLy hPK HBA HBB HBL
            as_aux_lemma =>
              by_cases hbig : (n : Int) > 1024
              · go_wp2_with (go_at_call 18; refine (HKN.out _).mono ?_; rintro e3 w3 ⟨rfl, hb3⟩; have HB3 := Lib.hid (HV1.out.low.trans (hb3.mono HV1.out.low.size)))
                go_ret
                exact ⟨rfl, HB3.out⟩
              have hn1 : n ≤ 1024 := by omega
              have hlm := HLY.out
              obtain ⟨pq, cq, hvq, hbq, _⟩ := own_bs HBY.out.2 HBY.out.1
              rw [HLY.out] at hvq
              injection hvq with g1 g2 g3
              subst g1
              subst g3
              have HTM := Lib.hid (vu_tamper 0 Ly pl n cl HLY.out (by omega) HV1.out hbq)
              have htp : Dk.tpM m 0 Ly = Dk.over m 0 Ly := HC.out.1.tpM 0 (by omega) Ly (by omega)
              unfold VuSay at HTM
              rw [htp] at HTM
              have HTY := Lib.hid (HTE.out Ly HBY.out.1)
              clear htp hbig
              go_upto_region 29 with (go_at_call 11; refine HTM.out.mono ?_; rintro e4 w4 ⟨rfl, HV4, HK4⟩)
              have HR4 := Lib.hid (HR1.out.kp HK4.out)
              have HG4 := Lib.hid (HG1.out.kp HK4.out)
              have HQ4 := Lib.hid (HQ1.out.kp HK4.out)
              have HY4 := Lib.hid (own_kp HBY.out.2 HK4.out (Nat.le_refl _))
              clear hbq
              have HRR := Lib.hid (vu_read HW.out (HC.out.1.over 0 Ly) HV4.out (fun j => by have := HC.out.2.2.1 j; show m.rd j ≤ _; omega) (by have := HC.out.2.2.2.2.1; omega))
              unfold VuRr at HRR
              rw [Sp.peek_over] at HRR
              have hrl := Sp.rv_len S Ly
              have hnil : Ly = [] → (Sp.rv S Ly).2.2 = 9 := fun h => by rw [h, Sp.rv_nil]
              generalize Dk.rdM (Dk.over m 0 Ly) 0 = m5 at *
              generalize hrv : Sp.rv S Ly = R at *
              obtain ⟨rg, rs, rn⟩ := R
              dsimp only at hrl hnil HRR
              obtain ⟨A, eA, hA⟩ := gk rg
              have eA2 : GA rg = A := by unfold GV at eA; injection eA
              have HAS := Lib.hid hA.size
              have HA1 := Lib.hid hA.one
              have HSZ := Lib.hid (sa_size hrl)
              have HSO := Lib.hid (sa_one rs)
              rw [eA, a32_is] at HRR
              obtain ⟨Q, hQ⟩ : ∃ Q, sA rs = Q := ⟨_, rfl⟩
              rw [hQ] at HRR HSZ HSO
              have HFA : Hid (∀ j, j < T.length → (Sp.bs S T).getD j [] = Ly → rn = 0 ∧ (Sp.gs T).getD j #[] = A ∧ (Sp.ms S T).getD j #[] = Q) := fun j hj h => by
                have h3 := HTY.out.1 j hj h
                injection h3 with h4 h5
                injection h5 with h5 h6
                refine ⟨h6, ?_, ?_⟩
                · rw [(HTA.out j hj).2.2, ← h4, eA2]
                · rw [(HTA.out j hj).2.1, ← h5, hQ]
              have HFB : Hid ((∀ j, j < T.length → (Sp.bs S T).getD j [] ≠ Ly) → Ly ≠ [] → rn = 14 ∧ A = Z ∧ Q = S0) := fun h hne => by
                have h3 := HTY.out.2 h hne
                injection h3 with h4 h5
                injection h5 with h5 h6
                refine ⟨h6, ?_, ?_⟩
                · have q := HZV.out
                  rw [← h4, eA] at q
                  injection q
                · have q := HSV.out
                  rw [← h5, a32_is, hQ] at q
                  injection q
              have HGQ : Hid (∀ y, (Op.equalIn 10000 54 (.agg A) (.agg A)).run Try.prog y = .ok true y) := fun y => by have h := geo_eq rg rg y; rw [decide_eq_true rfl, eA] at h; exact h
              have HQQ : Hid (∀ y, (Op.equalIn 10000 34 (.agg Q) (.agg Q)).run Try.prog y = .ok true y) := fun y => by have h := a32_eq _ _ hrl hrl y; rw [decide_eq_true rfl, a32_is, hQ] at h; exact h
              have HNIL := Lib.hid hnil
              clear hrl hnil hrv eA eA2 hA hQ HTY HTE HTA HTM HR1 HG1 HQ1 HC HW
              go_upto_region 30 with (first
                | (go_at_call 27; refine HRR.out.mono ?_; rintro e6 w6 ⟨rfl, HV6, HK6⟩)
                | ((with_reducible refine row_store _ _ _ _ _ _ _ ?_ ?_ (heap_alloc2_old _ _ _) (row_size Try.sizeGeo HAS) ?_ HA1.out ?_); (exact rfl); (exact rfl); (rw [HAS.out, HZS.out]); intro wg6 Gg6 cg6)
                | ((with_reducible refine row_store _ _ _ _ _ _ _ ?_ ?_ ((cg6.block _ (by simp)).trans (heap_alloc2_new _ _ _)) (row_size Try.sizeSum HSZ) ?_ HSO.out ?_); (exact rfl); (exact rfl); (rw [HSZ.out, HSS.out]); intro ws6 Gs6 cs6))
              have Bt6 : Hid (Below w6.heap.size w6 ws6) := cs6.below (cg6.below (((Below.refl _ w6).alloc (Nat.le_refl _) _).alloc (by simp) _) (Nat.le_refl _)) (by simp)
              have Gh6 : Hid (ws6.heap[w6.heap.size]? = some (.cells A 54 (0, 0))) := (cs6.block _ (by simp)).trans Gg6.out
              have Kt6 : Hid (Kp K w4 ws6) := HK6.out.trans (Kp.of_below Bt6.out)
              have HV7 := Lib.hid (HV6.out.old Bt6.out)
              have HR7 := Lib.hid (HR4.out.kp Kt6.out)
              have HG7 := Lib.hid (HG4.out.kp Kt6.out)
              have HQ7 := Lib.hid (HQ4.out.kp Kt6.out)
              have HB7 : Hid (Bs ws6 pl cl Ly) := by
                obtain ⟨pq, cq, hvq, hbq, _⟩ := own_bs (own_kp HY4.out Kt6.out (Nat.le_refl _)) HBY.out.1
                rw [HLY.out] at hvq
                injection hvq with g1 g2 g3
                subst g1
                subst g3
                exact hbq
              have HL7 : Hid (Below w.heap.size w ws6) := HV7.out.low
              clear HV4 HK4 HY4 HR4 HG4 HQ4 HRR HV6 HK6 Kt6 Bt6 Gg6 cg6 cs6 HV7 HV1
              generalize w6.heap.size = b25 at *
              by_cases hn0 : n = 0
              · have hLn : Ly = [] := List.eq_nil_of_length_eq_zero (by rw [HLY.out, hn0])
                have h9 := HNIL.out hLn
                subst h9
                subst hn0
                go_wp2_with (go_at_call 18; refine (HKN.out _).mono ?_; rintro e8 w8 ⟨rfl, hb8⟩; have HB8 := Lib.hid (HL7.out.trans (hb8.mono HL7.out.size)))
                go_ret
                exact ⟨rfl, HB8.out⟩
              have hne : Ly ≠ [] := fun h => hn0 (by rw [← HLY.out, h]; rfl)
              have HNE := Lib.hid hne
              have hni : ¬ (n : Int) = 0 := by omega
              have hnb : ((n : Int) == 0) = false := by simpa using hn0
              clear hne HNIL
              go_wp2
              go_loopw [28] (fun v28 wr2 => ∃ j : Nat, j ≤ T.length ∧ v28 = .int .i64 (j : Int) ∧ Hid (∀ i, i < j → (Sp.bs S T).getD i [] ≠ Ly) ∧ Hid (Below ws6.heap.size ws6 wr2)) (fun v28 _ => T.length - (intOf v28).toNat)
              case atStart => exact ⟨0, by omega, rfl, fun i hi => by omega, Below.refl _ _⟩
              case round =>
                obtain ⟨j, hj, rfl, HNO, HBJ⟩ := hrel
                have HLW : Hid (Below w.heap.size w wr) := HL7.out.trans (HBJ.out.mono HL7.out.size)
                have HBYW := Lib.hid (HB7.out.old HBJ.out)
                have GaW : Hid (wr.heap[b25]? = some (.cells A 54 (0, 0))) := (HBJ.out.block _ (lt_of_block Gh6.out)).trans Gh6.out
                have GsW : Hid (wr.heap[b25 + 1]? = some (.cells Q 34 (0, 0))) := (HBJ.out.block _ (lt_of_block Gs6.out)).trans Gs6.out
                have HRW := Lib.hid (HR7.out.kp (Kp.of_below HBJ.out))
                have HGW := Lib.hid (HG7.out.kp (Kp.of_below HBJ.out))
                have HQW := Lib.hid (HQ7.out.kp (Kp.of_below HBJ.out))
                have hT20 : T.length ≤ 20 := HNT.out
                by_cases hjl : j < T.length
                · exact absurd hjl (by omega)
                · as_aux_lemma =>
                    have hjt : j = T.length := by omega
                    have hji : ¬ (j : Int) < (T.length : Int) := by omega
                    obtain ⟨h14, hAZ, hQS⟩ := HFB.out (fun i hi => HNO.out i (by omega)) HNE.out
                    subst h14
                    subst hAZ
                    subst hQS
                    have he1 := HGQ.out
                    have he2 := HQQ.out
                    go_wp2_with (first
                      | ((with_reducible refine row_load_g _ _ _ _ _ _ _ ?_ ?_ GaW.out Try.underlying54 ?_ (row_size Try.sizeGeo HAS) ?_); (exact rfl); (exact rfl); (exact rfl))
                      | ((with_reducible refine row_load_g _ _ _ _ _ _ _ ?_ ?_ GsW.out Try.underlying34 ?_ (row_size Try.sizeSum HSZ) ?_); (exact rfl); (exact rfl); (exact rfl))
                      | ((with_reducible refine row_build0_g _ _ ?_ HBT.out ?_); (exact rfl))
                      | ((with_reducible refine row_build0_g _ _ ?_ HBS.out ?_); (exact rfl))
                      | (go_at_call 18; refine (HKN.out _).mono ?_; rintro e8 w8 ⟨rfl, hb8⟩; have HB8 := Lib.hid (HLW.out.trans (hb8.mono HLW.out.size))))
                    go_ret
                    exact ⟨rfl, HB8.out⟩
end Go.Proofs.Ytpfghjnhoafcmaa

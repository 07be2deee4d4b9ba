/-
  Contract: rillref12.Check.
-/
import Derived.Test.YtkgefogkdmbciaaBaQ0
namespace Go.Proofs.Ytkgefogkdmbciaa
open Go.RowKit

set_option maxHeartbeats 4000000 in
set_option maxRecDepth 100000 in
theorem refcheck_any (t n : Int) (P : List Int) (p : Option Addr) (m c : Nat) (L : List Bt.En) (hm : L.length = m) (w : World) (h : Sv w P p c L) :
    Calls Try.prog 15 #[.agg (SmA t P n (.slice p m c))] w (InSay (Bt.ck t n L) w) := by
  obtain ⟨A, hA, _, _⟩ := a32_agg P h.len
  have HX := Lib.hid (smx_of w.heap.size t n (.slice p m c) h.len hA)
  have HXS : Hid ((SmA t P n (.slice p m c)).size = 35) := HX.out.size
  have hsx := sm_info HXS.out
  have HE : Hid (Es w p c L) := h.es
  have HM := Lib.hid hm
  obtain ⟨res, hres⟩ : ∃ res, Bt.ck t n L = res := ⟨_, rfl⟩
  have HRES := Lib.hid hres
  rw [hres]
  clear h hA hres
  generalize SmA t P n (.slice p m c) = X at *
  have B0 : Hid (Below w.heap.size w (w.alloc (.cells X 26))) := (Below.refl _ w).alloc (Nat.le_refl _) _
  have G0 : Hid ((w.alloc (.cells X 26)).heap[w.heap.size]? = some (.cells X 26 (0, 0))) := heap_alloc_new w _
  go_enter Try.func15, Try.ntmps15
  go_upto_region 1 with (fail)
  change Code.wp _ _ _ _ (w.alloc (.cells X 26))
  obtain ⟨w0, hw0⟩ : ∃ y, y = w.alloc (.cells X 26) := ⟨_, rfl⟩
  rw [← hw0] at B0 G0 ⊢
  clear hw0
  obtain ⟨c0, c33, c34, _⟩ := HX.out.at_ _ G0.out
  by_cases h16 : 16 < m
  · have h17 : res = 17 := by rw [← HRES.out]; exact Bt.ck_many (by omega)
    subst h17
    have hgt : (m : Int) > 16 := by omega
    clear h16
    go_wp2
    go_ret
    exact ⟨rfl, B0.out⟩
  have hgt : ¬ (m : Int) > 16 := by omega
  by_cases hr : t < 0 ∨ t > 1099511627776 ∨ n < -1 ∨ n ≥ 32
  · have h7 : res = 7 := by rw [← HRES.out]; exact Bt.ck_range (by omega) (by omega)
    subst h7
    by_cases r1 : t < 0
    · clear hr
      go_wp2
      go_ret
      exact ⟨rfl, B0.out⟩
    by_cases r2 : t > 1099511627776
    · clear hr
      go_wp2
      go_ret
      exact ⟨rfl, B0.out⟩
    by_cases r3 : n < -1
    · clear hr
      go_wp2
      go_ret
      exact ⟨rfl, B0.out⟩
    have r4 : n ≥ 32 := by omega
    clear hr
    go_wp2
    go_ret
    exact ⟨rfl, B0.out⟩
  have r1 : ¬ t < 0 := by omega
  have r2 : ¬ t > 1099511627776 := by omega
  have r3 : ¬ n < -1 := by omega
  have r4 : ¬ n ≥ 32 := by omega
  have HGO : Hid (res = Bt.go (Bt.lst L 0) (L.drop 0)) := by show _ = _; rw [← HRES.out]; exact Bt.ck_go (by omega) (by omega)
  clear hr h16 HRES
  go_wp2
  go_loopw [3, 4] (fun v3 v4 wr => ∃ k : Nat, k ≤ m ∧ v3 = .int .i64 (Bt.lst L k) ∧ v4 = .int .i64 k ∧ Hid (res = Bt.go (Bt.lst L k) (L.drop k)) ∧ Hid (-1 ≤ Bt.lst L k ∧ Bt.lst L k ≤ 63) ∧ Hid (Below w0.heap.size w0 wr)) (fun _ v4 _ => m - (intOf v4).toNat)
  case atStart => exact ⟨0, by omega, by rw [Bt.lst_zero], rfl, HGO.out, by rw [Bt.lst_zero]; exact ⟨by omega, by omega⟩, Below.refl _ _⟩
  case round =>
    clear HGO c0 c33 c34
    obtain ⟨k, hk, rfl, rfl, HR, HLS, HB⟩ := hrel
    have Gr : Hid (wr.heap[w.heap.size]? = some (.cells X 26 (0, 0))) := (HB.out.block _ (lt_of_block G0.out)).trans G0.out
    have c34 := (HX.out.at_ _ Gr.out).2.2.1
    have BW : Hid (Below w.heap.size w wr) := B0.out.trans (HB.out.mono B0.out.size)
    by_cases hlt : k < m
    · obtain ⟨ab, ao, hpp, _⟩ := HE.out.at_ (by rw [HM.out]; omega)
      subst hpp
      have HEr : Hid (Es wr (some ⟨ab, ao, none⟩) c L) := HE.out.old BW.out
      have HRG : Hid (∀ y, Below wr.heap.size wr y → y.rangeAt ab (ao + k * 35) (EnA (L.getD k Bt.en0)).toList) := fun y hy => (HEr.out.old hy).rng (by rw [HM.out]; exact hlt)
      have HOK : Hid ((L.getD k Bt.en0).ok) := HE.out.getD k
      have HST : Hid (Bt.er (Bt.lst L k) (L.getD k Bt.en0) = 0 → res = Bt.go (Bt.lst L (k + 1)) (L.drop (k + 1)) ∧ -1 ≤ Bt.lst L (k + 1) ∧ Bt.lst L (k + 1) ≤ 63) := fun h => by
        refine ⟨HR.out.trans (Bt.go_step (by rw [HM.out]; exact hlt) h), ?_⟩
        have := Bt.nl_in h HLS.out
        rw [← Bt.lst_succ] at this
        exact this
      have HER : Hid (∀ e, Bt.er (Bt.lst L k) (L.getD k Bt.en0) = e → e ≠ 0 → res = e) := fun e h h0 => HR.out.trans (Bt.go_err (by rw [HM.out]; exact hlt) h h0)
      have HLN : Hid (Bt.lst L (k + 1) = Bt.nl (Bt.lst L k) (L.getD k Bt.en0)) := Bt.lst_succ L k
      generalize L.getD k Bt.en0 = x at *
      have HEN : Hid (∀ z, Calls Try.prog 37 #[.agg (EnA x), .int .i64 (Bt.lst L k)] z (InSay (Bt.er (Bt.lst L k) x) z)) := fun z => refentry_any x HOK.out _ HLS.out z
      have HXI : Hid ((Try.prog.info? 50).map (·.size) = some (EnA x).size) := en_info HOK.out
      have HAT : Hid (∀ y, Below wr.heap.size wr y → EnAt y ab (ao + k * 35) x) := fun y hy => en_at (HRG.out y hy)
      have RG := Lib.hid (HRG.out wr (Below.refl _ _))
      have hi0 : 0 ≤ (k : Int) := by omega
      have hi1 : (k : Int) < (m : Int) := by omega
      obtain ⟨e, he⟩ : ∃ e, Bt.er (Bt.lst L k) x = e := ⟨_, rfl⟩
      rw [he] at HEN HST HER
      generalize Bt.lst L k = la at *
      have HGR : Hid (∀ y, Below wr.heap.size wr y → y.cell? ⟨w.heap.size, 34, none⟩ = some (.slice (some ⟨ab, ao, none⟩) m c)) := fun y hy => (HX.out.at_ _ ((hy.block _ (lt_of_block Gr.out)).trans Gr.out)).2.2.1
      clear he HR HRG HEr
      by_cases h0 : e = 0
      · have HN := Lib.hid (HST.out h0)
        subst h0
        clear HER HST
        by_cases h2 : x.k = 2
        · have HL2 : Hid (Bt.lst L (k + 1) = la) := HLN.out.trans (Bt.nl_trim _ h2)
          have hb2 : (x.k == 2) = true := by simp [h2]
          have hn2 : (x.k != 2) = false := by simp [h2]
          clear h2 HLN
          go_wp2_with (first
            | ((with_reducible refine rng_load _ _ _ _ _ _ ?_ RG.out Try.underlying50 ?_ HXI.out ?_); (exact rfl); (exact rfl))
            | (go_at_call 37; refine (HEN.out _).mono ?_; rintro e7 w7 ⟨rfl, hb7⟩; have c7 := HGR.out _ hb7; have d7 := (HAT.out _ hb7).ck; have d9 := (HAT.out _ hb7).cs))
          exact ⟨⟨k + 1, by omega, by rw [HL2.out], by go_num, HN.out.1, HN.out.2, HB.out.trans (hb7.mono HB.out.size)⟩, by simp [intOf]; omega⟩
        · have HL2 : Hid (Bt.lst L (k + 1) = x.s) := HLN.out.trans (Bt.nl_slot _ h2)
          have hb2 : (x.k == 2) = false := by simp [h2]
          have hn2 : (x.k != 2) = true := by simp [h2]
          clear h2 HLN
          go_wp2_with (first
            | ((with_reducible refine rng_load _ _ _ _ _ _ ?_ RG.out Try.underlying50 ?_ HXI.out ?_); (exact rfl); (exact rfl))
            | (go_at_call 37; refine (HEN.out _).mono ?_; rintro e7 w7 ⟨rfl, hb7⟩; have c7 := HGR.out _ hb7; have d7 := (HAT.out _ hb7).ck; have d9 := (HAT.out _ hb7).cs))
          exact ⟨⟨k + 1, by omega, by rw [HL2.out], by go_num, HN.out.1, HN.out.2, HB.out.trans (hb7.mono HB.out.size)⟩, by simp [intOf]; omega⟩
      · have hres := HER.out e rfl h0
        subst hres
        have hb0 : (res == 0) = false := by simp [h0]
        have hn0 : (res != 0) = true := by simp [h0]
        clear h0 HST HER
        go_wp2_with (first
          | ((with_reducible refine rng_load _ _ _ _ _ _ ?_ RG.out Try.underlying50 ?_ HXI.out ?_); (exact rfl); (exact rfl))
          | (go_at_call 37; refine (HEN.out _).mono ?_; rintro e7 w7 ⟨rfl, hb7⟩))
        go_ret
        exact ⟨rfl, BW.out.trans (hb7.mono BW.out.size)⟩
    · have e : k = L.length := by have := HM.out; omega
      have hz : res = 0 := by
        have h := HR.out
        rw [e, Bt.go_end] at h
        exact h
      subst hz
      obtain rfl : k = m := by omega
      clear hlt e HR
      go_wp2
      go_ret
      exact ⟨rfl, BW.out⟩
end Go.Proofs.Ytkgefogkdmbciaa

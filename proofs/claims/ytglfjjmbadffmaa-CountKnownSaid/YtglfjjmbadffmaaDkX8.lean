/-
  The reference: Sync.
-/
import Derived.Test.YtglfjjmbadffmaaDkX7
namespace Go.Proofs.Ytglfjjmbadffmaa
open Go.RowKit

section
variable {U : Nat → Prop} {r qb : Nat} {m : Dk.M} {vl vc : Value} {G : Nat → Option (List Int)}
/-- The k-th of the cache's sectors. -/
theorem Dk.lst_get {m : Dk.M} {k : Nat} {x : Dk.S} (h : (Dk.lst m.ca m.n)[k]? = some x) : (Dk.dl m)[k]? = some x.1 ∧ m.ca x.1 = some x.2 ∧ x.1 < m.n := by
  have h1 := Dk.lst_lt _ _ (List.mem_of_getElem? h)
  refine ⟨?_, h1.2, h1.1⟩
  have h2 := Dk.lst_nos m.ca m.n
  have h3 : ((Dk.lst m.ca m.n).map (·.1))[k]? = some x.1 := by rw [List.getElem?_map, h]; rfl
  rw [h2] at h3
  exact h3
theorem Dk.lst_dl (m : Dk.M) : (Dk.lst m.ca m.n).length = (Dk.dl m).length := by
  have h := congrArg List.length (Dk.lst_nos m.ca m.n)
  rw [List.length_map] at h
  exact h
set_option maxHeartbeats 4000000 in
set_option maxRecDepth 100000 in
theorem refsync_c (w : World) (hd : RfC w U r qb vl vc m G) : Calls Try.prog 34 #[.pointer (some ⟨r, 0, none⟩)] w (RfSay U r qb (.int .i64 (Dk.spendE m)) (Dk.syM m) w) := by
  have HD := Lib.hid hd
  clear hd
  cases hg : Dk.gone m with
  | true =>
    have e1 : Dk.spendE m = 12 := by unfold Dk.spendE; rw [if_pos hg]
    have e2 : Dk.syM m = Dk.spend m := by unfold Dk.syM; rw [if_pos hg]
    go_enter Try.func34, Try.ntmps34
    go_wp2_with (go_at_call 42; refine (refspend_c _ HD.out).mono ?_; rw [e1]; rintro e w2 ⟨rfl, hd2, hm2⟩)
    go_ret
    refine ⟨by first | rfl | (rw [e1]; rfl), ?_, Lib.hid (hm2.out.more (fun k hk => by simp at hk ⊢; exact Or.inl hk))⟩
    first | rw [e2] | skip
    exact Lib.hid (RfAt.own ⟨vl, vc, G, hd2.out⟩ _)
  | false =>
    have e1 : Dk.spendE m = 0 := by unfold Dk.spendE; rw [hg]; rfl
    have E2 : Hid (Dk.syM m = Dk.synced (Dk.spend m)) := by show _ = _; unfold Dk.syM; rw [hg]; rfl
    obtain ⟨m2, hm2e⟩ : ∃ m2, Hid (Dk.spend m = m2) := ⟨_, rfl⟩
    go_enter Try.func34, Try.ntmps34
    go_upto_region 5 with (go_at_call 42; refine (refspend_c _ HD.out).mono ?_; rw [e1]; rintro e w2 ⟨rfl, hd2, hm2⟩; rw [hm2e.out] at hd2; have HM2 := Lib.hid hm2.out; have HD2 := Lib.hid hd2.out; clear hm2 hd2)
    clear HD
    obtain ⟨l, hl⟩ : ∃ l, Hid (Dk.lst m2.ca m2.n = l) := ⟨_, rfl⟩
    have HLE : Hid (l.length ≤ 5000) := by show _ ≤ _; rw [← hl.out]; have := Dk.lst_len m2.ca m2.n; have := HD2.out.ok.n2; omega
    obtain ⟨a, cap, hvc, ha⟩ := HD2.out.cac.len
    rw [hl.out] at hvc ha
    subst hvc
    have HA := Lib.hid ha
    clear ha
    go_loopw [4] (fun v4 wr => ∃ (k : Nat) (vl' : Value) (G' : Nat → Option (List Int)) (m' : Dk.M), k ≤ l.length ∧ v4 = .int .i64 k ∧ Hid (∀ i, m'.ls i = if i ∈ (Dk.dl m2).take k then Dk.peek m2 i else m2.ls i) ∧ Hid (m'.n = m2.n ∧ m'.ca = m2.ca ∧ m'.rd = m2.rd ∧ m'.wr = m2.wr ∧ m'.left = m2.left ∧ m'.down = m2.down) ∧ Hid (RfC wr (Own U w2 wr) r qb vl' (.slice a l.length cap) m' G') ∧ Hid (Mv [r, qb] w2 wr)) (fun v4 _ => l.length - (intOf v4).toNat)
    case atStart =>
      refine ⟨0, vl, G, m2, Nat.zero_le _, rfl, Lib.hid (fun i => by simp), Lib.hid ⟨rfl, rfl, rfl, rfl, rfl, rfl⟩, Lib.hid (HD2.out.lift (fun _ h => Or.inl h) (fun g hg => ?_)), Lib.hid (Mv.refl _ _)⟩
      rcases hg with hg | hg
      · exact HD2.out.top g hg
      · exact hg.2
    case round =>
      obtain ⟨k, vl', G', m', hk, rfl, HLS, HEQ, HC, HMV⟩ := hrel
      have c5 := HC.out.cells.2.2.2.2.2.1
      by_cases hlt : k < l.length
      · obtain ⟨x, hx⟩ : ∃ x, l[k]? = some x := ⟨_, List.getElem?_eq_getElem hlt⟩
        have hx' := hx
        rw [← hl.out] at hx'
        obtain ⟨g1, g2, g3⟩ := Dk.lst_get hx'
        have HG := Lib.hid (show (Dk.dl m2)[k]? = some x.1 ∧ m2.ca x.1 = some x.2 ∧ x.1 < m2.n from ⟨g1, g2, g3⟩)
        obtain ⟨gs, rfl⟩ := HA.out (by omega)
        have hcac := HC.out.cac
        rw [HEQ.out.1, HEQ.out.2.1, hl.out] at hcac
        obtain ⟨u, c0, c1, hu⟩ := hcac.at hx
        obtain ⟨p, c, rfl, _⟩ := hu.bs
        have HU := Lib.hid hu
        have hl5 := HLE.out
        have hk0 : (0 : Int) ≤ (k : Int) := by omega
        have hk1 : (k : Int) < (l.length : Int) := by omega
        have c4 := HC.out.cells.2.2.2.2.1
        have hlv := HC.out.las
        obtain ⟨al, ql, rfl, _⟩ := hlv.len
        have HLV := Lib.hid hlv
        clear hx hx' g1 g2 g3 hcac hu hlv
        have HN := Lib.hid HC.out.ok.n2
        obtain ⟨nl, hnl⟩ : ∃ nl, Hid ((Dk.lst G' m'.n).length = nl) := ⟨_, rfl⟩
        rw [hnl.out] at c4 HLV
        go_upto_region 7 with (fail)
        go_region_law (go_simp; go_at_call 43; refine (refput_any (Dk.lst G' m'.n) x (Own U w2 wr) (.slice al nl ql) p c _ (HLV.out.old ((Below.refl _ wr).drew)) (HU.out.old ((Below.refl _ wr).drew)) (by have := Dk.lst_len G' m'.n; have := HN.out; omega)).mono ?_; rintro e w5 ⟨v5, rfl, hl5, hb5⟩; obtain ⟨a5, q5, rfl, _⟩ := hl5.out.len; obtain ⟨l5, hl5e⟩ : ∃ l5, Hid ((Dk.ins (Dk.lst G' m'.n) x).length = l5) := ⟨_, rfl⟩; rw [hl5e.out] at hl5 ⊢; have HL5 := Lib.hid hl5.out; have B5 : Hid (Below wr.heap.size wr w5) := Lib.hid (((Below.refl _ wr).drew).trans hb5.out); have R5 := Lib.hid ((B5.out.block r (HC.out.top r HC.out.lt.1)).trans HC.out.row); have k5 : w5.cell? ⟨r, 4, none⟩ = some (.slice al nl ql) := (by rw [cell_of_row w5 r 4 _ _ _ R5.out, ← hnl.out]; rfl); have f5 := frozen_of_row w5 r 4 _ _ R5.out; clear hl5 hb5)
        all_goals
          go_wp2
          have hset := heap_setCell_same w5 r 4 _ _ (.slice a5 l5 q5) R5.out
          have C6 : Chg r w5 (w5.setCell ⟨r, 4, none⟩ (.slice a5 l5 q5)) := Chg.setCell w5 ⟨r, 4, none⟩ _
          have hx3 : x.1 < m'.n := by rw [HEQ.out.1]; exact HG.out.2.2
          have hlst : Lst wr.heap.size w5 (Own (Own U w2 wr) wr w5) (.slice a5 l5 q5) (Dk.lst (upd G' x.1 (some x.2)) m'.n) := by
            have h := HL5.out
            rw [show x = (x.1, x.2) from rfl, Dk.ins_lst _ _ _ _ hx3] at h
            exact h.lift (fun g hg => Or.inl hg)
          have hL : x.2.length ≤ 1024 := HD2.out.ok.cab _ _ HG.out.2.1
          have hfin := HC.out.lay (m' := { m' with ls := upd m'.ls x.1 x.2 }) (vl' := .slice a5 l5 q5) (vc' := .slice (some ⟨gs, 0, none⟩) l.length cap) (G' := upd G' x.1 (some x.2)) B5.out C6 (by rw [hset]; simp [Dk.rl]) hlst.low (HC.out.cac' B5.out).1 ⟨lst_new hlst (Nat.le_refl _), (HC.out.cac' B5.out).2⟩ rfl rfl (fun i => by
            show upd m'.ls x.1 x.2 i = _
            by_cases e : i = x.1
            · subst e; rw [upd_same, upd_same]; rfl
            · rw [upd_other _ _ e, upd_other _ _ e]; exact HC.out.ls i) ⟨HC.out.ok.n1, HC.out.ok.n2, HC.out.ok.out, HC.out.ok.left, (Dk.ok_over (j := x.1) HC.out.ok hL).lsb, HC.out.ok.cab⟩
          have S6 := C6.size
          have S5 := B5.out.size
          have S2 := HMV.out.size
          refine ⟨⟨k + 1, _, upd G' x.1 (some x.2), { m' with ls := upd m'.ls x.1 x.2 }, by omega, by go_num, Lib.hid (fun i => ?_), Lib.hid ⟨HEQ.out.1, HEQ.out.2.1, HEQ.out.2.2.1, HEQ.out.2.2.2.1, HEQ.out.2.2.2.2.1, HEQ.out.2.2.2.2.2⟩, Lib.hid (hfin.lift (fun g hg => ?_) (fun g hg => ?_)), Lib.hid (HMV.out.trans ((Mv.of_below B5.out).trans (Mv.only C6.only (by simp))))⟩, by simp [intOf]; omega⟩
          · show upd m'.ls x.1 x.2 i = _
            rw [List.take_add_one, HG.out.1]
            by_cases e : i = x.1
            · subst e
              rw [upd_same, if_pos (by simp)]
              unfold Dk.peek
              rw [HG.out.2.1]
              rfl
            · rw [upd_other _ _ e, HLS.out]
              by_cases h : i ∈ (Dk.dl m2).take k
              · rw [if_pos h, if_pos (List.mem_append_left _ h)]
              · rw [if_neg h, if_neg (fun h' => by
                  rcases List.mem_append.1 h' with h' | h'
                  · exact h h'
                  · simp at h'; exact e h')]
          · rcases hg with (hg | hg) | hg
            · exact Or.inl hg
            · exact Or.inr ⟨hg.1, by have := hg.2; omega⟩
            · exact Or.inr ⟨by have := hg.1; omega, hg.2⟩
          · rcases hg with hg | hg
            · exact hfin.top g (Or.inl (Or.inl hg))
            · exact hg.2
      · obtain rfl : k = l.length := by omega
        have f5 := frozen_of_row wr r 5 _ _ HC.out.row
        go_wp2
        go_ret
        have hset := heap_setCell_same wr r 5 _ _ (.slice none 0 0) HC.out.row
        have C6 : Chg r wr (wr.setCell ⟨r, 5, none⟩ (.slice none 0 0)) := Chg.setCell wr ⟨r, 5, none⟩ _
        have B0 : Below wr.heap.size wr wr := Below.refl _ _
        have hfin := HC.out.lay (m' := { m' with ca := fun _ => none }) (vl' := vl') (vc' := .slice none 0 0) (G' := G') B0 C6 (by rw [hset]; simp [Dk.rl]) (HC.out.las' B0).1 (by show Lst _ _ _ _ (Dk.lst (fun _ => none) m'.n); rw [Dk.lst_nil]; exact lst_at0 _ _ _) ⟨(HC.out.las' B0).2, (fun g hg => by cases hg)⟩ rfl rfl HC.out.ls ⟨HC.out.ok.n1, HC.out.ok.n2, (fun _ _ => rfl), HC.out.ok.left, HC.out.ok.lsb, (fun i L hL => by cases hL)⟩
        have hm : ({ m' with ca := fun _ => none } : Dk.M) = Dk.synced m2 := by
          have hls : m'.ls = Dk.peek m2 := by
            funext i
            rw [HLS.out, ← hl.out, Dk.lst_dl, List.take_length]
            by_cases h : i ∈ Dk.dl m2
            · rw [if_pos h]
            · rw [if_neg h]
              unfold Dk.peek
              cases e : m2.ca i with
              | none => rfl
              | some L =>
                exfalso
                apply h
                rw [Dk.dl_mem]
                refine ⟨?_, by rw [e]; rfl⟩
                by_cases q : i < m2.n
                · exact q
                · rw [HD2.out.ok.out i (by omega)] at e; cases e
          obtain ⟨h1, h2, h3, h4, h5, h6⟩ := HEQ.out
          unfold Dk.synced
          rw [← hls, ← h1, ← h3, ← h4, ← h5, ← h6]
        rw [hm] at hfin
        have S6 := C6.size
        have S2 := HMV.out.size
        have S1 := HM2.out.size
        refine ⟨by first | rfl | (rw [e1]; rfl), ?_, Lib.hid ?_⟩
        · rw [E2.out, hm2e.out]
          refine Lib.hid (RfAt.lift ⟨_, _, _, hfin⟩ (fun g hg => ?_) (fun g hg => ?_))
          · rcases hg with (hg | hg) | hg
            · exact Or.inl hg
            · exact Or.inr ⟨by have := hg.1; omega, by have := hg.2; omega⟩
            · exact Or.inr ⟨by have := hg.1; omega, hg.2⟩
          · rcases hg with hg | hg
            · exact hfin.top g (Or.inl (Or.inl hg))
            · exact hg.2
        · exact (HM2.out.more (fun k hk => by simp at hk ⊢; exact Or.inl hk)).trans (HMV.out.trans (Mv.only C6.only (by simp)))
end
end Go.Proofs.Ytglfjjmbadffmaa

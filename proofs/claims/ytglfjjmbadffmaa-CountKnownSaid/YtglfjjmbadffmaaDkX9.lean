/-
  The reference: Crash.
-/
import Derived.Test.YtglfjjmbadffmaaDkX8
namespace Go.Proofs.Ytglfjjmbadffmaa
open Go.RowKit

section
variable {U : Nat → Prop} {r qb : Nat} {m : Dk.M} {vl vc : Value} {G : Nat → Option (List Int)}
set_option maxHeartbeats 4000000 in
set_option maxRecDepth 100000 in
theorem refcrash_c (L : List Int) (lp : Option Addr) (lc : Nat) (w : World) (hd : RfC w U r qb vl vc m G) (hlp : ∀ y, Mv [r, qb] w y → IAt y lp L) : Calls Try.prog 32 #[.pointer (some ⟨r, 0, none⟩), .slice lp L.length lc] w (RfSay U r qb (.tuple #[]) (Dk.crash m (Dk.fate L)) w) := by
  have HD := Lib.hid hd
  have HLP := Lib.hid hlp
  clear hd hlp
  go_enter Try.func32, Try.ntmps32
  go_upto_region 1 with (fail)
  obtain ⟨l, hl⟩ : ∃ l, Hid (Dk.lst m.ca m.n = l) := ⟨_, rfl⟩
  have HLE : Hid (l.length ≤ 5000) := by show _ ≤ _; rw [← hl.out]; have := Dk.lst_len m.ca m.n; have := HD.out.ok.n2; omega
  obtain ⟨a, cap, hvc, ha⟩ := HD.out.cac.len
  rw [hl.out] at hvc ha
  subst hvc
  have HA := Lib.hid ha
  clear ha
  go_loopw [4] (fun v4 wr => ∃ (k : Nat) (vl' : Value) (G' : Nat → Option (List Int)) (m' : Dk.M), k ≤ l.length ∧ v4 = .int .i64 k ∧ Hid (∀ i, m'.ls i = (Dk.crk m (Dk.fate L) k).ls i) ∧ Hid (m'.n = m.n ∧ m'.ca = m.ca ∧ m'.rd = m.rd ∧ m'.wr = m.wr ∧ m'.left = m.left ∧ m'.down = m.down) ∧ Hid (RfC wr (Own U w wr) r qb vl' (.slice a l.length cap) m' G') ∧ Hid (Mv [r, qb] w wr)) (fun v4 _ => l.length - (intOf v4).toNat)
  case atStart =>
    refine ⟨0, vl, G, m, Nat.zero_le _, rfl, Lib.hid (fun i => rfl), Lib.hid ⟨rfl, rfl, rfl, rfl, rfl, rfl⟩, Lib.hid (HD.out.lift (fun _ h => Or.inl h) (fun g hg => ?_)), Lib.hid (Mv.refl _ _)⟩
    rcases hg with hg | hg
    · exact HD.out.top g hg
    · exact hg.2
  case round =>
      obtain ⟨k, vl', G', m', hk, rfl, HLS, HEQ, HC, HMV⟩ := hrel
      have c5 := HC.out.cells.2.2.2.2.2.1
      by_cases hlt : k < l.length
      · obtain ⟨x, hx⟩ : ∃ x, l[k]? = some x := ⟨_, List.getElem?_eq_getElem hlt⟩
        have hx' := hx
        rw [← hl.out] at hx'
        obtain ⟨g1, g2, g3⟩ := Dk.lst_get hx'
        have HG := Lib.hid (show (Dk.dl m)[k]? = some x.1 ∧ m.ca x.1 = some x.2 ∧ x.1 < m.n from ⟨g1, g2, g3⟩)
        have HT : Hid (Dk.crk m (Dk.fate L) (k + 1) = if Dk.fate L k then Dk.settle (Dk.crk m (Dk.fate L) k) x.1 else Dk.drop (Dk.crk m (Dk.fate L) k) x.1) := Dk.crk_succ g1
        have HCA : Hid ((Dk.crk m (Dk.fate L) k).ca x.1 = m.ca x.1) := (Dk.crk_out m (Dk.fate L) x.1 k (fun q hq e => by have := Dk.dl_inj e g1; omega)).1
        obtain ⟨gs, rfl⟩ := HA.out (by omega)
        have hcac := HC.out.cac
        rw [HEQ.out.1, HEQ.out.2.1, hl.out] at hcac
        obtain ⟨u, c0, c1, hu⟩ := hcac.at hx
        obtain ⟨p, c, rfl, _⟩ := hu.bs
        have HU := Lib.hid hu
        have hl5 := HLE.out
        have hk0 : (0 : Int) ≤ (k : Int) := by omega
        have hk1 : (k : Int) < (l.length : Int) := by omega
        have c4 := HC.out.cells.2.2.2.2.1
        have hlv := HC.out.las
        obtain ⟨al, ql, rfl, _⟩ := hlv.len
        have HLV := Lib.hid hlv
        clear hx hx' g1 g2 g3 hcac hu hlv
        have HN := Lib.hid HC.out.ok.n2
        obtain ⟨nl, hnl⟩ : ∃ nl, Hid ((Dk.lst G' m'.n).length = nl) := ⟨_, rfl⟩
        rw [hnl.out] at c4 HLV
        by_cases hkL : k < L.length
        · obtain ⟨ab, ao, rfl, hcell⟩ := HLP.out _ HMV.out (by omega)
          have cj := hcell k hkL
          clear hcell
          have hki : (k : Int) < (L.length : Int) := by omega
          obtain ⟨z, hz⟩ : ∃ z, L.getD k 0 = z := ⟨_, rfl⟩
          rw [hz] at cj
          by_cases hz0 : z = 0
          · subst hz0
            have hF : Dk.fate L k = false := by rw [Dk.fate, hz]; simp
            go_wp2
            exact ⟨⟨k + 1, _, G', m', by omega, by go_num, Lib.hid (fun i => by rw [HT.out, hF, if_neg (by decide)]; exact HLS.out i), HEQ, HC, HMV⟩, by simp [intOf]; omega⟩
          · have hF : Dk.fate L k = true := by rw [Dk.fate, hz]; simp [hkL, hz0]
            have hzb : (z == 0) = false := by simp [hz0]
            go_upto_region 4 with (fail)
            go_region_law (go_simp; go_at_call 43; refine (refput_any (Dk.lst G' m'.n) x (Own U w wr) (.slice al nl ql) p c _ (HLV.out.old ((Below.refl _ wr).drew)) (HU.out.old ((Below.refl _ wr).drew)) (by have := Dk.lst_len G' m'.n; have := HN.out; omega)).mono ?_; rintro e w5 ⟨v5, rfl, hl5, hb5⟩; obtain ⟨a5, q5, rfl, _⟩ := hl5.out.len; obtain ⟨l5, hl5e⟩ : ∃ l5, Hid ((Dk.ins (Dk.lst G' m'.n) x).length = l5) := ⟨_, rfl⟩; rw [hl5e.out] at hl5 ⊢; have HL5 := Lib.hid hl5.out; have B5 : Hid (Below wr.heap.size wr w5) := Lib.hid (((Below.refl _ wr).drew).trans hb5.out); have R5 := Lib.hid ((B5.out.block r (HC.out.top r HC.out.lt.1)).trans HC.out.row); have k5 : w5.cell? ⟨r, 4, none⟩ = some (.slice al nl ql) := (by rw [cell_of_row w5 r 4 _ _ _ R5.out, ← hnl.out]; rfl); have f5 := frozen_of_row w5 r 4 _ _ R5.out; clear hl5 hb5)
            all_goals
              go_wp2
              have hset := heap_setCell_same w5 r 4 _ _ (.slice a5 l5 q5) R5.out
              have C6 : Chg r w5 (w5.setCell ⟨r, 4, none⟩ (.slice a5 l5 q5)) := Chg.setCell w5 ⟨r, 4, none⟩ _
              have hx3 : x.1 < m'.n := by rw [HEQ.out.1]; exact HG.out.2.2
              have hlst : Lst wr.heap.size w5 (Own (Own U w wr) wr w5) (.slice a5 l5 q5) (Dk.lst (upd G' x.1 (some x.2)) m'.n) := by
                have h := HL5.out
                rw [show x = (x.1, x.2) from rfl, Dk.ins_lst _ _ _ _ hx3] at h
                exact h.lift (fun g hg => Or.inl hg)
              have hL : x.2.length ≤ 1024 := HD.out.ok.cab _ _ HG.out.2.1
              have hfin := HC.out.lay (m' := { m' with ls := upd m'.ls x.1 x.2 }) (vl' := .slice a5 l5 q5) (vc' := .slice (some ⟨gs, 0, none⟩) l.length cap) (G' := upd G' x.1 (some x.2)) B5.out C6 (by rw [hset]; simp [Dk.rl]) hlst.low (HC.out.cac' B5.out).1 ⟨lst_new hlst (Nat.le_refl _), (HC.out.cac' B5.out).2⟩ rfl rfl (fun i => by
                show upd m'.ls x.1 x.2 i = _
                by_cases e : i = x.1
                · subst e; rw [upd_same, upd_same]; rfl
                · rw [upd_other _ _ e, upd_other _ _ e]; exact HC.out.ls i) ⟨HC.out.ok.n1, HC.out.ok.n2, HC.out.ok.out, HC.out.ok.left, (Dk.ok_over (j := x.1) HC.out.ok hL).lsb, HC.out.ok.cab⟩
              have S6 := C6.size
              have S5 := B5.out.size
              have S2 := HMV.out.size
              refine ⟨⟨k + 1, _, upd G' x.1 (some x.2), { m' with ls := upd m'.ls x.1 x.2 }, by omega, by go_num, Lib.hid (fun i => ?_), Lib.hid ⟨HEQ.out.1, HEQ.out.2.1, HEQ.out.2.2.1, HEQ.out.2.2.2.1, HEQ.out.2.2.2.2.1, HEQ.out.2.2.2.2.2⟩, Lib.hid (hfin.lift (fun g hg => ?_) (fun g hg => ?_)), Lib.hid (HMV.out.trans ((Mv.of_below B5.out).trans (Mv.only C6.only (by simp))))⟩, by simp [intOf]; omega⟩
              · show upd m'.ls x.1 x.2 i = _
                rw [HT.out, hF, if_pos rfl]
                show _ = upd (Dk.crk m (Dk.fate L) k).ls x.1 _ i
                by_cases e : i = x.1
                · subst e
                  rw [upd_same, upd_same, HCA.out, HG.out.2.1]
                  rfl
                · rw [upd_other _ _ e, upd_other _ _ e]
                  exact HLS.out i
              · rcases hg with (hg | hg) | hg
                · exact Or.inl hg
                · exact Or.inr ⟨hg.1, by have := hg.2; omega⟩
                · exact Or.inr ⟨by have := hg.1; omega, hg.2⟩
              · rcases hg with hg | hg
                · exact hfin.top g (Or.inl (Or.inl hg))
                · exact hg.2
        · have hF : Dk.fate L k = false := by rw [Dk.fate]; simp [hkL]
          have hki : (L.length : Int) ≤ (k : Int) := by omega
          go_wp2
          exact ⟨⟨k + 1, _, G', m', by omega, by go_num, Lib.hid (fun i => by rw [HT.out, hF, if_neg (by decide)]; exact HLS.out i), HEQ, HC, HMV⟩, by simp [intOf]; omega⟩
      · obtain rfl : k = l.length := by omega
        have f5 := frozen_of_row wr r 5 _ _ HC.out.row
        have R1 := Lib.hid (heap_setCell_same wr r 5 _ _ (.slice none 0 0) HC.out.row)
        obtain ⟨w1, HW1⟩ : ∃ y : World, Hid (wr.setCell ⟨r, 5, none⟩ (.slice none 0 0) = y) := ⟨_, rfl⟩
        have C1 : Hid (Chg r wr w1) := by show Chg _ _ _; rw [← HW1.out]; exact Chg.setCell wr ⟨r, 5, none⟩ _
        rw [HW1.out] at R1
        have f1 := frozen_of_row w1 r 1 _ _ R1.out
        have c1 : w1.cell? ⟨r, 1, none⟩ = some (.int .i64 (Dk.rl m')) := by rw [cell_of_row w1 r 1 _ _ _ R1.out]; rfl
        have R2 := Lib.hid (heap_setCell_same w1 r 1 _ _ (.int .i64 (-1)) R1.out)
        obtain ⟨w2, HW2⟩ : ∃ y : World, Hid (w1.setCell ⟨r, 1, none⟩ (.int .i64 (-1)) = y) := ⟨_, rfl⟩
        have C2 : Hid (Chg r w1 w2) := by show Chg _ _ _; rw [← HW2.out]; exact Chg.setCell w1 ⟨r, 1, none⟩ _
        rw [HW2.out] at R2
        have f3 := frozen_of_row w2 r 3 _ _ R2.out
        have c3 : w2.cell? ⟨r, 3, none⟩ = some (.bool m'.down) := by rw [cell_of_row w2 r 3 _ _ _ R2.out]; rfl
        have R3 := Lib.hid (heap_setCell_same w2 r 3 _ _ (.bool false) R2.out)
        go_upto_region 6 with (fail)
        rw [HW1.out]
        go_upto_region 7 with (fail)
        rw [HW2.out]
        go_wp2
        go_end0
        have C3 : Chg r w2 (w2.setCell ⟨r, 3, none⟩ (.bool false)) := Chg.setCell w2 ⟨r, 3, none⟩ _
        have C6 := (C1.out.trans C2.out).trans C3
        have B0 : Below wr.heap.size wr wr := Below.refl _ _
        have hm : ({ m' with ca := fun _ => none, left := -1, down := false } : Dk.M) = Dk.crash m (Dk.fate L) := by
          have hcr := Dk.crk_n m (Dk.fate L) (Dk.dl m).length
          have hls : m'.ls = (Dk.crk m (Dk.fate L) (Dk.dl m).length).ls := by
            funext i
            rw [HLS.out, ← hl.out, Dk.lst_dl]
          have hca : (fun _ => none : Nat → Option (List Int)) = (Dk.crk m (Dk.fate L) (Dk.dl m).length).ca := by
            funext i
            exact (Dk.crash_none (f := Dk.fate L) HD.out.ok.out i).symm
          obtain ⟨h1, h2, h3, h4, h5, h6⟩ := HEQ.out
          unfold Dk.crash
          rw [hls, h1, h3, h4, hca, ← hcr.1, ← hcr.2.1, ← hcr.2.2]
        have hfin := HC.out.lay (m' := { m' with ca := fun _ => none, left := -1, down := false }) (vl' := vl') (vc' := .slice none 0 0) (G' := G') B0 C6 (by rw [R3.out]; simp [Dk.rl]) (HC.out.las' B0).1 (by show Lst _ _ _ _ (Dk.lst (fun _ => none) m'.n); rw [Dk.lst_nil]; exact lst_at0 _ _ _) ⟨(HC.out.las' B0).2, (fun g hg => by cases hg)⟩ rfl rfl HC.out.ls ⟨HC.out.ok.n1, HC.out.ok.n2, (fun _ _ => rfl), by unfold In64; dsimp only; omega, HC.out.ok.lsb, (fun i L hL => by cases hL)⟩
        rw [hm] at hfin
        have S6 := C6.size
        have S2 := HMV.out.size
        refine ⟨rfl, ?_, Lib.hid ?_⟩
        · refine Lib.hid (RfAt.lift ⟨_, _, _, hfin⟩ (fun g hg => ?_) (fun g hg => ?_))
          · rcases hg with (hg | hg) | hg
            · exact Or.inl hg
            · exact Or.inr ⟨hg.1, by have := hg.2; omega⟩
            · exact Or.inr ⟨by have := hg.1; omega, hg.2⟩
          · rcases hg with hg | hg
            · exact hfin.top g (Or.inl (Or.inl hg))
            · exact hg.2
        · exact HMV.out.trans (Mv.only C6.only (by simp))
end
end Go.Proofs.Ytglfjjmbadffmaa

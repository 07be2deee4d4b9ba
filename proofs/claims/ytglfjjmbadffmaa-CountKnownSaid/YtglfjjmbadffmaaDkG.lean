/-
  Contracts: Write, Tamper, Read.
-/
import Derived.Test.YtglfjjmbadffmaaDkF
namespace Go.Proofs.Ytglfjjmbadffmaa
open Go.RowKit

namespace Dk
def wrE (m : M) (i : Int) (L : List Int) : Int := if m.down then 12 else if fault m i L ≠ 0 then fault m i L else spendE m
def wrM (m : M) (i : Int) (L : List Int) : M := if m.down then m else if fault m i L ≠ 0 then m else if gone m then spend m else { spend m with ca := upd m.ca i.toNat (some L), wr := m.wr + 1 }
theorem spend_n (m : M) : (spend m).n = m.n := by unfold spend; split <;> rfl
theorem spend_ls (m : M) : (spend m).ls = m.ls := by unfold spend; split <;> rfl
theorem spend_ca (m : M) : (spend m).ca = m.ca := by unfold spend; split <;> rfl
theorem spend_rd (m : M) : (spend m).rd = m.rd := by unfold spend; split <;> rfl
theorem spend_wr (m : M) : (spend m).wr = m.wr := by unfold spend; split <;> rfl
theorem here_of {m : M} {i : Int} (h : here m i = true) : ∃ j : Nat, i = (j : Int) ∧ j < m.n := by
  unfold here at h
  simp at h
  exact ⟨i.toNat, by omega, by omega⟩
theorem fault_ok {m : M} {i : Int} {L : List Int} (h : fault m i L = 0) : here m i = true ∧ L.length ≤ 1024 := by
  unfold fault at h
  cases hh : here m i with
  | false => rw [hh] at h; simp at h
  | true =>
    rw [hh] at h
    by_cases hl : 1024 < L.length
    · simp [hl] at h
    · exact ⟨rfl, by omega⟩
end Dk
/-- T, and what was made since. -/
def Own (T : Nat → Prop) (w w' : World) : Nat → Prop := fun g => T g ∨ (w.heap.size ≤ g ∧ g < w'.heap.size)
def WSay (T : Nat → Prop) (d lb rb cb : Nat) (v : Value) (m' : Dk.M) (w : World) (e : Ending) (w' : World) : Prop := e = .returned v ∧ Hid (DkAt w' (Own T w w') d lb rb cb m') ∧ Hid (Mv [d, lb, rb, cb] w w')
section
variable {T : Nat → Prop} {d lb rb cb : Nat} {m : Dk.M}
theorem DkAt.own {w y : World} (h : DkAt y T d lb rb cb m) : DkAt y (Own T w y) d lb rb cb m := h.lift (fun _ h => Or.inl h) (fun g hg => by
  rcases hg with h1 | h1
  · exact h.top g h1
  · exact h1.2)
set_option maxHeartbeats 2000000 in
set_option maxRecDepth 100000 in
theorem write_any (i : Int) (L : List Int) (p : Option Addr) (n c : Nat) (hn : L.length = n) (hnb : n ≤ 1000000) (hwr : m.wr ≤ 1000000000) (w : World) (hd : DkAt w T d lb rb cb m) (hb : Bs w p c L) :
    Calls Try.prog 27 #[.pointer (some ⟨d, 0, none⟩), .int .i64 i, .slice p n c] w (WSay T d lb rb cb (.int .i64 (Dk.wrE m i L)) (Dk.wrM m i L) w) := by
  obtain ⟨c0, c1, c2, c3, c4, c5⟩ := hd.cells
  clear c0 c1 c2 c3 c4
  have HD := Lib.hid hd; clear hd
  have HB := Lib.hid hb; clear hb
  cases hdn : m.down with
  | true =>
    have e1 : Dk.wrE m i L = 12 := by unfold Dk.wrE; rw [if_pos hdn]
    have e2 : Dk.wrM m i L = m := by unfold Dk.wrM; rw [if_pos hdn]
    rw [hdn] at c5
    go_enter Try.func27, Try.ntmps27
    go_wp2
    go_ret
    refine ⟨by first | rfl | (rw [e1]; rfl), Lib.hid ?_, Lib.hid (Mv.refl _ _)⟩
    rw [e2]
    exact HD.out.own
  | false =>
    rw [hdn] at c5
    by_cases hf : Dk.fault m i L = 0
    · obtain ⟨hh, hL⟩ := Dk.fault_ok hf
      obtain ⟨j, rfl, hj⟩ := Dk.here_of hh
      cases hg : Dk.gone m with
      | true =>
        have e1 : Dk.wrE m j L = 12 := by unfold Dk.wrE Dk.spendE; rw [hdn, if_neg (by decide), if_neg (by rw [hf]; decide), if_pos hg]
        have e2 : Dk.wrM m j L = Dk.spend m := by unfold Dk.wrM; rw [hdn, if_neg (by decide), if_neg (by rw [hf]; decide), if_pos hg]
        have e3 : Dk.spendE m = 12 := by unfold Dk.spendE; rw [if_pos hg]
        go_enter Try.func27, Try.ntmps27
        go_wp2_with (first
          | (go_at_call 39; refine (fault_any _ L p n c hn _ HD.out).mono ?_; rw [hf]; rintro e w1 ⟨rfl, rfl⟩)
          | (go_at_call 40; refine (spend_any _ HD.out).mono ?_; rw [e3]; rintro e w2 ⟨rfl, hd2, hm2⟩; have HM2 := Lib.hid hm2; clear hm2))
        go_ret
        refine ⟨by first | rfl | (rw [e1]; rfl), Lib.hid ?_, Lib.hid (HM2.out.more (fun k hk => by simp at hk ⊢; exact Or.inl hk))⟩
        rw [e2]
        exact hd2.out.own
      | false =>
        have e1 : Dk.wrE m j L = 0 := by unfold Dk.wrE Dk.spendE; rw [hdn, if_neg (by decide), if_neg (by rw [hf]; decide), hg]; rfl
        have e2 : Dk.wrM m j L = { Dk.spend m with ca := upd (Dk.spend m).ca j (some L), wr := (Dk.spend m).wr + 1 } := by unfold Dk.wrM; rw [hdn, if_neg (by decide), if_neg (by rw [hf]; decide), hg, Dk.spend_ca, Dk.spend_wr]; rfl
        have e3 : Dk.spendE m = 0 := by unfold Dk.spendE; rw [hg]; rfl
        obtain ⟨m2, hm2e⟩ : ∃ m2, Hid (Dk.spend m = m2) := ⟨_, rfl⟩
        have h0 : (0 : Int) ≤ (j : Int) := by omega
        have hj2 : j < m2.n := by rw [← hm2e.out, Dk.spend_n]; exact hj
        have hwr2 : m2.wr ≤ 1000000000 := by rw [← hm2e.out, Dk.spend_wr]; exact hwr
        go_enter Try.func27, Try.ntmps27
        go_upto_region 9 with (first
          | (go_at_call 39; refine (fault_any _ L p n c hn _ HD.out).mono ?_; rw [hf]; rintro e w1 ⟨rfl, rfl⟩)
          | (go_at_call 40; refine (spend_any _ HD.out).mono ?_; rw [e3]; rintro e w2 ⟨rfl, hd2, hmv2⟩; rw [hm2e.out] at hd2; have HM2 := Lib.hid hmv2; clear hmv2))
        have HBS : Hid (Bs w2.drew p c L) := (HD.out.bs HB.out (HM2.out.more (fun k hk => by simp at hk ⊢; exact Or.inl hk))).drew
        have HD2 := Lib.hid hd2.out
        have k1 := hd2.out.cells.2.1
        have k3 := hd2.out.cells.2.2.2.1
        clear hd2
        obtain ⟨F, hF1, hF2⟩ := HD2.out.csh
        have HF := Lib.hid (show MapAt w2 cb m2.wr F ∧ CaAt w2 T m2 F from ⟨hF1, hF2⟩)
        clear hF1 hF2
        go_region_held3 (fun y => y.cell? ⟨d, 1, none⟩ = some (.map (some cb)))
          (first | exact k1 | exact kb.out | exact kc.out)
          ((go_at_call 41; refine (clone_any L p n c hn hnb _ HBS.out).mono ?_; rintro e w4 ⟨v4, rfl, ho4, hb4⟩; have B4 : Hid (Below w2.heap.size w2 w4) := ((Below.refl _ w2).drew).trans hb4; have O4 := Lib.hid ho4; have kb : Hid (w4.cell? ⟨d, 1, none⟩ = some (.map (some cb))) := (B4.out.cell (World.block_lt_of_cell? _ _ k1)).trans k1; obtain ⟨w5, hrun, hmp, htn⟩ := (HF.out.1.keep (B4.out.block _ HF.out.1.lt)).store Try.mapTy j (by have := HD2.out.ok.n2; omega) v4 (by unfold maxLen; omega); have HMP := Lib.hid hmp; have HTN := Lib.hid htn; have kc : Hid (w5.cell? ⟨d, 1, none⟩ = some (.map (some cb))) := (World.cell?_of_block (htn.grown.block d (World.block_lt_of_cell? _ _ kb.out) (fun e => HD2.out.ne.2.2.1 (Option.some.inj e)))).trans kb.out; clear hmp htn ho4 hb4))
        have hlt := HD2.out.top _ HD2.out.lt.1
        have hltc := HD2.out.top _ HD2.out.lt.2.2.2
        have hnc := HD2.out.ne.2.2.1
        have M5 : Hid (Mv [d, cb] w2 w5) := (Mv.of_below B4.out).trans (Mv.turned HTN.out (by simp))
        have r5 : Hid (w5.heap[d]? = w2.heap[d]?) := (HTN.out.grown.block d (Nat.lt_of_lt_of_le hlt B4.out.size) (fun e => hnc (Option.some.inj e))).trans (B4.out.block d hlt)
        have R5 := Lib.hid (r5.out.trans HD2.out.row)
        have c3 : w5.cell? ⟨d, 3, none⟩ = some (.int .i64 (m2.wr : Int)) := by rw [cell_of_row w5 d 3 _ _ _ R5.out]; rfl
        have f3 := frozen_of_row w5 d 3 _ _ R5.out
        have hw1 : IntKind.i64.wrap ((m2.wr : Int) + 1) = (m2.wr : Int) + 1 := IntWalk.i64_in _ ⟨by omega, by omega⟩
        clear k1 k3 kb kc r5
        go_wp2
        go_ret
        have hset := heap_setCell_same w5 d 3 _ _ (.int .i64 ((m2.wr : Int) + 1)) R5.out
        have M6 : Mv [d, cb] w2 (w5.setCell ⟨d, 3, none⟩ (.int .i64 ((m2.wr : Int) + 1))) := M5.out.setCell _ _ (by simp)
        have M7 : Mv [d, lb, rb, cb] w1 (w5.setCell ⟨d, 3, none⟩ (.int .i64 ((m2.wr : Int) + 1))) := (HM2.out.more (fun k hk => by simp at hk ⊢; exact Or.inl hk)).trans (M6.more (fun k hk => by simp at hk ⊢; rcases hk with rfl | rfl <;> simp))
        refine ⟨by first | rfl | (rw [e1]; rfl), Lib.hid ?_, Lib.hid M7⟩
        rw [e2, hm2e.out]
        have hO := O4.out
        have hlo : ∀ g, v4.ownBlock = some g → w2.heap.size ≤ g ∧ g < w4.heap.size := fun g hg => hO.lt g hg
        have hk : ∀ g, v4.ownBlock = some g → (w5.setCell ⟨d, 3, none⟩ (.int .i64 ((m2.wr : Int) + 1))).heap[g]? = w4.heap[g]? := fun g hg => by
          have h := hlo g hg
          rw [heap_setCell_other w5 ⟨d, 3, none⟩ g _ (show g ≠ d by omega)]
          exact HTN.out.grown.block g h.2 (fun e => by have := Option.some.inj e; omega)
        have hsz : w4.heap.size ≤ (w5.setCell ⟨d, 3, none⟩ (.int .i64 ((m2.wr : Int) + 1))).heap.size := by have := HTN.out.grown.size; simp; exact this
        have h12 := HM2.out.size
        refine HD2.out.cached (fun _ h => Or.inl h) (fun g hg => ?_) M6 (by rw [hset]; simp) HF.out.2 (HMP.out.keep (heap_setCell_other w5 ⟨d, 3, none⟩ cb _ (fun e => hnc e.symm))) hj2 ?_ hL
        · rcases hg with h | h
          · exact Nat.lt_of_lt_of_le (HD2.out.top g h) M6.size
          · exact h.2
        · refine ⟨own_keepB ?_ hk, HB.out.bat.1, fun g hg => Or.inr ?_⟩
          · rw [hn]
            exact own_base hO (Nat.zero_le _)
          · have h := hlo g hg
            exact ⟨by omega, by omega⟩
    · have e1 : Dk.wrE m i L = Dk.fault m i L := by unfold Dk.wrE; rw [hdn, if_neg (by decide), if_pos hf]
      have e2 : Dk.wrM m i L = m := by unfold Dk.wrM; rw [hdn, if_neg (by decide), if_pos hf]
      have hf' : (Dk.fault m i L == 0) = false := by simpa using hf
      go_enter Try.func27, Try.ntmps27
      go_wp2_with (go_at_call 39; refine (fault_any _ L p n c hn _ HD.out).mono ?_; rintro e w1 ⟨rfl, rfl⟩)
      go_ret
      refine ⟨by first | rfl | (rw [e1]; rfl), Lib.hid ?_, Lib.hid (Mv.refl _ _)⟩
      rw [e2]
      exact HD.out.own
end
end Go.Proofs.Ytglfjjmbadffmaa

/-
  Contracts: Tamper, Read.
-/
import Derived.Test.YtdkkoffmffallaaDkG
namespace Go.Proofs.Ytdkkoffmffallaa
open Go.RowKit

namespace Dk
def tpM (m : M) (i : Int) (L : List Int) : M := if fault m i L = 0 then { m with ls := upd m.ls i.toNat L, ca := upd m.ca i.toNat none } else m
def rdE (m : M) (i : Int) : Int := if here m i then 0 else 7
def peek (m : M) (j : Nat) : List Int := (m.ca j).getD (m.ls j)
def rdX (m : M) (i : Int) : List Int := if here m i then peek m i.toNat else []
def rdM (m : M) (i : Int) : M := if here m i then { m with rd := upd m.rd i.toNat (m.rd i.toNat + 1) } else m
end Dk
section
variable {T : Nat → Prop} {d lb rb cb : Nat} {m : Dk.M}
set_option maxHeartbeats 2000000 in
set_option maxRecDepth 100000 in
theorem tamper_any (i : Int) (L : List Int) (p : Option Addr) (n c : Nat) (hn : L.length = n) (hnb : n ≤ 1000000) (w : World) (hd : DkAt w T d lb rb cb m) (hb : Bs w p c L) :
    Calls Try.prog 25 #[.pointer (some ⟨d, 0, none⟩), .int .i64 i, .slice p n c] w (WSay T d lb rb cb (.int .i64 (Dk.fault m i L)) (Dk.tpM m i L) w) := by
  by_cases hf : Dk.fault m i L = 0
  · obtain ⟨hh, hL⟩ := Dk.fault_ok hf
    obtain ⟨j, rfl, hj⟩ := Dk.here_of hh
    have e2 : Dk.tpM m j L = { m with ls := upd m.ls j L, ca := upd m.ca j none } := by unfold Dk.tpM; rw [if_pos hf]; rfl
    have k0 := hd.cells.1
    obtain ⟨A, hA1, hA2, _⟩ := hd.lst
    obtain ⟨F, hF1, hF2⟩ := hd.csh
    have HF := Lib.hid (show MapAt w cb m.wr F ∧ CaAt w T m F from ⟨hF1, hF2⟩)
    have HA := Lib.hid hA1
    have HAS := Lib.hid hA2
    have HD := Lib.hid hd
    have HB := Lib.hid hb
    have HBD := Lib.hid hb.drew
    have hl1 : (0 : Int) ≤ (j : Int) := by omega
    have hl2 : (j : Int) < (m.n : Int) := by omega
    have ne := hd.ne
    have HNE := Lib.hid hd.ne
    have hltb := hd.top _ hd.lt.2.1
    have hltc := hd.top _ hd.lt.2.2.2
    have hltd := hd.top _ hd.lt.1
    have hn2 := hd.ok.n2
    obtain ⟨a0, ha0⟩ : ∃ a0, A[j]? = some a0 := ⟨A[j]'(by omega), Array.getElem?_eq_getElem _⟩
    clear hd hb hA1 hA2 hF1 hF2 ne
    go_enter Try.func25, Try.ntmps25
    go_upto_region 4 with (go_at_call 44; refine (fault_any _ L p n c hn _ HD.out).mono ?_; rw [hf]; rintro e w1 ⟨rfl, rfl⟩)
    go_region_held3 (fun y => y.cell? ⟨d, 0, none⟩ = some (.slice (some ⟨lb, 0, none⟩) m.n m.n))
      (first | exact k0 | exact kb.out | exact kc.out _)
      ((go_at_call 45; refine (clone_any L p n c hn hnb _ HBD.out).mono ?_; rintro e w4 ⟨v4, rfl, ho4, hb4⟩; obtain ⟨p4, c4, rfl, _, _⟩ := own_bs ho4 HB.out.bat.1; have B4 : Hid (Below w1.heap.size w1 w4) := ((Below.refl _ w1).drew).trans hb4; have O4 := Lib.hid ho4; have kb : Hid (w4.cell? ⟨d, 0, none⟩ = some (.slice (some ⟨lb, 0, none⟩) m.n m.n)) := (B4.out.cell (World.block_lt_of_cell? _ _ k0)).trans k0; have HA4 : Hid (w4.heap[lb]? = some (.cells A 31 (0, 0))) := (B4.out.block _ hltb).trans HA.out; have t4 : w4.cell? ⟨lb, j, none⟩ = some a0 := (cell_of_row w4 lb j _ _ _ HA4.out).trans ha0; have f4 := frozen_of_row w4 lb j _ _ HA4.out; have kc : Hid (∀ u, (w4.setCell ⟨lb, j, none⟩ u).cell? ⟨d, 0, none⟩ = some (.slice (some ⟨lb, 0, none⟩) m.n m.n)) := fun u => (World.cell?_of_block (heap_setCell_other w4 ⟨lb, j, none⟩ d _ HNE.out.1)).trans kb.out; clear ho4 hb4))
    obtain ⟨w5, HW5⟩ : ∃ y : World, Hid (w4.setCell ⟨lb, j, none⟩ (.slice p4 n c4) = y) := ⟨_, rfl⟩
    have hset := heap_setCell_same w4 lb j _ _ (.slice p4 n c4) HA4.out
    have M5 : Hid (Mv [lb, cb] w1 w5) := by show Mv _ _ _; rw [← HW5.out]; exact (Mv.of_below B4.out).setCell _ _ (by simp)
    have O5 : Hid (∀ k, k ≠ lb → w5.heap[k]? = w4.heap[k]?) := fun k hk => by rw [← HW5.out]; exact heap_setCell_other w4 ⟨lb, j, none⟩ k _ hk
    have S5 : Hid (w4.heap.size ≤ w5.heap.size) := by show _ ≤ _; rw [← HW5.out]; simp
    rw [HW5.out] at hset ⊢
    have L5 := Lib.hid hset
    have k1 : w5.cell? ⟨d, 1, none⟩ = some (.map (some cb)) := (World.cell?_of_block ((O5.out d HNE.out.1).trans (B4.out.block d hltd))).trans HD.out.cells.2.1
    have HMC : Hid (MapAt w5 cb m.wr F) := HF.out.1.keep ((O5.out cb (fun e => HNE.out.2.2.2.2.1 e.symm)).trans (B4.out.block cb hltc))
    clear HW5 hset k0 kb kc t4 f4
    go_wp2_with (at_delete; obtain ⟨w6, hrun, hmp, htn⟩ := HMC.out.drop Try.mapTy j (by omega) _; refine wpList_del rfl _ _ _ _ rfl cb _ rfl rfl w6 hrun ?_; have HMP := Lib.hid hmp; have HTN := Lib.hid htn; clear hmp htn hrun)
    go_ret
    have M6 : Mv [lb, cb] w1 w6 := M5.out.trans (Mv.turned HTN.out (by simp))
    have M7 : Mv [d, lb, rb, cb] w1 w6 := M6.more (fun k hk => by simp at hk ⊢; rcases hk with rfl | rfl <;> simp)
    have hO := O4.out
    have hlo : ∀ g, (Value.slice p4 n c4).ownBlock = some g → w1.heap.size ≤ g ∧ g < w4.heap.size := fun g hg => by
      have h := hO.lt g (by rw [hn]; exact hg)
      exact h
    have hk : ∀ g, (Value.slice p4 n c4).ownBlock = some g → w6.heap[g]? = w4.heap[g]? := fun g hg => by
      have h := hlo g hg
      have h2 := S5.out
      exact (HTN.out.grown.block g (by omega) (fun e => by have := Option.some.inj e; omega)).trans (O5.out g (by omega))
    have hsz := HTN.out.grown.size
    refine ⟨by rw [hf]; rfl, Lib.hid ?_, Lib.hid M7⟩
    rw [e2]
    refine HD.out.put (fun _ h => Or.inl h) (fun g hg => ?_) M6 HA.out ((HTN.out.grown.block lb (lt_of_block L5.out) (fun e => HNE.out.2.2.2.2.1 (Option.some.inj e))).trans L5.out) HF.out.2 HMP.out hj ?_ hL
    · rcases hg with h | h
      · exact Nat.lt_of_lt_of_le (HD.out.top g h) M6.size
      · exact h.2
    · refine ⟨own_keepB (v := .slice p4 n c4) ?_ hk, HB.out.bat.1, fun g hg => Or.inr ?_⟩
      · rw [hn]
        have h := own_base hO (Nat.zero_le _)
        rw [hn] at h
        exact h
      · have h := hlo g hg
        have h2 := S5.out
        exact ⟨by omega, by omega⟩
  · have e2 : Dk.tpM m i L = m := by unfold Dk.tpM; rw [if_neg hf]
    have hf' : (Dk.fault m i L == 0) = false := by simpa using hf
    have HD := Lib.hid hd; clear hd
    go_enter Try.func25, Try.ntmps25
    go_wp2_with (go_at_call 44; refine (fault_any _ L p n c hn _ HD.out).mono ?_; rintro e w1 ⟨rfl, rfl⟩)
    go_ret
    refine ⟨rfl, Lib.hid ?_, Lib.hid (Mv.refl _ _)⟩
    rw [e2]
    exact HD.out.own
/-- What Read says. -/
def RdSay (T : Nat → Prop) (d lb rb cb : Nat) (m : Dk.M) (i : Int) (w : World) (e : Ending) (w' : World) : Prop := ∃ v, e = .returned (.tuple #[v, .int .i64 (Dk.rdE m i)]) ∧ Hid (w'.ownsRow w.heap.size 5 1 v (Dk.rdX m i).length (U8s (Dk.rdX m i)) ∧ Sha.Byt (Dk.rdX m i)) ∧ Hid (DkAt w' T d lb rb cb (Dk.rdM m i)) ∧ Hid (Mv [d, lb, rb, cb] w w')
/-- One sector was read once more. -/
theorem DkAt.counted {y z : World} {j : Nat} (h : DkAt y T d lb rb cb m) (hm : Mv [rb] y z) (hr : z.heap[rb]? = some (.cells (((List.range m.n).map fun i => Value.int .i64 (m.rd i : Int)).toArray.setIfInBounds j (.int .i64 ((m.rd j : Int) + 1))) 3 (0, 0))) (hj : j < m.n) :
    DkAt z T d lb rb cb { m with rd := upd m.rd j (m.rd j + 1) } := by
  have ne := h.ne
  have lt := h.lt
  have hm4 : Mv [d, lb, rb, cb] y z := hm.more (fun k hk => by simp at hk ⊢; subst hk; simp)
  have hu := h.u8 hm4
  have key : ∀ g, T g → g ≠ rb → z.heap[g]? = y.heap[g]? := fun g hg hn => hm.block g (h.top g hg) (by simpa using hn)
  obtain ⟨A, a1, a2, a3⟩ := h.lst
  obtain ⟨F, b1, b2⟩ := h.csh
  obtain ⟨o1, o2, o3, o4, o5, o6⟩ := h.ok
  refine ⟨lt, fun g hg => Nat.lt_of_lt_of_le (h.top g hg) hm.size, (key d lt.1 ne.2.1).trans h.row, ⟨A, (key lb lt.2.1 ne.2.2.2.1).trans a1, a2, fun i hi => ?_⟩, ⟨F, b1.keep (key cb lt.2.2.2 (fun e => ne.2.2.2.2.2 e.symm)), fun i => ⟨(b2 i).1, fun L hL => ?_⟩⟩, ?_, ⟨o1, o2, o3, o4, o5, o6⟩⟩
  · obtain ⟨v, c1, c2⟩ := a3 i hi
    exact ⟨v, c1, c2.keep hu⟩
  · obtain ⟨v, c1, c2⟩ := (b2 i).2 L hL
    exact ⟨v, c1, c2.keep hu⟩
  · rw [hr]
    congr 2
    apply Array.ext_getElem?
    intro k
    by_cases hkj : k = j
    · subst hkj
      rw [Array.getElem?_setIfInBounds_self_of_lt (by simpa using hj)]
      simp [hj, upd_same]
    · rw [Array.getElem?_setIfInBounds_ne (fun e => hkj e.symm)]
      by_cases hk : k < m.n
      · simp [hk, upd_other _ _ hkj]
      · simp [hk]
set_option maxHeartbeats 2000000 in
set_option maxRecDepth 100000 in
theorem read_any (i : Int) (w : World) (hd : DkAt w T d lb rb cb m) (hrd : ∀ j, m.rd j ≤ 1000000000) :
    Calls Try.prog 18 #[.pointer (some ⟨d, 0, none⟩), .int .i64 i] w (RdSay T d lb rb cb m i w) := by
  cases hh : Dk.here m i with
  | false =>
    have e1 : Dk.rdE m i = 7 := by unfold Dk.rdE; rw [hh]; rfl
    have e2 : Dk.rdX m i = [] := by unfold Dk.rdX; rw [hh]; rfl
    have e3 : Dk.rdM m i = m := by unfold Dk.rdM; rw [hh]; rfl
    have HD := Lib.hid hd; clear hd
    go_enter Try.func18, Try.ntmps18
    go_wp2_with (go_at_call 47; refine (has_any i _ HD.out).mono ?_; rw [hh]; rintro e w1 ⟨rfl, rfl⟩)
    go_ret2
    refine ⟨.slice none 0 0, by rw [e1]; rfl, Lib.hid ?_, Lib.hid ?_, Lib.hid (Mv.refl _ _)⟩
    · rw [e2]
      exact ⟨by unfold U8s; exact World.ownsRow_nil _ _ _ _, fun x hx => by simp at hx⟩
    · rw [e3]; exact HD.out
  | true =>
    obtain ⟨j, rfl, hj⟩ := Dk.here_of hh
    have e1 : Dk.rdE m j = 0 := by unfold Dk.rdE; rw [hh]; rfl
    have e2 : Dk.rdX m j = Dk.peek m j := by unfold Dk.rdX; rw [hh]; rfl
    have e3 : Dk.rdM m j = { m with rd := upd m.rd j (m.rd j + 1) } := by unfold Dk.rdM; rw [hh]; rfl
    have k2 := hd.cells.2.2.1
    have ne := hd.ne
    have c2 : w.cell? ⟨rb, j, none⟩ = some (.int .i64 (m.rd j : Int)) := by
      rw [cell_of_row w rb j _ _ _ hd.rds]
      simp [hj]
    have f2 := frozen_of_row w rb j _ _ hd.rds
    have hw1 : IntKind.i64.wrap ((m.rd j : Int) + 1) = (m.rd j : Int) + 1 := IntWalk.i64_in _ (by have := hrd j; constructor <;> omega)
    have hl1 : (0 : Int) ≤ (j : Int) := by omega
    have hl2 : (j : Int) < (m.n : Int) := by omega
    obtain ⟨w2, hw2⟩ : ∃ y : World, Hid (w.setCell ⟨rb, j, none⟩ (.int .i64 ((m.rd j : Int) + 1)) = y) := ⟨_, rfl⟩
    have M2 : Hid (Mv [rb] w w2) := by show Mv _ _ _; rw [← hw2.out]; exact (Mv.refl _ _).setCell _ _ (by simp)
    have D2 : Hid (DkAt w2 T d lb rb cb { m with rd := upd m.rd j (m.rd j + 1) }) := by
      refine hd.counted M2.out ?_ hj
      rw [← hw2.out]
      exact heap_setCell_same w rb j _ _ _ hd.rds
    have HD := Lib.hid hd; clear hd
    have k0 := D2.out.cells.1
    have k1 := D2.out.cells.2.1
    have M4 : Hid (Mv [d, lb, rb, cb] w w2) := M2.out.more (fun k hk => by simp at hk ⊢; subst hk; simp)
    obtain ⟨F, hF1, hF2⟩ := D2.out.csh
    obtain ⟨A, hA1, hA2, hA3⟩ := D2.out.lst
    have hlk := hF1.look Try.mapTy j (by have := HD.out.ok.n2; omega)
    cases hc : m.ca j with
    | some L =>
      obtain ⟨v, hv, hs⟩ := (hF2 j).2 L hc
      obtain ⟨p, c, rfl, hb⟩ := hs.bs
      have e4 : Dk.peek m j = L := by unfold Dk.peek; rw [hc]; rfl
      have hLL : L.length ≤ 1024 := HD.out.ok.cab j L hc
      rw [hv] at hlk
      dsimp only [Option.getD_some, Option.isSome_some] at hlk
      have HB := Lib.hid hb; clear hb hs hF1 hF2 hA1 hA2 hA3 ne
      go_enter Try.func18, Try.ntmps18
      go_upto_region 4 with (go_at_call 47; refine (has_any _ _ HD.out).mono ?_; rw [hh]; rintro e w1 ⟨rfl, rfl⟩)
      rw [hw2.out]
      go_wp2_with (go_at_call 45; refine (clone_any L p L.length c rfl (by omega) _ HB.out).mono ?_; rintro e w4 ⟨v4, rfl, ho4, hb4⟩; have B4 : Hid (Below w2.heap.size w2 w4) := hb4; have O4 := Lib.hid ho4; clear ho4 hb4)
      go_ret2
      refine ⟨v4, by rw [e1]; rfl, Lib.hid ?_, Lib.hid ?_, Lib.hid (M4.out.trans (Mv.of_below B4.out))⟩
      · rw [e2, e4]
        exact ⟨own_base O4.out M2.out.size, HB.out.bat.1⟩
      · rw [e3]; exact D2.out.old B4.out
    | none =>
      obtain ⟨v, hv, hs⟩ := hA3 j hj
      obtain ⟨p, c, rfl, hb⟩ := hs.bs
      have hs1 : ({ m with rd := upd m.rd j (m.rd j + 1) } : Dk.M).ls j = m.ls j := rfl
      have e4 : Dk.peek m j = m.ls j := by unfold Dk.peek; rw [hc]; rfl
      have hLL : (m.ls j).length ≤ 1024 := HD.out.ok.lsb j
      rw [(hF2 j).1 hc] at hlk
      dsimp only [Option.getD_none, Option.isSome_none] at hlk
      have c6 : w2.cell? ⟨lb, j, none⟩ = some (.slice p (m.ls j).length c) := (cell_of_row w2 lb j _ _ _ hA1).trans hv
      have HB := Lib.hid (show Bs w2 p c (m.ls j) from hb); clear hb hs hF1 hF2 hA1 hA2 hA3 ne hv hs1
      generalize m.ls j = L at *
      go_enter Try.func18, Try.ntmps18
      go_upto_region 4 with (go_at_call 47; refine (has_any _ _ HD.out).mono ?_; rw [hh]; rintro e w1 ⟨rfl, rfl⟩)
      rw [hw2.out]
      go_wp2_with (go_at_call 45; refine (clone_any L p L.length c rfl (by omega) _ HB.out).mono ?_; rintro e w4 ⟨v4, rfl, ho4, hb4⟩; have B4 : Hid (Below w2.heap.size w2 w4) := hb4; have O4 := Lib.hid ho4; clear ho4 hb4)
      go_ret2
      refine ⟨v4, by rw [e1]; rfl, Lib.hid ?_, Lib.hid ?_, Lib.hid (M4.out.trans (Mv.of_below B4.out))⟩
      · rw [e2, e4]
        exact ⟨own_base O4.out M2.out.size, HB.out.bat.1⟩
      · rw [e3]; exact D2.out.old B4.out
end
end Go.Proofs.Ytdkkoffmffallaa

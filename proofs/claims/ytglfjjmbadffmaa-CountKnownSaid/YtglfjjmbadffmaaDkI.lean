/-
  Contract: Dirty.
-/
import Derived.Test.YtglfjjmbadffmaaDkH
import Derived.Test.YtglfjjmbadffmaaDkS
import Derived.Sort.OwnSortedInts
import Derived.Maps.AppendAt
namespace Go.Proofs.Ytglfjjmbadffmaa
open Go.RowKit

namespace Dk
/-- The dirty sectors, rising. -/
def dl (m : M) : List Nat := (List.range m.n).filter fun i => (m.ca i).isSome
theorem dl_mem (m : M) (i : Nat) : i ∈ dl m ↔ i < m.n ∧ (m.ca i).isSome = true := by
  unfold dl
  rw [List.mem_filter, List.mem_range]
theorem dl_rising (m : M) : (dl m).Pairwise (· < ·) := List.Pairwise.filter _ List.pairwise_lt_range
theorem dl_nodup (m : M) : (dl m).Nodup := (dl_rising m).imp (fun h => Nat.ne_of_lt h)
theorem dl_len (m : M) : (dl m).length ≤ m.n := by
  unfold dl
  have := List.length_filter_le (fun i => (m.ca i).isSome) (List.range m.n)
  rwa [List.length_range] at this
/-- Its numbers in whatever order, sorted. -/
theorem dl_sorted (m : M) (ks : List Nat) (hn : ks.Nodup) (hk : ∀ i, i ∈ ks ↔ i ∈ dl m) : ((ks.map fun (k : Nat) => (k : Int)).mergeSort fun x y => decide (x ≤ y)) = (dl m).map fun (k : Nat) => (k : Int) := by
  have tr : ∀ a b c : Int, decide (a ≤ b) = true → decide (b ≤ c) = true → decide (a ≤ c) = true := fun a b c h1 h2 => by
    simp only [decide_eq_true_eq] at *
    omega
  have tt : ∀ a b : Int, (decide (a ≤ b) || decide (b ≤ a)) = true := fun a b => by
    simp only [Bool.or_eq_true, decide_eq_true_eq]
    omega
  have hp : ks.Perm (dl m) := (List.perm_ext_iff_of_nodup hn (dl_nodup m)).2 hk
  refine List.Perm.eq_of_pairwise (le := fun a b => decide (a ≤ b) = true) (fun a b _ _ h1 h2 => by simp only [decide_eq_true_eq] at h1 h2; omega) (List.pairwise_mergeSort tr tt _) ?_ ((List.mergeSort_perm _ _).trans (hp.map _))
  rw [List.pairwise_map]
  exact (dl_rising m).imp (fun h => by simp only [decide_eq_true_eq]; omega)
end Dk
def I64s (l : List Nat) : List Value := l.map fun (k : Nat) => Value.int .i64 (k : Int)
theorem Try.info_int : (Try.prog.info? 3).map (fun i => (i.zero, i.size, i.bytes)) = some (some (.int .i64 0), 1, 8) := by kernel_rfl
/-- append of one number. -/
theorem append_int {ops : Array Oper} {rest : List Oper} {a : Act} {w : World} {Q : Exit → Act → World → Prop} {D : Option Tmp} {T : TypeId} {ps : String} {af : Array Edge} (s x : Operand) (B : Nat) (V : Value) (n : Nat) (L : List Nat) (ad : Addr) (y : Nat)
    (hs : a.eval s = V) (hx : a.eval x = .slice (some ad) 1 1) (ho : w.ownsRow B 3 1 V n (I64s L)) (hc : w.cell? ad = some (.int .i64 (y : Int))) (hk : n ≤ 1000000000000) (hB : B ≤ w.heap.size)
    (h : ∀ v' w', w'.ownsRow B 3 1 v' (n + 1) (I64s (L ++ [y])) → w.grownBy w' V.ownBlock → wpList Try.prog ops Q rest (a.put D v') w') :
    wpList Try.prog ops Q ({ dst := D, op := .call { callee := .builtin .append, args := #[s, x], argTypes := #[49, 49] }, type := T, pos := ps, after := af, guard := none } :: rest) a w := by
  obtain ⟨i0, hi, hz0, hz1, hz2⟩ := info_parts Try.info_int
  have hadd : ad.add 0 = ad := by simp [Addr.add]
  refine wpList_append_own_at _ rfl s x 49 rfl B 3 i0 (.int .i64 0) 1 8 Try.underlying49 hi hz0 hz1 hz2 rfl (by decide) V n (I64s L) hs ho ad 1 1 [.int .i64 (y : Int)] hx rfl (fun j q hj => ?_) (fun u hu => by simp at hu; subst hu; rfl) (by unfold maxLen; omega) (by omega) hB ?_
  · rcases j with _ | j
    · simp at hj; subst hj; rw [hadd]; exact hc
    · simp at hj
  · intro v' w' h1 h2 _ h4
    exact h v' w' (by unfold I64s at *; rw [List.map_append]; exact h1) h2
theorem wpList_range_run {P : Program} {w : World} {ops : Array Oper} {rest : List Oper} {o : Oper} {a : Act} {Q : Exit → Act → World → Prop} (hg : o.guard = none) (x : Operand) (t : TypeId) (hop : o.op = Op.range t x) (mv : Value) (hm : a.eval x = mv) (v : Value) (y : World) (hrun : (Instr.range t mv).run P w = .ok v y)
    (hK : wpList P ops Q rest (a.put o.dst v) y) : wpList P ops Q (o :: rest) a w := by
  refine wpList_plain hg fun K' hK' => ?_
  unfold Oper.wp
  simp [execOp, hop, hm, hrun, Result.andThen]
  exact hK' _ _ hK
theorem wpList_next_run {P : Program} {w : World} {ops : Array Oper} {rest : List Oper} {o : Oper} {a : Act} {Q : Exit → Act → World → Prop} (hg : o.guard = none) (it : Operand) (hop : o.op = Op.next it false) (iv : Value) (hm : a.eval it = iv) (v : Value) (y : World) (hrun : (Instr.next iv false o.type).run P w = .ok v y)
    (hK : wpList P ops Q rest (a.put o.dst v) y) : wpList P ops Q (o :: rest) a w := by
  refine wpList_plain hg fun K' hK' => ?_
  unfold Oper.wp
  simp [execOp, hop, hm, hrun, Result.andThen]
  exact hK' _ _ hK
def DirtySay (m : Dk.M) (w : World) (e : Ending) (w' : World) : Prop := ∃ v, e = .returned v ∧ Hid (w'.ownsRow w.heap.size 3 1 v (Dk.dl m).length (I64s (Dk.dl m))) ∧ Below w.heap.size w w'
section
variable {T : Nat → Prop} {d lb rb cb : Nat} {m : Dk.M}
theorem RngAt.grown {w y : World} {b r k cnt : Nat} {F : Nat → Option Value} {left : Nat → Bool} {B n : Nat} {e : TypeId} {v : Value} {xs : List Value} (h : RngAt w b r k F left cnt) (hg : w.grownBy y v.ownBlock) (ho : w.ownsRow B e 1 v n xs) : RngAt y b r k F left cnt := by
  have hl := h.lt
  have hlb := h.map.lt
  obtain ⟨es, clock, hb⟩ := h.map.isMap
  have hr := h.iter
  obtain ⟨q1, q2, q3, q4, hr⟩ := hr
  refine h.keep (hg.block b hlb (fun e => ?_)) (hg.block r hl.1 (fun e => ?_))
  · obtain ⟨_, cur, h2⟩ := own_type ho b e.symm
    rw [hb] at h2
    cases h2
  · obtain ⟨_, cur, h2⟩ := own_type ho r e.symm
    rw [hr] at h2
    cases h2
set_option maxHeartbeats 2000000 in
set_option maxRecDepth 100000 in
theorem dirty_any (w : World) (hd : DkAt w T d lb rb cb m) (hwr : m.wr ≤ 1000000000) : Calls Try.prog 37 #[.pointer (some ⟨d, 0, none⟩)] w (DirtySay m w) := by
  have k1 := hd.cells.2.1
  obtain ⟨F, hF1, hF2⟩ := hd.csh
  have hn2 := hd.ok.n2
  have HOUT := Lib.hid hd.ok.out
  have HF : Hid (∀ i, (F i).isSome = (m.ca i).isSome) := fun i => by
    cases h : m.ca i with
    | none => rw [(hF2 i).1 h]; rfl
    | some L => obtain ⟨v, hv, _⟩ := (hF2 i).2 L h; rw [hv]; rfl
  have HM := Lib.hid hF1
  clear hd hF1 hF2
  go_enter Try.func37, Try.ntmps37
  go_wp2_with (at_range; obtain ⟨w1, cnt1, hrun, hr1, hg1, hs1, hct⟩ := HM.out.range Try.mapTy; refine wpList_range_run rfl _ _ rfl _ rfl _ w1 hrun ?_; have HR1 := Lib.hid hr1; have B1 : Hid (Below w.heap.size w w1) := (Below.refl _ w).grown hg1 (Nat.le_refl _) (fun _ e => by cases e); have HCT := Lib.hid hct; clear hrun hr1 hg1 hs1 hct)
  go_frame
  go_loopw [3, 4] (fun v3 v4 wr => ∃ (ks : List Nat) (left : Nat → Bool) (cnt n : Nat), ks.length = n ∧ n + cnt ≤ cnt1 ∧ Hid (wr.ownsRow w.heap.size 3 1 v3 n (I64s ks)) ∧ Hid (RngAt wr cb w.heap.size m.wr F left cnt) ∧ Hid (Below w.heap.size w wr) ∧ Hid (ks.Nodup ∧ ∀ i, i ∈ ks ↔ (m.ca i).isSome = true ∧ left i = false)) (fun _ _ wr => wr.rangeLeft cb w.heap.size)
  case atStart =>
    refine ⟨[], _, cnt1, 0, rfl, by omega, Lib.hid (World.ownsRow_nil _ _ _ _), HR1, B1, Lib.hid ⟨List.nodup_nil, fun i => ?_⟩⟩
    constructor
    · intro h; simp at h
    · rintro ⟨h1, h2⟩
      have h3 := HF.out i
      rw [h1] at h3
      rw [h3] at h2
      cases h2
  case round =>
    obtain ⟨ks, left, cnt, n, hn, hnc, HO, HR, HB, HK⟩ := hrel
    rcases HR.out.next 0 with ⟨hl, hrun⟩ | ⟨j, v, w2, cnt2, hlj, hFj, hrun, hj, hr2, hlt, hg2, hs2, hen⟩
    · have HSO : Hid ((ks.map fun (k : Nat) => (k : Int)).mergeSort (fun x y => decide (x ≤ y)) = (Dk.dl m).map fun (k : Nat) => (k : Int)) := Dk.dl_sorted m ks HK.out.1 (fun i => by
        rw [HK.out.2, Dk.dl_mem]
        constructor
        · rintro ⟨h1, _⟩
          refine ⟨?_, h1⟩
          by_cases q : i < m.n
          · exact q
          · rw [HOUT.out i (by omega)] at h1; cases h1
        · exact fun h => ⟨h.2, hl i⟩)
      have HNL : Hid (n = (Dk.dl m).length) := by
        have h := congrArg List.length HSO.out
        simp only [List.length_mergeSort, List.length_map] at h
        show n = _
        omega
      clear hl
      rcases HO.out.2 with ⟨rfl, h0⟩ | ⟨g, cap, cur, rfl, hbase, hb, h1, h2, h3, h4⟩
      · have hn0 := HNL.out
        go_wp2_with (first
          | (at_next; refine wpList_next_run rfl _ rfl _ rfl _ _ hrun ?_)
          | (go_at_call 46; refine (Try.slices_Sort_int_none none 0 _).mono ?_; rintro e w5 ⟨rfl, rfl⟩))
        go_ret
        have hd0 : Dk.dl m = [] := List.eq_nil_of_length_eq_zero (by omega)
        refine ⟨_, rfl, Lib.hid ?_, HB.out⟩
        rw [hd0]
        exact World.ownsRow_nil _ _ _ _
      · have HBS := Lib.hid hbase
        have HBK := Lib.hid hb
        have HN4 := Lib.hid (show ks.length ≤ cap ∧ cap ≤ maxLen ∧ cur.size = cap * 1 from ⟨by rw [hn]; exact h1, h2, h3⟩)
        have HTK : Hid (cur.toList.take ks.length = (ks.map fun (k : Nat) => (k : Int)).map (Value.int .i64)) := by
          show _ = _
          rw [List.map_map, hn]
          rw [Nat.mul_one] at h4
          exact h4
        have hc := Try.slices_Sort_int g 0 cap (ks.map fun (k : Nat) => (k : Int)) wr (holds_of_blockI HBK.out (by rw [List.length_map]; exact HTK.out)) (lt_of_block HBK.out) (by have h := HNL.out; have h5 := Dk.dl_len m; rw [List.length_map]; omega)
        rw [List.length_map, hn] at hc
        have HC := Lib.hid hc
        clear hc hbase hb h1 h2 h3 h4
        go_wp2_with (first
          | (at_next; refine wpList_next_run rfl _ rfl _ rfl _ _ hrun ?_)
          | (go_at_call 46; refine HC.out.mono ?_; rintro e w5 ⟨rfl, nn, os, rfl⟩))
        go_ret
        have hrow := ownsRow_sortedI (w := wr) (base := w.heap.size) (n := nn) (os := os) (ss := ks.map fun (k : Nat) => (k : Int)) (ts := (ks.map fun (k : Nat) => (k : Int)).mergeSort fun x y => decide (x ≤ y)) (by simp) HBS.out HBK.out (by rw [List.length_map]; exact HN4.out.1) HN4.out.2.1 HN4.out.2.2
        rw [HSO.out] at hrow ⊢
        refine ⟨_, rfl, Lib.hid ?_, HB.out.grown (grownBy_sortedI _) HB.out.size (fun q hq => by cases hq; exact HBS.out)⟩
        rw [List.length_map, hn] at hrow
        rw [← HNL.out]
        unfold I64s
        rw [List.map_map] at hrow
        exact hrow
    · have HR2 := Lib.hid hr2
      have B2 : Hid (Below w.heap.size w w2) := HB.out.grown hg2 HB.out.size (fun q e => by cases e; exact Nat.le_refl _)
      have O2 : Hid (w2.ownsRow w.heap.size 3 1 u3 n (I64s ks)) := own_keepB HO.out (fun g hg => by
        obtain ⟨_, cur, h2⟩ := own_type HO.out g hg
        refine hg2.block g (lt_of_block h2) (fun e => ?_)
        obtain ⟨q1, q2, q3, q4, hit⟩ := HR.out.iter
        rw [← Option.some.inj e, h2] at hit
        cases hit)
      have HLT : Hid (w.heap.size ≤ w2.heap.size ∧ cnt1 ≤ m.wr) := ⟨B2.out.size, HCT.out⟩
      have HX : Hid (Below w2.heap.size w2 (w2.alloc (.cells #[.int .i64 (j : Int)] 3))) := (Below.refl _ _).alloc (Nat.le_refl _) _
      have HHJ : Hid ((m.ca j).isSome = true) := by show _ = true; rw [← HF.out j, hFj]; rfl
      have HLJ := Lib.hid hlj
      have HME := Lib.hid HR.out.left_eq
      have HLC := Lib.hid hlt
      clear hg2 hs2 hr2 hlj hlt hFj
      go_wp2_with (first
        | (at_next; refine wpList_next_run rfl _ rfl _ rfl _ _ hrun ?_)
        | (at_builtin; refine append_int _ _ w.heap.size _ n ks ⟨w2.heap.size, 0, none⟩ j rfl rfl (own_keepX O2.out HX.out) (by rw [cell_of_row _ _ 0 _ _ _ (heap_alloc_new w2 _)]; rfl) (by have := HLT.out; omega) (by have := HLT.out; simp; omega) ?_; intro v5 w5 ho5 hg5; have HO5 := Lib.hid ho5; have HG5 := Lib.hid hg5; clear ho5 hg5))
      have R5 := (HR2.out.keep (HX.out.block _ HR2.out.map.lt) (HX.out.block _ HR2.out.lt.1)).grown HG5.out (own_keepX O2.out HX.out)
      refine ⟨⟨ks ++ [j], _, cnt2, n + 1, by simp [hn], by have := HLC.out; omega, HO5, Lib.hid R5, Lib.hid ((B2.out.trans (HX.out.mono HLT.out.1)).grown HG5.out (by have := HLT.out.1; simp; omega) (fun q hq => (O2.out.lt q hq).1)), Lib.hid ⟨?_, fun i => ?_⟩⟩, by rw [R5.left_eq, HME.out]; exact HLC.out⟩
      · refine List.nodup_append.2 ⟨HK.out.1, by simp, fun a ha b hb e => ?_⟩
        simp at hb
        subst hb
        subst e
        have h := ((HK.out.2 a).1 ha).2
        rw [HLJ.out] at h
        cases h
      · rw [List.mem_append, HK.out.2]
        by_cases hij : i = j
        · subst hij
          rw [upd_same]
          simp [HHJ.out]
        · rw [upd_other _ _ hij]
          simp [hij]
end
end Go.Proofs.Ytglfjjmbadffmaa

/-
  DkI, DkJ (merged)
-/
import Derived.Test.YtpfghjnhoafcmaaDk2
import Derived.Test.YtpfghjnhoafcmaaDkS
import Derived.Sort.OwnSortedInts
import Derived.Maps.AppendAt
namespace Go.Proofs.Ytpfghjnhoafcmaa

/-! DkI: Contract: Dirty. -/
section
open Go.RowKit

namespace Dk
/-- The dirty sectors, rising. -/
def dl (m : M) : List Nat := (List.range m.n).filter fun i => (m.ca i).isSome
theorem dl_mem (m : M) (i : Nat) : i ∈ dl m ↔ i < m.n ∧ (m.ca i).isSome = true := by
  unfold dl
  rw [List.mem_filter, List.mem_range]
theorem dl_rising (m : M) : (dl m).Pairwise (· < ·) := List.Pairwise.filter _ List.pairwise_lt_range
theorem dl_nodup (m : M) : (dl m).Nodup := (dl_rising m).imp (fun h => Nat.ne_of_lt h)
theorem dl_len (m : M) : (dl m).length ≤ m.n := by
  unfold dl
  have := List.length_filter_le (fun i => (m.ca i).isSome) (List.range m.n)
  rwa [List.length_range] at this
/-- Its numbers in whatever order, sorted. -/
theorem dl_sorted (m : M) (ks : List Nat) (hn : ks.Nodup) (hk : ∀ i, i ∈ ks ↔ i ∈ dl m) : ((ks.map fun (k : Nat) => (k : Int)).mergeSort fun x y => decide (x ≤ y)) = (dl m).map fun (k : Nat) => (k : Int) := by
  have tr : ∀ a b c : Int, decide (a ≤ b) = true → decide (b ≤ c) = true → decide (a ≤ c) = true := fun a b c h1 h2 => by
    simp only [decide_eq_true_eq] at *
    omega
  have tt : ∀ a b : Int, (decide (a ≤ b) || decide (b ≤ a)) = true := fun a b => by
    simp only [Bool.or_eq_true, decide_eq_true_eq]
    omega
  have hp : ks.Perm (dl m) := (List.perm_ext_iff_of_nodup hn (dl_nodup m)).2 hk
  refine List.Perm.eq_of_pairwise (le := fun a b => decide (a ≤ b) = true) (fun a b _ _ h1 h2 => by simp only [decide_eq_true_eq] at h1 h2; omega) (List.pairwise_mergeSort tr tt _) ?_ ((List.mergeSort_perm _ _).trans (hp.map _))
  rw [List.pairwise_map]
  exact (dl_rising m).imp (fun h => by simp only [decide_eq_true_eq]; omega)
end Dk
def I64s (l : List Nat) : List Value := l.map fun (k : Nat) => Value.int .i64 (k : Int)
theorem Try.info_int : (Try.prog.info? 3).map (fun i => (i.zero, i.size, i.bytes)) = some (some (.int .i64 0), 1, 8) := by kernel_rfl
/-- append of one number. -/
theorem append_int {ops : Array Oper} {rest : List Oper} {a : Act} {w : World} {Q : Exit → Act → World → Prop} {D : Option Tmp} {T : TypeId} {ps : String} {af : Array Edge} (s x : Operand) (B : Nat) (V : Value) (n : Nat) (L : List Nat) (ad : Addr) (y : Nat)
    (hs : a.eval s = V) (hx : a.eval x = .slice (some ad) 1 1) (ho : w.ownsRow B 3 1 V n (I64s L)) (hc : w.cell? ad = some (.int .i64 (y : Int))) (hk : n ≤ 1000000000000) (hB : B ≤ w.heap.size)
    (h : ∀ v' w', w'.ownsRow B 3 1 v' (n + 1) (I64s (L ++ [y])) → w.grownBy w' V.ownBlock → wpList Try.prog ops Q rest (a.put D v') w') :
    wpList Try.prog ops Q ({ dst := D, op := .call { callee := .builtin .append, args := #[s, x], argTypes := #[42, 42] }, type := T, pos := ps, after := af, guard := none } :: rest) a w := by
  obtain ⟨i0, hi, hz0, hz1, hz2⟩ := info_parts Try.info_int
  have hadd : ad.add 0 = ad := by simp [Addr.add]
  refine wpList_append_own_at _ rfl s x 42 rfl B 3 i0 (.int .i64 0) 1 8 Try.underlying42 hi hz0 hz1 hz2 rfl (by decide) V n (I64s L) hs ho ad 1 1 [.int .i64 (y : Int)] hx rfl (fun j q hj => ?_) (fun u hu => by simp at hu; subst hu; rfl) (by unfold maxLen; omega) (by omega) hB ?_
  · rcases j with _ | j
    · simp at hj; subst hj; rw [hadd]; exact hc
    · simp at hj
  · intro v' w' h1 h2 _ h4
    exact h v' w' (by unfold I64s at *; rw [List.map_append]; exact h1) h2
theorem wpList_range_run {P : Program} {w : World} {ops : Array Oper} {rest : List Oper} {o : Oper} {a : Act} {Q : Exit → Act → World → Prop} (hg : o.guard = none) (x : Operand) (t : TypeId) (hop : o.op = Op.range t x) (mv : Value) (hm : a.eval x = mv) (v : Value) (y : World) (hrun : (Instr.range t mv).run P w = .ok v y)
    (hK : wpList P ops Q rest (a.put o.dst v) y) : wpList P ops Q (o :: rest) a w := by
  refine wpList_plain hg fun K' hK' => ?_
  unfold Oper.wp
  simp [execOp, hop, hm, hrun, Result.andThen]
  exact hK' _ _ hK
theorem wpList_next_run {P : Program} {w : World} {ops : Array Oper} {rest : List Oper} {o : Oper} {a : Act} {Q : Exit → Act → World → Prop} (hg : o.guard = none) (it : Operand) (hop : o.op = Op.next it false) (iv : Value) (hm : a.eval it = iv) (v : Value) (y : World) (hrun : (Instr.next iv false o.type).run P w = .ok v y)
    (hK : wpList P ops Q rest (a.put o.dst v) y) : wpList P ops Q (o :: rest) a w := by
  refine wpList_plain hg fun K' hK' => ?_
  unfold Oper.wp
  simp [execOp, hop, hm, hrun, Result.andThen]
  exact hK' _ _ hK
def DirtySay (m : Dk.M) (w : World) (e : Ending) (w' : World) : Prop := ∃ v, e = .returned v ∧ Hid (w'.ownsRow w.heap.size 3 1 v (Dk.dl m).length (I64s (Dk.dl m))) ∧ Below w.heap.size w w'
section
variable {T : Nat → Prop} {d lb rb cb : Nat} {m : Dk.M}
theorem RngAt.grown {w y : World} {b r k cnt : Nat} {F : Nat → Option Value} {left : Nat → Bool} {B n : Nat} {e : TypeId} {v : Value} {xs : List Value} (h : RngAt w b r k F left cnt) (hg : w.grownBy y v.ownBlock) (ho : w.ownsRow B e 1 v n xs) : RngAt y b r k F left cnt := by
  have hl := h.lt
  have hlb := h.map.lt
  obtain ⟨es, clock, hb⟩ := h.map.isMap
  have hr := h.iter
  obtain ⟨q1, q2, q3, q4, hr⟩ := hr
  refine h.keep (hg.block b hlb (fun e => ?_)) (hg.block r hl.1 (fun e => ?_))
  · obtain ⟨_, cur, h2⟩ := own_type ho b e.symm
    rw [hb] at h2
    cases h2
  · obtain ⟨_, cur, h2⟩ := own_type ho r e.symm
    rw [hr] at h2
    cases h2
set_option maxHeartbeats 2000000 in
set_option maxRecDepth 100000 in
theorem dirty_any (w : World) (hd : DkAt w T d lb rb cb m) (hwr : m.wr ≤ 1000000000) : Calls Try.prog 65 #[.pointer (some ⟨d, 0, none⟩)] w (DirtySay m w) := by
  have k1 := hd.cells.2.1
  obtain ⟨F, hF1, hF2⟩ := hd.csh
  have hn2 := hd.ok.n2
  have HOUT := Lib.hid hd.ok.out
  have HF : Hid (∀ i, (F i).isSome = (m.ca i).isSome) := fun i => by
    cases h : m.ca i with
    | none => rw [(hF2 i).1 h]; rfl
    | some L => obtain ⟨v, hv, _⟩ := (hF2 i).2 L h; rw [hv]; rfl
  have HM := Lib.hid hF1
  clear hd hF1 hF2
  go_enter Try.func65, Try.ntmps65
  go_wp2_with (at_range; obtain ⟨w1, cnt1, hrun, hr1, hg1, hs1, hct⟩ := HM.out.range Try.mapTy; refine wpList_range_run rfl _ _ rfl _ rfl _ w1 hrun ?_; have HR1 := Lib.hid hr1; have B1 : Hid (Below w.heap.size w w1) := (Below.refl _ w).grown hg1 (Nat.le_refl _) (fun _ e => by cases e); have HCT := Lib.hid hct; clear hrun hr1 hg1 hs1 hct)
  go_frame
  go_loopw [3, 4] (fun v3 v4 wr => ∃ (ks : List Nat) (left : Nat → Bool) (cnt n : Nat), ks.length = n ∧ n + cnt ≤ cnt1 ∧ Hid (wr.ownsRow w.heap.size 3 1 v3 n (I64s ks)) ∧ Hid (RngAt wr cb w.heap.size m.wr F left cnt) ∧ Hid (Below w.heap.size w wr) ∧ Hid (ks.Nodup ∧ ∀ i, i ∈ ks ↔ (m.ca i).isSome = true ∧ left i = false)) (fun _ _ wr => wr.rangeLeft cb w.heap.size)
  case atStart =>
    refine ⟨[], _, cnt1, 0, rfl, by omega, Lib.hid (World.ownsRow_nil _ _ _ _), HR1, B1, Lib.hid ⟨List.nodup_nil, fun i => ?_⟩⟩
    constructor
    · intro h; simp at h
    · rintro ⟨h1, h2⟩
      have h3 := HF.out i
      rw [h1] at h3
      rw [h3] at h2
      cases h2
  case round =>
    obtain ⟨ks, left, cnt, n, hn, hnc, HO, HR, HB, HK⟩ := hrel
    rcases HR.out.next 0 with ⟨hl, hrun⟩ | ⟨j, v, w2, cnt2, hlj, hFj, hrun, hj, hr2, hlt, hg2, hs2, hen⟩
    · have HSO : Hid ((ks.map fun (k : Nat) => (k : Int)).mergeSort (fun x y => decide (x ≤ y)) = (Dk.dl m).map fun (k : Nat) => (k : Int)) := Dk.dl_sorted m ks HK.out.1 (fun i => by
        rw [HK.out.2, Dk.dl_mem]
        constructor
        · rintro ⟨h1, _⟩
          refine ⟨?_, h1⟩
          by_cases q : i < m.n
          · exact q
          · rw [HOUT.out i (by omega)] at h1; cases h1
        · exact fun h => ⟨h.2, hl i⟩)
      have HNL : Hid (n = (Dk.dl m).length) := by
        have h := congrArg List.length HSO.out
        simp only [List.length_mergeSort, List.length_map] at h
        show n = _
        omega
      clear hl
      rcases HO.out.2 with ⟨rfl, h0⟩ | ⟨g, cap, cur, rfl, hbase, hb, h1, h2, h3, h4⟩
      · have hn0 := HNL.out
        go_wp2_with (first
          | (at_next; refine wpList_next_run rfl _ rfl _ rfl _ _ hrun ?_)
          | (go_at_call 81; refine (Try.slices_Sort_int_none none 0 _).mono ?_; rintro e w5 ⟨rfl, rfl⟩))
        go_ret
        have hd0 : Dk.dl m = [] := List.eq_nil_of_length_eq_zero (by omega)
        refine ⟨_, rfl, Lib.hid ?_, HB.out⟩
        rw [hd0]
        exact World.ownsRow_nil _ _ _ _
      · have HBS := Lib.hid hbase
        have HBK := Lib.hid hb
        have HN4 := Lib.hid (show ks.length ≤ cap ∧ cap ≤ maxLen ∧ cur.size = cap * 1 from ⟨by rw [hn]; exact h1, h2, h3⟩)
        have HTK : Hid (cur.toList.take ks.length = (ks.map fun (k : Nat) => (k : Int)).map (Value.int .i64)) := by
          show _ = _
          rw [List.map_map, hn]
          rw [Nat.mul_one] at h4
          exact h4
        have hc := Try.slices_Sort_int g 0 cap (ks.map fun (k : Nat) => (k : Int)) wr (holds_of_blockI HBK.out (by rw [List.length_map]; exact HTK.out)) (lt_of_block HBK.out) (by have h := HNL.out; have h5 := Dk.dl_len m; rw [List.length_map]; omega)
        rw [List.length_map, hn] at hc
        have HC := Lib.hid hc
        clear hc hbase hb h1 h2 h3 h4
        go_wp2_with (first
          | (at_next; refine wpList_next_run rfl _ rfl _ rfl _ _ hrun ?_)
          | (go_at_call 81; refine HC.out.mono ?_; rintro e w5 ⟨rfl, nn, os, rfl⟩))
        go_ret
        have hrow := ownsRow_sortedI (w := wr) (base := w.heap.size) (n := nn) (os := os) (ss := ks.map fun (k : Nat) => (k : Int)) (ts := (ks.map fun (k : Nat) => (k : Int)).mergeSort fun x y => decide (x ≤ y)) (by simp) HBS.out HBK.out (by rw [List.length_map]; exact HN4.out.1) HN4.out.2.1 HN4.out.2.2
        rw [HSO.out] at hrow ⊢
        refine ⟨_, rfl, Lib.hid ?_, HB.out.grown (grownBy_sortedI _) HB.out.size (fun q hq => by cases hq; exact HBS.out)⟩
        rw [List.length_map, hn] at hrow
        rw [← HNL.out]
        unfold I64s
        rw [List.map_map] at hrow
        exact hrow
    · have HR2 := Lib.hid hr2
      have B2 : Hid (Below w.heap.size w w2) := HB.out.grown hg2 HB.out.size (fun q e => by cases e; exact Nat.le_refl _)
      have O2 : Hid (w2.ownsRow w.heap.size 3 1 u3 n (I64s ks)) := own_keepB HO.out (fun g hg => by
        obtain ⟨_, cur, h2⟩ := own_type HO.out g hg
        refine hg2.block g (lt_of_block h2) (fun e => ?_)
        obtain ⟨q1, q2, q3, q4, hit⟩ := HR.out.iter
        rw [← Option.some.inj e, h2] at hit
        cases hit)
      have HLT : Hid (w.heap.size ≤ w2.heap.size ∧ cnt1 ≤ m.wr) := ⟨B2.out.size, HCT.out⟩
      have HX : Hid (Below w2.heap.size w2 (w2.alloc (.cells #[.int .i64 (j : Int)] 3))) := (Below.refl _ _).alloc (Nat.le_refl _) _
      have HHJ : Hid ((m.ca j).isSome = true) := by show _ = true; rw [← HF.out j, hFj]; rfl
      have HLJ := Lib.hid hlj
      have HME := Lib.hid HR.out.left_eq
      have HLC := Lib.hid hlt
      clear hg2 hs2 hr2 hlj hlt hFj
      go_wp2_with (first
        | (at_next; refine wpList_next_run rfl _ rfl _ rfl _ _ hrun ?_)
        | (at_builtin; refine append_int _ _ w.heap.size _ n ks ⟨w2.heap.size, 0, none⟩ j rfl rfl (own_keepX O2.out HX.out) (by rw [cell_of_row _ _ 0 _ _ _ (heap_alloc_new w2 _)]; rfl) (by have := HLT.out; omega) (by have := HLT.out; simp; omega) ?_; intro v5 w5 ho5 hg5; have HO5 := Lib.hid ho5; have HG5 := Lib.hid hg5; clear ho5 hg5))
      have R5 := (HR2.out.keep (HX.out.block _ HR2.out.map.lt) (HX.out.block _ HR2.out.lt.1)).grown HG5.out (own_keepX O2.out HX.out)
      refine ⟨⟨ks ++ [j], _, cnt2, n + 1, by simp [hn], by have := HLC.out; omega, HO5, Lib.hid R5, Lib.hid ((B2.out.trans (HX.out.mono HLT.out.1)).grown HG5.out (by have := HLT.out.1; simp; omega) (fun q hq => (O2.out.lt q hq).1)), Lib.hid ⟨?_, fun i => ?_⟩⟩, by rw [R5.left_eq, HME.out]; exact HLC.out⟩
      · refine List.nodup_append.2 ⟨HK.out.1, by simp, fun a ha b hb e => ?_⟩
        simp at hb
        subst hb
        subst e
        have h := ((HK.out.2 a).1 ha).2
        rw [HLJ.out] at h
        cases h
      · rw [List.mem_append, HK.out.2]
        by_cases hij : i = j
        · subst hij
          rw [upd_same]
          simp [HHJ.out]
        · rw [upd_other _ _ hij]
          simp [hij]
end
end

/-! DkJ: Contract: Sync. -/
section
open Go.RowKit

namespace Dk
def synced (m : M) : M := { m with ls := peek m, ca := fun _ => none }
def syM (m : M) : M := if gone m then spend m else synced (spend m)
end Dk
section
variable {T : Nat → Prop} {d lb rb cb : Nat} {m : Dk.M}
/-- What the cache says, where one sector lasts anew. -/
theorem CaAt.del {y z : World} {i : Nat} {F : Nat → Option Value} {L : List Int} (hF : CaAt y T m F) (hu : ∀ (g : Nat) (cur : Array Value), T g → y.heap[g]? = some (.cells cur 5 (0, 0)) → z.heap[g]? = y.heap[g]?) : CaAt z T { m with ls := upd m.ls i L, ca := upd m.ca i none } (upd F i none) := fun j => by
  by_cases hji : j = i
  · subst hji
    show (upd m.ca j none j = none → upd F j none j = none) ∧ ∀ X, upd m.ca j none j = some X → _
    rw [upd_same, upd_same]
    exact ⟨fun _ => rfl, fun X hX => by cases hX⟩
  · show (upd m.ca i none j = none → upd F i none j = none) ∧ ∀ X, upd m.ca i none j = some X → ∃ v, upd F i none j = some v ∧ _
    rw [upd_other _ _ hji, upd_other _ _ hji]
    refine ⟨(hF j).1, fun X hX => ?_⟩
    obtain ⟨u, c1, c2⟩ := (hF j).2 X hX
    exact ⟨u, c1, c2.keep hu⟩
theorem CaAt.keep {y z : World} {F : Nat → Option Value} (hF : CaAt y T m F) (hu : ∀ (g : Nat) (cur : Array Value), T g → y.heap[g]? = some (.cells cur 5 (0, 0)) → z.heap[g]? = y.heap[g]?) : CaAt z T m F := fun j => ⟨(hF j).1, fun X hX => by
  obtain ⟨u, c1, c2⟩ := (hF j).2 X hX
  exact ⟨u, c1, c2.keep hu⟩⟩
/-- The disk on the way: left: what is still to come. -/
structure Half (m m' : Dk.M) (lft : Nat → Bool) : Prop where
  n : m'.n = m.n
  rd : m'.rd = m.rd
  wr : m'.wr = m.wr
  lf : m'.left = m.left
  down : m'.down = m.down
  more : ∀ i, lft i = true → m'.ls i = m.ls i ∧ m'.ca i = m.ca i ∧ (m.ca i).isSome = true
  done : ∀ i, lft i = false → m'.ls i = Dk.peek m i ∧ m'.ca i = none
theorem Half.end {m m' : Dk.M} {left : Nat → Bool} (h : Half m m' left) (hl : ∀ i, left i = false) : m' = Dk.synced m := by
  obtain ⟨n, ls, ca, rd, wr, lf, dn⟩ := m'
  have h1 := h.n
  have h2 := h.rd
  have h3 := h.wr
  have h4 := h.lf
  have h5 := h.down
  dsimp only at h1 h2 h3 h4 h5
  subst h1
  subst h2
  subst h3
  subst h4
  subst h5
  have e1 : ls = Dk.peek m := funext fun i => (h.done i (hl i)).1
  have e2 : ca = fun _ => none := funext fun i => (h.done i (hl i)).2
  subst e1
  subst e2
  rfl
theorem Half.step {m m' : Dk.M} {left : Nat → Bool} {j : Nat} (h : Half m m' left) (hj : left j = true) : Half m (Dk.settle m' j) (upd left j false) := by
  obtain ⟨h1, h2, h3, h4, h5, h6, h7⟩ := h
  refine ⟨h1, h2, h3, h4, h5, fun i hi => ?_, fun i hi => ?_⟩
  · by_cases hij : i = j
    · subst hij; rw [upd_same] at hi; cases hi
    · rw [upd_other _ _ hij] at hi
      show upd m'.ls j _ i = _ ∧ upd m'.ca j none i = _ ∧ _
      rw [upd_other _ _ hij, upd_other _ _ hij]
      exact h6 i hi
  · by_cases hij : i = j
    · subst hij
      show upd m'.ls i _ i = _ ∧ upd m'.ca i none i = _
      rw [upd_same, upd_same, (h6 i hj).2.1]
      refine ⟨?_, rfl⟩
      unfold Dk.peek
      obtain ⟨X, hX⟩ := Option.isSome_iff_exists.1 (h6 i hj).2.2
      rw [hX]
      rfl
    · rw [upd_other _ _ hij] at hi
      show upd m'.ls j _ i = _ ∧ upd m'.ca j none i = _
      rw [upd_other _ _ hij, upd_other _ _ hij]
      exact h7 i hi
set_option maxHeartbeats 2000000 in
set_option maxRecDepth 100000 in
theorem sync_any (w : World) (hd : DkAt w T d lb rb cb m) : Calls Try.prog 38 #[.pointer (some ⟨d, 0, none⟩)] w (DiskSay T d lb rb cb (.int .i64 (Dk.spendE m)) (Dk.syM m) w) := by
  have HD := Lib.hid hd; clear hd
  cases hg : Dk.gone m with
  | true =>
    have e1 : Dk.spendE m = 12 := by unfold Dk.spendE; rw [if_pos hg]
    have e2 : Dk.syM m = Dk.spend m := by unfold Dk.syM; rw [if_pos hg]
    go_enter Try.func38, Try.ntmps38
    go_wp2_with (go_at_call 63; refine (spend_any _ HD.out).mono ?_; rw [e1]; rintro e w2 ⟨rfl, hd2, hm2⟩; have HM2 := Lib.hid hm2; clear hm2)
    go_ret
    refine ⟨by first | rfl | (rw [e1]; rfl), Lib.hid ?_, Lib.hid (HM2.out.more (fun k hk => by simp at hk ⊢; exact Or.inl hk))⟩
    rw [e2]
    exact hd2.out
  | false =>
    have e1 : Dk.spendE m = 0 := by unfold Dk.spendE; rw [hg]; rfl
    have e2 : Dk.syM m = Dk.synced (Dk.spend m) := by unfold Dk.syM; rw [hg]; rfl
    obtain ⟨m2, hm2e⟩ : ∃ m2, Hid (Dk.spend m = m2) := ⟨_, rfl⟩
    go_enter Try.func38, Try.ntmps38
    go_upto_region 4 with (go_at_call 63; refine (spend_any _ HD.out).mono ?_; rw [e1]; rintro e w2 ⟨rfl, hd2, hm2⟩; rw [hm2e.out] at hd2; have HM2 : Hid (Mv [d, lb, rb, cb] w w2) := Lib.hid (hm2.more (fun k hk => by simp at hk ⊢; exact Or.inl hk)); clear hm2)
    have HD2 := Lib.hid hd2.out
    clear hd2 HD
    have k1 := HD2.out.cells.2.1
    obtain ⟨F, hF1, hF2⟩ := HD2.out.csh
    have HF := Lib.hid (show MapAt w2 cb m2.wr F ∧ CaAt w2 T m2 F from ⟨hF1, hF2⟩)
    clear hF1 hF2
    go_wp2_with (at_range; obtain ⟨w3, cnt3, hrun, hr3, hg3, hs3, _⟩ := HF.out.1.range Try.mapTy; refine wpList_range_run rfl _ _ rfl _ rfl _ w3 hrun ?_; have HR3 := Lib.hid hr3; have B3 : Hid (Below w2.heap.size w2 w3) := (Below.refl _ w2).grown hg3 (Nat.le_refl _) (fun _ e => by cases e); clear hrun hr3 hg3 hs3)
    go_frame
    go_loopw [4] (fun v4 wr => ∃ (m' : Dk.M) (left : Nat → Bool) (F' : Nat → Option Value) (cnt : Nat), Hid (Half m2 m' left) ∧ Hid (RngAt wr cb w2.heap.size m'.wr F' left cnt) ∧ Hid (DkAt wr T d lb rb cb m' ∧ CaAt wr T m' F') ∧ Hid (Mv [d, lb, rb, cb] w2 wr)) (fun _ wr => wr.rangeLeft cb w2.heap.size)
    case atStart =>
      refine ⟨m2, _, F, cnt3, Lib.hid ⟨rfl, rfl, rfl, rfl, rfl, fun i hi => ⟨rfl, rfl, ?_⟩, fun i hi => ?_⟩, HR3, Lib.hid ⟨HD2.out.old B3.out, HF.out.2.keep (fun g cur hg' _ => B3.out.block g (HD2.out.top g hg'))⟩, Lib.hid (Mv.of_below B3.out)⟩
      · cases h : m2.ca i with
        | none => rw [(HF.out.2 i).1 h] at hi; cases hi
        | some L => rfl
      · cases h : m2.ca i with
        | none => exact ⟨by unfold Dk.peek; rw [h]; rfl, rfl⟩
        | some L => obtain ⟨v, hv, _⟩ := (HF.out.2 i).2 L h; rw [hv] at hi; cases hi
    case round =>
      obtain ⟨m', left, F', cnt, HH, HR, HDC, HM⟩ := hrel
      rcases HR.out.next 0 with ⟨hl, hrun⟩ | ⟨j, v, w5, cnt5, hlj, hFj, hrun, hj, hr5, hlt, hg5, hs5, hen⟩
      · have he := HH.out.end hl
        subst he
        have HDW := Lib.hid HDC.out.1
        go_wp2_with (at_next; refine wpList_next_run rfl _ rfl _ rfl _ _ hrun ?_)
        go_ret
        refine ⟨by first | rfl | (rw [e1]; rfl), Lib.hid ?_, Lib.hid (HM2.out.trans HM.out)⟩
        rw [e2, hm2e.out]
        exact HDW.out
      · have hnr : ¬ T w2.heap.size := fun h => Nat.lt_irrefl _ (HD2.out.top _ h)
        have M5 : Mv [w2.heap.size] wr w5 := Mv.grown hg5 (fun k e => by cases e; simp)
        have HD5 := Lib.hid (HDC.out.1.mv M5 (fun k hk => by simp at hk; subst hk; exact hnr))
        have HC5 : Hid (CaAt w5 T m' F') := HDC.out.2.keep (fun g cur hg' _ => M5.block g (HDC.out.1.top g hg') (by simp; intro e; exact hnr (e ▸ hg')))
        have HM5 : Hid (Mv [d, lb, rb, cb] w2 w5) := ⟨M5.os.trans HM.out.os, M5.tape.trans HM.out.tape, M5.output.trans HM.out.output, Nat.le_trans HM.out.size M5.size, fun k hk hn => (M5.block k (Nat.lt_of_lt_of_le hk HM.out.size) (by simp; omega)).trans (HM.out.block k hk hn)⟩
        obtain ⟨L, hL, hs⟩ : ∃ L, m'.ca j = some L ∧ Sec w5 T v L := by
          cases h : m'.ca j with
          | none => rw [(HC5.out j).1 h] at hFj; cases hFj
          | some L => obtain ⟨u, hu, hs⟩ := (HC5.out j).2 L h; rw [hu] at hFj; cases hFj; exact ⟨L, rfl, hs⟩
        obtain ⟨p, c, rfl, _⟩ := hs.bs
        have hjn : j < m'.n := by
          by_cases q : j < m'.n
          · exact q
          · rw [HD5.out.ok.out j (by omega)] at hL; cases hL
        obtain ⟨A, a1, a2, a3⟩ := HD5.out.lst
        have ne := HD5.out.ne
        have HR5 := Lib.hid hr5
        have HSE := Lib.hid (settle_gen j m'.n p L.length c hjn w5 (fun y => ∃ cnt', Hid (RngAt y cb w2.heap.size m'.wr (upd F' j none) (upd left j false) cnt') ∧ cnt' ≤ cnt5 ∧ Hid (DkAt y T d lb rb cb (Dk.settle m' j) ∧ CaAt y T (Dk.settle m' j) (upd F' j none)) ∧ Hid (Mv [d, lb, rb, cb] w2 y)) HD5.out.cells.1 HD5.out.cells.2.1 ne.1 A a1 a2
          (fun z hz => by
            have h := (hz.map HR5.out.map).look1 Try.mapTy j hj
            rw [hFj] at h
            exact h)
          (fun z ty hz => by
            have hset := heap_setCell_same w5 lb j A 41 (.slice p L.length c) a1
            have m1 : Mv [lb, cb] w5 (w5.setCell ⟨lb, j, none⟩ (.slice p L.length c)) := (Mv.refl _ _).setCell _ _ (by simp)
            have m2' : Mv [lb, cb] w5 z := m1.trans (hz.mv _)
            have hrz : RngAt z cb w2.heap.size m'.wr F' (upd left j false) cnt5 := HR5.out.keep (by rw [hz.heap]; exact heap_setCell_other w5 ⟨lb, j, none⟩ cb _ (fun e => ne.2.2.2.2.1 e.symm)) (by rw [hz.heap]; exact heap_setCell_other w5 ⟨lb, j, none⟩ _ _ (fun e => hnr (by have e' : w2.heap.size = lb := e; rw [e']; exact HD5.out.lt.2.1)))
            obtain ⟨y, cnt', hrun', hry, hle, ht⟩ := hrz.drop Try.mapTy j hj ty
            have m3 : Mv [lb, cb] w5 y := m2'.trans (Mv.turned ht (by simp))
            have m4 : Mv [d, lb, rb, cb] w5 y := m3.more (fun k hk => by simp at hk ⊢; rcases hk with rfl | rfl <;> simp)
            have hlb : y.heap[lb]? = some (.cells (A.setIfInBounds j (.slice p L.length c)) 41 (0, 0)) := by
              rw [ht.grown.block lb (by rw [hz.heap]; exact lt_of_block hset) (fun e => ne.2.2.2.2.1 (Option.some.inj e)), hz.heap]
              exact hset
            have es : Dk.settle m' j = { m' with ls := upd m'.ls j L, ca := upd m'.ca j none } := by unfold Dk.settle; rw [hL]; rfl
            refine ⟨y, hrun', cnt', Lib.hid (hry.congr (fun i => ?_)), hle, Lib.hid ?_, Lib.hid (HM5.out.trans m4)⟩
            · by_cases hij : i = j
              · subst hij; rw [upd_same, upd_same]
              · rw [upd_other _ _ hij, upd_other _ _ hij, upd_other _ _ hij]
            · rw [es]
              exact ⟨HD5.out.put (fun _ h => h) (fun g hg => Nat.lt_of_lt_of_le (HD5.out.top g hg) m3.size) m3 a1 hlb HC5.out hry.map hjn (hs.keep (HD5.out.u8 m4)) (HD5.out.ok.cab j L hL), HC5.out.del (HD5.out.u8 m4)⟩))
        have HLJ := Lib.hid hlj
        have HME := Lib.hid HR.out.left_eq
        have HLC := Lib.hid hlt
        clear hs a1 a2 a3 ne hg5 hs5 hr5 hlj hlt hFj M5 hjn hL
        go_wp2_with (first
          | (at_next; refine wpList_next_run rfl _ rfl _ rfl _ _ hrun ?_)
          | (go_at_call 64; refine HSE.out.mono ?_; rintro e w6 ⟨rfl, cnt6, hr6, hle6, hd6, hm6⟩))
        exact ⟨⟨_, _, _, cnt6, Lib.hid (HH.out.step HLJ.out), hr6, hd6, hm6⟩, by rw [hr6.out.left_eq, HME.out]; have := HLC.out; omega⟩
end
end
end Go.Proofs.Ytpfghjnhoafcmaa

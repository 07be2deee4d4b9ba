/-
  Contract: Sync.
-/
import Derived.Test.YtglfjjmbadffmaaDkI
namespace Go.Proofs.Ytglfjjmbadffmaa
open Go.RowKit

namespace Dk
def synced (m : M) : M := { m with ls := peek m, ca := fun _ => none }
def syM (m : M) : M := if gone m then spend m else synced (spend m)
end Dk
section
variable {T : Nat → Prop} {d lb rb cb : Nat} {m : Dk.M}
/-- What the cache says, where one sector lasts anew. -/
theorem CaAt.del {y z : World} {i : Nat} {F : Nat → Option Value} {L : List Int} (hF : CaAt y T m F) (hu : ∀ (g : Nat) (cur : Array Value), T g → y.heap[g]? = some (.cells cur 5 (0, 0)) → z.heap[g]? = y.heap[g]?) : CaAt z T { m with ls := upd m.ls i L, ca := upd m.ca i none } (upd F i none) := fun j => by
  by_cases hji : j = i
  · subst hji
    show (upd m.ca j none j = none → upd F j none j = none) ∧ ∀ X, upd m.ca j none j = some X → _
    rw [upd_same, upd_same]
    exact ⟨fun _ => rfl, fun X hX => by cases hX⟩
  · show (upd m.ca i none j = none → upd F i none j = none) ∧ ∀ X, upd m.ca i none j = some X → ∃ v, upd F i none j = some v ∧ _
    rw [upd_other _ _ hji, upd_other _ _ hji]
    refine ⟨(hF j).1, fun X hX => ?_⟩
    obtain ⟨u, c1, c2⟩ := (hF j).2 X hX
    exact ⟨u, c1, c2.keep hu⟩
theorem CaAt.keep {y z : World} {F : Nat → Option Value} (hF : CaAt y T m F) (hu : ∀ (g : Nat) (cur : Array Value), T g → y.heap[g]? = some (.cells cur 5 (0, 0)) → z.heap[g]? = y.heap[g]?) : CaAt z T m F := fun j => ⟨(hF j).1, fun X hX => by
  obtain ⟨u, c1, c2⟩ := (hF j).2 X hX
  exact ⟨u, c1, c2.keep hu⟩⟩
/-- The disk on the way: left: what is still to come. -/
structure Half (m m' : Dk.M) (lft : Nat → Bool) : Prop where
  n : m'.n = m.n
  rd : m'.rd = m.rd
  wr : m'.wr = m.wr
  lf : m'.left = m.left
  down : m'.down = m.down
  more : ∀ i, lft i = true → m'.ls i = m.ls i ∧ m'.ca i = m.ca i ∧ (m.ca i).isSome = true
  done : ∀ i, lft i = false → m'.ls i = Dk.peek m i ∧ m'.ca i = none
theorem Half.end {m m' : Dk.M} {left : Nat → Bool} (h : Half m m' left) (hl : ∀ i, left i = false) : m' = Dk.synced m := by
  obtain ⟨n, ls, ca, rd, wr, lf, dn⟩ := m'
  have h1 := h.n
  have h2 := h.rd
  have h3 := h.wr
  have h4 := h.lf
  have h5 := h.down
  dsimp only at h1 h2 h3 h4 h5
  subst h1
  subst h2
  subst h3
  subst h4
  subst h5
  have e1 : ls = Dk.peek m := funext fun i => (h.done i (hl i)).1
  have e2 : ca = fun _ => none := funext fun i => (h.done i (hl i)).2
  subst e1
  subst e2
  rfl
theorem Half.step {m m' : Dk.M} {left : Nat → Bool} {j : Nat} (h : Half m m' left) (hj : left j = true) : Half m (Dk.settle m' j) (upd left j false) := by
  obtain ⟨h1, h2, h3, h4, h5, h6, h7⟩ := h
  refine ⟨h1, h2, h3, h4, h5, fun i hi => ?_, fun i hi => ?_⟩
  · by_cases hij : i = j
    · subst hij; rw [upd_same] at hi; cases hi
    · rw [upd_other _ _ hij] at hi
      show upd m'.ls j _ i = _ ∧ upd m'.ca j none i = _ ∧ _
      rw [upd_other _ _ hij, upd_other _ _ hij]
      exact h6 i hi
  · by_cases hij : i = j
    · subst hij
      show upd m'.ls i _ i = _ ∧ upd m'.ca i none i = _
      rw [upd_same, upd_same, (h6 i hj).2.1]
      refine ⟨?_, rfl⟩
      unfold Dk.peek
      obtain ⟨X, hX⟩ := Option.isSome_iff_exists.1 (h6 i hj).2.2
      rw [hX]
      rfl
    · rw [upd_other _ _ hij] at hi
      show upd m'.ls j _ i = _ ∧ upd m'.ca j none i = _
      rw [upd_other _ _ hij, upd_other _ _ hij]
      exact h7 i hi
set_option maxHeartbeats 2000000 in
set_option maxRecDepth 100000 in
theorem sync_any (w : World) (hd : DkAt w T d lb rb cb m) : Calls Try.prog 28 #[.pointer (some ⟨d, 0, none⟩)] w (DiskSay T d lb rb cb (.int .i64 (Dk.spendE m)) (Dk.syM m) w) := by
  have HD := Lib.hid hd; clear hd
  cases hg : Dk.gone m with
  | true =>
    have e1 : Dk.spendE m = 12 := by unfold Dk.spendE; rw [if_pos hg]
    have e2 : Dk.syM m = Dk.spend m := by unfold Dk.syM; rw [if_pos hg]
    go_enter Try.func28, Try.ntmps28
    go_wp2_with (go_at_call 40; refine (spend_any _ HD.out).mono ?_; rw [e1]; rintro e w2 ⟨rfl, hd2, hm2⟩; have HM2 := Lib.hid hm2; clear hm2)
    go_ret
    refine ⟨by first | rfl | (rw [e1]; rfl), Lib.hid ?_, Lib.hid (HM2.out.more (fun k hk => by simp at hk ⊢; exact Or.inl hk))⟩
    rw [e2]
    exact hd2.out
  | false =>
    have e1 : Dk.spendE m = 0 := by unfold Dk.spendE; rw [hg]; rfl
    have e2 : Dk.syM m = Dk.synced (Dk.spend m) := by unfold Dk.syM; rw [hg]; rfl
    obtain ⟨m2, hm2e⟩ : ∃ m2, Hid (Dk.spend m = m2) := ⟨_, rfl⟩
    go_enter Try.func28, Try.ntmps28
    go_upto_region 4 with (go_at_call 40; refine (spend_any _ HD.out).mono ?_; rw [e1]; rintro e w2 ⟨rfl, hd2, hm2⟩; rw [hm2e.out] at hd2; have HM2 : Hid (Mv [d, lb, rb, cb] w w2) := Lib.hid (hm2.more (fun k hk => by simp at hk ⊢; exact Or.inl hk)); clear hm2)
    have HD2 := Lib.hid hd2.out
    clear hd2 HD
    have k1 := HD2.out.cells.2.1
    obtain ⟨F, hF1, hF2⟩ := HD2.out.csh
    have HF := Lib.hid (show MapAt w2 cb m2.wr F ∧ CaAt w2 T m2 F from ⟨hF1, hF2⟩)
    clear hF1 hF2
    go_wp2_with (at_range; obtain ⟨w3, cnt3, hrun, hr3, hg3, hs3, _⟩ := HF.out.1.range Try.mapTy; refine wpList_range_run rfl _ _ rfl _ rfl _ w3 hrun ?_; have HR3 := Lib.hid hr3; have B3 : Hid (Below w2.heap.size w2 w3) := (Below.refl _ w2).grown hg3 (Nat.le_refl _) (fun _ e => by cases e); clear hrun hr3 hg3 hs3)
    go_frame
    go_loopw [4] (fun v4 wr => ∃ (m' : Dk.M) (left : Nat → Bool) (F' : Nat → Option Value) (cnt : Nat), Hid (Half m2 m' left) ∧ Hid (RngAt wr cb w2.heap.size m'.wr F' left cnt) ∧ Hid (DkAt wr T d lb rb cb m' ∧ CaAt wr T m' F') ∧ Hid (Mv [d, lb, rb, cb] w2 wr)) (fun _ wr => wr.rangeLeft cb w2.heap.size)
    case atStart =>
      refine ⟨m2, _, F, cnt3, Lib.hid ⟨rfl, rfl, rfl, rfl, rfl, fun i hi => ⟨rfl, rfl, ?_⟩, fun i hi => ?_⟩, HR3, Lib.hid ⟨HD2.out.old B3.out, HF.out.2.keep (fun g cur hg' _ => B3.out.block g (HD2.out.top g hg'))⟩, Lib.hid (Mv.of_below B3.out)⟩
      · cases h : m2.ca i with
        | none => rw [(HF.out.2 i).1 h] at hi; cases hi
        | some L => rfl
      · cases h : m2.ca i with
        | none => exact ⟨by unfold Dk.peek; rw [h]; rfl, rfl⟩
        | some L => obtain ⟨v, hv, _⟩ := (HF.out.2 i).2 L h; rw [hv] at hi; cases hi
    case round =>
      obtain ⟨m', left, F', cnt, HH, HR, HDC, HM⟩ := hrel
      rcases HR.out.next 0 with ⟨hl, hrun⟩ | ⟨j, v, w5, cnt5, hlj, hFj, hrun, hj, hr5, hlt, hg5, hs5, hen⟩
      · have he := HH.out.end hl
        subst he
        have HDW := Lib.hid HDC.out.1
        go_wp2_with (at_next; refine wpList_next_run rfl _ rfl _ rfl _ _ hrun ?_)
        go_ret
        refine ⟨by first | rfl | (rw [e1]; rfl), Lib.hid ?_, Lib.hid (HM2.out.trans HM.out)⟩
        rw [e2, hm2e.out]
        exact HDW.out
      · have hnr : ¬ T w2.heap.size := fun h => Nat.lt_irrefl _ (HD2.out.top _ h)
        have M5 : Mv [w2.heap.size] wr w5 := Mv.grown hg5 (fun k e => by cases e; simp)
        have HD5 := Lib.hid (HDC.out.1.mv M5 (fun k hk => by simp at hk; subst hk; exact hnr))
        have HC5 : Hid (CaAt w5 T m' F') := HDC.out.2.keep (fun g cur hg' _ => M5.block g (HDC.out.1.top g hg') (by simp; intro e; exact hnr (e ▸ hg')))
        have HM5 : Hid (Mv [d, lb, rb, cb] w2 w5) := ⟨M5.os.trans HM.out.os, M5.tape.trans HM.out.tape, M5.output.trans HM.out.output, Nat.le_trans HM.out.size M5.size, fun k hk hn => (M5.block k (Nat.lt_of_lt_of_le hk HM.out.size) (by simp; omega)).trans (HM.out.block k hk hn)⟩
        obtain ⟨L, hL, hs⟩ : ∃ L, m'.ca j = some L ∧ Sec w5 T v L := by
          cases h : m'.ca j with
          | none => rw [(HC5.out j).1 h] at hFj; cases hFj
          | some L => obtain ⟨u, hu, hs⟩ := (HC5.out j).2 L h; rw [hu] at hFj; cases hFj; exact ⟨L, rfl, hs⟩
        obtain ⟨p, c, rfl, _⟩ := hs.bs
        have hjn : j < m'.n := by
          by_cases q : j < m'.n
          · exact q
          · rw [HD5.out.ok.out j (by omega)] at hL; cases hL
        obtain ⟨A, a1, a2, a3⟩ := HD5.out.lst
        have ne := HD5.out.ne
        have HR5 := Lib.hid hr5
        have HSE := Lib.hid (settle_gen j m'.n p L.length c hjn w5 (fun y => ∃ cnt', Hid (RngAt y cb w2.heap.size m'.wr (upd F' j none) (upd left j false) cnt') ∧ cnt' ≤ cnt5 ∧ Hid (DkAt y T d lb rb cb (Dk.settle m' j) ∧ CaAt y T (Dk.settle m' j) (upd F' j none)) ∧ Hid (Mv [d, lb, rb, cb] w2 y)) HD5.out.cells.1 HD5.out.cells.2.1 ne.1 A a1 a2
          (fun z hz => by
            have h := (hz.map HR5.out.map).look1 Try.mapTy j hj
            rw [hFj] at h
            exact h)
          (fun z ty hz => by
            have hset := heap_setCell_same w5 lb j A 65 (.slice p L.length c) a1
            have m1 : Mv [lb, cb] w5 (w5.setCell ⟨lb, j, none⟩ (.slice p L.length c)) := (Mv.refl _ _).setCell _ _ (by simp)
            have m2' : Mv [lb, cb] w5 z := m1.trans (hz.mv _)
            have hrz : RngAt z cb w2.heap.size m'.wr F' (upd left j false) cnt5 := HR5.out.keep (by rw [hz.heap]; exact heap_setCell_other w5 ⟨lb, j, none⟩ cb _ (fun e => ne.2.2.2.2.1 e.symm)) (by rw [hz.heap]; exact heap_setCell_other w5 ⟨lb, j, none⟩ _ _ (fun e => hnr (by have e' : w2.heap.size = lb := e; rw [e']; exact HD5.out.lt.2.1)))
            obtain ⟨y, cnt', hrun', hry, hle, ht⟩ := hrz.drop Try.mapTy j hj ty
            have m3 : Mv [lb, cb] w5 y := m2'.trans (Mv.turned ht (by simp))
            have m4 : Mv [d, lb, rb, cb] w5 y := m3.more (fun k hk => by simp at hk ⊢; rcases hk with rfl | rfl <;> simp)
            have hlb : y.heap[lb]? = some (.cells (A.setIfInBounds j (.slice p L.length c)) 65 (0, 0)) := by
              rw [ht.grown.block lb (by rw [hz.heap]; exact lt_of_block hset) (fun e => ne.2.2.2.2.1 (Option.some.inj e)), hz.heap]
              exact hset
            have es : Dk.settle m' j = { m' with ls := upd m'.ls j L, ca := upd m'.ca j none } := by unfold Dk.settle; rw [hL]; rfl
            refine ⟨y, hrun', cnt', Lib.hid (hry.congr (fun i => ?_)), hle, Lib.hid ?_, Lib.hid (HM5.out.trans m4)⟩
            · by_cases hij : i = j
              · subst hij; rw [upd_same, upd_same]
              · rw [upd_other _ _ hij, upd_other _ _ hij, upd_other _ _ hij]
            · rw [es]
              exact ⟨HD5.out.put (fun _ h => h) (fun g hg => Nat.lt_of_lt_of_le (HD5.out.top g hg) m3.size) m3 a1 hlb HC5.out hry.map hjn (hs.keep (HD5.out.u8 m4)) (HD5.out.ok.cab j L hL), HC5.out.del (HD5.out.u8 m4)⟩))
        have HLJ := Lib.hid hlj
        have HME := Lib.hid HR.out.left_eq
        have HLC := Lib.hid hlt
        clear hs a1 a2 a3 ne hg5 hs5 hr5 hlj hlt hFj M5 hjn hL
        go_wp2_with (first
          | (at_next; refine wpList_next_run rfl _ rfl _ rfl _ _ hrun ?_)
          | (go_at_call 38; refine HSE.out.mono ?_; rintro e w6 ⟨rfl, cnt6, hr6, hle6, hd6, hm6⟩))
        exact ⟨⟨_, _, _, cnt6, Lib.hid (HH.out.step HLJ.out), hr6, hd6, hm6⟩, by rw [hr6.out.left_eq, HME.out]; have := HLC.out; omega⟩
end
end Go.Proofs.Ytglfjjmbadffmaa

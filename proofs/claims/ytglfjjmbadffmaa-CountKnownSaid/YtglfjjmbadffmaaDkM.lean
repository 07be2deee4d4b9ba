/-
  Contract: Crash.
-/
import Derived.Test.YtglfjjmbadffmaaDkJ
namespace Go.Proofs.Ytglfjjmbadffmaa
open Go.RowKit

/-- Numbers as a slice sees them. -/
def IAt (y : World) (p : Option Addr) (L : List Int) : Prop := 0 < L.length → ∃ ab ao, p = some ⟨ab, ao, none⟩ ∧ ∀ j, j < L.length → y.cell? ⟨ab, ao + j, none⟩ = some (.int .i64 (L.getD j 0))
namespace Dk
def drop (m : M) (i : Nat) : M := { m with ca := upd m.ca i none }
/-- The crash on its way: behind k of the dirty ones; f: which last. -/
def crk (m : M) (f : Nat → Bool) : Nat → M
  | 0 => m
  | k + 1 => match (dl m)[k]? with
    | some i => if f k then settle (crk m f k) i else drop (crk m f k) i
    | none => crk m f k
def fate (L : List Int) (k : Nat) : Bool := decide (k < L.length) && !(L.getD k 0 == 0)
def crash (m : M) (f : Nat → Bool) : M := { crk m f (dl m).length with left := -1, down := false }
section
variable {m : M} {f : Nat → Bool}
theorem crk_succ {k i : Nat} (h : (dl m)[k]? = some i) : crk m f (k + 1) = if f k then settle (crk m f k) i else drop (crk m f k) i := by rw [crk, h]
theorem crk_n (m : M) (f : Nat → Bool) : ∀ k, (crk m f k).n = m.n ∧ (crk m f k).rd = m.rd ∧ (crk m f k).wr = m.wr
  | 0 => ⟨rfl, rfl, rfl⟩
  | k + 1 => by
    have h := crk_n m f k
    rw [crk]
    split
    · split
      · exact h
      · exact h
    · exact h
theorem crk_out (m : M) (f : Nat → Bool) (i : Nat) : ∀ k, (∀ j, j < k → (dl m)[j]? ≠ some i) → (crk m f k).ca i = m.ca i ∧ (crk m f k).ls i = m.ls i
  | 0, _ => ⟨rfl, rfl⟩
  | k + 1, hk => by
    have h := crk_out m f i k (fun j hj => hk j (by omega))
    rw [crk]
    split
    · rename_i x hx
      have hxi : i ≠ x := fun e => hk k (by omega) (by rw [hx, e])
      split
      · show upd _ x none i = _ ∧ upd _ x _ i = _
        rw [upd_other _ _ hxi, upd_other _ _ hxi]
        exact h
      · show upd _ x none i = _ ∧ _
        rw [upd_other _ _ hxi]
        exact h
    · exact h
theorem dl_inj {j k i : Nat} (hj : (dl m)[j]? = some i) (hk : (dl m)[k]? = some i) : j = k := by
  have h1 := (List.getElem?_eq_some_iff.1 hj)
  have h2 := (List.getElem?_eq_some_iff.1 hk)
  obtain ⟨l1, e1⟩ := h1
  obtain ⟨l2, e2⟩ := h2
  have hp := List.pairwise_iff_getElem.1 (dl_rising m)
  by_cases q1 : j < k
  · have := hp j k l1 l2 q1; omega
  · by_cases q2 : k < j
    · have := hp k j l2 l1 q2; omega
    · omega
theorem crk_in (m : M) (f : Nat → Bool) {j i : Nat} (hj : (dl m)[j]? = some i) : ∀ k, j < k → (crk m f k).ca i = none ∧ (crk m f k).ls i = if f j then (m.ca i).getD [] else m.ls i
  | 0, h => by omega
  | k + 1, hk => by
    by_cases hjk : j = k
    · subst hjk
      have h := crk_out m f i j (fun q hq e => by have := dl_inj e hj; omega)
      rw [crk_succ hj]
      cases hf : f j with
      | true =>
        show upd _ i none i = _ ∧ upd _ i _ i = _
        rw [upd_same, upd_same, h.1]
        exact ⟨rfl, rfl⟩
      | false =>
        show upd _ i none i = _ ∧ (crk m f j).ls i = _
        rw [upd_same, h.2]
        exact ⟨rfl, rfl⟩
    · have h := crk_in m f hj k (by omega)
      rw [crk]
      split
      · rename_i x hx
        have hxi : i ≠ x := fun e => hjk (dl_inj hj (by rw [hx, e]))
        split
        · show upd _ x none i = _ ∧ upd _ x _ i = _
          rw [upd_other _ _ hxi, upd_other _ _ hxi]
          exact h
        · show upd _ x none i = _ ∧ _
          rw [upd_other _ _ hxi]
          exact h
      · exact h
end
end Dk
section
variable {T : Nat → Prop} {d lb rb cb : Nat} {m : Dk.M}
/-- The cache has nothing for a sector any more. -/
theorem DkAt.drop {y z : World} {i : Nat} {F : Nat → Option Value} (h : DkAt y T d lb rb cb m) (hm : Mv [cb] y z) (hF : CaAt y T m F) (hc : MapAt z cb m.wr (upd F i none)) : DkAt z T d lb rb cb (Dk.drop m i) := by
  have hm4 : Mv [d, lb, rb, cb] y z := hm.more (fun k hk => by simp at hk ⊢; subst hk; simp)
  have hu := h.u8 hm4
  have ne := h.ne
  have lt := h.lt
  obtain ⟨A, a1, a2, a3⟩ := h.lst
  obtain ⟨o1, o2, o3, o4, o5, o6⟩ := h.ok
  have key : ∀ g, T g → g ≠ cb → z.heap[g]? = y.heap[g]? := fun g hg hn => hm.block g (h.top g hg) (by simpa using hn)
  refine ⟨lt, fun g hg => Nat.lt_of_lt_of_le (h.top g hg) hm.size, (key d lt.1 ne.2.2.1).trans h.row, ⟨A, (key lb lt.2.1 ne.2.2.2.2.1).trans a1, a2, fun j hj => ?_⟩, ⟨_, hc, fun j => ?_⟩, (key rb lt.2.2.1 ne.2.2.2.2.2).trans h.rds, ⟨o1, o2, fun j hj => ?_, o4, o5, fun j X hX => ?_⟩⟩
  · obtain ⟨u, c1, c2⟩ := a3 j hj
    exact ⟨u, c1, c2.keep hu⟩
  · by_cases hji : j = i
    · subst hji
      show (upd m.ca j none j = none → upd F j none j = none) ∧ ∀ X, upd m.ca j none j = some X → _
      rw [upd_same, upd_same]
      exact ⟨fun _ => rfl, fun X hX => by cases hX⟩
    · show (upd m.ca i none j = none → upd F i none j = none) ∧ ∀ X, upd m.ca i none j = some X → ∃ v, upd F i none j = some v ∧ _
      rw [upd_other _ _ hji, upd_other _ _ hji]
      refine ⟨(hF j).1, fun X hX => ?_⟩
      obtain ⟨u, c1, c2⟩ := (hF j).2 X hX
      exact ⟨u, c1, c2.keep hu⟩
  · show upd m.ca i none j = none
    by_cases hji : j = i
    · rw [hji, upd_same]
    · rw [upd_other _ _ hji]; exact o3 j hj
  · by_cases hji : j = i
    · rw [hji] at hX
      have hX' : upd m.ca i none i = some X := hX
      rw [upd_same] at hX'
      cases hX'
    · have hX' : upd m.ca i none j = some X := hX
      rw [upd_other _ _ hji] at hX'
      exact o6 j X hX'
theorem own_len {w : World} {B e n : Nat} {v : Value} {xs : List Value} (h : w.ownsRow B e 1 v n xs) : ∃ a c, v = .slice a n c := by
  rcases h.2 with ⟨h2, h3⟩ | ⟨g, cap, cur, h2, _⟩
  · exact ⟨none, 0, by rw [h2, h3]⟩
  · exact ⟨_, cap, h2⟩
theorem ints_at {w : World} {B n c : Nat} {a : Option Addr} {l : List Nat} (h : w.ownsRow B 3 1 (.slice a n c) n (I64s l)) (h0 : 0 < n) : ∃ g, a = some ⟨g, 0, none⟩ ∧ B ≤ g ∧ ∀ (y : World) (j i : Nat), y.heap[g]? = w.heap[g]? → l[j]? = some i → y.cell? ⟨g, j, none⟩ = some (.int .i64 (i : Int)) := by
  have hl : l.length = n := by have := h.1; unfold I64s at this; simpa using this
  rcases h.2 with ⟨_, h3⟩ | ⟨g, cap, cur, h2, hB, hb, h3, h4, h5, h6⟩
  · omega
  · cases h2
    refine ⟨g, rfl, hB, fun y j i hy hj => ?_⟩
    have hjl := (List.getElem?_eq_some_iff.1 hj).1
    rw [cell_of_row y g j _ _ _ (hy.trans hb)]
    have h7 : (cur.toList.take (n * 1))[j]? = (I64s l)[j]? := by rw [h6]
    rw [List.getElem?_take_of_lt (by omega)] at h7
    rw [← Array.getElem?_toList, h7]
    unfold I64s
    rw [List.getElem?_map, hj]
    rfl
set_option maxHeartbeats 2000000 in
set_option maxRecDepth 100000 in
theorem crash_any (L : List Int) (p : Option Addr) (n c : Nat) (hn : L.length = n) (w : World) (hd : DkAt w T d lb rb cb m) (hwr : m.wr ≤ 1000000000) (hl : ∀ y, Mv [d, lb, rb, cb] w y → IAt y p L) :
    Calls Try.prog 26 #[.pointer (some ⟨d, 0, none⟩), .slice p n c] w (DiskSay T d lb rb cb (.tuple #[]) (Dk.crash m (Dk.fate L)) w) := by
  have HD := Lib.hid hd; clear hd
  have HL := Lib.hid hl; clear hl
  have HN := Lib.hid hn; clear hn
  have hn2 := HD.out.ok.n2
  go_enter Try.func26, Try.ntmps26
  obtain ⟨N, HND⟩ : ∃ N, Hid ((Dk.dl m).length = N) := ⟨_, rfl⟩
  go_upto_region 1 with (go_at_call 37; refine (dirty_any _ HD.out hwr).mono ?_; rintro e w1 ⟨v1, rfl, ho1, hb1⟩; rw [HND.out] at ho1; obtain ⟨a1, c1, rfl⟩ := own_len ho1.out; have HO1 := Lib.hid ho1.out; have B1 := Lib.hid hb1; clear ho1 hb1)
  have HD1 := Lib.hid (HD.out.old B1.out)
  have M1 : Hid (Mv [d, lb, rb, cb] w w1) := Lib.hid (Mv.of_below B1.out)
  have HROW : Hid (∀ (k i : Nat), (Dk.dl m)[k]? = some i → ∃ g, a1 = some ⟨g, 0, none⟩ ∧ ∀ y, Mv [d, lb, rb, cb] w1 y → y.cell? ⟨g, k, none⟩ = some (.int .i64 (i : Int))) := fun k i hk => by
    have hkl := (List.getElem?_eq_some_iff.1 hk).1
    rw [HND.out] at hkl
    obtain ⟨g, h1, h2, h3⟩ := ints_at HO1.out (by omega)
    refine ⟨g, h1, fun y hy => h3 y k i ?_ hk⟩
    subst h1
    obtain ⟨_, cur, hb⟩ := own_type HO1.out g rfl
    refine hy.block g (lt_of_block hb) (fun hin => ?_)
    have t1 := HD.out.top _ HD.out.lt.1
    have t2 := HD.out.top _ HD.out.lt.2.1
    have t3 := HD.out.top _ HD.out.lt.2.2.1
    have t4 := HD.out.top _ HD.out.lt.2.2.2
    simp only [List.mem_cons, List.not_mem_nil, or_false] at hin
    rcases hin with rfl | rfl | rfl | rfl <;> omega
  have HNN : Hid (N ≤ m.n) := by show N ≤ _; rw [← HND.out]; exact Dk.dl_len m
  clear HD HO1 B1
  go_loopw [4, 5, 9] (fun v4 v5 v9 wr => ∃ k : Nat, k ≤ N ∧ v9 = .int .i64 (k : Int) ∧ Hid (DkAt wr T d lb rb cb (Dk.crk m (Dk.fate L) k)) ∧ Hid (Mv [d, lb, rb, cb] w1 wr)) (fun _ _ v9 _ => N - (intOf v9).toNat)
  case atStart => exact ⟨0, Nat.zero_le _, rfl, HD1, Lib.hid (Mv.refl _ _)⟩
  case round =>
    obtain ⟨k, hk, rfl, HDK, HMK⟩ := hrel
    by_cases hlt : k < N
    · obtain ⟨i, hi⟩ : ∃ i, (Dk.dl m)[k]? = some i := ⟨(Dk.dl m)[k]'(by rw [HND.out]; exact hlt), List.getElem?_eq_getElem _⟩
      obtain ⟨g, rfl, hcell⟩ := HROW.out k i hi
      have ck := hcell _ HMK.out
      have hk0 : (0 : Int) ≤ (k : Int) := by omega
      have hk1 : (k : Int) < (N : Int) := by omega
      have hmem := (Dk.dl_mem m i).1 (List.mem_of_getElem? hi)
      have hca : (Dk.crk m (Dk.fate L) k).ca i = m.ca i := (Dk.crk_out m (Dk.fate L) i k (fun q hq e => by have := Dk.dl_inj e hi; omega)).1
      have HSU := Lib.hid (Dk.crk_succ (f := Dk.fate L) hi)
      have hin : i < (Dk.crk m (Dk.fate L) k).n := by rw [(Dk.crk_n m (Dk.fate L) k).1]; exact hmem.1
      have hw1 : IntKind.i64.wrap ((k : Int) + 1) = (k : Int) + 1 := IntWalk.i64_in _ (by have := HNN.out; constructor <;> omega)
      clear hcell
      cases hf : Dk.fate L k with
      | true =>
        have HFT := Lib.hid hf
        have hkl : k < L.length ∧ L.getD k 0 ≠ 0 := by
          unfold Dk.fate at hf
          simp only [Bool.and_eq_true, decide_eq_true_eq, Bool.not_eq_true', beq_eq_false_iff_ne] at hf
          exact hf
        have hkn : (k : Int) < (n : Int) := by have := HN.out; omega
        obtain ⟨ab, ao, rfl, hcl⟩ := HL.out _ (M1.out.trans HMK.out) (by omega)
        have cl := hcl k hkl.1
        obtain ⟨xk, hxk⟩ : ∃ xk, L.getD k 0 = xk := ⟨_, rfl⟩
        have hkl2 := hkl.2
        rw [hxk] at cl hkl2
        have hz : (xk == 0) = false := by simpa using hkl2
        have hz2 : (xk != 0) = true := by simpa using hkl2
        clear hxk
        have HSE := Lib.hid (settle_any i _ HDK.out hin (by rw [hca]; exact hmem.2))
        clear hcl hkl hf
        go_wp2_with (go_at_call 38; refine HSE.out.mono ?_; rintro e w6 ⟨rfl, hd6, hm6⟩)
        exact ⟨⟨k + 1, by omega, by go_num, Lib.hid (by rw [HSU.out, HFT.out, if_pos rfl]; exact hd6.out), Lib.hid (HMK.out.trans hm6.out)⟩, by simp [intOf]; omega⟩
      | false =>
        obtain ⟨F, hF1, hF2⟩ := HDK.out.csh
        have HF := Lib.hid (show MapAt wr cb (Dk.crk m (Dk.fate L) k).wr F ∧ CaAt wr T (Dk.crk m (Dk.fate L) k) F from ⟨hF1, hF2⟩)
        have k1 := HDK.out.cells.2.1
        clear hF1 hF2
        have fin : ∀ y, MapAt y cb (Dk.crk m (Dk.fate L) k).wr (upd F i none) → wr.mapTurned y cb → Hid (DkAt y T d lb rb cb (Dk.crk m (Dk.fate L) (k + 1))) ∧ Hid (Mv [d, lb, rb, cb] w1 y) := fun y h1 h2 => by
          rw [HSU.out, hf, if_neg (by decide)]
          exact ⟨Lib.hid (HDK.out.drop (Mv.turned h2 (by simp)) HF.out.2 h1), Lib.hid (HMK.out.trans (Mv.turned h2 (by simp)))⟩
        have FIN := Lib.hid fin
        clear fin
        by_cases hkl : k < L.length
        · have hkn : (k : Int) < (n : Int) := by have := HN.out; omega
          obtain ⟨ab, ao, rfl, hcl⟩ := HL.out _ (M1.out.trans HMK.out) (by omega)
          have cl := hcl k hkl
          have hz : L.getD k 0 = 0 := by
            unfold Dk.fate at hf
            simpa [hkl] using hf
          rw [hz] at cl
          clear hcl
          go_wp2_with (at_delete; obtain ⟨w6, hrun, hmp, htn⟩ := HF.out.1.drop Try.mapTy i (by omega) _; refine wpList_del rfl _ _ _ _ rfl cb _ rfl rfl w6 hrun ?_; have HH6 := Lib.hid (FIN.out w6 hmp htn); clear hmp htn hrun)
          exact ⟨⟨k + 1, by omega, by go_num, HH6.out.1, HH6.out.2⟩, by simp [intOf]; omega⟩
        · have hkn : (n : Int) ≤ (k : Int) := by have := HN.out; omega
          go_wp2_with (at_delete; obtain ⟨w6, hrun, hmp, htn⟩ := HF.out.1.drop Try.mapTy i (by omega) _; refine wpList_del rfl _ _ _ _ rfl cb _ rfl rfl w6 hrun ?_; have HH6 := Lib.hid (FIN.out w6 hmp htn); clear hmp htn hrun)
          exact ⟨⟨k + 1, by omega, by go_num, HH6.out.1, HH6.out.2⟩, by simp [intOf]; omega⟩
    · obtain rfl : k = N := by omega
      clear hlt
      have HDW := Lib.hid HDK.out
      clear HDK
      obtain ⟨mk, hmk⟩ : ∃ mk, Hid (Dk.crk m (Dk.fate L) k = mk) := ⟨_, rfl⟩
      have ec : Hid (Dk.crash m (Dk.fate L) = { mk with left := -1, down := false }) := by
        show Dk.crash m (Dk.fate L) = _
        unfold Dk.crash
        rw [HND.out, hmk.out]
      rw [hmk.out] at HDW
      have c4 := HDW.out.cells.2.2.2.2.1
      have c5 := HDW.out.cells.2.2.2.2.2
      have f4 := frozen_of_row wr d 4 _ _ HDW.out.row
      have f5 := frozen_of_row wr d 5 _ _ HDW.out.row
      have s4 := heap_setCell_same wr d 4 _ _ (.int .i64 (-1)) HDW.out.row
      have c5' : (wr.setCell ⟨d, 4, none⟩ (.int .i64 (-1))).cell? ⟨d, 5, none⟩ = some (.bool mk.down) := by rw [cell_of_row _ d 5 _ _ _ s4]; rfl
      have f5' := frozen_of_row _ d 5 _ _ s4
      have s5 := heap_setCell_same _ d 5 _ _ (.bool false) s4
      have S5 := Lib.hid s5
      clear s4 s5
      go_wp2
      go_end0
      have hm : Mv [d] wr ((wr.setCell ⟨d, 4, none⟩ (.int .i64 (-1))).setCell ⟨d, 5, none⟩ (.bool false)) := ((Mv.refl _ _).setCell _ _ (by simp)).setCell _ _ (by simp)
      refine ⟨rfl, Lib.hid ?_, Lib.hid ((M1.out.trans HMK.out).trans (hm.more (fun k hk => by simp at hk ⊢; exact Or.inl hk)))⟩
      rw [ec.out]
      exact HDW.out.row_set hm (by rw [S5.out]; rfl) rfl rfl rfl rfl (Nat.le_refl _) (by unfold In64; dsimp only; omega)
end
end Go.Proofs.Ytglfjjmbadffmaa

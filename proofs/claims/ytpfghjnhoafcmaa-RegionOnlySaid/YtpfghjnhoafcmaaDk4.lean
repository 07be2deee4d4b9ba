/-
  DkM, DkN, DkO, DkQ, DkR (merged)
-/
import Derived.Test.YtpfghjnhoafcmaaDk3
import Derived.Carry
import Derived.Test.YtpfghjnhoafcmaaPa4
namespace Go.Proofs.Ytpfghjnhoafcmaa

/-! DkM: Contract: Crash. -/
section
open Go.RowKit

/-- Numbers as a slice sees them. -/
def IAt (y : World) (p : Option Addr) (L : List Int) : Prop := 0 < L.length → ∃ ab ao, p = some ⟨ab, ao, none⟩ ∧ ∀ j, j < L.length → y.cell? ⟨ab, ao + j, none⟩ = some (.int .i64 (L.getD j 0))
namespace Dk
def drop (m : M) (i : Nat) : M := { m with ca := upd m.ca i none }
/-- The crash on its way: behind k of the dirty ones; f: which last. -/
def crk (m : M) (f : Nat → Bool) : Nat → M
  | 0 => m
  | k + 1 => match (dl m)[k]? with
    | some i => if f k then settle (crk m f k) i else drop (crk m f k) i
    | none => crk m f k
def fate (L : List Int) (k : Nat) : Bool := decide (k < L.length) && !(L.getD k 0 == 0)
def crash (m : M) (f : Nat → Bool) : M := { crk m f (dl m).length with left := -1, down := false }
section
variable {m : M} {f : Nat → Bool}
theorem crk_succ {k i : Nat} (h : (dl m)[k]? = some i) : crk m f (k + 1) = if f k then settle (crk m f k) i else drop (crk m f k) i := by rw [crk, h]
theorem crk_n (m : M) (f : Nat → Bool) : ∀ k, (crk m f k).n = m.n ∧ (crk m f k).rd = m.rd ∧ (crk m f k).wr = m.wr
  | 0 => ⟨rfl, rfl, rfl⟩
  | k + 1 => by
    have h := crk_n m f k
    rw [crk]
    split
    · split
      · exact h
      · exact h
    · exact h
theorem crk_out (m : M) (f : Nat → Bool) (i : Nat) : ∀ k, (∀ j, j < k → (dl m)[j]? ≠ some i) → (crk m f k).ca i = m.ca i ∧ (crk m f k).ls i = m.ls i
  | 0, _ => ⟨rfl, rfl⟩
  | k + 1, hk => by
    have h := crk_out m f i k (fun j hj => hk j (by omega))
    rw [crk]
    split
    · rename_i x hx
      have hxi : i ≠ x := fun e => hk k (by omega) (by rw [hx, e])
      split
      · show upd _ x none i = _ ∧ upd _ x _ i = _
        rw [upd_other _ _ hxi, upd_other _ _ hxi]
        exact h
      · show upd _ x none i = _ ∧ _
        rw [upd_other _ _ hxi]
        exact h
    · exact h
theorem dl_inj {j k i : Nat} (hj : (dl m)[j]? = some i) (hk : (dl m)[k]? = some i) : j = k := by
  have h1 := (List.getElem?_eq_some_iff.1 hj)
  have h2 := (List.getElem?_eq_some_iff.1 hk)
  obtain ⟨l1, e1⟩ := h1
  obtain ⟨l2, e2⟩ := h2
  have hp := List.pairwise_iff_getElem.1 (dl_rising m)
  by_cases q1 : j < k
  · have := hp j k l1 l2 q1; omega
  · by_cases q2 : k < j
    · have := hp k j l2 l1 q2; omega
    · omega
theorem crk_in (m : M) (f : Nat → Bool) {j i : Nat} (hj : (dl m)[j]? = some i) : ∀ k, j < k → (crk m f k).ca i = none ∧ (crk m f k).ls i = if f j then (m.ca i).getD [] else m.ls i
  | 0, h => by omega
  | k + 1, hk => by
    by_cases hjk : j = k
    · subst hjk
      have h := crk_out m f i j (fun q hq e => by have := dl_inj e hj; omega)
      rw [crk_succ hj]
      cases hf : f j with
      | true =>
        show upd _ i none i = _ ∧ upd _ i _ i = _
        rw [upd_same, upd_same, h.1]
        exact ⟨rfl, rfl⟩
      | false =>
        show upd _ i none i = _ ∧ (crk m f j).ls i = _
        rw [upd_same, h.2]
        exact ⟨rfl, rfl⟩
    · have h := crk_in m f hj k (by omega)
      rw [crk]
      split
      · rename_i x hx
        have hxi : i ≠ x := fun e => hjk (dl_inj hj (by rw [hx, e]))
        split
        · show upd _ x none i = _ ∧ upd _ x _ i = _
          rw [upd_other _ _ hxi, upd_other _ _ hxi]
          exact h
        · show upd _ x none i = _ ∧ _
          rw [upd_other _ _ hxi]
          exact h
      · exact h
end
end Dk
section
variable {T : Nat → Prop} {d lb rb cb : Nat} {m : Dk.M}
/-- The cache has nothing for a sector any more. -/
theorem DkAt.drop {y z : World} {i : Nat} {F : Nat → Option Value} (h : DkAt y T d lb rb cb m) (hm : Mv [cb] y z) (hF : CaAt y T m F) (hc : MapAt z cb m.wr (upd F i none)) : DkAt z T d lb rb cb (Dk.drop m i) := by
  have hm4 : Mv [d, lb, rb, cb] y z := hm.more (fun k hk => by simp at hk ⊢; subst hk; simp)
  have hu := h.u8 hm4
  have ne := h.ne
  have lt := h.lt
  obtain ⟨A, a1, a2, a3⟩ := h.lst
  obtain ⟨o1, o2, o3, o4, o5, o6⟩ := h.ok
  have key : ∀ g, T g → g ≠ cb → z.heap[g]? = y.heap[g]? := fun g hg hn => hm.block g (h.top g hg) (by simpa using hn)
  refine ⟨lt, fun g hg => Nat.lt_of_lt_of_le (h.top g hg) hm.size, (key d lt.1 ne.2.2.1).trans h.row, ⟨A, (key lb lt.2.1 ne.2.2.2.2.1).trans a1, a2, fun j hj => ?_⟩, ⟨_, hc, fun j => ?_⟩, (key rb lt.2.2.1 ne.2.2.2.2.2).trans h.rds, ⟨o1, o2, fun j hj => ?_, o4, o5, fun j X hX => ?_⟩⟩
  · obtain ⟨u, c1, c2⟩ := a3 j hj
    exact ⟨u, c1, c2.keep hu⟩
  · by_cases hji : j = i
    · subst hji
      show (upd m.ca j none j = none → upd F j none j = none) ∧ ∀ X, upd m.ca j none j = some X → _
      rw [upd_same, upd_same]
      exact ⟨fun _ => rfl, fun X hX => by cases hX⟩
    · show (upd m.ca i none j = none → upd F i none j = none) ∧ ∀ X, upd m.ca i none j = some X → ∃ v, upd F i none j = some v ∧ _
      rw [upd_other _ _ hji, upd_other _ _ hji]
      refine ⟨(hF j).1, fun X hX => ?_⟩
      obtain ⟨u, c1, c2⟩ := (hF j).2 X hX
      exact ⟨u, c1, c2.keep hu⟩
  · show upd m.ca i none j = none
    by_cases hji : j = i
    · rw [hji, upd_same]
    · rw [upd_other _ _ hji]; exact o3 j hj
  · by_cases hji : j = i
    · rw [hji] at hX
      have hX' : upd m.ca i none i = some X := hX
      rw [upd_same] at hX'
      cases hX'
    · have hX' : upd m.ca i none j = some X := hX
      rw [upd_other _ _ hji] at hX'
      exact o6 j X hX'
theorem own_len {w : World} {B e n : Nat} {v : Value} {xs : List Value} (h : w.ownsRow B e 1 v n xs) : ∃ a c, v = .slice a n c := by
  rcases h.2 with ⟨h2, h3⟩ | ⟨g, cap, cur, h2, _⟩
  · exact ⟨none, 0, by rw [h2, h3]⟩
  · exact ⟨_, cap, h2⟩
theorem ints_at {w : World} {B n c : Nat} {a : Option Addr} {l : List Nat} (h : w.ownsRow B 3 1 (.slice a n c) n (I64s l)) (h0 : 0 < n) : ∃ g, a = some ⟨g, 0, none⟩ ∧ B ≤ g ∧ ∀ (y : World) (j i : Nat), y.heap[g]? = w.heap[g]? → l[j]? = some i → y.cell? ⟨g, j, none⟩ = some (.int .i64 (i : Int)) := by
  have hl : l.length = n := by have := h.1; unfold I64s at this; simpa using this
  rcases h.2 with ⟨_, h3⟩ | ⟨g, cap, cur, h2, hB, hb, h3, h4, h5, h6⟩
  · omega
  · cases h2
    refine ⟨g, rfl, hB, fun y j i hy hj => ?_⟩
    have hjl := (List.getElem?_eq_some_iff.1 hj).1
    rw [cell_of_row y g j _ _ _ (hy.trans hb)]
    have h7 : (cur.toList.take (n * 1))[j]? = (I64s l)[j]? := by rw [h6]
    rw [List.getElem?_take_of_lt (by omega)] at h7
    rw [← Array.getElem?_toList, h7]
    unfold I64s
    rw [List.getElem?_map, hj]
    rfl
set_option maxHeartbeats 2000000 in
set_option maxRecDepth 100000 in
theorem crash_any (L : List Int) (p : Option Addr) (n c : Nat) (hn : L.length = n) (w : World) (hd : DkAt w T d lb rb cb m) (hwr : m.wr ≤ 1000000000) (hl : ∀ y, Mv [d, lb, rb, cb] w y → IAt y p L) :
    Calls Try.prog 39 #[.pointer (some ⟨d, 0, none⟩), .slice p n c] w (DiskSay T d lb rb cb (.tuple #[]) (Dk.crash m (Dk.fate L)) w) := by
  have HD := Lib.hid hd; clear hd
  have HL := Lib.hid hl; clear hl
  have HN := Lib.hid hn; clear hn
  have hn2 := HD.out.ok.n2
  go_enter Try.func39, Try.ntmps39
  obtain ⟨N, HND⟩ : ∃ N, Hid ((Dk.dl m).length = N) := ⟨_, rfl⟩
  go_upto_region 1 with (go_at_call 65; refine (dirty_any _ HD.out hwr).mono ?_; rintro e w1 ⟨v1, rfl, ho1, hb1⟩; rw [HND.out] at ho1; obtain ⟨a1, c1, rfl⟩ := own_len ho1.out; have HO1 := Lib.hid ho1.out; have B1 := Lib.hid hb1; clear ho1 hb1)
  have HD1 := Lib.hid (HD.out.old B1.out)
  have M1 : Hid (Mv [d, lb, rb, cb] w w1) := Lib.hid (Mv.of_below B1.out)
  have HROW : Hid (∀ (k i : Nat), (Dk.dl m)[k]? = some i → ∃ g, a1 = some ⟨g, 0, none⟩ ∧ ∀ y, Mv [d, lb, rb, cb] w1 y → y.cell? ⟨g, k, none⟩ = some (.int .i64 (i : Int))) := fun k i hk => by
    have hkl := (List.getElem?_eq_some_iff.1 hk).1
    rw [HND.out] at hkl
    obtain ⟨g, h1, h2, h3⟩ := ints_at HO1.out (by omega)
    refine ⟨g, h1, fun y hy => h3 y k i ?_ hk⟩
    subst h1
    obtain ⟨_, cur, hb⟩ := own_type HO1.out g rfl
    refine hy.block g (lt_of_block hb) (fun hin => ?_)
    have t1 := HD.out.top _ HD.out.lt.1
    have t2 := HD.out.top _ HD.out.lt.2.1
    have t3 := HD.out.top _ HD.out.lt.2.2.1
    have t4 := HD.out.top _ HD.out.lt.2.2.2
    simp only [List.mem_cons, List.not_mem_nil, or_false] at hin
    rcases hin with rfl | rfl | rfl | rfl <;> omega
  have HNN : Hid (N ≤ m.n) := by show N ≤ _; rw [← HND.out]; exact Dk.dl_len m
  clear HD HO1 B1
  go_loopw [4, 5, 9] (fun v4 v5 v9 wr => ∃ k : Nat, k ≤ N ∧ v9 = .int .i64 (k : Int) ∧ Hid (DkAt wr T d lb rb cb (Dk.crk m (Dk.fate L) k)) ∧ Hid (Mv [d, lb, rb, cb] w1 wr)) (fun _ _ v9 _ => N - (intOf v9).toNat)
  case atStart => exact ⟨0, Nat.zero_le _, rfl, HD1, Lib.hid (Mv.refl _ _)⟩
  case round =>
    obtain ⟨k, hk, rfl, HDK, HMK⟩ := hrel
    by_cases hlt : k < N
    · obtain ⟨i, hi⟩ : ∃ i, (Dk.dl m)[k]? = some i := ⟨(Dk.dl m)[k]'(by rw [HND.out]; exact hlt), List.getElem?_eq_getElem _⟩
      obtain ⟨g, rfl, hcell⟩ := HROW.out k i hi
      have ck := hcell _ HMK.out
      have hk0 : (0 : Int) ≤ (k : Int) := by omega
      have hk1 : (k : Int) < (N : Int) := by omega
      have hmem := (Dk.dl_mem m i).1 (List.mem_of_getElem? hi)
      have hca : (Dk.crk m (Dk.fate L) k).ca i = m.ca i := (Dk.crk_out m (Dk.fate L) i k (fun q hq e => by have := Dk.dl_inj e hi; omega)).1
      have HSU := Lib.hid (Dk.crk_succ (f := Dk.fate L) hi)
      have hin : i < (Dk.crk m (Dk.fate L) k).n := by rw [(Dk.crk_n m (Dk.fate L) k).1]; exact hmem.1
      have hw1 : IntKind.i64.wrap ((k : Int) + 1) = (k : Int) + 1 := IntWalk.i64_in _ (by have := HNN.out; constructor <;> omega)
      clear hcell
      cases hf : Dk.fate L k with
      | true =>
        have HFT := Lib.hid hf
        have hkl : k < L.length ∧ L.getD k 0 ≠ 0 := by
          unfold Dk.fate at hf
          simp only [Bool.and_eq_true, decide_eq_true_eq, Bool.not_eq_true', beq_eq_false_iff_ne] at hf
          exact hf
        have hkn : (k : Int) < (n : Int) := by have := HN.out; omega
        obtain ⟨ab, ao, rfl, hcl⟩ := HL.out _ (M1.out.trans HMK.out) (by omega)
        have cl := hcl k hkl.1
        obtain ⟨xk, hxk⟩ : ∃ xk, L.getD k 0 = xk := ⟨_, rfl⟩
        have hkl2 := hkl.2
        rw [hxk] at cl hkl2
        have hz : (xk == 0) = false := by simpa using hkl2
        have hz2 : (xk != 0) = true := by simpa using hkl2
        clear hxk
        have HSE := Lib.hid (settle_any i _ HDK.out hin (by rw [hca]; exact hmem.2))
        clear hcl hkl hf
        go_wp2_with (go_at_call 64; refine HSE.out.mono ?_; rintro e w6 ⟨rfl, hd6, hm6⟩)
        exact ⟨⟨k + 1, by omega, by go_num, Lib.hid (by rw [HSU.out, HFT.out, if_pos rfl]; exact hd6.out), Lib.hid (HMK.out.trans hm6.out)⟩, by simp [intOf]; omega⟩
      | false =>
        obtain ⟨F, hF1, hF2⟩ := HDK.out.csh
        have HF := Lib.hid (show MapAt wr cb (Dk.crk m (Dk.fate L) k).wr F ∧ CaAt wr T (Dk.crk m (Dk.fate L) k) F from ⟨hF1, hF2⟩)
        have k1 := HDK.out.cells.2.1
        clear hF1 hF2
        have fin : ∀ y, MapAt y cb (Dk.crk m (Dk.fate L) k).wr (upd F i none) → wr.mapTurned y cb → Hid (DkAt y T d lb rb cb (Dk.crk m (Dk.fate L) (k + 1))) ∧ Hid (Mv [d, lb, rb, cb] w1 y) := fun y h1 h2 => by
          rw [HSU.out, hf, if_neg (by decide)]
          exact ⟨Lib.hid (HDK.out.drop (Mv.turned h2 (by simp)) HF.out.2 h1), Lib.hid (HMK.out.trans (Mv.turned h2 (by simp)))⟩
        have FIN := Lib.hid fin
        clear fin
        by_cases hkl : k < L.length
        · have hkn : (k : Int) < (n : Int) := by have := HN.out; omega
          obtain ⟨ab, ao, rfl, hcl⟩ := HL.out _ (M1.out.trans HMK.out) (by omega)
          have cl := hcl k hkl
          have hz : L.getD k 0 = 0 := by
            unfold Dk.fate at hf
            simpa [hkl] using hf
          rw [hz] at cl
          clear hcl
          go_wp2_with (at_delete; obtain ⟨w6, hrun, hmp, htn⟩ := HF.out.1.drop Try.mapTy i (by omega) _; refine wpList_del rfl _ _ _ _ rfl cb _ rfl rfl w6 hrun ?_; have HH6 := Lib.hid (FIN.out w6 hmp htn); clear hmp htn hrun)
          exact ⟨⟨k + 1, by omega, by go_num, HH6.out.1, HH6.out.2⟩, by simp [intOf]; omega⟩
        · have hkn : (n : Int) ≤ (k : Int) := by have := HN.out; omega
          go_wp2_with (at_delete; obtain ⟨w6, hrun, hmp, htn⟩ := HF.out.1.drop Try.mapTy i (by omega) _; refine wpList_del rfl _ _ _ _ rfl cb _ rfl rfl w6 hrun ?_; have HH6 := Lib.hid (FIN.out w6 hmp htn); clear hmp htn hrun)
          exact ⟨⟨k + 1, by omega, by go_num, HH6.out.1, HH6.out.2⟩, by simp [intOf]; omega⟩
    · obtain rfl : k = N := by omega
      clear hlt
      have HDW := Lib.hid HDK.out
      clear HDK
      obtain ⟨mk, hmk⟩ : ∃ mk, Hid (Dk.crk m (Dk.fate L) k = mk) := ⟨_, rfl⟩
      have ec : Hid (Dk.crash m (Dk.fate L) = { mk with left := -1, down := false }) := by
        show Dk.crash m (Dk.fate L) = _
        unfold Dk.crash
        rw [HND.out, hmk.out]
      rw [hmk.out] at HDW
      have c4 := HDW.out.cells.2.2.2.2.1
      have c5 := HDW.out.cells.2.2.2.2.2
      have f4 := frozen_of_row wr d 4 _ _ HDW.out.row
      have f5 := frozen_of_row wr d 5 _ _ HDW.out.row
      have s4 := heap_setCell_same wr d 4 _ _ (.int .i64 (-1)) HDW.out.row
      have c5' : (wr.setCell ⟨d, 4, none⟩ (.int .i64 (-1))).cell? ⟨d, 5, none⟩ = some (.bool mk.down) := by rw [cell_of_row _ d 5 _ _ _ s4]; rfl
      have f5' := frozen_of_row _ d 5 _ _ s4
      have s5 := heap_setCell_same _ d 5 _ _ (.bool false) s4
      have S5 := Lib.hid s5
      clear s4 s5
      go_wp2
      go_end0
      have hm : Mv [d] wr ((wr.setCell ⟨d, 4, none⟩ (.int .i64 (-1))).setCell ⟨d, 5, none⟩ (.bool false)) := ((Mv.refl _ _).setCell _ _ (by simp)).setCell _ _ (by simp)
      refine ⟨rfl, Lib.hid ?_, Lib.hid ((M1.out.trans HMK.out).trans (hm.more (fun k hk => by simp at hk ⊢; exact Or.inl hk)))⟩
      rw [ec.out]
      exact HDW.out.row_set hm (by rw [S5.out]; rfl) rfl rfl rfl rfl (Nat.le_refl _) (by unfold In64; dsimp only; omega)
end
end

/-! DkN: Contract: New. -/
section
open Go.RowKit Go.MapKept Go.ChangeMaps

namespace Dk
def fresh (n : Nat) : M := ⟨n, fun _ => [], fun _ => none, fun _ => 0, 0, -1, false⟩
def may (n : Int) : Bool := decide (1 ≤ n) && decide (n ≤ 4096)
end Dk
theorem Try.info_row : (Try.prog.info? 41).map (fun i => (i.zero, i.size, i.bytes)) = some (some (.slice none 0 0), 1, 24) := by kernel_rfl
theorem make_run (t e : TypeId) (z : Value) (bytes n : Nat) (hu : Try.prog.underlying t = some (.slice e)) (hi : (Try.prog.info? e).map (fun i => (i.zero, i.size, i.bytes)) = some (some z, 1, bytes)) (hz : z.cells = #[z]) (hb : bytes * n ≤ 281474976710656) (hn : n ≤ 9223372036854775807) (w : World) :
    (Instr.makeSlice t (.int .i64 (n : Int)) (.int .i64 (n : Int))).run Try.prog w = .ok (.slice (some ⟨w.heap.size, 0, none⟩) n n) (w.alloc (.cells (Array.replicate n z) e)) := by
  obtain ⟨i, hi1, hi2, hi3, hi4⟩ := info_parts hi
  have hrun := run_make (P := Try.prog) w t e i z hu hi1 hi2 .i64 .i64 n n (by omega) (by omega) (by rw [hi4]; omega) (by omega)
  rw [hi3, hz, Nat.mul_one] at hrun
  have hl : (madeCells #[z] n).toList = List.replicate n z := toList_madeCells_one z n
  have e2 : madeCells #[z] n = (List.replicate n z).toArray := by rw [← hl, Array.toArray_toList]
  have e3 : ((n : Int)).toNat = n := by omega
  rw [e3, e2, List.toArray_replicate] at hrun
  exact hrun
theorem al4 (x : World) (A B C D : Obj) : ((((x.alloc A).alloc B).alloc C).alloc D).heap[x.heap.size]? = some A ∧ ((((x.alloc A).alloc B).alloc C).alloc D).heap[x.heap.size + 1]? = some B ∧ ((((x.alloc A).alloc B).alloc C).alloc D).heap[x.heap.size + 1 + 1]? = some C ∧ ((((x.alloc A).alloc B).alloc C).alloc D).heap[x.heap.size + 1 + 1 + 1]? = some D := by
  have h : ((((x.alloc A).alloc B).alloc C).alloc D).heap = (((x.heap.push A).push B).push C).push D := rfl
  rw [h]
  simp only [Array.getElem?_push, Array.size_push]
  refine ⟨?_, ?_, ?_, ?_⟩
  · rw [if_neg (by omega), if_neg (by omega), if_neg (by omega), if_pos trivial]
  · rw [if_neg (by omega), if_neg (by omega), if_pos trivial]
  · rw [if_neg (by omega), if_pos trivial]
  · rw [if_pos trivial]
theorem below4 (w : World) (A B C D : Obj) : Below w.heap.size w ((((w.alloc A).alloc B).alloc C).alloc D).drew := (((((Below.refl _ w).alloc (Nat.le_refl _) _).alloc (by simp) _).alloc (by simp; omega) _).alloc (by simp; omega) _).drew
def DRow (lb cb rb n : Nat) : Obj := .cells #[.slice (some ⟨lb, 0, none⟩) n n, .map (some cb), .slice (some ⟨rb, 0, none⟩) n n, .int .i64 0, .int .i64 (-1), .bool false] 75
def Lasts0 (n : Nat) : Obj := .cells (Array.replicate n (Value.slice none 0 0)) 41
def Reads0 (n : Nat) : Obj := .cells (Array.replicate n (Value.int .i64 0)) 3
theorem fresh_at {y : World} {B d lb rb cb n : Nat} (hn : 1 ≤ n ∧ n ≤ 4096) (h1 : y.heap[lb]? = some (Lasts0 n)) (h2 : y.heap[cb]? = some (.map #[] 0)) (h3 : y.heap[rb]? = some (Reads0 n)) (h4 : y.heap[d]? = some (DRow lb cb rb n)) (hB : B ≤ d ∧ B ≤ lb ∧ B ≤ rb ∧ B ≤ cb) :
    DkAt y (fun g => B ≤ g ∧ g < y.heap.size) d lb rb cb (Dk.fresh n) := by
  refine ⟨⟨⟨hB.1, lt_of_block h4⟩, ⟨hB.2.1, lt_of_block h1⟩, ⟨hB.2.2.1, lt_of_block h3⟩, ⟨hB.2.2.2, lt_of_block h2⟩⟩, fun g h => h.2, h4, ⟨_, h1, by simp [Dk.fresh], fun i hi => ⟨.slice none 0 0, ?_, sec_nil _ _⟩⟩, ⟨fun _ => none, ⟨.map [], ⟨#[], 0, h2, ⟨by simp, stamped_empty 0, by simp⟩, Nat.zero_le _, rfl⟩, fun i => by simp [Maps.has], fun j v h => by cases h⟩, fun i => ⟨fun _ => rfl, fun L hL => by cases hL⟩⟩, ?_, ⟨hn.1, hn.2, fun i _ => rfl, by unfold In64 Dk.fresh; dsimp only; omega, fun i => by simp [Dk.fresh], fun i L hL => by cases hL⟩⟩
  · have hi' : i < n := hi
    simp [hi']
  · rw [h3]
    unfold Reads0 Dk.fresh
    congr 2
    apply Array.ext
    · simp
    · intro j _ _; simp
def NewSayD (n : Int) (w : World) (e : Ending) (w' : World) : Prop :=
  if Dk.may n then ∃ d lb rb cb, e = .returned (.tuple #[.pointer (some ⟨d, 0, none⟩), .int .i64 0]) ∧ Hid (DkAt w' (fun g => w.heap.size ≤ g ∧ g < w'.heap.size) d lb rb cb (Dk.fresh n.toNat)) ∧ Below w.heap.size w w'
  else e = .returned (.tuple #[.pointer none, .int .i64 7]) ∧ w' = w
set_option maxHeartbeats 2000000 in
set_option maxRecDepth 100000 in
theorem new_no (n : Int) (h : Dk.may n = false) (w : World) : Calls Try.prog 9 #[.int .i64 n] w (NewSayD n w) := by
  by_cases h1 : 1 ≤ n
  · have h2 : 4096 < n := by
      unfold Dk.may at h
      simp [h1] at h
      exact h
    go_enter Try.func9, Try.ntmps9
    go_wp2
    go_ret2
    unfold NewSayD
    rw [h, if_neg (by decide)]
    exact ⟨rfl, rfl⟩
  · have h2 : n < 1 := by omega
    go_enter Try.func9, Try.ntmps9
    go_wp2
    go_ret2
    unfold NewSayD
    rw [h, if_neg (by decide)]
    exact ⟨rfl, rfl⟩
set_option maxHeartbeats 2000000 in
set_option maxRecDepth 100000 in
theorem new_yes (n : Nat) (h1 : 1 ≤ n) (h2 : n ≤ 4096) (w : World) : Calls Try.prog 9 #[.int .i64 (n : Int)] w (NewSayD n w) := by
  have hm : Dk.may n = true := by unfold Dk.may; simp; omega
  have hl1 : (1 : Int) ≤ (n : Int) := by omega
  have hl2 : (n : Int) ≤ 4096 := by omega
  have m1 := make_run 32 41 (.slice none 0 0) 24 n Try.underlying32 Try.info_row rfl (by omega) (by omega)
  have m2 := make_run 42 3 (.int .i64 0) 8 n Try.underlying42 Try.info_int rfl (by omega) (by omega)
  have hmm := @run_makeMap Try.prog
  go_enter Try.func9, Try.ntmps9
  go_upto_region 3 with (fail)
  go_region_held3 (fun _ => True)
    (trivial)
    (fail)
  all_goals (
    go_wp2
    go_ret2
    unfold NewSayD
    rw [hm, if_pos rfl, Int.toNat_natCast]
    refine ⟨_, _, _, _, rfl, Lib.hid (fresh_at ⟨h1, h2⟩ ?_ ?_ ?_ (al4 w _ _ _ _).2.2.2 ?_), below4 w _ _ _ _⟩
    · first | exact (al4 w _ _ _ _).1 | exact (al4 w _ _ _ _).2.1 | exact (al4 w _ _ _ _).2.2.1
    · first | exact (al4 w _ _ _ _).1 | exact (al4 w _ _ _ _).2.1 | exact (al4 w _ _ _ _).2.2.1
    · first | exact (al4 w _ _ _ _).1 | exact (al4 w _ _ _ _).2.1 | exact (al4 w _ _ _ _).2.2.1
    · omega)
theorem disk_new (n : Int) (w : World) : Calls Try.prog 9 #[.int .i64 n] w (NewSayD n w) := by
  cases h : Dk.may n with
  | false => exact new_no n h w
  | true =>
    have h' := h
    unfold Dk.may at h'
    simp only [Bool.and_eq_true, decide_eq_true_eq] at h'
    obtain ⟨k, rfl⟩ : ∃ k : Nat, n = (k : Int) := ⟨n.toNat, by omega⟩
    exact new_yes k (by omega) (by omega) w
end

/-! DkO: A disk in a law; known. -/
section
open Go.RowKit

/-- A disk that a law plays with: x: the world in which the law began. -/
structure Sit (x y : World) (T : Nat → Prop) (d lb rb cb : Nat) (m : Dk.M) : Prop where
  dk : DkAt y T d lb rb cb m
  old : Below x.heap.size x y
  base : ∀ g, T g → x.heap.size ≤ g
section
variable {x y z : World} {T : Nat → Prop} {d lb rb cb : Nat} {m m' : Dk.M}
theorem Sit.ks (h : Sit x y T d lb rb cb m) : ∀ k ∈ [d, lb, rb, cb], x.heap.size ≤ k := fun k hk => by
  simp at hk
  rcases hk with rfl | rfl | rfl | rfl
  · exact h.base _ h.dk.lt.1
  · exact h.base _ h.dk.lt.2.1
  · exact h.base _ h.dk.lt.2.2.1
  · exact h.base _ h.dk.lt.2.2.2
theorem Sit.disk (h : Sit x y T d lb rb cb m) (hd : DkAt z T d lb rb cb m') (hm : Mv [d, lb, rb, cb] y z) : Sit x z T d lb rb cb m' := ⟨hd, hm.below h.old h.ks h.old.size, h.base⟩
theorem Sit.row (h : Sit x y T d lb rb cb m) (hd : DkAt z T d lb rb cb m') (hm : Mv [d] y z) : Sit x z T d lb rb cb m' := h.disk hd (hm.more (fun k hk => by simp at hk ⊢; exact Or.inl hk))
theorem Sit.write (h : Sit x y T d lb rb cb m) (hd : DkAt z (Own T y z) d lb rb cb m') (hm : Mv [d, lb, rb, cb] y z) : Sit x z (Own T y z) d lb rb cb m' := ⟨hd, hm.below h.old h.ks h.old.size, fun g hg => by
  rcases hg with h1 | h1
  · exact h.base g h1
  · exact Nat.le_trans h.old.size h1.1⟩
theorem Sit.next (h : Sit x y T d lb rb cb m) (hb : Below y.heap.size y z) : Sit x z T d lb rb cb m := ⟨h.dk.old hb, h.old.trans (hb.mono h.old.size), h.base⟩
theorem Sit.new (h : DkAt z (fun g => y.heap.size ≤ g ∧ g < z.heap.size) d lb rb cb m) (hb : Below y.heap.size y z) (ho : Below x.heap.size x y) : Sit x z (fun g => y.heap.size ≤ g ∧ g < z.heap.size) d lb rb cb m := ⟨h, ho.trans (hb.mono ho.size), fun _ hg => Nat.le_trans ho.size hg.1⟩
end
def lit1 (v : Int) : Obj := .cells #[.int .u8 v] 5
theorem bs1 (y : World) (v : Int) (hv : 0 ≤ v ∧ v ≤ 255) : Bs (y.alloc (lit1 v)) (some ⟨y.heap.size, 0, none⟩) 1 [v] := lit_one y [v] 1 (0, 0) rfl (by omega) (fun x hx => by simp at hx; omega)
def nums2 (a b : Int) : Obj := .cells #[.int .i64 a, .int .i64 b] 3
theorem new4 (n : Nat) (h1 : 1 ≤ n) (h2 : n ≤ 4096) (w : World) : Calls Try.prog 9 #[.int .i64 (n : Int)] w fun e w' => ∃ d lb rb cb, e = .returned (.tuple #[.pointer (some ⟨d, 0, none⟩), .int .i64 0]) ∧ Hid (DkAt w' (fun g => w.heap.size ≤ g ∧ g < w'.heap.size) d lb rb cb (Dk.fresh n)) ∧ Below w.heap.size w w' := by
  refine (disk_new (n : Int) w).mono ?_
  intro e w' h
  unfold NewSayD at h
  rw [if_pos (by unfold Dk.may; simp; omega), Int.toNat_natCast] at h
  exact h
def ints (L : List Int) : Obj := .cells (L.map (Value.int .i64)).toArray 3
theorem iat_new {y z : World} {T : Nat → Prop} {d lb rb cb : Nat} {m : Dk.M} (h : DkAt y T d lb rb cb m) (L : List Int) (hm : Mv [d, lb, rb, cb] (y.alloc (ints L)) z) : IAt z (some ⟨y.heap.size, 0, none⟩) L := fun h0 => by
  refine ⟨_, 0, rfl, fun j hj => ?_⟩
  have hb : z.heap[y.heap.size]? = some (.cells (L.map (Value.int .i64)).toArray 3 (0, 0)) := by
    rw [hm.block y.heap.size (by simp) (fun hin => ?_)]
    · exact heap_alloc_new y _
    · have t1 := h.top _ h.lt.1
      have t2 := h.top _ h.lt.2.1
      have t3 := h.top _ h.lt.2.2.1
      have t4 := h.top _ h.lt.2.2.2
      simp only [List.mem_cons, List.not_mem_nil, or_false] at hin
      rcases hin with e | e | e | e <;> omega
  rw [cell_of_row z _ (0 + j) _ _ _ hb]
  simp [List.getD_eq_getElem?_getD, hj]
/-- What was read, as it is held against something. -/
theorem rd_bs {B : Nat} {y : World} {v : Value} {L : List Int} (h : Hid (y.ownsRow B 5 1 v L.length (U8s L) ∧ Sha.Byt L)) : ∃ p c, v = .slice p L.length c ∧ Bs y p c L := by
  obtain ⟨p, c, h1, h2, _⟩ := own_bs h.out.1 h.out.2
  exact ⟨p, c, h1, h2⟩
namespace Dk
def k1 : M := wrM (fresh 4) 1 [7]
def k2 : M := syM k1
def k3 : M := wrM k2 1 [8]
def k4 : M := wrM k3 2 [9]
def k5 : M := crash k4 (fate [0, 1])
def k6 : M := rdM k5 1
theorem kw1 : wrE (fresh 4) 1 [7] = 0 := by decide
theorem ks1 : spendE k1 = 0 := by decide
theorem kw2 : wrE k2 1 [8] = 0 := by decide
theorem kw3 : wrE k3 2 [9] = 0 := by decide
theorem kr5 : rdE k5 1 = 0 ∧ rdX k5 1 = [7] := by decide
theorem kr6 : rdE k6 2 = 0 ∧ rdX k6 2 = [9] := by decide
theorem kb : (fresh 4).wr ≤ 1000000000 ∧ k2.wr ≤ 1000000000 ∧ k3.wr ≤ 1000000000 ∧ k4.wr ≤ 1000000000 := by decide
theorem krd (j : Nat) : k5.rd j = 0 := rfl
theorem krd6 (j : Nat) : k6.rd j ≤ 1 := by
  show upd (fun _ => 0) 1 (0 + 1) j ≤ 1
  unfold upd
  by_cases h : j = 1
  · rw [if_pos h]; omega
  · rw [if_neg h]; exact Nat.zero_le 1
end Dk
end

/-! DkQ: The law DiskFails walked. -/
section
open Go.RowKit

set_option maxHeartbeats 1000000 in
theorem pick_any (k n : Int) (h1 : 1 ≤ n) (hn : n ≤ 1000000) (w : World) : Calls Try.prog 12 #[.int .i64 k, .int .i64 n] w fun r w' => w' = w ∧ ∃ j : Nat, (j : Int) < n ∧ r = .returned (.int .i64 (j : Int)) := by
  have hlt : k.tmod n < n := Int.tmod_lt_of_pos k (by omega)
  have hge : -n < k.tmod n := by
    have h := Int.tmod_lt_of_pos (-k) (show 0 < n by omega)
    rw [Int.neg_tmod] at h
    omega
  have hw : IntKind.i64.wrap (k.tmod n) = k.tmod n := IntWalk.i64_in _ ⟨by omega, by omega⟩
  have hnz : n ≠ 0 := by omega
  have hw2 : IntKind.i64.wrap (k.tmod n + n) = k.tmod n + n := IntWalk.i64_in _ ⟨by omega, by omega⟩
  by_cases h0 : k.tmod n < 0
  · go_enter Try.func12, Try.ntmps12
    go_wp2
    go_ret
    exact ⟨rfl, (k.tmod n + n).toNat, by omega, by congr 2; show Value.int .i64 (k.tmod n + n) = _; congr 1; omega⟩
  · have h0' : 0 ≤ k.tmod n := by omega
    go_enter Try.func12, Try.ntmps12
    go_wp2
    go_ret
    exact ⟨rfl, (k.tmod n).toNat, by omega, by congr 2; show Value.int .i64 (k.tmod n) = _; congr 1; omega⟩

def Zs (l : List Nat) : List Int := l.map fun (k : Nat) => (k : Int)
theorem zs_lenD (l : List Nat) : (Zs l).length = l.length := by simp [Zs]
/-- What Dirty told, as it is read while the disk turns. -/
theorem dirty_iat {w y : World} {T : Nat → Prop} {d lb rb cb n : Nat} {m : Dk.M} {l : List Nat} {v : Value} (hd : DkAt w T d lb rb cb m) (ho : y.ownsRow w.heap.size 3 1 v n (I64s l)) (hn : l.length = n) :
    ∃ a c, v = .slice a n c ∧ ∀ z, Mv [d, lb, rb, cb] y z → IAt z a (Zs l) := by
  obtain ⟨a, c, rfl⟩ := own_len ho
  refine ⟨a, c, rfl, fun z hz h0 => ?_⟩
  rw [zs_lenD] at h0 ⊢
  obtain ⟨g, rfl, h2, h3⟩ := ints_at ho (by omega)
  have hb : z.heap[g]? = y.heap[g]? := by
    obtain ⟨_, cur, hb⟩ := own_type ho g rfl
    refine hz.block g (lt_of_block hb) (fun hin => ?_)
    have t1 := hd.top _ hd.lt.1
    have t2 := hd.top _ hd.lt.2.1
    have t3 := hd.top _ hd.lt.2.2.1
    have t4 := hd.top _ hd.lt.2.2.2
    simp only [List.mem_cons, List.not_mem_nil, or_false] at hin
    rcases hin with rfl | rfl | rfl | rfl <;> omega
  refine ⟨g, 0, rfl, fun j hj => ?_⟩
  rw [Nat.zero_add, h3 z j (l[j]'hj) hb (List.getElem?_eq_getElem hj)]
  simp [Zs, List.getD_eq_getElem?_getD, hj]
namespace Dk
/-- Behind an operation. -/
structure Aft (m m' : M) : Prop where
  n : m'.n = m.n
  rd : m'.rd = m.rd
  wr : m'.wr ≤ m.wr + 1
  no : gone m = true → m'.ca = m.ca ∧ m'.down = true
  yes : gone m = false → m'.left = (if 0 < m.left then m.left - 1 else m.left) ∧ m'.down = false
theorem gone_down {m : M} (h : gone m = false) : m.down = false ∧ m.left ≠ 0 := by
  unfold gone at h
  simp at h
  exact h
theorem aft_spend (m : M) : Aft m (spend m) := by
  refine ⟨spend_n m, spend_rd m, by rw [spend_wr]; omega, fun h => ⟨spend_ca m, ?_⟩, fun h => ?_⟩
  · unfold spend; rw [if_pos h]
  · unfold spend; rw [h, if_neg (by decide)]; exact ⟨rfl, (gone_down h).1⟩
theorem aft_sync (m : M) : Aft m (syM m) := by
  have h := aft_spend m
  unfold syM
  cases hg : gone m with
  | true => rw [if_pos rfl]; exact h
  | false => rw [if_neg (by decide)]; exact ⟨h.n, h.rd, h.wr, fun q => (by rw [hg] at q; cases q), fun q => h.yes q⟩
theorem wrE_eq {m : M} {i : Int} {L : List Int} (h : fault m i L = 0) : wrE m i L = spendE m := by
  unfold wrE
  cases hd : m.down with
  | true => rw [if_pos rfl]; unfold spendE gone; rw [hd]; rfl
  | false => rw [if_neg (by decide), if_neg (by rw [h]; decide)]
theorem aft_write (m : M) (i : Int) (L : List Int) (hf : fault m i L = 0) : Aft m (wrM m i L) := by
  have h := aft_spend m
  unfold wrM
  cases hd : m.down with
  | true => rw [if_pos rfl]; exact ⟨rfl, rfl, by omega, fun _ => ⟨rfl, hd⟩, fun q => by have := (gone_down q).1; rw [hd] at this; cases this⟩
  | false =>
    rw [if_neg (by decide), if_neg (by rw [hf]; decide)]
    cases hg : gone m with
    | true => rw [if_pos rfl]; exact h
    | false => rw [if_neg (by decide)]; exact ⟨h.n, h.rd, by show m.wr + 1 ≤ _; omega, fun q => (by rw [hg] at q; cases q), fun q => h.yes q⟩
theorem dl_eq {m m' : M} (hn : m'.n = m.n) (hc : m'.ca = m.ca) : dl m' = dl m := by unfold dl; rw [hn, hc]
/-- A disk of nine sectors, armed for n operations, behind i. -/
structure Inv (m : M) (n i : Nat) : Prop where
  nn : m.n = 9
  rd : ∀ j, m.rd j = 0
  wr : m.wr ≤ i
  on : i ≤ n → m.left = (n : Int) - (i : Int) ∧ m.down = false
  off : n < i → m.down = true
theorem Inv.gone {m : M} {n i : Nat} (h : Inv m n i) : gone m = decide (n ≤ i) := by
  unfold Dk.gone
  by_cases h1 : i ≤ n
  · rw [(h.on h1).1, (h.on h1).2]
    by_cases h2 : n ≤ i
    · rw [decide_eq_true (show (n : Int) - (i : Int) = 0 by omega), decide_eq_true h2]; rfl
    · rw [decide_eq_false (show ¬ (n : Int) - (i : Int) = 0 by omega), decide_eq_false h2]; rfl
  · rw [h.off (by omega), decide_eq_true (show n ≤ i by omega)]; rfl
theorem Inv.next {m m' : M} {n i : Nat} (h : Inv m n i) (ha : Aft m m') : Inv m' n (i + 1) := by
  have hg := h.gone
  refine ⟨by rw [ha.n, h.nn], fun j => by rw [ha.rd]; exact h.rd j, by have := ha.wr; have := h.wr; omega, fun h1 => ?_, fun h1 => ?_⟩
  · rw [decide_eq_false (by omega)] at hg
    have h2 := ha.yes hg
    have h3 := h.on (by omega)
    rw [h3.1, if_pos (by omega)] at h2
    exact ⟨by rw [h2.1]; omega, h2.2⟩
  · rw [decide_eq_true (by omega)] at hg
    exact (ha.no hg).2
theorem Inv.down {m m' : M} {n i : Nat} (h : Inv m n i) (ha : Aft m m') : m'.down = decide (n ≤ i) := by
  have hg := h.gone
  by_cases h1 : n ≤ i
  · rw [decide_eq_true h1] at hg ⊢; exact (ha.no hg).2
  · rw [decide_eq_false h1] at hg ⊢; exact (ha.yes hg).2
theorem fault9 {m : M} (hn : m.n = 9) (i : Nat) (x : Int) : fault m ((i : Int) % 9) [x] = 0 := by
  unfold fault here
  rw [hn, decide_eq_true (show (0 : Int) ≤ (i : Int) % 9 by omega), decide_eq_true (show (i : Int) % 9 < ((9 : Nat) : Int) by omega)]
  rfl
/-- The write into a sector that there is not. -/
theorem fault_no {m : M} (hn : m.n = 9) : fault m 9 [] = 7 := by
  unfold fault here
  rw [hn]
  rfl
theorem wrE_dn {m : M} (hd : m.down = true) (_hn : m.n = 9) : wrE m 9 [] = 12 := by unfold wrE; rw [hd]; rfl
theorem wrE_up {m : M} (hd : m.down = false) (hn : m.n = 9) : wrE m 9 [] = 7 := by unfold wrE; rw [hd, fault_no hn]; rfl
theorem wrM_no {m : M} (hn : m.n = 9) : wrM m 9 [] = m := by
  unfold wrM
  rw [fault_no hn]
  cases m.down <;> rfl
end Dk
end

/-! DkR: Two disks in a law; a disk with the power on. -/
section
open Go.RowKit

/-- Two disks that a law plays with. -/
structure Two (x y : World) (T : Nat → Prop) (d lb rb cb : Nat) (m : Dk.M) (T' : Nat → Prop) (d' lb' rb' cb' : Nat) (m' : Dk.M) : Prop where
  a : Sit x y T d lb rb cb m
  b : Sit x y T' d' lb' rb' cb' m'
  ap : ∀ g, T g → ¬ T' g
section
variable {x y z : World} {T T' : Nat → Prop} {d lb rb cb d' lb' rb' cb' : Nat} {m m' k : Dk.M}
theorem Two.sw (h : Two x y T d lb rb cb m T' d' lb' rb' cb' m') : Two x y T' d' lb' rb' cb' m' T d lb rb cb m := ⟨h.b, h.a, fun g h1 h2 => h.ap g h2 h1⟩
theorem Two.keep (h : Two x y T d lb rb cb m T' d' lb' rb' cb' m') (hm : Mv [d, lb, rb, cb] y z) : Sit x z T' d' lb' rb' cb' m' :=
  ⟨h.b.dk.mv hm (fun g hg => by
    simp at hg
    rcases hg with rfl | rfl | rfl | rfl
    · exact h.ap _ h.a.dk.lt.1
    · exact h.ap _ h.a.dk.lt.2.1
    · exact h.ap _ h.a.dk.lt.2.2.1
    · exact h.ap _ h.a.dk.lt.2.2.2), hm.below h.b.old h.a.ks h.b.old.size, h.b.base⟩
theorem Two.disk (h : Two x y T d lb rb cb m T' d' lb' rb' cb' m') (hd : DkAt z T d lb rb cb k) (hm : Mv [d, lb, rb, cb] y z) : Two x z T d lb rb cb k T' d' lb' rb' cb' m' := ⟨h.a.disk hd hm, h.keep hm, h.ap⟩
theorem Two.row (h : Two x y T d lb rb cb m T' d' lb' rb' cb' m') (hd : DkAt z T d lb rb cb k) (hm : Mv [d] y z) : Two x z T d lb rb cb k T' d' lb' rb' cb' m' := h.disk hd (hm.more (fun k hk => by simp at hk ⊢; exact Or.inl hk))
theorem Two.write (h : Two x y T d lb rb cb m T' d' lb' rb' cb' m') (hd : DkAt z (Own T y z) d lb rb cb k) (hm : Mv [d, lb, rb, cb] y z) : Two x z (Own T y z) d lb rb cb k T' d' lb' rb' cb' m' := ⟨h.a.write hd hm, h.keep hm, fun g h1 h2 => by
  rcases h1 with h1 | h1
  · exact h.ap g h1 h2
  · have := h.b.dk.top g h2; omega⟩
theorem Two.next (h : Two x y T d lb rb cb m T' d' lb' rb' cb' m') (hb : Below y.heap.size y z) : Two x z T d lb rb cb m T' d' lb' rb' cb' m' := ⟨h.a.next hb, h.b.next hb, h.ap⟩
theorem Two.new (h : Sit x y T d lb rb cb m) (hb : Below y.heap.size y z) (hd : DkAt z (fun g => y.heap.size ≤ g ∧ g < z.heap.size) d' lb' rb' cb' m') : Two x z T d lb rb cb m (fun g => y.heap.size ≤ g ∧ g < z.heap.size) d' lb' rb' cb' m' :=
  ⟨h.next hb, Sit.new hd hb h.old, fun g h1 h2 => by have := h.dk.top g h1; omega⟩
end
namespace Dk
/-- The power is on, and not armed. -/
structure Up (m : M) (n : Nat) : Prop where
  n : m.n = n
  left : m.left = -1
  down : m.down = false
section
variable {m m' : M} {n : Nat}
theorem Up.gone (h : Up m n) : gone m = false := by unfold Dk.gone; rw [h.left, h.down]; rfl
theorem Up.spend (h : Up m n) : spend m = m := by unfold Dk.spend; rw [h.gone, if_neg (by decide), h.left, if_neg (by decide), ← h.left]
theorem Up.spendE (h : Up m n) : spendE m = 0 := by unfold Dk.spendE; rw [h.gone]; rfl
theorem Up.fresh (n : Nat) : Up (Dk.fresh n) n := ⟨rfl, rfl, rfl⟩
theorem Up.fault (h : Up m n) (i : Nat) (hi : i < n) (L : List Int) (hL : L.length ≤ 1024) : fault m (i : Int) L = 0 := by
  unfold Dk.fault here
  rw [h.n, decide_eq_true (show (0 : Int) ≤ (i : Int) by omega), decide_eq_true (show (i : Int) < (n : Int) by omega), if_neg (by decide), if_neg (by omega)]
def put (m : M) (i : Nat) (L : List Int) : M := { m with ca := upd m.ca i (some L), wr := m.wr + 1 }
def over (m : M) (i : Nat) (L : List Int) : M := { m with ls := upd m.ls i L, ca := upd m.ca i none }
theorem Up.wrE (h : Up m n) (i : Nat) (hi : i < n) (L : List Int) (hL : L.length ≤ 1024) : wrE m (i : Int) L = 0 := by rw [wrE_eq (h.fault i hi L hL), h.spendE]
theorem Up.wrM (h : Up m n) (i : Nat) (hi : i < n) (L : List Int) (hL : L.length ≤ 1024) : wrM m (i : Int) L = put m i L := by
  unfold Dk.wrM
  rw [h.down, if_neg (by decide), if_neg (by rw [h.fault i hi L hL]; decide), h.gone, if_neg (by decide), h.spend]
  rfl
theorem Up.tpM (h : Up m n) (i : Nat) (hi : i < n) (L : List Int) (hL : L.length ≤ 1024) : tpM m (i : Int) L = over m i L := by
  unfold Dk.tpM
  rw [if_pos (h.fault i hi L hL)]
  rfl
theorem Up.syM (h : Up m n) : syM m = synced m := by unfold Dk.syM; rw [h.gone, if_neg (by decide), h.spend]
theorem Up.put (h : Up m n) (i : Nat) (L : List Int) : Up (put m i L) n := ⟨h.n, h.left, h.down⟩
theorem Up.over (h : Up m n) (i : Nat) (L : List Int) : Up (over m i L) n := ⟨h.n, h.left, h.down⟩
theorem Up.synced (h : Up m n) : Up (synced m) n := ⟨h.n, h.left, h.down⟩
theorem Up.crash (h : m.n = n) (f : Nat → Bool) : Up (crash m f) n := ⟨by rw [← h]; exact (crk_n m f _).1, rfl, rfl⟩
theorem Up.here (h : Up m n) (i : Nat) : here m (i : Int) = decide (i < n) := by
  unfold Dk.here
  rw [h.n, decide_eq_true (show (0 : Int) ≤ (i : Int) by omega), Bool.true_and]
  by_cases q : i < n
  · rw [decide_eq_true q, decide_eq_true (by omega)]
  · rw [decide_eq_false q, decide_eq_false (by omega)]
theorem Up.rd (h : Up m n) (i : Nat) (hi : i < n) : rdE m (i : Int) = 0 ∧ rdX m (i : Int) = peek m i ∧ rdM m (i : Int) = { m with rd := upd m.rd i (m.rd i + 1) } := by
  unfold rdE rdX rdM
  rw [h.here, decide_eq_true hi]
  exact ⟨rfl, rfl, rfl⟩
theorem crash_out {f : Nat → Bool} {j : Nat} (h : m.ca j = none) : (crash m f).ca j = none ∧ (crash m f).ls j = m.ls j := by
  have h1 := crk_out m f j (dl m).length (fun q hq e => by
    have := ((dl_mem m j).1 (List.mem_of_getElem? e)).2
    rw [h] at this
    cases this)
  exact ⟨h1.1.trans h, h1.2⟩
theorem crash_in {f : Nat → Bool} {j q : Nat} (h : (dl m)[q]? = some j) : (crash m f).ca j = none ∧ (crash m f).ls j = if f q then (m.ca j).getD [] else m.ls j := crk_in m f h _ (List.getElem?_eq_some_iff.1 h).1
theorem crash_none {f : Nat → Bool} (ok : ∀ i, m.n ≤ i → m.ca i = none) (j : Nat) : (crash m f).ca j = none := by
  cases h : m.ca j with
  | none => exact (crash_out h).1
  | some L =>
    have hj : j < m.n := by
      by_cases q : j < m.n
      · exact q
      · rw [ok j (by omega)] at h; cases h
    obtain ⟨q, hq⟩ := List.getElem?_of_mem ((dl_mem m j).2 ⟨hj, by rw [h]; rfl⟩)
    exact (crash_in hq).1
theorem crash_dl {f : Nat → Bool} (ok : ∀ i, m.n ≤ i → m.ca i = none) : dl (crash m f) = [] := by
  unfold dl
  rw [List.filter_eq_nil_iff]
  intro i _
  rw [crash_none ok]
  simp
theorem crash_rd (m : M) (f : Nat → Bool) : (crash m f).rd = m.rd ∧ (crash m f).wr = m.wr := ⟨(crk_n m f _).2.1, (crk_n m f _).2.2⟩
theorem crash_like {f : Nat → Bool} {j : Nat} (hd : dl m = dl m') (h1 : m.ca j = m'.ca j) (h2 : m.ls j = m'.ls j) : (crash m f).ca j = (crash m' f).ca j ∧ (crash m f).ls j = (crash m' f).ls j := by
  by_cases h : j ∈ dl m
  · obtain ⟨q, hq⟩ := List.getElem?_of_mem h
    have hq' := hq
    rw [hd] at hq'
    have a := crash_in (f := f) hq
    have b := crash_in (f := f) hq'
    rw [a.1, a.2, b.1, b.2, h1, h2]
    exact ⟨rfl, rfl⟩
  · have a := crk_out m f j (dl m).length (fun q _ e => h (List.mem_of_getElem? e))
    have b := crk_out m' f j (dl m').length (fun q _ e => h (by rw [hd]; exact List.mem_of_getElem? e))
    exact ⟨a.1.trans (h1.trans b.1.symm), a.2.trans (h2.trans b.2.symm)⟩
end
end Dk
theorem DkAt.peek_le {y : World} {T : Nat → Prop} {d lb rb cb : Nat} {m : Dk.M} (h : DkAt y T d lb rb cb m) (k : Nat) : (Dk.peek m k).length ≤ 1024 := by
  unfold Dk.peek
  cases hc : m.ca k with
  | none => exact h.ok.lsb k
  | some L => exact h.ok.cab k L hc
namespace Dk
/-- A disk of nine sectors that was read k times at most in each. -/
structure Rdg (m m0 : M) (k : Nat) : Prop where
  u : Up m 9
  pk : ∀ j, peek m j = peek m0 j
  rd : ∀ j, m.rd j ≤ k
theorem Rdg.next {m m0 : M} {k : Nat} (h : Rdg m m0 k) (i : Nat) : Rdg { m with rd := upd m.rd i (m.rd i + 1) } m0 (k + 1) := by
  refine ⟨⟨h.u.n, h.u.left, h.u.down⟩, h.pk, fun j => ?_⟩
  show upd m.rd i (m.rd i + 1) j ≤ k + 1
  by_cases hj : j = i
  · subst hj; rw [upd_same]; have := h.rd j; omega
  · rw [upd_other _ _ hj]; have := h.rd j; omega
end Dk
theorem BRows.old {w y : World} {tp : Option Addr} {Rs : List (List Int)} (h : BRows w tp Rs) (hb : Below w.heap.size w y) : BRows y tp Rs := fun h0 => by
  obtain ⟨tb, tf, h1, h2, h3⟩ := h h0
  exact ⟨tb, tf, h1, Nat.lt_of_lt_of_le h2 hb.size, fun r hr => by
    obtain ⟨p, c, h4, h5⟩ := h3 r hr
    exact ⟨p, c, (hb.cell h2).trans h4, h5.old hb⟩⟩
theorem IAt.old {w y : World} {p : Option Addr} {L : List Int} (h : IAt w p L) (hb : Below w.heap.size w y) : IAt y p L := fun h0 => by
  obtain ⟨ab, ao, h1, h2⟩ := h h0
  exact ⟨ab, ao, h1, fun j hj => (hb.cell (World.block_lt_of_cell? _ _ (h2 j hj))).trans (h2 j hj)⟩
/-- A row's beginning of at most a hundred bytes. -/
def beg (R : List Int) : List Int := R.take (min R.length 100)
theorem beg_len (R : List Int) : (beg R).length = min R.length 100 := by unfold beg; rw [List.length_take]; omega
end
end Go.Proofs.Ytpfghjnhoafcmaa

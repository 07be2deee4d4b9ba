/-
  Contracts: the reference's Of, Age; what is kept by the closure: best, what it answers.
-/
import Derived.Test.YthgjfjmampmiiaaVcB
namespace Go.Proofs.Ythgjfjmampmiiaa
open Go.RowKit

set_option maxHeartbeats 1000000 in
set_option maxRecDepth 100000 in
theorem rof_any (s l a : Int) (w : World) : Calls Try.prog 9 #[.int .i64 s, .int .i64 l, .int .i64 a] w fun e w' => e = .returned (.int .i64 (Vc.of s l a)) ∧ w' = w := by
  by_cases hall : 1 ≤ s ∧ s ≤ 64 ∧ 0 ≤ l ∧ l ≤ s ∧ 0 ≤ a ∧ a ≤ 1099511627776
  · rw [Vc.of_if hall]
    have ht := Vc.top_in hall
    obtain ⟨h1, h2, h3, h4, h5, h6⟩ := hall
    have hr := Vc.of_in s l a
    rw [Vc.of_if ⟨h1, h2, h3, h4, h5, h6⟩] at hr
    obtain ⟨T, hT⟩ : ∃ T, (s - l) * (a + 1) = T := ⟨_, rfl⟩
    rw [hT] at ht hr ⊢
    have hw1 : IntKind.i64.wrap (s - l) = s - l := IntWalk.i64_in _ ⟨by omega, by omega⟩
    have hw2 : IntKind.i64.wrap (a + 1) = a + 1 := IntWalk.i64_in _ ⟨by omega, by omega⟩
    have hw3 : IntKind.i64.wrap ((s - l) * (a + 1)) = T := by rw [hT]; exact IntWalk.i64_in _ ⟨by omega, by omega⟩
    have hw4 : IntKind.i64.wrap (T * 1000) = T * 1000 := IntWalk.i64_in _ ⟨by omega, by omega⟩
    have hw5 : IntKind.i64.wrap (s + l) = s + l := IntWalk.i64_in _ ⟨by omega, by omega⟩
    have hn0 : ¬ s + l = 0 := by omega
    obtain ⟨R, hR⟩ : ∃ R, T * 1000 / (s + l) = R := ⟨_, rfl⟩
    have hw6 : IntKind.i64.wrap ((T * 1000).tdiv (s + l)) = R := by
      rw [← hR, Int.tdiv_eq_ediv_of_nonneg (by omega)]
      exact IntWalk.i64_in _ ⟨by omega, by omega⟩
    rw [hR]
    clear hr hR hT ht
    go_enter Try.func9, Try.ntmps9
    go_wp2
    go_ret
    exact ⟨rfl, rfl⟩
  · rw [Vc.of_no hall]
    by_cases h1 : s < 1
    · clear hall
      go_enter Try.func9, Try.ntmps9
      go_wp2
      go_ret
      exact ⟨rfl, rfl⟩
    by_cases h2 : 64 < s
    · clear hall
      go_enter Try.func9, Try.ntmps9
      go_wp2
      go_ret
      exact ⟨rfl, rfl⟩
    by_cases h3 : l < 0
    · clear hall
      go_enter Try.func9, Try.ntmps9
      go_wp2
      go_ret
      exact ⟨rfl, rfl⟩
    by_cases h4 : s < l
    · clear hall
      go_enter Try.func9, Try.ntmps9
      go_wp2
      go_ret
      exact ⟨rfl, rfl⟩
    by_cases h5 : a < 0
    · clear hall
      go_enter Try.func9, Try.ntmps9
      go_wp2
      go_ret
      exact ⟨rfl, rfl⟩
    have h6 : 1099511627776 < a := by omega
    clear hall
    go_enter Try.func9, Try.ntmps9
    go_wp2
    go_ret
    exact ⟨rfl, rfl⟩
set_option maxHeartbeats 1000000 in
set_option maxRecDepth 100000 in
theorem rage_any (now t : Int) (hn : In64 now) (ht : In64 t) (w : World) : Calls Try.prog 18 #[.int .i64 now, .int .i64 t] w fun e w' => e = .returned (.int .i64 (Vc.age now t)) ∧ w' = w := by
  unfold In64 at hn ht
  by_cases h1 : now ≤ t
  · have e : Vc.age now t = 0 := by unfold Vc.age; rw [if_pos h1]
    rw [e]
    go_enter Try.func18, Try.ntmps18
    go_wp2
    go_ret
    exact ⟨rfl, rfl⟩
  · by_cases h2 : now - t ≤ 1099511627776
    · have e : Vc.age now t = now - t := by unfold Vc.age; rw [if_neg h1, if_pos h2]
      have hw : IntKind.i64.wrap (now - t) = now - t := IntWalk.i64_in _ ⟨by omega, by omega⟩
      rw [e]
      by_cases h3 : t < 0
      · have hw2 : IntKind.i64.wrap (t + 1099511627776) = t + 1099511627776 := IntWalk.i64_in _ ⟨by omega, by omega⟩
        go_enter Try.func18, Try.ntmps18
        go_wp2
        go_ret
        exact ⟨rfl, rfl⟩
      · go_enter Try.func18, Try.ntmps18
        go_wp2
        go_ret
        exact ⟨rfl, rfl⟩
    · have e : Vc.age now t = 1099511627776 := by unfold Vc.age; rw [if_neg h1, if_neg h2]
      rw [e]
      by_cases h3 : t < 0
      · have hw2 : IntKind.i64.wrap (t + 1099511627776) = t + 1099511627776 := IntWalk.i64_in _ ⟨by omega, by omega⟩
        go_enter Try.func18, Try.ntmps18
        go_wp2
        go_ret
        exact ⟨rfl, rfl⟩
      · have hw : IntKind.i64.wrap (now - t) = now - t := IntWalk.i64_in _ ⟨by omega, by omega⟩
        go_enter Try.func18, Try.ntmps18
        go_wp2
        go_ret
        exact ⟨rfl, rfl⟩
/-- What the closure keeps, in memory: its three variables, of blocks from B on. -/
structure KpAt (B : Nat) (y : World) (gp gm gs : Nat) (s : Option (Nat × Int)) : Prop where
  p : y.heap[gp]? = some (.cells #[.int .i64 (Vc.pl s)] 3 (0, 0))
  m : y.heap[gm]? = some (.cells #[.int .i64 (Vc.mo s)] 3 (0, 0))
  s : y.heap[gs]? = some (.cells #[.bool s.isSome] 4 (0, 0))
  ne : gp ≠ gm ∧ gp ≠ gs ∧ gm ≠ gs
  lo : B ≤ gp ∧ B ≤ gm ∧ B ≤ gs
section
variable {B gp gm gs : Nat} {w y : World} {s : Option (Nat × Int)}
theorem KpAt.old (h : KpAt B w gp gm gs s) (hb : Below w.heap.size w y) : KpAt B y gp gm gs s := ⟨(hb.block _ (lt_of_block h.p)).trans h.p, (hb.block _ (lt_of_block h.m)).trans h.m, (hb.block _ (lt_of_block h.s)).trans h.s, h.ne, h.lo⟩
def OfSay (B gp gm gs : Nat) (s : Option (Nat × Int)) (w : World) (e : Ending) (w' : World) : Prop :=
  e = .returned (.tuple #[]) ∧ Hid (KpAt B w' gp gm gs s) ∧ Hid (∀ A x, A ≤ B → Below A x w → A ≤ w.heap.size → Below A x w') ∧ Hid (∀ k, k ≠ gp → k ≠ gm → k ≠ gs → w'.heap[k]? = w.heap[k]?)
set_option maxHeartbeats 1000000 in
set_option maxRecDepth 100000 in
theorem offer_any (i : Nat) (n : Int) (h : KpAt B w gp gm gs s) :
    Calls Try.prog 20 #[.int .i64 (i : Int), .int .i64 n, .pointer (some ⟨gs, 0, none⟩), .pointer (some ⟨gm, 0, none⟩), .pointer (some ⟨gp, 0, none⟩)] w (OfSay B gp gm gs (Vc.offer i n s) w) := by
  have c1 : w.cell? ⟨gp, 0, none⟩ = some (.int .i64 (Vc.pl s)) := by rw [cell_of_row w gp _ _ _ _ h.p]; rfl
  have c2 : w.cell? ⟨gm, 0, none⟩ = some (.int .i64 (Vc.mo s)) := by rw [cell_of_row w gm _ _ _ _ h.m]; rfl
  have c3 : w.cell? ⟨gs, 0, none⟩ = some (.bool s.isSome) := by rw [cell_of_row w gs _ _ _ _ h.s]; rfl
  have f1 : w.frozen? ⟨gp, 0, none⟩ = false := frozen_of_row w gp 0 _ _ h.p
  have f2 : w.frozen? ⟨gm, 0, none⟩ = false := frozen_of_row w gm 0 _ _ h.m
  have f3 : w.frozen? ⟨gs, 0, none⟩ = false := frozen_of_row w gs 0 _ _ h.s
  have n1 := h.ne.1
  have n2 := h.ne.2.1
  have n3 := h.ne.2.2
  have HK := Lib.hid h
  have HS : Hid (OfSay B gp gm gs (some (i, n)) w (.returned (.tuple #[])) (((w.setCell ⟨gp, 0, none⟩ (.int .i64 (i : Int))).setCell ⟨gm, 0, none⟩ (.int .i64 n)).setCell ⟨gs, 0, none⟩ (.bool true))) := by
    have C1 : Chg gp w (w.setCell ⟨gp, 0, none⟩ (.int .i64 (i : Int))) := Chg.setCell w ⟨gp, 0, none⟩ _
    have C2 : Chg gm (w.setCell ⟨gp, 0, none⟩ (.int .i64 (i : Int))) _ := Chg.setCell _ ⟨gm, 0, none⟩ (.int .i64 n)
    have C3 : Chg gs ((w.setCell ⟨gp, 0, none⟩ (.int .i64 (i : Int))).setCell ⟨gm, 0, none⟩ (.int .i64 n)) _ := Chg.setCell _ ⟨gs, 0, none⟩ (.bool true)
    have m0 : (w.setCell ⟨gp, 0, none⟩ (.int .i64 (i : Int))).heap[gm]? = _ := (C1.block _ n1.symm).trans h.m
    have s0 : ((w.setCell ⟨gp, 0, none⟩ (.int .i64 (i : Int))).setCell ⟨gm, 0, none⟩ (.int .i64 n)).heap[gs]? = _ := (C2.block _ n3.symm).trans ((C1.block _ n2.symm).trans h.s)
    refine ⟨rfl, Lib.hid ⟨?_, ?_, ?_, h.ne, h.lo⟩, Lib.hid (fun A x hA hx hw => ?_), Lib.hid (fun k q1 q2 q3 => (C3.block _ q3).trans ((C2.block _ q2).trans (C1.block _ q1)))⟩
    · refine (C3.block _ n2).trans ((C2.block _ n1).trans ?_)
      rw [heap_setCell_same w gp 0 _ _ _ h.p]
      rfl
    · refine (C3.block _ n3).trans ?_
      rw [heap_setCell_same _ gm 0 _ _ _ m0]
      rfl
    · rw [heap_setCell_same _ gs 0 _ _ _ s0]
      rfl
    · exact C3.below (C2.below (C1.below hx (Nat.le_trans hA h.lo.1)) (Nat.le_trans hA h.lo.2.1)) (Nat.le_trans hA h.lo.2.2)
  have H0 : Hid (∀ A x, A ≤ B → Below A x w → A ≤ w.heap.size → Below A x w) := fun A x _ hx _ => hx
  clear h
  rcases s with _ | ⟨p, m⟩
  · have e : Vc.offer i n none = some (i, n) := rfl
    rw [e]
    have c3' : w.cell? ⟨gs, 0, none⟩ = some (.bool false) := c3
    clear c3 e
    go_enter Try.func20, Try.ntmps20
    go_wp2
    go_end0
    exact HS.out
  · have c3' : w.cell? ⟨gs, 0, none⟩ = some (.bool true) := c3
    have c2' : w.cell? ⟨gm, 0, none⟩ = some (.int .i64 m) := c2
    have c1' : w.cell? ⟨gp, 0, none⟩ = some (.int .i64 (p : Int)) := c1
    clear c1 c2 c3
    by_cases hlt : m < n
    · have e : Vc.offer i n (some (p, m)) = some (i, n) := by show (if m < n then _ else _) = _; rw [if_pos hlt]
      rw [e]
      clear e
      go_enter Try.func20, Try.ntmps20
      go_wp2
      go_end0
      exact HS.out
    · have e : Vc.offer i n (some (p, m)) = some (p, m) := by show (if m < n then _ else _) = _; rw [if_neg hlt]
      rw [e]
      clear e HS
      go_enter Try.func20, Try.ntmps20
      go_wp2
      go_end0
      exact ⟨rfl, HK, H0, Lib.hid (fun _ _ _ _ => rfl)⟩
end
set_option maxHeartbeats 1000000 in
set_option maxRecDepth 100000 in
theorem kept_any {B gp gm gs : Nat} {w : World} {s : Option (Nat × Int)} (h : KpAt B w gp gm gs s) :
    Calls Try.prog 21 #[.pointer (some ⟨gp, 0, none⟩), .pointer (some ⟨gs, 0, none⟩)] w fun e w' => e = .returned (.tuple #[.int .i64 (Vc.pl s), .bool s.isSome]) ∧ Hid (Below w.heap.size w w') := by
  have c1 : ∀ y, Below w.heap.size w y → y.cell? ⟨gp, 0, none⟩ = some (.int .i64 (Vc.pl s)) := fun y hy => by rw [cell_of_row y gp _ _ _ _ (h.old hy).p]; rfl
  have c3 : ∀ y, Below w.heap.size w y → y.cell? ⟨gs, 0, none⟩ = some (.bool s.isSome) := fun y hy => by rw [cell_of_row y gs _ _ _ _ (h.old hy).s]; rfl
  have a1 := c1 _ (Below.refl _ w).drew
  have a3 := c3 _ (Below.refl _ w).drew
  have HB : Hid (Below w.heap.size w w.drew) := (Below.refl _ w).drew
  generalize Vc.pl s = p at *
  generalize s.isSome = b at *
  clear h c1 c3
  go_enter Try.func21, Try.ntmps21
  go_wp2_with (go_region)
  all_goals (go_ret2; exact ⟨rfl, HB⟩)
def BeSay (w : World) (e : Ending) (w' : World) : Prop := ∃ gp gm gs, e = .returned (.tuple #[.func (.func 20) #[] #[.pointer (some ⟨gs, 0, none⟩), .pointer (some ⟨gm, 0, none⟩), .pointer (some ⟨gp, 0, none⟩)], .func (.func 21) #[] #[.pointer (some ⟨gp, 0, none⟩), .pointer (some ⟨gs, 0, none⟩)]]) ∧
  Hid (KpAt w.heap.size w' gp gm gs none) ∧ Hid (Below w.heap.size w w')
set_option maxHeartbeats 1000000 in
set_option maxRecDepth 100000 in
theorem best_any (w : World) : Calls Try.prog 16 #[] w (BeSay w) := by
  go_enter Try.func16, Try.ntmps16
  go_wp2
  go_ret2
  have b1 : Below w.heap.size w (w.alloc (.cells #[.int .i64 0] 3)) := (Below.refl _ w).alloc (Nat.le_refl _) _
  have k1 := heap_alloc_new w (.cells #[.int .i64 0] 3)
  have z1 : (w.alloc (.cells #[.int .i64 0] 3)).heap.size = w.heap.size + 1 := by simp
  generalize w.alloc (.cells #[.int .i64 0] 3) = x1 at *
  have b2 : Below x1.heap.size x1 (x1.alloc (.cells #[.int .i64 0] 3)) := (Below.refl _ x1).alloc (Nat.le_refl _) _
  have k2 := heap_alloc_new x1 (.cells #[.int .i64 0] 3)
  have z2 : (x1.alloc (.cells #[.int .i64 0] 3)).heap.size = x1.heap.size + 1 := by simp
  generalize x1.alloc (.cells #[.int .i64 0] 3) = x2 at *
  have b3 : Below x2.heap.size x2 (x2.alloc (.cells #[.bool false] 4)) := (Below.refl _ x2).alloc (Nat.le_refl _) _
  have k3 := heap_alloc_new x2 (.cells #[.bool false] 4)
  rw [z1] at k2 z2
  rw [z2] at k3
  refine ⟨w.heap.size, w.heap.size + 1, w.heap.size + 1 + 1, rfl, Lib.hid ⟨?_, ?_, k3, by omega, by omega⟩, Lib.hid ((b1.trans (b2.mono b1.size)).trans (b3.mono (Nat.le_trans b1.size b2.size)))⟩
  · exact (b3.block _ (by rw [z2]; omega)).trans ((b2.block _ (by rw [z1]; omega)).trans k1)
  · exact (b3.block _ (by rw [z2]; omega)).trans k2
end Go.Proofs.Ythgjfjmampmiiaa

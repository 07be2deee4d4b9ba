/-
  The law NamesBack in plain lists; rilllaw06.same.
-/
import Derived.Test.YtdmnlooghamngaaNaGo
namespace Go.Proofs.Ytdmnlooghamngaa
open Go.RowKit

namespace Nm
theorem stl_keep (L : List Four) {y : Four} {k : Nat} (h : place y (stl L k).ss ≠ 0) : ∀ m, place y (stl L (k + m)).ss = place y (stl L k).ss
  | 0 => rfl
  | m + 1 => by
    have ih := stl_keep L h m
    rw [show k + (m + 1) = (k + m) + 1 by omega]
    cases hx : L[k + m]? with
    | none =>
      have : stl L (k + m + 1) = stl L (k + m) := by
        conv => lhs; unfold stl
        rw [hx]
      rw [this]; exact ih
    | some l =>
      rw [stl_succ hx]
      unfold sld
      split
      · show place y (put l (stl L (k + m)).ss) = _
        rw [place_put (by rw [ih]; exact h), ih]
      · exact ih
theorem four_last {L : List Four} {j : Nat} {x : Four} (h : L[j]? = some x) (hm : may x = true) : place x (stl L L.length).ss = num x (stl L j).ss ∧ place x (stl L L.length).ss ≠ 0 := by
  have hj := (List.getElem?_eq_some_iff.1 h).1
  have h1 : place x (stl L (j + 1)).ss = num x (stl L j).ss := by rw [stl_succ h]; unfold sld; rw [hm]; exact num_place
  have h2 : place x (stl L (j + 1)).ss ≠ 0 := by rw [h1]; have := num_pos (x := x) (l := (stl L j).ss); omega
  have h3 := stl_keep L h2 (L.length - (j + 1))
  rw [show j + 1 + (L.length - (j + 1)) = L.length by omega] at h3
  exact ⟨by rw [h3, h1], by rw [h3]; exact h2⟩
/-- What Seal answered to the i-th. -/
def gq (L : List Four) (i : Nat) : List Int := match L[i]? with
  | some x => if may x then x.2.2.2 ++ tg 0 (place x (stl L L.length).ss) else []
  | none => []
theorem gq_may {L : List Four} {i : Nat} {x : Four} (h : L[i]? = some x) (hm : may x = true) : gq L i = x.2.2.2 ++ tg 0 (place x (stl L L.length).ss) := by unfold gq; rw [h]; dsimp only; rw [hm]; rfl
theorem gq_not {L : List Four} {i : Nat} {x : Four} (h : L[i]? = some x) (hm : may x = false) : gq L i = [] := by unfold gq; rw [h]; dsimp only; rw [hm]; rfl
theorem gq_seal {L : List Four} {i : Nat} {x : Four} (h : L[i]? = some x) : sl (stl L i) x = gq L i := by
  unfold sl
  cases hm : may x with
  | false => rw [gq_not h hm]; rfl
  | true => rw [gq_may h hm, (four_last h hm).1]; rfl
theorem gq_len {L : List Four} {i : Nat} {x : Four} (h : L[i]? = some x) : (gq L i).length = if may x then x.2.2.2.length + 32 else 0 := by rw [← gq_seal h, sl_len]
theorem gq_again {L : List Four} {i : Nat} {x : Four} (h : L[i]? = some x) : sl (stl L L.length) x = gq L i ∧ sld (stl L L.length) x = stl L L.length := by
  unfold sl sld
  cases hm : may x with
  | false => rw [gq_not h hm]; exact ⟨rfl, rfl⟩
  | true =>
    rw [gq_may h hm, num_same (four_last h hm).2, put_same (four_last h hm).2]
    exact ⟨rfl, rfl⟩
def hd (y x : Four) : Bool := (y.1 == x.1) && (y.2.1 == x.2.1) && decide (y.2.2.1 = x.2.2.1)
theorem gq_open {L : List Four} {i : Nat} {x : Four} (hn : L.length ≤ 100) (h : L[i]? = some x) (hm : may x = true) (y : Four) : opn (stl L L.length) y.1 y.2.1 y.2.2.1 (gq L i) = if hd y x then some x.2.2.2 else none := by
  have hl := four_last h hm
  have h1 : (gq L i).length - 32 = x.2.2.2.length := by rw [gq_len h, hm]; simp
  unfold opn
  rw [if_neg (by rw [gq_len h, hm]; simp), h1, gq_may h hm, List.take_left', List.drop_left']
  rotate_left
  · rfl
  · rfl
  cases hh : hd y x with
  | true =>
    unfold hd at hh
    simp only [Bool.and_eq_true, beq_iff_eq, decide_eq_true_eq] at hh
    have : ((y.1, y.2.1, y.2.2.1, x.2.2.2) : Four) = x := by rw [hh.1.1, hh.1.2, hh.2]
    rw [this, if_pos ⟨hl.2, rfl⟩]
    rfl
  | false =>
    refine (if_neg (fun q => ?_)).trans rfl
    have p1 := place_le (x := x) (l := (stl L L.length).ss)
    have p2 := place_le (x := ((y.1, y.2.1, y.2.2.1, x.2.2.2) : Four)) (l := (stl L L.length).ss)
    have p3 := stl_len L L.length
    have h4 := tg_inj _ _ _ (by omega) (by omega) q.2
    have h5 : x = (y.1, y.2.1, y.2.2.1, x.2.2.2) := place_inj (by omega) hl.2
    have h6 : hd y x = true := by unfold hd; rw [h5]; simp
    rw [hh] at h6
    cases h6
theorem gq_same {L : List Four} {i k : Nat} {x y : Four} (hn : L.length ≤ 100) (h : L[i]? = some x) (h' : L[k]? = some y) (hm : may x = true) (hm' : may y = true) : (gq L i = gq L k) ↔ x = y := by
  rw [gq_may h hm, gq_may h' hm']
  constructor
  · intro e
    have h1 := List.append_inj' e (by rw [tg_len, tg_len])
    have p1 := place_le (x := x) (l := (stl L L.length).ss)
    have p2 := place_le (x := y) (l := (stl L L.length).ss)
    have p3 := stl_len L L.length
    have h4 := tg_inj _ _ _ (by omega) (by omega) h1.2
    exact place_inj (by omega) (four_last h hm).2
  · rintro rfl; rfl
theorem gq_byt {L : List Four} {i : Nat} {x : Four} (h : L[i]? = some x) (hb : Sha.Byt x.2.2.2) : Sha.Byt (gq L i) := by rw [← gq_seal h]; exact sl_byt _ _ hb
theorem hd_eq (y x : Four) : hd y x = ((y.1 == x.1) && (y.2.1 == x.2.1) && decide (y.2.2.1 = x.2.2.1)) := by unfold hd; rfl
attribute [irreducible] gq hd
end Nm

set_option maxHeartbeats 4000000 in
set_option maxRecDepth 100000 in
/-- rilllaw06.same. -/
theorem samefour_any (x y : Nm.Four) (ph qh pp qp : Option Addr) (ch dh cp dp : Nat) (hsz : x.2.2.1.length ≤ 100000 ∧ x.2.2.2.length ≤ 100000) (w : World) (hxh : Bs w ph ch x.2.2.1) (hyh : Bs w qh dh y.2.2.1) (hxp : Bs w pp cp x.2.2.2) (hyp : Bs w qp dp y.2.2.2) :
    Calls Try.prog 27 #[.agg #[.int .i64 x.1, .int .i64 x.2.1, .slice ph x.2.2.1.length ch, .slice pp x.2.2.2.length cp], .agg #[.int .i64 y.1, .int .i64 y.2.1, .slice qh y.2.2.1.length dh, .slice qp y.2.2.2.length dp]] w (EqSay (decide (x = y)) w) := by
  obtain ⟨e, n, h, p⟩ := x
  obtain ⟨e', n', h', p'⟩ := y
  dsimp only at *
  have H1 := Lib.hid hxh; clear hxh
  have H2 := Lib.hid hyh; clear hyh
  have H3 := Lib.hid hxp; clear hxp
  have H4 := Lib.hid hyp; clear hyp
  have HS := Lib.hid hsz; clear hsz
  obtain ⟨x1, HX⟩ : ∃ x1 : World, Hid (x1 = (w.alloc (.cells #[.int .i64 e, .int .i64 n, .slice ph h.length ch, .slice pp p.length cp] 47)).alloc (.cells #[.int .i64 e', .int .i64 n', .slice qh h'.length dh, .slice qp p'.length dp] 47)) := ⟨_, rfl⟩
  have B0 : Hid (Below w.heap.size w x1) := by show Below _ _ _; rw [HX.out]; exact below_two w _ _
  have HR : Hid (∀ y, Below x1.heap.size x1 y → y.heap[w.heap.size]? = some (.cells #[.int .i64 e, .int .i64 n, .slice ph h.length ch, .slice pp p.length cp] 47 (0, 0)) ∧ y.heap[w.heap.size + 1]? = some (.cells #[.int .i64 e', .int .i64 n', .slice qh h'.length dh, .slice qp p'.length dp] 47 (0, 0))) := fun y hy => by
    rw [hy.block _ (by rw [HX.out]; simp; omega), hy.block _ (by rw [HX.out]; simp), HX.out]
    exact ⟨heap_alloc2_old w _ _, heap_alloc2_new w _ _⟩
  have HSB : Hid (∀ y, Below w.heap.size w y → Calls Try.prog 18 #[.slice ph h.length ch, .slice qh h'.length dh] y (EqSay (decide (h = h')) y)) := fun y hy => same_all h h' _ _ _ _ _ _ rfl rfl y (H1.out.old hy).bat (H2.out.old hy).bat (by have := HS.out; omega)
  have HSP : Hid (∀ y, Below w.heap.size w y → Calls Try.prog 18 #[.slice pp p.length cp, .slice qp p'.length dp] y (EqSay (decide (p = p')) y)) := fun y hy => same_all p p' _ _ _ _ _ _ rfl rfl y (H3.out.old hy).bat (H4.out.old hy).bat (by have := HS.out; omega)
  clear H1 H2 H3 H4 HS
  have HD : Hid (decide ((e, n, h, p) = (e', n', h', p')) = ((e == e') && (n == n') && decide (h = h') && decide (p = p'))) := by
    show _ = _
    by_cases a : e = e' <;> by_cases b : n = n' <;> by_cases c : h = h' <;> by_cases d : p = p' <;> simp [a, b, c, d]
  rw [HD.out]
  clear HD
  have hb1 : ∀ y, Below x1.heap.size x1 y → Below w.heap.size w y := fun y hy => B0.out.trans (hy.mono B0.out.size)
  have HB1 := Lib.hid hb1; clear hb1
  have TK : Hid True := trivial
  cases he : (e == e') with
  | false =>
    go_enter Try.func27, Try.ntmps27
    go_wp2
    go_ret
    exact ⟨rfl, by have h := B0.out; rw [HX.out] at h; exact h⟩
  | true =>
    cases hn : (n == n') with
    | false =>
      go_enter Try.func27, Try.ntmps27
      go_wp2
      go_ret
      exact ⟨rfl, by have h := B0.out; rw [HX.out] at h; exact h⟩
    | true =>
      cases hh : decide (h = h') with
      | false =>
        go_enter Try.func27, Try.ntmps27
        go_upto_region 1 with (fail)
        rw [← HX.out]
        have hr := HR.out _ (Below.refl _ _)
        have c0 : x1.cell? ⟨w.heap.size, 0, none⟩ = some (.int .i64 e) := by rw [cell_of_row _ _ 0 _ _ _ hr.1]; rfl
        have c1 : x1.cell? ⟨w.heap.size, 1, none⟩ = some (.int .i64 n) := by rw [cell_of_row _ _ 1 _ _ _ hr.1]; rfl
        have c2 : x1.cell? ⟨w.heap.size, 2, none⟩ = some (.slice ph h.length ch) := by rw [cell_of_row _ _ 2 _ _ _ hr.1]; rfl
        have d0 : x1.cell? ⟨w.heap.size + 1, 0, none⟩ = some (.int .i64 e') := by rw [cell_of_row _ _ 0 _ _ _ hr.2]; rfl
        have d1 : x1.cell? ⟨w.heap.size + 1, 1, none⟩ = some (.int .i64 n') := by rw [cell_of_row _ _ 1 _ _ _ hr.2]; rfl
        have d2 : x1.cell? ⟨w.heap.size + 1, 2, none⟩ = some (.slice qh h'.length dh) := by rw [cell_of_row _ _ 2 _ _ _ hr.2]; rfl
        clear hr
        go_wp2_with (go_at_call 18; refine (HSB.out _ B0.out).mono ?_; rintro e5 w5 ⟨rfl, hb5⟩; rw [hh])
        go_ret
        exact ⟨rfl, HB1.out _ hb5⟩
      | true =>
        go_enter Try.func27, Try.ntmps27
        go_upto_region 1 with (fail)
        rw [← HX.out]
        have hr := HR.out _ (Below.refl _ _)
        have c0 : x1.cell? ⟨w.heap.size, 0, none⟩ = some (.int .i64 e) := by rw [cell_of_row _ _ 0 _ _ _ hr.1]; rfl
        have c1 : x1.cell? ⟨w.heap.size, 1, none⟩ = some (.int .i64 n) := by rw [cell_of_row _ _ 1 _ _ _ hr.1]; rfl
        have c2 : x1.cell? ⟨w.heap.size, 2, none⟩ = some (.slice ph h.length ch) := by rw [cell_of_row _ _ 2 _ _ _ hr.1]; rfl
        have d0 : x1.cell? ⟨w.heap.size + 1, 0, none⟩ = some (.int .i64 e') := by rw [cell_of_row _ _ 0 _ _ _ hr.2]; rfl
        have d1 : x1.cell? ⟨w.heap.size + 1, 1, none⟩ = some (.int .i64 n') := by rw [cell_of_row _ _ 1 _ _ _ hr.2]; rfl
        have d2 : x1.cell? ⟨w.heap.size + 1, 2, none⟩ = some (.slice qh h'.length dh) := by rw [cell_of_row _ _ 2 _ _ _ hr.2]; rfl
        clear hr
        go_wp2_with (first
          | (go_at_call 18; have tk := TK.out; clear tk TK; refine (HSB.out _ B0.out).mono ?_; rintro e5 w5 ⟨rfl, hb5⟩; rw [hh]; have HB5 := Lib.hid hb5; have q3 : w5.cell? ⟨w.heap.size, 3, none⟩ = some (.slice pp p.length cp) := (by rw [cell_of_row _ _ 3 _ _ _ (HR.out _ hb5).1]; rfl); have r3 : w5.cell? ⟨w.heap.size + 1, 3, none⟩ = some (.slice qp p'.length dp) := (by rw [cell_of_row _ _ 3 _ _ _ (HR.out _ hb5).2]; rfl); clear hb5)
          | (go_at_call 18; refine (HSP.out _ (HB1.out _ HB5.out)).mono ?_; rintro e6 w6 ⟨rfl, hb6⟩))
        go_ret
        exact ⟨by simp, HB1.out _ (HB5.out.trans (hb6.mono HB5.out.size))⟩
end Go.Proofs.Ytdmnlooghamngaa

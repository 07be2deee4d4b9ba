/-
  Both trees beside one another: Set, Del, Touch done with both.
-/
import Derived.Test.YtfeemeddhhgigaaTrUb
import Derived.Test.YtfeemeddhhgigaaTrRd
namespace Go.Proofs.Ytfeemeddhhgigaa
open Go.RowKit

theorem RS.free {K c B : Nat} {y : World} {t : Tr.T} {v : Value} {L : List (Array Value)} (h : RS K y c t) (hv : Fl B 33 33 y v L) : v.ownBlock ≠ some c := by
  obtain ⟨vb, vn, M, q, _⟩ := h
  exact hv.off_box q.box (by decide)
set_option maxHeartbeats 8000000 in
set_option maxRecDepth 100000 in
theorem both_del {x w : World} {b c : Nat} {t : Tr.T} (N : Int) (r : Pg.Rf) (p : List Pg.Rf) (ho : OpOk ⟨1, N, r, p⟩) (h : Bo x w b c t) :
    Calls Try.prog 13 #[.pointer (some ⟨b, 0, none⟩), .pointer (some ⟨c, 0, none⟩), .agg (OpA ⟨1, N, r, p⟩)] w fun e w' => e = .returned (.bool true) ∧ Hid (Bo x w' b c (Tr.delI t N)) := by
  have HAS := Lib.hid (opa_size ho)
  have hA1 := opa_one (⟨1, N, r, p⟩ : Tr.O)
  have hsA := row_size Try.sizeOp HAS
  have HOR : Hid (∀ y, y.heap[w.heap.size]? = some (.cells (OpA ⟨1, N, r, p⟩) 38 (0, 0)) → OpR y w.heap.size 0 ⟨1, N, r, p⟩) := fun y hy => opr_of ho (rng_whole hy)
  have B0 : Hid (Below w.heap.size w (w.alloc (.cells (OpA ⟨1, N, r, p⟩) 38))) := (Below.refl _ w).alloc (Nat.le_refl _) _
  have R0 : Hid ((w.alloc (.cells (OpA ⟨1, N, r, p⟩) 38)).heap[w.heap.size]? = some (.cells (OpA ⟨1, N, r, p⟩) 38 (0, 0))) := heap_alloc_new w _
  have P0 := Lib.hid (h.next B0.out)
  have hbw : b < w.heap.size := h.p.at_.lt
  have HBN : Hid (w.heap.size ≠ b) := by show _ ≠ _; omega
  have HRO := Lib.hid ho.r
  have HRS := Lib.hid (rfa_size ho.r)
  have hsR := row_size Try.sizeRef33 HRS
  obtain ⟨w0, hw0⟩ : ∃ y, y = w.alloc (.cells (OpA ⟨1, N, r, p⟩) 38) := ⟨_, rfl⟩
  have k0 := (HOR.out _ R0.out).k
  rw [← hw0] at B0 R0 P0
  obtain ⟨q1, q2, q3, q4, _⟩ := HOR.out _ R0.out
  rw [Nat.zero_add] at q2 q3 q4
  have Q3 := Lib.hid q3
  have HQR : Hid (∀ y : World, y.heap[w.heap.size]? = some (.cells (OpA ⟨1, N, r, p⟩) 38 (0, 0)) → y.rangeAt w.heap.size 2 (rfA r).toList) := fun y hy => by have q := (HOR.out y hy).r; rw [Nat.zero_add] at q; exact q
  dsimp only at *
  have hOK := h.p.at_.ok
  have HX0 := Lib.hid P0.out.p.old.size
  have HSE : Hid (Calls Try.prog 39 #[.pointer (some ⟨b, 0, none⟩), .int .i64 N] w0 (PpSay x b (Tr.delI t N) (Tr.delD t N) w0)) := pp_del N P0.out.p
  have HRE : Hid (∀ y, RS x.heap.size y c t → Calls Try.prog 40 #[.pointer (some ⟨c, 0, none⟩), .int .i64 N] y (DdSay x.heap.size c (Tr.delI t N) (Tr.delD t N) y)) := fun y hy => rdel_any N y hy h.p.inv.off
  have hDo : ∀ s ∈ Tr.delD t N, Pg.Ok s := fun s hs => (runD_mem hOK ⟨1, N, r, p⟩ s hs).1
  have hDl : (Tr.delD t N).length ≤ 3 := runD_le t ⟨1, N, r, p⟩
  generalize Tr.delI t N = t' at *
  generalize Tr.delD t N = D at *
  have HSR : Hid (∀ z B C u v, Fl B 33 33 z u (D.map rfA) → Fl C 33 33 z v (D.map rfA) → Calls Try.prog 26 #[u, v] z (BoSay true z)) := fun z B C u v hu hv => by
    have q := samerefs_any hDo hDo (by omega) z hu hv
    rw [decide_eq_true rfl] at q
    exact q
  have HSP : Hid (∀ z B v, Fl B 33 33 z v (D.map rfA) → Calls Try.prog 33 #[v] z fun r w' => r = .returned (.tuple #[]) ∧ Sp v z w') := fun z B v hv => spoilrf_any z hv (by omega)
  unfold PpSay at HSE
  unfold DdSay at HRE
  unfold BoSay at HSR
  generalize OpA ⟨1, N, r, p⟩ = A at *
  generalize rfA r = R at *
  clear h hA1 hsA HAS ho hbw hDo hDl hOK
  go_enter Try.func13, Try.ntmps13
  go_upto_region 1 with (fail)
  rw [← hw0]
  clear hw0 k0
  go_wp2_with (first
    | (go_at_call 39; refine HSE.out.mono ?_; rintro e1 w1 ⟨v1, rfl, F1, P1, O1⟩; have R1 := Lib.hid ((O1.out.block _ (lt_of_block R0.out) HBN.out).trans R0.out); have n1 := (HOR.out _ R1.out).n; rw [Nat.zero_add] at n1; have M1 := Lib.hid (P0.out.mid O1.out))
    | (go_at_call 40; refine (HRE.out _ M1.out).mono ?_; rintro e2 w2 ⟨v2, rfl, F2, S2, O2⟩; have U2 := Lib.hid (P0.out.join P1.out S2.out O2.out); have G2 := Lib.hid (F1.out.only O2.out (M1.out.free F1.out)))
    | (go_at_call 26; with_reducible refine (HSR.out _ _ _ _ _ G2.out F2.out).mono ?_; rintro e3 w3 ⟨rfl, B3⟩; have U3 := Lib.hid (U2.out.next B3.out); have G3 := Lib.hid (G2.out.old B3.out))
    | (go_at_call 33; with_reducible refine (HSP.out _ _ _ G3.out).mono ?_; rintro e4 w4 ⟨rfl, S4⟩; have U4 := Lib.hid (U3.out.sp G3.out HX0.out S4)))
  go_ret
  exact ⟨rfl, U4⟩
set_option maxHeartbeats 8000000 in
set_option maxRecDepth 100000 in
theorem both_touch {x w : World} {b c : Nat} {t : Tr.T} (N : Int) (r : Pg.Rf) (p : List Pg.Rf) (ho : OpOk ⟨2, N, r, p⟩) (h : Bo x w b c t) :
    Calls Try.prog 13 #[.pointer (some ⟨b, 0, none⟩), .pointer (some ⟨c, 0, none⟩), .agg (OpA ⟨2, N, r, p⟩)] w fun e w' => e = .returned (.bool true) ∧ Hid (Bo x w' b c (Tr.touchI t N)) := by
  have HAS := Lib.hid (opa_size ho)
  have hA1 := opa_one (⟨2, N, r, p⟩ : Tr.O)
  have hsA := row_size Try.sizeOp HAS
  have HOR : Hid (∀ y, y.heap[w.heap.size]? = some (.cells (OpA ⟨2, N, r, p⟩) 38 (0, 0)) → OpR y w.heap.size 0 ⟨2, N, r, p⟩) := fun y hy => opr_of ho (rng_whole hy)
  have B0 : Hid (Below w.heap.size w (w.alloc (.cells (OpA ⟨2, N, r, p⟩) 38))) := (Below.refl _ w).alloc (Nat.le_refl _) _
  have R0 : Hid ((w.alloc (.cells (OpA ⟨2, N, r, p⟩) 38)).heap[w.heap.size]? = some (.cells (OpA ⟨2, N, r, p⟩) 38 (0, 0))) := heap_alloc_new w _
  have P0 := Lib.hid (h.next B0.out)
  have hbw : b < w.heap.size := h.p.at_.lt
  have HBN : Hid (w.heap.size ≠ b) := by show _ ≠ _; omega
  have HRO := Lib.hid ho.r
  have HRS := Lib.hid (rfa_size ho.r)
  have hsR := row_size Try.sizeRef33 HRS
  obtain ⟨w0, hw0⟩ : ∃ y, y = w.alloc (.cells (OpA ⟨2, N, r, p⟩) 38) := ⟨_, rfl⟩
  have k0 := (HOR.out _ R0.out).k
  rw [← hw0] at B0 R0 P0
  obtain ⟨q1, q2, q3, q4, _⟩ := HOR.out _ R0.out
  rw [Nat.zero_add] at q2 q3 q4
  have Q3 := Lib.hid q3
  have HQR : Hid (∀ y : World, y.heap[w.heap.size]? = some (.cells (OpA ⟨2, N, r, p⟩) 38 (0, 0)) → y.rangeAt w.heap.size 2 (rfA r).toList) := fun y hy => by have q := (HOR.out y hy).r; rw [Nat.zero_add] at q; exact q
  dsimp only at *
  have hOK := h.p.at_.ok
  have HX0 := Lib.hid P0.out.p.old.size
  have HSE : Hid (Calls Try.prog 41 #[.pointer (some ⟨b, 0, none⟩), .int .i64 N] w0 (PpSay x b (Tr.touchI t N) (Tr.touchE t N) w0)) := pp_touch N P0.out.p
  have HRE : Hid (∀ y, RS x.heap.size y c t → Calls Try.prog 42 #[.pointer (some ⟨c, 0, none⟩), .int .i64 N] y (DdSay x.heap.size c (Tr.touchI t N) (Tr.touchE t N) y)) := fun y hy => rtouch_any N y hy h.p.inv.off
  have hDo : ∀ s ∈ Tr.touchE t N, Pg.Ok s := fun s hs => (runD_mem hOK ⟨2, N, r, p⟩ s hs).1
  have hDl : (Tr.touchE t N).length ≤ 3 := runD_le t ⟨2, N, r, p⟩
  generalize Tr.touchI t N = t' at *
  generalize Tr.touchE t N = D at *
  have HSR : Hid (∀ z B C u v, Fl B 33 33 z u (D.map rfA) → Fl C 33 33 z v (D.map rfA) → Calls Try.prog 26 #[u, v] z (BoSay true z)) := fun z B C u v hu hv => by
    have q := samerefs_any hDo hDo (by omega) z hu hv
    rw [decide_eq_true rfl] at q
    exact q
  have HSP : Hid (∀ z B v, Fl B 33 33 z v (D.map rfA) → Calls Try.prog 33 #[v] z fun r w' => r = .returned (.tuple #[]) ∧ Sp v z w') := fun z B v hv => spoilrf_any z hv (by omega)
  unfold PpSay at HSE
  unfold DdSay at HRE
  unfold BoSay at HSR
  generalize OpA ⟨2, N, r, p⟩ = A at *
  generalize rfA r = R at *
  clear h hA1 hsA HAS ho hbw hDo hDl hOK
  go_enter Try.func13, Try.ntmps13
  go_upto_region 1 with (fail)
  rw [← hw0]
  clear hw0 k0
  go_wp2_with (first
    | (go_at_call 41; refine HSE.out.mono ?_; rintro e1 w1 ⟨v1, rfl, F1, P1, O1⟩; have R1 := Lib.hid ((O1.out.block _ (lt_of_block R0.out) HBN.out).trans R0.out); have n1 := (HOR.out _ R1.out).n; rw [Nat.zero_add] at n1; have M1 := Lib.hid (P0.out.mid O1.out))
    | (go_at_call 42; refine (HRE.out _ M1.out).mono ?_; rintro e2 w2 ⟨v2, rfl, F2, S2, O2⟩; have U2 := Lib.hid (P0.out.join P1.out S2.out O2.out); have G2 := Lib.hid (F1.out.only O2.out (M1.out.free F1.out)))
    | (go_at_call 26; with_reducible refine (HSR.out _ _ _ _ _ G2.out F2.out).mono ?_; rintro e3 w3 ⟨rfl, B3⟩; have U3 := Lib.hid (U2.out.next B3.out); have G3 := Lib.hid (G2.out.old B3.out))
    | (go_at_call 33; with_reducible refine (HSP.out _ _ _ G3.out).mono ?_; rintro e4 w4 ⟨rfl, S4⟩; have U4 := Lib.hid (U3.out.sp G3.out HX0.out S4)))
  go_ret
  exact ⟨rfl, U4⟩
set_option maxHeartbeats 8000000 in
set_option maxRecDepth 100000 in
theorem both_set {x w : World} {b c : Nat} {t : Tr.T} (N : Int) (r : Pg.Rf) (p : List Pg.Rf) (ho : OpOk ⟨0, N, r, p⟩) (h : Bo x w b c t) :
    Calls Try.prog 13 #[.pointer (some ⟨b, 0, none⟩), .pointer (some ⟨c, 0, none⟩), .agg (OpA ⟨0, N, r, p⟩)] w fun e w' => e = .returned (.bool true) ∧ Hid (Bo x w' b c (Tr.setI t N r)) := by
  have HAS := Lib.hid (opa_size ho)
  have hA1 := opa_one (⟨0, N, r, p⟩ : Tr.O)
  have hsA := row_size Try.sizeOp HAS
  have HOR : Hid (∀ y, y.heap[w.heap.size]? = some (.cells (OpA ⟨0, N, r, p⟩) 38 (0, 0)) → OpR y w.heap.size 0 ⟨0, N, r, p⟩) := fun y hy => opr_of ho (rng_whole hy)
  have B0 : Hid (Below w.heap.size w (w.alloc (.cells (OpA ⟨0, N, r, p⟩) 38))) := (Below.refl _ w).alloc (Nat.le_refl _) _
  have R0 : Hid ((w.alloc (.cells (OpA ⟨0, N, r, p⟩) 38)).heap[w.heap.size]? = some (.cells (OpA ⟨0, N, r, p⟩) 38 (0, 0))) := heap_alloc_new w _
  have P0 := Lib.hid (h.next B0.out)
  have hbw : b < w.heap.size := h.p.at_.lt
  have HBN : Hid (w.heap.size ≠ b) := by show _ ≠ _; omega
  have HRO := Lib.hid ho.r
  have HRS := Lib.hid (rfa_size ho.r)
  have hsR := row_size Try.sizeRef33 HRS
  obtain ⟨w0, hw0⟩ : ∃ y, y = w.alloc (.cells (OpA ⟨0, N, r, p⟩) 38) := ⟨_, rfl⟩
  have k0 := (HOR.out _ R0.out).k
  rw [← hw0] at B0 R0 P0
  obtain ⟨q1, q2, q3, q4, _⟩ := HOR.out _ R0.out
  rw [Nat.zero_add] at q2 q3 q4
  have Q3 := Lib.hid q3
  have HQR : Hid (∀ y : World, y.heap[w.heap.size]? = some (.cells (OpA ⟨0, N, r, p⟩) 38 (0, 0)) → y.rangeAt w.heap.size 2 (rfA r).toList) := fun y hy => by have q := (HOR.out y hy).r; rw [Nat.zero_add] at q; exact q
  dsimp only at *
  have hOK := h.p.at_.ok
  have HX0 := Lib.hid P0.out.p.old.size
  have HSE : Hid (Calls Try.prog 29 #[.pointer (some ⟨b, 0, none⟩), .int .i64 N, .agg (rfA r)] w0 (PpSay x b (Tr.setI t N r) (Tr.setD t N r) w0)) := pp_set N r HRO.out P0.out.p
  have HRE : Hid (∀ y, RS x.heap.size y c t → Calls Try.prog 38 #[.pointer (some ⟨c, 0, none⟩), .int .i64 N, .agg (rfA r)] y (DdSay x.heap.size c (Tr.setI t N r) (Tr.setD t N r) y)) := fun y hy => rset_any N r HRO.out y hy h.p.inv.off
  have hDo : ∀ s ∈ Tr.setD t N r, Pg.Ok s := fun s hs => (runD_mem hOK ⟨0, N, r, p⟩ s hs).1
  have hDl : (Tr.setD t N r).length ≤ 3 := runD_le t ⟨0, N, r, p⟩
  generalize Tr.setI t N r = t' at *
  generalize Tr.setD t N r = D at *
  have HSR : Hid (∀ z B C u v, Fl B 33 33 z u (D.map rfA) → Fl C 33 33 z v (D.map rfA) → Calls Try.prog 26 #[u, v] z (BoSay true z)) := fun z B C u v hu hv => by
    have q := samerefs_any hDo hDo (by omega) z hu hv
    rw [decide_eq_true rfl] at q
    exact q
  have HSP : Hid (∀ z B v, Fl B 33 33 z v (D.map rfA) → Calls Try.prog 33 #[v] z fun r w' => r = .returned (.tuple #[]) ∧ Sp v z w') := fun z B v hv => spoilrf_any z hv (by omega)
  unfold PpSay at HSE
  unfold DdSay at HRE
  unfold BoSay at HSR
  generalize OpA ⟨0, N, r, p⟩ = A at *
  generalize rfA r = R at *
  clear h hA1 hsA HAS ho hbw hDo hDl hOK
  go_enter Try.func13, Try.ntmps13
  go_upto_region 1 with (fail)
  rw [← hw0]
  clear hw0 k0
  go_wp2_with (first
    | ((with_reducible refine rng_load _ _ _ _ _ _ ?_ Q3.out Try.underlying33 ?_ hsR ?_); (exact rfl); (exact rfl))
    | ((with_reducible refine rng_load _ _ _ _ _ _ ?_ Q4.out Try.underlying33 ?_ hsR ?_); (exact rfl); (exact rfl))
    | (go_at_call 29; refine HSE.out.mono ?_; rintro e1 w1 ⟨v1, rfl, F1, P1, O1⟩; have R1 := Lib.hid ((O1.out.block _ (lt_of_block R0.out) HBN.out).trans R0.out); have n1 := (HOR.out _ R1.out).n; rw [Nat.zero_add] at n1; have Q4 := Lib.hid (HQR.out _ R1.out); have M1 := Lib.hid (P0.out.mid O1.out))
    | (go_at_call 38; refine (HRE.out _ M1.out).mono ?_; rintro e2 w2 ⟨v2, rfl, F2, S2, O2⟩; have U2 := Lib.hid (P0.out.join P1.out S2.out O2.out); have G2 := Lib.hid (F1.out.only O2.out (M1.out.free F1.out)))
    | (go_at_call 26; with_reducible refine (HSR.out _ _ _ _ _ G2.out F2.out).mono ?_; rintro e3 w3 ⟨rfl, B3⟩; have U3 := Lib.hid (U2.out.next B3.out); have G3 := Lib.hid (G2.out.old B3.out))
    | (go_at_call 33; with_reducible refine (HSP.out _ _ _ G3.out).mono ?_; rintro e4 w4 ⟨rfl, S4⟩; have U4 := Lib.hid (U3.out.sp G3.out HX0.out S4)))
  go_ret
  exact ⟨rfl, U4⟩
end Go.Proofs.Ytfeemeddhhgigaa

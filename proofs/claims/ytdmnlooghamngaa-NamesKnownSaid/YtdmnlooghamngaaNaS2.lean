/-
  The reference in memory; place.
-/
import Derived.Test.YtdmnlooghamngaaNaS1
import Derived.Test.YtdmnlooghamngaaNaB1
namespace Go.Proofs.Ytdmnlooghamngaa
open Go.RowKit

/-- The fours S, one behind the other in a row of the call's own, each head and plain in memory of its own. -/
def SAt (B : Nat) (y : World) (v : Value) (S : List Nm.Four) : Prop :=
  ∃ xs, y.ownsRow B 72 4 v S.length xs ∧ ∀ (j : Nat) (x : Nm.Four), S[j]? = some x → ∃ ph ch pp cp, xs[j * 4]? = some (.int .i64 x.1) ∧ xs[j * 4 + 1]? = some (.int .i64 x.2.1) ∧ xs[j * 4 + 2]? = some (.slice ph x.2.2.1.length ch) ∧ xs[j * 4 + 3]? = some (.slice pp x.2.2.2.length cp) ∧
    y.ownsRow B 5 1 (.slice ph x.2.2.1.length ch) x.2.2.1.length (U8s x.2.2.1) ∧ y.ownsRow B 5 1 (.slice pp x.2.2.2.length cp) x.2.2.2.length (U8s x.2.2.2)
theorem SAt.old {B : Nat} {w y : World} {v : Value} {S : List Nm.Four} (h : SAt B w v S) (hb : Below w.heap.size w y) : SAt B y v S := by
  obtain ⟨xs, h1, h2⟩ := h
  exact ⟨xs, own_keepX h1 hb, fun j x hx => by
    obtain ⟨ph, ch, pp, cp, a, b, c, d, e, f⟩ := h2 j x hx
    exact ⟨ph, ch, pp, cp, a, b, c, d, own_keepX e hb, own_keepX f hb⟩⟩
theorem SAt.only {B q : Nat} {w y : World} {v : Value} {S : List Nm.Four} (h : SAt B w v S) (ho : Only q w y) (hq : q < B) : SAt B y v S := by
  obtain ⟨xs, h1, h2⟩ := h
  exact ⟨xs, own_onlyX h1 ho hq, fun j x hx => by
    obtain ⟨ph, ch, pp, cp, a, b, c, d, e, f⟩ := h2 j x hx
    exact ⟨ph, ch, pp, cp, a, b, c, d, own_onlyX e ho hq, own_onlyX f ho hq⟩⟩
theorem sat_some {B : Nat} {w : World} {v : Value} {S : List Nm.Four} (h : SAt B w v S) (h0 : 0 < S.length) : ∃ gs cap, v = .slice (some ⟨gs, 0, none⟩) S.length cap := by
  obtain ⟨xs, h1, _⟩ := h
  rcases h1.2 with ⟨_, h2⟩ | ⟨g, cap, cur, h2, _⟩
  · omega
  · exact ⟨g, cap, h2⟩
theorem sat_len {B : Nat} {w : World} {v : Value} {S : List Nm.Four} (h : SAt B w v S) : ∃ a cap, v = .slice a S.length cap := by
  obtain ⟨xs, h1, _⟩ := h
  rcases h1.2 with ⟨h2, h3⟩ | ⟨g, cap, cur, h2, _⟩
  · exact ⟨none, 0, by rw [h2, h3]⟩
  · exact ⟨_, cap, h2⟩
theorem SAt.at {B gs n cap : Nat} {w : World} {S : List Nm.Four} (h : SAt B w (.slice (some ⟨gs, 0, none⟩) n cap) S) (hn : S.length = n) {j : Nat} {x : Nm.Four} (hx : S[j]? = some x) : ∃ ph ch pp cp, w.cell? ⟨gs, j * 4, none⟩ = some (.int .i64 x.1) ∧ w.cell? ⟨gs, j * 4 + 1, none⟩ = some (.int .i64 x.2.1) ∧ w.cell? ⟨gs, j * 4 + 2, none⟩ = some (.slice ph x.2.2.1.length ch) ∧ w.cell? ⟨gs, j * 4 + 3, none⟩ = some (.slice pp x.2.2.2.length cp) ∧
    w.ownsRow B 5 1 (.slice ph x.2.2.1.length ch) x.2.2.1.length (U8s x.2.2.1) ∧ w.ownsRow B 5 1 (.slice pp x.2.2.2.length cp) x.2.2.2.length (U8s x.2.2.2) := by
  subst hn
  obtain ⟨xs, h1, h2⟩ := h
  obtain ⟨ph, ch, pp, cp, a, b, c, d, e, f⟩ := h2 j x hx
  have hj := (List.getElem?_eq_some_iff.1 hx).1
  rcases h1.2 with ⟨h6, _⟩ | ⟨g, cap', cur, h6, _, h7, _, _, _, h8⟩
  · cases h6
  · cases h6
    have key : ∀ i v, i < S.length * 4 → xs[i]? = some v → w.cell? ⟨gs, i, none⟩ = some v := fun i v hi hv => by
      rw [← h8, List.getElem?_take_of_lt hi] at hv
      rw [cell_of_row w gs i _ _ _ h7]
      simpa using hv
    exact ⟨ph, ch, pp, cp, key _ _ (by omega) a, key _ _ (by omega) b, key _ _ (by omega) c, key _ _ (by omega) d, e, f⟩
/-- The reference's Names in block gr, all that it has in blocks from B on. -/
structure RefAt (y : World) (B gr : Nat) (v1 v2 : Value) (S : Nm.St) : Prop where
  row : y.heap[gr]? = some (.cells #[v1, v2] 65 (0, 0))
  ss : SAt B y v1 S.ss
  ts : Got B y v2 S.ts.length (fun j => S.ts.getD j [])
  byt : (∀ x ∈ S.ss, Sha.Byt x.2.2.1 ∧ Sha.Byt x.2.2.2) ∧ ∀ t ∈ S.ts, Sha.Byt t
  one : S.ss.Nodup ∧ S.ts.Nodup
  base : B ≤ gr
theorem RefAt.old {w y : World} {B gr : Nat} {v1 v2 : Value} {S : Nm.St} (h : RefAt w B gr v1 v2 S) (hb : Below w.heap.size w y) : RefAt y B gr v1 v2 S :=
  ⟨(hb.block _ (lt_of_block h.row)).trans h.row, h.ss.old hb, h.ts.old hb, h.byt, h.one, h.base⟩
theorem RefAt.only {w y : World} {B gr q : Nat} {v1 v2 : Value} {S : Nm.St} (h : RefAt w B gr v1 v2 S) (ho : Only q w y) (hq : q < B) : RefAt y B gr v1 v2 S :=
  ⟨(ho.block _ (lt_of_block h.row) (by have := h.base; omega)).trans h.row, h.ss.only ho hq, h.ts.only ho hq, h.byt, h.one, h.base⟩
theorem RefAt.drew {w : World} {B gr : Nat} {v1 v2 : Value} {S : Nm.St} (h : RefAt w B gr v1 v2 S) : RefAt w.drew B gr v1 v2 S := h.old (Below.refl _ _).drew
theorem Try.sizeSealed : (Try.prog.info? 72).map (·.size) = some 4 := by kernel_rfl
theorem bs_own {w : World} {B m c : Nat} {p : Option Addr} {l : List Int} (h : w.ownsRow B 5 1 (.slice p m c) m (U8s l)) (hb : Sha.Byt l) : Bs w p c l := by
  obtain ⟨p', c', h1, h2, _⟩ := own_bs h hb
  cases h1
  exact h2

set_option maxHeartbeats 4000000 in
set_option maxRecDepth 100000 in
theorem place_any (S : Nm.St) (x : Nm.Four) (B gr : Nat) (v1 v2 : Value) (ph pp : Option Addr) (ch cp : Nat) (w : World) (hr : RefAt w B gr v1 v2 S) (hh : Bs w ph ch x.2.2.1) (hp : Bs w pp cp x.2.2.2) (hsz : x.2.2.1.length ≤ 100000 ∧ x.2.2.2.length ≤ 100000 ∧ S.ss.length ≤ 1000) :
    Calls Try.prog 35 #[.pointer (some ⟨gr, 0, none⟩), .agg #[.int .i64 x.1, .int .i64 x.2.1, .slice ph x.2.2.1.length ch, .slice pp x.2.2.2.length cp]] w fun e w' => e = .returned (.int .i64 (Nm.place x S.ss : Nat)) ∧ Below w.heap.size w w' := by
  obtain ⟨N, HN⟩ : ∃ N, Hid (S.ss.length = N) := ⟨_, rfl⟩
  obtain ⟨x1, HX⟩ : ∃ x1 : World, Hid (x1 = w.alloc (.cells #[.int .i64 x.1, .int .i64 x.2.1, .slice ph x.2.2.1.length ch, .slice pp x.2.2.2.length cp] 72)) := ⟨_, rfl⟩
  have HS1 : Hid (x1.heap.size = w.heap.size + 1) := by show _ = _; rw [HX.out]; simp
  have B0 : Hid (Below w.heap.size w x1) := by show Below _ _ _; rw [HX.out]; exact (Below.refl _ w).alloc (Nat.le_refl _) _
  have HBOX : Hid (∀ y, Below x1.heap.size x1 y → y.heap[w.heap.size]? = some (.cells #[.int .i64 x.1, .int .i64 x.2.1, .slice ph x.2.2.1.length ch, .slice pp x.2.2.2.length cp] 72 (0, 0))) := fun y hy => by
    rw [hy.block _ (by rw [HS1.out]; omega), HX.out]
    exact heap_alloc_new w _
  have HW : Hid (∀ y, Below x1.heap.size x1 y → Below w.heap.size w y) := fun y hy => B0.out.trans (hy.mono B0.out.size)
  have HC0 : Hid (∀ y, Below x1.heap.size x1 y → y.cell? ⟨gr, 0, none⟩ = some v1) := fun y hy => by rw [cell_of_row _ gr 0 _ _ _ (hr.old (HW.out y hy)).row]; rfl
  have HSA : Hid (∀ y, Below x1.heap.size x1 y → SAt B y v1 S.ss) := fun y hy => hr.ss.old (HW.out y hy)
  have HBY := Lib.hid hr.byt.1
  have HND := Lib.hid hr.one.1
  have HH : Hid (∀ y, Below x1.heap.size x1 y → Bs y ph ch x.2.2.1) := fun y hy => hh.old (HW.out y hy)
  have HP : Hid (∀ y, Below x1.heap.size x1 y → Bs y pp cp x.2.2.2) := fun y hy => hp.old (HW.out y hy)
  have HSZ := Lib.hid hsz
  obtain ⟨a1, cap1, hv1⟩ := sat_len hr.ss
  rw [HN.out] at hv1
  have hN : N ≤ 1000 := by rw [← HN.out]; exact hsz.2.2
  have DX : Hid (Below x1.heap.size x1 x1) := Below.refl _ _
  have HVS : Hid (0 < N → ∃ gs, a1 = some ⟨gs, 0, none⟩) := fun h0 => by
    obtain ⟨gs, cap, h⟩ := sat_some hr.ss (by rw [HN.out]; exact h0)
    rw [hv1] at h
    cases h
    exact ⟨gs, rfl⟩
  subst hv1
  clear hr hh hp hsz
  go_enter Try.func35, Try.ntmps35
  go_upto_region 1 with (fail)
  rw [← HX.out]
  go_wp2
  go_loopw [5] (fun v5 wr => ∃ i : Nat, i ≤ N ∧ v5 = .int .i64 i ∧ Hid (∀ j, j < i → S.ss[j]? ≠ some x) ∧ Hid (Below x1.heap.size x1 wr)) (fun v5 _ => N - (intOf v5).toNat)
  case atStart => exact ⟨0, Nat.zero_le _, rfl, fun j hj => by omega, DX.out⟩
  case round =>
    clear DX
    obtain ⟨i, hi, rfl, HNO, HB⟩ := hrel
    have c0 := HC0.out _ HB.out
    by_cases hlt : i < N
    · obtain ⟨z, hz⟩ : ∃ z, S.ss[i]? = some z := ⟨S.ss[i]'(by rw [HN.out]; exact hlt), List.getElem?_eq_getElem _⟩
      obtain ⟨gs, rfl⟩ := HVS.out (by omega)
      obtain ⟨zh, zch, zp, zcp, d0, d1, d2, d3, dh, dp⟩ := (HSA.out _ HB.out).at HN.out hz
      have HZB := Lib.hid (HBY.out z (List.mem_of_getElem? hz))
      have HZ := Lib.hid hz
      have DH := Lib.hid dh
      have DP := Lib.hid dp
      clear hz dh dp
      have hi0 : 0 ≤ (i : Int) := by omega
      have hi1 : (i : Int) < (N : Int) := by omega
      go_upto_region 5 with (fail)
      obtain ⟨w6, HW6⟩ : ∃ y : World, Hid (y = wr.alloc (.cells #[.int .i64 z.1, .int .i64 z.2.1, .slice zh z.2.2.1.length zch, .slice zp z.2.2.2.length zcp] 72)) := ⟨_, rfl⟩
      rw [← HW6.out]
      have g6 : Hid (w6.heap[wr.heap.size]? = some (.cells #[.int .i64 z.1, .int .i64 z.2.1, .slice zh z.2.2.1.length zch, .slice zp z.2.2.2.length zcp] 72 (0, 0))) := by show _ = _; rw [HW6.out]; exact heap_alloc_new wr _
      have D6 : Hid (Below x1.heap.size x1 w6) := by show Below _ _ _; rw [HW6.out]; exact HB.out.alloc HB.out.size _
      have DR : Hid (Below wr.heap.size wr w6) := by show Below _ _ _; rw [HW6.out]; exact (Below.refl _ wr).alloc (Nat.le_refl _) _
      have HG : Hid (∀ y, Below w6.heap.size w6 y → y.heap[wr.heap.size]? = some (.cells #[.int .i64 z.1, .int .i64 z.2.1, .slice zh z.2.2.1.length zch, .slice zp z.2.2.2.length zcp] 72 (0, 0))) := fun y hy => (hy.block _ (lt_of_block g6.out)).trans g6.out
      have HDD : Hid (∀ y, Below w6.heap.size w6 y → Below x1.heap.size x1 y) := fun y hy => D6.out.trans (hy.mono D6.out.size)
      have HDR : Hid (∀ y, Below w6.heap.size w6 y → Below wr.heap.size wr y) := fun y hy => DR.out.trans (hy.mono DR.out.size)
      have DW : Hid (Below w6.heap.size w6 w6) := Below.refl _ _
      have HSH : Hid (∀ y, Below w6.heap.size w6 y → Calls Try.prog 18 #[.slice zh z.2.2.1.length zch, .slice ph x.2.2.1.length ch] y (EqSay (decide (z.2.2.1 = x.2.2.1)) y)) := fun y hy => by
        have h2 := same_all z.2.2.1 x.2.2.1 _ _ _ _ zch ch rfl rfl y (bs_own (own_keepX DH.out (HDR.out y hy)) HZB.out.1).bat (HH.out y (HDD.out y hy)).bat
        by_cases hl : z.2.2.1.length ≤ 10000000
        · exact h2 hl
        · have hne : decide (z.2.2.1 = x.2.2.1) = false := decide_eq_false (fun e => by rw [e] at hl; have := HSZ.out; omega)
          rw [hne]
          exact same_ne _ _ _ _ _ _ (by have := HSZ.out; omega) y
      have HSP : Hid (∀ y, Below w6.heap.size w6 y → Calls Try.prog 18 #[.slice zp z.2.2.2.length zcp, .slice pp x.2.2.2.length cp] y (EqSay (decide (z.2.2.2 = x.2.2.2)) y)) := fun y hy => by
        have h2 := same_all z.2.2.2 x.2.2.2 _ _ _ _ zcp cp rfl rfl y (bs_own (own_keepX DP.out (HDR.out y hy)) HZB.out.2).bat (HP.out y (HDD.out y hy)).bat
        by_cases hl : z.2.2.2.length ≤ 10000000
        · exact h2 hl
        · have hne : decide (z.2.2.2 = x.2.2.2) = false := decide_eq_false (fun e => by rw [e] at hl; have := HSZ.out; omega)
          rw [hne]
          exact same_ne _ _ _ _ _ _ (by have := HSZ.out; omega) y
      have FIN : Hid (∀ y, Below w6.heap.size w6 y → z ≠ x → ∃ i' : Nat, i' ≤ N ∧ Value.int .i64 ((i : Int) + 1) = .int .i64 i' ∧ Hid (∀ j, j < i' → S.ss[j]? ≠ some x) ∧ Hid (Below x1.heap.size x1 y)) := fun y hy hne => ⟨i + 1, by omega, by go_num, fun j hj => by
        by_cases hji : j < i
        · exact HNO.out j hji
        · obtain rfl : j = i := by omega
          rw [HZ.out]
          exact fun e => hne (Option.some.inj e), HDD.out y hy⟩
      have HPL : Hid (z = x → Nm.place x S.ss = i + 1) := fun e => Nm.place_of HND.out (by rw [← e]; exact HZ.out)
      have HWW : Hid (∀ y, Below w6.heap.size w6 y → Below w.heap.size w y) := fun y hy => HW.out y (HDD.out y hy)
      clear g6 HW6 c0 d0 d1 d2 d3 HB HSA DH DP HNO HDR DR
      generalize wr.heap.size = G at *
      have q60 : w6.cell? ⟨G, 0, none⟩ = some (.int .i64 z.1) := (by rw [cell_of_row _ _ 0 _ _ _ (HG.out _ DW.out)]; rfl)
      have b60 : w6.cell? ⟨w.heap.size, 0, none⟩ = some (.int .i64 x.1) := (by rw [cell_of_row _ _ 0 _ _ _ (HBOX.out _ (HDD.out _ DW.out))]; rfl)
      have q61 : w6.cell? ⟨G, 1, none⟩ = some (.int .i64 z.2.1) := (by rw [cell_of_row _ _ 1 _ _ _ (HG.out _ DW.out)]; rfl)
      have b61 : w6.cell? ⟨w.heap.size, 1, none⟩ = some (.int .i64 x.2.1) := (by rw [cell_of_row _ _ 1 _ _ _ (HBOX.out _ (HDD.out _ DW.out))]; rfl)
      have q62 : w6.cell? ⟨G, 2, none⟩ = some (.slice zh z.2.2.1.length zch) := (by rw [cell_of_row _ _ 2 _ _ _ (HG.out _ DW.out)]; rfl)
      have b62 : w6.cell? ⟨w.heap.size, 2, none⟩ = some (.slice ph x.2.2.1.length ch) := (by rw [cell_of_row _ _ 2 _ _ _ (HBOX.out _ (HDD.out _ DW.out))]; rfl)
      have q63 : w6.cell? ⟨G, 3, none⟩ = some (.slice zp z.2.2.2.length zcp) := (by rw [cell_of_row _ _ 3 _ _ _ (HG.out _ DW.out)]; rfl)
      have b63 : w6.cell? ⟨w.heap.size, 3, none⟩ = some (.slice pp x.2.2.2.length cp) := (by rw [cell_of_row _ _ 3 _ _ _ (HBOX.out _ (HDD.out _ DW.out))]; rfl)
      have TK : Hid True := trivial
      cases he1 : (z.1 == x.1) with
      | false =>
        go_wp2
        exact ⟨FIN.out _ DW.out (fun e => by rw [e] at he1; simp at he1), by simp [intOf]; omega⟩
      | true =>
        cases hn1 : (z.2.1 == x.2.1) with
        | false =>
          go_wp2
          exact ⟨FIN.out _ DW.out (fun e => by rw [e] at hn1; simp at hn1), by simp [intOf]; omega⟩
        | true =>
          cases hh1 : decide (z.2.2.1 = x.2.2.1) with
          | false =>
            go_wp2_with (go_at_call 18; refine (HSH.out _ DW.out).mono ?_; rintro e7 w7 ⟨rfl, hb7⟩; rw [hh1])
            exact ⟨FIN.out _ hb7 (fun e => by rw [e] at hh1; simp at hh1), by simp [intOf]; omega⟩
          | true =>
            cases hp1 : decide (z.2.2.2 = x.2.2.2) with
            | false =>
              go_wp2_with (first
                | (go_at_call 18; have tk := TK.out; clear tk TK; refine (HSH.out _ DW.out).mono ?_; rintro e7 w7 ⟨rfl, hb7⟩; rw [hh1]; have HB7 := Lib.hid hb7; have q73 : w7.cell? ⟨G, 3, none⟩ = some (.slice zp z.2.2.2.length zcp) := (by rw [cell_of_row _ _ 3 _ _ _ (HG.out _ HB7.out)]; rfl); have b73 : w7.cell? ⟨w.heap.size, 3, none⟩ = some (.slice pp x.2.2.2.length cp) := (by rw [cell_of_row _ _ 3 _ _ _ (HBOX.out _ (HDD.out _ HB7.out))]; rfl); clear hb7)
                | (go_at_call 18; refine (HSP.out _ HB7.out).mono ?_; rintro e8 w8 ⟨rfl, hb8⟩; rw [hp1]))
              exact ⟨FIN.out _ (HB7.out.trans (hb8.mono HB7.out.size)) (fun e => by rw [e] at hp1; simp at hp1), by simp [intOf]; omega⟩
            | true =>
              have hzx : z = x := by
                obtain ⟨z1, z2, z3, z4⟩ := z
                obtain ⟨y1, y2, y3, y4⟩ := x
                simp only [beq_iff_eq, decide_eq_true_eq] at he1 hn1 hh1 hp1
                rw [he1, hn1, hh1, hp1]
              have HPX := Lib.hid (HPL.out hzx)
              clear hzx
              go_wp2_with (first
                | (go_at_call 18; have tk := TK.out; clear tk TK; refine (HSH.out _ DW.out).mono ?_; rintro e7 w7 ⟨rfl, hb7⟩; rw [hh1]; have HB7 := Lib.hid hb7; have q73 : w7.cell? ⟨G, 3, none⟩ = some (.slice zp z.2.2.2.length zcp) := (by rw [cell_of_row _ _ 3 _ _ _ (HG.out _ HB7.out)]; rfl); have b73 : w7.cell? ⟨w.heap.size, 3, none⟩ = some (.slice pp x.2.2.2.length cp) := (by rw [cell_of_row _ _ 3 _ _ _ (HBOX.out _ (HDD.out _ HB7.out))]; rfl); clear hb7)
                | (go_at_call 18; refine (HSP.out _ HB7.out).mono ?_; rintro e8 w8 ⟨rfl, hb8⟩; rw [hp1]))
              go_ret
              exact ⟨by rw [HPX.out]; rfl, HWW.out _ (HB7.out.trans (hb8.mono HB7.out.size))⟩
    · obtain rfl : i = N := by omega
      clear hlt
      have hpl : Nm.place x S.ss = 0 := by
        refine Nm.place_zero.2 (fun hm => ?_)
        obtain ⟨j, hj⟩ := List.getElem?_of_mem hm
        exact HNO.out j (by rw [← HN.out]; exact (List.getElem?_eq_some_iff.1 hj).1) hj
      go_wp2
      go_ret
      exact ⟨by rw [hpl]; rfl, HW.out _ HB.out⟩
end Go.Proofs.Ytdmnlooghamngaa

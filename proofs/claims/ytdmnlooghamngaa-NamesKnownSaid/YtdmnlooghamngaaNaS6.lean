/-
  The reference: Open.
-/
import Derived.Test.YtdmnlooghamngaaNaS4
namespace Go.Proofs.Ytdmnlooghamngaa
open Go.RowKit

theorem BAt.dropk {w : World} {ab ao k : Nat} {l : List Int} (h : BAt w (some ⟨ab, ao, none⟩) l) (hk : k < l.length) : BAt w (some ⟨ab, ao + k, none⟩) (l.drop k) := by
  refine ⟨fun x hx => h.1 x (List.mem_of_mem_drop hx), fun _ => ?_⟩
  obtain ⟨b', o', h1, h2⟩ := h.2 (by omega)
  cases h1
  refine ⟨ab, ao + k, rfl, fun j hj => ?_⟩
  rw [List.length_drop] at hj
  rw [Nat.add_assoc, h2 (k + j) (by omega)]
  simp [List.getD_eq_getElem?_getD]
set_option maxRecDepth 100000 in
theorem refopen_short (S : Nm.St) (e n : Int) (h s : List Int) (gr : Nat) (u3 : Value) (ps : Option Addr) (ns cs : Nat) (hns : s.length = ns) (hl : ns < 32) (w : World) :
    Calls Try.prog 21 #[.pointer (some ⟨gr, 0, none⟩), .int .i64 e, .int .i64 n, u3, .slice ps ns cs] w (OpSay (Nm.opn S e n h s) w) := by
  have h1 : Nm.opn S e n h s = none := by unfold Nm.opn; rw [if_pos (by omega)]
  have hw0 : IntKind.i64.wrap ((ns : Int) - 32) = (ns : Int) - 32 := IntWalk.i64_in _ ⟨by omega, by omega⟩
  have hlt : (ns : Int) - 32 < 0 := by omega
  have FIN : Hid (OpSay (Nm.opn S e n h s) w (.returned (.tuple #[.slice none 0 0, .bool false])) w) := by
    show OpSay _ _ _ _
    rw [h1]
    exact ⟨none, 0, 0, rfl, rfl, Lib.hid (by unfold U8s; exact World.ownsRow_nil _ _ _ _), Lib.hid (bs_none w), Below.refl _ _⟩
  clear h1
  go_enter Try.func21, Try.ntmps21
  go_wp2
  go_ret2
  exact FIN.out

set_option maxHeartbeats 4000000 in
set_option maxRecDepth 100000 in
theorem refopen_long (S : Nm.St) (e n : Int) (h s : List Int) (B gr : Nat) (v1 v2 : Value) (ph : Option Addr) (ab ao ch cs k : Nat) (hns : s.length = k + 32) (hsz : h.length ≤ 100000 ∧ k ≤ 100000 ∧ S.ss.length ≤ 1000)
    (w : World) (hr : RefAt w B gr v1 v2 S) (hh : Bs w ph ch h) (hS : Bs w (some ⟨ab, ao, none⟩) cs s) :
    Calls Try.prog 21 #[.pointer (some ⟨gr, 0, none⟩), .int .i64 e, .int .i64 n, .slice ph h.length ch, .slice (some ⟨ab, ao, none⟩) (k + 32) cs] w (OpSay (Nm.opn S e n h s) w) := by
  obtain ⟨N, HN⟩ : ∃ N, Hid (S.ss.length = N) := ⟨_, rfl⟩
  obtain ⟨X, HX⟩ : ∃ X, Hid (X = s.take k) := ⟨_, rfl⟩
  have HXL : Hid (X.length = k) := by show _ = _; rw [HX.out, List.length_take]; omega
  obtain ⟨G, HGT⟩ : ∃ G, Hid (G = s.drop k) := ⟨_, rfl⟩
  have HGL : Hid (G.length = 32) := by show _ = _; rw [HGT.out, List.length_drop]; omega
  have HOP : Hid (Nm.opn S e n h s = if Nm.place (e, n, h, X) S.ss ≠ 0 ∧ G = Nm.tg 0 (Nm.place (e, n, h, X) S.ss : Nat) then some X else none) := by
    show _ = _
    unfold Nm.opn
    rw [if_neg (by omega), hns, show k + 32 - 32 = k by omega, ← HX.out, ← HGT.out]
  have HND := Lib.hid hr.one.1
  have HBY := Lib.hid hr.byt.1
  have HSZ := Lib.hid hsz
  have hN : N ≤ 1000 := by rw [← HN.out]; exact hsz.2.2
  obtain ⟨a1, cap1, hv1⟩ := sat_len hr.ss
  rw [HN.out] at hv1
  have HVS : Hid (0 < N → ∃ gs, a1 = some ⟨gs, 0, none⟩) := fun h0 => by
    obtain ⟨gs, cap, h⟩ := sat_some hr.ss (by rw [HN.out]; exact h0)
    rw [hv1] at h
    cases h
    exact ⟨gs, rfl⟩
  subst hv1
  have HC0 : Hid (∀ y, Below w.heap.size w y → y.cell? ⟨gr, 0, none⟩ = some (.slice a1 N cap1)) := fun y hy => by rw [cell_of_row _ gr 0 _ _ _ (hr.old hy).row]; rfl
  have HSA : Hid (∀ y, Below w.heap.size w y → SAt B y (.slice a1 N cap1) S.ss) := fun y hy => hr.ss.old hy
  have HH : Hid (∀ y, Below w.heap.size w y → BAt y ph h) := fun y hy => (hh.old hy).bat
  have HXB : Hid (∀ y, Below w.heap.size w y → BAt y (some ⟨ab, ao, none⟩) X) := fun y hy => by rw [HX.out]; exact (hS.old hy).bat.take k
  have HGB : Hid (∀ y, Below w.heap.size w y → BAt y (some ⟨ab, ao + k, none⟩) G) := fun y hy => by rw [HGT.out]; exact (hS.old hy).bat.dropk (by omega)
  have hcap := hS.cap
  rw [hns] at hcap
  generalize Nm.opn S e n h s = O at *
  have hw0 : IntKind.i64.wrap ((k : Int) + 32 - 32) = (k : Int) := IntWalk.i64_in _ ⟨by omega, by omega⟩ |>.trans (by omega)
  have hw2 : ¬ ((k : Int) < 0) := by omega
  have hnk : k + 32 - k = 32 := by omega
  have hkc : k ≤ cs := by omega
  have hck : ¬ (cs - k = 0) := by omega
  have hck2 : ¬ (cs = k) := by omega
  have hle : (k : Int) ≤ (k : Int) + 32 := by omega
  have DX : Hid (Below w.heap.size w w) := Below.refl _ _
  clear hr hh hS hns hsz
  go_enter Try.func21, Try.ntmps21
  go_wp2
  go_loopw [13] (fun v13 wr => ∃ i : Nat, i ≤ N ∧ v13 = .int .i64 ((i : Int) + 1) ∧ Hid (∀ j, j < i → ¬ (G = Nm.tg 0 ((j : Int) + 1) ∧ S.ss[j]? = some (e, n, h, X))) ∧ Hid (Below w.heap.size w wr)) (fun v13 _ => N + 1 - (intOf v13).toNat)
  case atStart => exact ⟨0, Nat.zero_le _, rfl, fun j hj => by omega, DX.out⟩
  case round =>
    clear DX
    obtain ⟨i, hi, rfl, HNO, HB⟩ := hrel
    have c0 := HC0.out _ HB.out
    by_cases hlt : i < N
    · obtain ⟨z, hz⟩ : ∃ z, S.ss[i]? = some z := ⟨S.ss[i]'(by rw [HN.out]; exact hlt), List.getElem?_eq_getElem _⟩
      obtain ⟨gs, rfl⟩ := HVS.out (by omega)
      obtain ⟨zh, zch, zp, zcp, d0, d1, d2, d3, dh, dp⟩ := (HSA.out _ HB.out).at HN.out hz
      have HZB := Lib.hid (HBY.out z (List.mem_of_getElem? hz))
      have HZ := Lib.hid hz
      have DH := Lib.hid dh
      have DP := Lib.hid dp
      clear hz dh dp
      have hi0 : 0 ≤ (i : Int) := by omega
      have hi1 : (i : Int) < (N : Int) := by omega
      have hi2 : (i : Int) + 1 ≤ (N : Int) := by omega
      have hws : IntKind.i64.wrap ((i : Int) + 1 - 1) = (i : Int) := IntWalk.i64_in _ ⟨by omega, by omega⟩ |>.trans (by omega)
      go_upto_region 8 with (fail)
      obtain ⟨w6, HW6⟩ : ∃ y : World, Hid (y = wr.alloc (.cells #[.int .i64 z.1, .int .i64 z.2.1, .slice zh z.2.2.1.length zch, .slice zp z.2.2.2.length zcp] 72)) := ⟨_, rfl⟩
      rw [← HW6.out]
      have g6 : Hid (w6.heap[wr.heap.size]? = some (.cells #[.int .i64 z.1, .int .i64 z.2.1, .slice zh z.2.2.1.length zch, .slice zp z.2.2.2.length zcp] 72 (0, 0))) := by show _ = _; rw [HW6.out]; exact heap_alloc_new wr _
      have D6 : Hid (Below w.heap.size w w6) := by show Below _ _ _; rw [HW6.out]; exact HB.out.alloc HB.out.size _
      have DR : Hid (Below wr.heap.size wr w6) := by show Below _ _ _; rw [HW6.out]; exact (Below.refl _ wr).alloc (Nat.le_refl _) _
      have HDD : Hid (∀ y, Below w6.heap.size w6 y → Below w.heap.size w y) := fun y hy => D6.out.trans (hy.mono D6.out.size)
      have HDR : Hid (∀ y, Below w6.heap.size w6 y → Below wr.heap.size wr y) := fun y hy => DR.out.trans (hy.mono DR.out.size)
      have DW : Hid (Below w6.heap.size w6 w6) := Below.refl _ _
      have HSB : Hid (∀ y, Below w6.heap.size w6 y → BAt y zp z.2.2.2) := fun y hy => (bs_own (own_keepX DP.out (HDR.out y hy)) HZB.out.2).bat
      have HSH : Hid (∀ y, Below w6.heap.size w6 y → Calls Try.prog 18 #[.slice zh z.2.2.1.length zch, .slice ph h.length ch] y (EqSay (decide (z.2.2.1 = h)) y)) := fun y hy => by
        have h2 := same_all z.2.2.1 h _ _ _ _ zch ch rfl rfl y (bs_own (own_keepX DH.out (HDR.out y hy)) HZB.out.1).bat (HH.out y (HDD.out y hy))
        by_cases hl : z.2.2.1.length ≤ 10000000
        · exact h2 hl
        · have hne : decide (z.2.2.1 = h) = false := decide_eq_false (fun e => by rw [e] at hl; have := HSZ.out; omega)
          rw [hne]
          exact same_ne _ _ _ _ _ _ (by have := HSZ.out; omega) y
      have HSP : Hid (∀ y, Below w6.heap.size w6 y → Calls Try.prog 18 #[.slice zp z.2.2.2.length zcp, .slice (some ⟨ab, ao, none⟩) k cs] y (EqSay (decide (z.2.2.2 = X)) y)) := fun y hy => by
        have h2 := same_all z.2.2.2 X _ _ _ _ zcp cs rfl HXL.out y (HSB.out y hy) (HXB.out y (HDD.out y hy))
        by_cases hl : z.2.2.2.length ≤ 10000000
        · exact h2 hl
        · have hne : decide (z.2.2.2 = X) = false := decide_eq_false (fun e => by rw [e, HXL.out] at hl; have := HSZ.out; omega)
          rw [hne]
          exact same_ne _ _ _ _ _ _ (by have := HSZ.out; omega) y
      have FIN : Hid (∀ y, Below w6.heap.size w6 y → ¬ (G = Nm.tg 0 ((i : Int) + 1) ∧ z = (e, n, h, X)) → ∃ i' : Nat, i' ≤ N ∧ Value.int .i64 ((i : Int) + 1 + 1) = .int .i64 ((i' : Int) + 1) ∧ Hid (∀ j, j < i' → ¬ (G = Nm.tg 0 ((j : Int) + 1) ∧ S.ss[j]? = some (e, n, h, X))) ∧ Hid (Below w.heap.size w y)) := fun y hy hne => ⟨i + 1, by omega, by go_num, fun j hj => by
        by_cases hji : j < i
        · exact HNO.out j hji
        · obtain rfl : j = i := by omega
          rw [HZ.out]
          exact fun q => hne ⟨q.1, Option.some.inj q.2⟩, HDD.out y hy⟩
      have HFO : Hid (G = Nm.tg 0 ((i : Int) + 1) → z = (e, n, h, X) → O = some X) := fun h1 h2 => by
        have h3 := Nm.place_of HND.out (by rw [← h2]; exact HZ.out : S.ss[i]? = some (e, n, h, X))
        rw [HOP.out, h3, if_pos ⟨by omega, by rw [h1]; congr 1⟩]
      clear c0 d0 d1 d2 d3 HB HW6 DR HDR HNO DH DP D6
      generalize wr.heap.size = q at *
      have HSD : Hid (∀ y, Below w6.heap.size w6 y → y.cell? ⟨q, 0, none⟩ = some (.int .i64 z.1) ∧ y.cell? ⟨q, 1, none⟩ = some (.int .i64 z.2.1) ∧ y.cell? ⟨q, 2, none⟩ = some (.slice zh z.2.2.1.length zch) ∧ y.cell? ⟨q, 3, none⟩ = some (.slice zp z.2.2.2.length zcp)) := fun y hy => by
        have h := (hy.block _ (lt_of_block g6.out)).trans g6.out
        exact ⟨by rw [cell_of_row _ _ 0 _ _ _ h]; rfl, by rw [cell_of_row _ _ 1 _ _ _ h]; rfl, by rw [cell_of_row _ _ 2 _ _ _ h]; rfl, by rw [cell_of_row _ _ 3 _ _ _ h]; rfl⟩
      clear g6
      cases hgt : decide (G = Nm.tg 0 ((i : Int) + 1)) with
      | false =>
        go_region_held3 (fun _ => True)
          (exact trivial)
          (first
            | (go_at_call 36; refine (tag_any ((i : Int) + 1) _).mono ?_; rintro e8 w8 ⟨a8, rfl, ho8, hb8⟩; obtain ⟨p8, c8, rfl, hq8, _⟩ := own_bs ho8 (Nm.tg_byt _ _ (by omega)); rw [Nm.tg_len]; have HQ8 := Lib.hid hq8; have D8 : Hid (Below w6.heap.size w6 w8) := DW.out.drew.trans hb8; clear hq8 ho8 hb8)
            | (go_at_call 18; refine (same_all G (Nm.tg 0 ((i : Int) + 1)) _ _ 32 32 _ _ HGL.out (Nm.tg_len _ _) _ (HGB.out _ (HDD.out _ D8.out)) HQ8.out.bat (by omega)).mono ?_; rw [hgt]; rintro e9 w9 ⟨rfl, hb9⟩; have D9 : Hid (Below w6.heap.size w6 w9) := D8.out.trans (hb9.mono D8.out.size); clear hb9))
        go_wp2
        exact ⟨FIN.out _ D9.out (fun q => by rw [decide_eq_true q.1] at hgt; cases hgt), by simp [intOf]; omega⟩
      | true =>
        go_region_held3 (fun _ => True)
          (exact trivial)
          (first
            | (go_at_call 36; refine (tag_any ((i : Int) + 1) _).mono ?_; rintro e8 w8 ⟨a8, rfl, ho8, hb8⟩; obtain ⟨p8, c8, rfl, hq8, _⟩ := own_bs ho8 (Nm.tg_byt _ _ (by omega)); rw [Nm.tg_len]; have HQ8 := Lib.hid hq8; have D8 : Hid (Below w6.heap.size w6 w8) := DW.out.drew.trans hb8; clear hq8 ho8 hb8)
            | (go_at_call 18; refine (same_all G (Nm.tg 0 ((i : Int) + 1)) _ _ 32 32 _ _ HGL.out (Nm.tg_len _ _) _ (HGB.out _ (HDD.out _ D8.out)) HQ8.out.bat (by omega)).mono ?_; rw [hgt]; rintro e9 w9 ⟨rfl, hb9⟩; have D9 : Hid (Below w6.heap.size w6 w9) := D8.out.trans (hb9.mono D8.out.size); clear hb9))
        have HGQ : Hid (G = Nm.tg 0 ((i : Int) + 1)) := Lib.hid (by simpa using hgt)
        clear hgt HQ8 D8 DW
        go_upto_region 9 with (fail)
        cases he1 : (z.1 == e) with
        | false =>
          refine wp_region_any (by kernel_rfl) ?_
          change wpAny _ _ _ _ _ _ _ (World.drew _)
          have D0 : Hid (Below w6.heap.size w6 w9.drew) := D9.out.drew
          generalize w9.drew = z0 at *
          refine wpAny_of_held (S := fun y => y.cell? ⟨q, 0, none⟩ = some (.int .i64 z.1) ∧ y.cell? ⟨q, 1, none⟩ = some (.int .i64 z.2.1) ∧ y.cell? ⟨q, 2, none⟩ = some (.slice zh z.2.2.1.length zch) ∧ y.cell? ⟨q, 3, none⟩ = some (.slice zp z.2.2.2.length zcp)) _ _ _ _ ?_
          have SD0 := Lib.hid (HSD.out _ D0.out)
          refine anyH_take 0 44 (.pointer (some ⟨q, 0, none⟩)) SD0.out rfl (by kernel_rfl) (by kernel_rfl) (by kernel_rfl) (fun _ _ _ h => h) (by rfl) (by intro x hx; obtain ⟨y0, y1, y2, y3⟩ := hx; go_simp; try (intro h; omega)) ?_
          try simp only [Act.put, List.setIfInBounds_toArray, List.set_cons_zero, List.set_cons_succ]
          refine anyH_take 1 45 (.int .i64 z.1) SD0.out rfl (by kernel_rfl) (by kernel_rfl) (by kernel_rfl) (fun _ _ _ h => h) (by rfl) (by intro x hx; obtain ⟨y0, y1, y2, y3⟩ := hx; go_simp; try (intro h; omega)) ?_
          try simp only [Act.put, List.setIfInBounds_toArray, List.set_cons_zero, List.set_cons_succ]
          refine anyH_take 2 46 (.int .i64 e) SD0.out rfl (by kernel_rfl) (by kernel_rfl) (by kernel_rfl) (fun _ _ _ h => h) (by rfl) (by intro x hx; obtain ⟨y0, y1, y2, y3⟩ := hx; go_simp; try (intro h; omega)) ?_
          try simp only [Act.put, List.setIfInBounds_toArray, List.set_cons_zero, List.set_cons_succ]
          refine anyH_take 3 47 (.bool false) SD0.out rfl (by kernel_rfl) (by kernel_rfl) (by kernel_rfl) (fun _ _ _ h => h) (by rfl) (by intro x hx; obtain ⟨y0, y1, y2, y3⟩ := hx; go_simp; try (intro h; omega)) ?_
          try simp only [Act.put, List.setIfInBounds_toArray, List.set_cons_zero, List.set_cons_succ]
          refine anyH_take 4 48 (.bool false) SD0.out rfl (by kernel_rfl) (by kernel_rfl) (by kernel_rfl) (fun _ _ _ h => h) (by rfl) (by intro x hx; obtain ⟨y0, y1, y2, y3⟩ := hx; go_simp; try (intro h; omega)) ?_
          try simp only [Act.put, List.setIfInBounds_toArray, List.set_cons_zero, List.set_cons_succ]
          refine anyH_skip 5 49 SD0.out rfl (by kernel_rfl) (by kernel_rfl) (by kernel_rfl) (fun _ _ _ h => h) (by rfl) ?_
          try simp only [Act.put, List.setIfInBounds_toArray, List.set_cons_zero, List.set_cons_succ]
          refine anyH_skip 6 50 SD0.out rfl (by kernel_rfl) (by kernel_rfl) (by kernel_rfl) (fun _ _ _ h => h) (by rfl) ?_
          try simp only [Act.put, List.setIfInBounds_toArray, List.set_cons_zero, List.set_cons_succ]
          refine anyH_skip 7 51 SD0.out rfl (by kernel_rfl) (by kernel_rfl) (by kernel_rfl) (fun _ _ _ h => h) (by rfl) ?_
          try simp only [Act.put, List.setIfInBounds_toArray, List.set_cons_zero, List.set_cons_succ]
          refine anyH_skip 8 52 SD0.out rfl (by kernel_rfl) (by kernel_rfl) (by kernel_rfl) (fun _ _ _ h => h) (by rfl) ?_
          try simp only [Act.put, List.setIfInBounds_toArray, List.set_cons_zero, List.set_cons_succ]
          refine anyH_take 9 53 (.bool false) SD0.out rfl (by kernel_rfl) (by kernel_rfl) (by kernel_rfl) (fun _ _ _ h => h) (by rfl) (by intro x hx; obtain ⟨y0, y1, y2, y3⟩ := hx; go_simp; try (intro h; omega)) ?_
          try simp only [Act.put, List.setIfInBounds_toArray, List.set_cons_zero, List.set_cons_succ]
          refine anyH_take 10 54 (.bool false) SD0.out rfl (by kernel_rfl) (by kernel_rfl) (by kernel_rfl) (fun _ _ _ h => h) (by rfl) (by intro x hx; obtain ⟨y0, y1, y2, y3⟩ := hx; go_simp; try (intro h; omega)) ?_
          try simp only [Act.put, List.setIfInBounds_toArray, List.set_cons_zero, List.set_cons_succ]
          refine anyH_skip 11 55 SD0.out rfl (by kernel_rfl) (by kernel_rfl) (by kernel_rfl) (fun _ _ _ h => h) (by rfl) ?_
          try simp only [Act.put, List.setIfInBounds_toArray, List.set_cons_zero, List.set_cons_succ]
          refine anyH_skip 12 56 SD0.out rfl (by kernel_rfl) (by kernel_rfl) (by kernel_rfl) (fun _ _ _ h => h) (by rfl) ?_
          try simp only [Act.put, List.setIfInBounds_toArray, List.set_cons_zero, List.set_cons_succ]
          refine anyH_skip 13 57 SD0.out rfl (by kernel_rfl) (by kernel_rfl) (by kernel_rfl) (fun _ _ _ h => h) (by rfl) ?_
          try simp only [Act.put, List.setIfInBounds_toArray, List.set_cons_zero, List.set_cons_succ]
          refine anyH_skip 14 58 SD0.out rfl (by kernel_rfl) (by kernel_rfl) (by kernel_rfl) (fun _ _ _ h => h) (by rfl) ?_
          try simp only [Act.put, List.setIfInBounds_toArray, List.set_cons_zero, List.set_cons_succ]
          refine anyH_take 15 59 (.bool false) SD0.out rfl (by kernel_rfl) (by kernel_rfl) (by kernel_rfl) (fun _ _ _ h => h) (by rfl) (by intro x hx; obtain ⟨y0, y1, y2, y3⟩ := hx; go_simp; try (intro h; omega)) ?_
          try simp only [Act.put, List.setIfInBounds_toArray, List.set_cons_zero, List.set_cons_succ]
          refine anyH_take 16 60 (.bool false) SD0.out rfl (by kernel_rfl) (by kernel_rfl) (by kernel_rfl) (fun _ _ _ h => h) (by rfl) (by intro x hx; obtain ⟨y0, y1, y2, y3⟩ := hx; go_simp; try (intro h; omega)) ?_
          try simp only [Act.put, List.setIfInBounds_toArray, List.set_cons_zero, List.set_cons_succ]
          refine anyH_skip 17 61 SD0.out rfl (by kernel_rfl) (by kernel_rfl) (by kernel_rfl) (fun _ _ _ h => h) (by rfl) ?_
          try simp only [Act.put, List.setIfInBounds_toArray, List.set_cons_zero, List.set_cons_succ]
          refine anyH_skip 18 62 SD0.out rfl (by kernel_rfl) (by kernel_rfl) (by kernel_rfl) (fun _ _ _ h => h) (by rfl) ?_
          try simp only [Act.put, List.setIfInBounds_toArray, List.set_cons_zero, List.set_cons_succ]
          refine anyH_skip 19 63 SD0.out rfl (by kernel_rfl) (by kernel_rfl) (by kernel_rfl) (fun _ _ _ h => h) (by rfl) ?_
          try simp only [Act.put, List.setIfInBounds_toArray, List.set_cons_zero, List.set_cons_succ]
          refine anyH_skip 20 64 SD0.out rfl (by kernel_rfl) (by kernel_rfl) (by kernel_rfl) (fun _ _ _ h => h) (by rfl) ?_
          try simp only [Act.put, List.setIfInBounds_toArray, List.set_cons_zero, List.set_cons_succ]
          refine anyH_skip 21 65 SD0.out rfl (by kernel_rfl) (by kernel_rfl) (by kernel_rfl) (fun _ _ _ h => h) (by rfl) ?_
          try simp only [Act.put, List.setIfInBounds_toArray, List.set_cons_zero, List.set_cons_succ]
          refine anyH_skip 22 66 SD0.out rfl (by kernel_rfl) (by kernel_rfl) (by kernel_rfl) (fun _ _ _ h => h) (by rfl) ?_
          try simp only [Act.put, List.setIfInBounds_toArray, List.set_cons_zero, List.set_cons_succ]
          refine anyH_take 23 67 (.bool false) SD0.out rfl (by kernel_rfl) (by kernel_rfl) (by kernel_rfl) (fun _ _ _ h => h) (by rfl) (by intro x hx; obtain ⟨y0, y1, y2, y3⟩ := hx; go_simp; try (intro h; omega)) ?_
          try simp only [Act.put, List.setIfInBounds_toArray, List.set_cons_zero, List.set_cons_succ]
          refine wpAnyH_done (by kernel_rfl) ?_ _
          go_wp2
          exact ⟨FIN.out _ D0.out (fun q => by obtain ⟨_, rfl⟩ := q; simp at he1), by simp [intOf]; omega⟩
        | true =>
          cases hn1 : (z.2.1 == n) with
          | false =>
            refine wp_region_any (by kernel_rfl) ?_
            change wpAny _ _ _ _ _ _ _ (World.drew _)
            have D0 : Hid (Below w6.heap.size w6 w9.drew) := D9.out.drew
            generalize w9.drew = z0 at *
            refine wpAny_of_held (S := fun y => y.cell? ⟨q, 0, none⟩ = some (.int .i64 z.1) ∧ y.cell? ⟨q, 1, none⟩ = some (.int .i64 z.2.1) ∧ y.cell? ⟨q, 2, none⟩ = some (.slice zh z.2.2.1.length zch) ∧ y.cell? ⟨q, 3, none⟩ = some (.slice zp z.2.2.2.length zcp)) _ _ _ _ ?_
            have SD0 := Lib.hid (HSD.out _ D0.out)
            refine anyH_take 0 44 (.pointer (some ⟨q, 0, none⟩)) SD0.out rfl (by kernel_rfl) (by kernel_rfl) (by kernel_rfl) (fun _ _ _ h => h) (by rfl) (by intro x hx; obtain ⟨y0, y1, y2, y3⟩ := hx; go_simp; try (intro h; omega)) ?_
            try simp only [Act.put, List.setIfInBounds_toArray, List.set_cons_zero, List.set_cons_succ]
            refine anyH_take 1 45 (.int .i64 z.1) SD0.out rfl (by kernel_rfl) (by kernel_rfl) (by kernel_rfl) (fun _ _ _ h => h) (by rfl) (by intro x hx; obtain ⟨y0, y1, y2, y3⟩ := hx; go_simp; try (intro h; omega)) ?_
            try simp only [Act.put, List.setIfInBounds_toArray, List.set_cons_zero, List.set_cons_succ]
            refine anyH_take 2 46 (.int .i64 e) SD0.out rfl (by kernel_rfl) (by kernel_rfl) (by kernel_rfl) (fun _ _ _ h => h) (by rfl) (by intro x hx; obtain ⟨y0, y1, y2, y3⟩ := hx; go_simp; try (intro h; omega)) ?_
            try simp only [Act.put, List.setIfInBounds_toArray, List.set_cons_zero, List.set_cons_succ]
            refine anyH_take 3 47 (.bool true) SD0.out rfl (by kernel_rfl) (by kernel_rfl) (by kernel_rfl) (fun _ _ _ h => h) (by rfl) (by intro x hx; obtain ⟨y0, y1, y2, y3⟩ := hx; go_simp; try (intro h; omega)) ?_
            try simp only [Act.put, List.setIfInBounds_toArray, List.set_cons_zero, List.set_cons_succ]
            refine anyH_take 4 48 (.bool true) SD0.out rfl (by kernel_rfl) (by kernel_rfl) (by kernel_rfl) (fun _ _ _ h => h) (by rfl) (by intro x hx; obtain ⟨y0, y1, y2, y3⟩ := hx; go_simp; try (intro h; omega)) ?_
            try simp only [Act.put, List.setIfInBounds_toArray, List.set_cons_zero, List.set_cons_succ]
            refine anyH_take 5 49 (.pointer (some ⟨q, 1, none⟩)) SD0.out rfl (by kernel_rfl) (by kernel_rfl) (by kernel_rfl) (fun _ _ _ h => h) (by rfl) (by intro x hx; obtain ⟨y0, y1, y2, y3⟩ := hx; go_simp; try (intro h; omega)) ?_
            try simp only [Act.put, List.setIfInBounds_toArray, List.set_cons_zero, List.set_cons_succ]
            refine anyH_take 6 50 (.int .i64 z.2.1) SD0.out rfl (by kernel_rfl) (by kernel_rfl) (by kernel_rfl) (fun _ _ _ h => h) (by rfl) (by intro x hx; obtain ⟨y0, y1, y2, y3⟩ := hx; go_simp; try (intro h; omega)) ?_
            try simp only [Act.put, List.setIfInBounds_toArray, List.set_cons_zero, List.set_cons_succ]
            refine anyH_take 7 51 (.int .i64 n) SD0.out rfl (by kernel_rfl) (by kernel_rfl) (by kernel_rfl) (fun _ _ _ h => h) (by rfl) (by intro x hx; obtain ⟨y0, y1, y2, y3⟩ := hx; go_simp; try (intro h; omega)) ?_
            try simp only [Act.put, List.setIfInBounds_toArray, List.set_cons_zero, List.set_cons_succ]
            refine anyH_take 8 52 (.bool false) SD0.out rfl (by kernel_rfl) (by kernel_rfl) (by kernel_rfl) (fun _ _ _ h => h) (by rfl) (by intro x hx; obtain ⟨y0, y1, y2, y3⟩ := hx; go_simp; try (intro h; omega)) ?_
            try simp only [Act.put, List.setIfInBounds_toArray, List.set_cons_zero, List.set_cons_succ]
            refine anyH_take 9 53 (.bool false) SD0.out rfl (by kernel_rfl) (by kernel_rfl) (by kernel_rfl) (fun _ _ _ h => h) (by rfl) (by intro x hx; obtain ⟨y0, y1, y2, y3⟩ := hx; go_simp; try (intro h; omega)) ?_
            try simp only [Act.put, List.setIfInBounds_toArray, List.set_cons_zero, List.set_cons_succ]
            refine anyH_take 10 54 (.bool false) SD0.out rfl (by kernel_rfl) (by kernel_rfl) (by kernel_rfl) (fun _ _ _ h => h) (by rfl) (by intro x hx; obtain ⟨y0, y1, y2, y3⟩ := hx; go_simp; try (intro h; omega)) ?_
            try simp only [Act.put, List.setIfInBounds_toArray, List.set_cons_zero, List.set_cons_succ]
            refine anyH_skip 11 55 SD0.out rfl (by kernel_rfl) (by kernel_rfl) (by kernel_rfl) (fun _ _ _ h => h) (by rfl) ?_
            try simp only [Act.put, List.setIfInBounds_toArray, List.set_cons_zero, List.set_cons_succ]
            refine anyH_skip 12 56 SD0.out rfl (by kernel_rfl) (by kernel_rfl) (by kernel_rfl) (fun _ _ _ h => h) (by rfl) ?_
            try simp only [Act.put, List.setIfInBounds_toArray, List.set_cons_zero, List.set_cons_succ]
            refine anyH_skip 13 57 SD0.out rfl (by kernel_rfl) (by kernel_rfl) (by kernel_rfl) (fun _ _ _ h => h) (by rfl) ?_
            try simp only [Act.put, List.setIfInBounds_toArray, List.set_cons_zero, List.set_cons_succ]
            refine anyH_skip 14 58 SD0.out rfl (by kernel_rfl) (by kernel_rfl) (by kernel_rfl) (fun _ _ _ h => h) (by rfl) ?_
            try simp only [Act.put, List.setIfInBounds_toArray, List.set_cons_zero, List.set_cons_succ]
            refine anyH_take 15 59 (.bool false) SD0.out rfl (by kernel_rfl) (by kernel_rfl) (by kernel_rfl) (fun _ _ _ h => h) (by rfl) (by intro x hx; obtain ⟨y0, y1, y2, y3⟩ := hx; go_simp; try (intro h; omega)) ?_
            try simp only [Act.put, List.setIfInBounds_toArray, List.set_cons_zero, List.set_cons_succ]
            refine anyH_take 16 60 (.bool false) SD0.out rfl (by kernel_rfl) (by kernel_rfl) (by kernel_rfl) (fun _ _ _ h => h) (by rfl) (by intro x hx; obtain ⟨y0, y1, y2, y3⟩ := hx; go_simp; try (intro h; omega)) ?_
            try simp only [Act.put, List.setIfInBounds_toArray, List.set_cons_zero, List.set_cons_succ]
            refine anyH_skip 17 61 SD0.out rfl (by kernel_rfl) (by kernel_rfl) (by kernel_rfl) (fun _ _ _ h => h) (by rfl) ?_
            try simp only [Act.put, List.setIfInBounds_toArray, List.set_cons_zero, List.set_cons_succ]
            refine anyH_skip 18 62 SD0.out rfl (by kernel_rfl) (by kernel_rfl) (by kernel_rfl) (fun _ _ _ h => h) (by rfl) ?_
            try simp only [Act.put, List.setIfInBounds_toArray, List.set_cons_zero, List.set_cons_succ]
            refine anyH_skip 19 63 SD0.out rfl (by kernel_rfl) (by kernel_rfl) (by kernel_rfl) (fun _ _ _ h => h) (by rfl) ?_
            try simp only [Act.put, List.setIfInBounds_toArray, List.set_cons_zero, List.set_cons_succ]
            refine anyH_skip 20 64 SD0.out rfl (by kernel_rfl) (by kernel_rfl) (by kernel_rfl) (fun _ _ _ h => h) (by rfl) ?_
            try simp only [Act.put, List.setIfInBounds_toArray, List.set_cons_zero, List.set_cons_succ]
            refine anyH_skip 21 65 SD0.out rfl (by kernel_rfl) (by kernel_rfl) (by kernel_rfl) (fun _ _ _ h => h) (by rfl) ?_
            try simp only [Act.put, List.setIfInBounds_toArray, List.set_cons_zero, List.set_cons_succ]
            refine anyH_skip 22 66 SD0.out rfl (by kernel_rfl) (by kernel_rfl) (by kernel_rfl) (fun _ _ _ h => h) (by rfl) ?_
            try simp only [Act.put, List.setIfInBounds_toArray, List.set_cons_zero, List.set_cons_succ]
            refine anyH_take 23 67 (.bool false) SD0.out rfl (by kernel_rfl) (by kernel_rfl) (by kernel_rfl) (fun _ _ _ h => h) (by rfl) (by intro x hx; obtain ⟨y0, y1, y2, y3⟩ := hx; go_simp; try (intro h; omega)) ?_
            try simp only [Act.put, List.setIfInBounds_toArray, List.set_cons_zero, List.set_cons_succ]
            refine wpAnyH_done (by kernel_rfl) ?_ _
            go_wp2
            exact ⟨FIN.out _ D0.out (fun q => by obtain ⟨_, rfl⟩ := q; simp at hn1), by simp [intOf]; omega⟩
          | true =>
            cases hh1 : decide (z.2.2.1 = h) with
            | false =>
              rw [hh1] at HSH
              refine wp_region_any (by kernel_rfl) ?_
              change wpAny _ _ _ _ _ _ _ (World.drew _)
              have D0 : Hid (Below w6.heap.size w6 w9.drew) := D9.out.drew
              generalize w9.drew = z0 at *
              refine wpAny_of_held (S := fun y => y.cell? ⟨q, 0, none⟩ = some (.int .i64 z.1) ∧ y.cell? ⟨q, 1, none⟩ = some (.int .i64 z.2.1) ∧ y.cell? ⟨q, 2, none⟩ = some (.slice zh z.2.2.1.length zch) ∧ y.cell? ⟨q, 3, none⟩ = some (.slice zp z.2.2.2.length zcp)) _ _ _ _ ?_
              have SD0 := Lib.hid (HSD.out _ D0.out)
              refine anyH_take 0 44 (.pointer (some ⟨q, 0, none⟩)) SD0.out rfl (by kernel_rfl) (by kernel_rfl) (by kernel_rfl) (fun _ _ _ h => h) (by rfl) (by intro x hx; obtain ⟨y0, y1, y2, y3⟩ := hx; go_simp; try (intro h; omega)) ?_
              try simp only [Act.put, List.setIfInBounds_toArray, List.set_cons_zero, List.set_cons_succ]
              refine anyH_take 1 45 (.int .i64 z.1) SD0.out rfl (by kernel_rfl) (by kernel_rfl) (by kernel_rfl) (fun _ _ _ h => h) (by rfl) (by intro x hx; obtain ⟨y0, y1, y2, y3⟩ := hx; go_simp; try (intro h; omega)) ?_
              try simp only [Act.put, List.setIfInBounds_toArray, List.set_cons_zero, List.set_cons_succ]
              refine anyH_take 2 46 (.int .i64 e) SD0.out rfl (by kernel_rfl) (by kernel_rfl) (by kernel_rfl) (fun _ _ _ h => h) (by rfl) (by intro x hx; obtain ⟨y0, y1, y2, y3⟩ := hx; go_simp; try (intro h; omega)) ?_
              try simp only [Act.put, List.setIfInBounds_toArray, List.set_cons_zero, List.set_cons_succ]
              refine anyH_take 3 47 (.bool true) SD0.out rfl (by kernel_rfl) (by kernel_rfl) (by kernel_rfl) (fun _ _ _ h => h) (by rfl) (by intro x hx; obtain ⟨y0, y1, y2, y3⟩ := hx; go_simp; try (intro h; omega)) ?_
              try simp only [Act.put, List.setIfInBounds_toArray, List.set_cons_zero, List.set_cons_succ]
              refine anyH_take 4 48 (.bool true) SD0.out rfl (by kernel_rfl) (by kernel_rfl) (by kernel_rfl) (fun _ _ _ h => h) (by rfl) (by intro x hx; obtain ⟨y0, y1, y2, y3⟩ := hx; go_simp; try (intro h; omega)) ?_
              try simp only [Act.put, List.setIfInBounds_toArray, List.set_cons_zero, List.set_cons_succ]
              refine anyH_take 5 49 (.pointer (some ⟨q, 1, none⟩)) SD0.out rfl (by kernel_rfl) (by kernel_rfl) (by kernel_rfl) (fun _ _ _ h => h) (by rfl) (by intro x hx; obtain ⟨y0, y1, y2, y3⟩ := hx; go_simp; try (intro h; omega)) ?_
              try simp only [Act.put, List.setIfInBounds_toArray, List.set_cons_zero, List.set_cons_succ]
              refine anyH_take 6 50 (.int .i64 z.2.1) SD0.out rfl (by kernel_rfl) (by kernel_rfl) (by kernel_rfl) (fun _ _ _ h => h) (by rfl) (by intro x hx; obtain ⟨y0, y1, y2, y3⟩ := hx; go_simp; try (intro h; omega)) ?_
              try simp only [Act.put, List.setIfInBounds_toArray, List.set_cons_zero, List.set_cons_succ]
              refine anyH_take 7 51 (.int .i64 n) SD0.out rfl (by kernel_rfl) (by kernel_rfl) (by kernel_rfl) (fun _ _ _ h => h) (by rfl) (by intro x hx; obtain ⟨y0, y1, y2, y3⟩ := hx; go_simp; try (intro h; omega)) ?_
              try simp only [Act.put, List.setIfInBounds_toArray, List.set_cons_zero, List.set_cons_succ]
              refine anyH_take 8 52 (.bool true) SD0.out rfl (by kernel_rfl) (by kernel_rfl) (by kernel_rfl) (fun _ _ _ h => h) (by rfl) (by intro x hx; obtain ⟨y0, y1, y2, y3⟩ := hx; go_simp; try (intro h; omega)) ?_
              try simp only [Act.put, List.setIfInBounds_toArray, List.set_cons_zero, List.set_cons_succ]
              refine anyH_take 9 53 (.bool true) SD0.out rfl (by kernel_rfl) (by kernel_rfl) (by kernel_rfl) (fun _ _ _ h => h) (by rfl) (by intro x hx; obtain ⟨y0, y1, y2, y3⟩ := hx; go_simp; try (intro h; omega)) ?_
              try simp only [Act.put, List.setIfInBounds_toArray, List.set_cons_zero, List.set_cons_succ]
              refine anyH_take 10 54 (.bool true) SD0.out rfl (by kernel_rfl) (by kernel_rfl) (by kernel_rfl) (fun _ _ _ h => h) (by rfl) (by intro x hx; obtain ⟨y0, y1, y2, y3⟩ := hx; go_simp; try (intro h; omega)) ?_
              try simp only [Act.put, List.setIfInBounds_toArray, List.set_cons_zero, List.set_cons_succ]
              refine anyH_take 11 55 (.pointer (some ⟨q, 2, none⟩)) SD0.out rfl (by kernel_rfl) (by kernel_rfl) (by kernel_rfl) (fun _ _ _ h => h) (by rfl) (by intro x hx; obtain ⟨y0, y1, y2, y3⟩ := hx; go_simp; try (intro h; omega)) ?_
              try simp only [Act.put, List.setIfInBounds_toArray, List.set_cons_zero, List.set_cons_succ]
              refine anyH_take 12 56 (.slice zh z.2.2.1.length zch) SD0.out rfl (by kernel_rfl) (by kernel_rfl) (by kernel_rfl) (fun _ _ _ h => h) (by rfl) (by intro x hx; obtain ⟨y0, y1, y2, y3⟩ := hx; go_simp; try (intro h; omega)) ?_
              try simp only [Act.put, List.setIfInBounds_toArray, List.set_cons_zero, List.set_cons_succ]
              refine anyH_take 13 57 (.slice ph h.length ch) SD0.out rfl (by kernel_rfl) (by kernel_rfl) (by kernel_rfl) (fun _ _ _ h => h) (by rfl) (by intro x hx; obtain ⟨y0, y1, y2, y3⟩ := hx; go_simp; try (intro h; omega)) ?_
              try simp only [Act.put, List.setIfInBounds_toArray, List.set_cons_zero, List.set_cons_succ]
              refine anyH_one 14 (by kernel_rfl) ?_
              refine wpOp_step rfl (fun Kc hKc => ?_)
              go_simp
              refine (HSH.out _ D0.out).mono ?_
              rintro e1 z1 ⟨rfl, hb1⟩
              have D1 : Hid (Below w6.heap.size w6 z1) := D0.out.trans (hb1.mono D0.out.size)
              have SD1 := Lib.hid (HSD.out _ D1.out)
              clear hb1 SD0
              dsimp only
              refine hKc _ _ ⟨SD1.out, ?_⟩
              clear hKc Kc
              try simp only [Act.put, List.setIfInBounds_toArray, List.set_cons_zero, List.set_cons_succ]
              refine anyH_take 15 59 (.bool false) SD1.out rfl (by kernel_rfl) (by kernel_rfl) (by kernel_rfl) (fun _ _ _ h => h) (by rfl) (by intro x hx; obtain ⟨y0, y1, y2, y3⟩ := hx; go_simp; try (intro h; omega)) ?_
              try simp only [Act.put, List.setIfInBounds_toArray, List.set_cons_zero, List.set_cons_succ]
              refine anyH_take 16 60 (.bool false) SD1.out rfl (by kernel_rfl) (by kernel_rfl) (by kernel_rfl) (fun _ _ _ h => h) (by rfl) (by intro x hx; obtain ⟨y0, y1, y2, y3⟩ := hx; go_simp; try (intro h; omega)) ?_
              try simp only [Act.put, List.setIfInBounds_toArray, List.set_cons_zero, List.set_cons_succ]
              refine anyH_skip 17 61 SD1.out rfl (by kernel_rfl) (by kernel_rfl) (by kernel_rfl) (fun _ _ _ h => h) (by rfl) ?_
              try simp only [Act.put, List.setIfInBounds_toArray, List.set_cons_zero, List.set_cons_succ]
              refine anyH_skip 18 62 SD1.out rfl (by kernel_rfl) (by kernel_rfl) (by kernel_rfl) (fun _ _ _ h => h) (by rfl) ?_
              try simp only [Act.put, List.setIfInBounds_toArray, List.set_cons_zero, List.set_cons_succ]
              refine anyH_skip 19 63 SD1.out rfl (by kernel_rfl) (by kernel_rfl) (by kernel_rfl) (fun _ _ _ h => h) (by rfl) ?_
              try simp only [Act.put, List.setIfInBounds_toArray, List.set_cons_zero, List.set_cons_succ]
              refine anyH_skip 20 64 SD1.out rfl (by kernel_rfl) (by kernel_rfl) (by kernel_rfl) (fun _ _ _ h => h) (by rfl) ?_
              try simp only [Act.put, List.setIfInBounds_toArray, List.set_cons_zero, List.set_cons_succ]
              refine anyH_skip 21 65 SD1.out rfl (by kernel_rfl) (by kernel_rfl) (by kernel_rfl) (fun _ _ _ h => h) (by rfl) ?_
              try simp only [Act.put, List.setIfInBounds_toArray, List.set_cons_zero, List.set_cons_succ]
              refine anyH_skip 22 66 SD1.out rfl (by kernel_rfl) (by kernel_rfl) (by kernel_rfl) (fun _ _ _ h => h) (by rfl) ?_
              try simp only [Act.put, List.setIfInBounds_toArray, List.set_cons_zero, List.set_cons_succ]
              refine anyH_take 23 67 (.bool false) SD1.out rfl (by kernel_rfl) (by kernel_rfl) (by kernel_rfl) (fun _ _ _ h => h) (by rfl) (by intro x hx; obtain ⟨y0, y1, y2, y3⟩ := hx; go_simp; try (intro h; omega)) ?_
              try simp only [Act.put, List.setIfInBounds_toArray, List.set_cons_zero, List.set_cons_succ]
              refine wpAnyH_done (by kernel_rfl) ?_ _
              go_wp2
              exact ⟨FIN.out _ D1.out (fun q => by obtain ⟨_, rfl⟩ := q; simp at hh1), by simp [intOf]; omega⟩
            | true =>
              cases hp1 : decide (z.2.2.2 = X) with
              | false =>
                rw [hh1] at HSH
                rw [hp1] at HSP
                refine wp_region_any (by kernel_rfl) ?_
                change wpAny _ _ _ _ _ _ _ (World.drew _)
                have D0 : Hid (Below w6.heap.size w6 w9.drew) := D9.out.drew
                generalize w9.drew = z0 at *
                refine wpAny_of_held (S := fun y => y.cell? ⟨q, 0, none⟩ = some (.int .i64 z.1) ∧ y.cell? ⟨q, 1, none⟩ = some (.int .i64 z.2.1) ∧ y.cell? ⟨q, 2, none⟩ = some (.slice zh z.2.2.1.length zch) ∧ y.cell? ⟨q, 3, none⟩ = some (.slice zp z.2.2.2.length zcp)) _ _ _ _ ?_
                have SD0 := Lib.hid (HSD.out _ D0.out)
                refine anyH_take 0 44 (.pointer (some ⟨q, 0, none⟩)) SD0.out rfl (by kernel_rfl) (by kernel_rfl) (by kernel_rfl) (fun _ _ _ h => h) (by rfl) (by intro x hx; obtain ⟨y0, y1, y2, y3⟩ := hx; go_simp; try (intro h; omega)) ?_
                try simp only [Act.put, List.setIfInBounds_toArray, List.set_cons_zero, List.set_cons_succ]
                refine anyH_take 1 45 (.int .i64 z.1) SD0.out rfl (by kernel_rfl) (by kernel_rfl) (by kernel_rfl) (fun _ _ _ h => h) (by rfl) (by intro x hx; obtain ⟨y0, y1, y2, y3⟩ := hx; go_simp; try (intro h; omega)) ?_
                try simp only [Act.put, List.setIfInBounds_toArray, List.set_cons_zero, List.set_cons_succ]
                refine anyH_take 2 46 (.int .i64 e) SD0.out rfl (by kernel_rfl) (by kernel_rfl) (by kernel_rfl) (fun _ _ _ h => h) (by rfl) (by intro x hx; obtain ⟨y0, y1, y2, y3⟩ := hx; go_simp; try (intro h; omega)) ?_
                try simp only [Act.put, List.setIfInBounds_toArray, List.set_cons_zero, List.set_cons_succ]
                refine anyH_take 3 47 (.bool true) SD0.out rfl (by kernel_rfl) (by kernel_rfl) (by kernel_rfl) (fun _ _ _ h => h) (by rfl) (by intro x hx; obtain ⟨y0, y1, y2, y3⟩ := hx; go_simp; try (intro h; omega)) ?_
                try simp only [Act.put, List.setIfInBounds_toArray, List.set_cons_zero, List.set_cons_succ]
                refine anyH_take 4 48 (.bool true) SD0.out rfl (by kernel_rfl) (by kernel_rfl) (by kernel_rfl) (fun _ _ _ h => h) (by rfl) (by intro x hx; obtain ⟨y0, y1, y2, y3⟩ := hx; go_simp; try (intro h; omega)) ?_
                try simp only [Act.put, List.setIfInBounds_toArray, List.set_cons_zero, List.set_cons_succ]
                refine anyH_take 5 49 (.pointer (some ⟨q, 1, none⟩)) SD0.out rfl (by kernel_rfl) (by kernel_rfl) (by kernel_rfl) (fun _ _ _ h => h) (by rfl) (by intro x hx; obtain ⟨y0, y1, y2, y3⟩ := hx; go_simp; try (intro h; omega)) ?_
                try simp only [Act.put, List.setIfInBounds_toArray, List.set_cons_zero, List.set_cons_succ]
                refine anyH_take 6 50 (.int .i64 z.2.1) SD0.out rfl (by kernel_rfl) (by kernel_rfl) (by kernel_rfl) (fun _ _ _ h => h) (by rfl) (by intro x hx; obtain ⟨y0, y1, y2, y3⟩ := hx; go_simp; try (intro h; omega)) ?_
                try simp only [Act.put, List.setIfInBounds_toArray, List.set_cons_zero, List.set_cons_succ]
                refine anyH_take 7 51 (.int .i64 n) SD0.out rfl (by kernel_rfl) (by kernel_rfl) (by kernel_rfl) (fun _ _ _ h => h) (by rfl) (by intro x hx; obtain ⟨y0, y1, y2, y3⟩ := hx; go_simp; try (intro h; omega)) ?_
                try simp only [Act.put, List.setIfInBounds_toArray, List.set_cons_zero, List.set_cons_succ]
                refine anyH_take 8 52 (.bool true) SD0.out rfl (by kernel_rfl) (by kernel_rfl) (by kernel_rfl) (fun _ _ _ h => h) (by rfl) (by intro x hx; obtain ⟨y0, y1, y2, y3⟩ := hx; go_simp; try (intro h; omega)) ?_
                try simp only [Act.put, List.setIfInBounds_toArray, List.set_cons_zero, List.set_cons_succ]
                refine anyH_take 9 53 (.bool true) SD0.out rfl (by kernel_rfl) (by kernel_rfl) (by kernel_rfl) (fun _ _ _ h => h) (by rfl) (by intro x hx; obtain ⟨y0, y1, y2, y3⟩ := hx; go_simp; try (intro h; omega)) ?_
                try simp only [Act.put, List.setIfInBounds_toArray, List.set_cons_zero, List.set_cons_succ]
                refine anyH_take 10 54 (.bool true) SD0.out rfl (by kernel_rfl) (by kernel_rfl) (by kernel_rfl) (fun _ _ _ h => h) (by rfl) (by intro x hx; obtain ⟨y0, y1, y2, y3⟩ := hx; go_simp; try (intro h; omega)) ?_
                try simp only [Act.put, List.setIfInBounds_toArray, List.set_cons_zero, List.set_cons_succ]
                refine anyH_take 11 55 (.pointer (some ⟨q, 2, none⟩)) SD0.out rfl (by kernel_rfl) (by kernel_rfl) (by kernel_rfl) (fun _ _ _ h => h) (by rfl) (by intro x hx; obtain ⟨y0, y1, y2, y3⟩ := hx; go_simp; try (intro h; omega)) ?_
                try simp only [Act.put, List.setIfInBounds_toArray, List.set_cons_zero, List.set_cons_succ]
                refine anyH_take 12 56 (.slice zh z.2.2.1.length zch) SD0.out rfl (by kernel_rfl) (by kernel_rfl) (by kernel_rfl) (fun _ _ _ h => h) (by rfl) (by intro x hx; obtain ⟨y0, y1, y2, y3⟩ := hx; go_simp; try (intro h; omega)) ?_
                try simp only [Act.put, List.setIfInBounds_toArray, List.set_cons_zero, List.set_cons_succ]
                refine anyH_take 13 57 (.slice ph h.length ch) SD0.out rfl (by kernel_rfl) (by kernel_rfl) (by kernel_rfl) (fun _ _ _ h => h) (by rfl) (by intro x hx; obtain ⟨y0, y1, y2, y3⟩ := hx; go_simp; try (intro h; omega)) ?_
                try simp only [Act.put, List.setIfInBounds_toArray, List.set_cons_zero, List.set_cons_succ]
                refine anyH_one 14 (by kernel_rfl) ?_
                refine wpOp_step rfl (fun Kc hKc => ?_)
                go_simp
                refine (HSH.out _ D0.out).mono ?_
                rintro e1 z1 ⟨rfl, hb1⟩
                have D1 : Hid (Below w6.heap.size w6 z1) := D0.out.trans (hb1.mono D0.out.size)
                have SD1 := Lib.hid (HSD.out _ D1.out)
                clear hb1 SD0
                dsimp only
                refine hKc _ _ ⟨SD1.out, ?_⟩
                clear hKc Kc
                try simp only [Act.put, List.setIfInBounds_toArray, List.set_cons_zero, List.set_cons_succ]
                refine anyH_take 15 59 (.bool true) SD1.out rfl (by kernel_rfl) (by kernel_rfl) (by kernel_rfl) (fun _ _ _ h => h) (by rfl) (by intro x hx; obtain ⟨y0, y1, y2, y3⟩ := hx; go_simp; try (intro h; omega)) ?_
                try simp only [Act.put, List.setIfInBounds_toArray, List.set_cons_zero, List.set_cons_succ]
                refine anyH_take 16 60 (.bool true) SD1.out rfl (by kernel_rfl) (by kernel_rfl) (by kernel_rfl) (fun _ _ _ h => h) (by rfl) (by intro x hx; obtain ⟨y0, y1, y2, y3⟩ := hx; go_simp; try (intro h; omega)) ?_
                try simp only [Act.put, List.setIfInBounds_toArray, List.set_cons_zero, List.set_cons_succ]
                refine anyH_take 17 61 (.pointer (some ⟨q, 3, none⟩)) SD1.out rfl (by kernel_rfl) (by kernel_rfl) (by kernel_rfl) (fun _ _ _ h => h) (by rfl) (by intro x hx; obtain ⟨y0, y1, y2, y3⟩ := hx; go_simp; try (intro h; omega)) ?_
                try simp only [Act.put, List.setIfInBounds_toArray, List.set_cons_zero, List.set_cons_succ]
                refine anyH_take 18 62 (.slice zp z.2.2.2.length zcp) SD1.out rfl (by kernel_rfl) (by kernel_rfl) (by kernel_rfl) (fun _ _ _ h => h) (by rfl) (by intro x hx; obtain ⟨y0, y1, y2, y3⟩ := hx; go_simp; try (intro h; omega)) ?_
                try simp only [Act.put, List.setIfInBounds_toArray, List.set_cons_zero, List.set_cons_succ]
                refine anyH_take 19 63 (.slice (some ⟨ab, ao, none⟩) (k + 32) cs) SD1.out rfl (by kernel_rfl) (by kernel_rfl) (by kernel_rfl) (fun _ _ _ h => h) (by rfl) (by intro x hx; obtain ⟨y0, y1, y2, y3⟩ := hx; go_simp; try (intro h; omega)) ?_
                try simp only [Act.put, List.setIfInBounds_toArray, List.set_cons_zero, List.set_cons_succ]
                refine anyH_take 20 64 (.int .i64 (k : Int)) SD1.out rfl (by kernel_rfl) (by kernel_rfl) (by kernel_rfl) (fun _ _ _ h => h) (by rfl) (by intro x hx; obtain ⟨y0, y1, y2, y3⟩ := hx; go_simp; try (intro h; omega)) ?_
                try simp only [Act.put, List.setIfInBounds_toArray, List.set_cons_zero, List.set_cons_succ]
                refine anyH_take 21 65 (.slice (some ⟨ab, ao, none⟩) k cs) SD1.out rfl (by kernel_rfl) (by kernel_rfl) (by kernel_rfl) (fun _ _ _ h => h) (by rfl) (by intro x hx; obtain ⟨y0, y1, y2, y3⟩ := hx; go_simp; try (intro h; omega)) ?_
                try simp only [Act.put, List.setIfInBounds_toArray, List.set_cons_zero, List.set_cons_succ]
                refine anyH_one 22 (by kernel_rfl) ?_
                refine wpOp_step rfl (fun Kc hKc => ?_)
                go_simp
                refine (HSP.out _ D1.out).mono ?_
                rintro e2 z2 ⟨rfl, hb2⟩
                have D2 : Hid (Below w6.heap.size w6 z2) := D1.out.trans (hb2.mono D1.out.size)
                have SD2 := Lib.hid (HSD.out _ D2.out)
                clear hb2 SD1
                dsimp only
                refine hKc _ _ ⟨SD2.out, ?_⟩
                clear hKc Kc
                try simp only [Act.put, List.setIfInBounds_toArray, List.set_cons_zero, List.set_cons_succ]
                refine anyH_take 23 67 (.bool false) SD2.out rfl (by kernel_rfl) (by kernel_rfl) (by kernel_rfl) (fun _ _ _ h => h) (by rfl) (by intro x hx; obtain ⟨y0, y1, y2, y3⟩ := hx; go_simp; try (intro h; omega)) ?_
                try simp only [Act.put, List.setIfInBounds_toArray, List.set_cons_zero, List.set_cons_succ]
                refine wpAnyH_done (by kernel_rfl) ?_ _
                go_wp2
                exact ⟨FIN.out _ D2.out (fun q => by obtain ⟨_, rfl⟩ := q; simp at hp1), by simp [intOf]; omega⟩
              | true =>
                rw [hh1] at HSH
                rw [hp1] at HSP
                refine wp_region_any (by kernel_rfl) ?_
                change wpAny _ _ _ _ _ _ _ (World.drew _)
                have D0 : Hid (Below w6.heap.size w6 w9.drew) := D9.out.drew
                generalize w9.drew = z0 at *
                refine wpAny_of_held (S := fun y => y.cell? ⟨q, 0, none⟩ = some (.int .i64 z.1) ∧ y.cell? ⟨q, 1, none⟩ = some (.int .i64 z.2.1) ∧ y.cell? ⟨q, 2, none⟩ = some (.slice zh z.2.2.1.length zch) ∧ y.cell? ⟨q, 3, none⟩ = some (.slice zp z.2.2.2.length zcp)) _ _ _ _ ?_
                have SD0 := Lib.hid (HSD.out _ D0.out)
                refine anyH_take 0 44 (.pointer (some ⟨q, 0, none⟩)) SD0.out rfl (by kernel_rfl) (by kernel_rfl) (by kernel_rfl) (fun _ _ _ h => h) (by rfl) (by intro x hx; obtain ⟨y0, y1, y2, y3⟩ := hx; go_simp; try (intro h; omega)) ?_
                try simp only [Act.put, List.setIfInBounds_toArray, List.set_cons_zero, List.set_cons_succ]
                refine anyH_take 1 45 (.int .i64 z.1) SD0.out rfl (by kernel_rfl) (by kernel_rfl) (by kernel_rfl) (fun _ _ _ h => h) (by rfl) (by intro x hx; obtain ⟨y0, y1, y2, y3⟩ := hx; go_simp; try (intro h; omega)) ?_
                try simp only [Act.put, List.setIfInBounds_toArray, List.set_cons_zero, List.set_cons_succ]
                refine anyH_take 2 46 (.int .i64 e) SD0.out rfl (by kernel_rfl) (by kernel_rfl) (by kernel_rfl) (fun _ _ _ h => h) (by rfl) (by intro x hx; obtain ⟨y0, y1, y2, y3⟩ := hx; go_simp; try (intro h; omega)) ?_
                try simp only [Act.put, List.setIfInBounds_toArray, List.set_cons_zero, List.set_cons_succ]
                refine anyH_take 3 47 (.bool true) SD0.out rfl (by kernel_rfl) (by kernel_rfl) (by kernel_rfl) (fun _ _ _ h => h) (by rfl) (by intro x hx; obtain ⟨y0, y1, y2, y3⟩ := hx; go_simp; try (intro h; omega)) ?_
                try simp only [Act.put, List.setIfInBounds_toArray, List.set_cons_zero, List.set_cons_succ]
                refine anyH_take 4 48 (.bool true) SD0.out rfl (by kernel_rfl) (by kernel_rfl) (by kernel_rfl) (fun _ _ _ h => h) (by rfl) (by intro x hx; obtain ⟨y0, y1, y2, y3⟩ := hx; go_simp; try (intro h; omega)) ?_
                try simp only [Act.put, List.setIfInBounds_toArray, List.set_cons_zero, List.set_cons_succ]
                refine anyH_take 5 49 (.pointer (some ⟨q, 1, none⟩)) SD0.out rfl (by kernel_rfl) (by kernel_rfl) (by kernel_rfl) (fun _ _ _ h => h) (by rfl) (by intro x hx; obtain ⟨y0, y1, y2, y3⟩ := hx; go_simp; try (intro h; omega)) ?_
                try simp only [Act.put, List.setIfInBounds_toArray, List.set_cons_zero, List.set_cons_succ]
                refine anyH_take 6 50 (.int .i64 z.2.1) SD0.out rfl (by kernel_rfl) (by kernel_rfl) (by kernel_rfl) (fun _ _ _ h => h) (by rfl) (by intro x hx; obtain ⟨y0, y1, y2, y3⟩ := hx; go_simp; try (intro h; omega)) ?_
                try simp only [Act.put, List.setIfInBounds_toArray, List.set_cons_zero, List.set_cons_succ]
                refine anyH_take 7 51 (.int .i64 n) SD0.out rfl (by kernel_rfl) (by kernel_rfl) (by kernel_rfl) (fun _ _ _ h => h) (by rfl) (by intro x hx; obtain ⟨y0, y1, y2, y3⟩ := hx; go_simp; try (intro h; omega)) ?_
                try simp only [Act.put, List.setIfInBounds_toArray, List.set_cons_zero, List.set_cons_succ]
                refine anyH_take 8 52 (.bool true) SD0.out rfl (by kernel_rfl) (by kernel_rfl) (by kernel_rfl) (fun _ _ _ h => h) (by rfl) (by intro x hx; obtain ⟨y0, y1, y2, y3⟩ := hx; go_simp; try (intro h; omega)) ?_
                try simp only [Act.put, List.setIfInBounds_toArray, List.set_cons_zero, List.set_cons_succ]
                refine anyH_take 9 53 (.bool true) SD0.out rfl (by kernel_rfl) (by kernel_rfl) (by kernel_rfl) (fun _ _ _ h => h) (by rfl) (by intro x hx; obtain ⟨y0, y1, y2, y3⟩ := hx; go_simp; try (intro h; omega)) ?_
                try simp only [Act.put, List.setIfInBounds_toArray, List.set_cons_zero, List.set_cons_succ]
                refine anyH_take 10 54 (.bool true) SD0.out rfl (by kernel_rfl) (by kernel_rfl) (by kernel_rfl) (fun _ _ _ h => h) (by rfl) (by intro x hx; obtain ⟨y0, y1, y2, y3⟩ := hx; go_simp; try (intro h; omega)) ?_
                try simp only [Act.put, List.setIfInBounds_toArray, List.set_cons_zero, List.set_cons_succ]
                refine anyH_take 11 55 (.pointer (some ⟨q, 2, none⟩)) SD0.out rfl (by kernel_rfl) (by kernel_rfl) (by kernel_rfl) (fun _ _ _ h => h) (by rfl) (by intro x hx; obtain ⟨y0, y1, y2, y3⟩ := hx; go_simp; try (intro h; omega)) ?_
                try simp only [Act.put, List.setIfInBounds_toArray, List.set_cons_zero, List.set_cons_succ]
                refine anyH_take 12 56 (.slice zh z.2.2.1.length zch) SD0.out rfl (by kernel_rfl) (by kernel_rfl) (by kernel_rfl) (fun _ _ _ h => h) (by rfl) (by intro x hx; obtain ⟨y0, y1, y2, y3⟩ := hx; go_simp; try (intro h; omega)) ?_
                try simp only [Act.put, List.setIfInBounds_toArray, List.set_cons_zero, List.set_cons_succ]
                refine anyH_take 13 57 (.slice ph h.length ch) SD0.out rfl (by kernel_rfl) (by kernel_rfl) (by kernel_rfl) (fun _ _ _ h => h) (by rfl) (by intro x hx; obtain ⟨y0, y1, y2, y3⟩ := hx; go_simp; try (intro h; omega)) ?_
                try simp only [Act.put, List.setIfInBounds_toArray, List.set_cons_zero, List.set_cons_succ]
                refine anyH_one 14 (by kernel_rfl) ?_
                refine wpOp_step rfl (fun Kc hKc => ?_)
                go_simp
                refine (HSH.out _ D0.out).mono ?_
                rintro e1 z1 ⟨rfl, hb1⟩
                have D1 : Hid (Below w6.heap.size w6 z1) := D0.out.trans (hb1.mono D0.out.size)
                have SD1 := Lib.hid (HSD.out _ D1.out)
                clear hb1 SD0
                dsimp only
                refine hKc _ _ ⟨SD1.out, ?_⟩
                clear hKc Kc
                try simp only [Act.put, List.setIfInBounds_toArray, List.set_cons_zero, List.set_cons_succ]
                refine anyH_take 15 59 (.bool true) SD1.out rfl (by kernel_rfl) (by kernel_rfl) (by kernel_rfl) (fun _ _ _ h => h) (by rfl) (by intro x hx; obtain ⟨y0, y1, y2, y3⟩ := hx; go_simp; try (intro h; omega)) ?_
                try simp only [Act.put, List.setIfInBounds_toArray, List.set_cons_zero, List.set_cons_succ]
                refine anyH_take 16 60 (.bool true) SD1.out rfl (by kernel_rfl) (by kernel_rfl) (by kernel_rfl) (fun _ _ _ h => h) (by rfl) (by intro x hx; obtain ⟨y0, y1, y2, y3⟩ := hx; go_simp; try (intro h; omega)) ?_
                try simp only [Act.put, List.setIfInBounds_toArray, List.set_cons_zero, List.set_cons_succ]
                refine anyH_take 17 61 (.pointer (some ⟨q, 3, none⟩)) SD1.out rfl (by kernel_rfl) (by kernel_rfl) (by kernel_rfl) (fun _ _ _ h => h) (by rfl) (by intro x hx; obtain ⟨y0, y1, y2, y3⟩ := hx; go_simp; try (intro h; omega)) ?_
                try simp only [Act.put, List.setIfInBounds_toArray, List.set_cons_zero, List.set_cons_succ]
                refine anyH_take 18 62 (.slice zp z.2.2.2.length zcp) SD1.out rfl (by kernel_rfl) (by kernel_rfl) (by kernel_rfl) (fun _ _ _ h => h) (by rfl) (by intro x hx; obtain ⟨y0, y1, y2, y3⟩ := hx; go_simp; try (intro h; omega)) ?_
                try simp only [Act.put, List.setIfInBounds_toArray, List.set_cons_zero, List.set_cons_succ]
                refine anyH_take 19 63 (.slice (some ⟨ab, ao, none⟩) (k + 32) cs) SD1.out rfl (by kernel_rfl) (by kernel_rfl) (by kernel_rfl) (fun _ _ _ h => h) (by rfl) (by intro x hx; obtain ⟨y0, y1, y2, y3⟩ := hx; go_simp; try (intro h; omega)) ?_
                try simp only [Act.put, List.setIfInBounds_toArray, List.set_cons_zero, List.set_cons_succ]
                refine anyH_take 20 64 (.int .i64 (k : Int)) SD1.out rfl (by kernel_rfl) (by kernel_rfl) (by kernel_rfl) (fun _ _ _ h => h) (by rfl) (by intro x hx; obtain ⟨y0, y1, y2, y3⟩ := hx; go_simp; try (intro h; omega)) ?_
                try simp only [Act.put, List.setIfInBounds_toArray, List.set_cons_zero, List.set_cons_succ]
                refine anyH_take 21 65 (.slice (some ⟨ab, ao, none⟩) k cs) SD1.out rfl (by kernel_rfl) (by kernel_rfl) (by kernel_rfl) (fun _ _ _ h => h) (by rfl) (by intro x hx; obtain ⟨y0, y1, y2, y3⟩ := hx; go_simp; try (intro h; omega)) ?_
                try simp only [Act.put, List.setIfInBounds_toArray, List.set_cons_zero, List.set_cons_succ]
                refine anyH_one 22 (by kernel_rfl) ?_
                refine wpOp_step rfl (fun Kc hKc => ?_)
                go_simp
                refine (HSP.out _ D1.out).mono ?_
                rintro e2 z2 ⟨rfl, hb2⟩
                have D2 : Hid (Below w6.heap.size w6 z2) := D1.out.trans (hb2.mono D1.out.size)
                have SD2 := Lib.hid (HSD.out _ D2.out)
                clear hb2 SD1
                dsimp only
                refine hKc _ _ ⟨SD2.out, ?_⟩
                clear hKc Kc
                try simp only [Act.put, List.setIfInBounds_toArray, List.set_cons_zero, List.set_cons_succ]
                refine anyH_take 23 67 (.bool true) SD2.out rfl (by kernel_rfl) (by kernel_rfl) (by kernel_rfl) (fun _ _ _ h => h) (by rfl) (by intro x hx; obtain ⟨y0, y1, y2, y3⟩ := hx; go_simp; try (intro h; omega)) ?_
                try simp only [Act.put, List.setIfInBounds_toArray, List.set_cons_zero, List.set_cons_succ]
                refine wpAnyH_done (by kernel_rfl) ?_ _
                have hzx : z = (e, n, h, X) := by
                  obtain ⟨z1, z2, z3, z4⟩ := z
                  simp only [beq_iff_eq, decide_eq_true_eq] at he1 hn1 hh1 hp1
                  rw [he1, hn1, hh1, hp1]
                have HZX : Hid (z.2.2.2 = X) := Lib.hid (by simpa using hp1)
                have HOX := Lib.hid (HFO.out HGQ.out hzx)
                have s3' := (HSD.out _ D2.out).2.2.2
                clear hzx he1 hn1 hh1 hp1
                go_wp2_with (go_at_call 30; refine (copybytes_any z.2.2.2 zp _ zcp rfl (by rw [HZX.out, HXL.out]; have := HSZ.out; omega) _ (HSB.out _ D2.out)).mono ?_; rintro ea wa ⟨va, rfl, hoa, hba⟩; have BA : Hid (Below w.heap.size w wa) := (HDD.out _ D2.out).trans (hba.mono (HDD.out _ D2.out).size); have HOA := Lib.hid (own_base hoa (HDD.out _ D2.out).size); clear hba hoa)
                go_ret2
                obtain ⟨pa, ca, rfl, hqa, _⟩ := own_bs HOA.out HZB.out.2
                rw [HOX.out]
                have ho := HOA.out
                rw [HZX.out] at ho hqa ⊢
                exact ⟨pa, ca, _, rfl, rfl, Lib.hid ho, Lib.hid hqa, BA.out⟩
    · obtain rfl : i = N := by omega
      clear hlt
      have hi2 : ¬ ((i : Int) + 1 ≤ (i : Int)) := by omega
      have HON : Hid (O = none) := by
        show _ = _
        rw [HOP.out, if_neg]
        rintro ⟨h1, h2⟩
        obtain ⟨j, hj⟩ : ∃ j, Nm.place (e, n, h, X) S.ss = j + 1 := ⟨Nm.place (e, n, h, X) S.ss - 1, by omega⟩
        have h3 := Nm.place_get hj
        rw [hj] at h2
        exact HNO.out j (by rw [← HN.out]; exact (List.getElem?_eq_some_iff.1 h3).1) ⟨by rw [h2]; congr 1, h3⟩
      go_wp2
      go_ret2
      rw [HON.out]
      exact ⟨none, 0, 0, rfl, rfl, Lib.hid (by unfold U8s; exact World.ownsRow_nil _ _ _ _), Lib.hid (bs_none _), HB.out⟩
/-- The reference's Open. -/
theorem refopen_any (S : Nm.St) (e n : Int) (h s : List Int) (B gr : Nat) (v1 v2 : Value) (ph ps : Option Addr) (nh ns ch cs : Nat) (hnh : h.length = nh) (hns : s.length = ns) (hsz : nh ≤ 100000 ∧ ns ≤ 100000 ∧ S.ss.length ≤ 1000)
    (w : World) (hr : RefAt w B gr v1 v2 S) (hh : Bs w ph ch h) (hS : Bs w ps cs s) :
    Calls Try.prog 21 #[.pointer (some ⟨gr, 0, none⟩), .int .i64 e, .int .i64 n, .slice ph nh ch, .slice ps ns cs] w (OpSay (Nm.opn S e n h s) w) := by
  by_cases hl : ns < 32
  · exact refopen_short S e n h s gr _ ps ns cs hns hl w
  · subst hnh
    obtain ⟨k, rfl⟩ : ∃ k, ns = k + 32 := ⟨ns - 32, by omega⟩
    obtain ⟨ab, ao, rfl, _⟩ := hS.bat.2 (by omega)
    exact refopen_long S e n h s B gr v1 v2 ph ab ao ch cs k hns ⟨hsz.1, by have := hsz.2.1; omega, hsz.2.2⟩ w hr hh hS
end Go.Proofs.Ytdmnlooghamngaa

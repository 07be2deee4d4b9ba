/-
  Contracts: rows that are read; Victim; the reference's Victim.
-/
import Derived.Test.YthgjfjmampmiiaaVcC
namespace Go.Proofs.Ythgjfjmampmiiaa
open Go.RowKit

/-- Rows in memory, of whatever slice. -/
def SgS (y : World) (p : Option Addr) (L : List Us.S) : Prop := 0 < L.length → ∃ ab ao, p = some ⟨ab, ao, none⟩ ∧ ∀ i, i < L.length → y.rangeAt ab (ao + i * 3) (SgA (Us.at_ L i)).toList
theorem SgS.old {w y : World} {p : Option Addr} {L : List Us.S} (h : SgS w p L) (hb : Below w.heap.size w y) : SgS y p L := fun h0 => by
  obtain ⟨ab, ao, h1, h2⟩ := h h0
  exact ⟨ab, ao, h1, fun i hi => rng_old (h2 i hi) hb⟩
theorem SgO.reads {B n c : Nat} {y : World} {p : Option Addr} {L : List Us.S} (h : SgO B y (.slice p n c) L) : SgS y p L := fun h0 => by
  obtain ⟨g, c', hv⟩ := h.isb 0 h0
  injection hv with h1 h2 h3
  subst h1
  exact ⟨g, 0, rfl, fun i hi => by rw [Nat.zero_add]; exact h.rng i hi⟩
theorem sg_cells {y : World} {g : Nat} {x : Us.S} (h : y.heap[g]? = some (.cells (SgA x) 36 (0, 0))) : y.cell? ⟨g, 0, none⟩ = some (.int .i64 x.s) ∧ y.cell? ⟨g, 1, none⟩ = some (.int .i64 x.l) ∧ y.cell? ⟨g, 2, none⟩ = some (.int .i64 x.a) := by
  refine ⟨?_, ?_, ?_⟩ <;> rw [cell_of_row y g _ _ _ _ h] <;> rfl
theorem rng_cells {y : World} {g o : Nat} {x : Us.S} (h : y.rangeAt g o (SgA x).toList) : y.cell? ⟨g, o, none⟩ = some (.int .i64 x.s) ∧ y.cell? ⟨g, o + 1, none⟩ = some (.int .i64 x.l) ∧ y.cell? ⟨g, o + 2, none⟩ = some (.int .i64 x.a) :=
  ⟨h 0 _ rfl, h 1 _ rfl, h 2 _ rfl⟩
def ViSay (st : Option (Nat × Int)) (w : World) (e : Ending) (w' : World) : Prop := e = .returned (.tuple #[.int .i64 (Vc.pl st), .bool st.isSome]) ∧ Hid (Below w.heap.size w w')
theorem Vc.vicn_yes {s lean now : Int} {T : List Us.S} {m : Nat} (h : Vc.may lean (Us.at_ T m)) : Vc.vicn s lean now T (m + 1) = Vc.offer m (Vc.worth s now (Us.at_ T m)) (Vc.vicn s lean now T m) := by rw [Vc.vicn, if_pos h]
theorem Vc.vicn_no {s lean now : Int} {T : List Us.S} {m : Nat} (h : ¬ Vc.may lean (Us.at_ T m)) : Vc.vicn s lean now T (m + 1) = Vc.vicn s lean now T m := by rw [Vc.vicn, if_neg h]
set_option maxHeartbeats 4000000 in
set_option maxRecDepth 100000 in
theorem victim_any (L : List Us.S) (p : Option Addr) (n c : Nat) (hn : L.length = n) (hl : n ≤ 10000) (s lean now : Int) (hnow : In64 now) (hin : ∀ i, i < n → In64 (Us.at_ L i).a) (w : World) (h : SgS w p L) :
    Calls Try.prog 12 #[.slice p n c, .int .i64 s, .int .i64 lean, .int .i64 now] w (ViSay (Vc.vic s lean now L) w) := by
  have HT : Hid (∀ y, Below w.heap.size w y → SgS y p L) := fun y hy => h.old hy
  have HB1 := Lib.hid (best_any w)
  have HIN := Lib.hid hin
  have HNOW := Lib.hid hnow
  have HN := Lib.hid hn
  have HW : Hid (∀ v l m y, Calls Try.prog 15 #[.int .i64 v, .int .i64 l, .int .i64 m] y fun e w' => e = .returned (.bool (decide (l ≤ v ∧ v ≤ m))) ∧ w' = y) := within_any
  have HKE : Hid (∀ B gp gm gs y st, KpAt B y gp gm gs st → Calls Try.prog 21 #[.pointer (some ⟨gp, 0, none⟩), .pointer (some ⟨gs, 0, none⟩)] y fun e w' => e = .returned (.tuple #[.int .i64 (Vc.pl st), .bool st.isSome]) ∧ Hid (Below y.heap.size y w')) := fun B gp gm gs y st h => kept_any h
  unfold Vc.vic
  rw [hn]
  clear h hin hn hnow
  go_enter Try.func12, Try.ntmps12
  go_wp2_with (first
    | (go_at_call 16; refine HB1.out.mono ?_; rintro e1 w1 ⟨gp, gm, gs, rfl, K1, B1⟩))
  go_loopw [12, 13, 20] (fun _ _ v20 wr => ∃ i : Nat, i ≤ n ∧ v20 = .int .i64 i ∧ Hid (KpAt w.heap.size wr gp gm gs (Vc.vicn s lean now L i)) ∧ Hid (Below w.heap.size w wr)) (fun _ _ v20 _ => n - (intOf v20).toNat)
  case atStart => exact ⟨0, Nat.zero_le _, rfl, K1, B1⟩
  case round =>
    obtain ⟨i, hi, rfl, HK, HB⟩ := hrel
    by_cases hlt : i < n
    · obtain ⟨ab, ao, hp, hr⟩ := (HT.out _ HB.out) (by rw [HN.out]; omega)
      subst hp
      have HR : Hid (wr.rangeAt ab (ao + i * 3) (SgA (Us.at_ L i)).toList) := hr i (by rw [HN.out]; exact hlt)
      clear hr
      have hi0 : 0 ≤ (i : Int) := by omega
      have hi1 : (i : Int) < (n : Int) := by omega
      have HIX := Lib.hid (HIN.out i hlt)
      have HYES : Hid (Vc.may lean (Us.at_ L i) → Vc.vicn s lean now L (i + 1) = Vc.offer i (Vc.worth s now (Us.at_ L i)) (Vc.vicn s lean now L i)) := Vc.vicn_yes
      have HNO : Hid (¬ Vc.may lean (Us.at_ L i) → Vc.vicn s lean now L (i + 1) = Vc.vicn s lean now L i) := Vc.vicn_no
      obtain ⟨nx, hnx⟩ : ∃ nx, Vc.vicn s lean now L (i + 1) = nx := ⟨_, rfl⟩
      rw [hnx] at HYES HNO
      have HNX := Lib.hid hnx
      clear hnx
      obtain ⟨st, hst⟩ : ∃ st, Vc.vicn s lean now L i = st := ⟨_, rfl⟩
      rw [hst] at HYES HNO HK
      clear hst
      generalize Us.at_ L i = x at *
      have HA : Hid (∀ y, Calls Try.prog 17 #[.int .i64 x.a, .int .i64 now] y fun e w' => e = .returned (.int .i64 (Vc.age now x.a)) ∧ w' = y) := fun y => age_any now x.a HNOW.out HIX.out y
      have HO : Hid (∀ y, Calls Try.prog 8 #[.int .i64 s, .int .i64 x.l, .int .i64 (Vc.age now x.a)] y fun e w' => e = .returned (.int .i64 (Vc.worth s now x)) ∧ w' = y) := fun y => of_any s x.l (Vc.age now x.a) y
      have HKO : Hid (∀ y, KpAt w.heap.size y gp gm gs st → Calls Try.prog 20 #[.int .i64 (i : Int), .int .i64 (Vc.worth s now x), .pointer (some ⟨gs, 0, none⟩), .pointer (some ⟨gm, 0, none⟩), .pointer (some ⟨gp, 0, none⟩)] y (OfSay w.heap.size gp gm gs (Vc.offer i (Vc.worth s now x) st) y)) := fun y hy => offer_any i (Vc.worth s now x) hy
      have HW1 := Lib.hid (HW.out x.l 0 lean)
      have HLT : Hid (gp < wr.heap.size ∧ gm < wr.heap.size ∧ gs < wr.heap.size) := ⟨lt_of_block HK.out.p, lt_of_block HK.out.m, lt_of_block HK.out.s⟩
      generalize Vc.worth s now x = wo at *
      generalize Vc.age now x.a = ag at *
      by_cases h1 : x.s = 2
      · by_cases h2 : 0 ≤ x.l ∧ x.l ≤ lean
        · rw [decide_eq_true h2] at HW1
          have e := HYES.out ⟨h1, h2⟩
          subst e
          clear HYES HNO h2
          go_upto_region 6 with (first
              | ((with_reducible refine rng_load _ _ _ _ _ _ ?_ HR.out Try.underlying36 ?_ (sg_info x) ?_); (exact rfl); (exact rfl))
              | ((with_reducible refine row_store _ _ _ _ _ _ _ ?_ ?_ (heap_alloc_new _ _) (sg_info x) ?_ (sga_one x) ?_); (exact rfl); (exact rfl); (exact rfl); intro w2 G2 ch2; have B2 := Lib.hid (ch2.below ((HB.out).alloc HB.out.size _) HB.out.size); have B02 := Lib.hid (ch2.below ((Below.refl _ wr).alloc (Nat.le_refl _) _) (Nat.le_refl _)); obtain ⟨x0, x1, x2⟩ := sg_cells G2.out)
              | (go_at_call 15; with_reducible refine (HW1.out _).mono ?_; rintro e3 w3 ⟨rfl, rfl⟩))
          refine wp_region_any (by kernel_rfl) ?_
          change wpAny _ _ _ _ _ _ _ (World.drew _)
          have G7 : Hid (w3.drew.heap[wr.heap.size]? = some (.cells (SgA x) 36 (0, 0))) := G2.out
          have K7 : Hid (KpAt w.heap.size w3.drew gp gm gs st) := HK.out.old B02.out.drew
          have B7 : Hid (Below w.heap.size w w3.drew) := B2.out.drew
          obtain ⟨z, hz⟩ : ∃ y, y = w3.drew := ⟨_, rfl⟩
          rw [← hz] at G7 K7 B7 ⊢
          clear hz
          refine wpAny_of_held (S := fun y => y.heap[wr.heap.size]? = some (.cells (SgA x) 36 (0, 0))) _ _ _ _ ?_
          have SD := G7.out
          refine anyH_take 0 34 (.func (.func 20) #[] #[.pointer (some ⟨gs, 0, none⟩), .pointer (some ⟨gm, 0, none⟩), .pointer (some ⟨gp, 0, none⟩)]) SD rfl (by kernel_rfl) (by kernel_rfl) (by kernel_rfl) (fun _ _ _ h => h) (by rfl) (by intro y hy; go_simp) ?_
          try simp only [Act.put, List.setIfInBounds_toArray, List.set_cons_zero, List.set_cons_succ]
          refine anyH_take 1 35 (.int .i64 (i : Int)) SD rfl (by kernel_rfl) (by kernel_rfl) (by kernel_rfl) (fun _ _ _ h => h) (by rfl) (by intro y hy; go_simp) ?_
          try simp only [Act.put, List.setIfInBounds_toArray, List.set_cons_zero, List.set_cons_succ]
          refine anyH_take 2 36 (.int .i64 s) SD rfl (by kernel_rfl) (by kernel_rfl) (by kernel_rfl) (fun _ _ _ h => h) (by rfl) (by intro y hy; go_simp) ?_
          try simp only [Act.put, List.setIfInBounds_toArray, List.set_cons_zero, List.set_cons_succ]
          refine anyH_take 3 37 (.pointer (some ⟨wr.heap.size, 1, none⟩)) SD rfl (by kernel_rfl) (by kernel_rfl) (by kernel_rfl) (fun _ _ _ h => h) (by rfl) (by intro y hy; go_simp) ?_
          try simp only [Act.put, List.setIfInBounds_toArray, List.set_cons_zero, List.set_cons_succ]
          refine anyH_take 4 38 (.int .i64 x.l) SD rfl (by kernel_rfl) (by kernel_rfl) (by kernel_rfl) (fun _ _ _ h => h) (by rfl) (by intro y hy; obtain ⟨y0, y1, y2⟩ := sg_cells hy; go_simp) ?_
          try simp only [Act.put, List.setIfInBounds_toArray, List.set_cons_zero, List.set_cons_succ]
          refine anyH_take 5 39 (.pointer (some ⟨wr.heap.size, 2, none⟩)) SD rfl (by kernel_rfl) (by kernel_rfl) (by kernel_rfl) (fun _ _ _ h => h) (by rfl) (by intro y hy; go_simp) ?_
          try simp only [Act.put, List.setIfInBounds_toArray, List.set_cons_zero, List.set_cons_succ]
          refine anyH_take 6 40 (.int .i64 x.a) SD rfl (by kernel_rfl) (by kernel_rfl) (by kernel_rfl) (fun _ _ _ h => h) (by rfl) (by intro y hy; obtain ⟨y0, y1, y2⟩ := sg_cells hy; go_simp) ?_
          try simp only [Act.put, List.setIfInBounds_toArray, List.set_cons_zero, List.set_cons_succ]
          refine anyH_take 7 41 (.int .i64 now) SD rfl (by kernel_rfl) (by kernel_rfl) (by kernel_rfl) (fun _ _ _ h => h) (by rfl) (by intro y hy; go_simp) ?_
          try simp only [Act.put, List.setIfInBounds_toArray, List.set_cons_zero, List.set_cons_succ]
          refine anyH_one 8 (by kernel_rfl) ?_
          refine wpOp_step rfl (fun Kc hKc => ?_)
          go_simp
          refine (HA.out _).mono ?_
          rintro e8 w8 ⟨rfl, rfl⟩

          dsimp only
          refine hKc _ _ ⟨SD, ?_⟩
          clear hKc Kc
          try simp only [Act.put, List.setIfInBounds_toArray, List.set_cons_zero, List.set_cons_succ]
          refine anyH_one 9 (by kernel_rfl) ?_
          refine wpOp_step rfl (fun Kc hKc => ?_)
          go_simp
          refine (HO.out _).mono ?_
          rintro e9 w9 ⟨rfl, rfl⟩

          dsimp only
          refine hKc _ _ ⟨SD, ?_⟩
          clear hKc Kc
          try simp only [Act.put, List.setIfInBounds_toArray, List.set_cons_zero, List.set_cons_succ]
          refine anyH_one 10 (by kernel_rfl) ?_
          refine wpOp_step rfl (fun Kc hKc => ?_)
          go_simp
          refine (HKO.out _ K7.out).mono ?_
          rintro e10 w10 ⟨rfl, K10, T10, U10⟩
          have BB := Lib.hid (T10.out w.heap.size w (Nat.le_refl _) B7.out B7.out.size)
          dsimp only
          refine hKc _ _ ⟨(U10.out _ (by have := HLT.out; omega) (by have := HLT.out; omega) (by have := HLT.out; omega)).trans SD, ?_⟩
          clear hKc Kc
          try simp only [Act.put, List.setIfInBounds_toArray, List.set_cons_zero, List.set_cons_succ]
          refine wpAnyH_done (by kernel_rfl) ?_ _
          go_wp2
          exact ⟨⟨i + 1, by omega, by go_num, by rw [HNX.out]; exact K10, BB⟩, by simp [intOf]; omega⟩
        · rw [decide_eq_false h2] at HW1
          have e := HNO.out (fun h => h2 h.2)
          subst e
          clear HYES HNO h2 HA HO HKO
          go_wp2_with (first
              | ((with_reducible refine rng_load _ _ _ _ _ _ ?_ HR.out Try.underlying36 ?_ (sg_info x) ?_); (exact rfl); (exact rfl))
              | ((with_reducible refine row_store _ _ _ _ _ _ _ ?_ ?_ (heap_alloc_new _ _) (sg_info x) ?_ (sga_one x) ?_); (exact rfl); (exact rfl); (exact rfl); intro w2 G2 ch2; have B2 := Lib.hid (ch2.below ((HB.out).alloc HB.out.size _) HB.out.size); have B02 := Lib.hid (ch2.below ((Below.refl _ wr).alloc (Nat.le_refl _) _) (Nat.le_refl _)); obtain ⟨x0, x1, x2⟩ := sg_cells G2.out)
              | (go_at_call 15; with_reducible refine (HW1.out _).mono ?_; rintro e3 w3 ⟨rfl, rfl⟩))
          exact ⟨⟨i + 1, by omega, by go_num, by rw [HNX.out]; exact Lib.hid (HK.out.old B02.out), B2⟩, by simp [intOf]; omega⟩
      · have e := HNO.out (fun h => h1 h.1)
        subst e
        clear HYES HNO HA HO HKO HW1
        go_wp2_with (first
            | ((with_reducible refine rng_load _ _ _ _ _ _ ?_ HR.out Try.underlying36 ?_ (sg_info x) ?_); (exact rfl); (exact rfl))
            | ((with_reducible refine row_store _ _ _ _ _ _ _ ?_ ?_ (heap_alloc_new _ _) (sg_info x) ?_ (sga_one x) ?_); (exact rfl); (exact rfl); (exact rfl); intro w2 G2 ch2; have B2 := Lib.hid (ch2.below ((HB.out).alloc HB.out.size _) HB.out.size); have B02 := Lib.hid (ch2.below ((Below.refl _ wr).alloc (Nat.le_refl _) _) (Nat.le_refl _)); obtain ⟨x0, x1, x2⟩ := sg_cells G2.out))
        exact ⟨⟨i + 1, by omega, by go_num, by rw [HNX.out]; exact Lib.hid (HK.out.old B02.out), B2⟩, by simp [intOf]; omega⟩
    · have E : i = n := by omega
      subst E
      clear hlt
      go_wp2_with (first
        | (go_at_call 21; refine (HKE.out _ _ _ _ _ _ HK.out).mono ?_; rintro e9 w9 ⟨rfl, B9⟩))
      go_ret2
      exact ⟨rfl, Lib.hid (HB.out.trans (B9.out.mono HB.out.size))⟩
end Go.Proofs.Ythgjfjmampmiiaa

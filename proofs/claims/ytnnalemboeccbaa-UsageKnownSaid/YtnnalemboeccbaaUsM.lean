/-
  UsageRound walked.
-/
import Derived.Test.YtnnalemboeccbaaUsL
namespace Go.Proofs.Ytnnalemboeccbaa
open Go.RowKit

namespace Us
/-- What a call but Set may turn. -/
def Way (T U : List S) (K g : Int) (k : Nat) : Prop :=
  ((at_ T k).s = (at_ U k).s ∧ (K = 4 → (at_ U k).s ≠ 3)) ∨ ((at_ T k).s = 0 ∧ (at_ U k).s = 1 ∧ ∀ j, j < k → (at_ T j).s ≠ 0) ∨ ((at_ T k).s = 1 ∧ (at_ U k).s = 2) ∨
  ((at_ T k).s = 2 ∧ (at_ U k).s = 3 ∧ K = 3 ∧ g = (k : Int) ∧ (at_ T k).l = 0) ∨ ((at_ T k).s = 3 ∧ (at_ U k).s = 0 ∧ K = 4)
theorem way {T : List S} (h : Inv T) (o : O) (h0 : o.k ≠ 0) (k : Nat) (hk : k < T.length) : Way T (dT T o) o.k o.g k := by
  unfold Way dT
  rw [if_neg h0]
  by_cases h1 : o.k = 1
  · rw [if_pos h1]
    cases hf : fx 0 T with
    | none =>
      have e : takeT T o.w = T := by unfold takeT; rw [hf]
      rw [e]
      exact Or.inl ⟨rfl, fun q => by omega⟩
    | some i =>
      obtain ⟨i1, i2, i3⟩ := fx_some.1 hf
      rw [take_at h hf o.w k hk]
      by_cases e : k = i
      · rw [if_pos e]
        subst e
        exact Or.inr (Or.inl ⟨i2, rfl, i3⟩)
      · rw [if_neg e]
        by_cases e1 : (at_ T k).s = 1
        · rw [if_pos e1]
          exact Or.inr (Or.inr (Or.inl ⟨e1, rfl⟩))
        · rw [if_neg e1]
          exact Or.inl ⟨rfl, fun q => by omega⟩
  rw [if_neg h1]
  by_cases h2 : o.k = 2
  · rw [if_pos h2]
    refine Or.inl ⟨?_, fun q => by omega⟩
    unfold addT
    split
    · rename_i e
      have hi := (has_nat e.1).1
      rw [at_set _ _ _ _ hi]
      by_cases q : k = o.g.toNat
      · rw [if_pos q, q]; rfl
      · rw [if_neg q]
    · rfl
  rw [if_neg h2]
  by_cases h3 : o.k = 3
  · rw [if_pos h3]
    unfold pendT
    by_cases e : pendE T o.g = 0
    · rw [if_pos e]
      obtain ⟨e1, e2, e3⟩ := pend_zero e
      obtain ⟨hi, hi2⟩ := has_nat e1
      rw [at_set _ _ _ _ hi]
      by_cases q : k = o.g.toNat
      · rw [if_pos q, q]
        exact Or.inr (Or.inr (Or.inr (Or.inl ⟨e2, rfl, h3, hi2.symm, e3⟩)))
      · rw [if_neg q]
        exact Or.inl ⟨rfl, fun q => by omega⟩
    · rw [if_neg e]
      exact Or.inl ⟨rfl, fun q => by omega⟩
  rw [if_neg h3]
  by_cases h4 : o.k = 4
  · rw [if_pos h4, rel_at T k hk]
    unfold rel1
    by_cases e : (at_ T k).s = 3
    · rw [if_pos e]
      exact Or.inr (Or.inr (Or.inr (Or.inr ⟨e, rfl, h4⟩)))
    · rw [if_neg e]
      exact Or.inl ⟨rfl, fun _ => e⟩
  · rw [if_neg h4]
    exact Or.inl ⟨rfl, fun q => absurd q h4⟩
end Us
theorem Try.infoOp : (Try.prog.info? 32).map (fun i => (i.zero, i.size)) = some (some (.agg (OpA Us.o0)), 7) := by kernel_rfl
theorem opa_one (o : Us.O) : (OpA o).all (·.oneCell') = true := by simp [OpA, Value.oneCell']
set_option maxHeartbeats 8000000 in
set_option maxRecDepth 100000 in
theorem round_any (n : Int) (L : List Us.O) (p : Option Addr) (m c : Nat) (hm : L.length = m) (w : World) (hp : OpS w p L) : Calls Try.prog 5 #[.int .i64 n, .slice p m c] w (YesSay w) := by
  have HW : Hid (∀ y, Calls Try.prog 8 #[] y (YesSay y)) := fun y => works_any y
  have HP : Hid (∀ y, Below w.heap.size w y → OpS y p L) := fun y hy => hp.old hy
  have HM := Lib.hid hm
  clear hp hm
  by_cases h300 : 300 < m
  · have h300' : (m : Int) > 300 := by omega
    clear h300
    go_enter Try.func5, Try.ntmps5
    go_wp2_with (go_at_call 8; refine (HW.out _).mono ?_; rintro e1 w1 ⟨rfl, hb1⟩)
    go_ret
    exact ⟨rfl, hb1⟩
  have h300' : ¬ (m : Int) > 300 := by omega
  obtain ⟨l, hl⟩ : ∃ l : Nat, (Us.new n).length = l := ⟨_, rfl⟩
  have HL := Lib.hid hl
  have HL32 : Hid (l ≤ 32) := by have := (Us.new_inv n).len; show _ ≤ _; rw [← hl]; exact this
  clear hl h300
  go_enter Try.func5, Try.ntmps5
  go_wp2_with (first
    | (go_at_call 9; refine (tp_new n w w (Below.refl _ _)).mono ?_; rintro e0 w0 ⟨b, v, rfl, H0⟩))
  go_loopw [6, 7, 8, 9, 10, 11, 12, 13] (fun v6 _ _ _ _ _ _ _ wr => ∃ (i : Nat) (T : List Us.S), i ≤ m ∧ v6 = .int .i64 i ∧ Hid (T.length = l) ∧ Hid (Tp w wr b v T)) (fun v6 _ _ _ _ _ _ _ _ => m - (intOf v6).toNat)
  case atStart => exact ⟨0, _, Nat.zero_le _, rfl, HL.out, H0⟩
  case round =>
    as_aux_lemma =>
      obtain ⟨i, T, hi, rfl, HT, HS⟩ := hrel
      by_cases hlt : i < m
      · obtain ⟨o, ho⟩ : ∃ o, L.getD i Us.o0 = o := ⟨_, rfl⟩
        obtain ⟨ab, ao, rfl, hcl⟩ := HP.out _ HS.out.old (by rw [HM.out]; omega)
        have HR : Hid (wr.rangeAt ab (ao + i * 7) (OpA o).toList) := by
          have := hcl i (by rw [HM.out]; exact hlt)
          rw [ho] at this
          exact this
        clear hcl ho
        have hi0 : (0 : Int) ≤ (i : Int) := by omega
        have hil : (i : Int) < (m : Int) := by omega
        have HSN : Hid (∀ y, Tp w y b v T → Calls Try.prog 14 #[.pointer (some ⟨b, 0, none⟩)] y (SnSay w b v T y)) := fun y h => tp_segs h
        have HDO : Hid (∀ y, Tp w y b v T → Calls Try.prog 20 #[.pointer (some ⟨b, 0, none⟩), .agg (OpA o)] y (TpSay w b v (Us.dT T o) (.int .i64 (Us.dE T o)) y)) := fun y h => does_any o y h
        have hT2 : (Us.dT T o).length = l := by rw [Us.dT_len]; exact HT.out
        have HSN2 : Hid (∀ y, Tp w y b v (Us.dT T o) → Calls Try.prog 14 #[.pointer (some ⟨b, 0, none⟩)] y (SnSay w b v (Us.dT T o) y)) := fun y h => tp_segs h
        have HWAY : Hid (o.k ≠ 0 → ∀ k, k < l → Us.Way T (Us.dT T o) o.k o.g k) := fun h0 k hk => Us.way HS.out.inv o h0 k (by rw [HT.out]; exact hk)
        have HOK : Hid (∀ k, k < l → (0 ≤ (Us.at_ T k).s ∧ (Us.at_ T k).s ≤ 3)) := fun k hk => (HS.out.inv.ok k (by rw [HT.out]; exact hk)).1
        obtain ⟨U, hU⟩ : ∃ U, Us.dT T o = U := ⟨_, rfl⟩
        rw [hU] at HDO HWAY hT2 HSN2
        clear hU
        have HU := Lib.hid hT2
        unfold SnSay at HSN HSN2
        rw [HT.out] at HSN
        rw [hT2] at HSN2
        clear hT2
        go_upto_region 10 with (first
          | ((with_reducible refine rng_load _ _ _ _ _ _ ?_ HR.out Try.underlying32 ?_ (op_info o) ?_); (exact rfl); (exact rfl))
          | ((with_reducible refine row_store _ _ _ _ _ _ _ ?_ ?_ (heap_alloc_new _ _) (op_info o) ?_ (opa_one o) ?_); (exact rfl); (exact rfl); (exact rfl); intro w2 G2 ch2; have B2 : Hid (Below wr.heap.size wr w2) := ch2.below ((Below.refl _ wr).alloc (Nat.le_refl _) _) (Nat.le_refl _); have H2 := Lib.hid (HS.out.next B2.out); have HGL : Hid (wr.heap.size < w2.heap.size) := lt_of_block G2.out)
          | (go_at_call 14; refine (HSN.out _ H2.out).mono ?_; rintro e4 w4 ⟨p4, c4, rfl, H4, S4, A4, M4⟩; have G4 : Hid (w4.heap[wr.heap.size]? = some (.cells (OpA o) 32 (0, 0))) := (M4.out.block _ (lt_of_block G2.out) (fun q => by have := H2.out.at_.own.blk q; obtain ⟨_, cur, hc⟩ := this; rw [G2.out] at hc; injection hc with hc; injection hc with _ hc _; exact absurd hc (by decide))).trans G2.out)
          | ((with_reducible refine row_load _ _ _ _ _ _ _ ?_ G4.out Try.underlying32 ?_ (op_info o) ?_); (exact rfl); (exact rfl))
          | (go_at_call 20; refine (HDO.out _ H4.out).mono ?_; rintro e5 w5 ⟨rfl, H5, M5⟩))
        have G5 : Hid (w5.heap[wr.heap.size]? = some (.cells (OpA o) 32 (0, 0))) := (M5.out.block _ (lt_of_block G4.out) (fun q => by have := H4.out.at_.own.blk q; obtain ⟨_, cur, hc⟩ := this; rw [G4.out] at hc; injection hc with hc; injection hc with _ hc _; exact absurd hc (by decide))).trans G4.out
        have S5 : Hid (SgO w2.heap.size w5 (.slice p4 l c4) T) := S4.out.tn M5.out A4.out
        clear G2 G4 S4 M4 M5 H2 H4 HSN HDO HR B2
        go_wp2_with (go_at_call 14; refine (HSN2.out _ H5.out).mono ?_; rintro e6 w6 ⟨p6, c6, rfl, H6, S6, A6, M6⟩; have G6 : Hid (w6.heap[wr.heap.size]? = some (.cells (OpA o) 32 (0, 0))) := (M6.out.block _ (lt_of_block G5.out) (fun q => by have := H5.out.at_.own.blk q; obtain ⟨_, cur, hc⟩ := this; rw [G5.out] at hc; injection hc with hc; injection hc with _ hc _; exact absurd hc (by decide))).trans G5.out)
        have S56 : Hid (SgO w2.heap.size w6 (.slice p4 l c4) T) := S5.out.tn M6.out A4.out
        obtain ⟨c0, c1, _, _⟩ := opa_cells G6.out
        clear S5 G5 M6 A4 A6 HSN2 G6 H5
        obtain ⟨K, g, n9, q9, r9⟩ := o
        dsimp only at c0 c1 HWAY
        go_loopw [10, 11, 12, 13] (fun v10 v11 _ _ y => ∃ (k : Nat) (f : Bool), k ≤ l ∧ v10 = .bool f ∧ v11 = .int .i64 k ∧ Hid ((∀ j, j < k → (Us.at_ T j).s ≠ 0) → f = true) ∧ y = w6) (fun _ v11 _ _ _ => l - (intOf v11).toNat)
        case atStart => exact ⟨0, true, Nat.zero_le _, rfl, rfl, fun _ => rfl, rfl⟩
        case round =>
          obtain ⟨k, f, hk, rfl, rfl, HF, rfl⟩ := hrel
          by_cases h0 : K = 0
          · have hk0 : (K != 0) = false := by simp [h0]
            clear h0
            have hl32 : l ≤ 32 := HL32.out
            by_cases hkl : k < l
            · have hk1 : (k : Int) < (l : Int) := by omega
              go_wp2
              exact ⟨⟨i + 1, U, by omega, by go_num, HU, H6⟩, by simp [intOf]; omega⟩
            · have hk1 : ¬ (k : Int) < (l : Int) := by omega
              go_wp2
              exact ⟨⟨i + 1, U, by omega, by go_num, HU, H6⟩, by simp [intOf]; omega⟩
          have hK0 : (K != 0) = true := by simp [h0]
          have hl32 : l ≤ 32 := HL32.out
          by_cases hkl : k < l
          · have hkT : k < T.length := by rw [HT.out]; exact hkl
            have hkU : k < U.length := by rw [HU.out]; exact hkl
            obtain ⟨g4, c4', hv4⟩ := S56.out.isb k hkT
            injection hv4 with z1 z2 z3
            subst z1
            clear z2 z3
            obtain ⟨g6, c6', hv6⟩ := S6.out.isb k hkU
            injection hv6 with z1 z2 z3
            subst z1
            clear z2 z3
            obtain ⟨d0, d1, _⟩ := S56.out.cells k hkT
            obtain ⟨e0, _, _⟩ := S6.out.cells k hkU
            have hw := HWAY.out h0 k hkl
            have hst := HOK.out k hkl
            unfold Us.Way at hw
            have hk0 : (0 : Int) ≤ (k : Int) := by omega
            have hk1 : (k : Int) < (l : Int) := by omega
            clear h0 hkT hkU
            have HA : Hid ((Us.at_ T k).s = (Us.at_ T k).s) := rfl
            generalize hsa : (Us.at_ T k).s = sa at *
            generalize hsb : (Us.at_ U k).s = sb at *
            generalize (Us.at_ T k).l = lv at *
            clear hsb
            have HA := Lib.hid hsa
            clear hsa
            have HW3 : Hid ((K == 4) = false ∨ (sb == 3) = false) := by
              rcases hw with ⟨rfl, h4⟩ | ⟨rfl, rfl, hfr⟩ | ⟨rfl, rfl⟩ | ⟨rfl, rfl, rfl, rfl, rfl⟩ | ⟨rfl, rfl, rfl⟩
              · by_cases q : K = 4
                · exact Or.inr (by simp [h4 q])
                · exact Or.inl (by simp [q])
              · exact Or.inr rfl
              · exact Or.inr rfl
              · exact Or.inl rfl
              · exact Or.inr rfl
            clear HW HM HL HL32 H0 HS HP HOK HWAY HT HU H6 HGL hi hlt hi0 hil
            go_upto_region 17 with (fail)
            clear S56 S6
            go_cut [119] from 58 to 119 (fun v119 y => v119 = .bool false ∧ y = wr)
            case first =>
              as_aux_lemma =>
                rcases hw with ⟨rfl, h4⟩ | ⟨rfl, rfl, hfr⟩ | ⟨rfl, rfl⟩ | ⟨rfl, rfl, rfl, rfl, rfl⟩ | ⟨rfl, rfl, rfl⟩
                · have hs4 : sa = 0 ∨ sa = 1 ∨ sa = 2 ∨ sa = 3 := by omega
                  clear h4 hst
                  rcases hs4 with rfl | rfl | rfl | rfl
                  · go_wp2
                    go_meet
                    case rel => exact ⟨rfl, rfl⟩
                  · go_wp2
                    go_meet
                    case rel => exact ⟨rfl, rfl⟩
                  · go_wp2
                    go_meet
                    case rel => exact ⟨rfl, rfl⟩
                  · go_wp2
                    go_meet
                    case rel => exact ⟨rfl, rfl⟩
                · have hft : f = true := HF.out (fun j hj => hfr j hj)
                  subst hft
                  clear hfr hst
                  go_wp2
                  go_meet
                  case rel => exact ⟨rfl, rfl⟩
                · clear hst
                  go_wp2
                  go_meet
                  case rel => exact ⟨rfl, rfl⟩
                · clear hst
                  go_wp2
                  go_meet
                  case rel => exact ⟨rfl, rfl⟩
                · clear hst
                  go_wp2
                  go_meet
                  case rel => exact ⟨rfl, rfl⟩
            case rest =>
              as_aux_lemma =>
                obtain ⟨rfl, rfl⟩ := hcut
                clear hw hst d0 d1 e0
                have hfa : ∃ f2 : Bool, (f && (sa != 0)) = f2 := ⟨_, rfl⟩
                obtain ⟨f2, hf2⟩ := hfa
                have HF2 : Hid ((∀ j, j < k + 1 → (Us.at_ T j).s ≠ 0) → f2 = true) := fun h => by
                  rw [← hf2, HF.out (fun j hj => h j (by omega))]
                  have := h k (by omega)
                  rw [HA.out] at this
                  simp [this]
                clear HF
                cases f with
                | false =>
                  obtain rfl : f2 = false := by rw [← hf2]; rfl
                  clear hf2
                  cases hK4 : (K == 4) with
                  | false =>
                    go_wp2
                    exact ⟨⟨k + 1, _, by omega, rfl, by go_num, HF2, trivial⟩, by simp [intOf]; omega⟩
                  | true =>
                    have hb3 : (sb == 3) = false := by
                      rcases HW3.out with q | q
                      · rw [hK4] at q; cases q
                      · exact q
                    go_wp2
                    exact ⟨⟨k + 1, _, by omega, rfl, by go_num, HF2, trivial⟩, by simp [intOf]; omega⟩
                | true =>
                  have hf3 : (sa != 0) = f2 := by rw [← hf2]; rfl
                  clear hf2
                  cases hK4 : (K == 4) with
                  | false =>
                    go_wp2
                    exact ⟨⟨k + 1, _, by omega, rfl, by go_num, HF2, trivial⟩, by simp [intOf]; omega⟩
                  | true =>
                    have hb3 : (sb == 3) = false := by
                      rcases HW3.out with q | q
                      · rw [hK4] at q; cases q
                      · exact q
                    go_wp2
                    exact ⟨⟨k + 1, _, by omega, rfl, by go_num, HF2, trivial⟩, by simp [intOf]; omega⟩
          · have hge : ¬ (k : Int) < (l : Int) := by omega
            go_wp2
            exact ⟨⟨i + 1, U, by omega, by go_num, HU, H6⟩, by simp [intOf]; omega⟩
      · have hge : (m : Int) ≤ (i : Int) := by omega
        go_wp2_with (go_at_call 8; refine (HW.out _).mono ?_; rintro e9 w9 ⟨rfl, hb9⟩)
        go_ret
        exact ⟨rfl, HS.out.old.trans (hb9.mono HS.out.old.size)⟩
end Go.Proofs.Ytnnalemboeccbaa

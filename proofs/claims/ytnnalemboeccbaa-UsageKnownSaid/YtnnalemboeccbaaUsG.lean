/-
  Package usage: contracts: Pend, Release, Take, Add.
-/
import Derived.Test.YtnnalemboeccbaaUsF
namespace Go.Proofs.Ytnnalemboeccbaa
open Go.RowKit

section
variable {t : TypeId} {B b : Nat} {w y : World} {v : Value} {T : List Us.S}
theorem TAt.gsome (h : TAt t B w b v T) (j : Nat) (hj : j < T.length) : ∃ g c, v = .slice (some ⟨g, 0, none⟩) T.length c ∧ g < w.heap.size := by
  obtain ⟨g, c, rfl⟩ := h.own.isb j hj
  obtain ⟨_, cur, hc⟩ := h.own.blk (g := g) rfl
  exact ⟨g, c, rfl, lt_of_block hc⟩
/-- A cell of its rows is written. -/
theorem TAt.setc {g c n : Nat} (h : TAt t B w b (.slice (some ⟨g, 0, none⟩) n c) T) (ht : t ≠ 30) (k j : Nat) (hk : k < T.length) (hj : j < 3) (u : Value) (x : Us.S) (he : (SgC (Us.at_ T k)).set j u = SgC x) :
    TAt t B (w.setCell ⟨g, k * 3 + j, none⟩ u) b (.slice (some ⟨g, 0, none⟩) n c) (T.set k x) :=
  h.put ht rfl (Chg.setCell w ⟨g, k * 3 + j, none⟩ u) (h.own.setc k j hk hj u x he)
theorem Tn.setc {g c n o : Nat} (u : Value) : Tn (.slice (some ⟨g, 0, none⟩) n c) w (w.setCell ⟨g, o, none⟩ u) := Tn.chg (Chg.setCell w ⟨g, o, none⟩ u) rfl
end
set_option maxHeartbeats 4000000 in
set_option maxRecDepth 100000 in
theorem pend_any {B b : Nat} {v : Value} {T : List Us.S} (i : Int) (w : World) (h : TAt 50 B w b v T) (hI : Us.Inv T) :
    Calls Try.prog 23 #[.pointer (some ⟨b, 0, none⟩), .int .i64 i] w (TbSay 50 B b v (Us.pendT T i) (.int .i64 (Us.pendE T i)) w) := by
  have HT : Hid (∀ y, Below w.heap.size w y → TAt 50 B y b v T) := fun y hy => h.old hy
  have HH : Hid (Calls Try.prog 38 #[.pointer (some ⟨b, 0, none⟩), .int .i64 i] w fun e w' => e = .returned (.bool (decide (Us.has T i))) ∧ w' = w) := has_any i w h hI.len
  by_cases h1 : Us.has T i
  · rw [decide_eq_true h1] at HH
    obtain ⟨hn1, hn2⟩ := Us.has_nat h1
    obtain ⟨j, hj⟩ : ∃ j : Nat, i.toNat = j := ⟨_, rfl⟩
    rw [hj] at hn1 hn2
    obtain ⟨g, c, rfl, hgw⟩ := h.gsome j hn1
    have b0 := h.cell
    have HR : Hid (w.rangeAt g (j * 3) (SgA (Us.at_ T j)).toList) := h.own.rng j hn1
    obtain ⟨x, hx⟩ : ∃ x, Us.at_ T j = x := ⟨_, rfl⟩
    have HXX := Lib.hid hx
    rw [hx] at HR
    obtain ⟨s, l, a⟩ := x
    have EE : Us.pendE T i = if s = 2 ∧ l = 0 then 0 else 16 := by
      unfold Us.pendE
      rw [if_neg (fun q => q h1), hj, hx]
    have ET : Us.pendT T i = if s = 2 ∧ l = 0 then T.set j ⟨3, l, a⟩ else T := by
      unfold Us.pendT
      rw [EE, hj, hx]
      by_cases q : s = 2 ∧ l = 0
      · rw [if_pos q, if_pos q, if_pos rfl]; rfl
      · rw [if_neg q, if_neg q, if_neg (by decide)]
    rw [EE, ET]
    have HN : Hid (j < T.length) := hn1
    subst hn2
    clear h h1 hj hx hI EE ET
    obtain ⟨n, hn⟩ : ∃ n, T.length = n := ⟨_, rfl⟩
    rw [hn] at hn1 HT b0 ⊢
    have hlt : (j : Int) < (n : Int) := by omega
    have hge : 0 ≤ (j : Int) := by omega
    by_cases hs : s = 2
    · have hs' : (s != 2) = false := by simp [hs]
      by_cases hl : l = 0
      · rw [if_pos ⟨hs, hl⟩, if_pos ⟨hs, hl⟩]
        have hl' : (l != 0) = false := by simp [hl]
        clear hs hl
        go_enter Try.func23, Try.ntmps23
        go_upto_region 4 with (first
          | (go_at_call 38; refine HH.out.mono ?_; rintro e1 w1 ⟨rfl, rfl⟩)
          | ((with_reducible refine rng_load _ _ _ _ _ _ ?_ HR.out Try.underlying30 ?_ (sg_info ⟨s, l, a⟩) ?_); (exact rfl); (exact rfl))
          | ((with_reducible refine row_store _ _ _ _ _ _ _ ?_ ?_ (heap_alloc_new _ _) (sg_info ⟨s, l, a⟩) ?_ (sga_one ⟨s, l, a⟩) ?_); (exact rfl); (exact rfl); (exact rfl); intro w2 G2 ch2))
        have B2 : Hid (Below w1.heap.size w1 w2) := ch2.below ((Below.refl _ w1).alloc (Nat.le_refl _) _) (Nat.le_refl _)
        have T2 := Lib.hid (HT.out _ B2.out)
        have c0 : w2.cell? ⟨w1.heap.size, 0, none⟩ = some (.int .i64 s) := by rw [cell_of_row _ _ _ _ _ _ G2.out]; rfl
        have c1 : w2.cell? ⟨w1.heap.size, 1, none⟩ = some (.int .i64 l) := by rw [cell_of_row _ _ _ _ _ _ G2.out]; rfl
        have b2 := T2.out.cell
        have f2 := T2.out.own.frozen (j * 3)
        have d2 := (T2.out.own.cells j HN.out).1
        have S2 : Hid (TAt 50 B (w2.setCell ⟨g, j * 3, none⟩ (.int .i64 3)) b (.slice (some ⟨g, 0, none⟩) n c) (T.set j ⟨3, l, a⟩)) := T2.out.setc tne j 0 HN.out (by omega) (.int .i64 3) ⟨3, l, a⟩ (by rw [HXX.out]; rfl)
        have M2 : Hid (Tn (.slice (some ⟨g, 0, none⟩) n c) w1 (w2.setCell ⟨g, j * 3, none⟩ (.int .i64 3))) := (Tn.of B2.out).trans (Tn.setc _)
        go_wp2
        go_ret
        exact ⟨rfl, S2, M2⟩
      · rw [if_neg (fun q => hl q.2), if_neg (fun q => hl q.2)]
        have hl' : (l != 0) = true := by simp [hl]
        clear hl hs
        go_enter Try.func23, Try.ntmps23
        go_upto_region 4 with (first
          | (go_at_call 38; refine HH.out.mono ?_; rintro e1 w1 ⟨rfl, rfl⟩)
          | ((with_reducible refine rng_load _ _ _ _ _ _ ?_ HR.out Try.underlying30 ?_ (sg_info ⟨s, l, a⟩) ?_); (exact rfl); (exact rfl))
          | ((with_reducible refine row_store _ _ _ _ _ _ _ ?_ ?_ (heap_alloc_new _ _) (sg_info ⟨s, l, a⟩) ?_ (sga_one ⟨s, l, a⟩) ?_); (exact rfl); (exact rfl); (exact rfl); intro w2 G2 ch2))
        have B2 : Hid (Below w1.heap.size w1 w2) := ch2.below ((Below.refl _ w1).alloc (Nat.le_refl _) _) (Nat.le_refl _)
        have T2 := Lib.hid (HT.out _ B2.out)
        have c0 : w2.cell? ⟨w1.heap.size, 0, none⟩ = some (.int .i64 s) := by rw [cell_of_row _ _ _ _ _ _ G2.out]; rfl
        have c1 : w2.cell? ⟨w1.heap.size, 1, none⟩ = some (.int .i64 l) := by rw [cell_of_row _ _ _ _ _ _ G2.out]; rfl
        have b2 := T2.out.cell
        go_wp2
        go_ret
        exact ⟨rfl, T2, Lib.hid (Tn.of B2.out)⟩
    · rw [if_neg (fun q => hs q.1), if_neg (fun q => hs q.1)]
      have hs' : (s != 2) = true := by simp [hs]
      clear hs
      go_enter Try.func23, Try.ntmps23
      go_upto_region 4 with (first
        | (go_at_call 38; refine HH.out.mono ?_; rintro e1 w1 ⟨rfl, rfl⟩)
        | ((with_reducible refine rng_load _ _ _ _ _ _ ?_ HR.out Try.underlying30 ?_ (sg_info ⟨s, l, a⟩) ?_); (exact rfl); (exact rfl))
        | ((with_reducible refine row_store _ _ _ _ _ _ _ ?_ ?_ (heap_alloc_new _ _) (sg_info ⟨s, l, a⟩) ?_ (sga_one ⟨s, l, a⟩) ?_); (exact rfl); (exact rfl); (exact rfl); intro w2 G2 ch2))
      have B2 : Hid (Below w1.heap.size w1 w2) := ch2.below ((Below.refl _ w1).alloc (Nat.le_refl _) _) (Nat.le_refl _)
      have T2 := Lib.hid (HT.out _ B2.out)
      have c0 : w2.cell? ⟨w1.heap.size, 0, none⟩ = some (.int .i64 s) := by rw [cell_of_row _ _ _ _ _ _ G2.out]; rfl
      have c1 : w2.cell? ⟨w1.heap.size, 1, none⟩ = some (.int .i64 l) := by rw [cell_of_row _ _ _ _ _ _ G2.out]; rfl
      have b2 := T2.out.cell
      go_wp2
      go_ret
      exact ⟨rfl, T2, Lib.hid (Tn.of B2.out)⟩
  · rw [decide_eq_false h1] at HH
    have EE : Us.pendE T i = 7 := by unfold Us.pendE; rw [if_pos h1]
    have ET : Us.pendT T i = T := by unfold Us.pendT; rw [EE, if_neg (by decide)]
    rw [EE, ET]
    clear h h1 EE ET
    go_enter Try.func23, Try.ntmps23
    go_wp2_with (go_at_call 38; refine HH.out.mono ?_; rintro e1 w1 ⟨rfl, rfl⟩)
    go_ret
    exact ⟨rfl, Lib.hid (HT.out _ (Below.refl _ _)), Lib.hid (Tn.refl _ _)⟩
set_option maxHeartbeats 4000000 in
set_option maxRecDepth 100000 in
theorem release_any {B b : Nat} {v : Value} {T : List Us.S} (w : World) (h : TAt 50 B w b v T) (hl : T.length ≤ 32) :
    Calls Try.prog 24 #[.pointer (some ⟨b, 0, none⟩)] w (TbSay 50 B b v (Us.relT T) (.int .i64 ((Us.ix 3 T).length : Int)) w) := by
  have HT : Hid (∀ y, Below w.heap.size w y → TAt 50 B y b v T) := fun y hy => h.old hy
  have H1 := Lib.hid (those_any 3 w h hl)
  have HV : Hid (∀ g, v.ownBlock = some g → g < w.heap.size) := fun g hg => by obtain ⟨_, cur, hc⟩ := h.own.blk hg; exact lt_of_block hc
  clear h
  obtain ⟨m, hm⟩ : ∃ m, (Us.ix 3 T).length = m := ⟨_, rfl⟩
  have HM := Lib.hid hm
  rw [hm]
  have hm32 : m ≤ 32 := by have := Us.ix_le 3 T; omega
  clear hm
  go_enter Try.func24, Try.ntmps24
  go_upto_region 3 with (go_at_call 33; refine H1.out.mono ?_; rintro e1 w1 ⟨v1, rfl, O1, B1⟩; obtain ⟨p1, c1, hv1⟩ := O1.out.len; rw [HM.out] at hv1; subst hv1)
  go_loopw [5, 11] (fun _ v11 wr => ∃ k : Nat, k ≤ m ∧ v11 = .int .i64 k ∧ Hid (TAt 50 B wr b v (Us.relL ((Us.ix 3 T).take k) T)) ∧ Hid (IxO w.heap.size wr (.slice p1 m c1) (Us.ix 3 T)) ∧ Hid (Tn v w wr)) (fun _ v11 _ => m - (intOf v11).toNat)
  case atStart => exact ⟨0, Nat.zero_le _, rfl, by rw [List.take_zero]; exact HT.out _ B1.out, O1.out, Tn.of B1.out⟩
  case round =>
    obtain ⟨k, hk, rfl, HA, HO, HB⟩ := hrel
    by_cases hlt : k < m
    · obtain ⟨s, hs⟩ : ∃ s, (Us.ix 3 T)[k]? = some s := ⟨_, List.getElem?_eq_getElem (by rw [HM.out]; exact hlt)⟩
      obtain ⟨g1, c', hv, hb1, hg1, hc⟩ := HO.out.at_ k s hs
      rw [HM.out] at hv
      injection hv with q1 _ q3
      subst q1; subst q3
      have hsT : s < T.length := (Us.mem_ix.1 (List.mem_of_getElem? hs)).1
      have HLN : Hid ((Us.relL ((Us.ix 3 T).take k) T).length = T.length) := Us.relL_len _ _
      have HTK : Hid ((Us.relL ((Us.ix 3 T).take k) T).set s Us.z = Us.relL ((Us.ix 3 T).take (k + 1)) T) := by
        show _ = _
        rw [List.take_add_one, hs, Option.toList_some, Us.relL_snoc]
      generalize Us.relL ((Us.ix 3 T).take k) T = U at *
      obtain ⟨g, c, rfl, hgw⟩ := HA.out.gsome s (by rw [HLN.out]; exact hsT)
      rw [HLN.out] at HA HV HB HT ⊢
      have b0 := HA.out.cell
      have HSU : Hid (s < U.length) := by show _ < _; rw [HLN.out]; exact hsT
      have HGL : Hid (g < w.heap.size) := HV.out g rfl
      have HTL : Hid (Us.relL ((Us.ix 3 T).take (k + 1)) T = Us.relL ((Us.ix 3 T).take (k + 1)) T) := rfl
      clear hs
      obtain ⟨n, hn⟩ : ∃ n, T.length = n := ⟨_, rfl⟩
      rw [hn] at hsT b0 HA HB ⊢
      have hi0 : 0 ≤ (k : Int) := by omega
      have hi1 : (k : Int) < (m : Int) := by omega
      have hs0 : 0 ≤ (s : Int) := by omega
      have hs1 : (s : Int) < (n : Int) := by omega
      go_wp2_with (first
        | ((with_reducible refine row_b1 _ _ _ _ ?_ build_sg0 ?_); (exact rfl))
        | ((with_reducible refine st_sg _ _ B g n c s (s * 3) rfl U Us.z HSU.out ?_ ?_ HA.out.own ?_); (exact rfl); (exact rfl); intro w5 O5 C5))
      exact ⟨⟨k + 1, by omega, by go_num, by rw [← HTK.out]; exact HA.out.put tne rfl C5.out O5.out, HO.out.only C5.out.only (fun q => by have := HO.out.blk q; have := HGL.out; omega), HB.out.trans (Tn.chg C5.out rfl)⟩, by simp [intOf]; omega⟩
    · have E : k = m := by omega
      have HA2 : Hid (TAt 50 B wr b v (Us.relT T)) := by
        have := HA.out
        rw [E, ← HM.out, List.take_length, Us.relL_all] at this
        exact this
      have hge : m ≤ k := by omega
      clear hlt HA E
      go_wp2
      go_ret
      exact ⟨rfl, HA2, HB⟩
end Go.Proofs.Ytnnalemboeccbaa

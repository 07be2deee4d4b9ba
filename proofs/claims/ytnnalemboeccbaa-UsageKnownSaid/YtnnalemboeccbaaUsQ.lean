/-
  The reference: contracts: Pend, Release, New, Set, Take, Add; SpoilSegs.
-/
import Derived.Test.YtnnalemboeccbaaUsP
namespace Go.Proofs.Ytnnalemboeccbaa
open Go.RowKit

set_option maxHeartbeats 1000000 in
set_option maxRecDepth 100000 in
theorem spoil_any {B : Nat} {v : Value} {T : List Us.S} (w : World) (h : SgO B w v T) (hl : T.length ≤ 1000) : Calls Try.prog 17 #[v] w fun e w' => e = .returned (.tuple #[]) ∧ Tn v w w' := by
  obtain ⟨p, c, rfl⟩ := h.len
  obtain ⟨n, hn⟩ : ∃ n, T.length = n := ⟨_, rfl⟩
  have H0 := Lib.hid h
  clear h
  rw [hn] at hl H0 ⊢
  go_enter Try.func17, Try.ntmps17
  go_wp2
  go_loopw [2] (fun v2 wr => ∃ (k : Nat) (U : List Us.S), k ≤ n ∧ v2 = .int .i64 k ∧ Hid (U.length = n) ∧ Hid (SgO B wr (.slice p n c) U) ∧ Hid (Tn (.slice p n c) w wr)) (fun v2 _ => n - (intOf v2).toNat)
  case atStart => exact ⟨0, T, Nat.zero_le _, rfl, hn, H0, Tn.refl _ _⟩
  case round =>
    clear H0 hn
    obtain ⟨k, U, hk, rfl, HU, HO, HB⟩ := hrel
    by_cases hlt : k < n
    · have HK : Hid (k < U.length) := by show _ < _; rw [HU.out]; exact hlt
      obtain ⟨g, c', hv⟩ := HO.out.isb k HK.out
      injection hv with q1 q2 q3
      subst q1
      clear q2 q3
      have d0 := (HO.out.cells k HK.out).1
      generalize (Us.at_ U k).s = s at *
      have hi0 : 0 ≤ (k : Int) := by omega
      have hi1 : (k : Int) < (n : Int) := by omega
      have HU2 : Hid ((U.set k ⟨bits .xor .i64 s 77, 0, 0⟩).length = n) := by show _ = _; rw [List.length_set]; exact HU.out
      go_wp2_with (first
        | ((with_reducible refine row_b1 _ _ _ _ ?_ (build_sg1 (bits .xor .i64 s 77)) ?_); (exact rfl))
        | ((with_reducible refine st_sg _ _ B g n c k (k * 3) rfl U ⟨bits .xor .i64 s 77, 0, 0⟩ HK.out ?_ ?_ HO.out ?_); (exact rfl); (exact rfl); intro w5 O5 C5))
      exact ⟨⟨k + 1, _, by omega, by go_num, HU2, O5, HB.out.trans (Tn.chg C5.out rfl)⟩, by simp [intOf]; omega⟩
    · have hge : n ≤ k := by omega
      clear hlt
      go_wp2
      go_end0
      exact ⟨rfl, HB.out⟩
set_option maxHeartbeats 4000000 in
set_option maxRecDepth 100000 in
theorem rpend_any {B b : Nat} {v : Value} {T : List Us.S} (i : Int) (w : World) (h : TAt 52 B w b v T) :
    Calls Try.prog 31 #[.pointer (some ⟨b, 0, none⟩), .int .i64 i] w (TbSay 52 B b v (Us.pendT T i) (.int .i64 (Us.pendE T i)) w) := by
  have H0 := Lib.hid h
  have HH : Hid (Calls Try.prog 41 #[.pointer (some ⟨b, 0, none⟩), .int .i64 i] w fun e w' => e = .returned (.bool (decide (Us.has T i))) ∧ w' = w) := there_any i w h
  by_cases h1 : Us.has T i
  · rw [decide_eq_true h1] at HH
    obtain ⟨hn1, hn2⟩ := Us.has_nat h1
    obtain ⟨j, hj⟩ : ∃ j : Nat, i.toNat = j := ⟨_, rfl⟩
    rw [hj] at hn1 hn2
    obtain ⟨g, c, rfl, hgw⟩ := h.gsome j hn1
    have b0 := h.cell
    obtain ⟨d0, d1, _⟩ := h.own.cells j hn1
    have f0 := h.own.frozen (j * 3)
    obtain ⟨x, hx⟩ : ∃ x, Us.at_ T j = x := ⟨_, rfl⟩
    have HXX := Lib.hid hx
    rw [hx] at d0 d1
    obtain ⟨s, l, a⟩ := x
    dsimp only at d0 d1
    have EE : Us.pendE T i = if s = 2 ∧ l = 0 then 0 else 16 := by
      unfold Us.pendE
      rw [if_neg (fun q => q h1), hj, hx]
    have ET : Us.pendT T i = if s = 2 ∧ l = 0 then T.set j ⟨3, l, a⟩ else T := by
      unfold Us.pendT
      rw [EE, hj, hx]
      by_cases q : s = 2 ∧ l = 0
      · rw [if_pos q, if_pos q, if_pos rfl]; rfl
      · rw [if_neg q, if_neg q, if_neg (by decide)]
    rw [EE, ET]
    have HN : Hid (j < T.length) := hn1
    subst hn2
    clear h h1 hj hx EE ET
    obtain ⟨n, hn⟩ : ∃ n, T.length = n := ⟨_, rfl⟩
    rw [hn] at hn1 H0 b0 ⊢
    have hlt : (j : Int) < (n : Int) := by omega
    have hge : 0 ≤ (j : Int) := by omega
    have S2 : Hid (TAt 52 B (w.setCell ⟨g, j * 3, none⟩ (.int .i64 3)) b (.slice (some ⟨g, 0, none⟩) n c) (T.set j ⟨3, l, a⟩)) := H0.out.setc tne2 j 0 HN.out (by omega) (.int .i64 3) ⟨3, l, a⟩ (by rw [HXX.out]; rfl)
    by_cases hs : s = 2
    · have hs' : (s == 2) = true := by simp [hs]
      by_cases hl : l = 0
      · rw [if_pos ⟨hs, hl⟩, if_pos ⟨hs, hl⟩]
        have hl' : (l == 0) = true := by simp [hl]
        clear hs hl
        go_enter Try.func31, Try.ntmps31
        go_wp2_with (go_at_call 41; refine HH.out.mono ?_; rintro e1 w1 ⟨rfl, rfl⟩)
        go_ret
        exact ⟨rfl, S2, Lib.hid (Tn.setc _)⟩
      · rw [if_neg (fun q => hl q.2), if_neg (fun q => hl q.2)]
        have hl' : (l == 0) = false := by simp [hl]
        clear hl hs
        go_enter Try.func31, Try.ntmps31
        go_wp2_with (go_at_call 41; refine HH.out.mono ?_; rintro e1 w1 ⟨rfl, rfl⟩)
        go_ret
        exact ⟨rfl, H0, Lib.hid (Tn.refl _ _)⟩
    · rw [if_neg (fun q => hs q.1), if_neg (fun q => hs q.1)]
      have hs' : (s == 2) = false := by simp [hs]
      clear hs
      go_enter Try.func31, Try.ntmps31
      go_wp2_with (go_at_call 41; refine HH.out.mono ?_; rintro e1 w1 ⟨rfl, rfl⟩)
      go_ret
      exact ⟨rfl, H0, Lib.hid (Tn.refl _ _)⟩
  · rw [decide_eq_false h1] at HH
    have EE : Us.pendE T i = 7 := by unfold Us.pendE; rw [if_pos h1]
    have ET : Us.pendT T i = T := by unfold Us.pendT; rw [EE, if_neg (by decide)]
    rw [EE, ET]
    clear h h1 EE ET
    go_enter Try.func31, Try.ntmps31
    go_wp2_with (go_at_call 41; refine HH.out.mono ?_; rintro e1 w1 ⟨rfl, rfl⟩)
    go_ret
    exact ⟨rfl, H0, Lib.hid (Tn.refl _ _)⟩
namespace Us
theorem relL_on {T : List S} {m : Nat} (hm : m < T.length) : at_ (relL (ixn 3 T m) T) m = at_ T m := by
  rw [relL_at _ _ _ (fun i hi => by have := (mem_ixn.1 hi).1; omega), if_neg (fun q => by have := (mem_ixn.1 q).1; omega)]
end Us
set_option maxHeartbeats 4000000 in
set_option maxRecDepth 100000 in
theorem rrelease_any {B b : Nat} {v : Value} {T : List Us.S} (w : World) (h : TAt 52 B w b v T) (hl : T.length ≤ 32) :
    Calls Try.prog 32 #[.pointer (some ⟨b, 0, none⟩)] w (TbSay 52 B b v (Us.relT T) (.int .i64 ((Us.ix 3 T).length : Int)) w) := by
  obtain ⟨p, c, rfl⟩ := h.own.len
  have H0 := Lib.hid h
  clear h
  obtain ⟨n, hn⟩ : ∃ n, T.length = n := ⟨_, rfl⟩
  rw [hn] at hl H0 ⊢
  have HN := Lib.hid hn
  clear hn
  go_enter Try.func32, Try.ntmps32
  go_wp2
  go_loopw [3, 4] (fun v3 v4 y => ∃ i a : Nat, i ≤ n ∧ v4 = .int .i64 i ∧ v3 = .int .i64 a ∧ Hid ((Us.ixn 3 T i).length = a) ∧ Hid (a ≤ i) ∧ Hid (TAt 52 B y b (.slice p n c) (Us.relL (Us.ixn 3 T i) T)) ∧ Hid (Tn (.slice p n c) w y)) (fun _ v4 _ => n - (intOf v4).toNat)
  case atStart => exact ⟨0, 0, by omega, rfl, rfl, rfl, Nat.le_refl _, H0, Tn.refl _ _⟩
  case round =>
    clear H0
    obtain ⟨i, a, hi, rfl, rfl, HA, HI, HS, HB⟩ := hrel
    have b0 := HS.out.cell
    have hl32 : n ≤ 32 := hl
    by_cases hlt : i < n
    · have hiT : i < T.length := by rw [HN.out]; exact hlt
      have HLN : Hid ((Us.relL (Us.ixn 3 T i) T).length = n) := by show _ = _; rw [Us.relL_len, HN.out]
      have HK : Hid (i < (Us.relL (Us.ixn 3 T i) T).length) := by show _ < _; rw [HLN.out]; exact hlt
      obtain ⟨g, c', hv⟩ := HS.out.own.isb i HK.out
      injection hv with q1 q2 q3
      subst q1
      clear q2 q3
      have d0 := (HS.out.own.cells i HK.out).1
      rw [Us.relL_on hiT] at d0
      have hk0 : (0 : Int) ≤ (i : Int) := by omega
      have hk1 : (i : Int) < (n : Int) := by omega
      have ha2 : a ≤ i := HI.out
      by_cases hs : (Us.at_ T i).s = 3
      · have HA2 : Hid ((Us.ixn 3 T (i + 1)).length = a + 1) := by show _ = _; rw [Us.ixn_yes hs, List.length_append, HA.out]; rfl
        have HTK : Hid ((Us.relL (Us.ixn 3 T i) T).set i Us.z = Us.relL (Us.ixn 3 T (i + 1)) T) := by show _ = _; rw [Us.ixn_yes hs, Us.relL_snoc]
        have hs' : ((Us.at_ T i).s == 3) = true := by simp [hs]
        clear hs HA hiT
        generalize (Us.at_ T i).s = s at d0 hs'
        generalize Us.relL (Us.ixn 3 T i) T = U at *
        go_wp2_with (first
          | ((with_reducible refine row_build0 _ _ build_sgn ?_))
          | ((with_reducible refine st_sg _ _ B g n c i (i * 3) rfl U Us.z HK.out ?_ ?_ HS.out.own ?_); (exact rfl); (exact rfl); intro w5 O5 C5))
        exact ⟨⟨i + 1, a + 1, by omega, by go_num, by go_num, HA2, Lib.hid (by have := HI.out; omega), by rw [← HTK.out]; exact HS.out.put tne2 rfl C5.out O5.out, HB.out.trans (Tn.chg C5.out rfl)⟩, by simp [intOf]; omega⟩
      · have HA2 : Hid ((Us.ixn 3 T (i + 1)).length = a) := by show _ = _; rw [Us.ixn_no hs]; exact HA.out
        have HS2 : Hid (TAt 52 B wr b (.slice (some ⟨g, 0, none⟩) n c) (Us.relL (Us.ixn 3 T (i + 1)) T)) := by show TAt _ _ _ _ _ _; rw [Us.ixn_no hs]; exact HS.out
        have hs' : ((Us.at_ T i).s == 3) = false := by simp [hs]
        clear hs HA hiT HS
        generalize (Us.at_ T i).s = s at d0 hs'
        go_wp2
        exact ⟨⟨i + 1, a, by omega, by go_num, rfl, HA2, Lib.hid (by have := HI.out; omega), HS2, HB⟩, by simp [intOf]; omega⟩
    · have hge : ¬ (i : Int) < (n : Int) := by omega
      have hin : i = T.length := by rw [HN.out]; omega
      have HS2 : Hid (TAt 52 B wr b (.slice p n c) (Us.relT T)) := by
        have := HS.out
        rw [hin] at this
        rw [← Us.relL_all]
        exact this
      have e : (Us.ix 3 T).length = a := by rw [← HA.out, hin]; rfl
      clear hin HS HA
      subst e
      clear hlt
      go_wp2
      go_ret
      exact ⟨rfl, HS2, HB⟩
def slLen : Option Value → Nat
  | some (.slice _ k _) => k
  | _ => 0
set_option maxHeartbeats 4000000 in
set_option maxRecDepth 100000 in
theorem rnew_any (nn : Int) (w : World) : Calls Try.prog 10 #[.int .i64 nn] w (NewSay 52 nn w) := by
  have hle := Us.cut_le nn 32 (by omega)
  obtain ⟨m, hm⟩ : ∃ m : Nat, Us.cut nn 32 = (m : Int) := ⟨(Us.cut nn 32).toNat, by omega⟩
  have hm32 : m ≤ 32 := by omega
  have HYES : Hid (∀ k : Nat, k < m → (k : Int) < nn ∧ (k : Int) < 32) := fun k hk => by
    have : (k : Int) < Us.cut nn 32 := by omega
    unfold Us.cut at this
    split at this
    · omega
    · split at this <;> omega
  have HNO : Hid (¬ (m : Int) < nn ∨ ((m : Int) < nn ∧ ¬ (m : Int) < 32)) := by
    have : (m : Int) = Us.cut nn 32 := hm.symm
    unfold Us.cut at this
    split at this
    · show _ ∨ _; omega
    · split at this <;> (show _ ∨ _; omega)
  have E : Us.new nn = List.replicate m Us.z := by unfold Us.new; rw [hm, Int.toNat_natCast]
  unfold NewSay
  rw [E]
  clear E hm hle
  obtain ⟨w0, hw0⟩ : ∃ y, y = w.alloc (.cells #[.slice none 0 0] 52) := ⟨_, rfl⟩
  have T0 : Hid (TAt 52 w.heap.size w0 w.heap.size (.slice none 0 0) []) := by rw [hw0]; exact ⟨heap_alloc_new w _, sgo_nil _ _, Nat.le_refl _⟩
  have B0 : Hid (Below w.heap.size w w0) := by rw [hw0]; exact (Below.refl _ w).alloc (Nat.le_refl _) _
  go_enter Try.func10, Try.ntmps10
  go_upto_region 2 with (fail)
  rw [← hw0]
  clear hw0
  go_loopw [6] (fun _ y => ∃ (k : Nat) (p : Option Addr) (c : Nat), k ≤ m ∧ y.cell? ⟨w.heap.size, 0, none⟩ = some (.slice p k c) ∧ Hid (TAt 52 w.heap.size y w.heap.size (.slice p k c) (List.replicate k Us.z)) ∧ Hid (Below w.heap.size w y)) (fun _ y => m - slLen (y.cell? ⟨w.heap.size, 0, none⟩))
  case atStart => exact ⟨0, none, 0, Nat.zero_le _, T0.out.cell, T0, B0⟩
  case round =>
    clear T0 B0
    obtain ⟨k, p, c, hk, c0, HS, HB⟩ := hrel
    by_cases hlt : k < m
    · obtain ⟨h1, h2⟩ := HYES.out k hlt
      have hk1 : k ≤ 10000 := by omega
      have f0 : wr.frozen? ⟨w.heap.size, 0, none⟩ = false := frozen_of_row wr _ _ _ _ HS.out.box
      have HRL : Hid ((List.replicate k Us.z).length = k) := List.length_replicate
      have HRA : Hid (List.replicate k Us.z ++ [Us.z] = List.replicate (k + 1) Us.z) := by show _ = _; rw [← List.replicate_succ']
      go_wp2_with (first
        | ((with_reducible refine row_build0 _ _ build_sgn ?_))
        | ((with_reducible refine bs_sg _ Us.z ?_ ?_); (exact rfl))
        | (at_builtin; refine app_sg _ _ w.heap.size _ (List.replicate k Us.z) [Us.z] ⟨wr.heap.size, 0, none⟩ 1 1 rfl rfl (HS.out.own.old ((Below.refl _ wr).alloc (Nat.le_refl _) _)) rfl (fun j u hu => by rw [Addr.add_mid, Nat.zero_add, cell_of_row _ wr.heap.size j _ _ _ (heap_alloc_new wr _)]; simpa using hu) k HRL.out hk1 (by omega) (Nat.le_trans HB.out.size (by simp)) ?_; intro q1 d1 w1 O1 G1; have K1 : Hid (Below w.heap.size w w1) := (HB.out.alloc HB.out.size _).grown G1.out (by simp; exact Nat.le_trans HB.out.size (Nat.le_succ _)) (fun j hj => (World.ownsRow.lt HS.out.own j hj).1); have X1 : Hid (w1.heap[w.heap.size]? = some (.cells #[.slice p k c] 52 (0, 0))) := (G1.out.block _ (Nat.lt_of_lt_of_le (lt_of_block HS.out.box) (by simp)) (fun q => HS.out.ne tne2 q.symm rfl)).trans ((heap_oldX _ _ (lt_of_block HS.out.box)).trans HS.out.box); have x1 : w1.cell? ⟨w.heap.size, 0, none⟩ = some (.slice p k c) := (by rw [cell_of_row _ _ _ _ _ _ X1.out]; rfl); have x2 : w1.frozen? ⟨w.heap.size, 0, none⟩ = false := frozen_of_row w1 _ _ _ _ X1.out))
      have T5 : Hid (TAt 52 w.heap.size (w1.setCell ⟨w.heap.size, 0, none⟩ (.slice q1 (k + 1) d1)) w.heap.size (.slice q1 (k + 1) d1) (List.replicate (k + 1) Us.z)) := by
        have hO := O1.out
        rw [HRA.out] at hO
        refine ⟨heap_setCell_same w1 _ 0 _ _ (.slice q1 (k + 1) d1) X1.out, hO.only (Chg.setCell w1 ⟨w.heap.size, 0, none⟩ _).only (fun q => ?_), Nat.le_refl _⟩
        obtain ⟨_, cur, hc⟩ := hO.blk q
        rw [X1.out] at hc
        injection hc with hc
        injection hc with _ hc _
        exact absurd hc (by decide)
      exact ⟨⟨k + 1, q1, d1, by omega, T5.out.cell, T5, K1.out.trans ((Only.below (Chg.setCell w1 ⟨w.heap.size, 0, none⟩ _).only (Below.refl _ w1) (Nat.le_refl _) K1.out.size))⟩, by rw [T5.out.cell, c0]; show m - (k + 1) < m - k; omega⟩
    · obtain rfl : k = m := by omega
      rcases HNO.out with h5 | ⟨h5, h6⟩
      · go_wp2
        go_ret
        first | exact ⟨_, rfl, ⟨_, HS⟩, HB⟩ | exact ⟨_, _, rfl, HS, HB⟩
      · obtain rfl : k = 32 := by omega
        go_wp2
        go_ret
        first | exact ⟨_, rfl, ⟨_, HS⟩, HB⟩ | exact ⟨_, _, rfl, HS, HB⟩
end Go.Proofs.Ytnnalemboeccbaa

/-
  The reference: contracts: there, now, New, Open, Count, CopySegs, Segs; SpoilSegs.
-/
import Derived.Test.YtnnalemboeccbaaUsJ
namespace Go.Proofs.Ytnnalemboeccbaa
open Go.RowKit

set_option maxHeartbeats 1000000 in
set_option maxRecDepth 100000 in
theorem there_any {B b : Nat} {v : Value} {T : List Us.S} (i : Int) (w : World) (h : TAt 52 B w b v T) : Calls Try.prog 41 #[.pointer (some ⟨b, 0, none⟩), .int .i64 i] w fun e w' => e = .returned (.bool (decide (Us.has T i))) ∧ w' = w := by
  obtain ⟨p, c, rfl⟩ := h.own.len
  have hc := h.cell
  clear h
  by_cases h0 : 0 ≤ i
  · by_cases h1 : i < (T.length : Int)
    · rw [decide_eq_true (show Us.has T i from ⟨h0, h1⟩)]
      have h0' : i ≥ 0 := h0
      go_enter Try.func41, Try.ntmps41
      go_wp2
      go_ret
      exact ⟨rfl, rfl⟩
    · rw [decide_eq_false (show ¬ Us.has T i from fun q => h1 q.2)]
      have h0' : i ≥ 0 := h0
      go_enter Try.func41, Try.ntmps41
      go_wp2
      go_ret
      exact ⟨rfl, rfl⟩
  · rw [decide_eq_false (show ¬ Us.has T i from fun q => h0 q.1)]
    have h0' : ¬ i ≥ 0 := by omega
    go_enter Try.func41, Try.ntmps41
    go_wp2
    go_ret
    exact ⟨rfl, rfl⟩
set_option maxHeartbeats 1000000 in
set_option maxRecDepth 100000 in
theorem now_any (n : Int) (w : World) : Calls Try.prog 42 #[.int .i64 n] w fun e w' => e = .returned (.int .i64 (Us.ageOf n)) ∧ w' = w := by
  unfold Us.ageOf Us.cut
  by_cases h0 : n < 0
  · rw [if_pos h0]
    go_enter Try.func42, Try.ntmps42
    go_wp2
    go_ret
    exact ⟨rfl, rfl⟩
  · rw [if_neg h0]
    by_cases h1 : 1099511627776 < n
    · rw [if_pos h1]
      have h1' : n > 1099511627776 := h1
      go_enter Try.func42, Try.ntmps42
      go_wp2
      go_ret
      exact ⟨rfl, rfl⟩
    · rw [if_neg h1]
      have h1' : ¬ n > 1099511627776 := h1
      go_enter Try.func42, Try.ntmps42
      go_wp2
      go_ret
      exact ⟨rfl, rfl⟩
set_option maxHeartbeats 1000000 in
set_option maxRecDepth 100000 in
theorem ropen_any {B b : Nat} {v : Value} {T : List Us.S} (w : World) (h : TAt 52 B w b v T) (hl : T.length ≤ 32) :
    Calls Try.prog 13 #[.pointer (some ⟨b, 0, none⟩)] w (NuSay (Us.open_ T) w) := by
  obtain ⟨p, c, rfl⟩ := h.own.len
  have HT : Hid (∀ y, Below w.heap.size w y → TAt 52 B y b (.slice p T.length c) T) := fun y hy => h.old hy
  clear h
  obtain ⟨n, hn⟩ : ∃ n, T.length = n := ⟨_, rfl⟩
  rw [hn] at hl HT
  have HN := Lib.hid hn
  clear hn
  have HYES : Hid (∀ k, k < n → (Us.at_ T k).s = 1 → (∀ j, j < k → (Us.at_ T j).s ≠ 1) → Us.open_ T = k) := fun k hk h1 h2 => by
    unfold Us.open_
    rw [Us.fx_some.2 ⟨by rw [HN.out]; exact hk, h1, h2⟩]
  have HNO : Hid ((∀ j, j < n → (Us.at_ T j).s ≠ 1) → Us.open_ T = -1) := fun h1 => by
    unfold Us.open_
    rw [Us.fx_none.2 (fun j hj => h1 j (by rw [← HN.out]; exact hj))]
  obtain ⟨R, hR⟩ : ∃ R, Us.open_ T = R := ⟨_, rfl⟩
  rw [hR] at HYES HNO ⊢
  clear hR
  go_enter Try.func13, Try.ntmps13
  go_wp2
  go_loopw [3] (fun v3 y => ∃ k : Nat, k ≤ n ∧ v3 = .int .i64 k ∧ Hid (∀ j, j < k → (Us.at_ T j).s ≠ 1) ∧ Hid (Below w.heap.size w y)) (fun v3 _ => n - (intOf v3).toNat)
  case atStart => exact ⟨0, by omega, rfl, fun j hj => by omega, Below.refl _ _⟩
  case round =>
    obtain ⟨k, hk, rfl, HF, HB⟩ := hrel
    have b0 := (HT.out _ HB.out).cell
    by_cases hlt : k < n
    · have HK : Hid (k < T.length) := by show _ < _; rw [HN.out]; exact hlt
      obtain ⟨g, c', hv⟩ := (HT.out _ HB.out).own.isb k HK.out
      injection hv with q1 q2 q3
      subst q1
      clear q2 q3
      have d0 := ((HT.out _ HB.out).own.cells k HK.out).1
      have HY := Lib.hid (HYES.out k hlt)
      have hk0 : (0 : Int) ≤ (k : Int) := by omega
      have hk1 : (k : Int) < (n : Int) := by omega
      by_cases hs : (Us.at_ T k).s = 1
      · have e := HY.out hs HF.out
        subst e
        have hs' : ((Us.at_ T k).s == 1) = true := by simp [hs]
        clear hs HY HYES HNO
        generalize (Us.at_ T k).s = s at *
        go_wp2
        go_ret
        exact ⟨rfl, HB.out⟩
      · have hs' : ((Us.at_ T k).s == 1) = false := by simp [hs]
        have HF2 : Hid (∀ j, j < k + 1 → (Us.at_ T j).s ≠ 1) := fun j hj => by
          by_cases e : j = k
          · rw [e]; exact hs
          · exact HF.out j (by omega)
        clear hs HY HF
        generalize (Us.at_ T k).s = s at d0 hs'
        go_wp2
        exact ⟨⟨k + 1, by omega, by go_num, HF2, HB⟩, by simp [intOf]; omega⟩
    · have hge : ¬ (k : Int) < (n : Int) := by omega
      have e := HNO.out (fun j hj => HF.out j (by omega))
      subst e
      clear hlt
      go_wp2
      go_ret
      exact ⟨rfl, HB.out⟩
set_option maxHeartbeats 1000000 in
set_option maxRecDepth 100000 in
theorem rcount_any {B b : Nat} {v : Value} {T : List Us.S} (k : Int) (w : World) (h : TAt 52 B w b v T) (hl : T.length ≤ 32) :
    Calls Try.prog 19 #[.pointer (some ⟨b, 0, none⟩), .int .i64 k] w (NuSay ((Us.ix k T).length : Int) w) := by
  obtain ⟨p, c, rfl⟩ := h.own.len
  have HT : Hid (∀ y, Below w.heap.size w y → TAt 52 B y b (.slice p T.length c) T) := fun y hy => h.old hy
  clear h
  obtain ⟨n, hn⟩ : ∃ n, T.length = n := ⟨_, rfl⟩
  rw [hn] at hl HT
  have HN := Lib.hid hn
  clear hn
  go_enter Try.func19, Try.ntmps19
  go_wp2
  go_loopw [5, 6] (fun v5 v6 y => ∃ i a : Nat, i ≤ n ∧ v6 = .int .i64 i ∧ v5 = .int .i64 a ∧ Hid ((Us.ixn k T i).length = a) ∧ Hid (a ≤ i) ∧ Hid (Below w.heap.size w y)) (fun _ v6 _ => n - (intOf v6).toNat)
  case atStart => exact ⟨0, 0, by omega, rfl, rfl, rfl, Nat.le_refl _, Below.refl _ _⟩
  case round =>
    obtain ⟨i, a, hi, rfl, rfl, HA, HI, HB⟩ := hrel
    have b0 := (HT.out _ HB.out).cell
    have hl32 : n ≤ 32 := hl
    by_cases hlt : i < n
    · have HK : Hid (i < T.length) := by show _ < _; rw [HN.out]; exact hlt
      obtain ⟨g, c', hv⟩ := (HT.out _ HB.out).own.isb i HK.out
      injection hv with q1 q2 q3
      subst q1
      clear q2 q3
      have d0 := ((HT.out _ HB.out).own.cells i HK.out).1
      have hk0 : (0 : Int) ≤ (i : Int) := by omega
      have hk1 : (i : Int) < (n : Int) := by omega
      have ha2 : a ≤ i := HI.out
      by_cases hs : (Us.at_ T i).s = k
      · have HA2 : Hid ((Us.ixn k T (i + 1)).length = a + 1) := by show _ = _; rw [Us.ixn_yes hs, List.length_append, HA.out]; rfl
        have hs' : ((Us.at_ T i).s == k) = true := by simp [hs]
        clear hs HA
        generalize (Us.at_ T i).s = s at d0 hs'
        go_wp2
        exact ⟨⟨i + 1, a + 1, by omega, by go_num, by go_num, HA2, Lib.hid (by have := HI.out; omega), HB⟩, by simp [intOf]; omega⟩
      · have HA2 : Hid ((Us.ixn k T (i + 1)).length = a) := by show _ = _; rw [Us.ixn_no hs]; exact HA.out
        have hs' : ((Us.at_ T i).s == k) = false := by simp [hs]
        clear hs HA
        generalize (Us.at_ T i).s = s at d0 hs'
        go_wp2
        exact ⟨⟨i + 1, a, by omega, by go_num, rfl, HA2, Lib.hid (by have := HI.out; omega), HB⟩, by simp [intOf]; omega⟩
    · have hge : ¬ (i : Int) < (n : Int) := by omega
      have e : (Us.ix k T).length = a := by
        have : i = T.length := by rw [HN.out]; omega
        rw [← HA.out, this]
        rfl
      subst e
      clear hlt
      go_wp2
      go_ret
      exact ⟨rfl, HB.out⟩
set_option maxHeartbeats 1000000 in
set_option maxRecDepth 100000 in
theorem copys_any {B : Nat} {v : Value} {T : List Us.S} (w : World) (h : SgO B w v T) (hl : T.length ≤ 1000) : Calls Try.prog 36 #[v] w (SegsSay T w) := by
  obtain ⟨p, c, rfl⟩ := h.len
  have HT : Hid (∀ y, Below w.heap.size w y → SgO B y (.slice p T.length c) T) := fun y hy => h.old hy
  clear h
  obtain ⟨n, hn⟩ : ∃ n, T.length = n := ⟨_, rfl⟩
  rw [hn] at hl HT ⊢
  have HN := Lib.hid hn
  clear hn
  go_enter Try.func36, Try.ntmps36
  go_wp2
  go_loopw [3, 4] (fun v i wr => ∃ k : Nat, k ≤ n ∧ i = .int .i64 k ∧ Hid (SgO w.heap.size wr v (T.take k)) ∧ Hid (Below w.heap.size w wr)) (fun _ i _ => n - (intOf i).toNat)
  case atStart => exact ⟨0, Nat.zero_le _, rfl, by rw [List.take_zero]; exact sgo_nil _ _, Below.refl _ _⟩
  case round =>
    obtain ⟨k, hk, rfl, HO, HB⟩ := hrel
    by_cases hlt : k < n
    · have HK : Hid (k < T.length) := by show _ < _; rw [HN.out]; exact hlt
      obtain ⟨g, c', hv⟩ := (HT.out _ HB.out).isb k HK.out
      injection hv with q1 q2 q3
      subst q1
      clear q2 q3
      have HR : Hid (wr.rangeAt g (k * 3) (SgA (Us.at_ T k)).toList) := (HT.out _ HB.out).rng k HK.out
      have HTT : Hid (T.take k ++ [Us.at_ T k] = T.take (k + 1)) := by
        show _ = _
        rw [List.take_add_one]
        unfold Us.at_
        rw [List.getD_eq_getElem?_getD, List.getElem?_eq_getElem HK.out]
        rfl
      have HLT : Hid ((T.take k).length = k) := by show _ = _; rw [List.length_take, HN.out]; omega
      generalize Us.at_ T k = x at *
      have hk1 : k ≤ 10000 := by omega
      have hi0 : 0 ≤ (k : Int) := by omega
      have hi1 : (k : Int) < (n : Int) := by omega
      go_wp2_with (first
        | ((with_reducible refine rng_load _ _ _ _ _ _ ?_ HR.out Try.underlying30 ?_ (sg_info x) ?_); (exact rfl); (exact rfl))
        | ((with_reducible refine bs_sg _ x ?_ ?_); (exact rfl))
        | (at_builtin; refine app_sg _ _ w.heap.size _ (T.take k) [x] ⟨wr.heap.size, 0, none⟩ 1 1 rfl rfl (HO.out.old ((Below.refl _ wr).alloc (Nat.le_refl _) _)) rfl (fun j u hu => by rw [Addr.add_mid, Nat.zero_add, cell_of_row _ wr.heap.size j _ _ _ (heap_alloc_new wr _)]; simpa using hu) k HLT.out hk1 (by omega) (Nat.le_trans HB.out.size (by simp)) ?_; intro q1 d1 w1 O1 G1; have K1 : Hid (Below w.heap.size w w1) := (HB.out.alloc HB.out.size _).grown G1.out (by simp; exact Nat.le_trans HB.out.size (Nat.le_succ _)) (fun j hj => (World.ownsRow.lt HO.out j hj).1)))
      exact ⟨⟨k + 1, by omega, by go_num, by rw [← HTT.out]; exact O1.out, K1⟩, by simp [intOf]; omega⟩
    · have E : k = n := by omega
      have HO2 : Hid (SgO w.heap.size wr u3 T) := by
        have := HO.out
        rw [E, ← HN.out, List.take_length] at this
        exact this
      have hge : n ≤ k := by omega
      clear hlt HO E
      go_wp2
      go_ret
      exact ⟨_, rfl, HO2, HB⟩
set_option maxHeartbeats 1000000 in
set_option maxRecDepth 100000 in
theorem rsegs_any {B b : Nat} {v : Value} {T : List Us.S} (w : World) (h : TAt 52 B w b v T) (hl : T.length ≤ 32) :
    Calls Try.prog 16 #[.pointer (some ⟨b, 0, none⟩)] w (SegsSay T w) := by
  have hc := h.cell
  have H1 := Lib.hid (copys_any w h.own (by omega))
  clear h
  go_enter Try.func16, Try.ntmps16
  go_wp2_with (go_at_call 36; refine H1.out.mono ?_; rintro e1 w1 ⟨v1, rfl, O1, B1⟩)
  go_ret
  exact ⟨_, rfl, O1, B1⟩
end Go.Proofs.Ytnnalemboeccbaa

/-
  UsageFills walked.
-/
import Derived.Test.YtnnalemboeccbaaUsJ
namespace Go.Proofs.Ytnnalemboeccbaa
open Go.RowKit

theorem IAt.old {w y : World} {p : Option Addr} {L : List Int} (h : IAt w p L) (hb : Below w.heap.size w y) : IAt y p L := fun h0 => by
  obtain ⟨ab, ao, e, hf⟩ := h h0
  exact ⟨ab, ao, e, fun j hj => (hb.cell (World.block_lt_of_cell? _ _ (hf j hj))).trans (hf j hj)⟩
set_option maxHeartbeats 1000000 in
theorem pickz_any (k n : Int) (h1 : 1 ≤ n) (hn : n ≤ 1000000000000000) (w : World) : Calls Try.prog 22 #[.int .i64 k, .int .i64 n] w fun r w' => w' = w ∧ ∃ j : Int, 0 ≤ j ∧ j < n ∧ r = .returned (.int .i64 j) := by
  have hlt : k.tmod n < n := Int.tmod_lt_of_pos k (by omega)
  have hge : -n < k.tmod n := by
    have h := Int.tmod_lt_of_pos (-k) (show 0 < n by omega)
    rw [Int.neg_tmod] at h
    omega
  have hw : IntKind.i64.wrap (k.tmod n) = k.tmod n := IntWalk.i64_in _ ⟨by omega, by omega⟩
  have hnz : n ≠ 0 := by omega
  have hw2 : IntKind.i64.wrap (k.tmod n + n) = k.tmod n + n := IntWalk.i64_in _ ⟨by omega, by omega⟩
  by_cases h0 : k.tmod n < 0
  · go_enter Try.func22, Try.ntmps22
    go_wp2
    go_ret
    exact ⟨rfl, k.tmod n + n, by omega, by omega, rfl⟩
  · have h0' : 0 ≤ k.tmod n := by omega
    go_enter Try.func22, Try.ntmps22
    go_wp2
    go_ret
    exact ⟨rfl, k.tmod n, by omega, by omega, rfl⟩
namespace Us
/-- A row behind i takes. -/
def fil (i j : Nat) : S := if j + 1 < i then ⟨2, 0, j⟩ else if j + 1 = i then ⟨1, 0, j⟩ else z
/-- A table of l, behind i takes. -/
def F (l i : Nat) : List S := (List.range l).map (fil i)
theorem F_len (l i : Nat) : (F l i).length = l := by unfold F; rw [List.length_map, List.length_range]
theorem F_at (l i j : Nat) (hj : j < l) : at_ (F l i) j = fil i j := by
  unfold at_ F
  rw [List.getD_eq_getElem?_getD, List.getElem?_map, List.getElem?_range hj]
  rfl
theorem F_zero (n : Int) : F (new n).length 0 = new n := by
  apply at_ext
  · exact F_len _ _
  · intro j hj
    rw [F_len] at hj
    rw [F_at _ _ _ hj]
    unfold new
    rw [at_rep]
    unfold fil
    rw [if_neg (by omega), if_neg (by omega)]
theorem F_free {l i : Nat} (hi : i < l) : fx 0 (F l i) = some i := by
  refine fx_some.2 ⟨by rw [F_len]; exact hi, ?_, fun j hj => ?_⟩
  · rw [F_at _ _ _ hi]
    unfold fil
    rw [if_neg (by omega), if_neg (by omega)]
    rfl
  · rw [F_at _ _ _ (by omega)]
    unfold fil
    by_cases e : j + 1 < i
    · rw [if_pos e]; simp
    · rw [if_neg e, if_pos (by omega)]; simp
theorem F_full (l : Nat) : fx 0 (F l l) = none := by
  refine fx_none.2 fun j hj => ?_
  rw [F_len] at hj
  rw [F_at _ _ _ hj]
  unfold fil
  by_cases e : j + 1 < l
  · rw [if_pos e]; simp
  · rw [if_neg e, if_pos (by omega)]; simp
theorem F_open {l i : Nat} (hi : i < l) : open_ (F l (i + 1)) = i := by
  have : fx 1 (F l (i + 1)) = some i := by
    refine fx_some.2 ⟨by rw [F_len]; exact hi, ?_, fun j hj => ?_⟩
    · rw [F_at _ _ _ hi]
      unfold fil
      rw [if_neg (by omega), if_pos rfl]
    · rw [F_at _ _ _ (by omega)]
      unfold fil
      rw [if_pos (by omega)]
      simp
  unfold open_
  rw [this]
theorem F_take {l i : Nat} (h : Inv (F l i)) (hi : i < l) (hl : l ≤ 32) : takeT (F l i) (i : Int) = F l (i + 1) ∧ takeI (F l i) = i ∧ takeB (F l i) = true := by
  have hf := F_free hi
  refine ⟨?_, by unfold takeI; rw [hf], by unfold takeB; rw [hf]; rfl⟩
  apply at_ext
  · rw [take_len, F_len, F_len]
  · intro j hj
    rw [take_len, F_len] at hj
    rw [take_at h hf _ j (by rw [F_len]; exact hj), F_at _ _ _ hj, F_at _ _ _ hj]
    have ha : ageOf (i : Int) = i := cut_in _ _ ⟨by omega, by omega⟩
    by_cases e : j = i
    · subst e
      rw [if_pos rfl, ha]
      unfold fil
      rw [if_neg (show ¬ j + 1 < j + 1 by omega), if_pos rfl]
    · rw [if_neg e]
      unfold fil
      by_cases e1 : j + 1 < i
      · rw [if_pos e1, if_pos (show j + 1 < i + 1 by omega)]
        rw [if_neg (by simp)]
      · rw [if_neg e1]
        by_cases e2 : j + 1 = i
        · rw [if_pos e2, if_pos (show j + 1 < i + 1 by omega), if_pos rfl]
          rfl
        · rw [if_neg e2, if_neg (show ¬ j + 1 < i + 1 by omega), if_neg (show ¬ j + 1 = i + 1 by omega), if_neg (by decide)]
/-- All full but the last one, which is open, and those that were pended, of which d is the first. -/
structure Gd (l : Nat) (T : List S) (d : Nat) : Prop where
  len : T.length = l
  last : ∀ j, j + 1 = l → (at_ T j).s = 1
  row : ∀ j, j + 1 < l → ((at_ T j).s = 2 ∧ (at_ T j).l = 0) ∨ (at_ T j).s = 3
  le : ∀ j, j < l → (at_ T j).s = 3 → d ≤ j
  is_ : d < l → (at_ T d).s = 3
  up : d ≤ l
theorem F_gd (l : Nat) : Gd l (F l l) l := by
  refine ⟨F_len _ _, fun j hj => ?_, fun j hj => Or.inl ?_, fun j hj h3 => ?_, fun h => by omega, Nat.le_refl _⟩
  · rw [F_at _ _ _ (by omega)]; unfold fil; rw [if_neg (by omega), if_pos hj]
  · rw [F_at _ _ _ (by omega)]; unfold fil; rw [if_pos hj]; exact ⟨rfl, rfl⟩
  · rw [F_at _ _ _ hj] at h3
    unfold fil at h3
    by_cases e : j + 1 < l
    · rw [if_pos e] at h3; simp at h3
    · rw [if_neg e, if_pos (by omega)] at h3; simp at h3
theorem Gd.pend {l d : Nat} {T : List S} (h : Gd l T d) {k : Nat} (hk : k + 1 < l) : Gd l (pendT T (k : Int)) (min d k) := by
  have hh : has T (k : Int) := by unfold has; rw [h.len]; omega
  have hkn : ((k : Int)).toNat = k := by omega
  rcases h.row k hk with ⟨h1, h2⟩ | h3
  · have e : pendE T (k : Int) = 0 := by unfold pendE; rw [if_neg (fun q => q hh), hkn, if_pos ⟨h1, h2⟩]
    have e2 : pendT T (k : Int) = T.set k (pended (at_ T k)) := by unfold pendT; rw [if_pos e, hkn]
    rw [e2]
    have hat : ∀ j, at_ (T.set k (pended (at_ T k))) j = if j = k then pended (at_ T k) else at_ T j := fun j => at_set _ _ _ _ (by rw [h.len]; omega)
    refine ⟨by rw [List.length_set]; exact h.len, fun j hj => ?_, fun j hj => ?_, fun j hj h3 => ?_, fun hd => ?_, by have := h.up; omega⟩
    · rw [hat, if_neg (by omega)]; exact h.last j hj
    · rw [hat]
      by_cases q : j = k
      · rw [if_pos q]; exact Or.inr rfl
      · rw [if_neg q]; exact h.row j hj
    · rw [hat] at h3
      by_cases q : j = k
      · omega
      · rw [if_neg q] at h3; have := h.le j hj h3; omega
    · rw [hat]
      by_cases q : min d k = k
      · rw [if_pos q]; rfl
      · rw [if_neg q]
        have : min d k = d := by omega
        rw [this]
        exact h.is_ (by omega)
  · have e : pendE T (k : Int) = 16 := by unfold pendE; rw [if_neg (fun q => q hh), hkn, if_neg (fun q => by rw [h3] at q; exact absurd q.1 (by decide))]
    have e2 : pendT T (k : Int) = T := by unfold pendT; rw [e, if_neg (by decide)]
    have hd := h.le k (by omega) h3
    rw [e2, show min d k = d by omega]
    exact h
theorem Gd.rel {l d : Nat} {T : List S} (h : Gd l T d) : (d < l → fx 0 (relT T) = some d) ∧ (¬ d < l → fx 0 (relT T) = none) := by
  have hs : ∀ j, j < l → (at_ (relT T) j).s = if (at_ T j).s = 3 then 0 else (at_ T j).s := fun j hj => by
    rw [rel_at T j (by rw [h.len]; exact hj)]
    unfold rel1
    split <;> rfl
  have hne : ∀ j, j < l → (at_ T j).s ≠ 0 := fun j hj => by
    by_cases q : j + 1 = l
    · rw [h.last j q]; decide
    · rcases h.row j (by omega) with q | q
      · rw [q.1]; decide
      · rw [q]; decide
  refine ⟨fun hd => fx_some.2 ⟨by rw [rel_len, h.len]; exact hd, ?_, fun j hj => ?_⟩, fun hd => fx_none.2 fun j hj => ?_⟩
  · rw [hs d hd, if_pos (h.is_ hd)]
  · rw [hs j (by omega)]
    by_cases q : (at_ T j).s = 3
    · have := h.le j (by omega) q; omega
    · rw [if_neg q]; exact hne j (by omega)
  · rw [rel_len, h.len] at hj
    rw [hs j hj]
    by_cases q : (at_ T j).s = 3
    · have := h.le j hj q; omega
    · rw [if_neg q]; exact hne j hj
theorem Gd.took {l d : Nat} {T : List S} (h : Gd l T d) : takeB (relT T) = decide (d < l) ∧ (d < l → takeI (relT T) = d) := by
  by_cases q : d < l
  · have e := h.rel.1 q
    refine ⟨?_, fun _ => by unfold takeI; rw [e]⟩
    unfold takeB
    rw [e, decide_eq_true q]
    rfl
  · have e := h.rel.2 q
    refine ⟨?_, fun q2 => absurd q2 q⟩
    unfold takeB
    rw [e, decide_eq_false q]
    rfl
end Us
set_option maxHeartbeats 8000000 in
set_option maxRecDepth 100000 in
theorem fills_any (n : Int) (L : List Int) (p : Option Addr) (m c : Nat) (hm : L.length = m) (w : World) (hp : IAt w p L) : Calls Try.prog 7 #[.int .i64 n, .slice p m c] w (YesSay w) := by
  have HW : Hid (∀ y, Calls Try.prog 8 #[] y (YesSay y)) := fun y => works_any y
  have HP : Hid (∀ y, Below w.heap.size w y → IAt y p L) := fun y hy => hp.old hy
  have HM := Lib.hid hm
  clear hp hm
  by_cases h100 : 100 < m
  · have h100' : (m : Int) > 100 := by omega
    clear h100
    go_enter Try.func7, Try.ntmps7
    go_wp2_with (go_at_call 8; refine (HW.out _).mono ?_; rintro e1 w1 ⟨rfl, hb1⟩)
    go_ret
    exact ⟨rfl, hb1⟩
  have h100' : ¬ (m : Int) > 100 := by omega
  obtain ⟨l, hl⟩ : ∃ l : Nat, (Us.new n).length = l := ⟨_, rfl⟩
  have HL2 : Hid ((l : Int) = Us.cut n 32) := by have hc := Us.cut_le n 32 (by omega); show _ = _; rw [← hl, Us.new_len]; omega
  have HF0 : Hid (Us.new n = Us.F l 0) := by show _ = _; rw [← hl]; exact (Us.F_zero n).symm
  have HL32 : Hid (l ≤ 32) := by have := (Us.new_inv n).len; show _ ≤ _; rw [← hl]; exact this
  clear hl h100
  go_enter Try.func7, Try.ntmps7
  go_upto_region 4 with (first
    | (go_at_call 9; refine (tp_new n w w (Below.refl _ _)).mono ?_; rintro e0 w0 ⟨b, v, rfl, H0⟩))
  go_cut [6] from 23 to 25 (fun v6 y => v6 = .int .i64 l ∧ y = w0)
  case first =>
    by_cases h0 : n < 0
    · have e : Us.cut n 32 = 0 := by unfold Us.cut; rw [if_pos h0]
      obtain rfl : l = 0 := by have := HL2.out; omega
      clear e HL2
      go_wp2
      all_goals first | (exfalso; split at * <;> omega) | (go_meet; case rel => exact ⟨rfl, rfl⟩)
    · by_cases h1 : 32 < n
      · have e : Us.cut n 32 = 32 := by unfold Us.cut; rw [if_neg h0, if_pos h1]
        obtain rfl : l = 32 := by have := HL2.out; omega
        clear e HL2
        go_wp2
        all_goals first | (exfalso; split at * <;> omega) | (go_meet; case rel => exact ⟨rfl, rfl⟩)
      · have e : Us.cut n 32 = n := by unfold Us.cut; rw [if_neg h0, if_neg h1]
        obtain rfl : n = (l : Int) := by have := HL2.out; omega
        clear e HL2
        go_wp2
        all_goals first | (exfalso; split at * <;> omega) | (go_meet; case rel => exact ⟨rfl, rfl⟩)
  case rest =>
    obtain ⟨rfl, rfl⟩ := hcut
    rw [HF0.out] at H0
    clear HF0 HL2
    go_wp2
    go_loopw [7, 8, 9] (fun v7 _ _ wr => ∃ i : Nat, i ≤ l ∧ v7 = .int .i64 i ∧ Hid (Tp w wr b v (Us.F l i))) (fun v7 _ _ _ => l - (intOf v7).toNat)
    case atStart => exact ⟨0, Nat.zero_le _, rfl, H0⟩
    case round =>
      as_aux_lemma =>
        clear H0
        obtain ⟨i, hi, rfl, HS⟩ := hrel
        by_cases hlt : i < l
        · have hl32 : l ≤ 32 := HL32.out
          have HT : Hid (∀ y, Tp w y b v (Us.F l i) → Calls Try.prog 21 #[.pointer (some ⟨b, 0, none⟩), .int .i64 (i : Int)] y (TpSay w b v (Us.F l (i + 1)) (.tuple #[.int .i64 (i : Int), .bool true]) y)) := fun y h => by
            have := tp_take (i : Int) h
            obtain ⟨e1, e2, e3⟩ := Us.F_take h.inv hlt hl32
            rw [e1, e2, e3] at this
            exact this
          have HO : Hid (∀ y, Tp w y b v (Us.F l (i + 1)) → Calls Try.prog 12 #[.pointer (some ⟨b, 0, none⟩)] y (TpSay w b v (Us.F l (i + 1)) (.int .i64 (i : Int)) y)) := fun y h => by
            have := tp_open h
            rw [Us.F_open hlt] at this
            exact this
          have hi0 : (0 : Int) ≤ (i : Int) := by omega
          have hi1 : (i : Int) < (l : Int) := by omega
          go_wp2_with (first
            | (go_at_call 21; refine (HT.out _ HS.out).mono ?_; rintro e2 w2 ⟨rfl, H2, _⟩)
            | (go_at_call 12; refine (HO.out _ H2.out).mono ?_; rintro e3 w3 ⟨rfl, H3, _⟩))
          exact ⟨⟨i + 1, by omega, by go_num, H3⟩, by simp [intOf]; omega⟩
        · obtain rfl : i = l := by omega
          have HT : Hid (∀ y, Tp w y b v (Us.F i i) → Calls Try.prog 21 #[.pointer (some ⟨b, 0, none⟩), .int .i64 0] y (TpSay w b v (Us.F i i) (.tuple #[.int .i64 0, .bool false]) y)) := fun y h => by
            have := tp_take 0 h
            have hf := Us.F_full i
            rw [show Us.takeT (Us.F i i) 0 = Us.F i i by unfold Us.takeT; rw [hf], show Us.takeI (Us.F i i) = 0 by unfold Us.takeI; rw [hf], show Us.takeB (Us.F i i) = false by unfold Us.takeB; rw [hf]; rfl] at this
            exact this
          have hge : ¬ (i : Int) < (i : Int) := by omega
          have HG0 : Hid (Us.Gd i (Us.F i i) i) := Us.F_gd i
          generalize Us.F i i = T0 at *
          go_wp2_with (go_at_call 21; refine (HT.out _ HS.out).mono ?_; rintro e2 w2 ⟨rfl, H2, _⟩)
          clear HT HS hge hlt hi
          go_loopw [12, 13, 14] (fun v12 v13 _ wr => ∃ (q d : Nat) (T : List Us.S), q ≤ m ∧ v12 = .int .i64 d ∧ v13 = .int .i64 q ∧ Hid (Us.Gd i T d) ∧ Hid (Tp w wr b v T)) (fun _ v13 _ _ => m - (intOf v13).toNat)
          case atStart => exact ⟨0, i, _, Nat.zero_le _, rfl, rfl, HG0, H2⟩
          case round =>
            as_aux_lemma =>
              clear HG0 H2
              obtain ⟨q, d, T, hq, rfl, rfl, HG, HS⟩ := hrel
              by_cases hqm : q < m ∧ 1 < i
              · obtain ⟨hqm, h1i⟩ := hqm
                have hl32 : i ≤ 32 := HL32.out
                obtain ⟨ab, ao, rfl, hcl⟩ := HP.out _ HS.out.old (by rw [HM.out]; omega)
                have c0 := hcl q (by rw [HM.out]; exact hqm)
                generalize L.getD q 0 = x at *
                clear hcl
                have hw1 : IntKind.i64.wrap ((i : Int) - 1) = (i : Int) - 1 := IntWalk.i64_in _ ⟨by omega, by omega⟩
                have HK : Hid (∀ y, Calls Try.prog 22 #[.int .i64 x, .int .i64 ((i : Int) - 1)] y fun r w' => w' = y ∧ ∃ j : Int, 0 ≤ j ∧ j < (i : Int) - 1 ∧ r = .returned (.int .i64 j)) := fun y => pickz_any x _ (by omega) (by omega) y
                have HPD : Hid (∀ y (k : Nat), Tp w y b v T → Calls Try.prog 23 #[.pointer (some ⟨b, 0, none⟩), .int .i64 (k : Int)] y (TpSay w b v (Us.pendT T (k : Int)) (.int .i64 (Us.pendE T (k : Int))) y)) := fun y k h => tp_pend (k : Int) h
                have hq0 : (0 : Int) ≤ (q : Int) := by omega
                have hq1 : (q : Int) < (m : Int) := by omega
                have hi1 : (i : Int) > 1 := by omega
                go_upto_region 20 with (first
                  | (go_at_call 22; refine (HK.out _).mono ?_; rintro e3 w3 ⟨rfl, jj, hj0, hj1, rfl⟩; obtain ⟨k, rfl⟩ : ∃ k : Nat, jj = (k : Int) := ⟨jj.toNat, by omega⟩)
                  | (go_at_call 23; refine (HPD.out _ k HS.out).mono ?_; rintro e4 w4 ⟨rfl, H4, _⟩))
                have HG4 : Hid (Us.Gd i (Us.pendT T (k : Int)) (min d k)) := HG.out.pend (by omega)
                clear HG HK HPD hw1
                by_cases hdk : d ≤ k
                · have e : min d k = d := by omega
                  rw [e] at HG4
                  have hdk' : (d : Int) ≤ (k : Int) := by omega
                  go_wp2
                  all_goals first | (exfalso; omega) | exact ⟨⟨q + 1, d, _, by omega, rfl, by go_num, HG4, H4⟩, by simp [intOf]; omega⟩
                · have e : min d k = k := by omega
                  rw [e] at HG4
                  have hdk' : (k : Int) < (d : Int) := by omega
                  go_wp2
                  all_goals first | (exfalso; omega) | exact ⟨⟨q + 1, k, _, by omega, rfl, by go_num, HG4, H4⟩, by simp [intOf]; omega⟩
              · have hcase : ¬ (q : Int) < (m : Int) ∨ ((q : Int) < (m : Int) ∧ ¬ (i : Int) > 1) := by omega
                have HR : Hid (∀ y, Tp w y b v T → Calls Try.prog 24 #[.pointer (some ⟨b, 0, none⟩)] y (TpSay w b v (Us.relT T) (.int .i64 ((Us.ix 3 T).length : Int)) y)) := fun y h => tp_release h
                have HTK : Hid (∀ y, Tp w y b v (Us.relT T) → Calls Try.prog 21 #[.pointer (some ⟨b, 0, none⟩), .int .i64 1] y (TpSay w b v (Us.takeT (Us.relT T) 1) (.tuple #[.int .i64 (Us.takeI (Us.relT T)), .bool (decide (d < i))]) y)) := fun y h => by
                  have := tp_take 1 h
                  rw [HG.out.took.1] at this
                  exact this
                have HTI : Hid (d < i → Us.takeI (Us.relT T) = d) := HG.out.took.2
                clear hqm HG
                generalize Us.takeI (Us.relT T) = ti at *
                by_cases hdi : d < i
                · have hti := HTI.out hdi
                  subst hti
                  rw [decide_eq_true hdi] at HTK
                  have hdi' : (d : Int) < (i : Int) := by omega
                  clear HTI hdi
                  rcases hcase with h5 | ⟨h5, h6⟩
                  · go_wp2_with (first
                      | (go_at_call 24; refine (HR.out _ HS.out).mono ?_; rintro e5 w5 ⟨rfl, H5, _⟩)
                      | (go_at_call 21; refine (HTK.out _ H5.out).mono ?_; rintro e6 w6 ⟨rfl, H6, _⟩)
                      | (go_at_call 8; refine (HW.out _).mono ?_; rintro e9 w9 ⟨rfl, hb9⟩))
                    go_ret
                    exact ⟨rfl, H6.out.old.trans (hb9.mono H6.out.old.size)⟩
                  · go_wp2_with (first
                      | (go_at_call 24; refine (HR.out _ HS.out).mono ?_; rintro e5 w5 ⟨rfl, H5, _⟩)
                      | (go_at_call 21; refine (HTK.out _ H5.out).mono ?_; rintro e6 w6 ⟨rfl, H6, _⟩)
                      | (go_at_call 8; refine (HW.out _).mono ?_; rintro e9 w9 ⟨rfl, hb9⟩))
                    go_ret
                    exact ⟨rfl, H6.out.old.trans (hb9.mono H6.out.old.size)⟩
                · rw [decide_eq_false hdi] at HTK
                  have hdi' : ¬ (d : Int) < (i : Int) := by omega
                  have hdd : decide (d < i) = false := decide_eq_false hdi
                  clear HTI hdi
                  rcases hcase with h5 | ⟨h5, h6⟩
                  · go_wp2_with (first
                      | (go_at_call 24; refine (HR.out _ HS.out).mono ?_; rintro e5 w5 ⟨rfl, H5, _⟩)
                      | (go_at_call 21; refine (HTK.out _ H5.out).mono ?_; rintro e6 w6 ⟨rfl, H6, _⟩)
                      | (go_at_call 8; refine (HW.out _).mono ?_; rintro e9 w9 ⟨rfl, hb9⟩))
                    go_ret
                    exact ⟨rfl, H6.out.old.trans (hb9.mono H6.out.old.size)⟩
                  · go_wp2_with (first
                      | (go_at_call 24; refine (HR.out _ HS.out).mono ?_; rintro e5 w5 ⟨rfl, H5, _⟩)
                      | (go_at_call 21; refine (HTK.out _ H5.out).mono ?_; rintro e6 w6 ⟨rfl, H6, _⟩)
                      | (go_at_call 8; refine (HW.out _).mono ?_; rintro e9 w9 ⟨rfl, hb9⟩))
                    go_ret
                    exact ⟨rfl, H6.out.old.trans (hb9.mono H6.out.old.size)⟩
end Go.Proofs.Ytnnalemboeccbaa

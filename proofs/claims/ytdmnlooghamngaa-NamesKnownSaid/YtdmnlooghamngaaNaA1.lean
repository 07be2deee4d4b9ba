/-
  Big; the law NamesApart in plain lists.
-/
import Derived.Test.YtdmnlooghamngaaNaX
namespace Go.Proofs.Ytdmnlooghamngaa
open Go.RowKit

namespace Nm
/-- What Big counts. -/
def cnt (L : List (List Int)) : Nat → Nat
  | 0 => 0
  | k + 1 => cnt L k + min (L.getD k []).length 4097
theorem cnt_mono (L : List (List Int)) : ∀ k m, k ≤ m → cnt L k ≤ cnt L m
  | k, 0, h => by
    obtain rfl : k = 0 := by omega
    exact Nat.le_refl _
  | k, m + 1, h => by
    by_cases e : k = m + 1
    · subst e; exact Nat.le_refl _
    · have := cnt_mono L k m (by omega)
      rw [cnt]
      omega
def big (L : List (List Int)) : Bool := decide (100 < L.length) || decide (4096 < cnt L L.length)
theorem big_small {L : List (List Int)} (h : big L = false) : L.length ≤ 100 ∧ ∀ l ∈ L, l.length ≤ 4096 := by
  unfold big at h
  simp only [Bool.or_eq_false_iff, decide_eq_false_iff_not] at h
  refine ⟨by omega, fun l hl => ?_⟩
  obtain ⟨r, hr⟩ := List.getElem?_of_mem hl
  have hlt := (List.getElem?_eq_some_iff.1 hr).1
  have h1 := cnt_mono L (r + 1) L.length (by omega)
  have h2 : L.getD r [] = l := by rw [List.getD_eq_getElem?_getD, hr]; rfl
  rw [cnt, h2] at h1
  omega
theorem big_long {L : List (List Int)} (h : 100 < L.length) : big L = true := by unfold big; rw [decide_eq_true h]; rfl
theorem big_cnt {L : List (List Int)} {k : Nat} (hk : k ≤ L.length) (h : 4096 < cnt L k) : big L = true := by
  unfold big
  have := cnt_mono L k L.length hk
  rw [decide_eq_true (p := 4096 < cnt L L.length) (by omega), Bool.or_true]
theorem big_none {L : List (List Int)} (h1 : L.length ≤ 100) (h2 : cnt L L.length ≤ 4096) : big L = false := by
  unfold big
  rw [decide_eq_false (by omega), decide_eq_false (by omega)]
  rfl
theorem cnt_succ (L : List (List Int)) (k : Nat) : cnt L (k + 1) = cnt L k + min (L.getD k []).length 4097 := rfl
attribute [irreducible] big cnt

/-- The texts that were summed, each once. -/
def tx (L : List (List Int)) : Nat → List (List Int)
  | 0 => []
  | k + 1 => match L[k]? with
    | some l => put l (tx L k)
    | none => tx L k
theorem tx_succ {L : List (List Int)} {k : Nat} {l : List Int} (h : L[k]? = some l) : tx L (k + 1) = put l (tx L k) := by rw [tx, h]
theorem tx_len (L : List (List Int)) : ∀ k, (tx L k).length ≤ k
  | 0 => Nat.le_refl _
  | k + 1 => by
    rw [tx]
    have := tx_len L k
    split
    · have := put_len (x := ‹List Int›) (l := tx L k); omega
    · omega
theorem tx_keep (L : List (List Int)) {y : List Int} {k : Nat} (h : place y (tx L k) ≠ 0) : ∀ m, place y (tx L (k + m)) = place y (tx L k)
  | 0 => rfl
  | m + 1 => by
    rw [show k + (m + 1) = (k + m) + 1 by omega, tx]
    have ih := tx_keep L h m
    cases L[k + m]? with
    | none => exact ih
    | some l =>
      dsimp only
      rw [place_put (by rw [ih]; exact h), ih]
/-- The sum of the j-th text. -/
def sq (L : List (List Int)) (j : Nat) : List Int := tg 1 (place (L.getD j []) (tx L L.length))
theorem place_last {L : List (List Int)} {j : Nat} {l : List Int} (h : L[j]? = some l) : place l (tx L L.length) = num l (tx L j) ∧ place l (tx L L.length) ≠ 0 := by
  have hj := (List.getElem?_eq_some_iff.1 h).1
  have h1 : place l (tx L (j + 1)) = num l (tx L j) := by rw [tx_succ h, num_place]
  have h2 : place l (tx L (j + 1)) ≠ 0 := by rw [h1]; have := num_pos (x := l) (l := tx L j); omega
  have h3 := tx_keep L h2 (L.length - (j + 1))
  rw [show j + 1 + (L.length - (j + 1)) = L.length by omega] at h3
  exact ⟨by rw [h3, h1], by rw [h3]; exact h2⟩
def tst (L : List (List Int)) (k : Nat) : St := ⟨[], tx L k⟩
theorem getD_of {L : List (List Int)} {j : Nat} {l : List Int} (h : L[j]? = some l) : L.getD j [] = l := by rw [List.getD_eq_getElem?_getD, h]; rfl
theorem sm_tst {L : List (List Int)} {j : Nat} {l : List Int} (h : L[j]? = some l) : sm (tst L j) l = sq L j := by
  unfold sm sq tst
  rw [getD_of h, (place_last h).1]
theorem smd_tst {L : List (List Int)} {j : Nat} {l : List Int} (h : L[j]? = some l) : smd (tst L j) l = tst L (j + 1) := by
  unfold smd tst
  rw [tx_succ h]
theorem sm_end {L : List (List Int)} {j : Nat} {l : List Int} (h : L[j]? = some l) : sm (tst L L.length) l = sq L j := by
  unfold sm sq tst
  rw [getD_of h, num_same (place_last h).2]
theorem smd_end {L : List (List Int)} {j : Nat} {l : List Int} (h : L[j]? = some l) : smd (tst L L.length) l = tst L L.length := by
  unfold smd tst
  dsimp only
  rw [put_same (place_last h).2]
theorem sq_iff {L : List (List Int)} {i j : Nat} {a b : List Int} (hn : L.length ≤ 100) (ha : L[i]? = some a) (hb : L[j]? = some b) : (sq L i = sq L j) ↔ a = b := by
  unfold sq
  rw [getD_of ha, getD_of hb]
  constructor
  · intro h
    have h1 := place_le (x := a) (l := tx L L.length)
    have h2 := place_le (x := b) (l := tx L L.length)
    have h3 := tx_len L L.length
    have h4 := tg_inj _ _ _ (by omega) (by omega) h
    exact place_inj (by omega) (place_last ha).2
  · rintro rfl; rfl
theorem sq_len (L : List (List Int)) (j : Nat) : (sq L j).length = 32 := tg_len _ _
theorem tst_ts (L : List (List Int)) (k : Nat) : (tst L k).ts.length ≤ k := tx_len L k
theorem tst_zero (L : List (List Int)) : tst L 0 = St.none := rfl
/-- The first k sums, one behind the other. -/
def fl32 (L : List (List Int)) : Nat → List Int
  | 0 => []
  | k + 1 => fl32 L k ++ sq L k
theorem fl32_succ (L : List (List Int)) (k : Nat) : fl32 L (k + 1) = fl32 L k ++ sq L k := rfl
theorem fl32_len (L : List (List Int)) : ∀ k, (fl32 L k).length = k * 32
  | 0 => rfl
  | k + 1 => by rw [fl32, List.length_append, fl32_len L k, sq_len]; omega
theorem fl32_at (L : List (List Int)) {j i : Nat} (hi : i < 32) : ∀ k, j < k → (fl32 L k)[j * 32 + i]? = (sq L j)[i]?
  | 0, h => by omega
  | k + 1, h => by
    rw [fl32]
    by_cases e : j = k
    · subst e
      rw [List.getElem?_append_right (by rw [fl32_len]; omega), fl32_len]
      congr 1
      omega
    · rw [List.getElem?_append_left (by rw [fl32_len]; omega)]
      exact fl32_at L hi k (by omega)
attribute [irreducible] tst sq fl32
end Nm

set_option maxHeartbeats 1000000 in
set_option maxRecDepth 100000 in
theorem big_any (L : List (List Int)) (tp : Option Addr) (n cap : Nat) (hn : L.length = n) (w : World) (hr : BRows w tp L) :
    Calls Try.prog 28 #[.slice tp n cap, .int .i64 100, .int .i64 4096] w (EqSay (Nm.big L) w) := by
  have HR := Lib.hid hr; clear hr
  have HN := Lib.hid hn; clear hn
  by_cases h100 : (100 : Int) < (n : Int)
  · go_enter Try.func28, Try.ntmps28
    go_wp2
    go_ret
    exact ⟨by rw [Nm.big_long (by rw [HN.out]; omega)]; rfl, Below.refl _ _⟩
  · have hn100 : n ≤ 100 := by omega
    go_enter Try.func28, Try.ntmps28
    go_wp2
    go_loop [7, 8] (fun v7 v8 => ∃ k c : Nat, k ≤ n ∧ v8 = .int .i64 k ∧ v7 = .int .i64 c ∧ c ≤ 4096 ∧ Hid (c = Nm.cnt L k)) (fun _ v8 => n - (intOf v8).toNat)
    case atStart => exact ⟨0, 0, Nat.zero_le _, rfl, rfl, by omega, by unfold Nm.cnt; rfl⟩
    case round =>
      obtain ⟨k, c, hk, rfl, rfl, hc, HC⟩ := hrel
      by_cases hlt : k < n
      · obtain ⟨tb, tf, rfl, _, hrow⟩ := HR.out (by rw [HN.out]; omega)
        obtain ⟨p, cp, c0, hb⟩ := hrow k (by rw [HN.out]; exact hlt)
        have HCS := Lib.hid (Nm.cnt_succ L k)
        have hl := hb.cap
        generalize (L.getD k []).length = l at *
        have hk0 : 0 ≤ (k : Int) := by omega
        have hk1 : (k : Int) < (n : Int) := by omega
        have HKN : Hid (k + 1 ≤ L.length) := by show _ ≤ _; rw [HN.out]; omega
        clear hrow hb
        by_cases h4 : (4097 : Int) < (l : Int)
        · go_wp2
          go_ret
          exact ⟨by rw [Nm.big_cnt HKN.out (by rw [HCS.out, ← HC.out]; omega)]; rfl, Below.refl _ _⟩
        go_wp2
        all_goals first
          | (go_ret; exact ⟨by rw [Nm.big_cnt HKN.out (by rw [HCS.out, ← HC.out]; omega)]; rfl, Below.refl _ _⟩)
          | (go_round
             case rel => exact ⟨k + 1, c + l, by omega, by go_num, by rw [Int.natCast_add], by omega, by show _ = _; rw [HCS.out, ← HC.out]; omega⟩
             case measure => simp [intOf]; omega)
      · obtain rfl : k = n := by omega
        clear hlt
        have hbn : Nm.big L = false := Nm.big_none (by rw [HN.out]; omega) (by rw [HN.out, ← HC.out]; exact hc)
        go_wp2
        go_ret
        exact ⟨rfl, Below.refl _ _⟩
end Go.Proofs.Ytdmnlooghamngaa

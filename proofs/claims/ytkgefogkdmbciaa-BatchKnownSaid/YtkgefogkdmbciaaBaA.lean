/-
  Entries and summaries in plain lists.
-/
import Derived.Test.YtkgefogkdmbciaaPaX0
namespace Go.Proofs.Ytkgefogkdmbciaa
open Go.RowKit

namespace Bt
structure En where
  k : Int
  b : Int
  s : Int
  u : List Int
def En.ok (x : En) : Prop := Pk.In64 x.k ∧ Pk.In64 x.b ∧ Pk.In64 x.s ∧ x.u.length = 32 ∧ Sha.Byt x.u
def Z : List Int := List.replicate 32 0
theorem z_len : Z.length = 32 := by simp [Z]
theorem z_byt : Sha.Byt Z := byt_rep 32 0 (by omega)
def en0 : En := ⟨0, 0, 0, Z⟩
theorem in0 : Pk.In64 0 := ⟨by decide, by decide⟩
theorem en0_ok : en0.ok := ⟨in0, in0, in0, z_len, z_byt⟩
def cells (x : En) : List Value := .int .i64 x.k :: .int .i64 x.b :: .int .i64 x.s :: x.u.map (Value.int .u8)
theorem cells_len {x : En} (h : x.ok) : (cells x).length = 35 := by simp [cells, h.2.2.2.1]
/-- What is wrong with an entry alone; behind the slot last; the last slot behind it. -/
def al (x : En) : Int :=
  if x.k = 1 then (if 0 ≤ x.b ∧ x.b ≤ 63 ∧ 0 ≤ x.s ∧ x.s ≤ 63 then 0 else 7)
  else if x.k = 3 then (if 0 ≤ x.b ∧ x.b ≤ 8 ∧ 0 ≤ x.s ∧ x.s ≤ 63 then 0 else 7)
  else if x.k = 2 then (if 0 ≤ x.b ∧ x.b ≤ 63 ∧ x.s = 0 ∧ x.u = Z then 0 else 7)
  else 5
def er (last : Int) (x : En) : Int := if al x ≠ 0 then al x else if x.k = 2 then 0 else if 0 ≤ last ∧ x.s - last ≠ 1 then 8 else 0
def nl (last : Int) (x : En) : Int := if x.k = 2 then last else x.s
def go (last : Int) : List En → Int
  | [] => 0
  | x :: r => if er last x ≠ 0 then er last x else go (nl last x) r
def ck (t n : Int) (L : List En) : Int := if 16 < L.length then 17 else if 0 ≤ t ∧ t ≤ 1099511627776 ∧ -1 ≤ n ∧ n ≤ 31 then go (-1) L else 7
theorem al_slot {x : En} (h : al x = 0) : 0 ≤ x.s ∧ x.s ≤ 63 := by
  unfold al at h
  split at h
  · split at h <;> omega
  · split at h
    · split at h <;> omega
    · split at h
      · split at h <;> omega
      · omega
theorem er_al {last : Int} {x : En} (h : er last x = 0) : al x = 0 := by
  unfold er at h
  by_cases h1 : al x ≠ 0
  · rw [if_pos h1] at h; exact h
  · omega
theorem nl_in {last : Int} {x : En} (h : er last x = 0) (hl : -1 ≤ last ∧ last ≤ 63) : -1 ≤ nl last x ∧ nl last x ≤ 63 := by
  have := al_slot (er_al h)
  unfold nl
  split <;> omega
theorem go_stop {last : Int} {x : En} {r : List En} {e : Int} (h : er last x = e) (h0 : e ≠ 0) : go last (x :: r) = e := by
  rw [go, h, if_pos h0]
theorem go_on {last : Int} {x : En} {r : List En} (h : er last x = 0) : go last (x :: r) = go (nl last x) r := by
  rw [go, h, if_neg (by omega)]
/-- The last slot ahead of the entry k. -/
def lst (L : List En) : Nat → Int
  | 0 => -1
  | k + 1 => nl (lst L k) (L.getD k en0)
theorem drop_getD (L : List En) (k : Nat) (hk : k < L.length) : L.drop k = L.getD k en0 :: L.drop (k + 1) := by
  rw [List.drop_eq_getElem_cons hk, List.getD_eq_getElem?_getD, List.getElem?_eq_getElem hk]
  rfl
theorem go_step {L : List En} {k : Nat} (hk : k < L.length) (h : er (lst L k) (L.getD k en0) = 0) : go (lst L k) (L.drop k) = go (lst L (k + 1)) (L.drop (k + 1)) := by
  rw [drop_getD L k hk, go_on h]
  rfl
theorem go_err {L : List En} {k : Nat} {e : Int} (hk : k < L.length) (h : er (lst L k) (L.getD k en0) = e) (h0 : e ≠ 0) : go (lst L k) (L.drop k) = e := by
  rw [drop_getD L k hk, go_stop h h0]
theorem go_end (L : List En) : go (lst L L.length) (L.drop L.length) = 0 := by rw [List.drop_length, go]
theorem lst_zero (L : List En) : lst L 0 = -1 := rfl
theorem lst_succ (L : List En) (k : Nat) : lst L (k + 1) = nl (lst L k) (L.getD k en0) := rfl
theorem nl_trim (last : Int) {x : En} (h : x.k = 2) : nl last x = last := by unfold nl; rw [if_pos h]
theorem nl_slot (last : Int) {x : En} (h : x.k ≠ 2) : nl last x = x.s := by unfold nl; rw [if_neg h]
theorem ck_many {t n : Int} {L : List En} (h : 16 < L.length) : ck t n L = 17 := by unfold ck; rw [if_pos h]
theorem ck_range {t n : Int} {L : List En} (h : ¬ 16 < L.length) (h2 : ¬ (0 ≤ t ∧ t ≤ 1099511627776 ∧ -1 ≤ n ∧ n ≤ 31)) : ck t n L = 7 := by unfold ck; rw [if_neg h, if_neg h2]
theorem ck_go {t n : Int} {L : List En} (h : ¬ 16 < L.length) (h2 : 0 ≤ t ∧ t ≤ 1099511627776 ∧ -1 ≤ n ∧ n ≤ 31) : ck t n L = go (lst L 0) (L.drop 0) := by unfold ck; rw [if_neg h, if_pos h2]; rfl
theorem ck_ok {t n : Int} {L : List En} (h : ck t n L = 0) : L.length ≤ 16 ∧ (0 ≤ t ∧ t ≤ 1099511627776 ∧ -1 ≤ n ∧ n ≤ 31) ∧ go (-1) L = 0 := by
  unfold ck at h
  by_cases h1 : 16 < L.length
  · rw [if_pos h1] at h; omega
  · rw [if_neg h1] at h
    by_cases h2 : 0 ≤ t ∧ t ≤ 1099511627776 ∧ -1 ≤ n ∧ n ≤ 31
    · rw [if_pos h2] at h; exact ⟨by omega, h2, h⟩
    · rw [if_neg h2] at h; omega
theorem ck_of {t n : Int} {L : List En} (h : L.length ≤ 16) (h2 : 0 ≤ t ∧ t ≤ 1099511627776 ∧ -1 ≤ n ∧ n ≤ 31) (h3 : go (-1) L = 0) : ck t n L = 0 := by
  unfold ck; rw [if_neg (by omega), if_pos h2, h3]
theorem go_in (L : List En) : ∀ last, go last L = 0 ∨ go last L = 5 ∨ go last L = 7 ∨ go last L = 8 := by
  induction L with
  | nil => intro last; left; rfl
  | cons x r ih =>
    intro last
    have ha : al x = 0 ∨ al x = 5 ∨ al x = 7 := by
      unfold al
      split
      · split <;> simp
      · split
        · split <;> simp
        · split
          · split <;> simp
          · simp
    have he : er last x = 0 ∨ er last x = 5 ∨ er last x = 7 ∨ er last x = 8 := by
      unfold er
      split
      · omega
      · split
        · simp
        · split <;> simp
    rw [go]
    split
    · exact he
    · exact ih _
theorem ck_in (t n : Int) (L : List En) : 0 ≤ ck t n L ∧ ck t n L ≤ 17 := by
  unfold ck
  split
  · omega
  · split
    · have := go_in L (-1); omega
    · omega
/-! a trim more, or the last one less -/
theorem er_trim (last b : Int) (hb : 0 ≤ b ∧ b ≤ 63) : er last ⟨2, b, 0, Z⟩ = 0 := by
  unfold er al
  simp [hb.1, hb.2]
theorem go_trim (b : Int) (hb : 0 ≤ b ∧ b ≤ 63) (B : List En) : ∀ (A : List En) (last : Int), go last (A ++ ⟨2, b, 0, Z⟩ :: B) = go last (A ++ B)
  | [], last => by
    rw [List.nil_append, List.nil_append, go_on (er_trim last b hb)]
    rfl
  | x :: A, last => by
    rw [List.cons_append, List.cons_append, go, go, go_trim b hb B A]
theorem go_less : ∀ (L : List En) (last : Int), go last L = 0 → go last L.dropLast = 0
  | [], _, _ => rfl
  | [x], _, _ => rfl
  | x :: y :: r, last, h => by
    rw [List.dropLast_cons_cons]
    rw [go] at h ⊢
    by_cases h0 : er last x ≠ 0
    · rw [if_pos h0] at h; exact absurd h h0
    · rw [if_neg h0] at h ⊢
      exact go_less (y :: r) _ h
theorem er_bad {last : Int} {x : En} {e : Int} (h : al x = e) (h0 : e ≠ 0) : er last x = e := by unfold er; rw [h, if_pos h0]
theorem er_skip {last : Int} {x : En} (h : al x = 0) (h2 : x.k = 2) : er last x = 0 := by unfold er; rw [h, if_neg (by omega), if_pos h2]
theorem er_first {x : En} (h : al x = 0) (h2 : x.k ≠ 2) : er (-1) x = 0 := by unfold er; rw [h, if_neg (by omega), if_neg h2, if_neg (by omega)]
theorem er_next {last : Int} {x : En} (h : al x = 0) (h2 : x.k ≠ 2) (h0 : 0 ≤ last) : er last x = if x.s = last + 1 then 0 else 8 := by
  unfold er
  rw [h, if_neg (by omega), if_neg h2]
  by_cases h1 : x.s = last + 1
  · rw [if_pos h1, if_neg (by omega)]
  · rw [if_neg h1, if_pos (by omega)]
/-- Where the last slot comes from. -/
theorem lst_back {L : List En} : ∀ (k j : Nat), j ≤ k → (∀ i, j ≤ i → i < k → (L.getD i en0).k = 2) → lst L k = lst L j
  | 0, j, h, _ => by rw [show j = 0 by omega]
  | k + 1, j, h, ht => by
    by_cases e : j = k + 1
    · rw [e]
    · rw [lst_succ, nl_trim _ (ht k (by omega) (by omega)), lst_back k j (by omega) (fun i h1 h2 => ht i h1 (by omega))]
theorem lst_found {L : List En} {k j : Nat} (h : j < k) (ht : ∀ i, j < i → i < k → (L.getD i en0).k = 2) (hj : (L.getD j en0).k ≠ 2) : lst L k = (L.getD j en0).s := by
  rw [lst_back k (j + 1) (by omega) (fun i h1 h2 => ht i (by omega) h2), lst_succ, nl_slot _ hj]
attribute [irreducible] al er go ck
/-! bytes -/
def eb (x : En) : List Int := Pk.e8 x.k 8 ++ Pk.e8 x.b 8 ++ Pk.e8 x.s 8 ++ x.u
theorem eb_len {x : En} (h : x.ok) : (eb x).length = 56 := by simp [eb, Pk.e8_len, h.2.2.2.1]
theorem eb_byt {x : En} (h : x.ok) : Sha.Byt (eb x) := Sha.byt_append (Sha.byt_append (Sha.byt_append (Pk.e8_byt _ _) (Pk.e8_byt _ _)) (Pk.e8_byt _ _)) h.2.2.2.2
def hd (t : Int) (P : List Int) (n m : Int) : List Int := Pk.e8 t 8 ++ P ++ Pk.e8 n 8 ++ Pk.e8 m 8
theorem hd_len (t : Int) {P : List Int} (n m : Int) (h : P.length = 32) : (hd t P n m).length = 56 := by simp [hd, Pk.e8_len, h]
theorem hd_byt (t : Int) {P : List Int} (n m : Int) (h : Sha.Byt P) : Sha.Byt (hd t P n m) := Sha.byt_append (Sha.byt_append (Sha.byt_append (Pk.e8_byt _ _) h) (Pk.e8_byt _ _)) (Pk.e8_byt _ _)
def bo : List En → List Int
  | [] => []
  | x :: r => eb x ++ bo r
theorem bo_append (A B : List En) : bo (A ++ B) = bo A ++ bo B := by
  induction A with
  | nil => rfl
  | cons x r ih => rw [List.cons_append, bo, bo, ih, List.append_assoc]
theorem bo_snoc (L : List En) (k : Nat) (hk : k < L.length) : bo (L.take (k + 1)) = bo (L.take k) ++ eb (L.getD k en0) := by
  rw [List.take_add_one, List.getElem?_eq_getElem hk, bo_append, List.getD_eq_getElem?_getD, List.getElem?_eq_getElem hk]
  show bo (L.take k) ++ (eb L[k] ++ []) = _
  rw [List.append_nil]
  rfl
theorem bo_len : ∀ {L : List En}, (∀ x ∈ L, x.ok) → (bo L).length = 56 * L.length
  | [], _ => rfl
  | x :: r, h => by
    have h1 := bo_len (L := r) (fun y hy => h y (by simp [hy]))
    rw [bo, List.length_append, eb_len (h x (by simp)), h1, List.length_cons]
    omega
theorem bo_byt : ∀ {L : List En}, (∀ x ∈ L, x.ok) → Sha.Byt (bo L)
  | [], _ => fun x hx => by cases hx
  | x :: r, h => Sha.byt_append (eb_byt (h x (by simp))) (bo_byt (L := r) (fun y hy => h y (by simp [hy])))
def ofS (t : Int) (P : List Int) (n : Int) (L : List En) : List Int := hd t P n (L.length : Nat) ++ bo L
theorem ofS_len (t : Int) {P : List Int} (n : Int) {L : List En} (hP : P.length = 32) (h : ∀ x ∈ L, x.ok) : (ofS t P n L).length = 56 + 56 * L.length := by
  unfold ofS
  rw [List.length_append, hd_len t n _ hP, bo_len h]
theorem ofS_byt (t : Int) {P : List Int} (n : Int) {L : List En} (hP : Sha.Byt P) (h : ∀ x ∈ L, x.ok) : Sha.Byt (ofS t P n L) := Sha.byt_append (hd_byt t n _ hP) (bo_byt h)
/-! what is read -/
def rx (R : List Int) : En := ⟨Pk.vi R, Pk.vi (Pk.nx 8 R), Pk.vi (Pk.nx 8 (Pk.nx 8 R)), Pk.vs (Pk.nx 8 (Pk.nx 8 (Pk.nx 8 R)))⟩
def rr (R : List Int) : List Int := Pk.nx 32 (Pk.nx 8 (Pk.nx 8 (Pk.nx 8 R)))
def rb (R : List Int) (b : Bool) : Bool := Pk.nb 32 (Pk.nx 8 (Pk.nx 8 (Pk.nx 8 R))) (Pk.nb 8 (Pk.nx 8 (Pk.nx 8 R)) (Pk.nb 8 (Pk.nx 8 R) (Pk.nb 8 R b)))
theorem nx_len (n : Nat) (R : List Int) : (Pk.nx n R).length = if R.length < n then 0 else R.length - n := by
  unfold Pk.nx
  split <;> simp
theorem nx_big {n : Nat} {R : List Int} (h : n ≤ R.length) : Pk.nx n R = R.drop n := by unfold Pk.nx; rw [if_neg (by omega)]
theorem nx_small {n : Nat} {R : List Int} (h : R.length < n) : Pk.nx n R = [] := by unfold Pk.nx; rw [if_pos h]
theorem nb_big {n : Nat} {R : List Int} (h : n ≤ R.length) (b : Bool) : Pk.nb n R b = b := by unfold Pk.nb; rw [if_neg (by omega)]
theorem nb_small {n : Nat} {R : List Int} (h : R.length < n) (b : Bool) : Pk.nb n R b = true := by unfold Pk.nb; rw [if_pos h]
theorem vi_big {R : List Int} (h : 8 ≤ R.length) : Pk.vi R = Pk.in8 (R.take 8) := by unfold Pk.vi; rw [if_neg (by omega)]
theorem vi_small {R : List Int} (h : R.length < 8) : Pk.vi R = 0 := by unfold Pk.vi; rw [if_pos h]
theorem vs_big {R : List Int} (h : 32 ≤ R.length) : Pk.vs R = R.take 32 := by unfold Pk.vs; rw [if_neg (by omega)]
theorem vi_in (R : List Int) : Pk.In64 (Pk.vi R) := by
  by_cases h : R.length < 8
  · rw [vi_small h]; exact in0
  · rw [vi_big (by omega)]; exact Pk.in8_in _
theorem vs_byt {R : List Int} (h : Sha.Byt R) : Sha.Byt (Pk.vs R) := by
  unfold Pk.vs
  split
  · exact byt_rep 32 0 (by omega)
  · exact fun x hx => h x (List.mem_of_mem_take hx)
theorem rx_ok {R : List Int} (h : Sha.Byt R) : (rx R).ok := ⟨vi_in _, vi_in _, vi_in _, Pk.vs_len _, vs_byt (Pk.nx_byt (Pk.nx_byt (Pk.nx_byt h)))⟩
theorem rr_byt {R : List Int} (h : Sha.Byt R) : Sha.Byt (rr R) := Pk.nx_byt (Pk.nx_byt (Pk.nx_byt (Pk.nx_byt h)))
theorem rr_big {R : List Int} (h : 56 ≤ R.length) : rr R = R.drop 56 := by
  unfold rr
  rw [nx_big (R := R) (by omega), nx_big (R := R.drop 8) (by simp; omega), List.drop_drop, nx_big (R := R.drop 16) (by simp; omega), List.drop_drop, nx_big (by simp; omega), List.drop_drop]
theorem rb_big {R : List Int} (h : 56 ≤ R.length) (b : Bool) : rb R b = b := by
  unfold rb
  rw [nx_big (R := R) (by omega), nx_big (R := R.drop 8) (by simp; omega), List.drop_drop, nx_big (R := R.drop 16) (by simp; omega), List.drop_drop, nb_big (by simp; omega), nb_big (by simp; omega), nb_big (by simp; omega), nb_big (by omega)]
theorem rr_len (R : List Int) : (rr R).length = if R.length < 56 then 0 else R.length - 56 := by
  unfold rr
  simp only [nx_len]
  split <;> split <;> (try split) <;> (try split) <;> (try split) <;> omega
theorem rr_small {R : List Int} (h : R.length < 56) : rr R = [] := List.eq_nil_of_length_eq_zero (by rw [rr_len, if_pos h])
theorem rb_small {R : List Int} (h : R.length < 56) (b : Bool) : rb R b = true := by
  have l1 := nx_len 8 R
  have l2 := nx_len 8 (Pk.nx 8 R)
  have l3 := nx_len 8 (Pk.nx 8 (Pk.nx 8 R))
  unfold rb
  apply nb_small
  rw [l3, l2, l1]
  split <;> (try split) <;> (try split) <;> omega
def rk (R : List Int) : Nat → List Int
  | 0 => R
  | k + 1 => rr (rk R k)
def rc (R : List Int) (b : Bool) : Nat → Bool
  | 0 => b
  | k + 1 => rb (rk R k) (rc R b k)
def re (R : List Int) : Nat → List En
  | 0 => []
  | k + 1 => re R k ++ [rx (rk R k)]
theorem rk_zero (R : List Int) : rk R 0 = R := rfl
theorem rk_succ (R : List Int) (k : Nat) : rk R (k + 1) = rr (rk R k) := rfl
theorem rc_zero (R : List Int) (b : Bool) : rc R b 0 = b := rfl
theorem rc_succ (R : List Int) (b : Bool) (k : Nat) : rc R b (k + 1) = rb (rk R k) (rc R b k) := rfl
theorem re_zero (R : List Int) : re R 0 = [] := rfl
theorem re_succ (R : List Int) (k : Nat) : re R (k + 1) = re R k ++ [rx (rk R k)] := rfl
theorem re_len (R : List Int) (k : Nat) : (re R k).length = k := by
  induction k with
  | zero => rfl
  | succ k ih => rw [re, List.length_append, ih]; rfl
theorem rk_byt {R : List Int} (h : Sha.Byt R) (k : Nat) : Sha.Byt (rk R k) := by
  induction k with
  | zero => exact h
  | succ k ih => exact rr_byt ih
theorem rk_le (R : List Int) (k : Nat) : (rk R k).length ≤ R.length := by
  induction k with
  | zero => exact Nat.le_refl _
  | succ k ih =>
    have := rr_len (rk R k)
    rw [rk]
    split at this <;> omega
theorem re_ok {R : List Int} (h : Sha.Byt R) (k : Nat) : ∀ x ∈ re R k, x.ok := by
  induction k with
  | zero => intro x hx; cases hx
  | succ k ih =>
    intro x hx
    rw [re, List.mem_append] at hx
    rcases hx with hx | hx
    · exact ih x hx
    · rw [List.mem_singleton] at hx
      subst hx
      exact rx_ok (rk_byt h k)
theorem rk_big {R : List Int} : ∀ k, 56 * k ≤ R.length → rk R k = R.drop (56 * k) ∧ ∀ b, rc R b k = b
  | 0, _ => ⟨by simp [rk], fun b => rfl⟩
  | k + 1, h => by
    obtain ⟨h1, h2⟩ := rk_big (R := R) k (by omega)
    have hl : 56 ≤ (rk R k).length := by rw [h1, List.length_drop]; omega
    refine ⟨?_, fun b => ?_⟩
    · rw [rk, rr_big hl, h1, List.drop_drop]
      congr 1
    · rw [rc, rb_big hl, h2]
theorem rk_len_big {R : List Int} {k : Nat} (h : 56 * k ≤ R.length) : (rk R k).length = R.length - 56 * k := by
  rw [(rk_big k h).1, List.length_drop]
theorem rk_small {R : List Int} : ∀ k, R.length < 56 * k → rk R k = [] ∧ ∀ b, rc R b k = true
  | 0, h => by omega
  | k + 1, h => by
    have hl : (rk R k).length < 56 := by
      by_cases hk : 56 * k ≤ R.length
      · rw [rk_len_big hk]; omega
      · rw [(rk_small (R := R) k (by omega)).1]; simp
    exact ⟨by rw [rk, rr_small hl], fun b => by rw [rc, rb_small hl]⟩
/-! entries there and back -/
theorem take_app {A B : List Int} {n : Nat} (h : A.length = n) : (A ++ B).take n = A := by subst h; exact List.take_left
theorem drop_app {A B : List Int} {n : Nat} (h : A.length = n) : (A ++ B).drop n = B := by subst h; exact List.drop_left
theorem rx_eb {x : En} (h : x.ok) (T : List Int) : rx (eb x ++ T) = x := by
  have e : eb x ++ T = Pk.e8 x.k 8 ++ (Pk.e8 x.b 8 ++ (Pk.e8 x.s 8 ++ (x.u ++ T))) := by unfold eb; simp only [List.append_assoc]
  have l8 : ∀ v, (Pk.e8 v 8).length = 8 := fun v => Pk.e8_len v 8
  have hv : ∀ v T, Pk.In64 v → Pk.vi (Pk.e8 v 8 ++ T) = v := fun v T hv => by
    rw [vi_big (by rw [List.length_append, l8]; omega), take_app (l8 v), Pk.in8_e8 hv]
  have hn : ∀ v T, Pk.nx 8 (Pk.e8 v 8 ++ T) = T := fun v T => by
    rw [nx_big (by rw [List.length_append, l8]; omega), drop_app (l8 v)]
  unfold rx
  rw [e, hn, hn, hn, hv _ _ h.1, hv _ _ h.2.1, hv _ _ h.2.2.1, vs_big (by rw [List.length_append, h.2.2.2.1]; omega), take_app h.2.2.2.1]
theorem rk_bo {L : List En} (h : ∀ x ∈ L, x.ok) (k : Nat) (hk : k ≤ L.length) : rk (bo L) k = bo (L.drop k) := by
  induction k with
  | zero => rfl
  | succ k ih =>
    have hx : (L.getD k en0).ok := by
      rw [List.getD_eq_getElem?_getD, List.getElem?_eq_getElem (by omega)]
      exact h _ (List.getElem_mem _)
    rw [rk, ih (by omega), drop_getD L k (by omega), bo, rr_big (by rw [List.length_append, eb_len hx]; omega), drop_app (eb_len hx)]
theorem re_bo {L : List En} (h : ∀ x ∈ L, x.ok) (k : Nat) (hk : k ≤ L.length) : re (bo L) k = L.take k := by
  induction k with
  | zero => rfl
  | succ k ih =>
    have hx : (L.getD k en0).ok := by
      rw [List.getD_eq_getElem?_getD, List.getElem?_eq_getElem (by omega)]
      exact h _ (List.getElem_mem _)
    rw [re, ih (by omega), rk_bo h k (by omega), drop_getD L k (by omega), bo, rx_eb hx, List.take_add_one, List.getElem?_eq_getElem (by omega), List.getD_eq_getElem?_getD, List.getElem?_eq_getElem (by omega)]
    rfl
theorem eb_rx {R : List Int} (hb : Sha.Byt R) (h : 56 ≤ R.length) : eb (rx R) = R.take 56 := by
  have hi : ∀ T : List Int, Sha.Byt T → 8 ≤ T.length → Pk.e8 (Pk.vi T) 8 = T.take 8 := fun T hT h8 => by
    rw [vi_big h8]
    exact Pk.e8_in8 (by rw [List.length_take]; omega) (fun x hx => hT x (List.mem_of_mem_take hx))
  unfold eb rx
  rw [nx_big (R := R) (by omega), nx_big (R := R.drop 8) (by simp; omega), List.drop_drop, nx_big (R := R.drop 16) (by simp; omega), List.drop_drop]
  rw [hi R hb (by omega), hi (R.drop 8) (fun x hx => hb x (List.mem_of_mem_drop hx)) (by simp; omega), hi (R.drop 16) (fun x hx => hb x (List.mem_of_mem_drop hx)) (by simp; omega), vs_big (by simp; omega)]
  rw [show (56 : Nat) = 8 + 8 + 8 + 32 from rfl, List.take_add, List.take_add, List.take_add]
theorem bo_re {R : List Int} (hb : Sha.Byt R) : ∀ k, 56 * k ≤ R.length → bo (re R k) = R.take (56 * k)
  | 0, _ => by simp [re, bo]
  | k + 1, h => by
    have hk := rk_len_big (R := R) (k := k) (by omega)
    rw [re, bo_append, bo_re hb k (by omega), bo, bo, List.append_nil, eb_rx (R := rk R k) (rk_byt hb k) (by omega), (rk_big k (by omega)).1, show 56 * (k + 1) = 56 * k + 56 by omega, List.take_add]
/-! a whole summary's bytes -/
def vt (B : List Int) : Int := Pk.vi B
def g1 (B : List Int) : List Int := Pk.nx 8 B
def vp (B : List Int) : List Int := Pk.vs (g1 B)
def g2 (B : List Int) : List Int := Pk.nx 32 (g1 B)
def vn (B : List Int) : Int := Pk.vi (g2 B)
def g3 (B : List Int) : List Int := Pk.nx 8 (g2 B)
def vm (B : List Int) : Int := Pk.vi (g3 B)
def g4 (B : List Int) : List Int := Pk.nx 8 (g3 B)
def h4 (B : List Int) : Bool := Pk.nb 8 (g3 B) (Pk.nb 8 (g2 B) (Pk.nb 32 (g1 B) (Pk.nb 8 B false)))
theorem vt_def (B : List Int) : vt B = Pk.vi B := rfl
theorem g1_def (B : List Int) : g1 B = Pk.nx 8 B := rfl
theorem vp_def (B : List Int) : vp B = Pk.vs (g1 B) := rfl
theorem g2_def (B : List Int) : g2 B = Pk.nx 32 (g1 B) := rfl
theorem vn_def (B : List Int) : vn B = Pk.vi (g2 B) := rfl
theorem g3_def (B : List Int) : g3 B = Pk.nx 8 (g2 B) := rfl
theorem vm_def (B : List Int) : vm B = Pk.vi (g3 B) := rfl
theorem g4_def (B : List Int) : g4 B = Pk.nx 8 (g3 B) := rfl
theorem h4_def (B : List Int) : h4 B = Pk.nb 8 (g3 B) (Pk.nb 8 (g2 B) (Pk.nb 32 (g1 B) (Pk.nb 8 B false))) := rfl
theorem rx_def (R : List Int) : rx R = ⟨Pk.vi R, Pk.vi (Pk.nx 8 R), Pk.vi (Pk.nx 8 (Pk.nx 8 R)), Pk.vs (Pk.nx 8 (Pk.nx 8 (Pk.nx 8 R)))⟩ := rfl
theorem rr_def (R : List Int) : rr R = Pk.nx 32 (Pk.nx 8 (Pk.nx 8 (Pk.nx 8 R))) := rfl
theorem rb_def (R : List Int) (b : Bool) : rb R b = Pk.nb 32 (Pk.nx 8 (Pk.nx 8 (Pk.nx 8 R))) (Pk.nb 8 (Pk.nx 8 (Pk.nx 8 R)) (Pk.nb 8 (Pk.nx 8 R) (Pk.nb 8 R b))) := rfl
theorem g4_big {B : List Int} (h : 56 ≤ B.length) : g4 B = B.drop 56 ∧ h4 B = false := by
  unfold g4 h4 g3 g2 g1
  rw [nx_big (R := B) (by omega), nx_big (R := B.drop 8) (by simp; omega), List.drop_drop, nx_big (R := B.drop (8 + 32)) (by simp; omega), List.drop_drop, nx_big (by simp; omega), List.drop_drop]
  exact ⟨rfl, by rw [nb_big (by simp; omega), nb_big (by simp; omega), nb_big (by simp; omega), nb_big (by omega)]⟩
theorem g3_len (B : List Int) : (g3 B).length = if B.length < 48 then 0 else B.length - 48 := by
  unfold g3 g2 g1
  simp only [nx_len]
  split <;> split <;> (try split) <;> (try split) <;> omega
theorem g4_small {B : List Int} (h : B.length < 56) : g4 B = [] ∧ h4 B = true ∧ vm B = 0 := by
  have hl : (g3 B).length < 8 := by rw [g3_len]; split <;> omega
  exact ⟨by unfold g4; exact nx_small hl, by unfold h4; exact nb_small hl _, by unfold vm; exact vi_small hl⟩
/-- What is wrong with bytes. -/
def gc (B : List Int) : Int :=
  if B.length < 56 then 4 else if vm B < 0 ∨ (B.length : Int) - 56 < 56 * vm B then 4 else if 56 * vm B < (B.length : Int) - 56 then 3 else ck (vt B) (vn B) (re (g4 B) (vm B).toNat)
theorem gc_short {B : List Int} (h : B.length < 56) : gc B = 4 := by unfold gc; rw [if_pos h]
theorem gc_form {B : List Int} (h : vm B < 0 ∨ (B.length : Int) - 56 < 56 * vm B) : gc B = 4 := by
  unfold gc
  by_cases h0 : B.length < 56
  · rw [if_pos h0]
  · rw [if_neg h0, if_pos h]
theorem gc_long {B : List Int} (h : 56 ≤ B.length) (_h0 : 0 ≤ vm B) (h1 : 56 * vm B < (B.length : Int) - 56) : gc B = 3 := by
  unfold gc
  rw [if_neg (by omega), if_neg (by omega), if_pos h1]
theorem gc_ck {B : List Int} (h : 56 ≤ B.length) (_h0 : 0 ≤ vm B) (h1 : 56 * vm B = (B.length : Int) - 56) : gc B = ck (vt B) (vn B) (re (g4 B) (vm B).toNat) := by
  unfold gc
  rw [if_neg (by omega), if_neg (by omega), if_neg (by omega)]
theorem gc_ok {B : List Int} (h : gc B = 0) : 56 ≤ B.length ∧ 0 ≤ vm B ∧ 56 * vm B = (B.length : Int) - 56 ∧ ck (vt B) (vn B) (re (g4 B) (vm B).toNat) = 0 := by
  unfold gc at h
  by_cases h0 : B.length < 56
  · rw [if_pos h0] at h; omega
  · rw [if_neg h0] at h
    by_cases h1 : vm B < 0 ∨ (B.length : Int) - 56 < 56 * vm B
    · rw [if_pos h1] at h; omega
    · rw [if_neg h1] at h
      by_cases h2 : 56 * vm B < (B.length : Int) - 56
      · rw [if_pos h2] at h; omega
      · rw [if_neg h2] at h
        exact ⟨by omega, by omega, by omega, h⟩
theorem hd_read {t n m : Int} {P T : List Int} (ht : Pk.In64 t) (hn : Pk.In64 n) (hm : Pk.In64 m) (hP : P.length = 32) :
    vt (hd t P n m ++ T) = t ∧ vp (hd t P n m ++ T) = P ∧ vn (hd t P n m ++ T) = n ∧ vm (hd t P n m ++ T) = m ∧ g4 (hd t P n m ++ T) = T := by
  have e : hd t P n m ++ T = Pk.e8 t 8 ++ (P ++ (Pk.e8 n 8 ++ (Pk.e8 m 8 ++ T))) := by unfold hd; simp only [List.append_assoc]
  have l8 : ∀ v, (Pk.e8 v 8).length = 8 := fun v => Pk.e8_len v 8
  have hv : ∀ v T, Pk.In64 v → Pk.vi (Pk.e8 v 8 ++ T) = v := fun v T hv => by
    rw [vi_big (by rw [List.length_append, l8]; omega), take_app (l8 v), Pk.in8_e8 hv]
  have hx : ∀ v T, Pk.nx 8 (Pk.e8 v 8 ++ T) = T := fun v T => by
    rw [nx_big (by rw [List.length_append, l8]; omega), drop_app (l8 v)]
  have e1 : g1 (hd t P n m ++ T) = P ++ (Pk.e8 n 8 ++ (Pk.e8 m 8 ++ T)) := by unfold g1; rw [e, hx]
  have e2 : g2 (hd t P n m ++ T) = Pk.e8 n 8 ++ (Pk.e8 m 8 ++ T) := by unfold g2; rw [e1, nx_big (by rw [List.length_append, hP]; omega), drop_app hP]
  have e3 : g3 (hd t P n m ++ T) = Pk.e8 m 8 ++ T := by unfold g3; rw [e2, hx]
  refine ⟨by unfold vt; rw [e, hv _ _ ht], by unfold vp; rw [e1, vs_big (by rw [List.length_append, hP]; omega), take_app hP], by unfold vn; rw [e2, hv _ _ hn], by unfold vm; rw [e3, hv _ _ hm], by unfold g4; rw [e3, hx]⟩
theorem hd_back {B : List Int} (hb : Sha.Byt B) (h : 56 ≤ B.length) : hd (vt B) (vp B) (vn B) (vm B) = B.take 56 := by
  have hi : ∀ T : List Int, Sha.Byt T → 8 ≤ T.length → Pk.e8 (Pk.vi T) 8 = T.take 8 := fun T hT h8 => by
    rw [vi_big h8]
    exact Pk.e8_in8 (by rw [List.length_take]; omega) (fun x hx => hT x (List.mem_of_mem_take hx))
  have d : ∀ k, Sha.Byt (B.drop k) := fun k x hx => hb x (List.mem_of_mem_drop hx)
  have e1 : g1 B = B.drop 8 := by unfold g1; exact nx_big (by omega)
  have e2 : g2 B = B.drop (8 + 32) := by unfold g2; rw [e1, nx_big (by simp; omega), List.drop_drop]
  have e3 : g3 B = B.drop (8 + 32 + 8) := by unfold g3; rw [e2, nx_big (by simp; omega), List.drop_drop]
  unfold hd vt vp vn vm
  rw [e1, e2, e3, hi B hb (by omega), vs_big (by simp; omega), hi _ (d _) (by simp; omega), hi _ (d _) (by simp; omega)]
  rw [show (56 : Nat) = 8 + 32 + 8 + 8 from rfl, List.take_add, List.take_add, List.take_add]
theorem in_len {L : List En} (h : L.length ≤ 16) : Pk.In64 (L.length : Nat) := by unfold Pk.In64; omega
/-- Back. -/
theorem back {t n : Int} {P : List Int} {L : List En} (ht : Pk.In64 t) (hn : Pk.In64 n) (hP : P.length = 32) (h : ∀ x ∈ L, x.ok) (hl : L.length ≤ 16) :
    vt (ofS t P n L) = t ∧ vp (ofS t P n L) = P ∧ vn (ofS t P n L) = n ∧ vm (ofS t P n L) = (L.length : Nat) ∧ re (g4 (ofS t P n L)) (vm (ofS t P n L)).toNat = L ∧ gc (ofS t P n L) = ck t n L := by
  obtain ⟨h1, h2, h3, h5, h6⟩ := hd_read (T := bo L) ht hn (in_len hl) hP
  have hlen := ofS_len t n hP h
  unfold ofS at *
  have hr : re (g4 (hd t P n (L.length : Nat) ++ bo L)) (vm (hd t P n (L.length : Nat) ++ bo L)).toNat = L := by
    rw [h5, h6, Int.toNat_natCast, re_bo h _ (Nat.le_refl _), List.take_length]
  refine ⟨h1, h2, h3, h5, hr, ?_⟩
  rw [gc_ck (by omega) (by rw [h5]; omega) (by rw [h5]; omega), hr, h1, h3]
/-- Forms. -/
theorem forms {B : List Int} (hb : Sha.Byt B) (h : gc B = 0) : ofS (vt B) (vp B) (vn B) (re (g4 B) (vm B).toNat) = B := by
  obtain ⟨h1, h2, h3, _⟩ := gc_ok h
  have hm : ((vm B).toNat : Int) = vm B := Int.toNat_of_nonneg h2
  have ht : (B.drop 56).take (56 * (vm B).toNat) = B.drop 56 := List.take_of_length_le (by simp; omega)
  unfold ofS
  rw [re_len, hm, hd_back hb h1, (g4_big h1).1]
  rw [bo_re (fun x hx => hb x (List.mem_of_mem_drop hx)) _ (by simp; omega), ht, List.take_append_drop]
theorem plain {t n t' n' : Int} {P P' : List Int} {L L' : List En} (ht : Pk.In64 t) (hn : Pk.In64 n) (hP : P.length = 32) (h : ∀ x ∈ L, x.ok) (hl : L.length ≤ 16)
    (ht' : Pk.In64 t') (hn' : Pk.In64 n') (hP' : P'.length = 32) (h' : ∀ x ∈ L', x.ok) (hl' : L'.length ≤ 16) :
    ofS t P n L = ofS t' P' n' L' ↔ (t = t' ∧ P = P' ∧ n = n' ∧ L = L') := by
  constructor
  · intro e
    obtain ⟨a1, a2, a3, _, a5, _⟩ := back ht hn hP h hl
    obtain ⟨b1, b2, b3, _, b5, _⟩ := back ht' hn' hP' h' hl'
    rw [e] at a1 a2 a3 a5
    exact ⟨a1.symm.trans b1, a2.symm.trans b2, a3.symm.trans b3, a5.symm.trans b5⟩
  · rintro ⟨rfl, rfl, rfl, rfl⟩
    rfl
theorem cut {t n : Int} {P : List Int} {L : List En} (ht : Pk.In64 t) (hn : Pk.In64 n) (hP : P.length = 32) (h : ∀ x ∈ L, x.ok) (hl : L.length ≤ 16) (j : Nat) (hj : j < (ofS t P n L).length) : gc ((ofS t P n L).take j) = 4 := by
  have hlen := ofS_len t n hP h
  by_cases h5 : j < 56
  · exact gc_short (by rw [List.length_take]; omega)
  · apply gc_form
    right
    have e : (ofS t P n L).take j = hd t P n (L.length : Nat) ++ (bo L).take (j - 56) := by
      unfold ofS
      rw [List.take_append, List.take_of_length_le (by rw [hd_len t n _ hP]; omega), hd_len t n _ hP]
    rw [e, (hd_read ht hn (in_len hl) hP).2.2.2.1, ← e, List.length_take]
    omega
theorem more {t n : Int} {P : List Int} {L : List En} (ht : Pk.In64 t) (hn : Pk.In64 n) (hP : P.length = 32) (h : ∀ x ∈ L, x.ok) (hl : L.length ≤ 16) (x : Int) : gc (ofS t P n L ++ [x]) = 3 := by
  have hlen := ofS_len t n hP h
  have e : ofS t P n L ++ [x] = hd t P n (L.length : Nat) ++ (bo L ++ [x]) := by unfold ofS; rw [List.append_assoc]
  have hv : vm (ofS t P n L ++ [x]) = (L.length : Nat) := by rw [e, (hd_read ht hn (in_len hl) hP).2.2.2.1]
  exact gc_long (by rw [List.length_append]; omega) (by rw [hv]; omega) (by rw [hv, List.length_append, hlen]; simp; omega)
attribute [irreducible] eb hd bo ofS rx rr rb rk rc re vt vp vn vm g1 g2 g3 g4 h4 gc lst nl cells
end Bt
end Go.Proofs.Ytkgefogkdmbciaa

/-
  The reference's lists: blocks in their order, put; nodes in any order.
-/
import Derived.Test.YtfeemeddhhgigaaTrE
namespace Go.Proofs.Ytfeemeddhhgigaa
namespace Tr
open Pg (Rf zr)
/-- The reference's list of blocks: those from lo on, n places. -/
def blr (f : Nat → Rf) (lo : Nat) : Nat → List (Nat × Rf)
  | 0 => []
  | n + 1 => (if 0 < (f lo).1 then [(lo, f lo)] else []) ++ blr f (lo + 1) n
def bl (t : T) : List (Nat × Rf) := blr t.b 0 64
theorem blr_ge {f : Nat → Rf} : ∀ {n lo : Nat} {x : Nat × Rf}, x ∈ blr f lo n → lo ≤ x.1 ∧ x.1 < lo + n ∧ x.2 = f x.1 ∧ 0 < x.2.1
  | 0, _, _, h => by cases h
  | n + 1, lo, x, h => by
    rw [blr] at h
    rcases List.mem_append.1 h with h | h
    · split at h
      · rw [List.mem_singleton] at h
        subst h
        rename_i hp
        exact ⟨Nat.le_refl _, by omega, rfl, hp⟩
      · cases h
    · obtain ⟨h1, h2, h3⟩ := blr_ge h
      exact ⟨by omega, by omega, h3⟩
theorem blr_mem {f : Nat → Rf} (k : Nat) (hp : 0 < (f k).1) : ∀ {n lo : Nat}, lo ≤ k → k < lo + n → (k, f k) ∈ blr f lo n
  | 0, _, h1, h2 => by omega
  | n + 1, lo, h1, h2 => by
    rw [blr, List.mem_append]
    by_cases e : lo = k
    · left; rw [e, if_pos hp]; exact List.mem_singleton.2 rfl
    · right; exact blr_mem k hp (by omega) (by omega)
theorem blr_congr {f g : Nat → Rf} : ∀ {n lo : Nat}, (∀ k, lo ≤ k → k < lo + n → f k = g k) → blr f lo n = blr g lo n
  | 0, _, _ => rfl
  | n + 1, lo, h => by rw [blr, blr, h lo (Nat.le_refl _) (by omega), blr_congr (fun k h1 h2 => h k (by omega) (by omega))]
theorem blr_len (t : T) : ∀ n lo, (blr t.b lo n).length + cntb t lo = cntb t (lo + n)
  | 0, lo => by rw [blr]; simp
  | n + 1, lo => by
    have := blr_len t n (lo + 1)
    rw [blr, List.length_append, show lo + (n + 1) = lo + 1 + n by omega, ← this, cntb]
    split <;> simp <;> omega
theorem bl_len (t : T) : (bl t).length = mapped t := by
  have := blr_len t 64 0
  rw [cntb, Nat.add_zero, Nat.zero_add] at this
  exact this
/-- put's loop: laid tells whether the new one is laid (or none is to be). -/
def pF (K : Nat) (r : Rf) : Bool → List (Nat × Rf) → List (Nat × Rf)
  | laid, [] => if laid then [] else [(K, r)]
  | laid, (k, x) :: L =>
    if laid = false ∧ K ≤ k then (K, r) :: ((if k = K then [] else [(k, x)]) ++ pF K r true L)
    else (if k = K then [] else [(k, x)]) ++ pF K r laid L
theorem pF_none (K : Nat) (r : Rf) : ∀ L : List (Nat × Rf), (∀ x ∈ L, x.1 ≠ K) → pF K r true L = L
  | [], _ => rfl
  | (k, x) :: L, h => by
    rw [pF, if_neg (by simp), if_neg (h (k, x) (by simp)), pF_none K r L (fun y hy => h y (by simp [hy]))]
    rfl
theorem blr_off {f : Nat → Rf} {lo n K : Nat} (h : K < lo) : ∀ x ∈ blr f lo n, x.1 ≠ K := fun x hx => by
  have := (blr_ge hx).1
  omega
theorem pF_del (f : Nat → Rf) (K : Nat) (r : Rf) : ∀ n lo, pF K r true (blr f lo n) = blr (up f K zr) lo n
  | 0, _ => rfl
  | n + 1, lo => by
    rw [blr, blr]
    by_cases e : lo = K
    · subst e
      rw [up_same, if_neg zr_no, List.nil_append, blr_congr (f := up f lo zr) (g := f) (fun k h1 _ => up_other f lo k zr (by omega))]
      by_cases hp : 0 < (f lo).1
      · rw [if_pos hp, List.singleton_append, pF, if_neg (by simp), if_pos rfl, List.nil_append]
        exact pF_none lo r _ (blr_off (by omega))
      · rw [if_neg hp, List.nil_append]
        exact pF_none lo r _ (blr_off (by omega))
    · rw [up_other _ _ _ _ e]
      by_cases hp : 0 < (f lo).1
      · rw [if_pos hp, List.singleton_append, pF, if_neg (by simp), if_neg e, pF_del f K r n (lo + 1)]
      · rw [if_neg hp, List.nil_append, List.nil_append]
        exact pF_del f K r n (lo + 1)
theorem pF_set (f : Nat → Rf) (K : Nat) (r : Rf) (hr : 0 < r.1) : ∀ n lo, lo ≤ K → K < lo + n → pF K r false (blr f lo n) = blr (up f K r) lo n
  | 0, _, h1, h2 => by omega
  | n + 1, lo, h1, h2 => by
    rw [blr, blr]
    by_cases e : lo = K
    · subst e
      rw [up_same, if_pos hr, blr_congr (f := up f lo r) (g := f) (fun k h3 _ => up_other f lo k r (by omega))]
      have tail : ∀ m : Nat, pF lo r true (blr f (lo + 1) m) = blr f (lo + 1) m := fun m => pF_none lo r _ (blr_off (by omega))
      by_cases hp : 0 < (f lo).1
      · rw [if_pos hp, List.singleton_append, pF, if_pos ⟨rfl, Nat.le_refl _⟩, if_pos rfl, List.nil_append, tail]
        rfl
      · rw [if_neg hp, List.nil_append]
        cases q : blr f (lo + 1) n with
        | nil => rfl
        | cons y L =>
          obtain ⟨k, x⟩ := y
          have hk := (blr_ge (f := f) (n := n) (lo := lo + 1) (x := (k, x)) (by rw [q]; simp)).1
          have hk' : lo + 1 ≤ k := hk
          rw [pF, if_pos ⟨rfl, by omega⟩, if_neg (by omega)]
          have t2 := tail n
          rw [q, pF, if_neg (by simp), if_neg (by omega)] at t2
          rw [t2]
          rfl
    · rw [up_other _ _ _ _ e]
      by_cases hp : 0 < (f lo).1
      · rw [if_pos hp, List.singleton_append, pF, if_neg (fun q => by omega), if_neg e, pF_set f K r hr n (lo + 1) (by omega) (by omega)]
      · rw [if_neg hp, List.nil_append, List.nil_append]
        exact pF_set f K r hr n (lo + 1) (by omega) (by omega)
/-- A node of the reference's list: its index, whether it is dirty, its ref. -/
structure Nn where
  i : Nat
  d : Bool
  r : Rf
def Nn.nd (x : Nn) : Nd := if x.d then some none else some (some x.r)
/-- What the list says of a node. -/
def lk (L : List Nn) (i : Nat) : Nd :=
  match L with
  | [] => none
  | x :: r => if x.i = i then x.nd else lk r i
def wo (L : List Nn) (i : Nat) : List Nn := L.filter fun x => !decide (x.i = i)
theorem lk_wo (i j : Nat) : ∀ L : List Nn, lk (wo L i) j = if j = i then none else lk L j
  | [] => by simp [wo, lk]
  | x :: r => by
    have ih := lk_wo i j r
    unfold wo at ih ⊢
    rw [List.filter_cons]
    by_cases e : x.i = i
    · rw [decide_eq_true e, if_neg (by simp), ih]
      by_cases e2 : j = i
      · rw [if_pos e2, if_pos e2]
      · rw [if_neg e2, if_neg e2]
        show _ = (if x.i = j then x.nd else lk r j)
        rw [if_neg (by omega)]
    · rw [decide_eq_false e, if_pos (by simp)]
      show (if x.i = j then x.nd else lk (List.filter _ r) j) = _
      by_cases e2 : x.i = j
      · rw [if_pos e2, if_neg (by omega)]
        show _ = (if x.i = j then x.nd else lk r j)
        rw [if_pos e2]
      · rw [if_neg e2, ih]
        by_cases e3 : j = i
        · rw [if_pos e3, if_pos e3]
        · rw [if_neg e3, if_neg e3]
          show _ = (if x.i = j then x.nd else lk r j)
          rw [if_neg e2]
theorem lk_append (L : List Nn) (x : Nn) (j : Nat) : lk (L ++ [x]) j = if lk L j = none then (if x.i = j then x.nd else none) else lk L j := by
  induction L with
  | nil => simp [lk]
  | cons y r ih =>
    show (if y.i = j then y.nd else lk (r ++ [x]) j) = _
    have e : lk (y :: r) j = if y.i = j then y.nd else lk r j := rfl
    rw [e]
    by_cases h : y.i = j
    · rw [if_pos h, if_pos h, if_neg]
      unfold Nn.nd
      split <;> simp
    · rw [if_neg h, if_neg h, ih]
/-- The list says of each node what the tree has. -/
def NRep (L : List Nn) (t : T) : Prop := ∀ i, lk L i = t.n i
theorem NRep.is {L : List Nn} {t : T} (h : NRep L t) (x : Nn) (B : Nat → Rf) : NRep (wo L x.i ++ [x]) ⟨B, up t.n x.i x.nd⟩ := fun j => by
  show _ = up t.n x.i x.nd j
  rw [lk_append, lk_wo]
  by_cases e : j = x.i
  · rw [if_pos e, if_pos rfl, if_pos e.symm, e, up_same]
  · rw [if_neg e, up_other _ _ _ _ e, h j, if_neg (show ¬ x.i = j from fun q => e q.symm)]
    split
    · rename_i q; rw [q]
    · rfl
theorem NRep.gone {L : List Nn} {t : T} (h : NRep L t) (i : Nat) (B : Nat → Rf) : NRep (wo L i) ⟨B, up t.n i none⟩ := fun j => by
  show _ = up t.n i none j
  rw [lk_wo]
  by_cases e : j = i
  · rw [if_pos e, e, up_same]
  · rw [if_neg e, up_other _ _ _ _ e, h j]
/-- Where a node stands; none: it is not there. -/
def ix (L : List Nn) (i : Nat) : Option Nat := L.findIdx? fun x => decide (x.i = i)
end Tr
end Go.Proofs.Ytfeemeddhhgigaa

/-
  A tree of blocks and nodes in plain lists (namespace Tr): what each call makes of it, and the accounts of its refs.
-/
import Derived.Test.YtfeemeddhhgigaaTrK
namespace Go.Proofs.Ytfeemeddhhgigaa
namespace Tr
open Pg (Rf zr)
/-- A function but for one place. -/
def up {α : Type} (f : Nat → α) (k : Nat) (v : α) : Nat → α := fun i => if i = k then v else f i
theorem up_same {α : Type} (f : Nat → α) (k : Nat) (v : α) : up f k v k = v := if_pos rfl
theorem up_other {α : Type} (f : Nat → α) (k i : Nat) (v : α) (h : i ≠ k) : up f k v i = f i := if_neg h
theorem up_id {α : Type} (f : Nat → α) (k : Nat) : up f k (f k) = f := by
  funext i; by_cases h : i = k
  · rw [h, up_same]
  · rw [up_other _ _ _ _ h]
theorem up_comm {α : Type} (f : Nat → α) (k i : Nat) (u v : α) (h : k ≠ i) : up (up f k u) i v = up (up f i v) k u := by
  funext j
  by_cases h1 : j = i
  · subst h1; rw [up_same, up_other _ _ _ _ (fun e => h e.symm), up_same]
  · rw [up_other _ _ _ _ h1]
    by_cases h2 : j = k
    · subst h2; rw [up_same, up_same]
    · rw [up_other _ _ _ _ h2, up_other _ _ _ _ h2, up_other _ _ _ _ h1]
theorem up_up {α : Type} (f : Nat → α) (k : Nat) (u v : α) : up (up f k u) k v = up f k v := by
  funext j; by_cases h : j = k
  · rw [h, up_same, up_same]
  · rw [up_other _ _ _ _ h, up_other _ _ _ _ h, up_other _ _ _ _ h]
theorem comp_up {α β : Type} (g : α → β) (f : Nat → α) (k : Nat) (v : α) : (fun i => g (up f k v i)) = up (fun i => g (f i)) k (g v) := by
  funext i; by_cases h : i = k
  · rw [h, up_same, up_same]
  · rw [up_other _ _ _ _ h, up_other _ _ _ _ h]
/-- A node: none: not there; some none: dirty; some (some r): clean, with r. -/
abbrev Nd := Option (Option Rf)
structure T where
  b : Nat → Rf
  n : Nat → Nd
def new : T := ⟨fun _ => zr, fun i => if i = 0 then some (some zr) else none⟩
def alv (r : Rf) : List Rf := if 0 < r.1 then [r] else []
theorem alv_yes {r : Rf} (h : 0 < r.1) : alv r = [r] := if_pos h
theorem alv_no {r : Rf} (h : ¬ 0 < r.1) : alv r = [] := if_neg h
theorem alv_zr : alv zr = [] := rfl
theorem alv_pos {r x : Rf} (h : x ∈ alv r) : 0 < x.1 := by
  unfold alv at h
  split at h
  · rw [List.mem_singleton] at h; rw [h]; assumption
  · cases h
/-- The ref of a clean node; else the zero ref. -/
def nr : Nd → Rf
  | some (some r) => r
  | _ => zr
def cln : Nd → Bool
  | some (some _) => true
  | _ => false
def dty : Nd → Bool
  | some none => true
  | _ => false
def flat {α : Type} (f : Nat → List α) (n : Nat) : List α := ((List.range n).map f).flatten
theorem flat_zero {α : Type} (f : Nat → List α) : flat f 0 = [] := rfl
theorem flat_succ {α : Type} (f : Nat → List α) (n : Nat) : flat f (n + 1) = flat f n ++ f n := by
  unfold flat; rw [List.range_succ, List.map_append, List.flatten_append]; simp
theorem flat_congr {α : Type} {f g : Nat → List α} : ∀ {n : Nat}, (∀ i, i < n → f i = g i) → flat f n = flat g n
  | 0, _ => rfl
  | n + 1, h => by rw [flat_succ, flat_succ, flat_congr (fun i hi => h i (by omega)), h n (by omega)]
theorem flat_up {α : Type} [BEq α] (f : Nat → List α) (k : Nat) (v : List α) (x : α) : ∀ n, k < n → (flat (up f k v) n).count x + (f k).count x = (flat f n).count x + v.count x
  | 0, h => by omega
  | n + 1, h => by
    rw [flat_succ, flat_succ, List.count_append, List.count_append]
    by_cases e : k = n
    · subst e
      rw [up_same, flat_congr (fun i hi => up_other f k i v (by omega))]
      omega
    · rw [up_other _ _ _ _ (fun h => e h.symm)]
      have := flat_up f k v x n (by omega)
      omega
theorem flat_mem {α : Type} {f : Nat → List α} {x : α} : ∀ {n : Nat}, x ∈ flat f n → ∃ i, i < n ∧ x ∈ f i
  | 0, h => by cases h
  | n + 1, h => by
    rw [flat_succ, List.mem_append] at h
    rcases h with h | h
    · obtain ⟨i, h1, h2⟩ := flat_mem h
      exact ⟨i, by omega, h2⟩
    · exact ⟨n, by omega, h⟩
def blocks (t : T) : List Rf := flat (fun k => alv (t.b k)) 64
def nodes (t : T) : List Rf := flat (fun i => alv (nr (t.n i))) 9
def refs (t : T) : List Rf := blocks t ++ nodes t
theorem refs_pos {t : T} {x : Rf} (h : x ∈ refs t) : 0 < x.1 := by
  unfold refs at h
  rcases List.mem_append.1 h with h | h
  · obtain ⟨_, _, h⟩ := flat_mem h; exact alv_pos h
  · obtain ⟨_, _, h⟩ := flat_mem h; exact alv_pos h
def cntb (t : T) : Nat → Nat
  | 0 => 0
  | n + 1 => cntb t n + if 0 < (t.b n).1 then 1 else 0
def mapped (t : T) : Nat := cntb t 64
theorem blocks_len (t : T) : ∀ n, (flat (fun k => alv (t.b k)) n).length = cntb t n
  | 0 => rfl
  | n + 1 => by
    rw [flat_succ, List.length_append, blocks_len t n, cntb]
    unfold alv
    split <;> rfl
def lf (k : Nat) : Nat := k / 8 + 1
/-- Blocks and root are dirty where a block turns. -/
def put (t : T) (k : Nat) (r : Rf) : T := ⟨up t.b k r, up (up t.n (lf k) (some none)) 0 (some none)⟩
def has (t : T) (i : Nat) : Bool := (List.range 8).any fun j => decide (0 < (t.b (8 * (i - 1) + j)).1)
def setT (t : T) (k : Nat) (r : Rf) : T := put t k r
def delT (t : T) (k : Nat) : T := if has (put t k zr) (lf k) then put t k zr else { put t k zr with n := up (put t k zr).n (lf k) none }
def dead (t : T) (k : Nat) : List Rf := alv (t.b k) ++ alv (nr (t.n (lf k))) ++ alv (nr (t.n 0))
def touchT (t : T) (i : Nat) : T := { t with n := up (up t.n i (some none)) 0 (some none) }
def touchD (t : T) (i : Nat) : List Rf := if i = 0 then alv (nr (t.n 0)) else alv (nr (t.n i)) ++ alv (nr (t.n 0))
def saveT (t : T) (i : Nat) (r : Rf) : T := { t with n := up t.n i (some (some r)) }
theorem blocks_up (t : T) (k : Nat) (r x : Rf) (N : Nat → Nd) (hk : k < 64) : (blocks ⟨up t.b k r, N⟩).count x + (alv (t.b k)).count x = (blocks t).count x + (alv r).count x := by
  unfold blocks
  show (flat (fun i => alv (up t.b k r i)) 64).count x + _ = _
  rw [comp_up alv t.b k r]
  exact flat_up (fun i => alv (t.b i)) k (alv r) x 64 hk
theorem nodes_up (t : T) (i : Nat) (v : Nd) (x : Rf) (B : Nat → Rf) (hi : i < 9) : (nodes ⟨B, up t.n i v⟩).count x + (alv (nr (t.n i))).count x = (nodes t).count x + (alv (nr v)).count x := by
  unfold nodes
  show (flat (fun j => alv (nr (up t.n i v j))) 9).count x + _ = _
  rw [comp_up (fun y => alv (nr y)) t.n i v]
  exact flat_up (fun j => alv (nr (t.n j))) i (alv (nr v)) x 9 hi
theorem lf_in {k : Nat} (h : k < 64) : 1 ≤ lf k ∧ lf k < 9 := by unfold lf; omega
theorem refs_count (t : T) (x : Rf) : (refs t).count x = (blocks t).count x + (nodes t).count x := by unfold refs; rw [List.count_append]
theorem nodes_put (t : T) (i : Nat) (v : Nd) (x : Rf) (B : Nat → Rf) (hi : 1 ≤ i ∧ i < 9) (hv : nr v = zr) : (nodes ⟨B, up (up t.n i v) 0 (some none)⟩).count x + (alv (nr (t.n i))).count x + (alv (nr (t.n 0))).count x = (nodes t).count x := by
  have h1 := nodes_up ⟨B, up t.n i v⟩ 0 (some none) x B (by omega)
  have h2 := nodes_up t i v x B hi.2
  have e : (⟨B, up t.n i v⟩ : T).n 0 = t.n 0 := up_other _ _ _ _ (by omega)
  rw [e] at h1
  rw [hv, alv_zr] at h2
  have e2 : alv (nr (some none)) = [] := rfl
  rw [e2] at h1
  simp only [List.count_nil] at h1 h2
  have h1' : (nodes ⟨B, up (up t.n i v) 0 (some none)⟩).count x + (alv (nr (t.n 0))).count x = (nodes ⟨B, up t.n i v⟩).count x + 0 := h1
  omega
/-- The accounts of a block that is set. -/
theorem acc_set (t : T) (k : Nat) (r x : Rf) (hk : k < 64) : (refs (setT t k r)).count x + (dead t k).count x = (refs t).count x + (alv r).count x := by
  rw [refs_count, refs_count]
  unfold setT put dead
  rw [List.count_append, List.count_append]
  have h1 := blocks_up t k r x (up (up t.n (lf k) (some none)) 0 (some none)) hk
  have h2 := nodes_put t (lf k) (some none) x (up t.b k r) (lf_in hk) rfl
  omega
theorem acc_del (t : T) (k : Nat) (x : Rf) (hk : k < 64) : (refs (delT t k)).count x + (dead t k).count x = (refs t).count x := by
  unfold delT
  split
  · have := acc_set t k zr x hk
    rw [alv_zr] at this
    simp only [List.count_nil, Nat.add_zero] at this
    exact this
  · rw [refs_count, refs_count]
    unfold dead put
    rw [List.count_append, List.count_append]
    have e : up (up (up t.n (lf k) (some none)) 0 (some none)) (lf k) none = up (up t.n (lf k) none) 0 (some none) := by
      rw [up_comm _ 0 (lf k) _ _ (by have := lf_in hk; omega), up_up]
    dsimp only
    rw [e]
    have h1 := blocks_up t k zr x (up (up t.n (lf k) none) 0 (some none)) hk
    have h2 := nodes_put t (lf k) none x (up t.b k zr) (lf_in hk) rfl
    rw [alv_zr] at h1
    simp only [List.count_nil] at h1
    omega
theorem acc_touch (t : T) (i : Nat) (x : Rf) (hi : i < 9) : (refs (touchT t i)).count x + (touchD t i).count x = (refs t).count x := by
  rw [refs_count, refs_count]
  unfold touchT touchD
  have hb : blocks { t with n := up (up t.n i (some none)) 0 (some none) } = blocks t := rfl
  rw [hb]
  by_cases h : i = 0
  · subst h
    rw [if_pos rfl, up_up]
    have h2 := nodes_up t 0 (some none) x t.b (by omega)
    have e2 : alv (nr (some none)) = [] := rfl
    rw [e2] at h2
    simp only [List.count_nil] at h2
    omega
  · rw [if_neg h, List.count_append]
    have h2 := nodes_put t i (some none) x t.b (by omega) rfl
    omega
theorem acc_save (t : T) (i : Nat) (r x : Rf) (hi : i < 9) (hd : t.n i = some none) : (refs (saveT t i r)).count x = (refs t).count x + (alv r).count x := by
  rw [refs_count, refs_count]
  unfold saveT
  have hb : blocks { t with n := up t.n i (some (some r)) } = blocks t := rfl
  rw [hb]
  have h2 := nodes_up t i (some (some r)) x t.b hi
  rw [hd] at h2
  have e2 : alv (nr (some none)) = [] := rfl
  have e3 : nr (some (some r)) = r := rfl
  rw [e2, e3] at h2
  simp only [List.count_nil] at h2
  omega
end Tr
end Go.Proofs.Ytfeemeddhhgigaa

/-
  A usage table in plain lists (namespace Us): rows, what each call makes of them and answers.
-/
import Derived.Test.YthgjfjmampmiiaaUsK
namespace Go.Proofs.Ythgjfjmampmiiaa
namespace Us
/-- A row: what the segment is, how many slots live, its age. -/
structure S where
  s : Int
  l : Int
  a : Int
theorem S.ext' {x y : S} (h1 : x.s = y.s) (h2 : x.l = y.l) (h3 : x.a = y.a) : x = y := by
  cases x; cases y; cases h1; cases h2; cases h3; rfl
instance : DecidableEq S := fun x y => decidable_of_iff (x.s = y.s ∧ x.l = y.l ∧ x.a = y.a) ⟨fun h => S.ext' h.1 h.2.1 h.2.2, fun h => by rw [h]; exact ⟨rfl, rfl, rfl⟩⟩
def z : S := ⟨0, 0, 0⟩
def cut (n most : Int) : Int := if n < 0 then 0 else if most < n then most else n
theorem cut_le (n most : Int) (h : 0 ≤ most) : 0 ≤ cut n most ∧ cut n most ≤ most := by
  unfold cut
  split
  · omega
  · split <;> omega
theorem cut_in (n most : Int) (h : 0 ≤ n ∧ n ≤ most) : cut n most = n := by
  unfold cut
  rw [if_neg (by omega), if_neg (by omega)]
def ageOf (n : Int) : Int := cut n 1099511627776
theorem age_le (n : Int) : 0 ≤ ageOf n ∧ ageOf n ≤ 1099511627776 := cut_le n _ (by omega)
def ok (x : S) : Prop := (0 ≤ x.s ∧ x.s ≤ 3) ∧ (0 ≤ x.l ∧ x.l ≤ 64) ∧ (0 ≤ x.a ∧ x.a ≤ 1099511627776)
instance (x : S) : Decidable (ok x) := by unfold ok; exact inferInstance
theorem z_ok : ok z := by unfold ok z; simp
def at_ (T : List S) (i : Nat) : S := T.getD i z
theorem at_set (T : List S) (i j : Nat) (x : S) (hi : i < T.length) : at_ (T.set i x) j = if j = i then x else at_ T j := by
  unfold at_
  rw [List.getD_eq_getElem?_getD, List.getD_eq_getElem?_getD, List.getElem?_set]
  by_cases h : i = j
  · subst h
    rw [if_pos rfl, if_pos rfl, if_pos hi]
    rfl
  · rw [if_neg h, if_neg (fun e => h e.symm)]
theorem at_ext {T U : List S} (hl : T.length = U.length) (h : ∀ i, i < T.length → at_ T i = at_ U i) : T = U := by
  apply List.ext_getElem hl
  intro i h1 h2
  have := h i h1
  unfold at_ at this
  simpa [List.getD_eq_getElem?_getD, h1, h2] using this
theorem at_map (f : S → S) (T : List S) (i : Nat) (hi : i < T.length) : at_ (T.map f) i = f (at_ T i) := by
  unfold at_
  simp [List.getD_eq_getElem?_getD, hi]
theorem at_mem {T : List S} {i : Nat} (hi : i < T.length) : at_ T i ∈ T := by
  unfold at_
  rw [List.getD_eq_getElem?_getD, List.getElem?_eq_getElem hi]
  exact List.getElem_mem hi
/-- What a table keeps: all in its place, one open at most. -/
structure Inv (T : List S) : Prop where
  ok : ∀ i, i < T.length → ok (at_ T i)
  one : ∀ i j, i < T.length → j < T.length → (at_ T i).s = 1 → (at_ T j).s = 1 → i = j
  len : T.length ≤ 32
/-- The places of those that are so, among the first m. -/
def ixn (k : Int) (T : List S) (m : Nat) : List Nat := (List.range m).filter fun i => decide ((at_ T i).s = k)
def ix (k : Int) (T : List S) : List Nat := ixn k T T.length
theorem ixn_zero (k : Int) (T : List S) : ixn k T 0 = [] := rfl
theorem ixn_yes {k : Int} {T : List S} {m : Nat} (h : (at_ T m).s = k) : ixn k T (m + 1) = ixn k T m ++ [m] := by
  unfold ixn
  rw [List.range_succ, List.filter_append]
  simp [h]
theorem ixn_no {k : Int} {T : List S} {m : Nat} (h : (at_ T m).s ≠ k) : ixn k T (m + 1) = ixn k T m := by
  unfold ixn
  rw [List.range_succ, List.filter_append]
  simp [h]
theorem ixn_le (k : Int) (T : List S) (m : Nat) : (ixn k T m).length ≤ m := by
  unfold ixn
  have := List.length_filter_le (fun i => decide ((at_ T i).s = k)) (List.range m)
  simpa using this
theorem ix_le (k : Int) (T : List S) : (ix k T).length ≤ T.length := ixn_le k T _
theorem mem_ixn {k : Int} {T : List S} {m i : Nat} : i ∈ ixn k T m ↔ i < m ∧ (at_ T i).s = k := by
  unfold ixn
  rw [List.mem_filter, List.mem_range, decide_eq_true_eq]
theorem mem_ix {k : Int} {T : List S} {i : Nat} : i ∈ ix k T ↔ i < T.length ∧ (at_ T i).s = k := mem_ixn
/-- The first of them. -/
def fx (k : Int) (T : List S) : Option Nat := (ix k T).head?
theorem ixn_first {k : Int} {T : List S} : ∀ {m i : Nat}, i < m → (at_ T i).s = k → (∀ j, j < i → (at_ T j).s ≠ k) → (ixn k T m).head? = some i
  | 0, _, h, _, _ => by omega
  | m + 1, i, h, h1, h2 => by
    by_cases him : i = m
    · subst him
      have : ixn k T i = [] := by
        apply List.eq_nil_iff_forall_not_mem.2
        intro j hj
        have := mem_ixn.1 hj
        exact h2 j this.1 this.2
      rw [ixn_yes h1, this]
      rfl
    · have hr := ixn_first (m := m) (i := i) (by omega) h1 h2
      by_cases hm : (at_ T m).s = k
      · rw [ixn_yes hm, List.head?_append, hr]
        rfl
      · rw [ixn_no hm]
        exact hr
theorem fx_some {k : Int} {T : List S} {i : Nat} : fx k T = some i ↔ i < T.length ∧ (at_ T i).s = k ∧ ∀ j, j < i → (at_ T j).s ≠ k := by
  constructor
  · intro h
    unfold fx at h
    have hm : i ∈ ix k T := List.mem_of_head? h
    obtain ⟨h1, h2⟩ := mem_ix.1 hm
    refine ⟨h1, h2, fun j hj he => ?_⟩
    -- the least one that is so
    have : ∃ l, l ≤ j ∧ (at_ T l).s = k ∧ ∀ q, q < l → (at_ T q).s ≠ k := by
      clear h hm h1 h2 hj
      induction j using Nat.strongRecOn with
      | ind j ih =>
        by_cases hx : ∃ q, q < j ∧ (at_ T q).s = k
        · obtain ⟨q, hq, hqk⟩ := hx
          obtain ⟨l, h1, h2, h3⟩ := ih q hq hqk
          exact ⟨l, by omega, h2, h3⟩
        · exact ⟨j, Nat.le_refl _, he, fun q hq hk => hx ⟨q, hq, hk⟩⟩
    obtain ⟨l, hl, hlk, hll⟩ := this
    have := ixn_first (m := T.length) (i := l) (by omega) hlk hll
    unfold ix at h
    rw [this] at h
    injection h with h
    omega
  · intro ⟨h1, h2, h3⟩
    exact ixn_first h1 h2 h3
theorem fx_none {k : Int} {T : List S} : fx k T = none ↔ ∀ i, i < T.length → (at_ T i).s ≠ k := by
  unfold fx
  rw [List.head?_eq_none_iff, List.eq_nil_iff_forall_not_mem]
  constructor
  · intro h i hi he
    exact h i (mem_ix.2 ⟨hi, he⟩)
  · intro h i hi
    have := mem_ix.1 hi
    exact h i this.1 this.2
theorem fx_nil {k : Int} {T : List S} (h : fx k T = none) : ix k T = [] := List.head?_eq_none_iff.1 h
theorem fx_cons {k : Int} {T : List S} {i : Nat} (h : fx k T = some i) : ∃ r, ix k T = i :: r := by
  unfold fx at h
  cases q : ix k T with
  | nil => rw [q] at h; cases h
  | cons x r =>
    rw [q] at h
    injection h with h
    exact ⟨r, by rw [h]⟩
/-- What Open answers. -/
def open_ (T : List S) : Int := match fx 1 T with | some i => i | none => -1
def has (T : List S) (i : Int) : Prop := 0 ≤ i ∧ i < (T.length : Int)
instance (T : List S) (i : Int) : Decidable (has T i) := by unfold has; exact inferInstance
/-- Is another one than i open? -/
def other (T : List S) (i : Nat) : Prop := ∃ j, j < T.length ∧ j ≠ i ∧ (at_ T j).s = 1
theorem other_iff {T : List S} (h : Inv T) (i : Nat) : other T i ↔ ∃ j, fx 1 T = some j ∧ j ≠ i := by
  constructor
  · intro ⟨j, h1, h2, h3⟩
    cases q : fx 1 T with
    | none => exact absurd h3 (fx_none.1 q j h1)
    | some k =>
      obtain ⟨k1, k2, _⟩ := fx_some.1 q
      exact ⟨k, rfl, by rw [h.one k j k1 h1 k2 h3]; exact h2⟩
  · intro ⟨j, h1, h2⟩
    obtain ⟨k1, k2, _⟩ := fx_some.1 h1
    exact ⟨j, k1, h2, k2⟩
open Classical in
noncomputable def setE (T : List S) (i : Int) (x : S) : Int := if ¬ (has T i ∧ ok x) then 7 else if x.s = 1 ∧ other T i.toNat then 10 else 0
open Classical in
noncomputable def setT (T : List S) (i : Int) (x : S) : List S := if setE T i x = 0 then T.set i.toNat x else T
def full (x : S) : S := ⟨2, x.l, x.a⟩
/-- What was open is full. -/
def shut (T : List S) : List S := match fx 1 T with | some o => T.set o (full (at_ T o)) | none => T
def takeT (T : List S) (now : Int) : List S := match fx 0 T with | some i => (shut T).set i ⟨1, 0, ageOf now⟩ | none => T
def takeI (T : List S) : Int := match fx 0 T with | some i => i | none => 0
def takeB (T : List S) : Bool := (fx 0 T).isSome
def mayAdd (T : List S) (i n : Int) : Prop := has T i ∧ 0 ≤ (at_ T i.toNat).l + n ∧ (at_ T i.toNat).l + n ≤ 64
instance (T : List S) (i n : Int) : Decidable (mayAdd T i n) := by unfold mayAdd; exact inferInstance
def addE (T : List S) (i n : Int) : Int := if mayAdd T i n then 0 else 7
def added (x : S) (n now : Int) : S := ⟨x.s, x.l + n, if 0 < n then ageOf now else x.a⟩
def addT (T : List S) (i n now : Int) : List S := if mayAdd T i n then T.set i.toNat (added (at_ T i.toNat) n now) else T
def pendE (T : List S) (i : Int) : Int := if ¬ has T i then 7 else if (at_ T i.toNat).s = 2 ∧ (at_ T i.toNat).l = 0 then 0 else 16
def pended (x : S) : S := ⟨3, x.l, x.a⟩
def pendT (T : List S) (i : Int) : List S := if pendE T i = 0 then T.set i.toNat (pended (at_ T i.toNat)) else T
def rel1 (x : S) : S := if x.s = 3 then z else x
def relT (T : List S) : List S := T.map rel1
/-- .. on the way: the first of those places freed. -/
def relL (L : List Nat) (T : List S) : List S := L.foldl (fun U i => U.set i z) T
theorem relL_len : ∀ (L : List Nat) (T : List S), (relL L T).length = T.length
  | [], T => rfl
  | i :: L, T => by
    show (relL L (T.set i z)).length = _
    rw [relL_len L, List.length_set]
theorem relL_at : ∀ (L : List Nat) (T : List S) (j : Nat), (∀ i ∈ L, i < T.length) → at_ (relL L T) j = if j ∈ L then z else at_ T j
  | [], T, j, _ => by simp [relL]
  | i :: L, T, j, h => by
    show at_ (relL L (T.set i z)) j = _
    rw [relL_at L _ j (fun q hq => by rw [List.length_set]; exact h q (by simp [hq])), at_set _ _ _ _ (h i (by simp))]
    by_cases h1 : j ∈ L
    · simp [h1]
    · by_cases h2 : j = i
      · simp [h2]
      · simp [h1, h2]
theorem relL_snoc (L : List Nat) (i : Nat) (T : List S) : relL (L ++ [i]) T = (relL L T).set i z := by
  unfold relL
  rw [List.foldl_append]
  rfl
theorem relL_all (T : List S) : relL (ix 3 T) T = relT T := by
  apply at_ext
  · rw [relL_len]; unfold relT; rw [List.length_map]
  · intro i hi
    rw [relL_len] at hi
    rw [relL_at _ _ _ (fun q hq => (mem_ix.1 hq).1)]
    unfold relT
    rw [at_map _ _ _ hi]
    unfold rel1
    by_cases h : (at_ T i).s = 3
    · rw [if_pos (mem_ix.2 ⟨hi, h⟩), if_pos h]
    · rw [if_neg (fun q => h (mem_ix.1 q).2), if_neg h]
theorem shut_len (T : List S) : (shut T).length = T.length := by
  unfold shut
  split
  · rw [List.length_set]
  · rfl
theorem shut_at (T : List S) (h : Inv T) (j : Nat) (hj : j < T.length) : at_ (shut T) j = if (at_ T j).s = 1 then full (at_ T j) else at_ T j := by
  unfold shut
  cases q : fx 1 T with
  | none => rw [if_neg (fx_none.1 q j hj)]
  | some o =>
    obtain ⟨h1, h2, _⟩ := fx_some.1 q
    show at_ (T.set o _) j = _
    rw [at_set _ _ _ _ h1]
    by_cases e : j = o
    · subst e
      rw [if_pos rfl, if_pos h2]
    · rw [if_neg e, if_neg (fun e1 => e (h.one j o hj h1 e1 h2))]
/-- What came of the table and what was opened. -/
theorem take_at {T : List S} (h : Inv T) {i : Nat} (hf : fx 0 T = some i) (now : Int) (j : Nat) (hj : j < T.length) : at_ (takeT T now) j = if j = i then ⟨1, 0, ageOf now⟩ else if (at_ T j).s = 1 then full (at_ T j) else at_ T j := by
  unfold takeT
  rw [hf]
  show at_ ((shut T).set i _) j = _
  rw [at_set _ _ _ _ (by rw [shut_len]; exact (fx_some.1 hf).1), shut_at T h j hj]
theorem take_len (T : List S) (now : Int) : (takeT T now).length = T.length := by
  unfold takeT
  split
  · rw [List.length_set, shut_len]
  · rfl
theorem ok_full {x : S} (h : ok x) : ok (full x) := by
  unfold ok full at *
  exact ⟨by simp, h.2⟩
theorem Inv.take {T : List S} (h : Inv T) (now : Int) : Inv (takeT T now) := by
  cases hf : fx 0 T with
  | none =>
    have e : takeT T now = T := by unfold takeT; rw [hf]
    rw [e]; exact h
  | some i =>
    have hl := take_len T now
    have hn := age_le now
    refine ⟨fun j hj => ?_, fun j k hj hk h1 h2 => ?_, by rw [hl]; exact h.len⟩
    · rw [hl] at hj
      rw [take_at h hf now j hj]
      split
      · unfold Us.ok; exact ⟨by simp, by simp, hn⟩
      · split
        · exact ok_full (h.ok j hj)
        · exact h.ok j hj
    · rw [hl] at hj hk
      rw [take_at h hf now j hj] at h1
      rw [take_at h hf now k hk] at h2
      have key : ∀ q, (if q = i then (⟨1, 0, ageOf now⟩ : S) else if (at_ T q).s = 1 then full (at_ T q) else at_ T q).s = 1 → q = i := fun q hq => by
        by_cases e : q = i
        · exact e
        · rw [if_neg e] at hq
          by_cases e1 : (at_ T q).s = 1
          · rw [if_pos e1] at hq; unfold full at hq; simp at hq
          · rw [if_neg e1] at hq; exact absurd hq e1
      rw [key j h1, key k h2]
theorem Inv.put {T : List S} (h : Inv T) {i : Nat} (hi : i < T.length) {x : S} (hx : Us.ok x) (h1 : x.s = 1 → ∀ j, j < T.length → j ≠ i → (at_ T j).s ≠ 1) : Inv (T.set i x) := by
  refine ⟨fun j hj => ?_, fun j k hj hk e1 e2 => ?_, by rw [List.length_set]; exact h.len⟩
  · rw [List.length_set] at hj
    rw [at_set _ _ _ _ hi]
    split
    · exact hx
    · exact h.ok j hj
  · rw [List.length_set] at hj hk
    rw [at_set _ _ _ _ hi] at e1 e2
    by_cases hj2 : j = i
    · by_cases hk2 : k = i
      · rw [hj2, hk2]
      · rw [if_pos hj2] at e1
        rw [if_neg hk2] at e2
        exact absurd e2 (h1 e1 k hk hk2)
    · rw [if_neg hj2] at e1
      by_cases hk2 : k = i
      · rw [if_pos hk2] at e2
        exact absurd e1 (h1 e2 j hj hj2)
      · rw [if_neg hk2] at e2
        exact h.one j k hj hk e1 e2
theorem has_nat {T : List S} {i : Int} (h : has T i) : i.toNat < T.length ∧ ((i.toNat : Nat) : Int) = i := by
  unfold has at h
  omega
theorem setE_zero {T : List S} {i : Int} {x : S} (h : setE T i x = 0) : has T i ∧ ok x ∧ (x.s = 1 → ¬ other T i.toNat) := by
  unfold setE at h
  by_cases h1 : has T i ∧ ok x
  · rw [if_neg (fun q => q h1)] at h
    by_cases h2 : x.s = 1 ∧ other T i.toNat
    · rw [if_pos h2] at h; exact absurd h (by decide)
    · exact ⟨h1.1, h1.2, fun e q => h2 ⟨e, q⟩⟩
  · rw [if_pos h1] at h; exact absurd h (by decide)
theorem Inv.set {T : List S} (h : Inv T) (i : Int) (x : S) : Inv (setT T i x) := by
  unfold setT
  split
  · rename_i e
    obtain ⟨h1, h2, h3⟩ := setE_zero e
    exact h.put (has_nat h1).1 h2 (fun q j hj hji hjs => h3 q ⟨j, hj, hji, hjs⟩)
  · exact h
theorem Inv.add {T : List S} (h : Inv T) (i n now : Int) : Inv (addT T i n now) := by
  unfold addT
  split
  · rename_i e
    obtain ⟨h1, h2, h3⟩ := e
    have hi := (has_nat h1).1
    have hk := h.ok _ hi
    have ha := age_le now
    refine h.put hi ?_ (fun q j hj hji hjs => hji (h.one j _ hj hi hjs q))
    unfold Us.ok added
    unfold Us.ok at hk
    refine ⟨hk.1, ⟨h2, h3⟩, ?_⟩
    show 0 ≤ (if 0 < n then ageOf now else _) ∧ (if 0 < n then ageOf now else _) ≤ _
    split
    · exact ha
    · exact hk.2.2
  · exact h
theorem pend_zero {T : List S} {i : Int} (h : pendE T i = 0) : has T i ∧ (at_ T i.toNat).s = 2 ∧ (at_ T i.toNat).l = 0 := by
  unfold pendE at h
  by_cases h1 : has T i
  · rw [if_neg (fun q => q h1)] at h
    by_cases h2 : (at_ T i.toNat).s = 2 ∧ (at_ T i.toNat).l = 0
    · exact ⟨h1, h2⟩
    · rw [if_neg h2] at h; exact absurd h (by decide)
  · rw [if_pos h1] at h; exact absurd h (by decide)
theorem Inv.pend {T : List S} (h : Inv T) (i : Int) : Inv (pendT T i) := by
  unfold pendT
  split
  · rename_i e
    obtain ⟨h1, h2, h3⟩ := pend_zero e
    have hi := (has_nat h1).1
    have hk := h.ok _ hi
    refine h.put hi ?_ (fun q => by unfold pended at q; simp at q)
    unfold Us.ok pended
    unfold Us.ok at hk
    exact ⟨by simp, hk.2⟩
  · exact h
theorem rel_at (T : List S) (i : Nat) (hi : i < T.length) : at_ (relT T) i = rel1 (at_ T i) := at_map _ _ _ hi
theorem rel_len (T : List S) : (relT T).length = T.length := by unfold relT; rw [List.length_map]
theorem Inv.rel {T : List S} (h : Inv T) : Inv (relT T) := by
  refine ⟨fun j hj => ?_, fun j k hj hk e1 e2 => ?_, by rw [rel_len]; exact h.len⟩
  · rw [rel_len] at hj
    rw [rel_at T j hj]
    unfold rel1
    split
    · exact z_ok
    · exact h.ok j hj
  · rw [rel_len] at hj hk
    rw [rel_at T _ hj] at e1
    rw [rel_at T _ hk] at e2
    have key : ∀ q, (rel1 (at_ T q)).s = 1 → (at_ T q).s = 1 := fun q hq => by
      unfold rel1 at hq
      by_cases e : (at_ T q).s = 3
      · rw [if_pos e] at hq; exact absurd hq (by decide)
      · rw [if_neg e] at hq; exact hq
    exact h.one j k hj hk (key j e1) (key k e2)
/-- A table of so many free ones. -/
def new (n : Int) : List S := List.replicate (cut n 32).toNat z
theorem new_len (n : Int) : (new n).length = (cut n 32).toNat := by unfold new; rw [List.length_replicate]
theorem at_rep (m i : Nat) : at_ (List.replicate m z) i = z := by
  unfold at_
  rw [List.getD_eq_getElem?_getD, List.getElem?_replicate]
  split <;> rfl
theorem new_inv (n : Int) : Inv (new n) := by
  have hc := cut_le n 32 (by omega)
  refine ⟨fun i _ => ?_, fun i j _ _ e => ?_, by rw [new_len]; omega⟩
  · unfold new; rw [at_rep]; exact z_ok
  · unfold new at e; rw [at_rep] at e; exact absurd e (by decide)
end Us
end Go.Proofs.Ythgjfjmampmiiaa

/-
  Calls as data: what they make of a tree, what is dead then, what is new: the accounts, what always holds, either order.
-/
import Derived.Test.YtfeemeddhhgigaaTrB
namespace Go.Proofs.Ytfeemeddhhgigaa
namespace Tr
open Pg (Rf zr)
/-- A call: its kind, its number, its ref, its page. -/
structure O where
  k : Int
  n : Int
  r : Rf
  p : List Rf
def inK (N : Int) : Prop := 0 ≤ N ∧ N ≤ 63
instance (N : Int) : Decidable (inK N) := by unfold inK; exact inferInstance
def inN (N : Int) : Prop := 0 ≤ N ∧ N ≤ 8
instance (N : Int) : Decidable (inN N) := by unfold inN; exact inferInstance
/-- What Get answers. -/
def getB (t : T) (N : Int) : Bool := decide (inK N) && decide (0 < (t.b N.toNat).1)
def getR (t : T) (N : Int) : Rf := if getB t N then t.b N.toNat else zr
/-- What Node answers. -/
def nodeB (t : T) (N : Int) : Bool := decide (inN N) && cln (t.n N.toNat)
def nodeR (t : T) (N : Int) : Rf := if nodeB t N then nr (t.n N.toNat) else zr
def setOk (N : Int) (r : Rf) : Bool := decide (inK N) && decide (0 < r.1)
def touchOk (t : T) (N : Int) : Bool := nodeB t N && decide (0 < (nodeR t N).1)
def setI (t : T) (N : Int) (r : Rf) : T := if setOk N r then setT t N.toNat r else t
def setD (t : T) (N : Int) (r : Rf) : List Rf := if setOk N r then dead t N.toNat else []
def delI (t : T) (N : Int) : T := if getB t N then delT t N.toNat else t
def delD (t : T) (N : Int) : List Rf := if getB t N then dead t N.toNat else []
def touchI (t : T) (N : Int) : T := if touchOk t N then touchT t N.toNat else t
def touchE (t : T) (N : Int) : List Rf := if touchOk t N then touchD t N.toNat else []
def bare (t : T) (N : Int) : Bool := decide (N = 0) && decide (mapped t = 0)
def saveE (t : T) (N : Int) (r : Rf) : Int :=
  if (decide (inN N) && dty (t.n N.toNat)) = false then 16 else if N = 0 ∧ dl t = true then 16 else if (bare t N = true ∧ r ≠ zr) ∨ (bare t N = false ∧ r.1 < 1) then 7 else 0
def saveI (t : T) (N : Int) (r : Rf) : T := if saveE t N r = 0 then saveT t N.toNat r else t
def anyP (p : List Rf) : Bool := (List.range 8).any fun j => decide (0 < (p.getD j zr).1)
def loadE (t : T) (N : Int) (p : List Rf) (r : Rf) : Int :=
  if ¬ inN N ∨ r.1 < 1 then 7 else if N = 0 then (if nodeB t 0 = true ∧ nodeR t 0 = zr then 0 else 16) else if (t.n N.toNat).isSome then 16 else if anyP p then 0 else 7
def loadB (t : T) (i : Nat) (p : List Rf) : Nat → Rf := fun k => if lf k = i ∧ 0 < (p.getD (k - 8 * (i - 1)) zr).1 then p.getD (k - 8 * (i - 1)) zr else t.b k
def loadI (t : T) (N : Int) (p : List Rf) (r : Rf) : T := if loadE t N p r = 0 then (if N = 0 then saveT t 0 r else ⟨loadB t N.toNat p, up t.n N.toNat (some (some r))⟩) else t
def dirtyL (t : T) : List Nat := flat (fun j => if dty (t.n (j + 1)) then [j + 1] else []) 8 ++ (if dty (t.n 0) then [0] else [])
def pageL (t : T) (N : Int) : List Rf := if N = 0 then (List.range 8).map (fun j => nr (t.n (j + 1))) else if inN N then (List.range 8).map (fun j => t.b (8 * (N.toNat - 1) + j)) else List.replicate 8 zr
/-- Without Loads: the tree behind a call, what is dead then, what is new. -/
def runT (t : T) (o : O) : T := if o.k = 0 then setI t o.n o.r else if o.k = 1 then delI t o.n else if o.k = 2 then touchI t o.n else if o.k = 3 then saveI t o.n o.r else t
def runD (t : T) (o : O) : List Rf := if o.k = 0 then setD t o.n o.r else if o.k = 1 then delD t o.n else if o.k = 2 then touchE t o.n else []
def runM (t : T) (o : O) : List Rf := if o.k = 0 then (if setOk o.n o.r then [o.r] else []) else if o.k = 1 then [] else if o.k = 2 then [] else if o.k = 3 then (if saveE t o.n o.r = 0 ∧ 0 < o.r.1 then [o.r] else []) else []
theorem setOk_iff (N : Int) (r : Rf) : setOk N r = true ↔ inK N ∧ 0 < r.1 := by unfold setOk; rw [Bool.and_eq_true, decide_eq_true_eq, decide_eq_true_eq]
theorem getB_iff (t : T) (N : Int) : getB t N = true ↔ inK N ∧ 0 < (t.b N.toNat).1 := by unfold getB; rw [Bool.and_eq_true, decide_eq_true_eq, decide_eq_true_eq]
theorem nodeB_iff (t : T) (N : Int) : nodeB t N = true ↔ inN N ∧ cln (t.n N.toNat) = true := by unfold nodeB; rw [Bool.and_eq_true, decide_eq_true_eq]
theorem cln_iff (x : Nd) : cln x = true ↔ ∃ r, x = some (some r) := by
  cases x with
  | none => simp [cln]
  | some y => cases y <;> simp [cln]
theorem touchOk_iff (t : T) (N : Int) : touchOk t N = true ↔ inN N ∧ ∃ r, t.n N.toNat = some (some r) ∧ 0 < r.1 := by
  unfold touchOk
  rw [Bool.and_eq_true, decide_eq_true_eq]
  constructor
  · rintro ⟨h1, h2⟩
    obtain ⟨h3, h4⟩ := (nodeB_iff t N).1 h1
    obtain ⟨r, h5⟩ := (cln_iff _).1 h4
    refine ⟨h3, r, h5, ?_⟩
    unfold nodeR at h2
    rw [if_pos h1, h5] at h2
    exact h2
  · rintro ⟨h1, r, h2, h3⟩
    have h4 : nodeB t N = true := (nodeB_iff t N).2 ⟨h1, (cln_iff _).2 ⟨r, h2⟩⟩
    refine ⟨h4, ?_⟩
    unfold nodeR
    rw [if_pos h4, h2]
    exact h3
theorem save_ok {t : T} {N : Int} {r : Rf} (h : saveE t N r = 0) : inN N ∧ t.n N.toNat = some none ∧ (N = 0 → dl t = false) ∧ (bare t N = true → r = zr) ∧ (bare t N = false → 0 < r.1) := by
  unfold saveE at h
  split at h
  · cases h
  · rename_i h1
    rw [Bool.not_eq_false, Bool.and_eq_true, decide_eq_true_eq, dty_iff] at h1
    split at h
    · cases h
    · rename_i h2
      split at h
      · cases h
      · rename_i h3
        refine ⟨h1.1, h1.2, fun e => ?_, fun e => ?_, fun e => ?_⟩
        · cases q : dl t with
          | false => rfl
          | true => exact absurd ⟨e, q⟩ h2
        · exact Classical.byContradiction fun e2 => h3 (Or.inl ⟨e, e2⟩)
        · exact Classical.byContradiction fun e2 => h3 (Or.inr ⟨e, by omega⟩)
/-- The accounts of a call. -/
theorem acc_run (t : T) (o : O) (x : Rf) : (refs (runT t o)).count x + (runD t o).count x = (refs t).count x + (runM t o).count x := by
  unfold runT runD runM
  by_cases h0 : o.k = 0
  · rw [if_pos h0, if_pos h0, if_pos h0]
    unfold setI setD
    by_cases h : setOk o.n o.r = true
    · rw [if_pos h, if_pos h, if_pos h]
      obtain ⟨h1, h2⟩ := (setOk_iff _ _).1 h
      have := acc_set t o.n.toNat o.r x (by unfold inK at h1; omega)
      rw [alv_yes h2] at this
      exact this
    · rw [if_neg h, if_neg h, if_neg h]
  rw [if_neg h0, if_neg h0, if_neg h0]
  by_cases h1 : o.k = 1
  · rw [if_pos h1, if_pos h1, if_pos h1]
    unfold delI delD
    by_cases h : getB t o.n = true
    · rw [if_pos h, if_pos h]
      obtain ⟨h1, _⟩ := (getB_iff _ _).1 h
      have := acc_del t o.n.toNat x (by unfold inK at h1; omega)
      simp only [List.count_nil, Nat.add_zero]
      exact this
    · rw [if_neg h, if_neg h]
  rw [if_neg h1, if_neg h1, if_neg h1]
  by_cases h2 : o.k = 2
  · rw [if_pos h2, if_pos h2, if_pos h2]
    unfold touchI touchE
    by_cases h : touchOk t o.n = true
    · rw [if_pos h, if_pos h]
      obtain ⟨h1, _⟩ := (touchOk_iff _ _).1 h
      have := acc_touch t o.n.toNat x (by unfold inN at h1; omega)
      simp only [List.count_nil, Nat.add_zero]
      exact this
    · rw [if_neg h, if_neg h]
  rw [if_neg h2, if_neg h2, if_neg h2]
  by_cases h3 : o.k = 3
  · rw [if_pos h3, if_pos h3]
    unfold saveI
    by_cases h : saveE t o.n o.r = 0
    · rw [if_pos h]
      obtain ⟨h1, h2, _⟩ := save_ok h
      have := acc_save t o.n.toNat o.r x (by unfold inN at h1; omega) h2
      by_cases hr : 0 < o.r.1
      · rw [if_pos ⟨h, hr⟩]
        rw [alv_yes hr] at this
        simp only [List.count_nil, Nat.add_zero]
        exact this
      · rw [if_neg (fun q => hr q.2)]
        rw [alv_no hr] at this
        simp only [List.count_nil, Nat.add_zero] at this ⊢
        exact this
    · rw [if_neg h, if_neg (fun q => h q.1)]
  · rw [if_neg h3, if_neg h3]
theorem run_inv (t : T) (o : O) (h : Inv t) : Inv (runT t o) := by
  unfold runT
  split
  · unfold setI
    split
    · rename_i h2
      obtain ⟨h3, h4⟩ := (setOk_iff _ _).1 h2
      rw [set_act _ _ _ h4]
      exact act_inv t _ _ h (by unfold inK at h3; omega) (Or.inl h4)
    · exact h
  · split
    · unfold delI
      split
      · rename_i h2
        obtain ⟨h3, _⟩ := (getB_iff _ _).1 h2
        rw [del_act]
        exact act_inv t _ _ h (by unfold inK at h3; omega) (Or.inr rfl)
      · exact h
    · split
      · unfold touchI
        split
        · rename_i h2
          obtain ⟨h3, r, h4, _⟩ := (touchOk_iff _ _).1 h2
          exact touch_inv t _ h (by unfold inN at h3; omega) (by rw [h4]; rfl)
        · exact h
      · split
        · unfold saveI
          split
          · rename_i h2
            obtain ⟨h3, h4, h5, h6, h7⟩ := save_ok h2
            have h3' := h3
            unfold inN at h3'
            refine save_inv t _ _ h (by omega) h4 (fun e => ⟨h5 (by omega), ?_⟩) (fun e => h7 ?_)
            · cases q : bare t o.n with
              | true => exact Or.inr (h6 q)
              | false => exact Or.inl (h7 q)
            · unfold bare
              rw [decide_eq_false (show ¬ o.n = 0 by omega), Bool.false_and]
          · exact h
        · exact h
theorem refs_perm {t u : T} {D M : List Rf} (h : ∀ x, (refs t).count x + D.count x = (refs u).count x + M.count x) : (refs t ++ D).Perm (refs u ++ M) := by
  rw [List.perm_iff_count]
  intro x
  rw [List.count_append, List.count_append]
  exact h x
theorem acc_len {t u : T} {D M : List Rf} (h : ∀ x, (refs t).count x + D.count x = (refs u).count x + M.count x) : (refs t).length + D.length = (refs u).length + M.length := by
  have := (refs_perm h).length_eq
  rw [List.length_append, List.length_append] at this
  exact this
/-- A block is set, or, with an At below 1, taken away. -/
def pqT (t : T) (N : Int) (r : Rf) : T := if 0 < r.1 then setI t N r else delI t N
def pqD (t : T) (N : Int) (r : Rf) : List Rf := if 0 < r.1 then setD t N r else delD t N
def pqM (N : Int) (r : Rf) : List Rf := if 0 < r.1 ∧ setOk N r = true then [r] else []
theorem acc_pq (t : T) (N : Int) (r x : Rf) : (refs (pqT t N r)).count x + (pqD t N r).count x = (refs t).count x + (pqM N r).count x := by
  unfold pqT pqD pqM
  by_cases h : 0 < r.1
  · rw [if_pos h, if_pos h]
    have h2 := acc_run t ⟨0, N, r, []⟩ x
    have e1 : runT t ⟨0, N, r, []⟩ = setI t N r := rfl
    have e2 : runD t ⟨0, N, r, []⟩ = setD t N r := rfl
    have e3 : runM t ⟨0, N, r, []⟩ = if setOk N r then [r] else [] := rfl
    rw [e1, e2, e3] at h2
    by_cases k : setOk N r = true
    · rw [if_pos ⟨h, k⟩]; rw [if_pos k] at h2; exact h2
    · rw [if_neg (fun q => k q.2)]; rw [if_neg k] at h2; exact h2
  · rw [if_neg h, if_neg h, if_neg (fun q => h q.1)]
    exact acc_run t ⟨1, N, r, []⟩ x
/-- Does it turn the block? -/
def pqA (t : T) (N : Int) (r : Rf) : Bool := if 0 < r.1 then decide (inK N) else getB t N
def pqR (r : Rf) : Rf := if 0 < r.1 then r else zr
theorem pq_act (t : T) (N : Int) (r : Rf) : pqT t N r = if pqA t N r then act t N.toNat (pqR r) else t := by
  unfold pqT pqA pqR
  by_cases h : 0 < r.1
  · rw [if_pos h, if_pos h, if_pos h]
    unfold setI setOk
    rw [decide_eq_true h, Bool.and_true, set_act _ _ _ h]
  · rw [if_neg h, if_neg h, if_neg h]
    unfold delI
    rw [del_act]
theorem pqA_other (t : T) (a b : Int) (x y : Rf) (hab : a ≠ b) : pqA (pqT t a x) b y = pqA t b y := by
  rw [pq_act]
  split
  · unfold pqA
    by_cases h : 0 < y.1
    · rw [if_pos h, if_pos h]
    · rw [if_neg h, if_neg h]
      rename_i hA
      have ha : inK a := by
        unfold pqA at hA
        split at hA
        · exact of_decide_eq_true hA
        · exact ((getB_iff _ _).1 hA).1
      rw [Bool.eq_iff_iff, getB_iff, getB_iff]
      constructor
      · rintro ⟨h1, h2⟩
        refine ⟨h1, ?_⟩
        have h2' : 0 < (up t.b a.toNat (pqR x) b.toNat).1 := h2
        rw [up_other _ _ _ _ (by unfold inK at h1 ha; omega)] at h2'
        exact h2'
      · rintro ⟨h1, h2⟩
        refine ⟨h1, ?_⟩
        show 0 < (up t.b a.toNat (pqR x) b.toNat).1
        rw [up_other _ _ _ _ (by unfold inK at h1 ha; omega)]
        exact h2
  · rfl
theorem pqA_in {t : T} {N : Int} {r : Rf} (h : pqA t N r = true) : inK N := by
  unfold pqA at h
  split at h
  · exact of_decide_eq_true h
  · exact ((getB_iff _ _).1 h).1
/-- Two blocks, in either order: the same tree. -/
theorem pq_comm (t : T) (a b : Int) (x y : Rf) (hab : a ≠ b) : pqT (pqT t a x) b y = pqT (pqT t b y) a x := by
  rw [pq_act (pqT t a x) b y, pq_act (pqT t b y) a x, pqA_other t a b x y hab, pqA_other t b a y x (fun e => hab e.symm), pq_act t a x, pq_act t b y]
  by_cases h1 : pqA t a x = true
  · by_cases h2 : pqA t b y = true
    · rw [if_pos h1, if_pos h2, if_pos h1, if_pos h2]
      have i1 := pqA_in h1
      have i2 := pqA_in h2
      unfold inK at i1 i2
      exact act_comm t _ _ _ _ (by omega)
    · rw [if_neg h2, if_neg h2]
  · rw [if_neg h1, if_neg h1]
theorem pq_len (t : T) (a b : Int) (x y : Rf) (hab : a ≠ b) : (pqD t a x).length + (pqD (pqT t a x) b y).length = (pqD t b y).length + (pqD (pqT t b y) a x).length := by
  have h1 := acc_len (acc_pq t a x)
  have h2 := acc_len (acc_pq (pqT t a x) b y)
  have h3 := acc_len (acc_pq t b y)
  have h4 := acc_len (acc_pq (pqT t b y) a x)
  rw [pq_comm t a b x y hab] at h2
  omega
end Tr
end Go.Proofs.Ytfeemeddhhgigaa

/-
  The reference in plain lists; its lists in memory.
-/
import Derived.Test.YtglfjjmbadffmaaDkG
namespace Go.Proofs.Ytglfjjmbadffmaa
open Go.RowKit

namespace Dk
abbrev S := Nat × List Int
/-- What F has of n sectors, by rising numbers. -/
def lst (F : Nat → Option (List Int)) : Nat → List S
  | 0 => []
  | n + 1 => lst F n ++ (match F n with | some L => [(n, L)] | none => [])
theorem lst_none {F : Nat → Option (List Int)} {n : Nat} (h : F n = none) : lst F (n + 1) = lst F n := by rw [lst, h]; simp
theorem lst_some {F : Nat → Option (List Int)} {n : Nat} {L : List Int} (h : F n = some L) : lst F (n + 1) = lst F n ++ [(n, L)] := by rw [lst, h]
theorem lst_congr {F G : Nat → Option (List Int)} : ∀ (n : Nat), (∀ i, i < n → F i = G i) → lst F n = lst G n
  | 0, _ => rfl
  | n + 1, h => by rw [lst, lst, lst_congr n (fun i hi => h i (by omega)), h n (by omega)]
theorem lst_nil (n : Nat) : lst (fun _ => none) n = [] := by
  induction n with
  | zero => rfl
  | succ n ih => rw [lst_none rfl, ih]
theorem lst_lt {F : Nat → Option (List Int)} : ∀ (n : Nat) (x : S), x ∈ lst F n → x.1 < n ∧ F x.1 = some x.2
  | 0, x, h => by cases h
  | n + 1, x, h => by
    cases e : F n with
    | none => rw [lst_none e] at h; have := lst_lt n x h; exact ⟨by omega, this.2⟩
    | some L =>
      rw [lst_some e] at h
      rcases List.mem_append.1 h with h | h
      · have := lst_lt n x h; exact ⟨by omega, this.2⟩
      · obtain rfl := List.mem_singleton.1 h
        exact ⟨by show n < _; omega, e⟩
theorem lst_len (F : Nat → Option (List Int)) : ∀ n, (lst F n).length ≤ n
  | 0 => Nat.le_refl _
  | n + 1 => by
    have := lst_len F n
    rw [lst, List.length_append]
    cases F n <;> simp <;> omega
/-- A list without a sector. -/
def del (l : List S) (i : Nat) : List S := l.filter fun x => decide (x.1 ≠ i)
theorem del_lst (F : Nat → Option (List Int)) (i : Nat) : ∀ n, del (lst F n) i = lst (upd F i none) n
  | 0 => rfl
  | n + 1 => by
    have ih := del_lst F i n
    by_cases h : n = i
    · subst h
      rw [lst_none (upd_same _ _ _), ← ih]
      cases e : F n with
      | none => rw [lst_none e]
      | some L => rw [lst_some e]; unfold del; rw [List.filter_append]; simp
    · cases e : F n with
      | none => rw [lst_none e, lst_none (by rw [upd_other _ _ h, e]), ih]
      | some L =>
        rw [lst_some e, lst_some (L := L) (by rw [upd_other _ _ h, e]), ← ih]
        unfold del
        rw [List.filter_append]
        simp [h]
/-- One step of put. -/
def stp (s : S) (r : List S × Bool) (x : S) : List S × Bool := if r.2 = false ∧ s.1 < x.1 then (r.1 ++ [s] ++ [x], true) else (r.1 ++ [x], r.2)
def ins (l : List S) (s : S) : List S := let r := (del l s.1).foldl (stp s) ([], false); if r.2 then r.1 else r.1 ++ [s]
theorem fold_lst (F : Nat → Option (List Int)) (i : Nat) (L : List Int) : ∀ n, ∃ r, (lst (upd F i none) n).foldl (stp (i, L)) ([], false) = r ∧ (n ≤ i → r.2 = false) ∧ (r.2 = true → r.1 = lst (upd F i (some L)) n) ∧ (r.2 = false → r.1 = lst (upd F i none) n ∧ (i < n → lst (upd F i (some L)) n = r.1 ++ [(i, L)]))
  | 0 => ⟨([], false), rfl, fun _ => rfl, (fun h => by cases h), fun _ => ⟨rfl, fun h => by omega⟩⟩
  | n + 1 => by
    obtain ⟨r, h0, h1, h2, h3⟩ := fold_lst F i L n
    by_cases h : n = i
    · subst h
      rw [lst_none (upd_same _ _ _)]
      refine ⟨r, h0, fun h => by omega, fun e => ?_, fun e => ⟨(h3 e).1, fun _ => ?_⟩⟩
      · rw [h1 (Nat.le_refl _)] at e; cases e
      · rw [lst_some (upd_same _ _ _), (h3 e).1]
        congr 1
        exact lst_congr n (fun j hj => by rw [upd_other _ _ (by omega), upd_other _ _ (by omega)])
    · cases e : F n with
      | none =>
        rw [lst_none (by rw [upd_other _ _ h, e]), lst_none (by rw [upd_other _ _ h, e])]
        refine ⟨r, h0, fun h => h1 (by omega), h2, fun q => ⟨(h3 q).1, fun hi => (h3 q).2 (by omega)⟩⟩
      | some M =>
        rw [lst_some (L := M) (by rw [upd_other _ _ h, e]), lst_some (L := M) (by rw [upd_other _ _ h, e]), List.foldl_append, h0]
        show ∃ q, stp (i, L) r (n, M) = q ∧ _
        refine ⟨_, rfl, ?_⟩
        unfold stp
        by_cases hc : r.2 = false ∧ i < n
        · rw [if_pos (show r.2 = false ∧ (i, L).1 < (n, M).1 from hc)]
          refine ⟨fun h => by omega, fun _ => ?_, fun q => by cases q⟩
          show r.1 ++ [(i, L)] ++ [(n, M)] = _
          rw [(h3 hc.1).2 hc.2]
        · rw [if_neg (show ¬ (r.2 = false ∧ (i, L).1 < (n, M).1) from hc)]
          refine ⟨fun h => h1 (by omega), fun q => ?_, fun q => ⟨?_, fun hi => ?_⟩⟩
          · show r.1 ++ [(n, M)] = _
            rw [h2 q]
          · show r.1 ++ [(n, M)] = _
            rw [(h3 q).1]
          · exact absurd ⟨q, by omega⟩ hc
theorem ins_lst (F : Nat → Option (List Int)) (i : Nat) (L : List Int) (n : Nat) (hi : i < n) : ins (lst F n) (i, L) = lst (upd F i (some L)) n := by
  unfold ins
  show (let r := (del (lst F n) i).foldl (stp (i, L)) ([], false); if r.2 then r.1 else r.1 ++ [(i, L)]) = _
  rw [del_lst]
  obtain ⟨r, h0, _, h2, h3⟩ := fold_lst F i L n
  rw [h0]
  show (if r.2 then r.1 else r.1 ++ [(i, L)]) = _
  cases e : r.2 with
  | true => exact h2 e
  | false => exact ((h3 e).2 hi).symm
/-- What is found. -/
def fnd (l : List S) (i : Nat) : Option (List Int) := (l.find? fun x => decide (x.1 = i)).map (·.2)
theorem fnd_lst (F : Nat → Option (List Int)) (i : Nat) : ∀ n, fnd (lst F n) i = if i < n then F i else none
  | 0 => rfl
  | n + 1 => by
    have ih := fnd_lst F i n
    unfold fnd at ih ⊢
    cases e : F n with
    | none =>
      rw [lst_none e, ih]
      by_cases h : i < n
      · rw [if_pos h, if_pos (by omega)]
      · rw [if_neg h]
        by_cases h1 : i = n
        · subst h1; rw [if_pos (by omega), e]
        · rw [if_neg (by omega)]
    | some L =>
      rw [lst_some e, List.find?_append, Option.map_or, ih]
      by_cases h : i < n
      · rw [if_pos h, if_pos (by omega)]
        cases F i with
        | some _ => rfl
        | none =>
          have : ¬ n = i := by omega
          simp [this]
      · rw [if_neg h]
        by_cases h1 : i = n
        · subst h1; rw [if_pos (by omega), e]; simp
        · rw [if_neg (by omega)]
          have : ¬ n = i := by omega
          simp [this]
theorem lst_nos (F : Nat → Option (List Int)) : ∀ n, (lst F n).map (·.1) = (List.range n).filter fun i => (F i).isSome
  | 0 => rfl
  | n + 1 => by
    rw [List.range_succ, List.filter_append, ← lst_nos F n]
    cases e : F n with
    | none => rw [lst_none e]; simp [e]
    | some L => rw [lst_some e]; simp [e]
end Dk
end Go.Proofs.Ytglfjjmbadffmaa

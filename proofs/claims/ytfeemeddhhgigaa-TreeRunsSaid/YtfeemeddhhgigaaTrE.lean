/-
  A new tree that loads what is there is the same.
-/
import Derived.Test.YtfeemeddhhgigaaTrD
namespace Go.Proofs.Ytfeemeddhhgigaa
namespace Tr
open Pg (Rf zr)
theorem svs_inv (t : T) (at_ : Int) (ha : 1 ≤ at_) (h : Inv t) : ∀ j, j ≤ (dirtyL t).length → Inv (svs t (sR t at_) (dirtyL t) j)
  | 0, _ => h
  | j + 1, hj => by
    have ih := svs_inv t at_ ha h j (by omega)
    have hok := svs_ok t at_ ha j (by omega)
    have hr := run_inv _ ⟨3, ((dirtyL t).getD j 0 : Nat), sR t at_ j, []⟩ ih
    have e : runT (svs t (sR t at_) (dirtyL t) j) ⟨3, ((dirtyL t).getD j 0 : Nat), sR t at_ j, []⟩ = svs t (sR t at_) (dirtyL t) (j + 1) := by
      show saveI _ _ _ = _
      unfold saveI
      rw [if_pos hok, Int.toNat_natCast]
      rfl
    rw [e] at hr
    exact hr
theorem svs_rt (t : T) (at_ : Int) (ha : 1 ≤ at_) (h : Rt t) : ∀ j, j ≤ (dirtyL t).length → Rt (svs t (sR t at_) (dirtyL t) j)
  | 0, _ => h
  | j + 1, hj => by
    have ih := svs_rt t at_ ha h j (by omega)
    have hok := svs_ok t at_ ha j (by omega)
    have hr := run_rt _ ⟨3, ((dirtyL t).getD j 0 : Nat), sR t at_ j, []⟩ ih
    have e : runT (svs t (sR t at_) (dirtyL t) j) ⟨3, ((dirtyL t).getD j 0 : Nat), sR t at_ j, []⟩ = svs t (sR t at_) (dirtyL t) (j + 1) := by
      show saveI _ _ _ = _
      unfold saveI
      rw [if_pos hok, Int.toNat_natCast]
      rfl
    rw [e] at hr
    exact hr
theorem node_of {u : T} (i : Nat) (hi : i < 9) : nodeB u (i : Int) = cln (u.n i) ∧ nodeR u (i : Int) = nr (u.n i) := by
  have e : nodeB u (i : Int) = cln (u.n i) := by
    unfold nodeB
    rw [Int.toNat_natCast, decide_eq_true (show inN (i : Int) by unfold inN; omega), Bool.true_and]
  refine ⟨e, ?_⟩
  unfold nodeR
  rw [e, Int.toNat_natCast]
  cases q : u.n i with
  | none => rfl
  | some y => cases y <;> rfl
theorem clean_of {u : T} (h : dirtyL u = []) (i : Nat) (hi : i < 9) : u.n i = none ∨ ∃ r, u.n i = some (some r) := by
  cases q : u.n i with
  | none => exact Or.inl rfl
  | some y =>
    cases y with
    | some r => exact Or.inr ⟨r, rfl⟩
    | none =>
      have := (dirty_mem u i).2 ⟨hi, q⟩
      rw [h] at this
      cases this
/-- A new tree that loads the root, and the first i leaves that are there. -/
def ld (u : T) : Nat → T
  | 0 => if 0 < (nodeR u 0).1 then loadI new 0 (pageL u 0) (nodeR u 0) else new
  | i + 1 => if nodeB u ((i + 1 : Nat) : Int) then loadI (ld u i) ((i + 1 : Nat) : Int) (pageL u ((i + 1 : Nat) : Int)) (nodeR u ((i + 1 : Nat) : Int)) else ld u i
theorem ld_root (u : T) (h : 0 < (nodeR u 0).1) (p : List Rf) : loadE new 0 p (nodeR u 0) = 0 := by
  unfold loadE
  rw [if_neg (by unfold inN; omega), if_pos rfl, if_pos ⟨rfl, rfl⟩]
theorem page_at (u : T) (i : Nat) (hi : i + 1 < 9) (k : Nat) (hk : lf k = i + 1) : (pageL u ((i + 1 : Nat) : Int)).getD (k - 8 * i) zr = u.b k := by
  unfold pageL
  rw [if_neg (by omega), if_pos (by unfold inN; omega), Int.toNat_natCast]
  have h8 : k - 8 * i < 8 := by unfold lf at hk; omega
  rw [List.getD_eq_getElem?_getD, List.getElem?_map, List.getElem?_range h8]
  show u.b (8 * (i + 1 - 1) + (k - 8 * i)) = _
  congr 1
  unfold lf at hk
  omega
theorem any_page (u : T) (i : Nat) (hi : i + 1 < 9) (h : has u (i + 1) = true) : anyP (pageL u ((i + 1 : Nat) : Int)) = true := by
  obtain ⟨k, hk, hp⟩ := (has_iff u (i + 1) (by omega)).1 h
  unfold anyP
  rw [List.any_eq_true]
  refine ⟨k - 8 * i, by rw [List.mem_range]; unfold lf at hk; omega, decide_eq_true ?_⟩
  rw [page_at u i hi k hk]
  exact hp
theorem ld_all (u : T) (h : Inv u) (hd : dirtyL u = []) : ∀ i, i < 9 →
    ((ld u i).n 0 = u.n 0 ∧ (∀ j, 1 ≤ j → (ld u i).n j = if j ≤ i then u.n j else none) ∧ (∀ k, (ld u i).b k = if lf k ≤ i then u.b k else zr))
    ∧ (∀ i', i = i' + 1 → nodeB u (i : Int) = true → loadE (ld u i') (i : Int) (pageL u (i : Int)) (nodeR u (i : Int)) = 0)
  | 0, _ => by
    refine ⟨?_, fun i' e => by omega⟩
    have hb : ∀ k, ¬ lf k ≤ 0 := fun k => by have := lf_pos k; omega
    have e0 := (node_of (u := u) 0 (by omega)).2
    have e0' : nodeR u 0 = nr (u.n 0) := e0
    by_cases hp : 0 < (nodeR u 0).1
    · have e : ld u 0 = saveT new 0 (nodeR u 0) := by
        show (if 0 < (nodeR u 0).1 then loadI new 0 (pageL u 0) (nodeR u 0) else new) = _
        rw [if_pos hp]
        unfold loadI
        rw [if_pos (ld_root u hp _), if_pos rfl]
      rw [e]
      refine ⟨?_, fun j hj => ?_, fun k => ?_⟩
      · have e2 : (saveT new 0 (nodeR u 0)).n 0 = some (some (nodeR u 0)) := up_same new.n 0 (some (some (nodeR u 0)))
        rw [e2]
        rcases clean_of hd 0 (by omega) with q | ⟨r, q⟩
        · have := h.root; rw [q] at this; cases this
        · rw [e0', q]; rfl
      · have e2 : (saveT new 0 (nodeR u 0)).n j = new.n j := up_other new.n 0 j (some (some (nodeR u 0))) (by omega)
        rw [e2, if_neg (by omega)]
        exact if_neg (by omega)
      · rw [if_neg (hb k)]; rfl
    · have e : ld u 0 = new := if_neg hp
      rw [e]
      refine ⟨?_, fun j hj => ?_, fun k => ?_⟩
      · rcases clean_of hd 0 (by omega) with q | ⟨r, q⟩
        · have := h.root; rw [q] at this; cases this
        · rw [e0', q] at hp
          rcases h.cl0 r q with k | k
          · exact absurd k hp
          · rw [q, k]; rfl
      · rw [if_neg (by omega)]
        exact if_neg (by omega)
      · rw [if_neg (hb k)]; rfl
  | i + 1, hi => by
    obtain ⟨⟨i1, i2, i3⟩, _⟩ := ld_all u h hd i (by omega)
    have hno : (ld u i).n (i + 1) = none := by rw [i2 (i + 1) (by omega), if_neg (by omega)]
    have hok : nodeB u ((i + 1 : Nat) : Int) = true → loadE (ld u i) ((i + 1 : Nat) : Int) (pageL u ((i + 1 : Nat) : Int)) (nodeR u ((i + 1 : Nat) : Int)) = 0 := fun hb => by
      obtain ⟨n1, n2⟩ := node_of (u := u) (i + 1) hi
      rw [n1] at hb
      obtain ⟨r, hr⟩ := (cln_iff _).1 hb
      have hpos := h.cl (i + 1) r (by omega) hr
      have hh : has u (i + 1) = true := by rw [← h.there (i + 1) (by omega) hi, hr]; rfl
      rw [n2, hr]
      show loadE _ _ _ r = 0
      unfold loadE
      rw [if_neg (by unfold inN; omega), if_neg (by omega), Int.toNat_natCast, hno, if_neg (by simp), if_pos (any_page u i hi hh)]
    refine ⟨?_, fun i' e hb => ?_⟩
    · by_cases hb : nodeB u ((i + 1 : Nat) : Int) = true
      · have e : ld u (i + 1) = ⟨loadB (ld u i) (i + 1) (pageL u ((i + 1 : Nat) : Int)), up (ld u i).n (i + 1) (some (some (nodeR u ((i + 1 : Nat) : Int))))⟩ := by
          show (if nodeB u ((i + 1 : Nat) : Int) then loadI (ld u i) ((i + 1 : Nat) : Int) (pageL u ((i + 1 : Nat) : Int)) (nodeR u ((i + 1 : Nat) : Int)) else ld u i) = _
          rw [if_pos hb]
          unfold loadI
          rw [if_pos (hok hb), if_neg (by omega), Int.toNat_natCast]
        obtain ⟨n1, n2⟩ := node_of (u := u) (i + 1) hi
        have hb' := hb
        rw [n1] at hb'
        obtain ⟨r, hr⟩ := (cln_iff _).1 hb'
        rw [e]
        refine ⟨?_, fun j hj => ?_, fun k => ?_⟩
        · have q0 : up (ld u i).n (i + 1) (some (some (nodeR u ((i + 1 : Nat) : Int)))) 0 = (ld u i).n 0 := up_other _ _ _ _ (by omega)
          exact q0.trans i1
        · show up (ld u i).n (i + 1) (some (some (nodeR u ((i + 1 : Nat) : Int)))) j = _
          by_cases q : j = i + 1
          · subst q
            rw [up_same, if_pos (Nat.le_refl _), n2, hr]; rfl
          · rw [up_other _ _ _ _ q, i2 j hj]
            by_cases q2 : j ≤ i
            · rw [if_pos q2, if_pos (by omega)]
            · rw [if_neg q2, if_neg (by omega)]
        · show loadB (ld u i) (i + 1) _ k = _
          unfold loadB
          rw [show 8 * (i + 1 - 1) = 8 * i by omega]
          by_cases q : lf k = i + 1
          · rw [page_at u i hi k q, if_pos (show lf k ≤ i + 1 by omega)]
            by_cases q2 : 0 < (u.b k).1
            · rw [if_pos ⟨q, q2⟩]
            · rw [if_neg (fun w => q2 w.2), i3 k, if_neg (by omega)]
              rcases h.z k with w | w
              · exact absurd w q2
              · exact w.symm
          · rw [if_neg (fun w => q w.1), i3 k]
            by_cases q2 : lf k ≤ i
            · rw [if_pos q2, if_pos (by omega)]
            · rw [if_neg q2, if_neg (by omega)]
      · have e : ld u (i + 1) = ld u i := by
          show (if nodeB u ((i + 1 : Nat) : Int) then loadI (ld u i) ((i + 1 : Nat) : Int) (pageL u ((i + 1 : Nat) : Int)) (nodeR u ((i + 1 : Nat) : Int)) else ld u i) = _
          rw [if_neg hb]
        obtain ⟨n1, _⟩ := node_of (u := u) (i + 1) hi
        rw [n1] at hb
        have hn : u.n (i + 1) = none := by
          rcases clean_of hd (i + 1) hi with q | ⟨r, q⟩
          · exact q
          · rw [q] at hb; exact absurd rfl hb
        have hh : has u (i + 1) = false := by rw [← h.there (i + 1) (by omega) hi, hn]; rfl
        rw [e]
        refine ⟨i1, fun j hj => ?_, fun k => ?_⟩
        · rw [i2 j hj]
          by_cases q : j = i + 1
          · subst q; rw [if_neg (by omega), if_pos (Nat.le_refl _), hn]
          · by_cases q2 : j ≤ i
            · rw [if_pos q2, if_pos (by omega)]
            · rw [if_neg q2, if_neg (by omega)]
        · rw [i3 k]
          by_cases q : lf k = i + 1
          · rw [if_neg (by omega), if_pos (by omega)]
            rcases h.z k with w | w
            · have := (has_iff u (i + 1) (by omega)).2 ⟨k, q, w⟩
              rw [hh] at this; cases this
            · exact w.symm
          · by_cases q2 : lf k ≤ i
            · rw [if_pos q2, if_pos (by omega)]
            · rw [if_neg q2, if_neg (by omega)]
    · have : i' = i := by omega
      subst this
      exact hok hb
/-- What tells of a tree are its 64 blocks and its nine nodes. -/
theorem same_of {t u : T} (hb : ∀ k, k < 64 → t.b k = u.b k) (hn : ∀ i, i < 9 → t.n i = u.n i) : refs t = refs u ∧ mapped t = mapped u ∧ dirtyL t = dirtyL u := by
  refine ⟨?_, cntb_congr 64 hb, ?_⟩
  · have e1 : blocks t = blocks u := flat_congr (fun k hk => by rw [hb k hk])
    have e2 : nodes t = nodes u := flat_congr (fun i hi => by rw [hn i hi])
    unfold refs
    rw [e1, e2]
  · have e1 : flat (fun j => if dty (t.n (j + 1)) then [j + 1] else []) 8 = flat (fun j => if dty (u.n (j + 1)) then [j + 1] else []) 8 := flat_congr (fun j hj => by rw [hn (j + 1) (by omega)])
    unfold dirtyL
    rw [e1, hn 0 (by omega)]
theorem ld_same (u : T) (h : Inv u) (hd : dirtyL u = []) : refs (ld u 8) = refs u ∧ mapped (ld u 8) = mapped u ∧ dirtyL (ld u 8) = dirtyL u := by
  obtain ⟨⟨h1, h2, h3⟩, _⟩ := ld_all u h hd 8 (by omega)
  refine same_of (fun k hk => ?_) (fun i hi => ?_)
  · rw [h3 k, if_pos (by unfold lf; omega)]
  · by_cases q : i = 0
    · rw [q]; exact h1
    · rw [h2 i (by omega), if_pos (by omega)]
end Tr
end Go.Proofs.Ytfeemeddhhgigaa

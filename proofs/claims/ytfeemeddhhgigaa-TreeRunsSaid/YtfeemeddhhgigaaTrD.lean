/-
  What a call makes of the blocks; the dirty nodes, saved in their order.
-/
import Derived.Test.YtfeemeddhhgigaaTrC
namespace Go.Proofs.Ytfeemeddhhgigaa
namespace Tr
open Pg (Rf zr)
theorem getR_b {t : T} (h : Inv t) (N : Int) (hN : inK N) : getR t N = t.b N.toNat ∧ getB t N = decide (0 < (t.b N.toNat).1) := by
  have e : getB t N = decide (0 < (t.b N.toNat).1) := by unfold getB; rw [decide_eq_true hN, Bool.true_and]
  refine ⟨?_, e⟩
  unfold getR
  rw [e]
  by_cases hp : 0 < (t.b N.toNat).1
  · rw [decide_eq_true hp, if_pos rfl]
  · rw [decide_eq_false hp, if_neg (by simp)]
    rcases h.z N.toNat with q | q
    · exact absurd q hp
    · exact q.symm
/-- What a call makes of the blocks. -/
theorem run_b (t : T) (o : O) (h : Inv t) : (runT t o).b = if o.k = 0 ∧ setOk o.n o.r = true then up t.b o.n.toNat o.r else if o.k = 1 ∧ inK o.n then up t.b o.n.toNat zr else t.b := by
  unfold runT
  by_cases h0 : o.k = 0
  · rw [if_pos h0]
    unfold setI
    by_cases k : setOk o.n o.r = true
    · rw [if_pos k, if_pos ⟨h0, k⟩]; rfl
    · rw [if_neg k, if_neg (fun q => k q.2), if_neg (fun q => by omega)]
  rw [if_neg h0, if_neg (show ¬ (o.k = 0 ∧ setOk o.n o.r = true) from fun q => h0 q.1)]
  by_cases h1 : o.k = 1
  · rw [if_pos h1]
    unfold delI
    by_cases k : getB t o.n = true
    · obtain ⟨k1, _⟩ := (getB_iff _ _).1 k
      rw [if_pos k, if_pos ⟨h1, k1⟩, del_act]; rfl
    · rw [if_neg k]
      by_cases k1 : inK o.n
      · rw [if_pos ⟨h1, k1⟩]
        have hz : t.b o.n.toNat = zr := by
          rcases h.z o.n.toNat with q | q
          · exact absurd ((getB_iff _ _).2 ⟨k1, q⟩) k
          · exact q
        rw [← hz, up_id]
      · rw [if_neg (fun q => k1 q.2)]
  rw [if_neg h1, if_neg (show ¬ (o.k = 1 ∧ inK o.n) from fun q => h1 q.1)]
  by_cases h2 : o.k = 2
  · rw [if_pos h2]; unfold touchI; split <;> rfl
  rw [if_neg h2]
  by_cases h3 : o.k = 3
  · rw [if_pos h3]; unfold saveI; split <;> rfl
  · rw [if_neg h3]
theorem cntb_congr {t u : T} : ∀ n, (∀ k, k < n → t.b k = u.b k) → cntb t n = cntb u n
  | 0, _ => rfl
  | n + 1, h => by rw [cntb, cntb, cntb_congr n (fun k hk => h k (by omega)), h n (by omega)]
/-- Without Loads: a clean root has a ref just if a block has one. -/
def Rt (t : T) : Prop := ∀ r, t.n 0 = some (some r) → (0 < r.1 ↔ mapped t ≠ 0)
theorem new_mapped : mapped new = 0 := by decide
theorem new_rt : Rt new := by
  intro r h
  have e : new.n 0 = some (some zr) := rfl
  rw [e] at h
  injection h with h
  injection h with h
  rw [← h, new_mapped]
  exact ⟨fun q => absurd q zr_no, fun q => absurd rfl q⟩
theorem act_n0 (t : T) (k : Nat) (r : Rf) : (act t k r).n 0 = some none := up_same (up t.n (lf k) (if has ⟨up t.b k r, t.n⟩ (lf k) then some none else none)) 0 (some none)
theorem run_rt (t : T) (o : O) (h : Rt t) : Rt (runT t o) := by
  unfold runT
  split
  · unfold setI
    split
    · rename_i h2
      obtain ⟨_, h4⟩ := (setOk_iff _ _).1 h2
      rw [set_act _ _ _ h4]
      intro r hr
      rw [act_n0] at hr; cases hr
    · exact h
  · split
    · unfold delI
      split
      · rw [del_act]
        intro r hr
        rw [act_n0] at hr; cases hr
      · exact h
    · split
      · unfold touchI
        split
        · intro r hr
          have e : (touchT t o.n.toNat).n 0 = some none := up_same (up t.n o.n.toNat (some none)) 0 (some none)
          rw [e] at hr; cases hr
        · exact h
      · split
        · unfold saveI
          split
          · rename_i h2
            obtain ⟨h3, h4, h5, h6, h7⟩ := save_ok h2
            unfold inN at h3
            intro r hr
            have hm : mapped (saveT t o.n.toNat o.r) = mapped t := rfl
            rw [hm]
            by_cases e : o.n = 0
            · have e2 : o.n.toNat = 0 := by omega
              have e3 : (saveT t o.n.toNat o.r).n 0 = some (some o.r) := by rw [e2]; exact up_same t.n 0 (some (some o.r))
              rw [e3] at hr
              injection hr with hr
              injection hr with hr
              rw [← hr]
              by_cases hm0 : mapped t = 0
              · have hb : bare t o.n = true := by unfold bare; rw [decide_eq_true e, decide_eq_true hm0]; rfl
                rw [h6 hb]
                exact ⟨fun q => absurd q zr_no, fun q => absurd hm0 q⟩
              · have hb : bare t o.n = false := by unfold bare; rw [decide_eq_false hm0, Bool.and_false]
                exact ⟨fun _ => hm0, fun _ => h7 hb⟩
            · have e3 : (saveT t o.n.toNat o.r).n 0 = t.n 0 := up_other t.n o.n.toNat 0 (some (some o.r)) (by omega)
              rw [e3] at hr
              exact h r hr
          · exact h
        · exact h
/-- The dirty nodes, in their order. -/
theorem dirty_mem (t : T) (i : Nat) : i ∈ dirtyL t ↔ i < 9 ∧ t.n i = some none := by
  unfold dirtyL
  rw [List.mem_append]
  constructor
  · rintro (h | h)
    · obtain ⟨j, hj, h⟩ := flat_mem h
      split at h
      · rename_i h2
        rw [List.mem_singleton] at h
        rw [h]
        exact ⟨by omega, (dty_iff _).1 h2⟩
      · cases h
    · split at h
      · rename_i h2
        rw [List.mem_singleton] at h
        rw [h]
        exact ⟨by omega, (dty_iff _).1 h2⟩
      · cases h
  · rintro ⟨h1, h2⟩
    by_cases e : i = 0
    · right
      subst e
      rw [if_pos ((dty_iff _).2 h2)]
      exact List.mem_singleton.2 rfl
    · left
      have key : ∀ n, i ≤ n → i ∈ flat (fun j => if dty (t.n (j + 1)) then [j + 1] else []) n := by
        intro n hn
        induction n with
        | zero => omega
        | succ n ih =>
          rw [flat_succ, List.mem_append]
          by_cases e2 : i = n + 1
          · right
            rw [← e2, if_pos ((dty_iff _).2 h2)]
            exact List.mem_singleton.2 rfl
          · left; exact ih (by omega)
      exact key 8 (by omega)
/-- Behind j saves of dirty nodes. -/
def svs (t : T) (R : Nat → Rf) (d : List Nat) : Nat → T
  | 0 => t
  | j + 1 => saveT (svs t R d j) (d.getD j 0) (R j)
theorem svs_b (t : T) (R : Nat → Rf) (d : List Nat) : ∀ j, (svs t R d j).b = t.b
  | 0 => rfl
  | j + 1 => svs_b t R d j
theorem svs_n (t : T) (R : Nat → Rf) (d : List Nat) (i : Nat) : ∀ j, j ≤ d.length → (i ∉ d.take j → (svs t R d j).n i = t.n i) ∧ (i ∈ d.take j → ∃ m, m < j ∧ d[m]? = some i ∧ (svs t R d j).n i = some (some (R m)))
  | 0, _ => ⟨fun _ => rfl, fun h => by simp at h⟩
  | j + 1, hj => by
    have ih := svs_n t R d i j (by omega)
    have ht : d.take (j + 1) = d.take j ++ [d.getD j 0] := by
      rw [List.take_add_one, List.getD_eq_getElem?_getD, List.getElem?_eq_getElem (by omega)]
      rfl
    have hg : d[j]? = some (d.getD j 0) := by rw [List.getD_eq_getElem?_getD, List.getElem?_eq_getElem (by omega)]; rfl
    rw [ht, List.mem_append, List.mem_singleton]
    have hs : (svs t R d (j + 1)).n i = if i = d.getD j 0 then some (some (R j)) else (svs t R d j).n i := rfl
    rw [hs]
    constructor
    · intro h
      rw [if_neg (fun e => h (Or.inr e))]
      exact ih.1 (fun e => h (Or.inl e))
    · intro h
      by_cases e : i = d.getD j 0
      · rw [if_pos e]
        exact ⟨j, by omega, by rw [hg, e], rfl⟩
      · rw [if_neg e]
        rcases h with h | h
        · obtain ⟨m, h1, h2, h3⟩ := ih.2 h
          exact ⟨m, by omega, h2, h3⟩
        · exact absurd h e
theorem flat_rise (t : T) : ∀ n, ((flat (fun j => if dty (t.n (j + 1)) then [j + 1] else []) n).Pairwise (· < ·)) ∧ ∀ x ∈ flat (fun j => if dty (t.n (j + 1)) then [j + 1] else []) n, 1 ≤ x ∧ x ≤ n
  | 0 => ⟨List.Pairwise.nil, fun x hx => by cases hx⟩
  | n + 1 => by
    obtain ⟨h1, h2⟩ := flat_rise t n
    rw [flat_succ]
    refine ⟨?_, fun x hx => ?_⟩
    · rw [List.pairwise_append]
      refine ⟨h1, ?_, fun a ha b hb => ?_⟩
      · split
        · exact List.pairwise_singleton _ _
        · exact List.Pairwise.nil
      · split at hb
        · rw [List.mem_singleton] at hb
          have := h2 a ha
          omega
        · cases hb
    · rcases List.mem_append.1 hx with h | h
      · have := h2 x h; omega
      · split at h
        · rw [List.mem_singleton] at h; omega
        · cases h
theorem dirty_nodup (t : T) : (dirtyL t).Nodup := by
  unfold dirtyL
  obtain ⟨h1, h2⟩ := flat_rise t 8
  unfold List.Nodup
  rw [List.pairwise_append]
  refine ⟨h1.imp (fun h => by omega), ?_, fun a ha b hb => ?_⟩
  · split
    · exact List.pairwise_singleton _ _
    · exact List.Pairwise.nil
  · split at hb
    · rw [List.mem_singleton] at hb
      have := h2 a ha
      omega
    · cases hb
/-- The root is the last of them. -/
theorem dirty_last (t : T) (j : Nat) (hj : (dirtyL t)[j]? = some 0) : ∀ i, 1 ≤ i → i ∈ dirtyL t → i ∈ (dirtyL t).take j := by
  intro i hi h
  unfold dirtyL at hj h ⊢
  obtain ⟨_, h2⟩ := flat_rise t 8
  generalize flat (fun j => if dty (t.n (j + 1)) then [j + 1] else []) 8 = F at *
  have hl : F.length ≤ j := by
    refine Classical.byContradiction fun hc => ?_
    rw [List.getElem?_append_left (by omega), List.getElem?_eq_getElem (by omega)] at hj
    injection hj with hj
    have := h2 _ (List.getElem_mem (show j < F.length by omega))
    omega
  rcases List.mem_append.1 h with h | h
  · rw [List.take_append, List.take_of_length_le hl]
    exact List.mem_append_left _ h
  · split at h
    · rw [List.mem_singleton] at h; omega
    · cases h
/-- The ref that the j-th of them is saved with. -/
def sR (t : T) (at_ : Int) (j : Nat) : Rf := if (dirtyL t).getD j 0 = 0 ∧ mapped t = 0 then zr else (at_ + j, List.replicate 32 0)
theorem svs_ok (t : T) (at_ : Int) (ha : 1 ≤ at_) (j : Nat) (hj : j < (dirtyL t).length) : saveE (svs t (sR t at_) (dirtyL t) j) ((dirtyL t).getD j 0 : Nat) (sR t at_ j) = 0 := by
  have hg : (dirtyL t)[j]? = some ((dirtyL t).getD j 0) := by rw [List.getD_eq_getElem?_getD, List.getElem?_eq_getElem hj]; rfl
  obtain ⟨i, hi⟩ : ∃ i, (dirtyL t).getD j 0 = i := ⟨_, rfl⟩
  have hR : sR t at_ j = if i = 0 ∧ mapped t = 0 then zr else (at_ + j, List.replicate 32 0) := by unfold sR; rw [hi]
  rw [hi] at hg ⊢
  have hmem : i ∈ dirtyL t := List.mem_of_getElem? hg
  obtain ⟨h9, hd⟩ := (dirty_mem t i).1 hmem
  have hnot : i ∉ (dirtyL t).take j := by
    intro h
    obtain ⟨m, hm, hm2⟩ := List.mem_iff_getElem.1 h
    rw [List.length_take] at hm
    rw [List.getElem_take] at hm2
    have h3 := (List.pairwise_iff_getElem.1 (dirty_nodup t)) m j (by omega) hj (by omega)
    rw [List.getElem?_eq_getElem hj] at hg
    injection hg with hg
    rw [hm2, hg] at h3
    exact h3 rfl
  have hn : (svs t (sR t at_) (dirtyL t) j).n i = some none := by rw [(svs_n t (sR t at_) (dirtyL t) i j (by omega)).1 hnot]; exact hd
  have hmp : mapped (svs t (sR t at_) (dirtyL t) j) = mapped t := cntb_congr 64 (fun k _ => by rw [svs_b])
  unfold saveE
  rw [Int.toNat_natCast, hn, decide_eq_true (show inN (i : Int) by unfold inN; omega)]
  rw [if_neg (by simp [dty]), if_neg, if_neg]
  · unfold bare
    rw [hmp, hR]
    by_cases e : i = 0
    · by_cases hm : mapped t = 0
      · rw [if_pos ⟨e, hm⟩, decide_eq_true (show (i : Int) = 0 by omega), decide_eq_true hm]
        simp
      · rw [if_neg (fun q => hm q.2), decide_eq_false hm, Bool.and_false]
        intro h
        rcases h with ⟨h, _⟩ | ⟨_, h⟩
        · cases h
        · have : at_ + (j : Int) < 1 := h
          omega
    · rw [if_neg (fun q => e q.1), decide_eq_false (show ¬ (i : Int) = 0 by omega), Bool.false_and]
      intro h
      rcases h with ⟨h, _⟩ | ⟨_, h⟩
      · cases h
      · have : at_ + (j : Int) < 1 := h
        omega
  · rintro ⟨e, hdl⟩
    have e0 : i = 0 := by omega
    subst e0
    unfold dl at hdl
    rw [List.any_eq_true] at hdl
    obtain ⟨l, hl, h⟩ := hdl
    rw [List.mem_range] at hl
    rw [dty_iff] at h
    have hm := (svs_n t (sR t at_) (dirtyL t) (l + 1) j (by omega))
    by_cases q : l + 1 ∈ (dirtyL t).take j
    · obtain ⟨m, _, _, h3⟩ := hm.2 q
      rw [h3] at h; cases h
    · rw [hm.1 q] at h
      exact q (dirty_last t j hg (l + 1) (by omega) ((dirty_mem t (l + 1)).2 ⟨by omega, h⟩))
/-- Behind all saves none is dirty. -/
theorem svs_done (t : T) (R : Nat → Rf) : dirtyL (svs t R (dirtyL t) (dirtyL t).length) = [] := by
  refine List.eq_nil_iff_forall_not_mem.2 fun i h => ?_
  obtain ⟨h9, hd⟩ := (dirty_mem _ i).1 h
  have hm := svs_n t R (dirtyL t) i (dirtyL t).length (Nat.le_refl _)
  rw [List.take_length] at hm
  by_cases q : i ∈ dirtyL t
  · obtain ⟨m, _, _, h3⟩ := hm.2 q
    rw [h3] at hd; cases hd
  · rw [hm.1 q] at hd
    exact q ((dirty_mem t i).2 ⟨h9, hd⟩)
end Tr
end Go.Proofs.Ytfeemeddhhgigaa

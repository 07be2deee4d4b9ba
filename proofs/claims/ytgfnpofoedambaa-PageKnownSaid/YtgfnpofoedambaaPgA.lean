/-
  Nodes in plain lists: their bytes, and what is read of bytes.
-/
import Derived.Test.YtgfnpofoedambaaPaE2
namespace Go.Proofs.Ytgfnpofoedambaa
open Go.RowKit

namespace Pg
abbrev Rf := Int × List Int
def Ok (r : Rf) : Prop := r.2.length = 32 ∧ Sha.Byt r.2 ∧ Pk.In64 r.1
def OkA (R : List Rf) : Prop := R.length = 8 ∧ ∀ r ∈ R, Ok r
def zr : Rf := (0, List.replicate 32 0)
def zp : List Rf := List.replicate 8 zr
/-- May a ref be. -/
def mb (r : Rf) : Bool := decide (r = zr) || (decide (3 ≤ r.1) && decide (r.1 ≤ 4095))
/-- May a node be. -/
def nd (i : Int) (R : List Rf) : Bool := decide (0 ≤ i ∧ i ≤ 8) && R.all mb
/-- Its bytes, as far as k refs. -/
def ptk (i : Int) (R : List Rf) (k : Nat) : List Int := Pk.e8 i 8 ++ ((R.take k).map Pk.ref).flatten
def pt (i : Int) (R : List Rf) : List Int := ptk i R 8

theorem ok_zr : Ok zr := ⟨by simp [zr], byt_rep 32 0 (by omega), by unfold Pk.In64 zr; omega⟩
theorem ok_zp : OkA zp := ⟨by simp [zp], fun r hr => by unfold zp at hr; rw [List.mem_replicate] at hr; rw [hr.2]; exact ok_zr⟩
theorem ok_at {R : List Rf} (h : OkA R) (k : Nat) : Ok (R.getD k zr) := by
  rw [List.getD_eq_getElem?_getD]
  by_cases hk : k < R.length
  · rw [List.getElem?_eq_getElem hk]
    exact h.2 _ (List.getElem_mem hk)
  · rw [List.getElem?_eq_none (by omega)]
    exact ok_zr
theorem ref_len {r : Rf} (h : Ok r) : (Pk.ref r).length = 40 := by unfold Pk.ref; rw [List.length_append, Pk.e8_len, h.1]
theorem ref_byt {r : Rf} (h : Ok r) : Sha.Byt (Pk.ref r) := Sha.byt_append (Pk.e8_byt _ _) h.2.1
theorem flat_len : ∀ R : List Rf, (∀ r ∈ R, Ok r) → ((R.map Pk.ref).flatten).length = 40 * R.length
  | [], _ => rfl
  | r :: R, h => by
    rw [List.map_cons, List.flatten_cons, List.length_append, ref_len (h r (by simp)), flat_len R (fun x hx => h x (by simp [hx])), List.length_cons]
    omega
theorem flat_byt : ∀ R : List Rf, (∀ r ∈ R, Ok r) → Sha.Byt ((R.map Pk.ref).flatten)
  | [], _ => fun x hx => by cases hx
  | r :: R, h => by
    rw [List.map_cons, List.flatten_cons]
    exact Sha.byt_append (ref_byt (h r (by simp))) (flat_byt R (fun x hx => h x (by simp [hx])))
theorem ptk_zero (i : Int) (R : List Rf) : ptk i R 0 = Pk.e8 i 8 := by unfold ptk; rw [List.take_zero]; exact List.append_nil _
theorem ptk_succ (i : Int) (R : List Rf) (k : Nat) (hk : k < R.length) : ptk i R k ++ Pk.ref (R.getD k zr) = ptk i R (k + 1) := by
  unfold ptk
  have e : R.take (k + 1) = R.take k ++ [R.getD k zr] := by
    rw [List.take_add_one, List.getElem?_eq_getElem hk, List.getD_eq_getElem?_getD, List.getElem?_eq_getElem hk]; rfl
  rw [e, List.map_append, List.flatten_append, List.append_assoc]
  congr 2
  exact (List.append_nil _).symm
theorem ptk_len (i : Int) {R : List Rf} (h : OkA R) (k : Nat) (hk : k ≤ 8) : (ptk i R k).length = 8 + 40 * k := by
  unfold ptk
  rw [List.length_append, Pk.e8_len, flat_len _ (fun r hr => h.2 r (List.mem_of_mem_take hr)), List.length_take, h.1]
  omega
theorem pt_len (i : Int) {R : List Rf} (h : OkA R) : (pt i R).length = 328 := ptk_len i h 8 (by omega)
theorem pt_byt (i : Int) {R : List Rf} (h : OkA R) : Sha.Byt (pt i R) := Sha.byt_append (Pk.e8_byt _ _) (flat_byt _ (fun r hr => h.2 r (List.mem_of_mem_take hr)))
theorem pt_eq (i : Int) {R : List Rf} (h : OkA R) : pt i R = Pk.e8 i 8 ++ (R.map Pk.ref).flatten := by
  unfold pt ptk
  rw [List.take_of_length_le (by rw [h.1]; omega)]

/-! ### reading -/
/-- What is left behind the index and k refs. -/
def rs (L : List Int) : Nat → List Int
  | 0 => Pk.nx 8 L
  | k + 1 => Pk.nx 40 (rs L k)
def bd (L : List Int) : Nat → Bool
  | 0 => Pk.nb 8 L false
  | k + 1 => Pk.nb 40 (rs L k) (bd L k)
def gk (L : List Int) : Nat → List Rf
  | 0 => []
  | k + 1 => gk L k ++ [Pk.vr (rs L k)]
/-- The refs as they are filled in. -/
def gw (L : List Int) (k : Nat) : List Rf := gk L k ++ List.replicate (8 - k) zr
/-- Which error. -/
def er (L : List Int) : Int := if Pk.en (rs L 8) (bd L 8) ≠ 0 then Pk.en (rs L 8) (bd L 8) else if nd (Pk.vi L) (gw L 8) then 0 else 7
def ix (L : List Int) : Int := if er L = 0 then Pk.vi L else 0
def pg (L : List Int) : List Rf := if er L = 0 then gw L 8 else zp

theorem rs_zero (L : List Int) : rs L 0 = Pk.nx 8 L := rfl
theorem rs_succ (L : List Int) (k : Nat) : rs L (k + 1) = Pk.nx 40 (rs L k) := rfl
theorem bd_zero (L : List Int) : bd L 0 = Pk.nb 8 L false := rfl
theorem bd_succ (L : List Int) (k : Nat) : bd L (k + 1) = Pk.nb 40 (rs L k) (bd L k) := rfl
theorem gk_len (L : List Int) : ∀ k, (gk L k).length = k
  | 0 => rfl
  | k + 1 => by rw [gk, List.length_append, gk_len L k]; rfl
theorem gw_len (L : List Int) (k : Nat) (hk : k ≤ 8) : (gw L k).length = 8 := by unfold gw; rw [List.length_append, gk_len, List.length_replicate]; omega
theorem gw_zero (L : List Int) : gw L 0 = zp := rfl
theorem gw_succ (L : List Int) (k : Nat) (hk : k < 8) : (gw L k).set k (Pk.vr (rs L k)) = gw L (k + 1) := by
  unfold gw
  rw [List.set_append_right _ _ (by rw [gk_len]; omega), gk_len, Nat.sub_self, show 8 - k = (8 - (k + 1)) + 1 by omega, List.replicate_succ, List.set_cons_zero, gk, List.append_assoc]
  rfl
theorem gw_all (L : List Int) : gw L 8 = gk L 8 := by unfold gw; exact List.append_nil _
theorem rs_byt {L : List Int} (h : Sha.Byt L) : ∀ k, Sha.Byt (rs L k)
  | 0 => Pk.nx_byt h
  | k + 1 => Pk.nx_byt (rs_byt h k)
theorem rs_le (L : List Int) : ∀ k, (rs L k).length ≤ L.length
  | 0 => Pk.nx_le _ _
  | k + 1 => Nat.le_trans (Pk.nx_le _ _) (rs_le L k)
theorem vr_ok {L : List Int} (h : Sha.Byt L) : Ok (Pk.vr L) := by
  refine ⟨Pk.vr_len L, ?_, ?_⟩
  · unfold Pk.vr
    split
    · exact byt_rep 32 0 (by omega)
    · exact fun x hx => h x (List.mem_of_mem_drop (List.mem_of_mem_take hx))
  · unfold Pk.vr
    split
    · show Pk.In64 0
      unfold Pk.In64; omega
    · exact Pk.in8_in _
theorem vi_in (L : List Int) : Pk.In64 (Pk.vi L) := by
  unfold Pk.vi
  split
  · unfold Pk.In64; omega
  · exact Pk.in8_in _
theorem gk_ok {L : List Int} (h : Sha.Byt L) : ∀ k, ∀ r ∈ gk L k, Ok r
  | 0, r, hr => by cases hr
  | k + 1, r, hr => by
    rw [gk, List.mem_append, List.mem_singleton] at hr
    rcases hr with hr | rfl
    · exact gk_ok h k r hr
    · exact vr_ok (rs_byt h k)
theorem gw_ok {L : List Int} (h : Sha.Byt L) (k : Nat) (hk : k ≤ 8) : OkA (gw L k) := by
  refine ⟨gw_len L k hk, fun r hr => ?_⟩
  unfold gw at hr
  rw [List.mem_append, List.mem_replicate] at hr
  rcases hr with hr | ⟨_, rfl⟩
  · exact gk_ok h k r hr
  · exact ok_zr
theorem pg_ok {L : List Int} (h : Sha.Byt L) : OkA (pg L) := by
  unfold pg
  split
  · exact gw_ok h 8 (by omega)
  · exact ok_zp
theorem ix_in (L : List Int) : Pk.In64 (ix L) := by
  unfold ix
  split
  · exact vi_in L
  · unfold Pk.In64; omega

theorem rs_eq (L : List Int) : ∀ k, rs L k = (if L.length < 8 + 40 * k then [] else L.drop (8 + 40 * k)) ∧ bd L k = decide (L.length < 8 + 40 * k)
  | 0 => by
    rw [rs_zero, bd_zero]
    unfold Pk.nx Pk.nb
    by_cases h : L.length < 8 <;> simp [h]
  | k + 1 => by
    obtain ⟨h1, h2⟩ := rs_eq L k
    rw [rs_succ, bd_succ, h1, h2]
    unfold Pk.nx Pk.nb
    by_cases h : L.length < 8 + 40 * k
    · have h3 : L.length < 8 + 40 * (k + 1) := by omega
      simp [h, h3]
    · rw [if_neg h, List.length_drop]
      by_cases h3 : L.length < 8 + 40 * (k + 1)
      · have h4 : L.length - (8 + 40 * k) < 40 := by omega
        simp [h3, h4]
      · have h4 : ¬ L.length - (8 + 40 * k) < 40 := by omega
        rw [if_neg h4, if_neg h4, if_neg h3, List.drop_drop]
        refine ⟨rfl, ?_⟩
        rw [decide_eq_false h, decide_eq_false h3]
theorem er_eq (L : List Int) : er L = if L.length < 328 then 4 else if 328 < L.length then 3 else if nd (Pk.vi L) (gw L 8) then 0 else 7 := by
  obtain ⟨h1, h2⟩ := rs_eq L 8
  unfold er
  rw [h1, h2]
  unfold Pk.en
  by_cases h : L.length < 328
  · simp [h]
  · rw [if_neg h, if_neg h, decide_eq_false h]
    by_cases h3 : 328 < L.length
    · have h4 : 0 < L.length - 328 := by omega
      simp [h3, h4]
    · have h4 : ¬ 0 < L.length - 328 := by omega
      simp [h3, h4]
theorem er_short {L : List Int} (h : L.length < 328) : er L = 4 := by rw [er_eq, if_pos h]
theorem er_long {L : List Int} (h : 328 < L.length) : er L = 3 := by rw [er_eq, if_neg (by omega), if_pos h]
theorem er_len {L : List Int} (h : er L = 0) : L.length = 328 := by
  rw [er_eq] at h
  split at h
  · cases h
  · split at h
    · cases h
    · omega
theorem er_nd {L : List Int} (h : er L = 0) : nd (Pk.vi L) (gw L 8) = true := by
  have hl := er_len h
  rw [er_eq, if_neg (by omega), if_neg (by omega)] at h
  by_cases h2 : nd (Pk.vi L) (gw L 8) = true
  · exact h2
  · rw [if_neg h2] at h; cases h
theorem er_range (L : List Int) : er L = 0 ∨ er L = 3 ∨ er L = 4 ∨ er L = 7 := by
  rw [er_eq]
  split
  · simp
  · split
    · simp
    · split <;> simp

/-! ### back -/
theorem vr_ref {r : Rf} (h : Ok r) (X : List Int) : Pk.vr (Pk.ref r ++ X) = r := by
  have hl := ref_len h
  unfold Pk.vr
  rw [if_neg (by rw [List.length_append, hl]; omega)]
  have e1 : (Pk.ref r ++ X).take 8 = Pk.e8 r.1 8 := by
    unfold Pk.ref
    rw [List.append_assoc, List.take_append_of_le_length (by rw [Pk.e8_len]; omega), List.take_of_length_le (by rw [Pk.e8_len]; omega)]
  have e2 : ((Pk.ref r ++ X).drop 8).take 32 = r.2 := by
    unfold Pk.ref
    rw [List.append_assoc, List.drop_append_of_le_length (by rw [Pk.e8_len]; omega), List.drop_of_length_le (by rw [Pk.e8_len]; omega), List.nil_append, List.take_append_of_le_length (by rw [h.1]; omega), List.take_of_length_le (by rw [h.1]; omega)]
  rw [e1, e2, Pk.in8_e8 h.2.2]
theorem nx_ref {r : Rf} (h : Ok r) (X : List Int) : Pk.nx 40 (Pk.ref r ++ X) = X := by
  have hl := ref_len h
  unfold Pk.nx
  rw [if_neg (by rw [List.length_append, hl]; omega), List.drop_append_of_le_length (by rw [hl]; omega), List.drop_of_length_le (by rw [hl]; omega), List.nil_append]
theorem back_rs (i : Int) {R : List Rf} (h : OkA R) : ∀ k, k ≤ 8 → rs (pt i R) k = ((R.drop k).map Pk.ref).flatten ∧ gk (pt i R) k = R.take k
  | 0, _ => by
    refine ⟨?_, by rw [List.take_zero]; rfl⟩
    rw [rs_zero, pt_eq i h]
    unfold Pk.nx
    rw [if_neg (by rw [List.length_append, Pk.e8_len]; omega), List.drop_append_of_le_length (by rw [Pk.e8_len]; omega), List.drop_of_length_le (by rw [Pk.e8_len]; omega), List.nil_append, List.drop_zero]
  | k + 1, hk => by
    obtain ⟨h1, h2⟩ := back_rs i h k (by omega)
    have hk2 : k < R.length := by rw [h.1]; omega
    have e : ((R.drop k).map Pk.ref).flatten = Pk.ref R[k] ++ ((R.drop (k + 1)).map Pk.ref).flatten := by
      rw [List.drop_eq_getElem_cons hk2, List.map_cons, List.flatten_cons]
    have ho := h.2 R[k] (List.getElem_mem hk2)
    constructor
    · rw [rs_succ, h1, e, nx_ref ho]
    · rw [gk, h1, h2, e, vr_ref ho, List.take_add_one, List.getElem?_eq_getElem hk2]
      rfl
theorem back_vi {i : Int} (hi : Pk.In64 i) {R : List Rf} (h : OkA R) : Pk.vi (pt i R) = i := by
  unfold Pk.vi
  rw [if_neg (by rw [pt_len i h]; omega), pt_eq i h, List.take_append_of_le_length (by rw [Pk.e8_len]; omega), List.take_of_length_le (by rw [Pk.e8_len]; omega), Pk.in8_e8 hi]
theorem back_gw (i : Int) {R : List Rf} (h : OkA R) : gw (pt i R) 8 = R := by
  rw [gw_all, (back_rs i h 8 (by omega)).2, List.take_of_length_le (by rw [h.1]; omega)]
theorem back {i : Int} (hi : Pk.In64 i) {R : List Rf} (h : OkA R) (hn : nd i R = true) : er (pt i R) = 0 ∧ ix (pt i R) = i ∧ pg (pt i R) = R := by
  have h1 : er (pt i R) = 0 := by
    rw [er_eq, if_neg (by rw [pt_len i h]; omega), if_neg (by rw [pt_len i h]; omega), back_vi hi h, back_gw i h, if_pos hn]
  refine ⟨h1, ?_, ?_⟩
  · unfold ix; rw [if_pos h1, back_vi hi h]
  · unfold pg; rw [if_pos h1, back_gw i h]
/-! ### only -/
theorem ref_vr {L : List Int} (h : 40 ≤ L.length) (hb : Sha.Byt L) : Pk.ref (Pk.vr L) ++ Pk.nx 40 L = L := by
  unfold Pk.vr Pk.nx Pk.ref
  rw [if_neg (by omega), if_neg (by omega)]
  show Pk.e8 (Pk.in8 (L.take 8)) 8 ++ (L.drop 8).take 32 ++ L.drop 40 = L
  rw [Pk.e8_in8 (by rw [List.length_take]; omega) (fun x hx => hb x (List.mem_of_mem_take hx)), List.append_assoc]
  have e : (L.drop 8).take 32 ++ L.drop 40 = L.drop 8 := by
    have h2 : L.drop 40 = (L.drop 8).drop 32 := by rw [List.drop_drop]
    rw [h2, List.take_append_drop]
  rw [e, List.take_append_drop]
theorem only_k {L : List Int} (hb : Sha.Byt L) : ∀ k, 8 + 40 * k ≤ L.length → Pk.e8 (Pk.vi L) 8 ++ (((gk L k).map Pk.ref).flatten ++ rs L k) = L
  | 0, h => by
    rw [rs_zero]
    unfold Pk.vi Pk.nx
    rw [if_neg (by omega), if_neg (by omega), Pk.e8_in8 (by rw [List.length_take]; omega) (fun x hx => hb x (List.mem_of_mem_take hx))]
    exact List.take_append_drop 8 L
  | k + 1, h => by
    have ih := only_k hb k (by omega)
    have hl : 40 ≤ (rs L k).length := by rw [(rs_eq L k).1, if_neg (by omega), List.length_drop]; omega
    rw [gk, List.map_append, List.flatten_append, List.append_assoc, rs_succ]
    have e : (List.map Pk.ref [Pk.vr (rs L k)]).flatten ++ Pk.nx 40 (rs L k) = rs L k := by
      rw [List.map_cons, List.map_nil, List.flatten_cons, List.flatten_nil, List.append_nil]
      exact ref_vr hl (rs_byt hb k)
    rw [e]
    exact ih
theorem only {L : List Int} (hb : Sha.Byt L) (h : er L = 0) : nd (ix L) (pg L) = true ∧ pt (ix L) (pg L) = L := by
  have hl := er_len h
  have h1 : ix L = Pk.vi L := by unfold ix; rw [if_pos h]
  have h2 : pg L = gw L 8 := by unfold pg; rw [if_pos h]
  rw [h1, h2]
  refine ⟨er_nd h, ?_⟩
  rw [pt_eq _ (gw_ok hb 8 (by omega)), gw_all]
  have h3 := only_k hb 8 (by omega)
  have h4 : rs L 8 = [] := by rw [(rs_eq L 8).1, if_neg (by omega)]; exact List.drop_of_length_le (by omega)
  rw [h4, List.append_nil] at h3
  exact h3
theorem none {L : List Int} (h : er L ≠ 0) : ix L = 0 ∧ pg L = zp := by
  constructor
  · unfold ix; rw [if_neg h]
  · unfold pg; rw [if_neg h]
/-- Unlike nodes have unlike bytes. -/
theorem unlike {i k : Int} (hi : Pk.In64 i) (hk : Pk.In64 k) {R S : List Rf} (hR : OkA R) (hS : OkA S) : pt i R = pt k S ↔ i = k ∧ R = S := by
  constructor
  · intro h
    constructor
    · rw [← back_vi hi hR, h, back_vi hk hS]
    · rw [← back_gw i hR, h, back_gw k hS]
  · rintro ⟨rfl, rfl⟩; rfl
attribute [irreducible] mb nd ptk pt rs bd gk gw er ix pg zp zr
end Pg
end Go.Proofs.Ytgfnpofoedambaa

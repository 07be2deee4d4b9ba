/-
  Records in plain lists: their bytes, what is read of bytes, who is chosen.
-/
import Derived.Test.YtjnepegohfhgiaaPa4
namespace Go.Proofs.Ytjnepegohfhgiaa
open Go.RowKit

namespace Rg
/-- A record. -/
structure R where
  gen : Int
  st : Int
  ep : Int
  su : List Int
  rt : Int × List Int
  bs : Int
  bl : Int
  ts : Int
  tl : Int
  b1 : List Int
  b2 : List Int
deriving DecidableEq
def z32 : List Int := List.replicate 32 0
def zr : Int × List Int := (0, z32)
def zero : R := ⟨0, 0, 0, z32, zr, 0, 0, 0, 0, z32, z32⟩
def OkS (S : List Int) : Prop := S.length = 32 ∧ Sha.Byt S
structure Ok (r : R) : Prop where
  gen : Pk.In64 r.gen
  st : Pk.In64 r.st
  ep : Pk.In64 r.ep
  su : OkS r.su
  rt : Pk.In64 r.rt.1 ∧ OkS r.rt.2
  bs : Pk.In64 r.bs
  bl : Pk.In64 r.bl
  ts : Pk.In64 r.ts
  tl : Pk.In64 r.tl
  b1 : OkS r.b1
  b2 : OkS r.b2
theorem oks_z : OkS z32 := ⟨by simp [z32], byt_rep 32 0 (by omega)⟩
theorem in0 : Pk.In64 0 := by unfold Pk.In64; omega
theorem ok_zero : Ok zero := ⟨in0, in0, in0, oks_z, ⟨in0, oks_z⟩, in0, in0, in0, in0, oks_z, oks_z⟩
/-- May a number be, a root, a place, a record. -/
def num (n : Int) : Bool := decide (1 ≤ n) && decide (n ≤ 1099511627776)
def root (r : Int × List Int) : Bool := decide (r = zr) || (decide (3 ≤ r.1) && decide (r.1 ≤ 4095))
def plc (s l : Int) : Bool := (decide (0 ≤ s) && decide (s ≤ 31)) && (decide (0 ≤ l) && decide (l ≤ 63))
def may (r : R) : Bool := num r.gen && (num r.st && (num r.ep && (root r.rt && (plc r.bs r.bl && plc r.ts r.tl))))
/-- The region. -/
def home (r : R) : Int := if r.gen % 2 = 0 then 1 else 2
theorem home_or (r : R) : home r = 1 ∨ home r = 2 := by unfold home; split <;> simp

/-! ### bytes -/
/-- How many bytes each piece has, and how many are ahead of it. -/
def wd : Nat → Nat
  | 0 => 8 | 1 => 8 | 2 => 8 | 3 => 32 | 4 => 40 | 5 => 8 | 6 => 8 | 7 => 8 | 8 => 8 | 9 => 32 | 10 => 32 | _ => 0
def of : Nat → Nat
  | 0 => 0
  | k + 1 => of k + wd k
/-- A piece. -/
def pc (r : R) : Nat → List Int
  | 0 => Pk.e8 r.gen 8
  | 1 => Pk.e8 r.st 8
  | 2 => Pk.e8 r.ep 8
  | 3 => r.su
  | 4 => Pk.ref r.rt
  | 5 => Pk.e8 r.bs 8
  | 6 => Pk.e8 r.bl 8
  | 7 => Pk.e8 r.ts 8
  | 8 => Pk.e8 r.tl 8
  | 9 => r.b1
  | 10 => r.b2
  | _ => []
def ptk (r : R) : Nat → List Int
  | 0 => []
  | k + 1 => ptk r k ++ pc r k
def pt (r : R) : List Int := ptk r 11
theorem pc_len {r : R} (h : Ok r) : ∀ k, (pc r k).length = wd k
  | 0 => Pk.e8_len _ _ | 1 => Pk.e8_len _ _ | 2 => Pk.e8_len _ _ | 3 => h.su.1
  | 4 => by show (Pk.ref r.rt).length = 40; unfold Pk.ref; rw [List.length_append, Pk.e8_len, h.rt.2.1]
  | 5 => Pk.e8_len _ _ | 6 => Pk.e8_len _ _ | 7 => Pk.e8_len _ _ | 8 => Pk.e8_len _ _ | 9 => h.b1.1 | 10 => h.b2.1 | _ + 11 => rfl
theorem pc_byt {r : R} (h : Ok r) : ∀ k, Sha.Byt (pc r k)
  | 0 => Pk.e8_byt _ _ | 1 => Pk.e8_byt _ _ | 2 => Pk.e8_byt _ _ | 3 => h.su.2
  | 4 => by show Sha.Byt (Pk.ref r.rt); unfold Pk.ref; exact Sha.byt_append (Pk.e8_byt _ _) h.rt.2.2
  | 5 => Pk.e8_byt _ _ | 6 => Pk.e8_byt _ _ | 7 => Pk.e8_byt _ _ | 8 => Pk.e8_byt _ _ | 9 => h.b1.2 | 10 => h.b2.2 | _ + 11 => fun x hx => by cases hx
theorem ptk_len {r : R} (h : Ok r) : ∀ k, (ptk r k).length = of k
  | 0 => rfl
  | k + 1 => by rw [ptk, List.length_append, ptk_len h k, pc_len h k]; rfl
theorem ptk_byt {r : R} (h : Ok r) : ∀ k, Sha.Byt (ptk r k)
  | 0 => fun x hx => by cases hx
  | k + 1 => Sha.byt_append (ptk_byt h k) (pc_byt h k)
theorem of_11 : of 11 = 192 := by decide
theorem pt_len {r : R} (h : Ok r) : (pt r).length = 192 := (ptk_len h 11).trans of_11
theorem pt_byt {r : R} (h : Ok r) : Sha.Byt (pt r) := ptk_byt h 11
/-- What stands behind k pieces: d of them. -/
def tl' (r : R) : Nat → Nat → List Int
  | _, 0 => []
  | k, d + 1 => pc r k ++ tl' r (k + 1) d
theorem pt_split (r : R) : ∀ d k, ptk r (k + d) = ptk r k ++ tl' r k d
  | 0, k => by rw [tl', List.append_nil]; rfl
  | d + 1, k => by
    rw [tl', show k + (d + 1) = (k + 1) + d by omega, pt_split r d (k + 1), ptk, List.append_assoc]

/-! ### reading -/
def rs (L : List Int) : Nat → List Int
  | 0 => L
  | k + 1 => Pk.nx (wd k) (rs L k)
def bd (L : List Int) : Nat → Bool
  | 0 => false
  | k + 1 => Pk.nb (wd k) (rs L k) (bd L k)
/-- What is read. -/
def rc (L : List Int) : R := ⟨Pk.vi (rs L 0), Pk.vi (rs L 1), Pk.vi (rs L 2), Pk.vs (rs L 3), Pk.vr (rs L 4), Pk.vi (rs L 5), Pk.vi (rs L 6), Pk.vi (rs L 7), Pk.vi (rs L 8), Pk.vs (rs L 9), Pk.vs (rs L 10)⟩
def er (L : List Int) : Int := if Pk.en (rs L 11) (bd L 11) ≠ 0 then Pk.en (rs L 11) (bd L 11) else if may (rc L) then 0 else 7
def gt (L : List Int) : R := if er L = 0 then rc L else zero
theorem rs_byt {L : List Int} (h : Sha.Byt L) : ∀ k, Sha.Byt (rs L k)
  | 0 => h
  | k + 1 => Pk.nx_byt (rs_byt h k)
theorem rs_le (L : List Int) : ∀ k, (rs L k).length ≤ L.length
  | 0 => Nat.le_refl _
  | k + 1 => Nat.le_trans (Pk.nx_le _ _) (rs_le L k)
theorem vi_in (L : List Int) : Pk.In64 (Pk.vi L) := by
  unfold Pk.vi
  split
  · exact in0
  · exact Pk.in8_in _
theorem vs_ok {L : List Int} (h : Sha.Byt L) : OkS (Pk.vs L) := by
  refine ⟨Pk.vs_len L, ?_⟩
  unfold Pk.vs
  split
  · exact byt_rep 32 0 (by omega)
  · exact fun x hx => h x (List.mem_of_mem_take hx)
theorem vr_ok {L : List Int} (h : Sha.Byt L) : Pk.In64 (Pk.vr L).1 ∧ OkS (Pk.vr L).2 := by
  refine ⟨?_, Pk.vr_len L, ?_⟩
  · unfold Pk.vr
    split
    · exact in0
    · exact Pk.in8_in _
  · unfold Pk.vr
    split
    · exact byt_rep 32 0 (by omega)
    · exact fun x hx => h x (List.mem_of_mem_drop (List.mem_of_mem_take hx))
theorem rc_ok {L : List Int} (h : Sha.Byt L) : Ok (rc L) :=
  ⟨vi_in _, vi_in _, vi_in _, vs_ok (rs_byt h 3), vr_ok (rs_byt h 4), vi_in _, vi_in _, vi_in _, vi_in _, vs_ok (rs_byt h 9), vs_ok (rs_byt h 10)⟩
theorem gt_ok {L : List Int} (h : Sha.Byt L) : Ok (gt L) := by
  unfold gt
  split
  · exact rc_ok h
  · exact ok_zero
theorem rs_eq (L : List Int) : ∀ k, rs L k = (if L.length < of k then [] else L.drop (of k)) ∧ bd L k = decide (L.length < of k)
  | 0 => by
    rw [show of 0 = 0 from rfl, if_neg (by omega), List.drop_zero]
    exact ⟨rfl, by rw [decide_eq_false (by omega)]; rfl⟩
  | k + 1 => by
    obtain ⟨h1, h2⟩ := rs_eq L k
    rw [rs, bd, h1, h2, show of (k + 1) = of k + wd k from rfl]
    unfold Pk.nx Pk.nb
    by_cases h : L.length < of k
    · have h3 : L.length < of k + wd k := by omega
      rw [if_pos h, if_pos h3, decide_eq_true h, decide_eq_true h3]
      constructor
      · split <;> simp
      · split <;> rfl
    · rw [if_neg h, List.length_drop]
      by_cases h3 : L.length < of k + wd k
      · have h4 : L.length - of k < wd k := by omega
        simp [h3, h4]
      · have h4 : ¬ L.length - of k < wd k := by omega
        rw [if_neg h4, if_neg h4, if_neg h3, List.drop_drop]
        refine ⟨rfl, ?_⟩
        rw [decide_eq_false h, decide_eq_false h3]
theorem er_eq (L : List Int) : er L = if L.length < 192 then 4 else if 192 < L.length then 3 else if may (rc L) then 0 else 7 := by
  obtain ⟨h1, h2⟩ := rs_eq L 11
  rw [of_11] at h1 h2
  unfold er
  rw [h1, h2]
  unfold Pk.en
  by_cases h : L.length < 192
  · simp [h]
  · rw [if_neg h, if_neg h, decide_eq_false h]
    by_cases h3 : 192 < L.length
    · have h4 : 0 < L.length - 192 := by omega
      simp [h3, h4]
    · have h4 : ¬ 0 < L.length - 192 := by omega
      simp [h3, h4]
theorem er_short {L : List Int} (h : L.length < 192) : er L = 4 := by rw [er_eq, if_pos h]
theorem er_long {L : List Int} (h : 192 < L.length) : er L = 3 := by rw [er_eq, if_neg (by omega), if_pos h]
theorem er_len {L : List Int} (h : er L = 0) : L.length = 192 := by
  rw [er_eq] at h
  split at h
  · cases h
  · split at h
    · cases h
    · omega
theorem er_may {L : List Int} (h : er L = 0) : may (rc L) = true := by
  have hl := er_len h
  rw [er_eq, if_neg (by omega), if_neg (by omega)] at h
  by_cases h2 : may (rc L) = true
  · exact h2
  · rw [if_neg h2] at h; cases h
theorem gt_none {L : List Int} (h : er L ≠ 0) : gt L = zero := by unfold gt; rw [if_neg h]

/-! ### back -/
theorem back_rs {r : R} (h : Ok r) (k : Nat) (hk : k ≤ 11) : rs (pt r) k = tl' r k (11 - k) := by
  have e : pt r = ptk r k ++ tl' r k (11 - k) := by
    unfold pt
    rw [← pt_split, show k + (11 - k) = 11 by omega]
  have hl := ptk_len h k
  have hn : ¬ (pt r).length < of k := by rw [e, List.length_append, hl]; omega
  rw [(rs_eq _ k).1, if_neg hn, e, List.drop_append_of_le_length (by omega), List.drop_of_length_le (by omega), List.nil_append]
theorem vi_e8 {n : Int} (h : Pk.In64 n) (X : List Int) : Pk.vi (Pk.e8 n 8 ++ X) = n := by
  unfold Pk.vi
  rw [if_neg (by rw [List.length_append, Pk.e8_len]; omega), List.take_append_of_le_length (by rw [Pk.e8_len]; omega), List.take_of_length_le (by rw [Pk.e8_len]; omega), Pk.in8_e8 h]
theorem vs_sum {S : List Int} (h : OkS S) (X : List Int) : Pk.vs (S ++ X) = S := by
  unfold Pk.vs
  rw [if_neg (by rw [List.length_append, h.1]; omega), List.take_append_of_le_length (by rw [h.1]; omega), List.take_of_length_le (by rw [h.1]; omega)]
theorem vr_ref {r : Int × List Int} (h : Pk.In64 r.1 ∧ OkS r.2) (X : List Int) : Pk.vr (Pk.ref r ++ X) = r := by
  have hl : (Pk.ref r).length = 40 := by unfold Pk.ref; rw [List.length_append, Pk.e8_len, h.2.1]
  unfold Pk.vr
  rw [if_neg (by rw [List.length_append, hl]; omega)]
  have e1 : (Pk.ref r ++ X).take 8 = Pk.e8 r.1 8 := by
    unfold Pk.ref
    rw [List.append_assoc, List.take_append_of_le_length (by rw [Pk.e8_len]; omega), List.take_of_length_le (by rw [Pk.e8_len]; omega)]
  have e2 : ((Pk.ref r ++ X).drop 8).take 32 = r.2 := by
    unfold Pk.ref
    rw [List.append_assoc, List.drop_append_of_le_length (by rw [Pk.e8_len]; omega), List.drop_of_length_le (by rw [Pk.e8_len]; omega), List.nil_append, List.take_append_of_le_length (by rw [h.2.1]; omega), List.take_of_length_le (by rw [h.2.1]; omega)]
  rw [e1, e2, Pk.in8_e8 h.1]
theorem back_rc {r : R} (h : Ok r) : rc (pt r) = r := by
  unfold rc
  rw [back_rs h 0 (by omega), back_rs h 1 (by omega), back_rs h 2 (by omega), back_rs h 3 (by omega), back_rs h 4 (by omega), back_rs h 5 (by omega), back_rs h 6 (by omega), back_rs h 7 (by omega), back_rs h 8 (by omega), back_rs h 9 (by omega), back_rs h 10 (by omega)]
  show R.mk (Pk.vi (Pk.e8 r.gen 8 ++ _)) (Pk.vi (Pk.e8 r.st 8 ++ _)) (Pk.vi (Pk.e8 r.ep 8 ++ _)) (Pk.vs (r.su ++ _)) (Pk.vr (Pk.ref r.rt ++ _)) (Pk.vi (Pk.e8 r.bs 8 ++ _)) (Pk.vi (Pk.e8 r.bl 8 ++ _)) (Pk.vi (Pk.e8 r.ts 8 ++ _)) (Pk.vi (Pk.e8 r.tl 8 ++ _)) (Pk.vs (r.b1 ++ _)) (Pk.vs (r.b2 ++ _)) = r
  rw [vi_e8 h.gen, vi_e8 h.st, vi_e8 h.ep, vs_sum h.su, vr_ref h.rt, vi_e8 h.bs, vi_e8 h.bl, vi_e8 h.ts, vi_e8 h.tl, vs_sum h.b1, vs_sum h.b2]
theorem back {r : R} (h : Ok r) (hm : may r = true) : er (pt r) = 0 ∧ gt (pt r) = r := by
  have h1 : er (pt r) = 0 := by rw [er_eq, if_neg (by rw [pt_len h]; omega), if_neg (by rw [pt_len h]; omega), back_rc h, if_pos hm]
  exact ⟨h1, by unfold gt; rw [if_pos h1, back_rc h]⟩
theorem unlike {r s : R} (hr : Ok r) (hs : Ok s) (h : pt r = pt s) : r = s := by rw [← back_rc hr, h, back_rc hs]
/-! ### only -/
theorem e8_vi {L : List Int} (h : 8 ≤ L.length) (hb : Sha.Byt L) : Pk.e8 (Pk.vi L) 8 = L.take 8 := by
  unfold Pk.vi
  rw [if_neg (by omega)]
  exact Pk.e8_in8 (by rw [List.length_take]; omega) (fun x hx => hb x (List.mem_of_mem_take hx))
theorem ref_vr {L : List Int} (h : 40 ≤ L.length) (hb : Sha.Byt L) : Pk.ref (Pk.vr L) = L.take 40 := by
  unfold Pk.vr Pk.ref
  rw [if_neg (by omega)]
  show Pk.e8 (Pk.in8 (L.take 8)) 8 ++ (L.drop 8).take 32 = L.take 40
  rw [Pk.e8_in8 (by rw [List.length_take]; omega) (fun x hx => hb x (List.mem_of_mem_take hx)), show (40 : Nat) = 8 + 32 from rfl, List.take_add]
theorem sum_vs {L : List Int} (h : 32 ≤ L.length) : Pk.vs L = L.take 32 := by unfold Pk.vs; rw [if_neg (by omega)]
theorem only_pc {L : List Int} (hb : Sha.Byt L) (hl : L.length = 192) (k : Nat) (hk : k < 11) : pc (rc L) k = (L.drop (of k)).take (wd k) := by
  have hw : of k + wd k ≤ 192 := by
    have : ∀ k : Fin 11, of k.1 + wd k.1 ≤ 192 := by decide
    exact this ⟨k, hk⟩
  have e : rs L k = L.drop (of k) := by rw [(rs_eq L k).1, if_neg (by omega)]
  have hle : wd k ≤ (rs L k).length := by rw [e, List.length_drop]; omega
  rw [← e]
  have hbk := rs_byt hb k
  match k, hk with
  | 0, _ => exact e8_vi hle hbk
  | 1, _ => exact e8_vi hle hbk
  | 2, _ => exact e8_vi hle hbk
  | 3, _ => exact sum_vs hle
  | 4, _ => exact ref_vr hle hbk
  | 5, _ => exact e8_vi hle hbk
  | 6, _ => exact e8_vi hle hbk
  | 7, _ => exact e8_vi hle hbk
  | 8, _ => exact e8_vi hle hbk
  | 9, _ => exact sum_vs hle
  | 10, _ => exact sum_vs hle
theorem only_k {L : List Int} (hb : Sha.Byt L) (hl : L.length = 192) : ∀ k, k ≤ 11 → ptk (rc L) k = L.take (of k)
  | 0, _ => by rw [show of 0 = 0 from rfl, List.take_zero]; rfl
  | k + 1, h => by rw [ptk, only_k hb hl k (by omega), only_pc hb hl k (by omega), show of (k + 1) = of k + wd k from rfl, List.take_add]
theorem only {L : List Int} (hb : Sha.Byt L) (h : er L = 0) : may (gt L) = true ∧ pt (gt L) = L := by
  have hl := er_len h
  have e : gt L = rc L := by unfold gt; rw [if_pos h]
  rw [e]
  refine ⟨er_may h, ?_⟩
  unfold pt
  rw [only_k hb hl 11 (by omega), of_11, List.take_of_length_le (by omega)]
/-! each piece put behind those ahead of it -/
theorem st0 (r : R) : [] ++ Pk.e8 r.gen 8 = ptk r 1 := rfl
theorem st1 (r : R) : ptk r 1 ++ Pk.e8 r.st 8 = ptk r 2 := rfl
theorem st2 (r : R) : ptk r 2 ++ Pk.e8 r.ep 8 = ptk r 3 := rfl
theorem st3 (r : R) : ptk r 3 ++ r.su = ptk r 4 := rfl
theorem st4 (r : R) : ptk r 4 ++ Pk.ref r.rt = ptk r 5 := rfl
theorem st5 (r : R) : ptk r 5 ++ Pk.e8 r.bs 8 = ptk r 6 := rfl
theorem st6 (r : R) : ptk r 6 ++ Pk.e8 r.bl 8 = ptk r 7 := rfl
theorem st7 (r : R) : ptk r 7 ++ Pk.e8 r.ts 8 = ptk r 8 := rfl
theorem st8 (r : R) : ptk r 8 ++ Pk.e8 r.tl 8 = ptk r 9 := rfl
theorem st9 (r : R) : ptk r 9 ++ r.b1 = ptk r 10 := rfl
theorem st10 (r : R) : ptk r 10 ++ r.b2 = ptk r 11 := rfl
theorem st11 (r : R) : ptk r 11 = pt r := rfl
section
variable {r : R} (h : Ok r)
include h
theorem pl1 : (ptk r 1).length = 8 := (ptk_len h 1).trans (by decide)
theorem pl2 : (ptk r 2).length = 16 := (ptk_len h 2).trans (by decide)
theorem pl3 : (ptk r 3).length = 24 := (ptk_len h 3).trans (by decide)
theorem pl4 : (ptk r 4).length = 56 := (ptk_len h 4).trans (by decide)
theorem pl5 : (ptk r 5).length = 96 := (ptk_len h 5).trans (by decide)
theorem pl6 : (ptk r 6).length = 104 := (ptk_len h 6).trans (by decide)
theorem pl7 : (ptk r 7).length = 112 := (ptk_len h 7).trans (by decide)
theorem pl8 : (ptk r 8).length = 120 := (ptk_len h 8).trans (by decide)
theorem pl9 : (ptk r 9).length = 128 := (ptk_len h 9).trans (by decide)
theorem pl10 : (ptk r 10).length = 160 := (ptk_len h 10).trans (by decide)
theorem pl11 : (ptk r 11).length = 192 := (ptk_len h 11).trans (by decide)
end
theorem rs0 (L : List Int) : rs L 0 = L := rfl
theorem bd0 (L : List Int) : bd L 0 = false := rfl
theorem rsn0 (L : List Int) : rs L 1 = Pk.nx 8 (rs L 0) := rfl
theorem bdn0 (L : List Int) : bd L 1 = Pk.nb 8 (rs L 0) (bd L 0) := rfl
theorem rcf0 (L : List Int) : (rc L).gen = Pk.vi (rs L 0) := rfl
theorem rsn1 (L : List Int) : rs L 2 = Pk.nx 8 (rs L 1) := rfl
theorem bdn1 (L : List Int) : bd L 2 = Pk.nb 8 (rs L 1) (bd L 1) := rfl
theorem rcf1 (L : List Int) : (rc L).st = Pk.vi (rs L 1) := rfl
theorem rsn2 (L : List Int) : rs L 3 = Pk.nx 8 (rs L 2) := rfl
theorem bdn2 (L : List Int) : bd L 3 = Pk.nb 8 (rs L 2) (bd L 2) := rfl
theorem rcf2 (L : List Int) : (rc L).ep = Pk.vi (rs L 2) := rfl
theorem rsn3 (L : List Int) : rs L 4 = Pk.nx 32 (rs L 3) := rfl
theorem bdn3 (L : List Int) : bd L 4 = Pk.nb 32 (rs L 3) (bd L 3) := rfl
theorem rcf3 (L : List Int) : (rc L).su = Pk.vs (rs L 3) := rfl
theorem rsn4 (L : List Int) : rs L 5 = Pk.nx 40 (rs L 4) := rfl
theorem bdn4 (L : List Int) : bd L 5 = Pk.nb 40 (rs L 4) (bd L 4) := rfl
theorem rcf4 (L : List Int) : (rc L).rt = Pk.vr (rs L 4) := rfl
theorem rsn5 (L : List Int) : rs L 6 = Pk.nx 8 (rs L 5) := rfl
theorem bdn5 (L : List Int) : bd L 6 = Pk.nb 8 (rs L 5) (bd L 5) := rfl
theorem rcf5 (L : List Int) : (rc L).bs = Pk.vi (rs L 5) := rfl
theorem rsn6 (L : List Int) : rs L 7 = Pk.nx 8 (rs L 6) := rfl
theorem bdn6 (L : List Int) : bd L 7 = Pk.nb 8 (rs L 6) (bd L 6) := rfl
theorem rcf6 (L : List Int) : (rc L).bl = Pk.vi (rs L 6) := rfl
theorem rsn7 (L : List Int) : rs L 8 = Pk.nx 8 (rs L 7) := rfl
theorem bdn7 (L : List Int) : bd L 8 = Pk.nb 8 (rs L 7) (bd L 7) := rfl
theorem rcf7 (L : List Int) : (rc L).ts = Pk.vi (rs L 7) := rfl
theorem rsn8 (L : List Int) : rs L 9 = Pk.nx 8 (rs L 8) := rfl
theorem bdn8 (L : List Int) : bd L 9 = Pk.nb 8 (rs L 8) (bd L 8) := rfl
theorem rcf8 (L : List Int) : (rc L).tl = Pk.vi (rs L 8) := rfl
theorem rsn9 (L : List Int) : rs L 10 = Pk.nx 32 (rs L 9) := rfl
theorem bdn9 (L : List Int) : bd L 10 = Pk.nb 32 (rs L 9) (bd L 9) := rfl
theorem rcf9 (L : List Int) : (rc L).b1 = Pk.vs (rs L 9) := rfl
theorem rsn10 (L : List Int) : rs L 11 = Pk.nx 32 (rs L 10) := rfl
theorem bdn10 (L : List Int) : bd L 11 = Pk.nb 32 (rs L 10) (bd L 10) := rfl
theorem rcf10 (L : List Int) : (rc L).b2 = Pk.vs (rs L 10) := rfl
attribute [irreducible] num root plc may home pt ptk rs bd rc er gt zero pc tl' z32 zr
end Rg
end Go.Proofs.Ytjnepegohfhgiaa

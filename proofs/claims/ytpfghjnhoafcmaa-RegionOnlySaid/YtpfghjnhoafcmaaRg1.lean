/-
  RgA, RgB, RgC (merged)
-/
import Derived.Test.YtpfghjnhoafcmaaPa4
namespace Go.Proofs.Ytpfghjnhoafcmaa

/-! RgA: Records in plain lists: their bytes, what is read of bytes, who is chosen. -/
section
open Go.RowKit

namespace Rg
/-- A record. -/
structure R where
  gen : Int
  st : Int
  ep : Int
  su : List Int
  rt : Int × List Int
  bs : Int
  bl : Int
  ts : Int
  tl : Int
  b1 : List Int
  b2 : List Int
deriving DecidableEq
def z32 : List Int := List.replicate 32 0
def zr : Int × List Int := (0, z32)
def zero : R := ⟨0, 0, 0, z32, zr, 0, 0, 0, 0, z32, z32⟩
def OkS (S : List Int) : Prop := S.length = 32 ∧ Sha.Byt S
structure Ok (r : R) : Prop where
  gen : Pk.In64 r.gen
  st : Pk.In64 r.st
  ep : Pk.In64 r.ep
  su : OkS r.su
  rt : Pk.In64 r.rt.1 ∧ OkS r.rt.2
  bs : Pk.In64 r.bs
  bl : Pk.In64 r.bl
  ts : Pk.In64 r.ts
  tl : Pk.In64 r.tl
  b1 : OkS r.b1
  b2 : OkS r.b2
theorem oks_z : OkS z32 := ⟨by simp [z32], byt_rep 32 0 (by omega)⟩
theorem in0 : Pk.In64 0 := by unfold Pk.In64; omega
theorem ok_zero : Ok zero := ⟨in0, in0, in0, oks_z, ⟨in0, oks_z⟩, in0, in0, in0, in0, oks_z, oks_z⟩
/-- May a number be, a root, a place, a record. -/
def num (n : Int) : Bool := decide (1 ≤ n) && decide (n ≤ 1099511627776)
def root (r : Int × List Int) : Bool := decide (r = zr) || (decide (3 ≤ r.1) && decide (r.1 ≤ 4095))
def plc (s l : Int) : Bool := (decide (0 ≤ s) && decide (s ≤ 31)) && (decide (0 ≤ l) && decide (l ≤ 63))
def may (r : R) : Bool := num r.gen && (num r.st && (num r.ep && (root r.rt && (plc r.bs r.bl && plc r.ts r.tl))))
/-- The region. -/
def home (r : R) : Int := if r.gen % 2 = 0 then 1 else 2
theorem home_or (r : R) : home r = 1 ∨ home r = 2 := by unfold home; split <;> simp

/-! ### bytes -/
/-- How many bytes each piece has, and how many are ahead of it. -/
def wd : Nat → Nat
  | 0 => 8 | 1 => 8 | 2 => 8 | 3 => 32 | 4 => 40 | 5 => 8 | 6 => 8 | 7 => 8 | 8 => 8 | 9 => 32 | 10 => 32 | _ => 0
def of : Nat → Nat
  | 0 => 0
  | k + 1 => of k + wd k
/-- A piece. -/
def pc (r : R) : Nat → List Int
  | 0 => Pk.e8 r.gen 8
  | 1 => Pk.e8 r.st 8
  | 2 => Pk.e8 r.ep 8
  | 3 => r.su
  | 4 => Pk.ref r.rt
  | 5 => Pk.e8 r.bs 8
  | 6 => Pk.e8 r.bl 8
  | 7 => Pk.e8 r.ts 8
  | 8 => Pk.e8 r.tl 8
  | 9 => r.b1
  | 10 => r.b2
  | _ => []
def ptk (r : R) : Nat → List Int
  | 0 => []
  | k + 1 => ptk r k ++ pc r k
def pt (r : R) : List Int := ptk r 11
theorem pc_len {r : R} (h : Ok r) : ∀ k, (pc r k).length = wd k
  | 0 => Pk.e8_len _ _ | 1 => Pk.e8_len _ _ | 2 => Pk.e8_len _ _ | 3 => h.su.1
  | 4 => by show (Pk.ref r.rt).length = 40; unfold Pk.ref; rw [List.length_append, Pk.e8_len, h.rt.2.1]
  | 5 => Pk.e8_len _ _ | 6 => Pk.e8_len _ _ | 7 => Pk.e8_len _ _ | 8 => Pk.e8_len _ _ | 9 => h.b1.1 | 10 => h.b2.1 | _ + 11 => rfl
theorem pc_byt {r : R} (h : Ok r) : ∀ k, Sha.Byt (pc r k)
  | 0 => Pk.e8_byt _ _ | 1 => Pk.e8_byt _ _ | 2 => Pk.e8_byt _ _ | 3 => h.su.2
  | 4 => by show Sha.Byt (Pk.ref r.rt); unfold Pk.ref; exact Sha.byt_append (Pk.e8_byt _ _) h.rt.2.2
  | 5 => Pk.e8_byt _ _ | 6 => Pk.e8_byt _ _ | 7 => Pk.e8_byt _ _ | 8 => Pk.e8_byt _ _ | 9 => h.b1.2 | 10 => h.b2.2 | _ + 11 => fun x hx => by cases hx
theorem ptk_len {r : R} (h : Ok r) : ∀ k, (ptk r k).length = of k
  | 0 => rfl
  | k + 1 => by rw [ptk, List.length_append, ptk_len h k, pc_len h k]; rfl
theorem ptk_byt {r : R} (h : Ok r) : ∀ k, Sha.Byt (ptk r k)
  | 0 => fun x hx => by cases hx
  | k + 1 => Sha.byt_append (ptk_byt h k) (pc_byt h k)
theorem of_11 : of 11 = 192 := by decide
theorem pt_len {r : R} (h : Ok r) : (pt r).length = 192 := (ptk_len h 11).trans of_11
theorem pt_byt {r : R} (h : Ok r) : Sha.Byt (pt r) := ptk_byt h 11
/-- What stands behind k pieces: d of them. -/
def tl' (r : R) : Nat → Nat → List Int
  | _, 0 => []
  | k, d + 1 => pc r k ++ tl' r (k + 1) d
theorem pt_split (r : R) : ∀ d k, ptk r (k + d) = ptk r k ++ tl' r k d
  | 0, k => by rw [tl', List.append_nil]; rfl
  | d + 1, k => by
    rw [tl', show k + (d + 1) = (k + 1) + d by omega, pt_split r d (k + 1), ptk, List.append_assoc]

/-! ### reading -/
def rs (L : List Int) : Nat → List Int
  | 0 => L
  | k + 1 => Pk.nx (wd k) (rs L k)
def bd (L : List Int) : Nat → Bool
  | 0 => false
  | k + 1 => Pk.nb (wd k) (rs L k) (bd L k)
/-- What is read. -/
def rc (L : List Int) : R := ⟨Pk.vi (rs L 0), Pk.vi (rs L 1), Pk.vi (rs L 2), Pk.vs (rs L 3), Pk.vr (rs L 4), Pk.vi (rs L 5), Pk.vi (rs L 6), Pk.vi (rs L 7), Pk.vi (rs L 8), Pk.vs (rs L 9), Pk.vs (rs L 10)⟩
def er (L : List Int) : Int := if Pk.en (rs L 11) (bd L 11) ≠ 0 then Pk.en (rs L 11) (bd L 11) else if may (rc L) then 0 else 7
def gt (L : List Int) : R := if er L = 0 then rc L else zero
theorem rs_byt {L : List Int} (h : Sha.Byt L) : ∀ k, Sha.Byt (rs L k)
  | 0 => h
  | k + 1 => Pk.nx_byt (rs_byt h k)
theorem rs_le (L : List Int) : ∀ k, (rs L k).length ≤ L.length
  | 0 => Nat.le_refl _
  | k + 1 => Nat.le_trans (Pk.nx_le _ _) (rs_le L k)
theorem vi_in (L : List Int) : Pk.In64 (Pk.vi L) := by
  unfold Pk.vi
  split
  · exact in0
  · exact Pk.in8_in _
theorem vs_ok {L : List Int} (h : Sha.Byt L) : OkS (Pk.vs L) := by
  refine ⟨Pk.vs_len L, ?_⟩
  unfold Pk.vs
  split
  · exact byt_rep 32 0 (by omega)
  · exact fun x hx => h x (List.mem_of_mem_take hx)
theorem vr_ok {L : List Int} (h : Sha.Byt L) : Pk.In64 (Pk.vr L).1 ∧ OkS (Pk.vr L).2 := by
  refine ⟨?_, Pk.vr_len L, ?_⟩
  · unfold Pk.vr
    split
    · exact in0
    · exact Pk.in8_in _
  · unfold Pk.vr
    split
    · exact byt_rep 32 0 (by omega)
    · exact fun x hx => h x (List.mem_of_mem_drop (List.mem_of_mem_take hx))
theorem rc_ok {L : List Int} (h : Sha.Byt L) : Ok (rc L) :=
  ⟨vi_in _, vi_in _, vi_in _, vs_ok (rs_byt h 3), vr_ok (rs_byt h 4), vi_in _, vi_in _, vi_in _, vi_in _, vs_ok (rs_byt h 9), vs_ok (rs_byt h 10)⟩
theorem gt_ok {L : List Int} (h : Sha.Byt L) : Ok (gt L) := by
  unfold gt
  split
  · exact rc_ok h
  · exact ok_zero
theorem rs_eq (L : List Int) : ∀ k, rs L k = (if L.length < of k then [] else L.drop (of k)) ∧ bd L k = decide (L.length < of k)
  | 0 => by
    rw [show of 0 = 0 from rfl, if_neg (by omega), List.drop_zero]
    exact ⟨rfl, by rw [decide_eq_false (by omega)]; rfl⟩
  | k + 1 => by
    obtain ⟨h1, h2⟩ := rs_eq L k
    rw [rs, bd, h1, h2, show of (k + 1) = of k + wd k from rfl]
    unfold Pk.nx Pk.nb
    by_cases h : L.length < of k
    · have h3 : L.length < of k + wd k := by omega
      rw [if_pos h, if_pos h3, decide_eq_true h, decide_eq_true h3]
      constructor
      · split <;> simp
      · split <;> rfl
    · rw [if_neg h, List.length_drop]
      by_cases h3 : L.length < of k + wd k
      · have h4 : L.length - of k < wd k := by omega
        simp [h3, h4]
      · have h4 : ¬ L.length - of k < wd k := by omega
        rw [if_neg h4, if_neg h4, if_neg h3, List.drop_drop]
        refine ⟨rfl, ?_⟩
        rw [decide_eq_false h, decide_eq_false h3]
theorem er_eq (L : List Int) : er L = if L.length < 192 then 4 else if 192 < L.length then 3 else if may (rc L) then 0 else 7 := by
  obtain ⟨h1, h2⟩ := rs_eq L 11
  rw [of_11] at h1 h2
  unfold er
  rw [h1, h2]
  unfold Pk.en
  by_cases h : L.length < 192
  · simp [h]
  · rw [if_neg h, if_neg h, decide_eq_false h]
    by_cases h3 : 192 < L.length
    · have h4 : 0 < L.length - 192 := by omega
      simp [h3, h4]
    · have h4 : ¬ 0 < L.length - 192 := by omega
      simp [h3, h4]
theorem er_short {L : List Int} (h : L.length < 192) : er L = 4 := by rw [er_eq, if_pos h]
theorem er_long {L : List Int} (h : 192 < L.length) : er L = 3 := by rw [er_eq, if_neg (by omega), if_pos h]
theorem er_len {L : List Int} (h : er L = 0) : L.length = 192 := by
  rw [er_eq] at h
  split at h
  · cases h
  · split at h
    · cases h
    · omega
theorem er_may {L : List Int} (h : er L = 0) : may (rc L) = true := by
  have hl := er_len h
  rw [er_eq, if_neg (by omega), if_neg (by omega)] at h
  by_cases h2 : may (rc L) = true
  · exact h2
  · rw [if_neg h2] at h; cases h
theorem gt_none {L : List Int} (h : er L ≠ 0) : gt L = zero := by unfold gt; rw [if_neg h]

/-! ### back -/
theorem back_rs {r : R} (h : Ok r) (k : Nat) (hk : k ≤ 11) : rs (pt r) k = tl' r k (11 - k) := by
  have e : pt r = ptk r k ++ tl' r k (11 - k) := by
    unfold pt
    rw [← pt_split, show k + (11 - k) = 11 by omega]
  have hl := ptk_len h k
  have hn : ¬ (pt r).length < of k := by rw [e, List.length_append, hl]; omega
  rw [(rs_eq _ k).1, if_neg hn, e, List.drop_append_of_le_length (by omega), List.drop_of_length_le (by omega), List.nil_append]
theorem vi_e8 {n : Int} (h : Pk.In64 n) (X : List Int) : Pk.vi (Pk.e8 n 8 ++ X) = n := by
  unfold Pk.vi
  rw [if_neg (by rw [List.length_append, Pk.e8_len]; omega), List.take_append_of_le_length (by rw [Pk.e8_len]; omega), List.take_of_length_le (by rw [Pk.e8_len]; omega), Pk.in8_e8 h]
theorem vs_sum {S : List Int} (h : OkS S) (X : List Int) : Pk.vs (S ++ X) = S := by
  unfold Pk.vs
  rw [if_neg (by rw [List.length_append, h.1]; omega), List.take_append_of_le_length (by rw [h.1]; omega), List.take_of_length_le (by rw [h.1]; omega)]
theorem vr_ref {r : Int × List Int} (h : Pk.In64 r.1 ∧ OkS r.2) (X : List Int) : Pk.vr (Pk.ref r ++ X) = r := by
  have hl : (Pk.ref r).length = 40 := by unfold Pk.ref; rw [List.length_append, Pk.e8_len, h.2.1]
  unfold Pk.vr
  rw [if_neg (by rw [List.length_append, hl]; omega)]
  have e1 : (Pk.ref r ++ X).take 8 = Pk.e8 r.1 8 := by
    unfold Pk.ref
    rw [List.append_assoc, List.take_append_of_le_length (by rw [Pk.e8_len]; omega), List.take_of_length_le (by rw [Pk.e8_len]; omega)]
  have e2 : ((Pk.ref r ++ X).drop 8).take 32 = r.2 := by
    unfold Pk.ref
    rw [List.append_assoc, List.drop_append_of_le_length (by rw [Pk.e8_len]; omega), List.drop_of_length_le (by rw [Pk.e8_len]; omega), List.nil_append, List.take_append_of_le_length (by rw [h.2.1]; omega), List.take_of_length_le (by rw [h.2.1]; omega)]
  rw [e1, e2, Pk.in8_e8 h.1]
theorem back_rc {r : R} (h : Ok r) : rc (pt r) = r := by
  unfold rc
  rw [back_rs h 0 (by omega), back_rs h 1 (by omega), back_rs h 2 (by omega), back_rs h 3 (by omega), back_rs h 4 (by omega), back_rs h 5 (by omega), back_rs h 6 (by omega), back_rs h 7 (by omega), back_rs h 8 (by omega), back_rs h 9 (by omega), back_rs h 10 (by omega)]
  show R.mk (Pk.vi (Pk.e8 r.gen 8 ++ _)) (Pk.vi (Pk.e8 r.st 8 ++ _)) (Pk.vi (Pk.e8 r.ep 8 ++ _)) (Pk.vs (r.su ++ _)) (Pk.vr (Pk.ref r.rt ++ _)) (Pk.vi (Pk.e8 r.bs 8 ++ _)) (Pk.vi (Pk.e8 r.bl 8 ++ _)) (Pk.vi (Pk.e8 r.ts 8 ++ _)) (Pk.vi (Pk.e8 r.tl 8 ++ _)) (Pk.vs (r.b1 ++ _)) (Pk.vs (r.b2 ++ _)) = r
  rw [vi_e8 h.gen, vi_e8 h.st, vi_e8 h.ep, vs_sum h.su, vr_ref h.rt, vi_e8 h.bs, vi_e8 h.bl, vi_e8 h.ts, vi_e8 h.tl, vs_sum h.b1, vs_sum h.b2]
theorem back {r : R} (h : Ok r) (hm : may r = true) : er (pt r) = 0 ∧ gt (pt r) = r := by
  have h1 : er (pt r) = 0 := by rw [er_eq, if_neg (by rw [pt_len h]; omega), if_neg (by rw [pt_len h]; omega), back_rc h, if_pos hm]
  exact ⟨h1, by unfold gt; rw [if_pos h1, back_rc h]⟩
theorem unlike {r s : R} (hr : Ok r) (hs : Ok s) (h : pt r = pt s) : r = s := by rw [← back_rc hr, h, back_rc hs]
/-! ### only -/
theorem e8_vi {L : List Int} (h : 8 ≤ L.length) (hb : Sha.Byt L) : Pk.e8 (Pk.vi L) 8 = L.take 8 := by
  unfold Pk.vi
  rw [if_neg (by omega)]
  exact Pk.e8_in8 (by rw [List.length_take]; omega) (fun x hx => hb x (List.mem_of_mem_take hx))
theorem ref_vr {L : List Int} (h : 40 ≤ L.length) (hb : Sha.Byt L) : Pk.ref (Pk.vr L) = L.take 40 := by
  unfold Pk.vr Pk.ref
  rw [if_neg (by omega)]
  show Pk.e8 (Pk.in8 (L.take 8)) 8 ++ (L.drop 8).take 32 = L.take 40
  rw [Pk.e8_in8 (by rw [List.length_take]; omega) (fun x hx => hb x (List.mem_of_mem_take hx)), show (40 : Nat) = 8 + 32 from rfl, List.take_add]
theorem sum_vs {L : List Int} (h : 32 ≤ L.length) : Pk.vs L = L.take 32 := by unfold Pk.vs; rw [if_neg (by omega)]
theorem only_pc {L : List Int} (hb : Sha.Byt L) (hl : L.length = 192) (k : Nat) (hk : k < 11) : pc (rc L) k = (L.drop (of k)).take (wd k) := by
  have hw : of k + wd k ≤ 192 := by
    have : ∀ k : Fin 11, of k.1 + wd k.1 ≤ 192 := by decide
    exact this ⟨k, hk⟩
  have e : rs L k = L.drop (of k) := by rw [(rs_eq L k).1, if_neg (by omega)]
  have hle : wd k ≤ (rs L k).length := by rw [e, List.length_drop]; omega
  rw [← e]
  have hbk := rs_byt hb k
  match k, hk with
  | 0, _ => exact e8_vi hle hbk
  | 1, _ => exact e8_vi hle hbk
  | 2, _ => exact e8_vi hle hbk
  | 3, _ => exact sum_vs hle
  | 4, _ => exact ref_vr hle hbk
  | 5, _ => exact e8_vi hle hbk
  | 6, _ => exact e8_vi hle hbk
  | 7, _ => exact e8_vi hle hbk
  | 8, _ => exact e8_vi hle hbk
  | 9, _ => exact sum_vs hle
  | 10, _ => exact sum_vs hle
theorem only_k {L : List Int} (hb : Sha.Byt L) (hl : L.length = 192) : ∀ k, k ≤ 11 → ptk (rc L) k = L.take (of k)
  | 0, _ => by rw [show of 0 = 0 from rfl, List.take_zero]; rfl
  | k + 1, h => by rw [ptk, only_k hb hl k (by omega), only_pc hb hl k (by omega), show of (k + 1) = of k + wd k from rfl, List.take_add]
theorem only {L : List Int} (hb : Sha.Byt L) (h : er L = 0) : may (gt L) = true ∧ pt (gt L) = L := by
  have hl := er_len h
  have e : gt L = rc L := by unfold gt; rw [if_pos h]
  rw [e]
  refine ⟨er_may h, ?_⟩
  unfold pt
  rw [only_k hb hl 11 (by omega), of_11, List.take_of_length_le (by omega)]
/-! each piece put behind those ahead of it -/
theorem st0 (r : R) : [] ++ Pk.e8 r.gen 8 = ptk r 1 := rfl
theorem st1 (r : R) : ptk r 1 ++ Pk.e8 r.st 8 = ptk r 2 := rfl
theorem st2 (r : R) : ptk r 2 ++ Pk.e8 r.ep 8 = ptk r 3 := rfl
theorem st3 (r : R) : ptk r 3 ++ r.su = ptk r 4 := rfl
theorem st4 (r : R) : ptk r 4 ++ Pk.ref r.rt = ptk r 5 := rfl
theorem st5 (r : R) : ptk r 5 ++ Pk.e8 r.bs 8 = ptk r 6 := rfl
theorem st6 (r : R) : ptk r 6 ++ Pk.e8 r.bl 8 = ptk r 7 := rfl
theorem st7 (r : R) : ptk r 7 ++ Pk.e8 r.ts 8 = ptk r 8 := rfl
theorem st8 (r : R) : ptk r 8 ++ Pk.e8 r.tl 8 = ptk r 9 := rfl
theorem st9 (r : R) : ptk r 9 ++ r.b1 = ptk r 10 := rfl
theorem st10 (r : R) : ptk r 10 ++ r.b2 = ptk r 11 := rfl
theorem st11 (r : R) : ptk r 11 = pt r := rfl
section
variable {r : R} (h : Ok r)
include h
theorem pl1 : (ptk r 1).length = 8 := (ptk_len h 1).trans (by decide)
theorem pl2 : (ptk r 2).length = 16 := (ptk_len h 2).trans (by decide)
theorem pl3 : (ptk r 3).length = 24 := (ptk_len h 3).trans (by decide)
theorem pl4 : (ptk r 4).length = 56 := (ptk_len h 4).trans (by decide)
theorem pl5 : (ptk r 5).length = 96 := (ptk_len h 5).trans (by decide)
theorem pl6 : (ptk r 6).length = 104 := (ptk_len h 6).trans (by decide)
theorem pl7 : (ptk r 7).length = 112 := (ptk_len h 7).trans (by decide)
theorem pl8 : (ptk r 8).length = 120 := (ptk_len h 8).trans (by decide)
theorem pl9 : (ptk r 9).length = 128 := (ptk_len h 9).trans (by decide)
theorem pl10 : (ptk r 10).length = 160 := (ptk_len h 10).trans (by decide)
theorem pl11 : (ptk r 11).length = 192 := (ptk_len h 11).trans (by decide)
end
theorem rs0 (L : List Int) : rs L 0 = L := rfl
theorem bd0 (L : List Int) : bd L 0 = false := rfl
theorem rsn0 (L : List Int) : rs L 1 = Pk.nx 8 (rs L 0) := rfl
theorem bdn0 (L : List Int) : bd L 1 = Pk.nb 8 (rs L 0) (bd L 0) := rfl
theorem rcf0 (L : List Int) : (rc L).gen = Pk.vi (rs L 0) := rfl
theorem rsn1 (L : List Int) : rs L 2 = Pk.nx 8 (rs L 1) := rfl
theorem bdn1 (L : List Int) : bd L 2 = Pk.nb 8 (rs L 1) (bd L 1) := rfl
theorem rcf1 (L : List Int) : (rc L).st = Pk.vi (rs L 1) := rfl
theorem rsn2 (L : List Int) : rs L 3 = Pk.nx 8 (rs L 2) := rfl
theorem bdn2 (L : List Int) : bd L 3 = Pk.nb 8 (rs L 2) (bd L 2) := rfl
theorem rcf2 (L : List Int) : (rc L).ep = Pk.vi (rs L 2) := rfl
theorem rsn3 (L : List Int) : rs L 4 = Pk.nx 32 (rs L 3) := rfl
theorem bdn3 (L : List Int) : bd L 4 = Pk.nb 32 (rs L 3) (bd L 3) := rfl
theorem rcf3 (L : List Int) : (rc L).su = Pk.vs (rs L 3) := rfl
theorem rsn4 (L : List Int) : rs L 5 = Pk.nx 40 (rs L 4) := rfl
theorem bdn4 (L : List Int) : bd L 5 = Pk.nb 40 (rs L 4) (bd L 4) := rfl
theorem rcf4 (L : List Int) : (rc L).rt = Pk.vr (rs L 4) := rfl
theorem rsn5 (L : List Int) : rs L 6 = Pk.nx 8 (rs L 5) := rfl
theorem bdn5 (L : List Int) : bd L 6 = Pk.nb 8 (rs L 5) (bd L 5) := rfl
theorem rcf5 (L : List Int) : (rc L).bs = Pk.vi (rs L 5) := rfl
theorem rsn6 (L : List Int) : rs L 7 = Pk.nx 8 (rs L 6) := rfl
theorem bdn6 (L : List Int) : bd L 7 = Pk.nb 8 (rs L 6) (bd L 6) := rfl
theorem rcf6 (L : List Int) : (rc L).bl = Pk.vi (rs L 6) := rfl
theorem rsn7 (L : List Int) : rs L 8 = Pk.nx 8 (rs L 7) := rfl
theorem bdn7 (L : List Int) : bd L 8 = Pk.nb 8 (rs L 7) (bd L 7) := rfl
theorem rcf7 (L : List Int) : (rc L).ts = Pk.vi (rs L 7) := rfl
theorem rsn8 (L : List Int) : rs L 9 = Pk.nx 8 (rs L 8) := rfl
theorem bdn8 (L : List Int) : bd L 9 = Pk.nb 8 (rs L 8) (bd L 8) := rfl
theorem rcf8 (L : List Int) : (rc L).tl = Pk.vi (rs L 8) := rfl
theorem rsn9 (L : List Int) : rs L 10 = Pk.nx 32 (rs L 9) := rfl
theorem bdn9 (L : List Int) : bd L 10 = Pk.nb 32 (rs L 9) (bd L 9) := rfl
theorem rcf9 (L : List Int) : (rc L).b1 = Pk.vs (rs L 9) := rfl
theorem rsn10 (L : List Int) : rs L 11 = Pk.nx 32 (rs L 10) := rfl
theorem bdn10 (L : List Int) : bd L 11 = Pk.nb 32 (rs L 10) (bd L 10) := rfl
theorem rcf10 (L : List Int) : (rc L).b2 = Pk.vs (rs L 10) := rfl
attribute [irreducible] num root plc may home pt ptk rs bd rc er gt zero pc tl' z32 zr
end Rg
end

/-! RgB: Records as values: their cells; held against one another; in memory. -/
section
open Go.RowKit

abbrev u8v (l : List Int) : List Value := l.map (Value.int .u8)
/-- A record's cells; a record, a place, as a value. -/
def cv (r : Rg.R) : List Value := [.int .i64 r.gen, .int .i64 r.st, .int .i64 r.ep] ++ (u8v r.su ++ ((Value.int .i64 r.rt.1 :: u8v r.rt.2) ++ ([.int .i64 r.bs, .int .i64 r.bl] ++ ([.int .i64 r.ts, .int .i64 r.tl] ++ (u8v r.b1 ++ u8v r.b2)))))
def RV (r : Rg.R) : Value := .agg (cv r).toArray
abbrev Pv (s l : Int) : Value := .agg #[.int .i64 s, .int .i64 l]
theorem cv_len {r : Rg.R} (h : Rg.Ok r) : (cv r).length = 136 := by
  unfold cv
  simp only [List.length_append, List.length_cons, List.length_nil, List.length_map, h.su.1, h.rt.2.1, h.b1.1, h.b2.1]
theorem cv_one (r : Rg.R) : ∀ v ∈ cv r, v.oneCell' = true := fun v hv => by
  unfold cv at hv
  simp only [List.mem_append, List.mem_cons, List.not_mem_nil, or_false] at hv
  rcases hv with (rfl | rfl | rfl) | hv | (rfl | hv) | (rfl | rfl) | (rfl | rfl) | hv | hv
  · rfl
  · rfl
  · rfl
  · exact bytes_one _ v hv
  · rfl
  · exact bytes_one _ v hv
  · rfl
  · rfl
  · rfl
  · rfl
  · exact bytes_one _ v hv
  · exact bytes_one _ v hv
theorem sub_mid {X Y Z : List Value} {o n : Nat} (hX : X.length = o) (hY : Y.length = n) : ((X ++ (Y ++ Z)).drop o).take n = Y := by
  rw [List.drop_append_of_le_length (by omega), List.drop_of_length_le (by omega), List.nil_append, List.take_append_of_le_length (by omega), List.take_of_length_le (by omega)]
section
variable {r : Rg.R}
theorem sub_su (h : Rg.Ok r) : ((cv r).drop 3).take 32 = u8v r.su := by
  unfold cv
  exact sub_mid rfl (by rw [List.length_map, h.su.1])
theorem sub_rt (h : Rg.Ok r) : ((cv r).drop 35).take 33 = Value.int .i64 r.rt.1 :: u8v r.rt.2 := by
  unfold cv
  rw [← List.append_assoc]
  exact sub_mid (by simp [h.su.1]) (by simp [h.rt.2.1])
theorem sub_bp (h : Rg.Ok r) : ((cv r).drop 68).take 2 = [.int .i64 r.bs, .int .i64 r.bl] := by
  unfold cv
  rw [← List.append_assoc, ← List.append_assoc]
  exact sub_mid (by simp [h.su.1, h.rt.2.1]) rfl
theorem sub_tp (h : Rg.Ok r) : ((cv r).drop 70).take 2 = [.int .i64 r.ts, .int .i64 r.tl] := by
  unfold cv
  rw [← List.append_assoc, ← List.append_assoc, ← List.append_assoc]
  exact sub_mid (by simp [h.su.1, h.rt.2.1]) rfl
theorem sub_b1 (h : Rg.Ok r) : ((cv r).drop 72).take 32 = u8v r.b1 := by
  unfold cv
  rw [← List.append_assoc, ← List.append_assoc, ← List.append_assoc, ← List.append_assoc]
  exact sub_mid (by simp [h.su.1, h.rt.2.1]) (by simp [h.b1.1])
theorem sub_b2 (h : Rg.Ok r) : ((cv r).drop 104).take 32 = u8v r.b2 := by
  unfold cv
  rw [← List.append_assoc, ← List.append_assoc, ← List.append_assoc, ← List.append_assoc, ← List.append_assoc]
  have := sub_mid (X := [Value.int .i64 r.gen, .int .i64 r.st, .int .i64 r.ep] ++ u8v r.su ++ (Value.int .i64 r.rt.1 :: u8v r.rt.2) ++ [.int .i64 r.bs, .int .i64 r.bl] ++ [.int .i64 r.ts, .int .i64 r.tl] ++ u8v r.b1) (Y := u8v r.b2) (Z := []) (o := 104) (n := 32) (by simp [h.su.1, h.rt.2.1, h.b1.1]) (by simp [h.b2.1])
  rw [List.append_nil] at this
  exact this
theorem at_sub {l s : List Value} {o n j : Nat} {v : Value} (h : (l.drop o).take n = s) (hv : s[j]? = some v) : l[o + j]? = some v := by
  rw [← h, List.getElem?_take, List.getElem?_drop] at hv
  split at hv
  · exact hv
  · cases hv
end
theorem Try.sizeRec : (Try.prog.info? 40).map (·.size) = some 136 := by kernel_rfl
theorem Try.sizePl : (Try.prog.info? 38).map (·.size) = some 2 := by kernel_rfl
theorem Try.zeroRec : (Try.prog.info? 40).map (fun i => (i.zero, i.size)) = some (some (.agg (cv Rg.zero).toArray), 136) := by kernel_rfl
theorem Try.builtRec : Try.prog.built 40 [] = some (cv Rg.zero).toArray := by kernel_rfl
theorem Try.builtRef : Try.prog.built 36 [] = some (Value.int .i64 Rg.zr.1 :: u8v Rg.zr.2).toArray := by kernel_rfl
theorem Try.fieldsRec : (Try.prog.fieldsOf 40).toList.map (fun f => (f.name, f.type, f.offset)) = [("Gen", 3, 0), ("Stamp", 3, 1), ("Epoch", 3, 2), ("Super", 34, 3), ("Root", 36, 35), ("Base", 38, 68), ("Tail", 38, 70), ("BaseSum", 34, 72), ("TailSum", 34, 104)] := by kernel_rfl
theorem Try.fieldsPl : (Try.prog.fieldsOf 38).toList.map (fun f => (f.name, f.type, f.offset)) = [("Seg", 3, 0), ("Slot", 3, 1)] := by kernel_rfl
theorem Try.cellsRef : Try.prog.cellsOf 36 = 33 := by kernel_rfl
theorem Try.cellsPl : Try.prog.cellsOf 38 = 2 := by kernel_rfl

/-! ### equality -/
theorem eqf_cons (d : Nat) (A B : Array Value) (f : Field) (fs : List Field) (a b : Value) (q p : Bool) (w : World) (n : String) (t : TypeId) (o : Nat) (hf : (f.name, f.type, f.offset) = (n, t, o)) (hn : n ≠ "_")
    (pa : (part t A o).run Try.prog w = .ok a w) (pb : (part t B o).run Try.prog w = .ok b w) (he : (Op.equalIn d t a b).run Try.prog w = .ok q w) (hr : (Op.eqFields d A B fs).run Try.prog w = .ok p w) :
    (Op.eqFields d A B (f :: fs)).run Try.prog w = .ok (q && p) w := by
  simp only [Prod.mk.injEq] at hf
  obtain ⟨h1, h2, h3⟩ := hf
  rw [Op.eqFields, h1, h2, h3, if_pos hn, Sem.run_bind, pa, Result.andThen_ok, Sem.run_bind, pb, Result.andThen_ok, Sem.run_bind, he, Result.andThen_ok]
  cases q with
  | false => rw [if_pos (by rfl)]; rfl
  | true => rw [if_neg (by decide), hr]; rfl
theorem eqf_nil (d : Nat) (A B : Array Value) (w : World) : (Op.eqFields d A B []).run Try.prog w = .ok true w := by rw [Op.eqFields]; rfl
theorem agg_ref (w : World) : (isAgg 36).run Try.prog w = .ok true w := by
  unfold isAgg
  rw [Sem.run_bind, run_underlying Try.underlying36 w]
  rfl
theorem agg_pl (w : World) : (isAgg 38).run Try.prog w = .ok true w := by
  unfold isAgg
  rw [Sem.run_bind, run_underlying Try.underlying38 w]
  rfl
theorem part_one {l : List Value} {o : Nat} {k : Int} (h : l[o]? = some (.int .i64 k)) (w : World) : (part 3 l.toArray o).run Try.prog w = .ok (.int .i64 k) w := by
  have hv : l.toArray[o]? = some (.int .i64 k) := by simpa using h
  unfold part
  rw [Sem.run_bind, agg_int]
  simp only [Result.andThen_ok, hv]
  rfl
set_option maxRecDepth 100000 in
theorem part_many (t : TypeId) (i : TypeInfo) (ti : Try.prog.info? t = some i) (n : Nat) (hn : Try.prog.cellsOf t = n) {l s : List Value} {o : Nat} (hg : ∀ w, (isAgg t).run Try.prog w = .ok true w) (h : (l.drop o).take n = s) (w : World) : (part t l.toArray o).run Try.prog w = .ok (.agg s.toArray) w := by
  unfold part
  rw [Sem.run_bind, hg w]
  simp only [Result.andThen_ok, if_true, Sem.run_bind, run_sizeOf w ti, hn, Sem.run_pure]
  congr 2
  apply Array.ext'
  simp only [Array.toList_extract, List.extract_eq_take_drop, Nat.add_sub_cancel_left]
  exact h
theorem part_sumo {l s : List Value} {o : Nat} (h : (l.drop o).take 32 = s) (w : World) : (part 34 l.toArray o).run Try.prog w = .ok (.agg s.toArray) w := by
  obtain ⟨i, hi⟩ := info_of_underlying Try.underlying34
  exact part_many _ i hi 32 Try.cellsSum agg_sum h w
theorem part_refo {l s : List Value} {o : Nat} (h : (l.drop o).take 33 = s) (w : World) : (part 36 l.toArray o).run Try.prog w = .ok (.agg s.toArray) w := by
  obtain ⟨i, hi⟩ := info_of_underlying Try.underlying36
  exact part_many _ i hi 33 Try.cellsRef agg_ref h w
theorem part_plo {l s : List Value} {o : Nat} (h : (l.drop o).take 2 = s) (w : World) : (part 38 l.toArray o).run Try.prog w = .ok (.agg s.toArray) w := by
  obtain ⟨i, hi⟩ := info_of_underlying Try.underlying38
  exact part_many _ i hi 2 Try.cellsPl agg_pl h w
set_option maxRecDepth 100000 in
theorem int_eqd (d : Nat) (a b : Int) (w : World) : (Op.equalIn (d + 1) 3 (.int .i64 a) (.int .i64 b)).run Try.prog w = .ok (decide (a = b)) w := by
  have h := run_equalIn_int (P := Try.prog) w d 3 .i64 .i64 a b Try.underlying3
  rw [h]
  congr 1
set_option maxRecDepth 100000 in
theorem refs_at (d : Nat) (r s : Int × List Int) (hr : r.2.length = 32) (hs : s.2.length = 32) (w : World) : (Op.equalIn (d + 3) 36 (.agg (Value.int .i64 r.1 :: u8v r.2).toArray) (.agg (Value.int .i64 s.1 :: u8v s.2).toArray)).run Try.prog w = .ok (decide (r = s)) w := by
  rw [show d + 3 = (d + 2) + 1 from rfl, run_equalIn_struct w _ _ _ _ Try.underlying36 Try.stoodInHeld36]
  have hf := Try.fieldsRef
  revert hf
  generalize (Try.prog.fieldsOf 36).toList = fs
  intro hf
  rcases fs with _ | ⟨f1, _ | ⟨f2, _ | ⟨f3, q⟩⟩⟩
  · simp at hf
  · simp at hf
  · simp only [List.map_cons, List.map_nil, List.cons.injEq, and_true] at hf
    obtain ⟨h1, h2⟩ := hf
    have p3 := part_sum r hr w
    have p4 := part_sum s hs w
    unfold A32 at p3 p4
    rw [eqf_cons _ _ _ _ _ _ _ _ _ _ _ _ _ h1 (by decide) (part_at r w) (part_at s w) (int_eqd (d + 1) _ _ w) (eqf_cons _ _ _ _ _ _ _ _ _ _ _ _ _ h2 (by decide) p3 p4 (sums_at d r.2 s.2 hr hs w) (eqf_nil _ _ _ w))]
    congr 1
    by_cases e : r = s
    · rw [decide_eq_true e, e]; simp
    · rw [decide_eq_false e, Bool.and_true]
      by_cases e1 : r.1 = s.1
      · rw [decide_eq_false (fun e2 => e (Prod.ext e1 e2)), Bool.and_false]
      · rw [decide_eq_false e1, Bool.false_and]
  · simp at hf
set_option maxRecDepth 100000 in
theorem pls_at (d : Nat) (a b a' b' : Int) (w : World) : (Op.equalIn (d + 2) 38 (Pv a b) (Pv a' b')).run Try.prog w = .ok (decide (a = a') && decide (b = b')) w := by
  rw [show d + 2 = (d + 1) + 1 from rfl, run_equalIn_struct w _ _ _ _ Try.underlying38 Try.stoodInHeld38]
  have hf := Try.fieldsPl
  revert hf
  generalize (Try.prog.fieldsOf 38).toList = fs
  intro hf
  rcases fs with _ | ⟨f1, _ | ⟨f2, _ | ⟨f3, q⟩⟩⟩
  · simp at hf
  · simp at hf
  · simp only [List.map_cons, List.map_nil, List.cons.injEq, and_true] at hf
    obtain ⟨h1, h2⟩ := hf
    rw [eqf_cons _ _ _ _ _ _ _ _ _ _ _ _ _ h1 (by decide) (part_one (l := [.int .i64 a, .int .i64 b]) rfl w) (part_one (l := [.int .i64 a', .int .i64 b']) rfl w) (int_eqd d _ _ w) (eqf_cons _ _ _ _ _ _ _ _ _ _ _ _ _ h2 (by decide) (part_one (l := [.int .i64 a, .int .i64 b]) rfl w) (part_one (l := [.int .i64 a', .int .i64 b']) rfl w) (int_eqd d _ _ w) (eqf_nil _ _ _ w)), Bool.and_true]
  · simp at hf
theorem rec_dec (r s : Rg.R) : (decide (r.gen = s.gen) && (decide (r.st = s.st) && (decide (r.ep = s.ep) && (decide (r.su = s.su) && (decide (r.rt = s.rt) && ((decide (r.bs = s.bs) && decide (r.bl = s.bl)) && ((decide (r.ts = s.ts) && decide (r.tl = s.tl)) && (decide (r.b1 = s.b1) && (decide (r.b2 = s.b2) && true))))))))) = decide (r = s) := by
  obtain ⟨a1, a2, a3, a4, a5, a6, a7, a8, a9, a10, a11⟩ := r
  obtain ⟨c1, c2, c3, c4, c5, c6, c7, c8, c9, c10, c11⟩ := s
  simp only [Rg.R.mk.injEq, Bool.decide_and, Bool.and_true, Bool.and_assoc]
set_option maxRecDepth 100000 in
theorem rec_eq {r s : Rg.R} (hr : Rg.Ok r) (hs : Rg.Ok s) (w : World) : (Op.equalIn 10000 40 (RV r) (RV s)).run Try.prog w = .ok (decide (r = s)) w := by
  unfold RV
  rw [show (10000 : Nat) = 9999 + 1 from rfl, run_equalIn_struct w _ _ _ _ Try.underlying40 Try.stoodInHeld40]
  have hf := Try.fieldsRec
  revert hf
  generalize (Try.prog.fieldsOf 40).toList = fs
  intro hf
  rcases fs with _ | ⟨f1, _ | ⟨f2, _ | ⟨f3, _ | ⟨f4, _ | ⟨f5, _ | ⟨f6, _ | ⟨f7, _ | ⟨f8, _ | ⟨f9, _ | ⟨f10, q⟩⟩⟩⟩⟩⟩⟩⟩⟩⟩
  any_goals (simp at hf; done)
  simp only [List.map_cons, List.map_nil, List.cons.injEq, and_true] at hf
  obtain ⟨h1, h2, h3, h4, h5, h6, h7, h8, h9⟩ := hf
  have e : ∀ (x : Rg.R) (j : Nat) (k : Int), (cv x)[j]? = some (.int .i64 k) → (part 3 (cv x).toArray j).run Try.prog w = .ok (.int .i64 k) w := fun x j k hj => part_one hj w
  rw [eqf_cons _ _ _ _ _ _ _ _ _ _ _ _ _ h1 (by decide) (e r 0 _ rfl) (e s 0 _ rfl) (int_eqd 9998 _ _ w)
    (eqf_cons _ _ _ _ _ _ _ _ _ _ _ _ _ h2 (by decide) (e r 1 _ rfl) (e s 1 _ rfl) (int_eqd 9998 _ _ w)
    (eqf_cons _ _ _ _ _ _ _ _ _ _ _ _ _ h3 (by decide) (e r 2 _ rfl) (e s 2 _ rfl) (int_eqd 9998 _ _ w)
    (eqf_cons _ _ _ _ _ _ _ _ _ _ _ _ _ h4 (by decide) (part_sumo (sub_su hr) w) (part_sumo (sub_su hs) w) (sums_at 9997 _ _ hr.su.1 hs.su.1 w)
    (eqf_cons _ _ _ _ _ _ _ _ _ _ _ _ _ h5 (by decide) (part_refo (sub_rt hr) w) (part_refo (sub_rt hs) w) (refs_at 9996 _ _ hr.rt.2.1 hs.rt.2.1 w)
    (eqf_cons _ _ _ _ _ _ _ _ _ _ _ _ _ h6 (by decide) (part_plo (sub_bp hr) w) (part_plo (sub_bp hs) w) (pls_at 9997 _ _ _ _ w)
    (eqf_cons _ _ _ _ _ _ _ _ _ _ _ _ _ h7 (by decide) (part_plo (sub_tp hr) w) (part_plo (sub_tp hs) w) (pls_at 9997 _ _ _ _ w)
    (eqf_cons _ _ _ _ _ _ _ _ _ _ _ _ _ h8 (by decide) (part_sumo (sub_b1 hr) w) (part_sumo (sub_b1 hs) w) (sums_at 9997 _ _ hr.b1.1 hs.b1.1 w)
    (eqf_cons _ _ _ _ _ _ _ _ _ _ _ _ _ h9 (by decide) (part_sumo (sub_b2 hr) w) (part_sumo (sub_b2 hs) w) (sums_at 9997 _ _ hr.b2.1 hs.b2.1 w) (eqf_nil _ _ _ w)))))))))]
  rw [rec_dec]
theorem ref_eqz {r : Int × List Int} (hr : Rg.OkS r.2) (w : World) : (Op.equalIn 10000 36 (R33 r) (.agg (Value.int .i64 Rg.zr.1 :: u8v Rg.zr.2).toArray)).run Try.prog w = .ok (decide (r = Rg.zr)) w := by
  have h : Rg.zr.2.length = 32 := by unfold Rg.zr; exact Rg.oks_z.1
  unfold R33
  exact refs_at 9997 r Rg.zr hr.1 h w

/-! ### in memory, and opaque -/
/-- A record at block g. -/
def RAt (w : World) (g : Nat) (r : Rg.R) : Prop := w.heap[g]? = some (.cells (cv r).toArray 40 (0, 0))
theorem RAt.lt {w : World} {g : Nat} {r : Rg.R} (h : RAt w g r) : g < w.heap.size := lt_of_block h
theorem RAt.old {w x : World} {g : Nat} {r : Rg.R} (h : RAt w g r) (hb : Below w.heap.size w x) : RAt x g r := (hb.block g (lt_of_block h)).trans h
/-- A record as the calls meet it: an opaque row, and the rows of its parts. -/
structure RcK (r : Rg.R) (A SU RT B1 B2 : Array Value) : Prop where
  size : A.size = 136
  one : A.all (·.oneCell') = true
  ints : ∀ (z : World) (g : Nat) (t : TypeId), z.heap[g]? = some (.cells A t (0, 0)) → z.cell? ⟨g, 0, none⟩ = some (.int .i64 r.gen) ∧ z.cell? ⟨g, 1, none⟩ = some (.int .i64 r.st) ∧ z.cell? ⟨g, 2, none⟩ = some (.int .i64 r.ep) ∧ z.cell? ⟨g, 35, none⟩ = some (.int .i64 r.rt.1) ∧ z.cell? ⟨g, 68, none⟩ = some (.int .i64 r.bs) ∧ z.cell? ⟨g, 69, none⟩ = some (.int .i64 r.bl) ∧ z.cell? ⟨g, 70, none⟩ = some (.int .i64 r.ts) ∧ z.cell? ⟨g, 71, none⟩ = some (.int .i64 r.tl)
  rngs : ∀ (z : World) (g : Nat) (t : TypeId), z.heap[g]? = some (.cells A t (0, 0)) → z.rangeAt g 3 SU.toList ∧ z.rangeAt g 35 RT.toList ∧ z.rangeAt g 72 B1.toList ∧ z.rangeAt g 104 B2.toList
  root : ∀ (z : World) (g : Nat) (t : TypeId), z.heap[g]? = some (.cells A t (0, 0)) → ∀ k, k < 32 → z.cell? ⟨g, 36 + k, none⟩ = some (.int .u8 (r.rt.2.getD k 0))
  sizes : SU.size = 32 ∧ RT.size = 33 ∧ B1.size = 32 ∧ B2.size = 32
  vals : A32 r.su = .agg SU ∧ R33 r.rt = .agg RT ∧ A32 r.b1 = .agg B1 ∧ A32 r.b2 = .agg B2
theorem rck {r : Rg.R} (h : Rg.Ok r) : ∃ A SU RT B1 B2, RV r = .agg A ∧ RcK r A SU RT B1 B2 := by
  refine ⟨(cv r).toArray, (u8v r.su).toArray, (Value.int .i64 r.rt.1 :: u8v r.rt.2).toArray, (u8v r.b1).toArray, (u8v r.b2).toArray, by unfold RV; rfl, by rw [List.size_toArray, cv_len h], all_oneCell_toArray (cv_one r), ?_, ?_, ?_, ?_, ?_⟩
  · intro z g t hz
    have e : ∀ (j : Nat) (v : Value), (cv r)[j]? = some v → z.cell? ⟨g, j, none⟩ = some v := fun j v hj => by
      rw [cell_of_row z g j _ _ _ hz]
      simpa using hj
    exact ⟨e 0 _ rfl, e 1 _ rfl, e 2 _ rfl, e 35 _ (at_sub (j := 0) (sub_rt h) rfl), e 68 _ (at_sub (j := 0) (sub_bp h) rfl), e 69 _ (at_sub (j := 1) (sub_bp h) rfl), e 70 _ (at_sub (j := 0) (sub_tp h) rfl), e 71 _ (at_sub (j := 1) (sub_tp h) rfl)⟩
  · intro z g t hz
    have e : ∀ (o n : Nat) (s : List Value), ((cv r).drop o).take n = s → z.rangeAt g o s.toArray.toList := fun o n s hs j v hj => by
      rw [cell_of_row z g (o + j) _ _ _ hz]
      simpa using at_sub hs hj
    exact ⟨e 3 32 _ (sub_su h), e 35 33 _ (sub_rt h), e 72 32 _ (sub_b1 h), e 104 32 _ (sub_b2 h)⟩
  · intro z g t hz k hk
    rw [cell_of_row z g (36 + k) _ _ _ hz]
    have h2 : (Value.int .i64 r.rt.1 :: u8v r.rt.2)[1 + k]? = some (.int .u8 (r.rt.2.getD k 0)) := by
      rw [Nat.add_comm 1 k, List.getElem?_cons_succ, List.getElem?_map, List.getD_eq_getElem?_getD, List.getElem?_eq_getElem (by rw [h.rt.2.1]; exact hk)]
      rfl
    have h3 := at_sub (sub_rt h) h2
    rw [show 35 + (1 + k) = 36 + k by omega] at h3
    simpa using h3
  · exact ⟨by rw [List.size_toArray, List.length_map, h.su.1], by rw [List.size_toArray, List.length_cons, List.length_map, h.rt.2.1], by rw [List.size_toArray, List.length_map, h.b1.1], by rw [List.size_toArray, List.length_map, h.b2.1]⟩
  · unfold A32 R33
    exact ⟨rfl, rfl, rfl, rfl⟩
attribute [irreducible] cv RV
end

/-! RgC: Contracts: within, isNumber, isPlace, isRoot, mayBe, home. -/
section
open Go.RowKit

section
variable {P : Program} {ops : Array Oper} {rest : List Oper} {a : Act} {w : World} {Q : Exit → Act → World → Prop} {D : Option Tmp} {T : TypeId} {ps : String} {af : Array Edge} {gd : Option (Nat × Bool)}
theorem exec_build0 (t : TypeId) (R : Array Value) (hr : P.built t [] = some R) : (execOp a.eval { dst := D, op := .build t #[], type := T, pos := ps, after := af, guard := gd }).run P w = .ok (.value (.agg R)) w := by
  have hrun := run_build (P := P) w t #[] R hr
  unfold execOp
  simp only [List.map_toArray, List.map_nil, hrun, Sem.run_bind, Sem.run_pure, Result.andThen_ok]
theorem row_build0 (t : TypeId) (R : Array Value) (hr : P.built t [] = some R) (h : wpList P ops Q rest (a.put D (.agg R)) w) :
    wpList P ops Q ({ dst := D, op := .build t #[], type := T, pos := ps, after := af, guard := none } :: rest) a w :=
  wpList_plain rfl fun K hK => by
    have hrun := run_build (P := P) w t #[] R hr
    unfold Oper.wp execOp
    simp only [List.map_toArray, List.map_nil, hrun, Sem.run_bind, Sem.run_pure, Result.andThen_ok]
    exact hK _ _ h
theorem row_build0_g (t : TypeId) (R : Array Value) (hw : Region.wanted { dst := D, op := .build t #[], type := T, pos := ps, after := af, guard := gd } (yielded ops a.tmps) = true) (hr : P.built t [] = some R) (h : wpList P ops Q rest (a.put D (.agg R)) w) :
    wpList P ops Q ({ dst := D, op := .build t #[], type := T, pos := ps, after := af, guard := gd } :: rest) a w :=
  BigFrame.wpList_want hw fun K hK => by
    have hrun := run_build (P := P) w t #[] R hr
    unfold Oper.wp execOp
    simp only [List.map_toArray, List.map_nil, hrun, Sem.run_bind, Sem.run_pure, Result.andThen_ok]
    exact hK _ _ h
theorem rng_load_g (ty : TypeId) (x : Operand) (b o : Nat) (A : Array Value) (d : TypeDesc) (hw : Region.wanted { dst := D, op := .load ty x, type := T, pos := ps, after := af, guard := gd } (yielded ops a.tmps) = true)
    (hx : a.eval x = .pointer (some ⟨b, o, none⟩)) (hc : w.rangeAt b o A.toList)
    (hu : P.underlying ty = some d) (hd : d.isRow = true) (hi : (P.info? ty).map (·.size) = some A.size)
    (h : wpList P ops Q rest (a.put D (.agg A)) w) : wpList P ops Q ({ dst := D, op := .load ty x, type := T, pos := ps, after := af, guard := gd } :: rest) a w :=
  BigFrame.wpList_want hw fun K hK => wp_load_mid ty x rfl b o hx A.toList d hc hu hd (by simpa using hi) (hK _ _ (by simpa using h))
theorem row_load_g (ty : TypeId) (x : Operand) (g : Nat) (t : TypeId) (cs : Array Value) (fr : Nat × Nat) (d : TypeDesc) (hw : Region.wanted { dst := D, op := .load ty x, type := T, pos := ps, after := af, guard := gd } (yielded ops a.tmps) = true)
    (hx : a.eval x = .pointer (some ⟨g, 0, none⟩)) (hg : w.heap[g]? = some (.cells cs t fr))
    (hu : P.underlying ty = some d) (hd : d.isRow = true) (hi : (P.info? ty).map (·.size) = some cs.size)
    (h : wpList P ops Q rest (a.put D (.agg cs)) w) : wpList P ops Q ({ dst := D, op := .load ty x, type := T, pos := ps, after := af, guard := gd } :: rest) a w :=
  rng_load_g ty x g 0 cs d hw hx (fun j v hv => by rw [cell_of_row w g (0 + j) _ _ _ hg, Nat.zero_add]; simpa using hv) hu hd hi h
end
def BoSay (b : Bool) (w : World) (e : Ending) (w' : World) : Prop := e = .returned (.bool b) ∧ Hid (Below w.heap.size w w')

theorem bool_cases {P : Bool → Prop} (b : Bool) (ht : b = true → P true) (hf : b = false → P false) : P b := by cases b <;> simp_all
set_option maxRecDepth 100000 in
theorem within_anyR (v l m : Int) (w : World) : Calls Try.prog 88 #[.int .i64 v, .int .i64 l, .int .i64 m] w fun e w' => e = .returned (.bool (decide (l ≤ v) && decide (v ≤ m))) ∧ w = w' := by
  by_cases h1 : v ≥ l
  · by_cases h2 : v ≤ m
    · rw [decide_eq_true (show l ≤ v from h1), decide_eq_true h2]
      go_enter Try.func88, Try.ntmps88
      go_wp2
      go_ret
      exact ⟨rfl, rfl⟩
    · rw [decide_eq_true (show l ≤ v from h1), decide_eq_false h2]
      go_enter Try.func88, Try.ntmps88
      go_wp2
      go_ret
      exact ⟨rfl, rfl⟩
  · rw [decide_eq_false (show ¬ l ≤ v from h1), Bool.false_and]
    go_enter Try.func88, Try.ntmps88
    go_wp2
    go_ret
    exact ⟨rfl, rfl⟩
theorem num_eq (n : Int) : Rg.num n = (decide (1 ≤ n) && decide (n ≤ 1099511627776)) := by unfold Rg.num; rfl
theorem plc_eq (s l : Int) : Rg.plc s l = ((decide (0 ≤ s) && decide (s ≤ 31)) && (decide (0 ≤ l) && decide (l ≤ 63))) := by unfold Rg.plc; rfl
theorem root_eq (r : Int × List Int) : Rg.root r = (decide (r = Rg.zr) || (decide (3 ≤ r.1) && decide (r.1 ≤ 4095))) := by unfold Rg.root; rfl
theorem may_eq (r : Rg.R) : Rg.may r = (Rg.num r.gen && (Rg.num r.st && (Rg.num r.ep && (Rg.root r.rt && (Rg.plc r.bs r.bl && Rg.plc r.ts r.tl))))) := by unfold Rg.may; rfl
set_option maxRecDepth 100000 in
theorem rnum_any (n : Int) (w : World) : Calls Try.prog 76 #[.int .i64 n] w fun e w' => e = .returned (.bool (Rg.num n)) ∧ w = w' := by
  have HC : Hid (∀ y, Calls Try.prog 88 #[.int .i64 n, .int .i64 1, .int .i64 1099511627776] y fun e w' => e = .returned (.bool (Rg.num n)) ∧ y = w') := fun y => by rw [num_eq]; exact within_anyR n 1 1099511627776 y
  go_enter Try.func76, Try.ntmps76
  go_wp2_with (go_at_call 88; refine (HC.out _).mono ?_; rintro e1 w1 ⟨rfl, rfl⟩)
  go_ret
  exact ⟨rfl, rfl⟩
set_option maxRecDepth 100000 in
theorem rplace_any (s l : Int) (w : World) : Calls Try.prog 78 #[Pv s l] w (BoSay (Rg.plc s l) w) := by
  have HA : Hid (∀ y, Calls Try.prog 88 #[.int .i64 s, .int .i64 0, .int .i64 31] y fun e w' => e = .returned (.bool (decide (0 ≤ s) && decide (s ≤ 31))) ∧ y = w') := fun y => within_anyR s 0 31 y
  have HB : Hid (∀ y, Calls Try.prog 88 #[.int .i64 l, .int .i64 0, .int .i64 63] y fun e w' => e = .returned (.bool (decide (0 ≤ l) && decide (l ≤ 63))) ∧ y = w') := fun y => within_anyR l 0 63 y
  have B0 : Hid (Below w.heap.size w (w.alloc (.cells #[.int .i64 s, .int .i64 l] 38))) := (Below.refl _ w).alloc (Nat.le_refl _) _
  rw [plc_eq]
  generalize (decide (0 ≤ s) && decide (s ≤ 31)) = a at *
  generalize (decide (0 ≤ l) && decide (l ≤ 63)) = b at *
  cases a with
  | true =>
    go_enter Try.func78, Try.ntmps78
    go_wp2_with (first
      | (go_at_call 88; with_reducible refine (HA.out _).mono ?_; rintro e1 w1 ⟨rfl, rfl⟩)
      | (go_at_call 88; with_reducible refine (HB.out _).mono ?_; rintro e2 w2 ⟨rfl, rfl⟩))
    go_ret
    exact ⟨by first | rfl | simp, B0.out⟩
  | false =>
    go_enter Try.func78, Try.ntmps78
    go_wp2_with (go_at_call 88; refine (HA.out _).mono ?_; rintro e1 w1 ⟨rfl, rfl⟩)
    go_ret
    exact ⟨by first | rfl | simp, B0.out⟩
set_option maxRecDepth 100000 in
theorem rroot_any (r : Int × List Int) (hr : Rg.OkS r.2) (w : World) : Calls Try.prog 77 #[R33 r] w (BoSay (Rg.root r) w) := by
  obtain ⟨A, eA, HAS', h1⟩ := r33_agg r hr.1
  obtain ⟨Z, hZ⟩ : ∃ Z, (Value.int .i64 Rg.zr.1 :: u8v Rg.zr.2).toArray = Z := ⟨_, rfl⟩
  have heq : ∀ y, (Op.equalIn 10000 36 (.agg A) (.agg Z)).run Try.prog y = .ok (decide (r = Rg.zr)) y := fun y => by
    have h2 := ref_eqz hr y
    rw [hZ, eA] at h2
    exact h2
  have HZ := Lib.hid Try.builtRef
  rw [hZ] at HZ
  have HC : Hid (∀ y, Calls Try.prog 88 #[.int .i64 r.1, .int .i64 3, .int .i64 4095] y fun e w' => e = .returned (.bool (decide (3 ≤ r.1) && decide (r.1 ≤ 4095))) ∧ y = w') := fun y => within_anyR r.1 3 4095 y
  have HAS := Lib.hid HAS'
  have hsz := row_size Try.sizeRef HAS
  have R0 : Hid ((w.alloc (.cells A 36)).heap[w.heap.size]? = some (.cells A 36 (0, 0))) := heap_alloc_new w _
  have B0 : Hid (Below w.heap.size w (w.alloc (.cells A 36))) := (Below.refl _ w).alloc (Nat.le_refl _) _
  have c0 : (w.alloc (.cells A 36)).cell? ⟨w.heap.size, 0, none⟩ = some (.int .i64 r.1) := by
    rw [cell_of_row _ _ 0 _ _ _ R0.out]
    have h2 : R33 r = .agg A := eA
    unfold R33 at h2
    injection h2 with h2
    rw [← h2]; rfl
  rw [eA, root_eq]
  obtain ⟨k, S⟩ := r
  dsimp only at c0 HC ⊢
  generalize (decide (3 ≤ k) && decide (k ≤ 4095)) = b at *
  clear eA hZ HAS' hr
  cases hd : decide ((k, S) = Rg.zr) with
  | true =>
    rw [Bool.true_or]
    simp only [hd] at heq
    clear hd
    go_enter Try.func77, Try.ntmps77
    go_wp2_with (first
      | ((with_reducible refine row_load _ _ _ _ _ _ _ ?_ R0.out Try.underlying36 ?_ hsz ?_); (exact rfl); (exact rfl))
      | ((with_reducible refine row_build0 _ _ HZ.out ?_)))
    go_ret
    exact ⟨rfl, B0.out⟩
  | false =>
    rw [Bool.false_or]
    simp only [hd] at heq
    clear hd
    go_enter Try.func77, Try.ntmps77
    go_wp2_with (first
      | ((with_reducible refine row_load _ _ _ _ _ _ _ ?_ R0.out Try.underlying36 ?_ hsz ?_); (exact rfl); (exact rfl))
      | ((with_reducible refine row_build0 _ _ HZ.out ?_))
      | (go_at_call 88; refine (HC.out _).mono ?_; rintro e1 w1 ⟨rfl, rfl⟩))
    go_ret
    exact ⟨by first | rfl | simp, B0.out⟩
set_option maxHeartbeats 1000000 in
set_option maxRecDepth 100000 in
theorem maybe_any (r : Rg.R) (h : Rg.Ok r) (w : World) : Calls Try.prog 54 #[RV r] w (BoSay (Rg.may r) w) := by
  obtain ⟨A, SU, RT, B1, B2, eA, hk⟩ := rck h
  have H0 : Hid (∀ y, Calls Try.prog 76 #[.int .i64 r.gen] y fun e w' => e = .returned (.bool (Rg.num r.gen)) ∧ y = w') := fun y => rnum_any r.gen y
  have H1 : Hid (∀ y, Calls Try.prog 76 #[.int .i64 r.st] y fun e w' => e = .returned (.bool (Rg.num r.st)) ∧ y = w') := fun y => rnum_any r.st y
  have H2 : Hid (∀ y, Calls Try.prog 76 #[.int .i64 r.ep] y fun e w' => e = .returned (.bool (Rg.num r.ep)) ∧ y = w') := fun y => rnum_any r.ep y
  have H3 : Hid (∀ y, Calls Try.prog 77 #[.agg RT] y (BoSay (Rg.root r.rt) y)) := fun y => by rw [← hk.vals.2.1]; exact rroot_any r.rt h.rt.2 y
  have H4 : Hid (∀ y, Calls Try.prog 78 #[Pv r.bs r.bl] y (BoSay (Rg.plc r.bs r.bl) y)) := fun y => rplace_any r.bs r.bl y
  have H5 : Hid (∀ y, Calls Try.prog 78 #[Pv r.ts r.tl] y (BoSay (Rg.plc r.ts r.tl) y)) := fun y => rplace_any r.ts r.tl y
  obtain ⟨w0, hw0⟩ : ∃ x, x = w.alloc (.cells A 40) := ⟨_, rfl⟩
  have R0 : Hid (w0.heap[w.heap.size]? = some (.cells A 40 (0, 0))) := by rw [hw0]; exact heap_alloc_new w _
  have B0 : Hid (Below w.heap.size w w0) := by rw [hw0]; exact (Below.refl _ w).alloc (Nat.le_refl _) _
  have BR : Hid (Below w0.heap.size w0 w0) := Below.refl _ _
  have HI : Hid (∀ y, Below w0.heap.size w0 y → _) := fun y hy => hk.ints y w.heap.size _ ((hy.block _ (lt_of_block R0.out)).trans R0.out)
  have RR : Hid (w0.rangeAt w.heap.size 35 RT.toList) := (hk.rngs w0 w.heap.size _ R0.out).2.1
  have RS : Hid (RT.size = 33) := hk.sizes.2.1
  obtain ⟨c0, c1, c2, _, _, _, _, _⟩ := HI.out _ BR.out
  have h1 := hk.one
  have HAS := Lib.hid hk.size
  rw [eA, may_eq]
  clear hk h eA
  obtain ⟨gen, st, ep, su, rt, bs, bl, ts, tl, b1, b2⟩ := r
  dsimp only at *
  generalize Rg.num gen = n0 at *
  generalize Rg.num st = n1 at *
  generalize Rg.num ep = n2 at *
  generalize Rg.root rt = n3 at *
  generalize Rg.plc bs bl = n4 at *
  generalize Rg.plc ts tl = n5 at *
  cases n0 with
  | false =>
    go_enter Try.func54, Try.ntmps54
    go_upto_region 1 with (fail)
    change Code.wp _ _ _ _ (w.alloc (.cells A 40))
    rw [← hw0]
    clear hw0
    go_wp2_with (first
          | (go_at_call 76; with_reducible refine (H0.out _).mono ?_; rintro e0 w0 ⟨rfl, rfl⟩)
          | (go_at_call 76; with_reducible refine (H1.out _).mono ?_; rintro e1 w1 ⟨rfl, rfl⟩)
          | (go_at_call 76; with_reducible refine (H2.out _).mono ?_; rintro e2 w2 ⟨rfl, rfl⟩)
          | ((with_reducible refine rng_load_g _ _ w.heap.size 35 RT _ ?_ ?_ RR.out Try.underlying36 ?_ (row_size Try.sizeRef RS) ?_); (exact rfl); (go_simp); (exact rfl))
          | (go_at_call 77; refine (H3.out _).mono ?_; rintro e3 w3 ⟨rfl, HB3⟩; have B3 := Lib.hid (BR.out.trans (HB3.out.mono (Nat.le_refl _))); obtain ⟨_, _, _, _, e68, e69, e70, e71⟩ := HI.out _ B3.out)
          | (go_at_call 78; have TT := B4.out; refine (H5.out _).mono ?_; rintro e5 w5 ⟨rfl, HB5⟩; have B5 := Lib.hid (B4.out.trans (HB5.out.mono B4.out.size)))
          | (go_at_call 78; have TT := B3.out; refine (H4.out _).mono ?_; rintro e4 w4 ⟨rfl, HB4⟩; have B4 := Lib.hid (B3.out.trans (HB4.out.mono B3.out.size)); obtain ⟨_, _, _, _, g68, g69, g70, g71⟩ := HI.out _ B4.out))
    go_ret
    exact ⟨by first | rfl | simp, B0.out⟩
  | true =>
    cases n1 with
    | false =>
      go_enter Try.func54, Try.ntmps54
      go_upto_region 1 with (fail)
      change Code.wp _ _ _ _ (w.alloc (.cells A 40))
      rw [← hw0]
      clear hw0
      go_wp2_with (first
            | (go_at_call 76; with_reducible refine (H0.out _).mono ?_; rintro e0 w0 ⟨rfl, rfl⟩)
            | (go_at_call 76; with_reducible refine (H1.out _).mono ?_; rintro e1 w1 ⟨rfl, rfl⟩)
            | (go_at_call 76; with_reducible refine (H2.out _).mono ?_; rintro e2 w2 ⟨rfl, rfl⟩)
            | ((with_reducible refine rng_load_g _ _ w.heap.size 35 RT _ ?_ ?_ RR.out Try.underlying36 ?_ (row_size Try.sizeRef RS) ?_); (exact rfl); (go_simp); (exact rfl))
            | (go_at_call 77; refine (H3.out _).mono ?_; rintro e3 w3 ⟨rfl, HB3⟩; have B3 := Lib.hid (BR.out.trans (HB3.out.mono (Nat.le_refl _))); obtain ⟨_, _, _, _, e68, e69, e70, e71⟩ := HI.out _ B3.out)
            | (go_at_call 78; have TT := B4.out; refine (H5.out _).mono ?_; rintro e5 w5 ⟨rfl, HB5⟩; have B5 := Lib.hid (B4.out.trans (HB5.out.mono B4.out.size)))
            | (go_at_call 78; have TT := B3.out; refine (H4.out _).mono ?_; rintro e4 w4 ⟨rfl, HB4⟩; have B4 := Lib.hid (B3.out.trans (HB4.out.mono B3.out.size)); obtain ⟨_, _, _, _, g68, g69, g70, g71⟩ := HI.out _ B4.out))
      go_ret
      exact ⟨by first | rfl | simp, B0.out⟩
    | true =>
      cases n2 with
      | false =>
        go_enter Try.func54, Try.ntmps54
        go_upto_region 1 with (fail)
        change Code.wp _ _ _ _ (w.alloc (.cells A 40))
        rw [← hw0]
        clear hw0
        go_wp2_with (first
              | (go_at_call 76; with_reducible refine (H0.out _).mono ?_; rintro e0 w0 ⟨rfl, rfl⟩)
              | (go_at_call 76; with_reducible refine (H1.out _).mono ?_; rintro e1 w1 ⟨rfl, rfl⟩)
              | (go_at_call 76; with_reducible refine (H2.out _).mono ?_; rintro e2 w2 ⟨rfl, rfl⟩)
              | ((with_reducible refine rng_load_g _ _ w.heap.size 35 RT _ ?_ ?_ RR.out Try.underlying36 ?_ (row_size Try.sizeRef RS) ?_); (exact rfl); (go_simp); (exact rfl))
              | (go_at_call 77; refine (H3.out _).mono ?_; rintro e3 w3 ⟨rfl, HB3⟩; have B3 := Lib.hid (BR.out.trans (HB3.out.mono (Nat.le_refl _))); obtain ⟨_, _, _, _, e68, e69, e70, e71⟩ := HI.out _ B3.out)
              | (go_at_call 78; have TT := B4.out; refine (H5.out _).mono ?_; rintro e5 w5 ⟨rfl, HB5⟩; have B5 := Lib.hid (B4.out.trans (HB5.out.mono B4.out.size)))
              | (go_at_call 78; have TT := B3.out; refine (H4.out _).mono ?_; rintro e4 w4 ⟨rfl, HB4⟩; have B4 := Lib.hid (B3.out.trans (HB4.out.mono B3.out.size)); obtain ⟨_, _, _, _, g68, g69, g70, g71⟩ := HI.out _ B4.out))
        go_ret
        exact ⟨by first | rfl | simp, B0.out⟩
      | true =>
        cases n3 with
        | false =>
          go_enter Try.func54, Try.ntmps54
          go_upto_region 1 with (fail)
          change Code.wp _ _ _ _ (w.alloc (.cells A 40))
          rw [← hw0]
          clear hw0
          go_wp2_with (first
                | (go_at_call 76; with_reducible refine (H0.out _).mono ?_; rintro e0 w0 ⟨rfl, rfl⟩)
                | (go_at_call 76; with_reducible refine (H1.out _).mono ?_; rintro e1 w1 ⟨rfl, rfl⟩)
                | (go_at_call 76; with_reducible refine (H2.out _).mono ?_; rintro e2 w2 ⟨rfl, rfl⟩)
                | ((with_reducible refine rng_load_g _ _ w.heap.size 35 RT _ ?_ ?_ RR.out Try.underlying36 ?_ (row_size Try.sizeRef RS) ?_); (exact rfl); (go_simp); (exact rfl))
                | (go_at_call 77; refine (H3.out _).mono ?_; rintro e3 w3 ⟨rfl, HB3⟩; have B3 := Lib.hid (BR.out.trans (HB3.out.mono (Nat.le_refl _))); obtain ⟨_, _, _, _, e68, e69, e70, e71⟩ := HI.out _ B3.out)
                | (go_at_call 78; have TT := B4.out; refine (H5.out _).mono ?_; rintro e5 w5 ⟨rfl, HB5⟩; have B5 := Lib.hid (B4.out.trans (HB5.out.mono B4.out.size)))
                | (go_at_call 78; have TT := B3.out; refine (H4.out _).mono ?_; rintro e4 w4 ⟨rfl, HB4⟩; have B4 := Lib.hid (B3.out.trans (HB4.out.mono B3.out.size)); obtain ⟨_, _, _, _, g68, g69, g70, g71⟩ := HI.out _ B4.out))
          go_ret
          exact ⟨by first | rfl | simp, B0.out.trans (B3.out.mono B0.out.size)⟩
        | true =>
          cases n4 with
          | false =>
            go_enter Try.func54, Try.ntmps54
            go_upto_region 1 with (fail)
            change Code.wp _ _ _ _ (w.alloc (.cells A 40))
            rw [← hw0]
            clear hw0
            go_wp2_with (first
                  | (go_at_call 76; with_reducible refine (H0.out _).mono ?_; rintro e0 w0 ⟨rfl, rfl⟩)
                  | (go_at_call 76; with_reducible refine (H1.out _).mono ?_; rintro e1 w1 ⟨rfl, rfl⟩)
                  | (go_at_call 76; with_reducible refine (H2.out _).mono ?_; rintro e2 w2 ⟨rfl, rfl⟩)
                  | ((with_reducible refine rng_load_g _ _ w.heap.size 35 RT _ ?_ ?_ RR.out Try.underlying36 ?_ (row_size Try.sizeRef RS) ?_); (exact rfl); (go_simp); (exact rfl))
                  | (go_at_call 77; refine (H3.out _).mono ?_; rintro e3 w3 ⟨rfl, HB3⟩; have B3 := Lib.hid (BR.out.trans (HB3.out.mono (Nat.le_refl _))); obtain ⟨_, _, _, _, e68, e69, e70, e71⟩ := HI.out _ B3.out)
                  | (go_at_call 78; have TT := B4.out; refine (H5.out _).mono ?_; rintro e5 w5 ⟨rfl, HB5⟩; have B5 := Lib.hid (B4.out.trans (HB5.out.mono B4.out.size)))
                  | (go_at_call 78; have TT := B3.out; refine (H4.out _).mono ?_; rintro e4 w4 ⟨rfl, HB4⟩; have B4 := Lib.hid (B3.out.trans (HB4.out.mono B3.out.size)); obtain ⟨_, _, _, _, g68, g69, g70, g71⟩ := HI.out _ B4.out))
            go_ret
            exact ⟨by first | rfl | simp, B0.out.trans (B4.out.mono B0.out.size)⟩
          | true =>
            go_enter Try.func54, Try.ntmps54
            go_upto_region 1 with (fail)
            change Code.wp _ _ _ _ (w.alloc (.cells A 40))
            rw [← hw0]
            clear hw0
            go_wp2_with (first
                  | (go_at_call 76; with_reducible refine (H0.out _).mono ?_; rintro e0 w0 ⟨rfl, rfl⟩)
                  | (go_at_call 76; with_reducible refine (H1.out _).mono ?_; rintro e1 w1 ⟨rfl, rfl⟩)
                  | (go_at_call 76; with_reducible refine (H2.out _).mono ?_; rintro e2 w2 ⟨rfl, rfl⟩)
                  | ((with_reducible refine rng_load_g _ _ w.heap.size 35 RT _ ?_ ?_ RR.out Try.underlying36 ?_ (row_size Try.sizeRef RS) ?_); (exact rfl); (go_simp); (exact rfl))
                  | (go_at_call 77; refine (H3.out _).mono ?_; rintro e3 w3 ⟨rfl, HB3⟩; have B3 := Lib.hid (BR.out.trans (HB3.out.mono (Nat.le_refl _))); obtain ⟨_, _, _, _, e68, e69, e70, e71⟩ := HI.out _ B3.out)
                  | (go_at_call 78; have TT := B4.out; refine (H5.out _).mono ?_; rintro e5 w5 ⟨rfl, HB5⟩; have B5 := Lib.hid (B4.out.trans (HB5.out.mono B4.out.size)))
                  | (go_at_call 78; have TT := B3.out; refine (H4.out _).mono ?_; rintro e4 w4 ⟨rfl, HB4⟩; have B4 := Lib.hid (B3.out.trans (HB4.out.mono B3.out.size)); obtain ⟨_, _, _, _, g68, g69, g70, g71⟩ := HI.out _ B4.out))
            go_ret
            exact ⟨by first | rfl | simp, B0.out.trans (B5.out.mono B0.out.size)⟩
set_option maxRecDepth 100000 in
theorem home_any (r : Rg.R) (h : Rg.Ok r) (w : World) : Calls Try.prog 35 #[RV r] w fun e w' => e = .returned (.int .i64 (Rg.home r)) ∧ Below w.heap.size w w' := by
  obtain ⟨A, SU, RT, B1, B2, eA, hk⟩ := rck h
  have R0 : Hid ((w.alloc (.cells A 40)).heap[w.heap.size]? = some (.cells A 40 (0, 0))) := heap_alloc_new w _
  have B0 : Hid (Below w.heap.size w (w.alloc (.cells A 40))) := (Below.refl _ w).alloc (Nat.le_refl _) _
  have c0 := (hk.ints _ w.heap.size _ R0.out).1
  have h1 := hk.one
  have HG := Lib.hid h.gen
  rw [eA]
  have e : Rg.home r = if r.gen % 2 = 0 then 1 else 2 := by unfold Rg.home; rfl
  rw [e]
  generalize r.gen = g at *
  clear hk h eA e
  have hw2 : Int.tmod g 2 = 0 ↔ g % 2 = 0 := ⟨fun q => Int.emod_eq_zero_of_dvd (Int.dvd_of_tmod_eq_zero q), fun q => Int.tmod_eq_zero_of_dvd (Int.dvd_of_emod_eq_zero q)⟩
  by_cases h2 : g % 2 = 0
  · rw [if_pos h2]
    have h3 : Int.tmod g 2 = 0 := hw2.2 h2
    go_enter Try.func35, Try.ntmps35
    go_wp2
    go_ret
    exact ⟨rfl, B0.out⟩
  · rw [if_neg h2]
    have h3 : ¬ Int.tmod g 2 = 0 := fun q => h2 (hw2.1 q)
    have h4 : (Int.tmod g 2 == 0) = false := by simpa using h3
    go_enter Try.func35, Try.ntmps35
    go_wp2
    go_ret
    exact ⟨rfl, B0.out⟩
end
end Go.Proofs.Ytpfghjnhoafcmaa

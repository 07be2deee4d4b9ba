/-
  Superblocks in plain lists: a geometry's bytes, what is read of bytes.
-/
import Derived.Test.YtpfghjnhoafcmaaGe1
import Derived.Test.YtpfghjnhoafcmaaRg1
namespace Go.Proofs.Ytpfghjnhoafcmaa
open Go.RowKit

namespace Sp
/-- A geometry. -/
structure G where
  a : Int
  b : Int
  c : Int
deriving DecidableEq
def zero : G := ⟨0, 0, 0⟩
structure Ok (g : G) : Prop where
  a : Pk.In64 g.a
  b : Pk.In64 g.b
  c : Pk.In64 g.c
theorem ok_zero : Ok zero := ⟨Rg.in0, Rg.in0, Rg.in0⟩
/-- What Check tells. -/
def ck (g : G) : Int := Ge.ck g.a g.b g.c
theorem ck_or (g : G) : ck g = 0 ∨ ck g = 15 := by unfold ck Ge.ck; split <;> simp
def p1 (g : G) : List Int := Pk.e8 g.a 8
def p2 (g : G) : List Int := p1 g ++ Pk.e8 g.b 8
def pt (g : G) : List Int := p2 g ++ Pk.e8 g.c 8
theorem p1_len (g : G) : (p1 g).length = 8 := Pk.e8_len _ _
theorem p2_len (g : G) : (p2 g).length = 16 := by unfold p2; rw [List.length_append, p1_len, Pk.e8_len]
theorem pt_len (g : G) : (pt g).length = 24 := by unfold pt; rw [List.length_append, p2_len, Pk.e8_len]
theorem pt_byt (g : G) : Sha.Byt (pt g) := by unfold pt p2 p1; exact Sha.byt_append (Sha.byt_append (Pk.e8_byt _ _) (Pk.e8_byt _ _)) (Pk.e8_byt _ _)
def rs (L : List Int) : Nat → List Int
  | 0 => L
  | k + 1 => Pk.nx 8 (rs L k)
def bd (L : List Int) : Nat → Bool
  | 0 => false
  | k + 1 => Pk.nb 8 (rs L k) (bd L k)
/-- What is read. -/
def gc (L : List Int) : G := ⟨Pk.vi (rs L 0), Pk.vi (rs L 1), Pk.vi (rs L 2)⟩
def en (L : List Int) : Int := Pk.en (rs L 3) (bd L 3)
def er (L : List Int) : Int := if en L ≠ 0 then en L else ck (gc L)
def gt (L : List Int) : G := if er L = 0 then gc L else zero
theorem rs_le (L : List Int) : ∀ k, (rs L k).length ≤ L.length
  | 0 => Nat.le_refl _
  | k + 1 => Nat.le_trans (Pk.nx_le _ _) (rs_le L k)
theorem gc_ok (L : List Int) : Ok (gc L) := ⟨Rg.vi_in _, Rg.vi_in _, Rg.vi_in _⟩
theorem gt_ok (L : List Int) : Ok (gt L) := by
  unfold gt
  split
  · exact gc_ok L
  · exact ok_zero
theorem rs_eq (L : List Int) : ∀ k, rs L k = (if L.length < 8 * k then [] else L.drop (8 * k)) ∧ bd L k = decide (L.length < 8 * k)
  | 0 => by
    rw [show 8 * 0 = 0 from rfl, if_neg (by omega), List.drop_zero]
    exact ⟨rfl, by rw [decide_eq_false (by omega)]; rfl⟩
  | k + 1 => by
    obtain ⟨h1, h2⟩ := rs_eq L k
    rw [rs, bd, h1, h2, show 8 * (k + 1) = 8 * k + 8 from rfl]
    unfold Pk.nx Pk.nb
    by_cases h : L.length < 8 * k
    · have h3 : L.length < 8 * k + 8 := by omega
      rw [if_pos h, if_pos h3, decide_eq_true h, decide_eq_true h3]
      constructor
      · split <;> simp
      · split <;> rfl
    · rw [if_neg h, List.length_drop]
      by_cases h3 : L.length < 8 * k + 8
      · have h4 : L.length - 8 * k < 8 := by omega
        simp [h3, h4]
      · have h4 : ¬ L.length - 8 * k < 8 := by omega
        rw [if_neg h4, if_neg h4, if_neg h3, List.drop_drop]
        refine ⟨rfl, ?_⟩
        rw [decide_eq_false h, decide_eq_false h3]
theorem en_eq (L : List Int) : en L = if L.length < 24 then 4 else if 24 < L.length then 3 else 0 := by
  obtain ⟨h1, h2⟩ := rs_eq L 3
  rw [show 8 * 3 = 24 from rfl] at h1 h2
  unfold en
  rw [h1, h2]
  unfold Pk.en
  by_cases h : L.length < 24
  · simp [h]
  · rw [if_neg h, if_neg h, decide_eq_false h]
    by_cases h3 : 24 < L.length
    · have h4 : 0 < L.length - 24 := by omega
      simp [h3, h4]
    · have h4 : ¬ 0 < L.length - 24 := by omega
      simp [h3, h4]
theorem er_short {L : List Int} (h : L.length < 24) : er L = 4 := by
  have e : en L = 4 := by rw [en_eq, if_pos h]
  unfold er
  rw [e, if_pos (by decide)]
theorem er_long {L : List Int} (h : 24 < L.length) : er L = 3 := by
  have e : en L = 3 := by rw [en_eq, if_neg (by omega), if_pos h]
  unfold er
  rw [e, if_pos (by decide)]
theorem er_is {L : List Int} (h : L.length = 24) : er L = ck (gc L) := by
  have e : en L = 0 := by rw [en_eq, if_neg (by omega), if_neg (by omega)]
  unfold er
  rw [e, if_neg (by decide)]
theorem er_len {L : List Int} (h : er L = 0) : L.length = 24 := by
  by_cases h1 : L.length < 24
  · rw [er_short h1] at h; cases h
  · by_cases h2 : 24 < L.length
    · rw [er_long h2] at h; cases h
    · omega
theorem er_ck {L : List Int} (h : er L = 0) : ck (gc L) = 0 := by rw [← er_is (er_len h)]; exact h
theorem gt_none {L : List Int} (h : er L ≠ 0) : gt L = zero := by unfold gt; rw [if_neg h]
theorem gt_some {L : List Int} (h : er L = 0) : gt L = gc L := by unfold gt; rw [if_pos h]
theorem back_gc {g : G} (h : Ok g) : gc (pt g) = g := by
  have hl := pt_len g
  have e0 : rs (pt g) 0 = Pk.e8 g.a 8 ++ (Pk.e8 g.b 8 ++ Pk.e8 g.c 8) := by
    rw [show rs (pt g) 0 = pt g from rfl]
    unfold pt p2 p1
    rw [List.append_assoc]
  have e1 : rs (pt g) 1 = Pk.e8 g.b 8 ++ Pk.e8 g.c 8 := by
    rw [(rs_eq _ 1).1, if_neg (by omega), ← show rs (pt g) 0 = pt g from rfl, e0, List.drop_append_of_le_length (by rw [Pk.e8_len]; omega), List.drop_of_length_le (by rw [Pk.e8_len]; omega), List.nil_append]
  have e2 : rs (pt g) 2 = Pk.e8 g.c 8 ++ [] := by
    rw [(rs_eq _ 2).1, if_neg (by omega)]
    unfold pt
    rw [List.drop_append_of_le_length (by rw [p2_len]; omega), List.drop_of_length_le (by rw [p2_len]; omega), List.nil_append, List.append_nil]
  unfold gc
  rw [e0, e1, e2, Rg.vi_e8 h.a, Rg.vi_e8 h.b, Rg.vi_e8 h.c]
theorem back {g : G} (h : Ok g) (hc : ck g = 0) : er (pt g) = 0 ∧ gt (pt g) = g := by
  have h1 : er (pt g) = 0 := by rw [er_is (pt_len g), back_gc h, hc]
  exact ⟨h1, by rw [gt_some h1, back_gc h]⟩
theorem only {L : List Int} (hb : Sha.Byt L) (h : er L = 0) : ck (gt L) = 0 ∧ pt (gt L) = L := by
  have hl := er_len h
  rw [gt_some h]
  refine ⟨er_ck h, ?_⟩
  have f : ∀ k, k < 3 → Pk.e8 (Pk.vi (rs L k)) 8 = (L.drop (8 * k)).take 8 := fun k hk => by
    have e : rs L k = L.drop (8 * k) := by rw [(rs_eq L k).1, if_neg (by omega)]
    rw [e]
    exact Rg.e8_vi (by rw [List.length_drop]; omega) (fun x hx => hb x (List.mem_of_mem_drop hx))
  unfold pt p2 p1 gc
  dsimp only
  rw [f 0 (by omega), f 1 (by omega), f 2 (by omega), show 8 * 0 = 0 from rfl, List.drop_zero, show 8 * 1 = 8 from rfl, show 8 * 2 = 8 + 8 from rfl, ← List.take_add, ← List.take_add, List.take_of_length_le (by omega)]
theorem s1 (g : G) : [] ++ Pk.e8 g.a 8 = p1 g := rfl
theorem s2 (g : G) : p1 g ++ Pk.e8 g.b 8 = p2 g := rfl
theorem s3 (g : G) : p2 g ++ Pk.e8 g.c 8 = pt g := rfl
theorem n0 (L : List Int) : rs L 1 = Pk.nx 8 L ∧ bd L 1 = Pk.nb 8 L false ∧ (gc L).a = Pk.vi L := ⟨rfl, rfl, rfl⟩
theorem n1 (L : List Int) : rs L 2 = Pk.nx 8 (rs L 1) ∧ bd L 2 = Pk.nb 8 (rs L 1) (bd L 1) ∧ (gc L).b = Pk.vi (rs L 1) := ⟨rfl, rfl, rfl⟩
theorem n2 (L : List Int) : rs L 3 = Pk.nx 8 (rs L 2) ∧ bd L 3 = Pk.nb 8 (rs L 2) (bd L 2) ∧ (gc L).c = Pk.vi (rs L 2) := ⟨rfl, rfl, rfl⟩
theorem en_is (L : List Int) : Pk.en (rs L 3) (bd L 3) = en L := rfl
theorem er_en {L : List Int} (h : en L ≠ 0) : er L = en L := by unfold er; rw [if_pos h]
theorem er_ok {L : List Int} (h : en L = 0) : er L = ck (gc L) := by unfold er; rw [if_neg (by omega)]
theorem zero_is : zero = ⟨0, 0, 0⟩ := rfl
attribute [irreducible] ck p1 p2 pt rs bd en er gt gc zero
end Sp
end Go.Proofs.Ytpfghjnhoafcmaa

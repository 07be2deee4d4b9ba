/-
  SameBytes of any two; the law NamesForged in plain lists.
-/
import Derived.Test.YtdmnlooghamngaaNaW
namespace Go.Proofs.Ytdmnlooghamngaa
open Go.RowKit

def EqSay (b : Bool) (w : World) (e : Ending) (w' : World) : Prop := e = .returned (.bool b) ∧ Below w.heap.size w w'
set_option maxRecDepth 100000 in
theorem same_ne (p q : Option Addr) (n m c d : Nat) (h : n ≠ m) (w : World) : Calls Try.prog 18 #[.slice p n c, .slice q m d] w (EqSay false w) := by
  have h1 : ((n : Int) == (m : Int)) = false := by rw [beq_eq_false_iff_ne]; omega
  have h2 : ¬ ((n : Int) = (m : Int)) := by omega
  go_enter Try.func18, Try.ntmps18
  go_wp2
  go_ret
  exact ⟨rfl, Below.refl _ _⟩
theorem same_all (L M : List Int) (p q : Option Addr) (n m c d : Nat) (hn : L.length = n) (hm : M.length = m) (w : World) (hp : BAt w p L) (hq : BAt w q M) (hL : n ≤ 10000000) :
    Calls Try.prog 18 #[.slice p n c, .slice q m d] w (EqSay (decide (L = M)) w) := by
  by_cases h : n = m
  · subst h
    exact (same_gen L M p q n c d hn hm w hp hq hL).mono fun _ _ h => h
  · have hd : decide (L = M) = false := decide_eq_false (fun e => h (by rw [← hn, ← hm, e]))
    rw [hd]
    exact same_ne p q n m c d h w

namespace Nm
section
variable {α : Type} [DecidableEq α] {x y : α} {l : List α}
theorem place_put_ne (h : y ≠ x) : place y (put x l) = place y l := by
  unfold put
  split
  · rw [place_app]
    have : place y [x] = 0 := place_zero.2 (by simp [h])
    rw [this]
    split
    · rename_i h0; rw [h0]; rfl
    · rfl
  · rfl
end
/-- What is remembered behind the first k. -/
def stl (L : List Four) : Nat → St
  | 0 => St.none
  | k + 1 => match L[k]? with
    | some x => sld (stl L k) x
    | none => stl L k
theorem stl_succ {L : List Four} {k : Nat} {x : Four} (h : L[k]? = some x) : stl L (k + 1) = sld (stl L k) x := by rw [stl, h]
theorem sld_len (S : St) (x : Four) : (sld S x).ss.length ≤ S.ss.length + 1 := by
  unfold sld
  split
  · exact put_len
  · omega
theorem stl_len (L : List Four) : ∀ k, (stl L k).ss.length ≤ k
  | 0 => Nat.le_refl _
  | k + 1 => by
    rw [stl]
    have := stl_len L k
    split
    · have := sld_len (stl L k) ‹Four›; omega
    · omega
/-- Was just this sealed among the first k? -/
def hit (S : St) (x : Four) (e n : Int) (h b : List Int) : Bool := may x && (x.1 == e) && (x.2.1 == n) && decide (x.2.2.1 = h) && decide (sl S x = b)
def sb (L : List Four) (e n : Int) (h b : List Int) : Nat → Bool
  | 0 => false
  | k + 1 => match L[k]? with
    | some x => sb L e n h b k || hit (stl L k) x e n h b
    | none => sb L e n h b k
theorem sb_succ {L : List Four} {e n : Int} {h b : List Int} {k : Nat} {x : Four} (hx : L[k]? = some x) : sb L e n h b (k + 1) = (sb L e n h b k || hit (stl L k) x e n h b) := by rw [sb, hx]
theorem opn_sld (S : St) (x : Four) (e n : Int) (h b : List Int) : (opn (sld S x) e n h b).isSome = ((opn S e n h b).isSome || hit S x e n h b) := by
  cases hm : may x with
  | false =>
    have h1 : sld S x = S := by unfold sld; rw [hm]; rfl
    have h2 : hit S x e n h b = false := by unfold hit; rw [hm]; rfl
    rw [h1, h2, Bool.or_false]
  | true =>
    have h1 : (sld S x).ss = put x S.ss := by unfold sld; rw [hm]; rfl
    have h2 : sl S x = x.2.2.2 ++ tg 0 (num x S.ss) := by unfold sl; rw [hm]; rfl
    by_cases hb : b.length < 32
    · have h3 : ∀ S', opn S' e n h b = none := fun S' => by unfold opn; rw [if_pos hb]
      have h4 : hit S x e n h b = false := by
        unfold hit
        rw [h2, decide_eq_false (p := x.2.2.2 ++ tg 0 (num x S.ss) = b) (fun q => by rw [← q, List.length_append, tg_len] at hb; omega), Bool.and_false]
      rw [h3, h3, h4]
      rfl
    · have ho : ∀ S', (opn S' e n h b).isSome = decide (place (e, n, h, b.take (b.length - 32)) S'.ss ≠ 0 ∧ b.drop (b.length - 32) = tg 0 (place (e, n, h, b.take (b.length - 32)) S'.ss)) := fun S' => by
        unfold opn
        rw [if_neg hb]
        split <;> simp_all
      rw [ho, ho, h1]
      by_cases hy : (e, n, h, b.take (b.length - 32)) = x
      · rw [hy, num_place]
        have h5 : hit S x e n h b = decide (b.drop (b.length - 32) = tg 0 (num x S.ss)) := by
          unfold hit
          rw [h2, hm, ← hy]
          simp only [beq_self_eq_true, Bool.and_self, decide_true, Bool.true_and]
          have h6 : (b.take (b.length - 32) ++ tg 0 (num (e, n, h, b.take (b.length - 32)) S.ss) = b) ↔ (b.drop (b.length - 32) = tg 0 (num (e, n, h, b.take (b.length - 32)) S.ss)) := by
            constructor
            · intro q
              have q2 := congrArg (List.drop (b.length - 32)) q
              rw [List.drop_append_of_le_length (by simp), List.drop_of_length_le (by simp), List.nil_append] at q2
              exact q2.symm
            · intro q
              rw [← q, List.take_append_drop]
          by_cases q : b.drop (b.length - 32) = tg 0 (num (e, n, h, b.take (b.length - 32)) S.ss)
          · rw [decide_eq_true q, decide_eq_true (h6.2 q)]
          · rw [decide_eq_false q, decide_eq_false (fun z => q (h6.1 z))]
        rw [h5]
        have hp : num x S.ss ≠ 0 := by have := num_pos (x := x) (l := S.ss); omega
        by_cases hz : place x S.ss = 0
        · simp [hz, hp]
        · rw [num_same hz] at hp ⊢
          simp [hp]
      · rw [place_put_ne hy]
        have h5 : hit S x e n h b = false := by
          unfold hit
          rw [h2, hm]
          by_cases q1 : x.1 = e
          · by_cases q2 : x.2.1 = n
            · by_cases q3 : x.2.2.1 = h
              · have q4 : ¬ (x.2.2.2 ++ tg 0 (num x S.ss) = b) := fun q => hy (by
                  have q5 : b.take (b.length - 32) = x.2.2.2 := by
                    rw [← q, List.length_append, tg_len, Nat.add_sub_cancel, List.take_left']
                    rfl
                  rw [q5, ← q1, ← q2, ← q3])
                rw [decide_eq_false q4, Bool.and_false]
              · simp [q3]
            · simp [q2]
          · simp [q1]
        rw [h5, Bool.or_false]
theorem forged (L : List Four) (e n : Int) (h b : List Int) : ∀ k, (opn (stl L k) e n h b).isSome = sb L e n h b k
  | 0 => by
    have h0 : ∀ y, place y (stl L 0).ss = 0 := fun y => rfl
    unfold opn sb
    split
    · rfl
    · rw [h0]
      rw [if_neg (fun q => q.1 rfl)]
      rfl
  | k + 1 => by
    rw [stl, sb]
    cases L[k]? with
    | none => exact forged L e n h b k
    | some x =>
      dsimp only
      rw [opn_sld, forged L e n h b k]
attribute [irreducible] sb stl hit
end Nm
end Go.Proofs.Ytdmnlooghamngaa

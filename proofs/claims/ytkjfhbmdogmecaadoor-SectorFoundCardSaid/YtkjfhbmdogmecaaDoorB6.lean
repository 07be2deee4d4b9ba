/-
  TurA, TurB, TurC, TurD (merged)
-/
import Derived.Test.YtkjfhbmdogmecaaDoorB1
import Derived.Test.YtkjfhbmdogmecaaDoorA4
import Derived.OwnWalk
import Derived.BigRegion
import Derived.StillTailTactics
namespace Go.Proofs.YtkjfhbmdogmecaaDoor

/-! TurA: Contracts of the reference's bytes: Twice, Times, inverse, S. -/
section
open Go.RowKit
namespace Aes
theorem tb_cases : ∀ x, x < 256 → (if 128 ≤ x then (x * 2 % 256) ^^^ 27 else x * 2 % 256) = tb x := by decide +kernel
/-- The product of two bytes, as the reference goes: f rounds still to go, k gone. -/
def tmF (a : Nat) : Nat → Nat → Nat → Nat → Nat
  | 0, _, p, _ => p
  | f + 1, k, p, b => tmF a f (k + 1) (if a / 2 ^ k % 2 = 1 then p ^^^ b else p) (tb b)
def tm (a b : Nat) : Nat := tmF a 8 0 0 b
def invF (b : Nat) : Nat → Nat → Nat
  | 0, _ => 0
  | f + 1, x => if tm x b = 1 then x else invF b f (x + 1)
def inv (b : Nat) : Nat := invF b 255 1
theorem tm_two : ∀ x, x < 256 → tm 2 x = tb x := by decide +kernel
theorem tm_three : ∀ x, x < 256 → tm 3 x = tb x ^^^ x := by decide +kernel
attribute [irreducible] tmF tm invF inv
end Aes
theorem tmod_nat (a k : Nat) : ((a : Int) / 2 ^ k).tmod 2 = ((a / 2 ^ k % 2 : Nat) : Int) := by
  have e : (a : Int) / 2 ^ k = ((a / 2 ^ k : Nat) : Int) := by push_cast; rfl
  rw [e, Int.tmod_eq_emod_of_nonneg (Int.natCast_nonneg _)]
  omega
theorem tmod_hit (a k : Nat) (h : a / 2 ^ k % 2 = 1) : (((a : Int) / 2 ^ k).tmod 2 == 1) = true := by rw [tmod_nat, h]; rfl
theorem tmod_miss (a k : Nat) (h : ¬ a / 2 ^ k % 2 = 1) : (((a : Int) / 2 ^ k).tmod 2 == 1) = false := by
  rw [tmod_nat, show a / 2 ^ k % 2 = 0 by omega]; rfl
end

/-! TurB: The reference's table is the program's. -/
section
namespace Aes
/-- S of the first n bytes. -/
def sfor (n : Nat) : List Int := (List.range n).map fun b => sb (inv b)
theorem TB_sfor : TB = sfor 256 := by decide +kernel
theorem sfor_len (n : Nat) : (sfor n).length = n := by simp [sfor]
theorem sfor_succ (n : Nat) : sfor (n + 1) = sfor n ++ [sb (inv n)] := by simp [sfor, List.range_succ]
attribute [irreducible] sfor
end Aes
end

/-! TurC: Own rows of bytes; the reference's Table. -/
section
open Go.RowKit

theorem U8s_nil : U8s [] = [] := by unfold U8s; rfl
theorem u8_oneX (x : Int) : ∀ u ∈ [Value.int .u8 x], u.oneCell' = true := by
  intro u hu; simp at hu; subst hu; rfl
theorem u8_cell1 (w : World) (x : Int) (e : TypeId) : ∀ j u, [Value.int .u8 x][j]? = some u → (w.alloc (.cells #[.int .u8 x] e)).cell? (Addr.add ⟨w.heap.size, 0, none⟩ j) = some u := by
  intro j u hj
  match j, hj with
  | 0, hj => simp at hj; subst hj; simp [Addr.add]
theorem own_someB {w : World} {B n s : Nat} {v : Value} {e : TypeId} {xs : List Value} (h : w.ownsRow B e s v n xs) (hn : 0 < n) : ∃ g c, v = .slice (some ⟨g, 0, none⟩) n c := by
  rcases h.2 with ⟨_, h0⟩ | ⟨g, cap, cur, rfl, _⟩
  · omega
  · exact ⟨g, cap, rfl⟩
theorem own_keepX {w w' : World} {B n : Nat} {v : Value} {xs : List Value} {e : TypeId} {s : Nat} (h : w.ownsRow B e s v n xs) (hb : Below w.heap.size w w') : w'.ownsRow B e s v n xs := by
  refine ⟨h.1, ?_⟩
  rcases h.2 with h' | ⟨g, cap, cur, hv, q0, q1, q2⟩
  · exact Or.inl h'
  · exact Or.inr ⟨g, cap, cur, hv, q0, (hb.block _ (lt_of_block q1)).trans q1, q2⟩
theorem step_append_u8 {ops : Array Oper} {o : Oper} {a : Act} {K : Act → World → Prop} {Q : Exit → Act → World → Prop} {E : Prop} (w0 : World) (X : Int) 
    (s x : Operand) (base : Nat) (v : Value) (n : Nat) (l : List Int) (hg : o.guard = none) (hop : o.op = Op.call { callee := Callee.builtin Builtin.append, args := #[s, x], argTypes := #[22, 22] })
    (hs : a.eval s = v) (hx : a.eval x = .slice (some ⟨w0.heap.size, 0, none⟩) 1 1) (hown : w0.ownsRow base 5 1 v n (U8s l)) (hn : n ≤ 1000) (hb : base ≤ w0.heap.size)
    (hK : ∀ v' w', w'.ownsRow base 5 1 v' (n + 1) (U8s (l ++ [X])) → ((w0.alloc (.cells #[.int .u8 X] 5)).drew).grownBy w' v.ownBlock → K (a.put o.dst v') w') :
    if Region.wanted o (yielded ops a.tmps) = true then Oper.wp Tryd.prog o a (w0.alloc (.cells #[.int .u8 X] 5)).drew K Q else E := by
  obtain ⟨i0, hi, hz0, hz1, hz2⟩ := info_parts Tryd.info_u8
  refine step_append_own hg s x 22 hop base 5 i0 (.int .u8 0) 1 1 Tryd.underlying22 hi hz0 hz1 hz2 rfl (by decide) v n (U8s l) hs (hown.alloc _).drew ⟨w0.heap.size, 0, none⟩ 1 1 [.int .u8 X] hx rfl ?_ (u8_oneX X) (by unfold maxLen; omega) (by omega) (by show _ ≤ (w0.alloc _).heap.size; simp; omega) ?_
  · intro j u hj
    match j, hj with
    | 0, hj => simp at hj; subst hj; exact u8_cell1 w0 X 5 0 _ rfl
  · intro v' w' h1 h2
    rw [U8s_snoc] at h1
    exact hK v' w' h1 h2
theorem below_own'B {B : Nat} {w wr w1 : World} {v : Value} {n : Nat} {xs : List Value} {o : Obj} {e : TypeId} (hB : Below B w wr) (hs : B ≤ wr.heap.size) (hown : wr.ownsRow B e 1 v n xs) (hg : ((wr.alloc o).drew).grownBy w1 v.ownBlock) : Below B w w1 :=
  ((hB.alloc hs o).drew).grown hg (by show _ ≤ (wr.alloc o).heap.size; simp; omega) (fun j hj => (hown.lt j hj).1)


/-- A row of words, four bytes each, as the reference keeps them. -/
def Wrd (w : World) (wb n : Nat) (R : List Int) : Prop :=
  ∀ i, i < n → ∃ b c, w.cell? ⟨wb, i, none⟩ = some (.slice (some ⟨b, 0, none⟩) 4 c) ∧ ∀ j, j < 4 → w.cell? ⟨b, j, none⟩ = some (.int .u8 (R.getD (4 * i + j) 0))
/-- A round key laid over a state. -/
def ovl (R S : List Int) (r : Nat) : Nat → List Int
  | 0 => []
  | k + 1 => ovl R S r k ++ [bits .xor .u8 (S.getD k 0) (R.getD (16 * r + k) 0)]
end

/-! TurD: The reference's mixed. -/
section
open Go.RowKit

namespace Aes
/-- The columns mixed: k of them. -/
def mxr (r : Nat → Nat) : Nat → List Int
  | 0 => []
  | k + 1 => mxr r k ++ [((mb (r (4 * k)) (r (4 * k + 1)) (r (4 * k + 2)) (r (4 * k + 3)) : Nat) : Int), ((mb (r (4 * k + 1)) (r (4 * k + 2)) (r (4 * k + 3)) (r (4 * k)) : Nat) : Int), ((mb (r (4 * k + 2)) (r (4 * k + 3)) (r (4 * k)) (r (4 * k + 1)) : Nat) : Int), ((mb (r (4 * k + 3)) (r (4 * k)) (r (4 * k + 1)) (r (4 * k + 2)) : Nat) : Int)]
theorem x4 (a b c d : Nat) (ha : a < 256) (hb : b < 256) (hc : c < 256) (hd : d < 256) : bits .xor .u8 (bits .xor .u8 (bits .xor .u8 (a : Int) b) c) d = ((a ^^^ b ^^^ c ^^^ d : Nat) : Int) := by
  rw [xor_u8 a b ha hb, xor_u8 _ c (x8 ha hb) hc, xor_u8 _ d (x8 (x8 ha hb) hc) hd]
theorem mb_row (a b c d : Nat) (ha : a < 256) (hb : b < 256) (hc : c < 256) (hd : d < 256) :
    [bits .xor .u8 (bits .xor .u8 (bits .xor .u8 (tb a : Nat) ((tb b ^^^ b : Nat) : Int)) c) d, bits .xor .u8 (bits .xor .u8 (bits .xor .u8 (a : Int) (tb b : Nat)) ((tb c ^^^ c : Nat) : Int)) d,
      bits .xor .u8 (bits .xor .u8 (bits .xor .u8 (a : Int) b) (tb c : Nat)) ((tb d ^^^ d : Nat) : Int), bits .xor .u8 (bits .xor .u8 (bits .xor .u8 ((tb a ^^^ a : Nat) : Int) b) c) (tb d : Nat)]
    = [((mb a b c d : Nat) : Int), ((mb b c d a : Nat) : Int), ((mb c d a b : Nat) : Int), ((mb d a b c : Nat) : Int)] := by
  have t := fun x (hx : x < 256) => tb_lt x hx
  rw [x4 _ _ c d (t a ha) (x8 (t b hb) hb) hc hd, x4 a _ _ d ha (t b hb) (x8 (t c hc) hc) hd, x4 a b _ _ ha hb (t c hc) (x8 (t d hd) hd), x4 _ b c _ (x8 (t a ha) ha) hb hc (t d hd)]
  unfold mb
  have e1 : a ^^^ tb b ^^^ (tb c ^^^ c) ^^^ d = tb b ^^^ (tb c ^^^ c) ^^^ d ^^^ a := by ac_rfl
  have e2 : a ^^^ b ^^^ tb c ^^^ (tb d ^^^ d) = tb c ^^^ (tb d ^^^ d) ^^^ a ^^^ b := by ac_rfl
  have e3 : (tb a ^^^ a) ^^^ b ^^^ c ^^^ tb d = tb d ^^^ (tb a ^^^ a) ^^^ b ^^^ c := by ac_rfl
  rw [e1, e2, e3]
end Aes
theorem U8s_four (l : List Int) (a b c d : Int) : U8s l ++ [.int .u8 a, .int .u8 b, .int .u8 c, .int .u8 d] = U8s (l ++ [a, b, c, d]) := by unfold U8s; simp
/-- append of four bytes laid just before. -/
theorem append_b4 {ops : Array Oper} {rest : List Oper} {a : Act} {w0 : World} {Q : Exit → Act → World → Prop} {D : Option Tmp} {T : TypeId} {ps : String} {af : Array Edge} (s x : Operand) (y0 y1 y2 y3 : Int) (base : Nat) (v : Value) (n : Nat) (l : List Int) (hs : a.eval s = v)
    (hx : a.eval x = .slice (some ⟨w0.heap.size, 0, none⟩) 4 4) (hown : w0.ownsRow base 5 1 v n (U8s l)) (hn : n ≤ 1000) (hb : base ≤ w0.heap.size)
    (h : ∀ v' w', w'.ownsRow base 5 1 v' (n + 4) (U8s (l ++ [y0, y1, y2, y3])) → (w0.alloc (.cells #[.int .u8 y0, .int .u8 y1, .int .u8 y2, .int .u8 y3] 5)).grownBy w' v.ownBlock → wpList Tryd.prog ops Q rest (a.put D v') w') :
    wpList Tryd.prog ops Q ({ dst := D, op := .call { callee := .builtin .append, args := #[s, x], argTypes := #[22, 22] }, type := T, pos := ps, after := af, guard := none } :: rest) a (w0.alloc (.cells #[.int .u8 y0, .int .u8 y1, .int .u8 y2, .int .u8 y3] 5)) := by
  obtain ⟨i0, hi, hz0, hz1, hz2⟩ := info_parts Tryd.info_u8
  refine wpList_append_own _ rfl s x 22 rfl base 5 i0 (.int .u8 0) 1 1 Tryd.underlying22 hi hz0 hz1 hz2 rfl (by decide) v n (U8s l) hs (hown.alloc _) ⟨w0.heap.size, 0, none⟩ 4 4 [.int .u8 y0, .int .u8 y1, .int .u8 y2, .int .u8 y3] hx rfl ?_ ?_ (by unfold maxLen; omega) (by omega) (by simp; omega) ?_
  · intro j u hj
    rw [Addr.add_mid, Nat.zero_add, cell_of_row (w0.alloc (.cells #[.int .u8 y0, .int .u8 y1, .int .u8 y2, .int .u8 y3] 5)) w0.heap.size j _ _ _ (heap_alloc_new w0 _)]
    simpa using hj
  · intro u hu
    simp at hu
    rcases hu with rfl | rfl | rfl | rfl <;> rfl
  · intro v' w' h1 h2 _
    rw [U8s_four] at h1
    exact h v' w' h1 h2
end

end Go.Proofs.YtkjfhbmdogmecaaDoor

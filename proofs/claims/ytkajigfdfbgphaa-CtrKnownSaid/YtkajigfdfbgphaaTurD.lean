/-
  The reference's mixed.
-/
import Derived.Test.YtkajigfdfbgphaaTurC
namespace Go.Proofs.Ytkajigfdfbgphaa
open Go.RowKit

namespace Aes
/-- The columns mixed: k of them. -/
def mxr (r : Nat → Nat) : Nat → List Int
  | 0 => []
  | k + 1 => mxr r k ++ [((mb (r (4 * k)) (r (4 * k + 1)) (r (4 * k + 2)) (r (4 * k + 3)) : Nat) : Int), ((mb (r (4 * k + 1)) (r (4 * k + 2)) (r (4 * k + 3)) (r (4 * k)) : Nat) : Int), ((mb (r (4 * k + 2)) (r (4 * k + 3)) (r (4 * k)) (r (4 * k + 1)) : Nat) : Int), ((mb (r (4 * k + 3)) (r (4 * k)) (r (4 * k + 1)) (r (4 * k + 2)) : Nat) : Int)]
theorem x4 (a b c d : Nat) (ha : a < 256) (hb : b < 256) (hc : c < 256) (hd : d < 256) : bits .xor .u8 (bits .xor .u8 (bits .xor .u8 (a : Int) b) c) d = ((a ^^^ b ^^^ c ^^^ d : Nat) : Int) := by
  rw [xor_u8 a b ha hb, xor_u8 _ c (x8 ha hb) hc, xor_u8 _ d (x8 (x8 ha hb) hc) hd]
theorem mb_row (a b c d : Nat) (ha : a < 256) (hb : b < 256) (hc : c < 256) (hd : d < 256) :
    [bits .xor .u8 (bits .xor .u8 (bits .xor .u8 (tb a : Nat) ((tb b ^^^ b : Nat) : Int)) c) d, bits .xor .u8 (bits .xor .u8 (bits .xor .u8 (a : Int) (tb b : Nat)) ((tb c ^^^ c : Nat) : Int)) d,
      bits .xor .u8 (bits .xor .u8 (bits .xor .u8 (a : Int) b) (tb c : Nat)) ((tb d ^^^ d : Nat) : Int), bits .xor .u8 (bits .xor .u8 (bits .xor .u8 ((tb a ^^^ a : Nat) : Int) b) c) (tb d : Nat)]
    = [((mb a b c d : Nat) : Int), ((mb b c d a : Nat) : Int), ((mb c d a b : Nat) : Int), ((mb d a b c : Nat) : Int)] := by
  have t := fun x (hx : x < 256) => tb_lt x hx
  rw [x4 _ _ c d (t a ha) (x8 (t b hb) hb) hc hd, x4 a _ _ d ha (t b hb) (x8 (t c hc) hc) hd, x4 a b _ _ ha hb (t c hc) (x8 (t d hd) hd), x4 _ b c _ (x8 (t a ha) ha) hb hc (t d hd)]
  unfold mb
  have e1 : a ^^^ tb b ^^^ (tb c ^^^ c) ^^^ d = tb b ^^^ (tb c ^^^ c) ^^^ d ^^^ a := by ac_rfl
  have e2 : a ^^^ b ^^^ tb c ^^^ (tb d ^^^ d) = tb c ^^^ (tb d ^^^ d) ^^^ a ^^^ b := by ac_rfl
  have e3 : (tb a ^^^ a) ^^^ b ^^^ c ^^^ tb d = tb d ^^^ (tb a ^^^ a) ^^^ b ^^^ c := by ac_rfl
  rw [e1, e2, e3]
end Aes
theorem times2_ref (x : Nat) (hx : x < 256) (w : World) :
    Calls Try.prog 49 #[.int .u8 2, .int .u8 x] w fun e w' => e = .returned (.int .u8 (Aes.tb x)) ∧ w' = w := by
  have h := times_ref 2 x hx w
  rw [Aes.tm_two x hx] at h
  exact h
theorem times3_ref (x : Nat) (hx : x < 256) (w : World) :
    Calls Try.prog 49 #[.int .u8 3, .int .u8 x] w fun e w' => e = .returned (.int .u8 ((Aes.tb x ^^^ x : Nat) : Int)) ∧ w' = w := by
  have h := times_ref 3 x hx w
  rw [Aes.tm_three x hx] at h
  exact h

theorem U8s_four (l : List Int) (a b c d : Int) : U8s l ++ [.int .u8 a, .int .u8 b, .int .u8 c, .int .u8 d] = U8s (l ++ [a, b, c, d]) := by unfold U8s; simp
/-- append of four bytes laid just before. -/
theorem append_b4 {ops : Array Oper} {rest : List Oper} {a : Act} {w0 : World} {Q : Exit → Act → World → Prop} {D : Option Tmp} {T : TypeId} {ps : String} {af : Array Edge} (s x : Operand) (y0 y1 y2 y3 : Int) (base : Nat) (v : Value) (n : Nat) (l : List Int) (hs : a.eval s = v)
    (hx : a.eval x = .slice (some ⟨w0.heap.size, 0, none⟩) 4 4) (hown : w0.ownsRow base 5 1 v n (U8s l)) (hn : n ≤ 1000) (hb : base ≤ w0.heap.size)
    (h : ∀ v' w', w'.ownsRow base 5 1 v' (n + 4) (U8s (l ++ [y0, y1, y2, y3])) → (w0.alloc (.cells #[.int .u8 y0, .int .u8 y1, .int .u8 y2, .int .u8 y3] 5)).grownBy w' v.ownBlock → wpList Try.prog ops Q rest (a.put D v') w') :
    wpList Try.prog ops Q ({ dst := D, op := .call { callee := .builtin .append, args := #[s, x], argTypes := #[22, 22] }, type := T, pos := ps, after := af, guard := none } :: rest) a (w0.alloc (.cells #[.int .u8 y0, .int .u8 y1, .int .u8 y2, .int .u8 y3] 5)) := by
  obtain ⟨i0, hi, hz0, hz1, hz2⟩ := info_parts Try.info_u8
  refine wpList_append_own _ rfl s x 22 rfl base 5 i0 (.int .u8 0) 1 1 Try.underlying22 hi hz0 hz1 hz2 rfl (by decide) v n (U8s l) hs (hown.alloc _) ⟨w0.heap.size, 0, none⟩ 4 4 [.int .u8 y0, .int .u8 y1, .int .u8 y2, .int .u8 y3] hx rfl ?_ ?_ (by unfold maxLen; omega) (by omega) (by simp; omega) ?_
  · intro j u hj
    rw [Addr.add_mid, Nat.zero_add, cell_of_row (w0.alloc (.cells #[.int .u8 y0, .int .u8 y1, .int .u8 y2, .int .u8 y3] 5)) w0.heap.size j _ _ _ (heap_alloc_new w0 _)]
    simpa using hj
  · intro u hu
    simp at hu
    rcases hu with rfl | rfl | rfl | rfl <;> rfl
  · intro v' w' h1 h2 _
    rw [U8s_four] at h1
    exact h v' w' h1 h2

set_option maxHeartbeats 1000000 in
set_option maxRecDepth 100000 in
theorem mixed_ref (r : Nat → Nat) (hr : ∀ j, j < 16 → r j < 256) (sb sc : Nat) (w : World) (hS : ∀ j, j < 16 → w.cell? ⟨sb, j, none⟩ = some (.int .u8 (r j : Nat))) :
    Calls Try.prog 35 #[.slice (some ⟨sb, 0, none⟩) 16 sc] w fun e w' => ∃ g c, e = .returned (.slice (some ⟨g, 0, none⟩) 16 c) ∧ w'.ownsRow w.heap.size 5 1 (.slice (some ⟨g, 0, none⟩) 16 c) 16 (U8s (Aes.mxr r 4)) ∧ Below w.heap.size w w' := by
  obtain ⟨i0, hi, hz0, hz1, hz2⟩ := info_parts Try.info_u8
  have HS := Lib.hid hS; clear hS
  have HR := Lib.hid hr; clear hr
  go_enter Try.func35, Try.ntmps35
  go_wp2
  go_loopw [3, 4] (fun v i wr => ∃ k : Nat, k ≤ 4 ∧ i = .int .i64 k ∧ Hid (wr.ownsRow w.heap.size 5 1 v (4 * k) (U8s (Aes.mxr r k))) ∧ Hid (Below w.heap.size w wr)) (fun _ i _ => 4 - (intOf i).toNat)
  case atStart => exact ⟨0, Nat.zero_le _, rfl, by unfold U8s Aes.mxr; exact World.ownsRow_nil _ _ _ _, Below.refl _ _⟩
  case round =>
    obtain ⟨k, hk, rfl, HO, HB⟩ := hrel
    by_cases hlt : k < 4
    · have HF : Hid (∀ x, Below w.heap.size w x → x.cell? ⟨sb, 4 * k, none⟩ = some (.int .u8 (r (4 * k) : Nat)) ∧ x.cell? ⟨sb, 4 * k + 1, none⟩ = some (.int .u8 (r (4 * k + 1) : Nat)) ∧ x.cell? ⟨sb, 4 * k + 2, none⟩ = some (.int .u8 (r (4 * k + 2) : Nat)) ∧ x.cell? ⟨sb, 4 * k + 3, none⟩ = some (.int .u8 (r (4 * k + 3) : Nat))) := fun x hx => by
        have f : ∀ j, j < 16 → x.cell? ⟨sb, j, none⟩ = some (.int .u8 (r j : Nat)) := fun j hj => by
          have e := HS.out j hj
          exact (hx.cell (World.block_lt_of_cell? w _ e)).trans e
        exact ⟨f _ (by omega), f _ (by omega), f _ (by omega), f _ (by omega)⟩
      obtain ⟨c0, c1, c2, c3⟩ := HF.out _ HB.out
      have p0 := HR.out (4 * k) (by omega)
      have p1 := HR.out (4 * k + 1) (by omega)
      have p2 := HR.out (4 * k + 2) (by omega)
      have p3 := HR.out (4 * k + 3) (by omega)
      have HX : Hid (Aes.mxr r (k + 1) = Aes.mxr r k ++ [((Aes.mb (r (4 * k)) (r (4 * k + 1)) (r (4 * k + 2)) (r (4 * k + 3)) : Nat) : Int), ((Aes.mb (r (4 * k + 1)) (r (4 * k + 2)) (r (4 * k + 3)) (r (4 * k)) : Nat) : Int), ((Aes.mb (r (4 * k + 2)) (r (4 * k + 3)) (r (4 * k)) (r (4 * k + 1)) : Nat) : Int), ((Aes.mb (r (4 * k + 3)) (r (4 * k)) (r (4 * k + 1)) (r (4 * k + 2)) : Nat) : Int)]) := by show _ = _; rw [Aes.mxr]
      generalize r (4 * k) = x0 at *
      generalize r (4 * k + 1) = x1 at *
      generalize r (4 * k + 2) = x2 at *
      generalize r (4 * k + 3) = x3 at *
      have hw0 : IntKind.i64.wrap (4 * (k : Int)) = 4 * (k : Int) := IntWalk.i64_in _ ⟨by omega, by omega⟩
      have hw1 : IntKind.i64.wrap (4 * (k : Int) + 1) = 4 * (k : Int) + 1 := IntWalk.i64_in _ ⟨by omega, by omega⟩
      have hw2 : IntKind.i64.wrap (4 * (k : Int) + 2) = 4 * (k : Int) + 2 := IntWalk.i64_in _ ⟨by omega, by omega⟩
      have hw3 : IntKind.i64.wrap (4 * (k : Int) + 3) = 4 * (k : Int) + 3 := IntWalk.i64_in _ ⟨by omega, by omega⟩
      have ht0 : (4 * (k : Int)).toNat = 4 * k := by omega
      have ht1 : (4 * (k : Int) + 1).toNat = 4 * k + 1 := by omega
      have ht2 : (4 * (k : Int) + 2).toNat = 4 * k + 2 := by omega
      have ht3 : (4 * (k : Int) + 3).toNat = 4 * k + 3 := by omega
      have hn0 : 0 ≤ 4 * (k : Int) := by omega
      have hn1 : 0 ≤ 4 * (k : Int) + 1 := by omega
      have hn2 : 0 ≤ 4 * (k : Int) + 2 := by omega
      have hn3 : 0 ≤ 4 * (k : Int) + 3 := by omega
      have hm0 : 4 * (k : Int) < 16 := by omega
      have hm1 : 4 * (k : Int) + 1 < 16 := by omega
      have hm2 : 4 * (k : Int) + 2 < 16 := by omega
      have hm3 : 4 * (k : Int) + 3 < 16 := by omega
      go_wp2
      have d0 : wr.drew.cell? ⟨sb, 4 * k, none⟩ = some (.int .u8 (x0 : Nat)) := c0
      have d1 : wr.drew.cell? ⟨sb, 4 * k + 1, none⟩ = some (.int .u8 (x1 : Nat)) := c1
      have d2 : wr.drew.cell? ⟨sb, 4 * k + 2, none⟩ = some (.int .u8 (x2 : Nat)) := c2
      have d3 : wr.drew.cell? ⟨sb, 4 * k + 3, none⟩ = some (.int .u8 (x3 : Nat)) := c3
      go_still (by kernel_rfl)
      change Exit.then _ _ _ _ wr.drew
      have HO2 : Hid (wr.drew.ownsRow w.heap.size 5 1 u3 (4 * k) (U8s (Aes.mxr r k))) := HO.out.drew
      have HB2 : Hid (Below w.heap.size w wr.drew) := HB.out.drew
      clear c0 c1 c2 c3 d0 d1 d2 d3 HO HB hw0 hw1 hw2 hw3 ht0 ht1 ht2 ht3 hn0 hn1 hn2 hn3 hm0 hm1 hm2 hm3
      generalize wr.drew = wA at *
      go_wp2_with (first
        | (go_at_call 49; with_reducible (first | refine (times2_ref _ ?_ _).mono ?_ | refine (times3_ref _ ?_ _).mono ?_); assumption; rintro e w2 ⟨rfl, rfl⟩)
        | ((with_reducible refine append_b4 _ _ _ _ _ _ w.heap.size u3 (4 * k) (Aes.mxr r k) ?_ ?_ HO2.out ?_ ?_ ?_); (exact rfl); (exact rfl); omega; (exact HB2.out.size); intro v' w5 hown hgrow; have HB5 : Hid (Below w.heap.size w w5) := (HB2.out.alloc HB2.out.size _).grown hgrow (by have := HB2.out.size; simp; omega) (fun j hj => (HO2.out.lt j hj).1); clear hgrow)
        | go_in)
      rw [Aes.mb_row x0 x1 x2 x3 p0 p1 p2 p3, ← HX.out] at hown
      exact ⟨⟨k + 1, by omega, by go_num, hown, HB5⟩, by simp [intOf]; omega⟩
    · have E : k = 4 := by omega
      subst E
      obtain ⟨g, c, hv⟩ := own_some HO.out (by decide)
      subst hv
      have h16 : (4 : Int) ≤ ((4 : Nat) : Int) := by decide
      go_wp2
      go_ret
      exact ⟨g, c, rfl, HO.out, HB.out⟩
end Go.Proofs.Ytkajigfdfbgphaa

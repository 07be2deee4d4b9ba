/-
  Package geo walked: within, room, need, lean, Check.
-/
import Derived.Test.YtohphehbfbobnaaGeA
namespace Go.Proofs.Ytohphehbfbobnaa
open Go.RowKit

def GBox (a b c : Int) : Obj := .cells #[.int .i64 a, .int .i64 b, .int .i64 c] 23
/-- An answer that leaves all that was there. -/
def Num (v : Int) (w : World) (e : Ending) (w' : World) : Prop := e = .returned (.int .i64 v) ∧ Below w.heap.size w w'
set_option maxHeartbeats 1000000 in
set_option maxRecDepth 100000 in
theorem room_any (a b c : Int) (hw : IntKind.i64.wrap (b - 1) = b - 1) (w : World) : Calls Try.prog 30 #[.agg #[.int .i64 a, .int .i64 b, .int .i64 c]] w (Num (b - 1) w) := by
  have B0 : Hid (Below w.heap.size w (w.alloc (GBox a b c))) := (Below.refl _ w).alloc (Nat.le_refl _) _
  go_enter Try.func30, Try.ntmps30
  go_wp2
  go_ret
  exact ⟨rfl, B0.out⟩
set_option maxHeartbeats 1000000 in
set_option maxRecDepth 100000 in
theorem lean_any (a b c : Int) (hb : 32 ≤ b ∧ b ≤ 64) (w : World) : Calls Try.prog 27 #[.agg #[.int .i64 a, .int .i64 b, .int .i64 c]] w (Num (Ge.ln b) w) := by
  have B0 : Hid (Below w.heap.size w (w.alloc (GBox a b c))) := (Below.refl _ w).alloc (Nat.le_refl _) _
  have hw : IntKind.i64.wrap (b - 1) = b - 1 := IntWalk.i64_in _ ⟨by omega, by omega⟩
  have h2 : IntKind.i64.wrap ((b - 1).tdiv 5) = Ge.ln b := by
    rw [Int.tdiv_eq_ediv_of_nonneg (by omega)]
    exact IntWalk.i64_in _ ⟨by omega, by omega⟩
  go_enter Try.func27, Try.ntmps27
  go_wp2_with (go_at_call 30; refine (room_any a b c hw _).mono ?_; rintro e1 w1 ⟨rfl, hb1⟩)
  go_ret
  exact ⟨rfl, B0.out.trans (hb1.mono B0.out.size)⟩
set_option maxHeartbeats 1000000 in
set_option maxRecDepth 100000 in
theorem need_in (a b c m : Int) (hb : 32 ≤ b ∧ b ≤ 64) (hm : 0 ≤ m ∧ m ≤ 64) (w : World) : Calls Try.prog 26 #[.agg #[.int .i64 a, .int .i64 b, .int .i64 c], .int .i64 m] w (Num (Ge.nd b m) w) := by
  have B0 : Hid (Below w.heap.size w (w.alloc (GBox a b c))) := (Below.refl _ w).alloc (Nat.le_refl _) _
  have hw : IntKind.i64.wrap (b - 1) = b - 1 := IntWalk.i64_in _ ⟨by omega, by omega⟩
  have hw1 : IntKind.i64.wrap (4 * m) = 4 * m := IntWalk.i64_in _ ⟨by omega, by omega⟩
  have hw2 : IntKind.i64.wrap (4 * m + (b - 1)) = 4 * m + (b - 1) := IntWalk.i64_in _ ⟨by omega, by omega⟩
  have hw3 : IntKind.i64.wrap (4 * m + (b - 1) - 1) = 4 * m + (b - 1) - 1 := IntWalk.i64_in _ ⟨by omega, by omega⟩
  have hn0 : ¬ (b - 1 = 0) := by omega
  have h2 : IntKind.i64.wrap ((4 * m + (b - 1) - 1).tdiv (b - 1)) = Ge.nd b m := by
    rw [Int.tdiv_eq_ediv_of_nonneg (by omega)]
    have h := Ge.nd_in b m hb.1 hm.1 hm.2
    unfold Ge.nd at h ⊢
    exact IntWalk.i64_in _ ⟨by omega, by omega⟩
  obtain ⟨w0, hw0⟩ : ∃ x, x = w.alloc (GBox a b c) := ⟨_, rfl⟩
  have R0 : Hid (w0.heap[w.heap.size]? = some (GBox a b c)) := by show _ = _; rw [hw0]; exact heap_alloc_new w _
  rw [← hw0] at B0
  have HS : Hid (∀ y, Below w0.heap.size w0 y → y.cell? ⟨w.heap.size, 0, none⟩ = some (.int .i64 a) ∧ y.cell? ⟨w.heap.size, 1, none⟩ = some (.int .i64 b) ∧ y.cell? ⟨w.heap.size, 2, none⟩ = some (.int .i64 c)) := fun y hy => by
    have h := (hy.block _ (lt_of_block R0.out)).trans R0.out
    exact ⟨by rw [cell_of_row _ _ _ _ _ _ h]; rfl, by rw [cell_of_row _ _ _ _ _ _ h]; rfl, by rw [cell_of_row _ _ _ _ _ _ h]; rfl⟩
  have BB : Hid (Below w0.heap.size w0 w0.drew) := (Below.refl _ w0).drew
  have KR : ∀ y, Below w0.heap.size w0 y → Calls Try.prog 30 #[.agg #[.int .i64 a, .int .i64 b, .int .i64 c]] y fun e w' => e = .returned (.int .i64 (b - 1)) ∧ Hid (Below w0.heap.size w0 w') := fun y hy => by
    refine (room_any a b c hw y).mono ?_
    rintro e w' ⟨rfl, hb⟩
    exact ⟨rfl, hy.trans (hb.mono hy.size)⟩
  go_enter Try.func26, Try.ntmps26
  go_upto_region 1 with (fail)
  unfold GBox at hw0
  rw [← hw0]
  clear hw0 R0
  go_region_held3 (fun y => y.cell? ⟨w.heap.size, 0, none⟩ = some (.int .i64 a) ∧ y.cell? ⟨w.heap.size, 1, none⟩ = some (.int .i64 b) ∧ y.cell? ⟨w.heap.size, 2, none⟩ = some (.int .i64 c))
    (exact HS.out _ (Hid.out (by assumption)))
    ((go_at_call 30; refine (KR _ (Hid.out (by assumption))).mono ?_; rintro e1 w1 ⟨rfl, hb1⟩; clear BB; have BB := hb1; clear hb1))
  go_wp2
  go_ret
  exact ⟨rfl, B0.out.trans (BB.out.mono B0.out.size)⟩
/-- Numbers with their places, in plain lists and in a block. -/
abbrev Sp3 := Int × Int × Int
def flat3 : List Sp3 → List Value
  | [] => []
  | x :: l => .int .i64 x.1 :: .int .i64 x.2.1 :: .int .i64 x.2.2 :: flat3 l
def inn (x : Sp3) : Bool := !(decide (x.1 < x.2.1) || decide (x.1 > x.2.2))
theorem flat3_at : ∀ (l : List Sp3) (k : Nat) (x : Sp3), l[k]? = some x → (flat3 l)[k * 3]? = some (.int .i64 x.1) ∧ (flat3 l)[k * 3 + 1]? = some (.int .i64 x.2.1) ∧ (flat3 l)[k * 3 + 2]? = some (.int .i64 x.2.2)
  | [], k, x, h => by simp at h
  | y :: l, 0, x, h => by simp at h; subst h; exact ⟨rfl, rfl, rfl⟩
  | y :: l, k + 1, x, h => by
    have q := flat3_at l k x (by simpa using h)
    have e : (k + 1) * 3 = k * 3 + 1 + 1 + 1 := by omega
    rw [e]
    exact q
def SBox (L : List Sp3) : Obj := .cells (flat3 L).toArray 42
theorem all_take (L : List Sp3) (k : Nat) (x : Sp3) (hx : L[k]? = some x) (h : (L.take k).all inn = true) (hi : inn x = true) : (L.take (k + 1)).all inn = true := by
  rw [List.take_add_one, hx, List.all_append, h]
  simp [hi]
theorem all_not (L : List Sp3) (k : Nat) (x : Sp3) (hx : L[k]? = some x) (hi : inn x = false) : L.all inn = false := by
  rw [List.all_eq_false]
  exact ⟨x, List.mem_of_getElem? hx, by simp [hi]⟩
set_option maxHeartbeats 2000000 in
set_option maxRecDepth 100000 in
theorem within_any (L : List Sp3) (n : Nat) (hn : L.length = n) (hl : n ≤ 1000) (g : Nat) (w : World) (hg : w.heap[g]? = some (SBox L)) : Calls Try.prog 25 #[.slice (some ⟨g, 0, none⟩) n n] w fun e w' => e = .returned (.bool (L.all inn)) ∧ Below w.heap.size w w' := by
  have HC : Hid (∀ y, Below w.heap.size w y → ∀ k x, L[k]? = some x → y.cell? ⟨g, k * 3, none⟩ = some (.int .i64 x.1) ∧ y.cell? ⟨g, k * 3 + 1, none⟩ = some (.int .i64 x.2.1) ∧ y.cell? ⟨g, k * 3 + 2, none⟩ = some (.int .i64 x.2.2)) := fun y hy k x hx => by
    have h := (hy.block _ (lt_of_block hg)).trans hg
    have q := flat3_at L k x hx
    unfold SBox at h
    exact ⟨by rw [cell_of_row _ _ _ _ _ _ h]; simpa using q.1, by rw [cell_of_row _ _ _ _ _ _ h]; simpa using q.2.1, by rw [cell_of_row _ _ _ _ _ _ h]; simpa using q.2.2⟩
  clear hg
  go_enter Try.func25, Try.ntmps25
  go_upto_region 2 with (fail)
  go_loopw [4, 7] (fun v4 v7 wr => ∃ k : Nat, k ≤ n ∧ v7 = .int .i64 k ∧ Hid ((L.take k).all inn = true) ∧ Hid (Below w.heap.size w wr)) (fun _ v7 _ => n - (intOf v7).toNat)
  case atStart => exact ⟨0, by omega, rfl, by show _ = _; simp, Lib.hid (Below.refl _ _)⟩
  case round =>
    obtain ⟨k, hk, rfl, HA, HB⟩ := hrel
    by_cases hlt : k < n
    · have hk0 : (0 : Int) ≤ (k : Int) := by omega
      have hk1 : (k : Int) < (n : Int) := by omega
      obtain ⟨x, hx⟩ : ∃ x, L[k]? = some x := ⟨L[k]'(by omega), List.getElem?_eq_getElem (by omega)⟩
      obtain ⟨c0, c1, c2⟩ := HC.out _ HB.out k x hx
      have B1 : Hid (Below w.heap.size w (wr.alloc (.cells #[.int .i64 x.1, .int .i64 x.2.1, .int .i64 x.2.2] 42))) := Lib.hid (HB.out.alloc HB.out.size _)
      by_cases h1 : x.1 < x.2.1
      · have hf : L.all inn = false := all_not L k x hx (by unfold inn; simp [h1])
        go_wp2
        go_ret
        exact ⟨by first | rfl | (rw [hf]; rfl), B1.out⟩
      · by_cases h2 : x.1 > x.2.2
        · have hf : L.all inn = false := all_not L k x hx (by unfold inn; simp [h2])
          go_wp2
          go_ret
          exact ⟨by first | rfl | (rw [hf]; rfl), B1.out⟩
        · have ht := Lib.hid (all_take L k x hx HA.out (by unfold inn; simp; omega))
          go_wp2
          exact ⟨⟨k + 1, by omega, by go_num, ht, B1⟩, by simp [intOf]; omega⟩
    · have hkn : k = n := by omega
      subst hkn
      go_wp2
      go_ret
      have h : L.all inn = true := by have q := HA.out; rw [← hn, List.take_length] at q; exact q
      exact ⟨by rw [h]; rfl, HB.out⟩
end Go.Proofs.Ytohphehbfbobnaa

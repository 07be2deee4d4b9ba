/-
  Contracts: has, fault, Spend, Len, Down, Arm, Writes.
-/
import Derived.Test.YtglfjjmbadffmaaDkB
namespace Go.Proofs.Ytglfjjmbadffmaa
open Go.RowKit

section
variable {T : Nat → Prop} {d lb rb cb : Nat} {m : Dk.M}
set_option maxHeartbeats 1000000 in
set_option maxRecDepth 100000 in
theorem has_any (i : Int) (w : World) (hd : DkAt w T d lb rb cb m) : Calls Try.prog 47 #[.pointer (some ⟨d, 0, none⟩), .int .i64 i] w fun e w' => e = .returned (.bool (Dk.here m i)) ∧ w' = w := by
  obtain ⟨c0, _, _, _, _, _⟩ := hd.cells
  clear hd
  by_cases h0 : 0 ≤ i
  · by_cases h1 : i < (m.n : Int)
    · have e : Dk.here m i = true := by unfold Dk.here; simp [h0, h1]
      go_enter Try.func47, Try.ntmps47
      go_wp2
      go_ret
      exact ⟨by first | rfl | (rw [e]; rfl), rfl⟩
    · have e : Dk.here m i = false := by unfold Dk.here; simp [h1]
      go_enter Try.func47, Try.ntmps47
      go_wp2
      go_ret
      exact ⟨by first | rfl | (rw [e]; rfl), rfl⟩
  · have e : Dk.here m i = false := by unfold Dk.here; simp [h0]
    go_enter Try.func47, Try.ntmps47
    go_wp2
    go_ret
    exact ⟨by first | rfl | (rw [e]; rfl), rfl⟩
set_option maxHeartbeats 1000000 in
set_option maxRecDepth 100000 in
theorem fault_any (i : Int) (L : List Int) (p : Option Addr) (n c : Nat) (hn : L.length = n) (w : World) (hd : DkAt w T d lb rb cb m) :
    Calls Try.prog 39 #[.pointer (some ⟨d, 0, none⟩), .int .i64 i, .slice p n c] w fun e w' => e = .returned (.int .i64 (Dk.fault m i L)) ∧ w' = w := by
  subst hn
  have HD := Lib.hid hd; clear hd
  cases h : Dk.here m i with
  | false =>
    have e : Dk.fault m i L = 7 := by unfold Dk.fault; simp [h]
    go_enter Try.func39, Try.ntmps39
    go_wp2_with (go_at_call 47; refine (has_any i _ HD.out).mono ?_; rw [h]; rintro e1 w1 ⟨rfl, rfl⟩)
    go_ret
    exact ⟨by first | rfl | (rw [e]; rfl), rfl⟩
  | true =>
    by_cases hl : (1024 : Int) < (L.length : Int)
    · have e : Dk.fault m i L = 3 := by unfold Dk.fault; rw [h, if_neg (by decide), if_pos (by omega)]
      go_enter Try.func39, Try.ntmps39
      go_wp2_with (go_at_call 47; refine (has_any i _ HD.out).mono ?_; rw [h]; rintro e1 w1 ⟨rfl, rfl⟩)
      go_ret
      exact ⟨by first | rfl | (rw [e]; rfl), rfl⟩
    · have e : Dk.fault m i L = 0 := by unfold Dk.fault; rw [h, if_neg (by decide), if_neg (by omega)]
      go_enter Try.func39, Try.ntmps39
      go_wp2_with (go_at_call 47; refine (has_any i _ HD.out).mono ?_; rw [h]; rintro e1 w1 ⟨rfl, rfl⟩)
      go_ret
      exact ⟨by first | rfl | (rw [e]; rfl), rfl⟩
/-- What a call says that turns only the disk's own row. -/
def RowSay (T : Nat → Prop) (d lb rb cb : Nat) (v : Value) (m' : Dk.M) (w : World) (e : Ending) (w' : World) : Prop := e = .returned v ∧ Hid (DkAt w' T d lb rb cb m') ∧ Mv [d] w w'
set_option maxHeartbeats 1000000 in
set_option maxRecDepth 100000 in
theorem spend_any (w : World) (hd : DkAt w T d lb rb cb m) : Calls Try.prog 40 #[.pointer (some ⟨d, 0, none⟩)] w (RowSay T d lb rb cb (.int .i64 (Dk.spendE m)) (Dk.spend m) w) := by
  obtain ⟨_, _, _, _, c4, c5⟩ := hd.cells
  have f4 := frozen_of_row w d 4 _ _ hd.row
  have f5 := frozen_of_row w d 5 _ _ hd.row
  have HD := Lib.hid hd; clear hd
  have key : ∀ (j : Nat) (u : Value), (w.setCell ⟨d, j, none⟩ u).heap[d]? = some (.cells ((#[.slice (some ⟨lb, 0, none⟩) m.n m.n, .map (some cb), .slice (some ⟨rb, 0, none⟩) m.n m.n, .int .i64 (m.wr : Int), .int .i64 m.left, .bool m.down] : Array Value).setIfInBounds j u) 54 (0, 0)) := fun j u => heap_setCell_same w d j _ _ u HD.out.row
  have KEY := Lib.hid key; clear key
  have HL := Lib.hid HD.out.ok.left
  cases hdn : m.down with
  | true =>
    have hg : Dk.gone m = true := by unfold Dk.gone; rw [hdn]; rfl
    have es : Dk.spend m = { m with down := true } := by unfold Dk.spend; rw [if_pos hg]
    have ee : Dk.spendE m = 12 := by unfold Dk.spendE; rw [if_pos hg]
    rw [hdn] at c5
    go_enter Try.func40, Try.ntmps40
    go_wp2
    go_ret
    refine ⟨by first | rfl | (rw [ee]; rfl), Lib.hid ?_, (Mv.refl _ _).setCell _ _ (by simp)⟩
    rw [es]
    exact HD.out.row_set ((Mv.refl _ _).setCell _ _ (by simp)) (by rw [KEY.out]; rfl) rfl rfl rfl rfl (Nat.le_refl _) HL.out
  | false =>
    rw [hdn] at c5
    by_cases h0 : m.left = 0
    · have hg : Dk.gone m = true := by unfold Dk.gone; rw [h0]; simp
      have es : Dk.spend m = { m with down := true } := by unfold Dk.spend; rw [if_pos hg]
      have ee : Dk.spendE m = 12 := by unfold Dk.spendE; rw [if_pos hg]
      rw [h0] at c4
      go_enter Try.func40, Try.ntmps40
      go_wp2
      go_ret
      refine ⟨by first | rfl | (rw [ee]; rfl), Lib.hid ?_, (Mv.refl _ _).setCell _ _ (by simp)⟩
      rw [es]
      exact HD.out.row_set ((Mv.refl _ _).setCell _ _ (by simp)) (by rw [KEY.out]; rfl) rfl rfl rfl rfl (Nat.le_refl _) HL.out
    · have hg : Dk.gone m = false := by unfold Dk.gone; rw [hdn]; simp [h0]
      have ee : Dk.spendE m = 0 := by unfold Dk.spendE; rw [hg]; rfl
      have h0' : (m.left == 0) = false := by simpa using h0
      by_cases hp : 0 < m.left
      · have es : Dk.spend m = { m with left := m.left - 1 } := by unfold Dk.spend; rw [hg, if_pos hp]; rfl
        have hw1 : IntKind.i64.wrap (m.left - 1) = m.left - 1 := IntWalk.i64_in _ (by have h := HL.out; unfold In64 at h; constructor <;> omega)
        go_enter Try.func40, Try.ntmps40
        go_wp2
        go_ret
        refine ⟨by first | rfl | (rw [ee]; rfl), Lib.hid ?_, (Mv.refl _ _).setCell _ _ (by simp)⟩
        rw [es]
        exact HD.out.row_set ((Mv.refl _ _).setCell _ _ (by simp)) (by rw [KEY.out]; simp [hdn]) rfl rfl rfl rfl (Nat.le_refl _) (by have h := HL.out; unfold In64 at h ⊢; dsimp only; omega)
      · have es : Dk.spend m = m := by unfold Dk.spend; rw [hg, if_neg hp]; rfl
        go_enter Try.func40, Try.ntmps40
        go_wp2
        go_ret
        exact ⟨by first | rfl | (rw [ee]; rfl), Lib.hid (by first | exact HD.out | (rw [es]; exact HD.out)), Mv.refl _ _⟩
set_option maxRecDepth 100000 in
theorem down_any (w : World) (hd : DkAt w T d lb rb cb m) : Calls Try.prog 24 #[.pointer (some ⟨d, 0, none⟩)] w fun e w' => e = .returned (.bool m.down) ∧ w' = w := by
  obtain ⟨_, _, _, _, _, c5⟩ := hd.cells
  clear hd
  go_enter Try.func24, Try.ntmps24
  go_wp2
  go_ret
  exact ⟨rfl, rfl⟩
set_option maxRecDepth 100000 in
theorem arm_any (n : Int) (hn : In64 n) (w : World) (hd : DkAt w T d lb rb cb m) : Calls Try.prog 25 #[.pointer (some ⟨d, 0, none⟩), .int .i64 n] w (RowSay T d lb rb cb (.tuple #[]) { m with left := n } w) := by
  obtain ⟨_, _, _, _, c4, _⟩ := hd.cells
  have f4 := frozen_of_row w d 4 _ _ hd.row
  have HD := Lib.hid hd; clear hd
  have HN := Lib.hid hn; clear hn
  have KEY := Lib.hid (heap_setCell_same w d 4 _ _ (.int .i64 n) HD.out.row)
  go_enter Try.func25, Try.ntmps25
  go_wp2
  go_end0
  refine ⟨rfl, Lib.hid ?_, (Mv.refl _ _).setCell _ _ (by simp)⟩
  exact HD.out.row_set ((Mv.refl _ _).setCell _ _ (by simp)) (by rw [KEY.out]; simp) rfl rfl rfl rfl (Nat.le_refl _) HN.out
end
end Go.Proofs.Ytglfjjmbadffmaa

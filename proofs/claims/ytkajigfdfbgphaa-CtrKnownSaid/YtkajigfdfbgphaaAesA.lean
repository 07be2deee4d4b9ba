/-
  Contracts: aes.twice, bits.RotateLeft32 (to the left), aes.mix, aes.column.
-/
import Derived.Test.YtkajigfdfbgphaaChecked
import Derived.Lib.Hide
import Derived.WalkSpells
import Derived.WalkLawsBesides
import Derived.Deep.QuietTactic
import Derived.BigQuiet
import Derived.Test.YtkajigfdfbgphaaAesN
import Derived.Test.YtkajigfdfbgphaaShaL
namespace Go.Proofs.Ytkajigfdfbgphaa
open Go.RowKit

theorem row_size {P : Program} {ty : TypeId} {n : Nat} (h : (P.info? ty).map (·.size) = some n) {A : Array Value} (hA : Hid (A.size = n)) : (P.info? ty).map (·.size) = some A.size := by
  rw [hA.out]; exact h
set_option maxHeartbeats 400000 in
theorem twice_any (x : Int) (w : World) :
    Calls Try.prog 55 #[.int .u32 x] w fun e w' => e = .returned (.int .u32 (Aes.tw x)) ∧ w' = w := by
  go_enter Try.func55, Try.ntmps55
  go_wp2
  go_ret
  refine ⟨?_, rfl⟩
  unfold Aes.tw
  rfl

set_option maxHeartbeats 400000 in
theorem rol_any (x n : Int) (h : n = 8 ∨ n = 16 ∨ n = 24) (w : World) :
    Calls Try.prog 45 #[.int .u32 x, .int .i64 n] w fun e w' => e = .returned (.int .u32 (Aes.rl n x)) ∧ w' = w := by
  have h8 : bits .and .u64 8 31 = 8 := by decide +kernel
  have h16 : bits .and .u64 16 31 = 16 := by decide +kernel
  have h24 : bits .and .u64 24 31 = 24 := by decide +kernel
  rcases h with rfl | rfl | rfl
  all_goals
    go_enter Try.func45, Try.ntmps45
    go_wp2
    go_ret
    refine ⟨?_, rfl⟩
    unfold Aes.rl
    rfl

set_option maxHeartbeats 400000 in
theorem mix_any (x : Int) (w : World) :
    Calls Try.prog 48 #[.int .u32 x] w fun e w' => e = .returned (.int .u32 (Aes.mixw x)) ∧ w' = w := by
  go_enter Try.func48, Try.ntmps48
  go_wp2_with (first
    | (go_at_call 55; refine (twice_any _ _).mono ?_; rintro e w' ⟨rfl, rfl⟩)
    | (go_at_call 45; refine (rol_any _ _ (by omega) _).mono ?_; rintro e w' ⟨rfl, rfl⟩))
  go_ret
  refine ⟨?_, rfl⟩
  unfold Aes.mixw
  rfl

/-- What a cipher's table says. -/
def Tbl (w : World) (g : Nat) (T : List Int) : Prop := ∀ j, j < 256 → w.cell? ⟨g, j, none⟩ = some (.int .u8 (T.getD j 0)) ∧ 0 ≤ T.getD j 0 ∧ T.getD j 0 ≤ 255

set_option maxHeartbeats 1000000 in
theorem column_any (T : List Int) (g : Nat) (a b c d : Int) (w : World) (hT : Tbl w g T) :
    Calls Try.prog 46 #[.pointer (some ⟨g, 0, none⟩), .int .u32 a, .int .u32 b, .int .u32 c, .int .u32 d] w fun e w' => e = .returned (.int .u32 (Aes.col T a b c d)) ∧ ∃ m, w' = w.drewN m := by
  obtain ⟨k0, e0⟩ : ∃ k : Nat, a / 16777216 % 256 = k := ⟨(a / 16777216 % 256).toNat, by omega⟩
  obtain ⟨k1, e1⟩ : ∃ k : Nat, b / 65536 % 256 = k := ⟨(b / 65536 % 256).toNat, by omega⟩
  obtain ⟨k2, e2⟩ : ∃ k : Nat, c / 256 % 256 = k := ⟨(c / 256 % 256).toNat, by omega⟩
  obtain ⟨k3, e3⟩ : ∃ k : Nat, d % 256 = k := ⟨(d % 256).toNat, by omega⟩
  have q0 : k0 < 256 := by omega
  have q1 : k1 < 256 := by omega
  have q2 : k2 < 256 := by omega
  have q3 : k3 < 256 := by omega
  obtain ⟨c0, l0, u0⟩ := hT k0 q0
  obtain ⟨c1, l1, u1⟩ := hT k1 q1
  obtain ⟨c2, l2, u2⟩ := hT k2 q2
  obtain ⟨c3, l3, u3⟩ := hT k3 q3
  have HF : Hid (Aes.col T a b c d = bits .or .u32 (bits .or .u32 (bits .or .u32 (T.getD k0 0 * 16777216) (T.getD k1 0 * 65536)) (T.getD k2 0 * 256)) (T.getD k3 0)) := by
    show _ = _
    unfold Aes.col
    rw [e0, e1, e2, e3]
    rfl
  have i0 : (k0 : Int) < 256 := by omega
  have i1 : (k1 : Int) < 256 := by omega
  have i2 : (k2 : Int) < 256 := by omega
  have i3 : (k3 : Int) < 256 := by omega
  clear hT
  generalize T.getD k0 0 = y0 at *
  generalize T.getD k1 0 = y1 at *
  generalize T.getD k2 0 = y2 at *
  generalize T.getD k3 0 = y3 at *
  generalize Aes.col T a b c d = R at *
  go_enter Try.func46, Try.ntmps46
  go_wp2
  go_quiet (fail)
  go_wp2
  go_ret
  exact ⟨by rw [HF.out]; rfl, _, rfl⟩

set_option maxHeartbeats 1000000 in
theorem word_any (x0 x1 x2 x3 : Int) (b o n c : Nat) (w : World) (hn : 4 ≤ n)
    (c0 : w.cell? ⟨b, o, none⟩ = some (.int .u8 x0)) (c1 : w.cell? ⟨b, o + 1, none⟩ = some (.int .u8 x1)) (c2 : w.cell? ⟨b, o + 2, none⟩ = some (.int .u8 x2)) (c3 : w.cell? ⟨b, o + 3, none⟩ = some (.int .u8 x3))
    (l0 : 0 ≤ x0 ∧ x0 ≤ 255) (l1 : 0 ≤ x1 ∧ x1 ≤ 255) (l2 : 0 ≤ x2 ∧ x2 ≤ 255) (l3 : 0 ≤ x3 ∧ x3 ≤ 255) :
    Calls Try.prog 44 #[.slice (some ⟨b, o, none⟩) n c] w fun e w' => e = .returned (.int .u32 (Aes.be4 x0 x1 x2 x3)) ∧ ∃ m, w' = w.drewN m := by
  have HF : Hid (Aes.be4 x0 x1 x2 x3 = bits .or .u32 (bits .or .u32 (bits .or .u32 (x0 * 16777216) (x1 * 65536)) (x2 * 256)) x3) := by
    show _ = _
    unfold Aes.be4
    rfl
  generalize Aes.be4 x0 x1 x2 x3 = R at *
  obtain ⟨p0, q0⟩ := l0
  obtain ⟨p1, q1⟩ := l1
  obtain ⟨p2, q2⟩ := l2
  obtain ⟨p3, q3⟩ := l3
  have i0 : (0 : Int) < (n : Int) := by omega
  have i1 : (1 : Int) < (n : Int) := by omega
  have i2 : (2 : Int) < (n : Int) := by omega
  have i3 : (3 : Int) < (n : Int) := by omega
  go_enter Try.func44, Try.ntmps44
  go_wp2
  go_quiet (fail)
  go_wp2
  go_ret
  exact ⟨by rw [HF.out]; rfl, _, rfl⟩
end Go.Proofs.Ytkajigfdfbgphaa

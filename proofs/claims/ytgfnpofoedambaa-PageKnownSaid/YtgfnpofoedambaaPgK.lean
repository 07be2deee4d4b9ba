/-
  Both Put, whatever comes in.
-/
import Derived.Test.YtgfnpofoedambaaPgJ
namespace Go.Proofs.Ytgfnpofoedambaa
open Go.RowKit

def PutV (L : List Int) (m : Nat) (er : Int) (w : World) (e : Ending) (w' : World) : Prop :=
  ∃ p c, e = .returned (.tuple #[.slice p m c, .int .i64 er]) ∧ Hid (Bs w' p c L) ∧ Hid (Below w.heap.size w w')
theorem put_both (i : Int) (R : List Pg.Rf) (h : Pg.OkA R) : ∃ (L : List Int) (m : Nat) (er : Int), L.length = m ∧ m ≤ 328 ∧ (∀ y, Calls Try.prog 9 #[.int .i64 i, PV R] y (PutV L m er y)) ∧ ∀ y, Calls Try.prog 10 #[.int .i64 i, PV R] y (PutV L m er y) := by
  cases hn : Pg.nd i R with
  | true =>
    refine ⟨Pg.pt i R, 328, 0, Pg.pt_len i h, Nat.le_refl _, fun y => (put_yes i R h hn y).mono ?_, fun y => (rput_yes i R h hn y).mono ?_⟩ <;>
    · rintro e w' ⟨p, c, rfl, _, H1, H2⟩
      exact ⟨p, c, rfl, H1, H2⟩
  | false =>
    refine ⟨[], 0, 7, rfl, by omega, fun y => (put_no i R h hn y).mono ?_, fun y => (rput_no i R h hn y).mono ?_⟩ <;>
    · rintro e w' ⟨rfl, H2⟩
      exact ⟨none, 0, rfl, bs_none _, H2⟩
/-- Which of both Put's answers it is. -/
theorem put_cases (i : Int) (R : List Pg.Rf) (h : Pg.OkA R) : ∃ (L : List Int) (m : Nat) (er : Int), L.length = m ∧ m ≤ 328 ∧ (∀ y, Calls Try.prog 9 #[.int .i64 i, PV R] y (PutV L m er y)) ∧ ((er = 0 ∧ m = 328 ∧ L = Pg.pt i R ∧ Pg.nd i R = true) ∨ (er = 7 ∧ m = 0 ∧ L = [] ∧ Pg.nd i R = false)) := by
  cases hn : Pg.nd i R with
  | true =>
    refine ⟨Pg.pt i R, 328, 0, Pg.pt_len i h, Nat.le_refl _, fun y => (put_yes i R h hn y).mono ?_, Or.inl ⟨rfl, rfl, rfl, rfl⟩⟩
    rintro e w' ⟨p, c, rfl, _, H1, H2⟩
    exact ⟨p, c, rfl, H1, H2⟩
  | false =>
    refine ⟨[], 0, 7, rfl, by omega, fun y => (put_no i R h hn y).mono ?_, Or.inr ⟨rfl, rfl, rfl, rfl⟩⟩
    rintro e w' ⟨rfl, H2⟩
    exact ⟨none, 0, rfl, bs_none _, H2⟩
end Go.Proofs.Ytgfnpofoedambaa

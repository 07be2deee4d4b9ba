/-
  Contracts: sector.Get: what it refuses; with a box, with names.
-/
import Derived.Test.YtkjfhbmdogmecaaDoorScC
namespace Go.Proofs.YtkjfhbmdogmecaaDoor
open Go.RowKit

namespace Sc
/-- The first error ahead of opening. -/
def ger (k a : Int) (b : List Int) : Int := if b.length < 17 then 2 else if 1024 < b.length then 3 else if isK k = true ∧ kd b = k then (if inP (ep (b.take 17)) (nu (b.take 17)) a then 0 else 7) else 5
attribute [irreducible] ger
end Sc
def GNo (n : Int) (w : World) (r : Ending) (w' : World) : Prop := r = .returned (.tuple #[SV 0 0 0 0 none 0 0, .int .i64 n]) ∧ Below w.heap.size w w'
/-- The facts of a sector's cells that a store wants. -/
theorem SAt.all {w : World} {g : Nat} {k e n a : Int} {p : Option Addr} {m c : Nat} (s : SAt w g k e n a p m c) : (w.cell? ⟨g, 0, none⟩ = some (.int .i64 k) ∧ w.cell? ⟨g, 1, none⟩ = some (.int .i64 e) ∧ w.cell? ⟨g, 2, none⟩ = some (.int .i64 n) ∧ w.cell? ⟨g, 3, none⟩ = some (.int .i64 a) ∧ w.cell? ⟨g, 4, none⟩ = some (.slice p m c)) :=
  ⟨s.c0, s.c1, s.c2, s.c3, s.c4⟩
theorem SAt.fro {w : World} {g : Nat} {k e n a : Int} {p : Option Addr} {m c : Nat} (s : SAt w g k e n a p m c) : w.frozen? ⟨g, 0, none⟩ = false ∧ w.frozen? ⟨g, 1, none⟩ = false ∧ w.frozen? ⟨g, 2, none⟩ = false ∧ w.frozen? ⟨g, 3, none⟩ = false ∧ w.frozen? ⟨g, 4, none⟩ = false :=
  ⟨frozen_of_row w g 0 _ _ s.row, frozen_of_row w g 1 _ _ s.row, frozen_of_row w g 2 _ _ s.row, frozen_of_row w g 3 _ _ s.row, frozen_of_row w g 4 _ _ s.row⟩
theorem gno {w w1 : World} (B : Below w.heap.size w w1) (s : SAt w1 w.heap.size 0 0 0 0 none 0 0) :
    SAt (((((w1.setCell ⟨w.heap.size, 0, none⟩ (.int .i64 0)).setCell ⟨w.heap.size, 1, none⟩ (.int .i64 0)).setCell ⟨w.heap.size, 2, none⟩ (.int .i64 0)).setCell ⟨w.heap.size, 3, none⟩ (.int .i64 0)).setCell ⟨w.heap.size, 4, none⟩ (.slice none 0 0)) w.heap.size 0 0 0 0 none 0 0 ∧
    Below w.heap.size w (((((w1.setCell ⟨w.heap.size, 0, none⟩ (.int .i64 0)).setCell ⟨w.heap.size, 1, none⟩ (.int .i64 0)).setCell ⟨w.heap.size, 2, none⟩ (.int .i64 0)).setCell ⟨w.heap.size, 3, none⟩ (.int .i64 0)).setCell ⟨w.heap.size, 4, none⟩ (.slice none 0 0)) :=
  ⟨⟨sset s.row⟩, (sset_chg _ _ _ _ _ _ _).below B (Nat.le_refl _)⟩
set_option maxHeartbeats 2000000 in
set_option maxRecDepth 100000 in
theorem get_no (T : TypeId) (v : Value) (k a : Int) (b : List Int) (p : Option Addr) (n c : Nat) (hn : b.length = n) (h : Sc.ger k a b ≠ 0) (w : World) (hp : Bs w p c b) :
    Calls Tryd.prog 13 #[.iface T v, .int .i64 k, .int .i64 a, .slice p n c] w (GNo (Sc.ger k a b) w) := by
  have B0 : Hid (Below w.heap.size w (w.alloc (SO 0 0 0 0 none 0 0))) := (Below.refl _ w).alloc (Nat.le_refl _) _
  have HS : Hid (∀ y, Below (w.alloc (SO 0 0 0 0 none 0 0)).heap.size (w.alloc (SO 0 0 0 0 none 0 0)) y → SAt y w.heap.size 0 0 0 0 none 0 0) := fun y hy => (SAt.new w 0 0 0 0 none 0 0).old hy
  have P0 : Hid (Bs (w.alloc (SO 0 0 0 0 none 0 0)) p c b) := hp.old B0.out
  have HI : Hid (∀ x, Calls Tryd.prog 20 #[.int .i64 k] x fun r x' => r = .returned (.bool (Sc.isK k)) ∧ x = x') := fun x => (iskind_any k x).mono fun _ _ q => ⟨q.1, q.2.symm⟩
  have HD : Hid (∀ x, Bs x p c b → Calls Tryd.prog 15 #[.slice p n c] x fun r x' => r = .returned (.int .i64 (Sc.kd b)) ∧ x = x') := fun x hx => (kind_any b p n c hn x hx).mono fun _ _ q => ⟨q.1, q.2.symm⟩
  unfold Sc.ger at h ⊢
  rw [hn] at h ⊢
  have HN := Lib.hid hn; clear hn
  have HP := Lib.hid hp; clear hp
  by_cases h0 : n < 17
  · rw [if_pos h0]
    have h0' : (n : Int) < 17 := by omega
    go_enter Tryd.func13, Tryd.ntmps13
    go_upto_region 1 with (fail)
    change Code.wp _ _ _ _ (w.alloc (SO 0 0 0 0 none 0 0))
    obtain ⟨w0, hw0⟩ : ∃ x, x = w.alloc (SO 0 0 0 0 none 0 0) := ⟨_, rfl⟩
    rw [← hw0] at B0 HS P0 ⊢
    clear hw0
    obtain ⟨d0, d1, d2, d3, d4⟩ := (HS.out _ (Below.refl _ _)).all
    obtain ⟨f0, f1, f2, f3, f4⟩ := (HS.out _ (Below.refl _ _)).fro
    go_wp2
    have q := gno B0.out (HS.out _ (Below.refl _ _))
    refine bodyPost_ret (results_cell_tmp rfl _ _ w.heap.size 24 _ (0, 0) _ rfl q.1.row Tryd.underlying24 rfl (by rw [ssize]; rfl)) rfl ⟨rfl, q.2⟩
  rw [if_neg h0] at h ⊢
  by_cases h1 : 1024 < n
  · rw [if_pos h1]
    have h0' : ¬ (n : Int) < 17 := by omega
    have h1' : (n : Int) > 1024 := by omega
    go_enter Tryd.func13, Tryd.ntmps13
    go_upto_region 1 with (fail)
    change Code.wp _ _ _ _ (w.alloc (SO 0 0 0 0 none 0 0))
    obtain ⟨w0, hw0⟩ : ∃ x, x = w.alloc (SO 0 0 0 0 none 0 0) := ⟨_, rfl⟩
    rw [← hw0] at B0 HS P0 ⊢
    clear hw0
    obtain ⟨d0, d1, d2, d3, d4⟩ := (HS.out _ (Below.refl _ _)).all
    obtain ⟨f0, f1, f2, f3, f4⟩ := (HS.out _ (Below.refl _ _)).fro
    go_wp2
    have q := gno B0.out (HS.out _ (Below.refl _ _))
    refine bodyPost_ret (results_cell_tmp rfl _ _ w.heap.size 24 _ (0, 0) _ rfl q.1.row Tryd.underlying24 rfl (by rw [ssize]; rfl)) rfl ⟨rfl, q.2⟩
  rw [if_neg h1] at h ⊢
  have h0' : ¬ (n : Int) < 17 := by omega
  have h1' : ¬ (n : Int) > 1024 := by omega
  by_cases hk : Sc.isK k = true
  · by_cases hd : Sc.kd b = k
    · rw [if_pos ⟨hk, hd⟩] at h ⊢
      have hp : Sc.inP (Sc.ep (b.take 17)) (Sc.nu (b.take 17)) a = false := by
        cases q : Sc.inP (Sc.ep (b.take 17)) (Sc.nu (b.take 17)) a with
        | false => rfl
        | true => rw [if_pos q] at h; exact absurd rfl h
      rw [if_neg (by rw [hp]; simp)]
      rw [hk] at HI
      rw [hd] at HD
      obtain ⟨ab, ao, hpe, _⟩ := HP.out.bat.2 (by have := HN.out; omega)
      subst hpe
      have hcap := HP.out.cap
      have hc17 : (17 : Int) ≤ (c : Int) := by have := HN.out; omega
      have hc0 : ¬ ((c : Int) < 17) := by omega
      have HCL : Hid (∀ x, Bs x (some ⟨ab, ao, none⟩) c b → Calls Tryd.prog 25 #[.int .i64 a, .slice (some ⟨ab, ao, none⟩) 17 c] x fun r w' => r = .returned (SV (Sc.k0 (b.take 17)) (Sc.ep (b.take 17)) (Sc.nu (b.take 17)) a none 0 0) ∧ Below x.heap.size x w') := fun x hx =>
        claimed_any a (b.take 17) _ c (by rw [List.length_take]; have := HN.out; omega) x (hx.take 17)
      generalize Sc.k0 (b.take 17) = k0 at *
      generalize Sc.ep (b.take 17) = e0 at *
      generalize Sc.nu (b.take 17) = n0 at *
      have HPL : Hid (∀ x, Calls Tryd.prog 21 #[SV k0 e0 n0 a none 0 0] x fun r x' => r = .returned (.bool false) ∧ Below x.heap.size x x') := fun x => by have h := inplace_any k0 e0 n0 a none 0 0 x; rw [hp] at h; exact h
      clear hk hd hp hcap
      go_enter Tryd.func13, Tryd.ntmps13
      go_upto_region 1 with (fail)
      change Code.wp _ _ _ _ (w.alloc (SO 0 0 0 0 none 0 0))
      obtain ⟨w0, hw0⟩ : ∃ x, x = w.alloc (SO 0 0 0 0 none 0 0) := ⟨_, rfl⟩
      rw [← hw0] at B0 HS P0 ⊢
      clear hw0
      obtain ⟨d0, d1, d2, d3, d4⟩ := (HS.out _ (Below.refl _ _)).all
      obtain ⟨f0, f1, f2, f3, f4⟩ := (HS.out _ (Below.refl _ _)).fro
      go_upto_region 8 with (first
        | (go_at_call 20; refine (HI.out _).mono ?_; rintro e1 w1 ⟨rfl, rfl⟩)
        | (go_at_call 15; refine (HD.out _ P0.out).mono ?_; rintro e2 w2 ⟨rfl, rfl⟩)
        | (go_at_call 25; refine (HCL.out _ P0.out).mono ?_; rintro e3 w3 ⟨rfl, hb3⟩; have B3 := Lib.hid hb3; clear hb3))
      all_goals
        change Code.wp _ _ _ _ (w3.alloc (SO k0 e0 n0 a none 0 0))
        have S4 : Hid (∀ y, Below (w3.alloc (SO k0 e0 n0 a none 0 0)).heap.size (w3.alloc (SO k0 e0 n0 a none 0 0)) y → SAt y w3.heap.size k0 e0 n0 a none 0 0) := fun y hy => (SAt.new w3 k0 e0 n0 a none 0 0).old hy
        have B4 : Hid (Below w0.heap.size w0 (w3.alloc (SO k0 e0 n0 a none 0 0))) := B3.out.alloc B3.out.size _
        obtain ⟨w4, hw4⟩ : ∃ x, x = w3.alloc (SO k0 e0 n0 a none 0 0) := ⟨_, rfl⟩
        rw [← hw4] at S4 B4 ⊢
        clear hw4 d0 d1 d2 d3 d4 f0 f1 f2 f3 f4
        obtain ⟨x0, x1, x2, x3, x4⟩ := (S4.out _ (Below.refl _ _)).all
        go_wp2_with (go_at_call 21; refine (HPL.out _).mono ?_; rintro e5 w5 ⟨rfl, hb5⟩; have B5 : Hid (Below w0.heap.size w0 w5) := B4.out.trans (hb5.mono B4.out.size); clear hb5; obtain ⟨d0, d1, d2, d3, d4⟩ := (HS.out _ B5.out).all; obtain ⟨f0, f1, f2, f3, f4⟩ := (HS.out _ B5.out).fro)
        have q := gno (B0.out.trans (B5.out.mono B0.out.size)) (HS.out _ B5.out)
        refine bodyPost_ret (results_cell_tmp rfl _ _ w.heap.size 24 _ (0, 0) _ rfl q.1.row Tryd.underlying24 rfl (by rw [ssize]; rfl)) rfl ⟨rfl, q.2⟩
    · rw [if_neg (fun q => hd q.2)]
      rw [hk] at HI
      have hd2 : (Sc.kd b == k) = false := by simpa using hd
      generalize Sc.kd b = kb at *
      go_enter Tryd.func13, Tryd.ntmps13
      go_upto_region 1 with (fail)
      change Code.wp _ _ _ _ (w.alloc (SO 0 0 0 0 none 0 0))
      obtain ⟨w0, hw0⟩ : ∃ x, x = w.alloc (SO 0 0 0 0 none 0 0) := ⟨_, rfl⟩
      rw [← hw0] at B0 HS P0 ⊢
      clear hw0
      obtain ⟨d0, d1, d2, d3, d4⟩ := (HS.out _ (Below.refl _ _)).all
      obtain ⟨f0, f1, f2, f3, f4⟩ := (HS.out _ (Below.refl _ _)).fro
      go_wp2_with (first
        | (go_at_call 20; refine (HI.out _).mono ?_; rintro e1 w1 ⟨rfl, rfl⟩)
        | (go_at_call 15; refine (HD.out _ P0.out).mono ?_; rintro e2 w2 ⟨rfl, rfl⟩))
      have q := gno B0.out (HS.out _ (Below.refl _ _))
      refine bodyPost_ret (results_cell_tmp rfl _ _ w.heap.size 24 _ (0, 0) _ rfl q.1.row Tryd.underlying24 rfl (by rw [ssize]; rfl)) rfl ⟨rfl, q.2⟩
  · rw [if_neg (fun q => hk q.1)]
    have hk2 : Sc.isK k = false := by simpa using hk
    rw [hk2] at HI
    go_enter Tryd.func13, Tryd.ntmps13
    go_upto_region 1 with (fail)
    change Code.wp _ _ _ _ (w.alloc (SO 0 0 0 0 none 0 0))
    obtain ⟨w0, hw0⟩ : ∃ x, x = w.alloc (SO 0 0 0 0 none 0 0) := ⟨_, rfl⟩
    rw [← hw0] at B0 HS P0 ⊢
    clear hw0
    obtain ⟨d0, d1, d2, d3, d4⟩ := (HS.out _ (Below.refl _ _)).all
    obtain ⟨f0, f1, f2, f3, f4⟩ := (HS.out _ (Below.refl _ _)).fro
    go_wp2_with (go_at_call 20; refine (HI.out _).mono ?_; rintro e1 w1 ⟨rfl, rfl⟩)
    have q := gno B0.out (HS.out _ (Below.refl _ _))
    refine bodyPost_ret (results_cell_tmp rfl _ _ w.heap.size 24 _ (0, 0) _ rfl q.1.row Tryd.underlying24 rfl (by rw [ssize]; rfl)) rfl ⟨rfl, q.2⟩
end Go.Proofs.YtkjfhbmdogmecaaDoor

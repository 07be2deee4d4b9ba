/-
  Contracts: known, Pick.
-/
import Derived.Test.YtlgnlilfagjejaaPaS
namespace Go.Proofs.Ytlgnlilfagjejaa
open Go.RowKit

namespace Pk
def K9 : List Int := [7, 0, 0, 0, 0, 0, 0, 1, 2]
theorem k9_eq : [7] ++ e8 258 8 = K9 := by rw [e8_eight]; rfl
theorem k9_len : K9.length = 9 := rfl
theorem k9_vb : vb K9 = 7 := by unfold vb; rfl
theorem k9_nx : nx 1 K9 = K9.drop 1 := by unfold nx; rfl
theorem k9_nb : nb 1 K9 false = false := by unfold nb; rfl
theorem k9_vi : vi (K9.drop 1) = 258 := by unfold vi in8 be; rfl
theorem k9_nx2 : nx 8 (K9.drop 1) = [] := by unfold nx; rfl
theorem k9_nb2 : nb 8 (K9.drop 1) false = false := by unfold nb; rfl
theorem k9_en : en [] false = 0 := by unfold en; rfl
theorem k9_len2 : (K9.drop 1).length = 8 := rfl
attribute [irreducible] K9
end Pk
set_option maxHeartbeats 1000000 in
set_option maxRecDepth 100000 in
theorem known_any (w : World) : Calls Try.prog 9 #[] w (YesSay w) := by
  have B0 : Hid (Below w.heap.size w (w.alloc (.cells #[.int .u8 7] 5))) := (Below.refl _ w).alloc (Nat.le_refl _) _
  have HBS : Hid (Bs (w.alloc (.cells #[.int .u8 7] 5)) (some ⟨w.heap.size, 0, none⟩) 1 [7]) := bs_row (bat_row (heap_alloc_new w _) (by intro x hx; simp at hx; omega)) ⟨by simp, by omega⟩
  have HI : Hid (Calls Try.prog 11 #[.slice (some ⟨w.heap.size, 0, none⟩) 1 1, .int .i64 258] (w.alloc (.cells #[.int .u8 7] 5)) (RowOf Pk.K9 9 (w.alloc (.cells #[.int .u8 7] 5)))) := by
    rw [← Pk.k9_eq]
    exact int_any [7] 258 _ 1 1 9 rfl rfl (by omega) _ HBS.out
  have HRD : Hid (∀ y p c, Bs y p c Pk.K9 → Calls Try.prog 20 #[.slice p 9 c] y (NewSay Pk.K9 y)) := fun y p c hy => read_any Pk.K9 p 9 c Pk.k9_len (by omega) y hy
  have HB : Hid (∀ y g D, RdAt y g D Pk.K9 false → Calls Try.prog 23 #[.pointer (some ⟨g, 0, none⟩)] y (RdSay (.int .u8 7) (Pk.K9.drop 1) false g D y)) := fun y g D hy => by
    have h := rbyte_any Pk.K9 false g D 9 Pk.k9_len (by omega) y hy
    rw [Pk.k9_vb, Pk.k9_nx, Pk.k9_nb] at h
    exact h
  have HN : Hid (∀ y g D, RdAt y g D (Pk.K9.drop 1) false → Calls Try.prog 25 #[.pointer (some ⟨g, 0, none⟩)] y (RdSay (.int .i64 258) [] false g D y)) := fun y g D hy => by
    have h := rint_any (Pk.K9.drop 1) false g D 8 Pk.k9_len2 (by omega) y hy
    rw [Pk.k9_vi, Pk.k9_nx2, Pk.k9_nb2] at h
    exact h
  have HE : Hid (∀ y g D, RdAt y g D [] false → Calls Try.prog 34 #[.pointer (some ⟨g, 0, none⟩)] y (EndSay 0 y)) := fun y g D hy => by
    have h := end_any [] false g D y hy
    rw [Pk.k9_en] at h
    exact h
  have HCE : Hid (∀ y p c, Bs y p c Pk.K9 → ∃ b o, p = some ⟨b, o, none⟩ ∧ y.cell? ⟨b, o + 7, none⟩ = some (.int .u8 1) ∧ y.cell? ⟨b, o + 8, none⟩ = some (.int .u8 2)) := fun y p c hy => by
    obtain ⟨b, o, h1, h2⟩ := hy.bat.2 (by rw [Pk.k9_len]; omega)
    refine ⟨b, o, h1, ?_, ?_⟩
    · have h := h2 7 (by rw [Pk.k9_len]; omega)
      unfold Pk.K9 at h
      exact h
    · have h := h2 8 (by rw [Pk.k9_len]; omega)
      unfold Pk.K9 at h
      exact h
  clear HBS
  go_enter Try.func9, Try.ntmps9
  go_wp2_with (first
    | (go_at_call 11; refine HI.out.mono ?_; rintro e1 w1 ⟨p1, c1, rfl, HO1, HB1, HL1⟩; have B1 : Hid (Below w.heap.size w w1) := B0.out.trans (HL1.out.mono B0.out.size))
    | (go_at_call 20; refine (HRD.out _ _ _ HB1.out).mono ?_; rintro e2 w2 ⟨g, D, rfl, HR2, HG2, HL2⟩; have B2 : Hid (Below w.heap.size w w2) := B1.out.trans (HL2.out.mono B1.out.size); have G2 : Hid (w.heap.size ≤ g) := Nat.le_trans B1.out.size HG2.out.1; obtain ⟨b, o, hpp, c7, c8⟩ := HCE.out _ _ _ (HB1.out.old HL2.out); subst hpp)
    | (go_at_call 23; refine (HB.out _ _ _ HR2.out).mono ?_; rintro e3 w3 ⟨rfl, HR3, HO3⟩; have B3 : Hid (Below w.heap.size w w3) := HO3.out.below B2.out G2.out B2.out.size)
    | (go_at_call 25; refine (HN.out _ _ _ HR3.out).mono ?_; rintro e4 w4 ⟨rfl, HR4, HO4⟩; have B4 : Hid (Below w.heap.size w w4) := HO4.out.below B3.out G2.out B3.out.size)
    | (go_at_call 34; refine (HE.out _ _ _ HR4.out).mono ?_; rintro e5 w5 ⟨rfl, hb5⟩; have B5 : Hid (Below w.heap.size w w5) := B4.out.trans (hb5.mono B4.out.size)))
  go_ret
  exact ⟨rfl, B5.out⟩
/-- Which number Pick answers. -/
def pk (k n : Int) : Nat := (if k.tmod n < 0 then k.tmod n + n else k.tmod n).toNat
theorem pk_lt (k n : Int) (h1 : 1 ≤ n) : (pk k n : Int) < n := by
  have hlt : k.tmod n < n := Int.tmod_lt_of_pos k (by omega)
  have hge : -n < k.tmod n := by
    have h := Int.tmod_lt_of_pos (-k) (show 0 < n by omega)
    rw [Int.neg_tmod] at h
    omega
  unfold pk
  split <;> omega
attribute [irreducible] pk
set_option maxHeartbeats 1000000 in
theorem pick_at (k n : Int) (h1 : 1 ≤ n) (hn : n ≤ 1000000) (w : World) : Calls Try.prog 22 #[.int .i64 k, .int .i64 n] w fun r w' => w' = w ∧ r = .returned (.int .i64 (pk k n : Nat)) := by
  have hlt : k.tmod n < n := Int.tmod_lt_of_pos k (by omega)
  have hge : -n < k.tmod n := by
    have h := Int.tmod_lt_of_pos (-k) (show 0 < n by omega)
    rw [Int.neg_tmod] at h
    omega
  have hw : IntKind.i64.wrap (k.tmod n) = k.tmod n := IntWalk.i64_in _ ⟨by omega, by omega⟩
  have hnz : n ≠ 0 := by omega
  have hw2 : IntKind.i64.wrap (k.tmod n + n) = k.tmod n + n := IntWalk.i64_in _ ⟨by omega, by omega⟩
  by_cases h0 : k.tmod n < 0
  · have hp : ((pk k n : Nat) : Int) = k.tmod n + n := by unfold pk; rw [if_pos h0]; omega
    go_enter Try.func22, Try.ntmps22
    go_wp2
    go_ret
    exact ⟨rfl, by first | rfl | (rw [hp]; rfl)⟩
  · have h0' : 0 ≤ k.tmod n := by omega
    have hp : ((pk k n : Nat) : Int) = k.tmod n := by unfold pk; rw [if_neg h0]; omega
    go_enter Try.func22, Try.ntmps22
    go_wp2
    go_ret
    exact ⟨rfl, by first | rfl | (rw [hp]; rfl)⟩
end Go.Proofs.Ytlgnlilfagjejaa

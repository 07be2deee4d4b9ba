/-
  The law TreeRuns walked.
-/
import Derived.Test.YtfeemeddhhgigaaTrUe
namespace Go.Proofs.Ytfeemeddhhgigaa
open Go.RowKit

/-- A tree behind the first calls, Load among them. -/
def Tr.bn (X : List Tr.O) : Nat → Tr.T
  | 0 => Tr.new
  | i + 1 => Tr.bothT (Tr.bn X i) (X.getD i Tr.o0)
set_option maxHeartbeats 8000000 in
set_option maxRecDepth 100000 in
theorem runs_any (X : List Tr.O) (p : Option Addr) (n c : Nat) (hn : X.length = n) (w : World) (hX : OpS w p X) :
    Calls Try.prog 3 #[.slice p n c] w (YesH w) := by
  have HX : Hid (∀ z i, Below w.heap.size w z → i < n → ∃ ab ao, p = some ⟨ab, ao, none⟩ ∧ z.rangeAt ab (ao + i * 299) (OpA (X.getD i Tr.o0)).toList ∧ OpOk (X.getD i Tr.o0)) := fun z i hz hi => (hX.old hz).at_ i (by omega)
  have HW := Lib.hid works_any
  have HNW : Hid (Calls Try.prog 10 #[] w fun e w' => ∃ b, e = .returned (.pointer (some ⟨b, 0, none⟩)) ∧ Hid (Pp w w' b Tr.new)) := (pp_new w w (Below.refl _ _)).mono fun _ _ ⟨b, h1, h2, _⟩ => ⟨b, h1, h2⟩
  have HNR : Hid (∀ z b, Pp w z b Tr.new → Calls Try.prog 11 #[] z fun e w' => ∃ g, e = .returned (.pointer (some ⟨g, 0, none⟩)) ∧ Hid (Bo w w' b g Tr.new)) := fun z b hz => (rnew_any w.heap.size z hz.old.size).mono fun _ _ ⟨g, h1, h2, h3, _⟩ => ⟨g, h1, Lib.hid ⟨hz.next h3.out, h2.out⟩⟩
  have HAL : Hid (∀ z b g t, Bo w z b g t → Calls Try.prog 12 #[.pointer (some ⟨b, 0, none⟩), .pointer (some ⟨g, 0, none⟩)] z (YesH z)) := fun z b g t h => alike_any z h
  have hcase : (200 < n ∨ n ≤ 200) := by omega
  unfold YesH at HW HAL ⊢
  rcases hcase with hbig | hsm
  · have hb' : (n : Int) > 200 := by omega
    clear HX hbig hX hn HNW HNR HAL
    go_enter Try.func3, Try.ntmps3
    go_wp2_with (first
      | (go_at_call 9; refine (HW.out _).mono ?_; rintro e2 w2 ⟨rfl, B2⟩))
    go_ret
    exact ⟨rfl, B2⟩
  have hs' : ¬ (n : Int) > 200 := by omega
  clear hX hn hsm
  go_enter Try.func3, Try.ntmps3
  go_wp2_with (first
    | (go_at_call 10; refine HNW.out.mono ?_; rintro e1 w1 ⟨b, rfl, P1⟩)
    | (go_at_call 11; refine (HNR.out _ _ P1.out).mono ?_; rintro e2 w2 ⟨g, rfl, U2⟩)
    | (go_at_call 12; refine (HAL.out _ _ _ _ U2.out).mono ?_; rintro e3 w3 ⟨rfl, B3⟩; have U3 := Lib.hid (U2.out.next B3.out)))
  have U3' : Hid (Bo w w3 b g (Tr.bn X 0)) := U3
  clear P1 U2 U3 HNW HNR
  go_loopw [5] (fun v5 wr => ∃ i : Nat, i ≤ n ∧ v5 = .int .i64 i ∧ Hid (Bo w wr b g (Tr.bn X i))) (fun v5 _ => n - (intOf v5).toNat)
  case atStart => exact ⟨0, Nat.zero_le _, rfl, U3'⟩
  case round =>
    clear U3'
    obtain ⟨i, hi, rfl, HP⟩ := hrel
    by_cases hlt : i < n
    · obtain ⟨ab, ao, hp, hr, hok⟩ := HX.out _ i HP.out.p.old hlt
      subst hp
      have HR := Lib.hid hr
      have HOS := Lib.hid (opa_size hok)
      have hsO := row_size Try.sizeOp HOS
      have HBT : Hid (∀ z, Bo w z b g (Tr.bn X i) → Calls Try.prog 13 #[.pointer (some ⟨b, 0, none⟩), .pointer (some ⟨g, 0, none⟩), .agg (OpA (X.getD i Tr.o0))] z fun e w' => e = .returned (.bool true) ∧ Hid (Bo w w' b g (Tr.bn X (i + 1)))) := fun z h => both_any _ hok h
      have hi0 : 0 ≤ (i : Int) := by omega
      have hi1 : (i : Int) < (n : Int) := by omega
      generalize OpA (X.getD i Tr.o0) = OA at *
      clear hr hok hlt HX
      go_wp2_with (first
        | ((with_reducible refine rng_load _ _ _ _ _ _ ?_ HR.out Try.underlying38 ?_ hsO ?_); (exact rfl); (exact rfl))
        | (go_at_call 13; refine (HBT.out _ HP.out).mono ?_; rintro e4 w4 ⟨rfl, U4⟩)
        | (go_at_call 12; refine (HAL.out _ _ _ _ U4.out).mono ?_; rintro e5 w5 ⟨rfl, B5⟩; have U5 := Lib.hid (U4.out.next B5.out)))
      exact ⟨⟨i + 1, by omega, by go_num, U5⟩, by simp [intOf]; omega⟩
    · have E : ¬ (i : Int) < (n : Int) := by omega
      clear hlt HX
      go_wp2_with (first
        | (go_at_call 9; refine (HW.out _).mono ?_; rintro e6 w6 ⟨rfl, B6⟩; have U6 := Lib.hid (HP.out.next B6.out)))
      go_ret
      exact ⟨rfl, Lib.hid U6.out.p.old⟩
end Go.Proofs.Ytfeemeddhhgigaa

/-
  Contracts of the reference's reader: Byte, Int.
-/
import Derived.Test.YtgfnpofoedambaaPaP
namespace Go.Proofs.Ytgfnpofoedambaa
open Go.RowKit

def RfSay (v : Value) (L : List Int) (b : Bool) (g : Nat) (D : Option Nat) (w : World) (e : Ending) (w' : World) : Prop :=
  e = .returned v ∧ Hid (RfRd w' g D L b) ∧ Hid (Only g w w')
theorem RfRd.ok {w : World} {g : Nat} {D : Option Nat} {L : List Int} {b : Bool} (h : RfRd w g D L b) (h0 : 0 < L.length) : b = false := by
  cases b with
  | false => rfl
  | true =>
    obtain ⟨p, c, a, B, h1, h2, h3, h6, h7, h8, h9⟩ := h.row
    rw [h8 rfl] at h0
    simp at h0
def Pk.up (L : List Int) (k : Nat) : Int := Pk.be (L.take k)
theorem Pk.up_zero (L : List Int) : Pk.up L 0 = 0 := by unfold Pk.up; rw [List.take_zero, Pk.be_nil]
theorem Pk.up_succ (L : List Int) (k : Nat) (hk : k < L.length) : Pk.up L k * 256 + L.getD k 0 = Pk.up L (k + 1) := by unfold Pk.up; rw [← take_snoc L k hk, Pk.be_snoc]
theorem Pk.up_lt (L : List Int) (hb : Sha.Byt L) (h8 : L.length = 8) : ∀ k, k ≤ 7 → 0 ≤ Pk.up L k ∧ Pk.up L k < 72057594037927936 := fun k hk => by
  have h := Pk.be_bound hb k (by omega)
  have h2 : (256 : Int) ^ k ≤ 256 ^ 7 := by
    have h3 : (256 : Nat) ^ k ≤ 256 ^ 7 := Nat.pow_le_pow_right (by omega) hk
    have h4 : ((256 ^ k : Nat) : Int) ≤ ((256 ^ 7 : Nat) : Int) := Int.ofNat_le.2 h3
    rw [Int.natCast_pow, Int.natCast_pow] at h4
    exact h4
  unfold Pk.up
  have e : (256 : Int) ^ 7 = 72057594037927936 := rfl
  omega
theorem Pk.up_all (L : List Int) (h8 : L.length = 8) : wrap64 (Pk.up L 8) = Pk.in8 L := by
  unfold Pk.up Pk.in8 wrap64
  rw [List.take_of_length_le (by omega)]
attribute [irreducible] Pk.up
set_option maxHeartbeats 1000000 in
set_option maxRecDepth 100000 in
theorem fint_any (L : List Int) (b : Bool) (g : Nat) (D : Option Nat) (n : Nat) (hn : L.length = n) (w : World) (hr : RfRd w g D L b) :
    Calls Try.prog 33 #[.pointer (some ⟨g, 0, none⟩)] w (RfSay (.int .i64 (Pk.vi L)) (Pk.nx 8 L) (Pk.nb 8 L b) g D w) := by
  have HN := Lib.hid hn
  by_cases hlt : n < 8
  · have HV : Hid (Value.int .i64 (Pk.vi L) = .int .i64 0) := by show _ = _; unfold Pk.vi; rw [HN.out, if_pos hlt]
    have HX : Hid (Pk.nx 8 L = []) := by show _ = _; unfold Pk.nx; rw [HN.out, if_pos hlt]
    have HB : Hid (Pk.nb 8 L b = true) := by show _ = _; unfold Pk.nb; rw [HN.out, if_pos hlt]
    rw [HV.out, HX.out, HB.out]
    clear HV HX HB
    have HC := Lib.hid (next_short L b g D n 8 hn hlt w hr)
    clear hr hn HN
    go_enter Try.func33, Try.ntmps33
    go_wp2_with (go_at_call 46; refine HC.out.mono ?_; rintro e1 w1 ⟨rfl, HR1, HO1⟩)
    go_ret
    exact ⟨rfl, HR1, HO1⟩
  · have hbf := hr.ok (by omega)
    subst hbf
    have HX : Hid (Pk.nx 8 L = L.drop 8) := by show _ = _; unfold Pk.nx; rw [HN.out, if_neg hlt]
    have HB : Hid (Pk.nb 8 L false = false) := by show _ = _; unfold Pk.nb; rw [HN.out, if_neg hlt]
    have HV : Hid (Pk.in8 (L.take 8) = Pk.vi L) := by
      show _ = _
      unfold Pk.vi
      rw [HN.out, if_neg hlt]
    rw [HX.out, HB.out]
    clear HX HB
    have HTL : Hid ((L.take 8).length = 8) := by show _ = _; rw [List.length_take]; omega
    have HC := Lib.hid (next_good L false g D n 8 hn (by omega) (by omega) w hr)
    obtain ⟨X, HXe⟩ : ∃ X, Hid (L.drop 8 = X) := ⟨_, rfl⟩
    obtain ⟨Y, HYe⟩ : ∃ Y, Hid (L.take 8 = Y) := ⟨_, rfl⟩
    unfold NxGood at HC
    rw [HXe.out, HYe.out] at HC
    rw [HXe.out]
    rw [HYe.out] at HV HTL
    rw [← HV.out]
    clear hr hn HN HXe HYe HV
    go_enter Try.func33, Try.ntmps33
    go_wp2_with (go_at_call 46; refine HC.out.mono ?_; rintro e1 w1 ⟨ab, o, c, rfl, HT1, HR1, HO1, HD1⟩)
    go_loopw [5, 6] (fun u5 u6 wr => ∃ k : Nat, k ≤ 8 ∧ u6 = .int .i64 k ∧ u5 = .int .u64 (Pk.up Y k) ∧ wr = w1) (fun _ u6 _ => 8 - (intOf u6).toNat)
    case atStart => exact ⟨0, by omega, rfl, by rw [Pk.up_zero], rfl⟩
    case round =>
      obtain ⟨k, hk, rfl, rfl, rfl⟩ := hrel
      by_cases hl8 : k < 8
      · obtain ⟨ab', o', hpp, hcs⟩ := HT1.out.bat.2 (by rw [HTL.out]; omega)
        cases hpp
        have c0 := hcs k (by rw [HTL.out]; exact hl8)
        clear hcs
        have HS := Lib.hid (Pk.up_succ Y k (by rw [HTL.out]; exact hl8))
        have hy := Pk.up_lt Y HT1.out.bat.1 HTL.out k (by omega)
        have hx := Sha.byt_getD HT1.out.bat.1 k
        generalize Y.getD k 0 = x at *
        obtain ⟨y, hye⟩ : ∃ y, Pk.up Y k = y := ⟨_, rfl⟩
        rw [hye] at HS hy ⊢
        have hu : ∀ z : Int, 0 ≤ z ∧ z < 18446744073709551616 → IntKind.u64.wrap z = z := fun z hz => by unfold IntKind.wrap; simp [IntKind.signed, IntKind.bits]; omega
        have hw1 := hu (y * 256) ⟨by omega, by omega⟩
        have hw2 := hu x ⟨by omega, by omega⟩
        have hw3 := hu (y * 256 + x) ⟨by omega, by omega⟩
        clear hu
        have hx7 : (k : Int) < 8 := by omega
        have hx0 : (0 : Int) ≤ (k : Int) := by omega
        go_wp2
        exact ⟨⟨k + 1, by omega, by go_num, congrArg (Value.int .u64) HS.out, trivial⟩, by simp [intOf]; omega⟩
      · obtain rfl : k = 8 := by omega
        have HE : Hid (wrap64 (Pk.up Y 8) = Pk.in8 Y) := Pk.up_all Y HTL.out
        clear hl8
        go_wp2
        go_ret
        exact ⟨by rw [← HE.out]; rfl, HR1, HO1⟩
end Go.Proofs.Ytgfnpofoedambaa

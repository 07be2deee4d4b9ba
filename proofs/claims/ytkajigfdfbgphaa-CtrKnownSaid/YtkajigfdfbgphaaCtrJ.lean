/-
  What CtrCut needs: rillkit.Pick, a beginning's bytes, the lowest 48 bits.
-/
import Derived.Test.YtkajigfdfbgphaaCtrI
namespace Go.Proofs.Ytkajigfdfbgphaa
open Go.RowKit

theorem low_of (e : Int) (c : Nat) (hc : c % 2 ^ 48 = 0) (hc2 : c < 18446744073709551616) : bits .xor .i64 e (c : Int) % 281474976710656 = e % 281474976710656 := by
  have h1 : ((BitVec.ofInt 64 e ^^^ BitVec.ofInt 64 (c : Int)).toNat) % 2 ^ 48 = ((e % 18446744073709551616).toNat) % 2 ^ 48 := by
    rw [BitVec.toNat_xor, BitVec.toNat_ofInt, BitVec.ofInt_natCast, BitVec.toNat_ofNat, Aes.x_mod, Nat.mod_eq_of_lt (show c < 2 ^ 64 by omega), hc, Nat.xor_zero]
    rfl
  unfold bits
  rw [IntKind.wrap_i64]
  show ((((BitVec.ofInt 64 e ^^^ BitVec.ofInt 64 (c : Int)).toNat : Int) + 9223372036854775808) % 18446744073709551616 - 9223372036854775808) % 281474976710656 = e % 281474976710656
  generalize (BitVec.ofInt 64 e ^^^ BitVec.ofInt 64 (c : Int)).toNat = m at *
  omega
theorem cb_low (e e' n n' i : Int) (h : e % 281474976710656 = e' % 281474976710656) (h2 : n % 281474976710656 = n' % 281474976710656) : Ctr.cb e n i = Ctr.cb e' n' i := by
  unfold Ctr.cb
  congr 1
  · omega
  congr 1
  · omega
  congr 1
  · omega
  congr 1
  · omega
  congr 1
  · omega
  congr 1
  · omega
  congr 1
  · omega
  congr 1
  · omega
  congr 1
  · omega
  congr 1
  · omega
  congr 1
  · omega
  congr 1
  omega
theorem stream_low (ks : List Int) (N : Nat) (e e' n n' : Int) (h : e % 281474976710656 = e' % 281474976710656) (h2 : n % 281474976710656 = n' % 281474976710656) : StreamOf ks N e n = StreamOf ks N e' n' := by
  unfold StreamOf Ctr.sblk
  funext i
  rw [cb_low (e % 18446744073709551616) (e' % 18446744073709551616) (n % 18446744073709551616) (n' % 18446744073709551616) i (by omega) (by omega)]
theorem stream_e48 (ks : List Int) (N : Nat) (e n : Int) : StreamOf ks N (bits .xor .i64 e 281474976710656) n = StreamOf ks N e n :=
  stream_low _ _ _ _ _ _ (low_of e 281474976710656 (by decide) (by decide)) rfl
theorem stream_n62 (ks : List Int) (N : Nat) (e n : Int) : StreamOf ks N e (bits .xor .i64 n 4611686018427387904) = StreamOf ks N e n :=
  stream_low _ _ _ _ _ _ rfl (low_of n 4611686018427387904 (by decide) (by decide))
theorem xs_take (S : Nat → List Int) (L : List Int) (k : Nat) (hk : k ≤ L.length) : Ctr.xs S (L.take k) = (Ctr.xs S L).take k := by
  apply Ctr.ext_getD
  · rw [Ctr.xs_len, List.length_take, List.length_take, Ctr.xs_len]
  · intro j hj
    rw [Ctr.xs_len, List.length_take] at hj
    have e : ∀ l : List Int, (l.take k).getD j 0 = l.getD j 0 := fun l => by rw [List.getD_eq_getElem?_getD, List.getElem?_take, if_pos (by omega), List.getD_eq_getElem?_getD]
    rw [Ctr.xs_get _ _ _ (by rw [List.length_take]; omega), e, e, Ctr.xs_get _ _ _ (by omega)]
set_option maxHeartbeats 1000000 in
theorem pick_any (k n : Int) (h1 : 1 ≤ n) (hn : n ≤ 1000000) (w : World) : Calls Try.prog 21 #[.int .i64 k, .int .i64 n] w fun r w' => w' = w ∧ ∃ j : Nat, (j : Int) < n ∧ r = .returned (.int .i64 (j : Int)) := by
  have hlt : k.tmod n < n := Int.tmod_lt_of_pos k (by omega)
  have hge : -n < k.tmod n := by
    have h := Int.tmod_lt_of_pos (-k) (show 0 < n by omega)
    rw [Int.neg_tmod] at h
    omega
  have hw : IntKind.i64.wrap (k.tmod n) = k.tmod n := IntWalk.i64_in _ ⟨by omega, by omega⟩
  have hnz : n ≠ 0 := by omega
  have hw2 : IntKind.i64.wrap (k.tmod n + n) = k.tmod n + n := IntWalk.i64_in _ ⟨by omega, by omega⟩
  by_cases h0 : k.tmod n < 0
  · go_enter Try.func21, Try.ntmps21
    go_wp2
    go_ret
    exact ⟨rfl, (k.tmod n + n).toNat, by omega, by congr 2; show Value.int .i64 (k.tmod n + n) = _; congr 1; omega⟩
  · have h0' : 0 ≤ k.tmod n := by omega
    go_enter Try.func21, Try.ntmps21
    go_wp2
    go_ret
    exact ⟨rfl, (k.tmod n).toNat, by omega, by congr 2; show Value.int .i64 (k.tmod n) = _; congr 1; omega⟩
end Go.Proofs.Ytkajigfdfbgphaa

/-
  Contracts of the reference: rillref09.Int, Sum.
-/
import Derived.Test.YtgfnpofoedambaaPaJ
namespace Go.Proofs.Ytgfnpofoedambaa
open Go.RowKit

theorem Pk.u_byte (v : Int) (i : Nat) (hi : i ≤ 7) : v % 18446744073709551616 / 256 ^ i % 256 = v / 256 ^ i % 256 := by
  match i, hi with
  | 0, _ => simp
  | 1, _ => simp; omega
  | 2, _ => simp; omega
  | 3, _ => simp; omega
  | 4, _ => simp; omega
  | 5, _ => simp; omega
  | 6, _ => simp; omega
  | 7, _ => simp; omega
set_option maxHeartbeats 1000000 in
set_option maxRecDepth 100000 in
theorem refint_any (L : List Int) (v : Int) (p : Option Addr) (n c m : Nat) (hn : L.length = n) (hm : n + 8 = m) (hL : n ≤ 1000000) (w : World) (hp : Bs w p c L) :
    Calls Try.prog 26 #[.slice p n c, .int .i64 v] w (RowOf (L ++ Pk.e8 v 8) m w) := by
  have HP := Lib.hid hp; clear hp
  have HN := Lib.hid hn; clear hn
  obtain ⟨i0, hi, hz0, hz1, hz2⟩ := info_parts Try.info_u8
  have HO : Hid ((w.alloc (.cells #[] 5)).ownsRow w.heap.size 5 1 (.slice (some ⟨w.heap.size, 0, none⟩) 0 0) 0 (U8s [])) := by
    refine ⟨by unfold U8s; rfl, Or.inr ⟨w.heap.size, 0, _, rfl, Nat.le_refl _, heap_alloc_new w _, Nat.le_refl _, by unfold maxLen; omega, by simp, by unfold U8s; simp⟩⟩
  have HB : Hid (Below w.heap.size w (w.alloc (.cells #[] 5))) := (Below.refl _ w).alloc (Nat.le_refl _) _
  have HBS : Hid (Bs (w.alloc (.cells #[] 5)) p c L) := HP.out.old HB.out
  go_enter Try.func26, Try.ntmps26
  go_wp2_with (first
    | (at_builtin; refine append_bts _ _ L w.heap.size _ _ _ p _ c rfl rfl HN.out HBS.out HO.out (by omega) (by simp) ?_; intro v5 w5 ho5 hg5; have HO5 := Lib.hid ho5; have HG5 := Lib.hid hg5; clear ho5 hg5)
    | go_in)
  have HO0 : Hid (w5.ownsRow w.heap.size 5 1 v5 (n + 0) (U8s (L ++ Pk.e8 v 0))) := by
    have h := HO5.out
    rw [List.nil_append] at h
    rw [show Pk.e8 v 0 = [] from List.eq_nil_of_length_eq_zero (Pk.e8_len _ _), List.append_nil, Nat.add_zero]
    rw [Nat.zero_add] at h
    exact h
  have HB5 : Hid (Below w.heap.size w w5) := HB.out.grown HG5.out (by simp) (fun q hq => (HO.out.lt q hq).1)
  have HU : Hid (IntKind.u64.wrap v = v % 18446744073709551616) := by show _ = _; unfold IntKind.wrap; simp [IntKind.signed, IntKind.bits]
  clear HO5 HG5 HO HB HBS
  generalize IntKind.u64.wrap v = U at *
  go_loopw [5, 7] (fun u5 u7 wr => ∃ k : Nat, k ≤ 8 ∧ u7 = .int .i64 (7 - (k : Int)) ∧ Hid (wr.ownsRow w.heap.size 5 1 u5 (n + k) (U8s (L ++ Pk.e8 v k))) ∧ Hid (Below w.heap.size w wr)) (fun _ u7 _ => (intOf u7 + 1).toNat)
  case atStart => exact ⟨0, by omega, rfl, HO0.out, HB5.out⟩
  case round =>
    clear HO0 HB5
    obtain ⟨k, hk, rfl, HO, HB⟩ := hrel
    by_cases hlt : k < 8
    · have hx0 : 7 - (k : Int) ≥ 0 := by omega
      have hw3 : IntKind.i64.wrap (8 * (7 - (k : Int))) = 8 * (7 - (k : Int)) := IntWalk.i64_in _ ⟨by omega, by omega⟩
      have hw5 : wrap64 (8 * (7 - (k : Int))) = 8 * (7 - (k : Int)) := IntWalk.wrap64_in _ ⟨by omega, by omega⟩
      have hw4 : IntKind.u64.wrap (8 * (7 - (k : Int))) = 8 * (7 - (k : Int)) := by unfold IntKind.wrap; simp [IntKind.signed, IntKind.bits]; omega
      have hx6 : (2 : Int) ^ (8 * (7 - (k : Int))).toNat = 256 ^ (7 - k) := by
        rw [show (8 * (7 - (k : Int))).toNat = 8 * (7 - k) by omega, Int.pow_mul]
        rfl
      have HX : Hid (U / 256 ^ (7 - k) % 256 = v / 256 ^ (7 - k) % 256) := by show _ = _; rw [HU.out]; exact Pk.u_byte v (7 - k) (by omega)
      have hx7 : (k : Int) ≤ 7 := by omega
      go_wp2_with (first
        | (at_builtin; refine wpList_append_own _ rfl _ _ 29 rfl w.heap.size 5 i0 (.int .u8 0) 1 1 Try.underlying29 hi hz0 hz1 hz2 rfl (by decide) _ _ _ rfl (HO.out.alloc _) ⟨wr.heap.size, 0, none⟩ 1 1 [.int .u8 (U / 256 ^ (7 - k) % 256)] rfl rfl (u8_cell _ _ _) (u8_one _) (by unfold maxLen; omega) (by omega) (by have := HB.out.size; simp; omega) ?_)
        | go_in)
      intro v' w1 hown' hgrow _
      have hb1 := below_own HB.out (HB.out.size) HO.out hgrow
      rw [U8s_snoc, HX.out, List.append_assoc, ← Pk.e8_succ] at hown'
      have HO' := Lib.hid hown'
      have HB' := Lib.hid hb1
      clear hgrow HO HB hown' hb1
      go_wp2
      refine ⟨⟨k + 1, by omega, ?_, HO'.out, HB'.out⟩, by simp [intOf]; omega⟩
      congr 1
      omega
    · obtain rfl : k = 8 := by omega
      clear hlt
      go_wp2
      go_ret
      obtain ⟨p', c', rfl, hbs, hlen⟩ := own_bs HO.out (Sha.byt_append HP.out.bat.1 (Pk.e8_byt v 8))
      have hl : (L ++ Pk.e8 v 8).length = m := by rw [List.length_append, HN.out, Pk.e8_len]; exact hm
      have h := HO.out
      rw [hl, hm] at h
      rw [hl]
      exact ⟨p', c', rfl, h, hbs, HB.out⟩

set_option maxHeartbeats 1000000 in
set_option maxRecDepth 100000 in
theorem refsum_any (L S : List Int) (hS : S.length = 32) (hb : Sha.Byt S) (p : Option Addr) (n c m : Nat) (hn : L.length = n) (hm : n + 32 = m) (hL : n ≤ 1000000) (w : World) (hp : Bs w p c L) :
    Calls Try.prog 40 #[.slice p n c, A32 S] w (RowOf (L ++ S) m w) := by
  have HP := Lib.hid hp; clear hp
  have HN := Lib.hid hn; clear hn
  have HS := Lib.hid hS
  have HSB := Lib.hid hb
  obtain ⟨i0, hi, hz0, hz1, hz2⟩ := info_parts Try.info_u8
  obtain ⟨A, hA⟩ : ∃ A, Hid (A = (S.map (Value.int .u8)).toArray) := ⟨_, rfl⟩
  have HAS : Hid (A.size = 32) := by show _ = _; rw [hA.out]; simp [hS]
  have hsz := row_size Try.sizeSum HAS
  have h1 : A.all (·.oneCell') = true := by rw [hA.out]; exact all_oneCell_toArray (bytes_one S)
  have e32 : A32 S = .agg A := by unfold A32; rw [hA.out]
  have HCS : Hid (∀ y : World, ∀ k : Nat, k < 32 → y.heap[w.heap.size]? = some (.cells A 23 (0, 0)) → y.cell? ⟨w.heap.size, k, none⟩ = some (.int .u8 (S.getD k 0))) := fun y k hk hy => by
    rw [hA.out] at hy
    exact row_cell hy k (by rw [HS.out]; exact hk)
  rw [e32]
  clear hA hS hb
  have R0 : Hid ((w.alloc (.cells A 23)).heap[w.heap.size]? = some (.cells A 23 (0, 0))) := heap_alloc_new w _
  have B0 : Hid (Below w.heap.size w (w.alloc (.cells A 23))) := (Below.refl _ w).alloc (Nat.le_refl _) _
  go_enter Try.func40, Try.ntmps40
  go_upto_region 1 with (fail)
  obtain ⟨w0, hw0⟩ : ∃ x, x = w.alloc (.cells A 23) := ⟨_, rfl⟩
  have hs0 : Hid (w0.heap.size = w.heap.size + 1) := by show _ = _; rw [hw0]; simp
  rw [← hw0] at B0 R0 ⊢
  clear hw0
  have HO : Hid ((w0.alloc (.cells #[] 5)).ownsRow w0.heap.size 5 1 (.slice (some ⟨w0.heap.size, 0, none⟩) 0 0) 0 (U8s [])) := by
    refine ⟨by unfold U8s; rfl, Or.inr ⟨w0.heap.size, 0, _, rfl, Nat.le_refl _, heap_alloc_new w0 _, Nat.le_refl _, by unfold maxLen; omega, by simp, by unfold U8s; simp⟩⟩
  have HB : Hid (Below w0.heap.size w0 (w0.alloc (.cells #[] 5))) := (Below.refl _ w0).alloc (Nat.le_refl _) _
  have HBS : Hid (Bs (w0.alloc (.cells #[] 5)) p c L) := (HP.out.old B0.out).old HB.out
  go_wp2_with (first
    | (at_builtin; refine append_bts _ _ L w0.heap.size _ _ _ p _ c rfl rfl HN.out HBS.out HO.out (by omega) (by simp) ?_; intro v5 w5 ho5 hg5; have HO5 := Lib.hid ho5; have HG5 := Lib.hid hg5; clear ho5 hg5)
    | go_in)
  have HO0 : Hid (w5.ownsRow w0.heap.size 5 1 v5 (n + 0) (U8s (L ++ S.take 0))) := by
    have h := HO5.out
    rw [List.nil_append, Nat.zero_add] at h
    rw [List.take_zero, List.append_nil, Nat.add_zero]
    exact h
  have HB5 : Hid (Below w0.heap.size w0 w5) := HB.out.grown HG5.out (by simp) (fun q hq => (HO.out.lt q hq).1)
  clear HO5 HG5 HO HB HBS
  go_loopw [5, 6] (fun u5 u6 wr => ∃ k : Nat, k ≤ 32 ∧ u6 = .int .i64 k ∧ Hid (wr.ownsRow w0.heap.size 5 1 u5 (n + k) (U8s (L ++ S.take k))) ∧ Hid (Below w0.heap.size w0 wr)) (fun _ u6 _ => 32 - (intOf u6).toNat)
  case atStart => exact ⟨0, by omega, rfl, HO0.out, HB5.out⟩
  case round =>
    clear HO0 HB5
    obtain ⟨k, hk, rfl, HO, HB⟩ := hrel
    by_cases hlt : k < 32
    · have c0 := HCS.out wr k hlt ((HB.out.block _ (by have := hs0.out; omega)).trans R0.out)
      have HX : Hid (S.take k ++ [S.getD k 0] = S.take (k + 1)) := take_snoc S k (by rw [HS.out]; exact hlt)
      obtain ⟨x, hx⟩ : ∃ x, S.getD k 0 = x := ⟨_, rfl⟩
      rw [hx] at c0 HX
      have hx7 : (k : Int) < 32 := by omega
      go_wp2_with (first
        | (at_builtin; refine wpList_append_own _ rfl _ _ 29 rfl w0.heap.size 5 i0 (.int .u8 0) 1 1 Try.underlying29 hi hz0 hz1 hz2 rfl (by decide) _ _ _ rfl (HO.out.alloc _) ⟨wr.heap.size, 0, none⟩ 1 1 [.int .u8 x] rfl rfl (u8_cell _ _ _) (u8_one _) (by unfold maxLen; omega) (by omega) (by have := HB.out.size; simp; omega) ?_)
        | go_in)
      intro v' w1 hown' hgrow _
      have hb1 := below_own HB.out (HB.out.size) HO.out hgrow
      rw [U8s_snoc, List.append_assoc, HX.out] at hown'
      have HO' := Lib.hid hown'
      have HB' := Lib.hid hb1
      clear hgrow HO HB hown' hb1 hx
      go_wp2
      exact ⟨⟨k + 1, by omega, by go_num, HO'.out, HB'.out⟩, by simp [intOf]; omega⟩
    · obtain rfl : k = 32 := by omega
      clear hlt
      go_wp2
      go_ret
      have h := HO.out
      rw [List.take_of_length_le (by rw [HS.out]; exact Nat.le_refl _)] at h
      obtain ⟨p', c', rfl, hbs, hlen⟩ := own_bs h (Sha.byt_append HP.out.bat.1 HSB.out)
      have hl : (L ++ S).length = m := by rw [List.length_append, HN.out, HS.out]; exact hm
      rw [hl, hm] at h
      rw [hl]
      exact ⟨p', c', rfl, own_base h (by have := hs0.out; omega), hbs, B0.out.trans (HB.out.mono (by have := hs0.out; omega))⟩
end Go.Proofs.Ytgfnpofoedambaa

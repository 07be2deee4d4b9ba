/-
  Contract: (*aes.Cipher).words for keys of 16, 24 and 32 bytes.
-/
import Derived.Test.YtkajigfdfbgphaaAesD
namespace Go.Proofs.Ytkajigfdfbgphaa
open Go.RowKit

set_option maxHeartbeats 4000000 in
set_option maxRecDepth 100000 in
theorem words_4 (T K : List Int) (hK : K.length = 16) (c : Nat) (p : Option Addr) (cap : Nat) (hcap : 16 ≤ cap) (hcm : cap ≤ 9223372036854775807) (w : World) (hT : Tbl w c T) (hcw : c < w.heap.size) (hp : BAt w p K) :
    Calls Try.prog 26 #[.pointer (some ⟨c, 0, none⟩), .slice p 16 cap] w (WdsSay T K w) := by
  have HT := Lib.hid hT; clear hT
  have Hp := Lib.hid hp; clear hp
  have Hcw := Lib.hid hcw; clear hcw
  obtain ⟨HW, HWL⟩ : Hid (Aes.kws T K = (Aes.kx T K 4 40).l) ∧ Hid ((Aes.kws T K).length = 44) := by
    have e : K.length / 4 = 4 := by omega
    refine ⟨?_, ?_⟩
    · show _ = _; rw [Aes.kws, e]
    · show _ = _; rw [Aes.kws, e, Aes.kx_len]
  have HK := Lib.hid hK; clear hK
  go_enter Try.func26, Try.ntmps26
  go_upto_region 4 with ((with_reducible refine make_at _ 54 _ _ (.int .u32 0) 4 44 44 ?_ ?_ ?_ ?_ rfl ?_ ?_ ?_ ?_); (exact rfl); (exact rfl); (exact Try.underlying52); (exact Try.info_u32); omega; omega; omega; intro w1 G1 hb1 hs1)
  have G0 : Hid (w1.heap[w.heap.size]? = some (.cells ((Aes.wa 44 (Aes.fw K 0)).map (Value.int .u32)).toArray 54 (0, 0))) := by
    show _ = _; rw [Aes.fw_nil, Aes.wa_nil]; exact G1.out
  have HB1 := Lib.hid hb1; clear hb1 G1 hs1
  go_wp2
  go_loopw [22] (fun v wr => ∃ k : Nat, k ≤ 4 ∧ v = .int .i64 k ∧ Hid (wr.heap[w.heap.size]? = some (.cells ((Aes.wa 44 (Aes.fw K k)).map (Value.int .u32)).toArray 54 (0, 0))) ∧ Hid (Below w.heap.size w wr)) (fun v _ => 4 - (intOf v).toNat)
  case atStart => exact ⟨0, by omega, rfl, G0.out, HB1.out⟩
  case round =>
    clear G0 HB1
    obtain ⟨k, hk, rfl, HG, HB⟩ := hrel
    by_cases hlt : k < 4
    · obtain ⟨ab, ao, hpp, hcs⟩ := (Hp.out.old HB.out).2 (by have := HK.out; omega)
      subst hpp
      have HC := Lib.hid hcs; clear hcs
      have HKB : Hid (∀ i, 0 ≤ K.getD i 0 ∧ K.getD i 0 ≤ 255) := fun i => Sha.byt_getD Hp.out.1 i
      have hki : (k : Int) < 4 := by omega
      go_wp2_with (go_at_call 44; refine (word_any (K.getD (4 * k) 0) (K.getD (4 * k + 1) 0) (K.getD (4 * k + 2) 0) (K.getD (4 * k + 3) 0) ab (ao + 4 * k) _ _ _ (by omega) (HC.out (4 * k) (by have := HK.out; omega)) (HC.out (4 * k + 1) (by have := HK.out; omega)) (HC.out (4 * k + 2) (by have := HK.out; omega)) (HC.out (4 * k + 3) (by have := HK.out; omega)) (HKB.out _) (HKB.out _) (HKB.out _) (HKB.out _)).mono ?_; rintro e w2 ⟨rfl, q, hw2⟩; have HG2 : Hid (w2.heap[w.heap.size]? = some (.cells ((Aes.wa 44 (Aes.fw K k)).map (Value.int .u32)).toArray 54 (0, 0))) := (by rw [hw2]; exact HG.out); have HB2 : Hid (Below w.heap.size w w2) := (by rw [hw2]; exact below_dn HB.out q); clear hw2; have cy := u32_cell HG2.out k (by rw [Aes.wa_len _ _ (by rw [Aes.fw_len]; omega)]; omega); have fy := frozen_of_row w2 w.heap.size k _ _ HG2.out)
      refine ⟨⟨k + 1, by omega, by go_num, ?_, ?_⟩, by simp [intOf]; omega⟩
      · have h := u32_set (i := k) (x := Aes.be4 (K.getD (4 * k) 0) (K.getD (4 * k + 1) 0) (K.getD (4 * k + 2) 0) (K.getD (4 * k + 3) 0)) HG2.out
        have e := Aes.wa_set 44 (Aes.fw K k) (Aes.be4 (K.getD (4 * k) 0) (K.getD (4 * k + 1) 0) (K.getD (4 * k + 2) 0) (K.getD (4 * k + 3) 0)) (by rw [Aes.fw_len]; omega)
        rw [Aes.fw_len, ← Aes.fw_succ] at e
        rw [e] at h
        exact h
      · exact HB2.out.setCell (by simp) _
    · have E : k = 4 := by omega
      have hge : 4 ≤ k := by omega
      have G0 : Hid (wr.heap[w.heap.size]? = some (.cells ((Aes.wa 44 (Aes.kx T K 4 0).l).map (Value.int .u32)).toArray 54 (0, 0))) := by
        have h := HG.out
        rw [E] at h
        show _ = _
        rw [Aes.kx_zero]
        exact h
      clear E hlt HG
      go_wp2
      go_loopw [9, 10] (fun vr vi wr => ∃ (j : Nat) (r : Int), j ≤ 40 ∧ vi = .int .i64 ((j : Int) + 4) ∧ vr = .int .u8 r ∧ Hid (r = (Aes.kx T K 4 j).r) ∧ Hid (wr.heap[w.heap.size]? = some (.cells ((Aes.wa 44 (Aes.kx T K 4 j).l).map (Value.int .u32)).toArray 54 (0, 0))) ∧ Hid (Below w.heap.size w wr)) (fun _ vi _ => 44 - (intOf vi).toNat)
      case atStart => exact ⟨0, 1, by omega, by simp, rfl, (by show _ = _; rw [Aes.kx_zero]), G0.out, HB.out⟩
      case round =>
        clear G0 HB hge
        obtain ⟨j, r, hj, rfl, rfl, HR, HG, HB⟩ := hrel
        by_cases hlt : j < 40
        · have hr := Aes.kx_r T K 4 j
          rw [← HR.out] at hr
          obtain ⟨hr0, hr1⟩ := hr
          have hlen := Aes.kx_len T K 4 j
          have ct := u32_cell HG.out (j + 3) (by rw [Aes.wa_len _ _ (by omega)]; omega)
          have cl := u32_cell HG.out j (by rw [Aes.wa_len _ _ (by omega)]; omega)
          rw [Aes.wa_get _ _ _ (by omega)] at ct cl
          have HN : Hid ((Aes.kx T K 4 (j + 1)).l = (Aes.kx T K 4 j).l ++ [bits .xor .u32 ((Aes.kx T K 4 j).l.getD j 0) (Aes.nt T 4 (4 + j) ((Aes.kx T K 4 j).l.getD (j + 3) 0) r)]) := by
            show _ = _
            rw [Aes.kx_succ_l, ← HR.out, show 4 + j - 1 = j + 3 by omega]
          have HRN : Hid ((Aes.kx T K 4 (j + 1)).r = if (4 + j) % 4 = 0 then Aes.pr r 2 else r) := by
            show _ = _
            rw [Aes.kx_succ_r, ← HR.out]
          have HSET : Hid (∀ x, (Aes.wa 44 (Aes.kx T K 4 j).l).set (j + 4) x = Aes.wa 44 ((Aes.kx T K 4 j).l ++ [x])) := fun x => by
            have h := Aes.wa_set 44 (Aes.kx T K 4 j).l x (by omega)
            rw [hlen, Nat.add_comm 4 j] at h
            exact h
          have HLT : Hid ((Aes.wa 44 (Aes.kx T K 4 j).l).length = 44) := Aes.wa_len _ _ (by omega)
          clear HR hlen
          have HTB : Hid (Tbl wr c T) := HT.out.below HB.out Hcw.out
          generalize (Aes.kx T K 4 j).l.getD (j + 3) 0 = t0 at *
          generalize (Aes.kx T K 4 j).l.getD j 0 = l0 at *
          by_cases h0 : (4 + j) % 4 = 0
          · have HNT : Hid (Aes.nt T 4 (4 + j) t0 r = bits .xor .u32 (Aes.col T (Aes.rl 8 t0) (Aes.rl 8 t0) (Aes.rl 8 t0) (Aes.rl 8 t0)) (r * 16777216)) := by show _ = _; rw [Aes.nt, if_pos h0]
            have hi : ((j : Int) + 4) % 4 = 0 := by omega
            have hi2 : (j : Int) % 4 = 0 := by omega
            rw [HNT.out] at HN
            have HRN2 : Hid (Aes.pr r 2 = (Aes.kx T K 4 (j + 1)).r) := by have h := HRN.out; rw [if_pos h0] at h; exact h.symm
            clear HNT HRN h0
            go_wp2_with (first
              | (go_at_call 45; refine (rol_any _ _ (by omega) _).mono ?_; rintro e w2 ⟨rfl, rfl⟩)
              | (go_at_call 43; refine (product_any _ _ (by omega) (by omega) _).mono ?_; rintro e w2 ⟨rfl, rfl⟩)
              | (go_at_call 46; refine (column_any T c _ _ _ _ _ HTB.out).mono ?_; rintro e w2 ⟨rfl, q, hw2⟩; have HG2 : Hid (w2.heap[w.heap.size]? = some (.cells ((Aes.wa 44 (Aes.kx T K 4 j).l).map (Value.int .u32)).toArray 54 (0, 0))) := (by rw [hw2]; exact HG.out); have HB2 : Hid (Below w.heap.size w w2) := (by rw [hw2]; exact below_dn HB.out q); have cl2 : w2.cell? ⟨w.heap.size, j, none⟩ = some (.int .u32 l0) := (by rw [hw2]; exact cl); clear hw2; have cy := u32_cell HG2.out (j + 4) (by rw [HLT.out]; omega); have fy := frozen_of_row w2 w.heap.size (j + 4) _ _ HG2.out))
            refine ⟨⟨j + 1, _, by omega, by go_num, rfl, HRN2, ?_, ?_⟩, by simp [intOf]; omega⟩
            · have h := u32_set (i := j + 4) (x := bits .xor .u32 l0 (bits .xor .u32 (Aes.col T (Aes.rl 8 t0) (Aes.rl 8 t0) (Aes.rl 8 t0) (Aes.rl 8 t0)) (r * 16777216))) HG2.out
              rw [HSET.out, ← HN.out] at h
              exact h
            · exact HB2.out.setCell (by simp) _
          · have HRN2 : Hid (r = (Aes.kx T K 4 (j + 1)).r) := by have h := HRN.out; rw [if_neg h0] at h; exact h.symm
            have HNT : Hid (Aes.nt T 4 (4 + j) t0 r = t0) := by show _ = _; rw [Aes.nt, if_neg h0, if_neg (by omega)]
            have hi : ¬ ((j : Int) + 4) % 4 = 0 := by omega
            have hi2 : ¬ (j : Int) % 4 = 0 := by omega
            rw [HNT.out] at HN
            clear HNT HRN h0
            have cy := u32_cell HG.out (j + 4) (by rw [HLT.out]; omega)
            have fy := frozen_of_row wr w.heap.size (j + 4) _ _ HG.out
            go_wp2
            refine ⟨⟨j + 1, _, by omega, by go_num, rfl, HRN2, ?_, ?_⟩, by simp [intOf]; omega⟩
            · have h := u32_set (i := j + 4) (x := bits .xor .u32 l0 t0) HG.out
              rw [HSET.out, ← HN.out] at h
              exact h
            · exact HB.out.setCell (by simp) _
        · have E : j = 40 := by omega
          have hge : 40 ≤ j := by omega
          have HF : Hid (wr.heap[w.heap.size]? = some (.cells ((Aes.kws T K).map (Value.int .u32)).toArray 54 (0, 0))) := by
            have h := HG.out
            rw [E, Aes.wa_all _ _ (by rw [Aes.kx_len]), ← HW.out] at h
            exact h
          clear E hlt HG
          go_wp2
          go_ret
          exact ⟨w.heap.size, by rw [HWL.out]; rfl, Nat.le_refl _, HF, HB.out⟩

set_option maxHeartbeats 4000000 in
set_option maxRecDepth 100000 in
theorem words_6 (T K : List Int) (hK : K.length = 24) (c : Nat) (p : Option Addr) (cap : Nat) (hcap : 24 ≤ cap) (hcm : cap ≤ 9223372036854775807) (w : World) (hT : Tbl w c T) (hcw : c < w.heap.size) (hp : BAt w p K) :
    Calls Try.prog 26 #[.pointer (some ⟨c, 0, none⟩), .slice p 24 cap] w (WdsSay T K w) := by
  have HT := Lib.hid hT; clear hT
  have Hp := Lib.hid hp; clear hp
  have Hcw := Lib.hid hcw; clear hcw
  obtain ⟨HW, HWL⟩ : Hid (Aes.kws T K = (Aes.kx T K 6 46).l) ∧ Hid ((Aes.kws T K).length = 52) := by
    have e : K.length / 4 = 6 := by omega
    refine ⟨?_, ?_⟩
    · show _ = _; rw [Aes.kws, e]
    · show _ = _; rw [Aes.kws, e, Aes.kx_len]
  have HK := Lib.hid hK; clear hK
  go_enter Try.func26, Try.ntmps26
  go_upto_region 4 with ((with_reducible refine make_at _ 54 _ _ (.int .u32 0) 4 52 52 ?_ ?_ ?_ ?_ rfl ?_ ?_ ?_ ?_); (exact rfl); (exact rfl); (exact Try.underlying52); (exact Try.info_u32); omega; omega; omega; intro w1 G1 hb1 hs1)
  have G0 : Hid (w1.heap[w.heap.size]? = some (.cells ((Aes.wa 52 (Aes.fw K 0)).map (Value.int .u32)).toArray 54 (0, 0))) := by
    show _ = _; rw [Aes.fw_nil, Aes.wa_nil]; exact G1.out
  have HB1 := Lib.hid hb1; clear hb1 G1 hs1
  go_wp2
  go_loopw [22] (fun v wr => ∃ k : Nat, k ≤ 6 ∧ v = .int .i64 k ∧ Hid (wr.heap[w.heap.size]? = some (.cells ((Aes.wa 52 (Aes.fw K k)).map (Value.int .u32)).toArray 54 (0, 0))) ∧ Hid (Below w.heap.size w wr)) (fun v _ => 6 - (intOf v).toNat)
  case atStart => exact ⟨0, by omega, rfl, G0.out, HB1.out⟩
  case round =>
    clear G0 HB1
    obtain ⟨k, hk, rfl, HG, HB⟩ := hrel
    by_cases hlt : k < 6
    · obtain ⟨ab, ao, hpp, hcs⟩ := (Hp.out.old HB.out).2 (by have := HK.out; omega)
      subst hpp
      have HC := Lib.hid hcs; clear hcs
      have HKB : Hid (∀ i, 0 ≤ K.getD i 0 ∧ K.getD i 0 ≤ 255) := fun i => Sha.byt_getD Hp.out.1 i
      have hki : (k : Int) < 6 := by omega
      go_wp2_with (go_at_call 44; refine (word_any (K.getD (4 * k) 0) (K.getD (4 * k + 1) 0) (K.getD (4 * k + 2) 0) (K.getD (4 * k + 3) 0) ab (ao + 4 * k) _ _ _ (by omega) (HC.out (4 * k) (by have := HK.out; omega)) (HC.out (4 * k + 1) (by have := HK.out; omega)) (HC.out (4 * k + 2) (by have := HK.out; omega)) (HC.out (4 * k + 3) (by have := HK.out; omega)) (HKB.out _) (HKB.out _) (HKB.out _) (HKB.out _)).mono ?_; rintro e w2 ⟨rfl, q, hw2⟩; have HG2 : Hid (w2.heap[w.heap.size]? = some (.cells ((Aes.wa 52 (Aes.fw K k)).map (Value.int .u32)).toArray 54 (0, 0))) := (by rw [hw2]; exact HG.out); have HB2 : Hid (Below w.heap.size w w2) := (by rw [hw2]; exact below_dn HB.out q); clear hw2; have cy := u32_cell HG2.out k (by rw [Aes.wa_len _ _ (by rw [Aes.fw_len]; omega)]; omega); have fy := frozen_of_row w2 w.heap.size k _ _ HG2.out)
      refine ⟨⟨k + 1, by omega, by go_num, ?_, ?_⟩, by simp [intOf]; omega⟩
      · have h := u32_set (i := k) (x := Aes.be4 (K.getD (4 * k) 0) (K.getD (4 * k + 1) 0) (K.getD (4 * k + 2) 0) (K.getD (4 * k + 3) 0)) HG2.out
        have e := Aes.wa_set 52 (Aes.fw K k) (Aes.be4 (K.getD (4 * k) 0) (K.getD (4 * k + 1) 0) (K.getD (4 * k + 2) 0) (K.getD (4 * k + 3) 0)) (by rw [Aes.fw_len]; omega)
        rw [Aes.fw_len, ← Aes.fw_succ] at e
        rw [e] at h
        exact h
      · exact HB2.out.setCell (by simp) _
    · have E : k = 6 := by omega
      have hge : 6 ≤ k := by omega
      have G0 : Hid (wr.heap[w.heap.size]? = some (.cells ((Aes.wa 52 (Aes.kx T K 6 0).l).map (Value.int .u32)).toArray 54 (0, 0))) := by
        have h := HG.out
        rw [E] at h
        show _ = _
        rw [Aes.kx_zero]
        exact h
      clear E hlt HG
      go_wp2
      go_loopw [9, 10] (fun vr vi wr => ∃ (j : Nat) (r : Int), j ≤ 46 ∧ vi = .int .i64 ((j : Int) + 6) ∧ vr = .int .u8 r ∧ Hid (r = (Aes.kx T K 6 j).r) ∧ Hid (wr.heap[w.heap.size]? = some (.cells ((Aes.wa 52 (Aes.kx T K 6 j).l).map (Value.int .u32)).toArray 54 (0, 0))) ∧ Hid (Below w.heap.size w wr)) (fun _ vi _ => 52 - (intOf vi).toNat)
      case atStart => exact ⟨0, 1, by omega, by simp, rfl, (by show _ = _; rw [Aes.kx_zero]), G0.out, HB.out⟩
      case round =>
        clear G0 HB hge
        obtain ⟨j, r, hj, rfl, rfl, HR, HG, HB⟩ := hrel
        by_cases hlt : j < 46
        · have hr := Aes.kx_r T K 6 j
          rw [← HR.out] at hr
          obtain ⟨hr0, hr1⟩ := hr
          have hlen := Aes.kx_len T K 6 j
          have ct := u32_cell HG.out (j + 5) (by rw [Aes.wa_len _ _ (by omega)]; omega)
          have cl := u32_cell HG.out j (by rw [Aes.wa_len _ _ (by omega)]; omega)
          rw [Aes.wa_get _ _ _ (by omega)] at ct cl
          have HN : Hid ((Aes.kx T K 6 (j + 1)).l = (Aes.kx T K 6 j).l ++ [bits .xor .u32 ((Aes.kx T K 6 j).l.getD j 0) (Aes.nt T 6 (6 + j) ((Aes.kx T K 6 j).l.getD (j + 5) 0) r)]) := by
            show _ = _
            rw [Aes.kx_succ_l, ← HR.out, show 6 + j - 1 = j + 5 by omega]
          have HRN : Hid ((Aes.kx T K 6 (j + 1)).r = if (6 + j) % 6 = 0 then Aes.pr r 2 else r) := by
            show _ = _
            rw [Aes.kx_succ_r, ← HR.out]
          have HSET : Hid (∀ x, (Aes.wa 52 (Aes.kx T K 6 j).l).set (j + 6) x = Aes.wa 52 ((Aes.kx T K 6 j).l ++ [x])) := fun x => by
            have h := Aes.wa_set 52 (Aes.kx T K 6 j).l x (by omega)
            rw [hlen, Nat.add_comm 6 j] at h
            exact h
          have HLT : Hid ((Aes.wa 52 (Aes.kx T K 6 j).l).length = 52) := Aes.wa_len _ _ (by omega)
          clear HR hlen
          have HTB : Hid (Tbl wr c T) := HT.out.below HB.out Hcw.out
          generalize (Aes.kx T K 6 j).l.getD (j + 5) 0 = t0 at *
          generalize (Aes.kx T K 6 j).l.getD j 0 = l0 at *
          by_cases h0 : (6 + j) % 6 = 0
          · have HNT : Hid (Aes.nt T 6 (6 + j) t0 r = bits .xor .u32 (Aes.col T (Aes.rl 8 t0) (Aes.rl 8 t0) (Aes.rl 8 t0) (Aes.rl 8 t0)) (r * 16777216)) := by show _ = _; rw [Aes.nt, if_pos h0]
            have hi : ((j : Int) + 6) % 6 = 0 := by omega
            have hi2 : (j : Int) % 6 = 0 := by omega
            rw [HNT.out] at HN
            have HRN2 : Hid (Aes.pr r 2 = (Aes.kx T K 6 (j + 1)).r) := by have h := HRN.out; rw [if_pos h0] at h; exact h.symm
            clear HNT HRN h0
            go_wp2_with (first
              | (go_at_call 45; refine (rol_any _ _ (by omega) _).mono ?_; rintro e w2 ⟨rfl, rfl⟩)
              | (go_at_call 43; refine (product_any _ _ (by omega) (by omega) _).mono ?_; rintro e w2 ⟨rfl, rfl⟩)
              | (go_at_call 46; refine (column_any T c _ _ _ _ _ HTB.out).mono ?_; rintro e w2 ⟨rfl, q, hw2⟩; have HG2 : Hid (w2.heap[w.heap.size]? = some (.cells ((Aes.wa 52 (Aes.kx T K 6 j).l).map (Value.int .u32)).toArray 54 (0, 0))) := (by rw [hw2]; exact HG.out); have HB2 : Hid (Below w.heap.size w w2) := (by rw [hw2]; exact below_dn HB.out q); have cl2 : w2.cell? ⟨w.heap.size, j, none⟩ = some (.int .u32 l0) := (by rw [hw2]; exact cl); clear hw2; have cy := u32_cell HG2.out (j + 6) (by rw [HLT.out]; omega); have fy := frozen_of_row w2 w.heap.size (j + 6) _ _ HG2.out))
            refine ⟨⟨j + 1, _, by omega, by go_num, rfl, HRN2, ?_, ?_⟩, by simp [intOf]; omega⟩
            · have h := u32_set (i := j + 6) (x := bits .xor .u32 l0 (bits .xor .u32 (Aes.col T (Aes.rl 8 t0) (Aes.rl 8 t0) (Aes.rl 8 t0) (Aes.rl 8 t0)) (r * 16777216))) HG2.out
              rw [HSET.out, ← HN.out] at h
              exact h
            · exact HB2.out.setCell (by simp) _
          · have HRN2 : Hid (r = (Aes.kx T K 6 (j + 1)).r) := by have h := HRN.out; rw [if_neg h0] at h; exact h.symm
            have HNT : Hid (Aes.nt T 6 (6 + j) t0 r = t0) := by show _ = _; rw [Aes.nt, if_neg h0, if_neg (by omega)]
            have hi : ¬ ((j : Int) + 6) % 6 = 0 := by omega
            have hi2 : ¬ (j : Int) % 6 = 0 := by omega
            rw [HNT.out] at HN
            clear HNT HRN h0
            have cy := u32_cell HG.out (j + 6) (by rw [HLT.out]; omega)
            have fy := frozen_of_row wr w.heap.size (j + 6) _ _ HG.out
            go_wp2
            refine ⟨⟨j + 1, _, by omega, by go_num, rfl, HRN2, ?_, ?_⟩, by simp [intOf]; omega⟩
            · have h := u32_set (i := j + 6) (x := bits .xor .u32 l0 t0) HG.out
              rw [HSET.out, ← HN.out] at h
              exact h
            · exact HB.out.setCell (by simp) _
        · have E : j = 46 := by omega
          have hge : 46 ≤ j := by omega
          have HF : Hid (wr.heap[w.heap.size]? = some (.cells ((Aes.kws T K).map (Value.int .u32)).toArray 54 (0, 0))) := by
            have h := HG.out
            rw [E, Aes.wa_all _ _ (by rw [Aes.kx_len]), ← HW.out] at h
            exact h
          clear E hlt HG
          go_wp2
          go_ret
          exact ⟨w.heap.size, by rw [HWL.out]; rfl, Nat.le_refl _, HF, HB.out⟩

set_option maxHeartbeats 4000000 in
set_option maxRecDepth 100000 in
theorem words_8 (T K : List Int) (hK : K.length = 32) (c : Nat) (p : Option Addr) (cap : Nat) (hcap : 32 ≤ cap) (hcm : cap ≤ 9223372036854775807) (w : World) (hT : Tbl w c T) (hcw : c < w.heap.size) (hp : BAt w p K) :
    Calls Try.prog 26 #[.pointer (some ⟨c, 0, none⟩), .slice p 32 cap] w (WdsSay T K w) := by
  have HT := Lib.hid hT; clear hT
  have Hp := Lib.hid hp; clear hp
  have Hcw := Lib.hid hcw; clear hcw
  obtain ⟨HW, HWL⟩ : Hid (Aes.kws T K = (Aes.kx T K 8 52).l) ∧ Hid ((Aes.kws T K).length = 60) := by
    have e : K.length / 4 = 8 := by omega
    refine ⟨?_, ?_⟩
    · show _ = _; rw [Aes.kws, e]
    · show _ = _; rw [Aes.kws, e, Aes.kx_len]
  have HK := Lib.hid hK; clear hK
  go_enter Try.func26, Try.ntmps26
  go_upto_region 4 with ((with_reducible refine make_at _ 54 _ _ (.int .u32 0) 4 60 60 ?_ ?_ ?_ ?_ rfl ?_ ?_ ?_ ?_); (exact rfl); (exact rfl); (exact Try.underlying52); (exact Try.info_u32); omega; omega; omega; intro w1 G1 hb1 hs1)
  have G0 : Hid (w1.heap[w.heap.size]? = some (.cells ((Aes.wa 60 (Aes.fw K 0)).map (Value.int .u32)).toArray 54 (0, 0))) := by
    show _ = _; rw [Aes.fw_nil, Aes.wa_nil]; exact G1.out
  have HB1 := Lib.hid hb1; clear hb1 G1 hs1
  go_wp2
  go_loopw [22] (fun v wr => ∃ k : Nat, k ≤ 8 ∧ v = .int .i64 k ∧ Hid (wr.heap[w.heap.size]? = some (.cells ((Aes.wa 60 (Aes.fw K k)).map (Value.int .u32)).toArray 54 (0, 0))) ∧ Hid (Below w.heap.size w wr)) (fun v _ => 8 - (intOf v).toNat)
  case atStart => exact ⟨0, by omega, rfl, G0.out, HB1.out⟩
  case round =>
    clear G0 HB1
    obtain ⟨k, hk, rfl, HG, HB⟩ := hrel
    by_cases hlt : k < 8
    · obtain ⟨ab, ao, hpp, hcs⟩ := (Hp.out.old HB.out).2 (by have := HK.out; omega)
      subst hpp
      have HC := Lib.hid hcs; clear hcs
      have HKB : Hid (∀ i, 0 ≤ K.getD i 0 ∧ K.getD i 0 ≤ 255) := fun i => Sha.byt_getD Hp.out.1 i
      have hki : (k : Int) < 8 := by omega
      go_wp2_with (go_at_call 44; refine (word_any (K.getD (4 * k) 0) (K.getD (4 * k + 1) 0) (K.getD (4 * k + 2) 0) (K.getD (4 * k + 3) 0) ab (ao + 4 * k) _ _ _ (by omega) (HC.out (4 * k) (by have := HK.out; omega)) (HC.out (4 * k + 1) (by have := HK.out; omega)) (HC.out (4 * k + 2) (by have := HK.out; omega)) (HC.out (4 * k + 3) (by have := HK.out; omega)) (HKB.out _) (HKB.out _) (HKB.out _) (HKB.out _)).mono ?_; rintro e w2 ⟨rfl, q, hw2⟩; have HG2 : Hid (w2.heap[w.heap.size]? = some (.cells ((Aes.wa 60 (Aes.fw K k)).map (Value.int .u32)).toArray 54 (0, 0))) := (by rw [hw2]; exact HG.out); have HB2 : Hid (Below w.heap.size w w2) := (by rw [hw2]; exact below_dn HB.out q); clear hw2; have cy := u32_cell HG2.out k (by rw [Aes.wa_len _ _ (by rw [Aes.fw_len]; omega)]; omega); have fy := frozen_of_row w2 w.heap.size k _ _ HG2.out)
      refine ⟨⟨k + 1, by omega, by go_num, ?_, ?_⟩, by simp [intOf]; omega⟩
      · have h := u32_set (i := k) (x := Aes.be4 (K.getD (4 * k) 0) (K.getD (4 * k + 1) 0) (K.getD (4 * k + 2) 0) (K.getD (4 * k + 3) 0)) HG2.out
        have e := Aes.wa_set 60 (Aes.fw K k) (Aes.be4 (K.getD (4 * k) 0) (K.getD (4 * k + 1) 0) (K.getD (4 * k + 2) 0) (K.getD (4 * k + 3) 0)) (by rw [Aes.fw_len]; omega)
        rw [Aes.fw_len, ← Aes.fw_succ] at e
        rw [e] at h
        exact h
      · exact HB2.out.setCell (by simp) _
    · have E : k = 8 := by omega
      have hge : 8 ≤ k := by omega
      have G0 : Hid (wr.heap[w.heap.size]? = some (.cells ((Aes.wa 60 (Aes.kx T K 8 0).l).map (Value.int .u32)).toArray 54 (0, 0))) := by
        have h := HG.out
        rw [E] at h
        show _ = _
        rw [Aes.kx_zero]
        exact h
      clear E hlt HG
      go_wp2
      go_loopw [9, 10] (fun vr vi wr => ∃ (j : Nat) (r : Int), j ≤ 52 ∧ vi = .int .i64 ((j : Int) + 8) ∧ vr = .int .u8 r ∧ Hid (r = (Aes.kx T K 8 j).r) ∧ Hid (wr.heap[w.heap.size]? = some (.cells ((Aes.wa 60 (Aes.kx T K 8 j).l).map (Value.int .u32)).toArray 54 (0, 0))) ∧ Hid (Below w.heap.size w wr)) (fun _ vi _ => 60 - (intOf vi).toNat)
      case atStart => exact ⟨0, 1, by omega, by simp, rfl, (by show _ = _; rw [Aes.kx_zero]), G0.out, HB.out⟩
      case round =>
        clear G0 HB hge
        obtain ⟨j, r, hj, rfl, rfl, HR, HG, HB⟩ := hrel
        by_cases hlt : j < 52
        · have hr := Aes.kx_r T K 8 j
          rw [← HR.out] at hr
          obtain ⟨hr0, hr1⟩ := hr
          have hlen := Aes.kx_len T K 8 j
          have ct := u32_cell HG.out (j + 7) (by rw [Aes.wa_len _ _ (by omega)]; omega)
          have cl := u32_cell HG.out j (by rw [Aes.wa_len _ _ (by omega)]; omega)
          rw [Aes.wa_get _ _ _ (by omega)] at ct cl
          have HN : Hid ((Aes.kx T K 8 (j + 1)).l = (Aes.kx T K 8 j).l ++ [bits .xor .u32 ((Aes.kx T K 8 j).l.getD j 0) (Aes.nt T 8 (8 + j) ((Aes.kx T K 8 j).l.getD (j + 7) 0) r)]) := by
            show _ = _
            rw [Aes.kx_succ_l, ← HR.out, show 8 + j - 1 = j + 7 by omega]
          have HRN : Hid ((Aes.kx T K 8 (j + 1)).r = if (8 + j) % 8 = 0 then Aes.pr r 2 else r) := by
            show _ = _
            rw [Aes.kx_succ_r, ← HR.out]
          have HSET : Hid (∀ x, (Aes.wa 60 (Aes.kx T K 8 j).l).set (j + 8) x = Aes.wa 60 ((Aes.kx T K 8 j).l ++ [x])) := fun x => by
            have h := Aes.wa_set 60 (Aes.kx T K 8 j).l x (by omega)
            rw [hlen, Nat.add_comm 8 j] at h
            exact h
          have HLT : Hid ((Aes.wa 60 (Aes.kx T K 8 j).l).length = 60) := Aes.wa_len _ _ (by omega)
          clear HR hlen
          have HTB : Hid (Tbl wr c T) := HT.out.below HB.out Hcw.out
          generalize (Aes.kx T K 8 j).l.getD (j + 7) 0 = t0 at *
          generalize (Aes.kx T K 8 j).l.getD j 0 = l0 at *
          by_cases h0 : (8 + j) % 8 = 0
          · have HNT : Hid (Aes.nt T 8 (8 + j) t0 r = bits .xor .u32 (Aes.col T (Aes.rl 8 t0) (Aes.rl 8 t0) (Aes.rl 8 t0) (Aes.rl 8 t0)) (r * 16777216)) := by show _ = _; rw [Aes.nt, if_pos h0]
            have hi : ((j : Int) + 8) % 8 = 0 := by omega
            have hi2 : (j : Int) % 8 = 0 := by omega
            rw [HNT.out] at HN
            have HRN2 : Hid (Aes.pr r 2 = (Aes.kx T K 8 (j + 1)).r) := by have h := HRN.out; rw [if_pos h0] at h; exact h.symm
            clear HNT HRN h0
            go_wp2_with (first
              | (go_at_call 45; refine (rol_any _ _ (by omega) _).mono ?_; rintro e w2 ⟨rfl, rfl⟩)
              | (go_at_call 43; refine (product_any _ _ (by omega) (by omega) _).mono ?_; rintro e w2 ⟨rfl, rfl⟩)
              | (go_at_call 46; refine (column_any T c _ _ _ _ _ HTB.out).mono ?_; rintro e w2 ⟨rfl, q, hw2⟩; have HG2 : Hid (w2.heap[w.heap.size]? = some (.cells ((Aes.wa 60 (Aes.kx T K 8 j).l).map (Value.int .u32)).toArray 54 (0, 0))) := (by rw [hw2]; exact HG.out); have HB2 : Hid (Below w.heap.size w w2) := (by rw [hw2]; exact below_dn HB.out q); have cl2 : w2.cell? ⟨w.heap.size, j, none⟩ = some (.int .u32 l0) := (by rw [hw2]; exact cl); clear hw2; have cy := u32_cell HG2.out (j + 8) (by rw [HLT.out]; omega); have fy := frozen_of_row w2 w.heap.size (j + 8) _ _ HG2.out))
            refine ⟨⟨j + 1, _, by omega, by go_num, rfl, HRN2, ?_, ?_⟩, by simp [intOf]; omega⟩
            · have h := u32_set (i := j + 8) (x := bits .xor .u32 l0 (bits .xor .u32 (Aes.col T (Aes.rl 8 t0) (Aes.rl 8 t0) (Aes.rl 8 t0) (Aes.rl 8 t0)) (r * 16777216))) HG2.out
              rw [HSET.out, ← HN.out] at h
              exact h
            · exact HB2.out.setCell (by simp) _
          · have HRN2 : Hid (r = (Aes.kx T K 8 (j + 1)).r) := by have h := HRN.out; rw [if_neg h0] at h; exact h.symm
            by_cases h4 : (8 + j) % 8 = 4
            · have HNT : Hid (Aes.nt T 8 (8 + j) t0 r = Aes.col T t0 t0 t0 t0) := by show _ = _; rw [Aes.nt, if_neg h0, if_pos ⟨rfl, h4⟩]
              have hi : ¬ ((j : Int) + 8) % 8 = 0 := by omega
              have hi2 : ¬ (j : Int) % 8 = 0 := by omega
              have hi3 : ((j : Int) + 8) % 8 = 4 := by omega
              have hi4 : (j : Int) % 8 = 4 := by omega
              rw [HNT.out] at HN
              clear HNT HRN h0 h4
              go_wp2_with (first
                | (go_at_call 46; refine (column_any T c _ _ _ _ _ HTB.out).mono ?_; rintro e w2 ⟨rfl, q, hw2⟩; have HG2 : Hid (w2.heap[w.heap.size]? = some (.cells ((Aes.wa 60 (Aes.kx T K 8 j).l).map (Value.int .u32)).toArray 54 (0, 0))) := (by rw [hw2]; exact HG.out); have HB2 : Hid (Below w.heap.size w w2) := (by rw [hw2]; exact below_dn HB.out q); have cl2 : w2.cell? ⟨w.heap.size, j, none⟩ = some (.int .u32 l0) := (by rw [hw2]; exact cl); clear hw2; have cy := u32_cell HG2.out (j + 8) (by rw [HLT.out]; omega); have fy := frozen_of_row w2 w.heap.size (j + 8) _ _ HG2.out))
              refine ⟨⟨j + 1, _, by omega, by go_num, rfl, HRN2, ?_, ?_⟩, by simp [intOf]; omega⟩
              · have h := u32_set (i := j + 8) (x := bits .xor .u32 l0 (Aes.col T t0 t0 t0 t0)) HG2.out
                rw [HSET.out, ← HN.out] at h
                exact h
              · exact HB2.out.setCell (by simp) _
            · have HNT : Hid (Aes.nt T 8 (8 + j) t0 r = t0) := by show _ = _; rw [Aes.nt, if_neg h0, if_neg (fun h => h4 h.2)]
              have hi : ¬ ((j : Int) + 8) % 8 = 0 := by omega
              have hi2 : ¬ (j : Int) % 8 = 0 := by omega
              have hi3 : ¬ ((j : Int) + 8) % 8 = 4 := by omega
              have hi4 : ¬ (j : Int) % 8 = 4 := by omega
              rw [HNT.out] at HN
              clear HNT HRN h0 h4
              have cy := u32_cell HG.out (j + 8) (by rw [HLT.out]; omega)
              have fy := frozen_of_row wr w.heap.size (j + 8) _ _ HG.out
              go_wp2
              refine ⟨⟨j + 1, _, by omega, by go_num, rfl, HRN2, ?_, ?_⟩, by simp [intOf]; omega⟩
              · have h := u32_set (i := j + 8) (x := bits .xor .u32 l0 t0) HG.out
                rw [HSET.out, ← HN.out] at h
                exact h
              · exact HB.out.setCell (by simp) _
        · have E : j = 52 := by omega
          have hge : 52 ≤ j := by omega
          have HF : Hid (wr.heap[w.heap.size]? = some (.cells ((Aes.kws T K).map (Value.int .u32)).toArray 54 (0, 0))) := by
            have h := HG.out
            rw [E, Aes.wa_all _ _ (by rw [Aes.kx_len]), ← HW.out] at h
            exact h
          clear E hlt HG
          go_wp2
          go_ret
          exact ⟨w.heap.size, by rw [HWL.out]; rfl, Nat.le_refl _, HF, HB.out⟩

end Go.Proofs.Ytkajigfdfbgphaa

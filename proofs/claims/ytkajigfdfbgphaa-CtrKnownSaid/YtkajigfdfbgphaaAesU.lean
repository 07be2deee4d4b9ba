/-
  Contracts: aes.New and Block as the laws meet them; rilllaw03.count, plain, known.
-/
import Derived.Test.YtkajigfdfbgphaaAesT
import Derived.Test.YtkajigfdfbgphaaAesV
import Derived.Laws.StructEq
import Derived.ChangeKeysEq
namespace Go.Proofs.Ytkajigfdfbgphaa
open Go.RowKit

theorem block_any (ks l : List Int) (N g : Nat) (w : World) (hC : Ciph w g Aes.TB ks) (hn : ks.length = 4 * (N + 2)) (hN : N ≤ 100) (hl : l.length = 16) (hlb : Sha.Byt l) :
    Calls Try.prog 15 #[.pointer (some ⟨g, 0, none⟩), Bk l] w (BkSay (Aes.blk Aes.TB ks N l) w) := by
  obtain ⟨kb, n, cap, base, hg, hlen, hown⟩ := hC
  obtain rfl : n = N + 2 := by omega
  have hs : (Aes.TB.map (Value.int .u8)).toArray.size = 256 := by simp [Aes.TB_len]
  obtain ⟨h1, h2, h3⟩ : N + 2 ≤ cap ∧ cap ≤ 9223372036854775807 ∧ True := by
    rcases hown.2 with ⟨h, _⟩ | ⟨g', cap', cur, hv, _, _, q1, q2, _⟩
    · cases h
    · cases hv
      unfold maxLen at q2
      exact ⟨q1, by omega, trivial⟩
  refine block_core Aes.TB ks l N g kb cap hl hlb hN w (tbl_of_cells rfl hg) ?_ h1 h2 ?_
  · rw [cell_of_row w g 256 _ _ _ hg, Array.getElem?_push, if_pos hs.symm]
  · intro j hj
    have h := hown.cells (g := kb) rfl j (.int .u32 (ks.getD j 0)) (by
      rw [W32s_eq, List.getElem?_map, List.getElem?_eq_getElem (by omega), List.getD_eq_getElem?_getD, List.getElem?_eq_getElem (by omega)]
      rfl)
    rw [Addr.add_mid, Nat.zero_add] at h
    exact h
theorem Ciph.below {w w' : World} {g : Nat} {T ks : List Int} {B : Nat} (h : Ciph w g T ks) (hb : Below B w w') (hB : w.heap.size ≤ B) : Ciph w' g T ks := by
  obtain ⟨kb, n, cap, base, hg, hlen, hown⟩ := h
  refine ⟨kb, n, cap, base, (hb.block _ (Nat.lt_of_lt_of_le (lt_of_block hg) hB)).trans hg, hlen, hown.1, ?_⟩
  rcases hown.2 with ⟨h, _⟩ | ⟨g', cap', cur, hv, q0, q1, q2⟩
  · cases h
  · exact Or.inr ⟨g', cap', cur, hv, q0, (hb.block _ (Nat.lt_of_lt_of_le (lt_of_block q1) hB)).trans q1, q2⟩
theorem Ciph.lt {w : World} {g : Nat} {T ks : List Int} (h : Ciph w g T ks) : g < w.heap.size := by
  obtain ⟨kb, n, cap, base, hg, _⟩ := h
  exact lt_of_block hg

set_option maxHeartbeats 1000000 in
theorem new_bad (p : Option Addr) (n cap : Nat) (h1 : n ≠ 16) (h2 : n ≠ 24) (h3 : n ≠ 32) (w : World) :
    Calls Try.prog 11 #[.slice p n cap] w fun e w' => e = .returned (.tuple #[.pointer none, .int .i64 1]) ∧ w' = w := by
  have e1 : ((n : Int) == 16) = false := by simp; omega
  have e2 : ((n : Int) == 24) = false := by simp; omega
  have e3 : ((n : Int) == 32) = false := by simp; omega
  have f1 : ¬ (n : Int) = 16 := by omega
  have f2 : ¬ (n : Int) = 24 := by omega
  have f3 : ¬ (n : Int) = 32 := by omega
  go_enter Try.func11, Try.ntmps11
  go_wp2
  go_ret2
  exact ⟨rfl, rfl⟩

/-- So many bytes filled. -/
def cnf (n k : Nat) : List Int := (List.range n).map fun (i : Nat) => if i < k then (i : Int) else 0
theorem cnf_len (n k : Nat) : (cnf n k).length = n := by simp [cnf]
theorem cnf_zero (n : Nat) : (cnf n 0).map (Value.int .u8) = List.replicate n (Value.int .u8 0) := by
  apply List.ext_getElem
  · simp [cnf]
  · intro i h1 h2
    simp [cnf]
theorem cnf_step (n k : Nat) : (cnf n k).set k k = cnf n (k + 1) := by
  apply List.ext_getElem
  · simp [cnf]
  · intro i h1 h2
    rw [List.getElem_set]
    simp only [cnf, List.getElem_map, List.getElem_range]
    by_cases h : k = i
    · subst h; simp
    · rw [if_neg h]
      by_cases h' : i < k
      · rw [if_pos h', if_pos (by omega)]
      · rw [if_neg h', if_neg (by omega)]
theorem cnf_all (n : Nat) : cnf n n = Aes.cnt n := by
  apply List.ext_getElem
  · simp [cnf, Aes.cnt]
  · intro i h1 h2
    have : i < n := by simpa [cnf] using h1
    simp [cnf, Aes.cnt, this]
theorem cnt_len (n : Nat) : (Aes.cnt n).length = n := by simp [Aes.cnt]
theorem cnt_byt (n : Nat) (h : n ≤ 256) : Sha.Byt (Aes.cnt n) := fun x hx => by
  unfold Aes.cnt at hx
  rw [List.mem_map] at hx
  obtain ⟨i, hi, rfl⟩ := hx
  rw [List.mem_range] at hi
  omega
attribute [irreducible] cnf
def CntSay (n : Nat) (w : World) (e : Ending) (w' : World) : Prop :=
  ∃ g, e = .returned (.slice (some ⟨g, 0, none⟩) n n) ∧ BAt w' (some ⟨g, 0, none⟩) (Aes.cnt n) ∧ Below w.heap.size w w'
set_option maxHeartbeats 1000000 in
set_option maxRecDepth 100000 in
theorem count_any (n : Nat) (hn : n ≤ 100) (w : World) : Calls Try.prog 23 #[.int .i64 n] w (CntSay n w) := by
  go_enter Try.func23, Try.ntmps23
  go_upto_region 2 with ((with_reducible refine make_at _ 5 _ _ (.int .u8 0) 1 n n ?_ ?_ ?_ ?_ rfl ?_ ?_ ?_ ?_); (exact rfl); (exact rfl); (exact Try.underlying22); (exact Try.info_u8); omega; omega; omega; intro w1 G1 hb1 hs1)
  have G1' : Hid (w1.heap[w.heap.size]? = some (.cells ((cnf n 0).map (Value.int .u8)).toArray 5 (0, 0))) := by
    show _ = _; rw [cnf_zero]; exact G1.out
  have HB1 := Lib.hid hb1
  clear hb1 G1
  go_wp2
  go_loopw [4] (fun v4 wr => ∃ k : Nat, k ≤ n ∧ v4 = .int .i64 k ∧ Hid (wr.heap[w.heap.size]? = some (.cells ((cnf n k).map (Value.int .u8)).toArray 5 (0, 0))) ∧ Hid (Below w.heap.size w wr)) (fun v4 _ => n - (intOf v4).toNat)
  case atStart => exact ⟨0, by omega, rfl, G1'.out, HB1.out⟩
  case round =>
    clear G1' HB1 hs1
    obtain ⟨k, hk, rfl, HG, HB⟩ := hrel
    by_cases hlt : k < n
    · have c0 := u8_cell HG.out k (by rw [cnf_len]; exact hlt)
      have f0 := frozen_of_row wr w.heap.size k _ _ HG.out
      have hm : (k : Int) % 256 = k := by omega
      have hki : (k : Int) < (n : Int) := by omega
      generalize (cnf n k).getD k 0 = y0 at c0
      go_wp2
      refine ⟨⟨k + 1, by omega, by go_num, ?_, ?_⟩, by simp [intOf]; omega⟩
      · have h2 := u8_set (i := k) (x := k) HG.out
        rw [cnf_step] at h2
        exact h2
      · exact HB.out.setCell (by simp) _
    · have E : k = n := by omega
      have HG2 : Hid (BAt wr (some ⟨w.heap.size, 0, none⟩) (Aes.cnt n)) := by
        have h := HG.out
        rw [E, cnf_all] at h
        exact bat_row h (cnt_byt n (by omega))
      have hge : n ≤ k := by omega
      clear E hlt HG
      go_wp2
      go_ret
      exact ⟨w.heap.size, rfl, HG2.out, HB.out⟩
end Go.Proofs.Ytkajigfdfbgphaa

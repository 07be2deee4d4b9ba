/-
  The laws' helpers: rillkit.Row, rilllaw04.some, block, works.
-/
import Derived.Test.YtkajigfdfbgphaaCtrE
namespace Go.Proofs.Ytkajigfdfbgphaa
open Go.RowKit

/-- Bytes of the call's own, as they are read. -/
theorem own_bat {w : World} {B n : Nat} {v : Value} {l : List Int} (h : w.ownsRow B 5 1 v n (U8s l)) (hb : Sha.Byt l) :
    ∃ (p : Option Addr) (c : Nat), v = .slice p n c ∧ l.length = n ∧ BAt w p l ∧ (p = none → l = [] ∧ c = 0) ∧ n ≤ c ∧ c ≤ 9223372036854775807 ∧ (∀ b o s, p = some ⟨b, o, s⟩ → B ≤ b ∧ o = 0 ∧ s = none) := by
  have hl : l.length = n := by have := h.1; unfold U8s at this; simpa using this
  rcases h.2 with ⟨rfl, rfl⟩ | ⟨g, cap, cur, rfl, q0, _, h1, h2, _⟩
  · obtain rfl : l = [] := List.eq_nil_of_length_eq_zero hl
    exact ⟨none, 0, rfl, rfl, ⟨hb, fun h0 => by simp at h0⟩, fun _ => ⟨rfl, rfl⟩, Nat.le_refl _, by omega, fun b o s e => by cases e⟩
  · refine ⟨_, cap, rfl, hl, ⟨hb, fun h0 => ⟨g, 0, rfl, fun j hj => ?_⟩⟩, (fun e => by cases e), h1, (by unfold maxLen at h2; omega), (fun b o s e => by cases e; exact ⟨q0, rfl, rfl⟩)⟩
    rw [Nat.zero_add]
    exact u8_at h j (by omega)
/-- What Xor answers, as it is read. -/
structure XorGot (L X : List Int) (w : World) (q : Option Addr) (cq : Nat) (w' : World) : Prop where
  own : w'.ownsRow w.heap.size 5 1 (.slice q L.length cq) L.length (U8s X)
  bat : BAt w' q X
  len : X.length = L.length
  none : q = .none → X = [] ∧ cq = 0
  cap : L.length ≤ cq ∧ cq ≤ 9223372036854775807
  below : Below w.heap.size w w'
theorem xor_got (c : Nat) (ks : List Int) (N : Nat) (e n : Int) (L : List Int) (p : Option Addr) (cap : Nat) (hL : L.length ≤ 1000000000) (hp0 : p = none → L = [] ∧ cap = 0) (hn : ks.length = 4 * (N + 2)) (hN : N ≤ 100) (w : World) (hp : BAt w p L) (hC : Ciph w c Aes.TB ks) :
    Calls Try.prog 18 #[.pointer (some ⟨c, 0, none⟩), .int .i64 e, .int .i64 n, .slice p L.length cap] w fun r w' => ∃ q cq, r = .returned (.slice q L.length cq) ∧ Hid (XorGot L (Ctr.xs (Ctr.sblk ks N (e % 18446744073709551616) (n % 18446744073709551616)) L) w q cq w') := by
  refine (xor_any c ks N e n L p cap hL hp0 hn hN w hp hC).mono ?_
  rintro r w' ⟨v, rfl, ho, hb⟩
  obtain ⟨q, cq, rfl, h1, h2, h3, h4, h5, _⟩ := own_bat ho (Ctr.xs_byt _ _)
  exact ⟨q, cq, rfl, ho, h2, h1, h3, ⟨h4, h5⟩, hb⟩

/-- Bytes that tell where they stand. -/
def rowl (n : Nat) : List Int := (List.range n).map fun (i : Nat) => ((i : Int) * 7 + 1) % 256
def rowf (n k : Nat) : List Int := (List.range n).map fun (i : Nat) => if i < k then ((i : Int) * 7 + 1) % 256 else 0
theorem rowl_len (n : Nat) : (rowl n).length = n := by simp [rowl]
theorem rowf_len (n k : Nat) : (rowf n k).length = n := by simp [rowf]
theorem rowl_byt (n : Nat) : Sha.Byt (rowl n) := fun x hx => by
  unfold rowl at hx
  rw [List.mem_map] at hx
  obtain ⟨i, _, rfl⟩ := hx
  omega
theorem rowf_zero (n : Nat) : (rowf n 0).map (Value.int .u8) = List.replicate n (Value.int .u8 0) := by
  apply List.ext_getElem
  · simp [rowf]
  · intro i h1 h2
    simp [rowf]
theorem rowf_step (n k : Nat) : (rowf n k).set k (((k : Int) * 7 + 1) % 256) = rowf n (k + 1) := by
  apply List.ext_getElem
  · simp [rowf]
  · intro i h1 h2
    rw [List.getElem_set]
    simp only [rowf, List.getElem_map, List.getElem_range]
    by_cases h : k = i
    · subst h; simp
    · rw [if_neg h]
      by_cases h' : i < k
      · rw [if_pos h', if_pos (by omega)]
      · rw [if_neg h', if_neg (by omega)]
theorem rowf_all (n : Nat) : rowf n n = rowl n := by
  apply List.ext_getElem
  · simp [rowf, rowl]
  · intro i h1 h2
    have : i < n := by simpa [rowf] using h1
    simp [rowf, rowl, this]
attribute [irreducible] rowf rowl
def RowSay4 (n : Nat) (w : World) (e : Ending) (w' : World) : Prop :=
  ∃ g, e = .returned (.slice (some ⟨g, 0, none⟩) n n) ∧ Hid (BAt w' (some ⟨g, 0, none⟩) (rowl n)) ∧ Below w.heap.size w w'
set_option maxHeartbeats 1000000 in
set_option maxRecDepth 100000 in
theorem row_pos (n : Nat) (h0 : 0 < n) (hn : n ≤ 100000) (w : World) : Calls Try.prog 22 #[.int .i64 n] w (RowSay4 n w) := by
  have hpos : (0 : Int) < (n : Int) := by omega
  go_enter Try.func22, Try.ntmps22
  go_upto_region 2 with ((with_reducible refine make_at _ 5 _ _ (.int .u8 0) 1 n n ?_ ?_ ?_ ?_ rfl ?_ ?_ ?_ ?_); (exact rfl); (exact rfl); (exact Try.underlying22); (exact Try.info_u8); omega; omega; omega; intro w1 G1 hb1 hs1)
  have G1' : Hid (w1.heap[w.heap.size]? = some (.cells ((rowf n 0).map (Value.int .u8)).toArray 5 (0, 0))) := by
    show _ = _; rw [rowf_zero]; exact G1.out
  have HB1 := Lib.hid hb1
  clear hb1 G1
  go_wp2
  go_loopw [4] (fun v4 wr => ∃ k : Nat, k ≤ n ∧ v4 = .int .i64 k ∧ Hid (wr.heap[w.heap.size]? = some (.cells ((rowf n k).map (Value.int .u8)).toArray 5 (0, 0))) ∧ Hid (Below w.heap.size w wr)) (fun v4 _ => n - (intOf v4).toNat)
  case atStart => exact ⟨0, by omega, rfl, G1'.out, HB1.out⟩
  case round =>
    clear G1' HB1 hs1
    obtain ⟨k, hk, rfl, HG, HB⟩ := hrel
    by_cases hlt : k < n
    · have c0 := u8_cell HG.out k (by rw [rowf_len]; exact hlt)
      have f0 := frozen_of_row wr w.heap.size k _ _ HG.out
      have hki : (k : Int) < (n : Int) := by omega
      generalize (rowf n k).getD k 0 = y0 at c0
      go_wp2
      refine ⟨⟨k + 1, by omega, by go_num, ?_, ?_⟩, by simp [intOf]; omega⟩
      · have h2 := u8_set (i := k) (x := ((k : Int) * 7 + 1) % 256) HG.out
        rw [rowf_step] at h2
        exact h2
      · exact HB.out.setCell (by simp) _
    · have E : k = n := by omega
      have HG2 : Hid (BAt wr (some ⟨w.heap.size, 0, none⟩) (rowl n)) := by
        have h := HG.out
        rw [E, rowf_all] at h
        exact bat_row h (rowl_byt n)
      have hge : n ≤ k := by omega
      clear E hlt HG
      go_wp2
      go_ret
      exact ⟨w.heap.size, rfl, HG2.out, HB.out⟩

set_option maxHeartbeats 1000000 in
set_option maxRecDepth 100000 in
theorem row_nil (w : World) : Calls Try.prog 22 #[.int .i64 0] w (RowSay4 0 w) := by
  go_enter Try.func22, Try.ntmps22
  go_upto_region 2 with ((with_reducible refine make_at _ 5 _ _ (.int .u8 0) 1 0 0 ?_ ?_ ?_ ?_ rfl ?_ ?_ ?_ ?_); (exact rfl); (exact rfl); (exact Try.underlying22); (exact Try.info_u8); omega; omega; omega; intro w1 G1 hb1 hs1)
  have HB1 := Lib.hid hb1
  clear hb1 G1 hs1
  go_wp2
  go_loopw [4] (fun v4 wr => v4 = .int .i64 0 ∧ Hid (Below w.heap.size w wr)) (fun _ _ => 0)
  case atStart => exact ⟨rfl, HB1.out⟩
  case round =>
    clear HB1
    obtain ⟨rfl, HB⟩ := hrel
    go_wp2
    go_ret
    have hl := rowl_len 0
    exact ⟨w.heap.size, rfl, ⟨rowl_byt 0, fun h => by omega⟩, HB.out⟩
theorem row_any (n : Nat) (hn : n ≤ 100000) (w : World) : Calls Try.prog 22 #[.int .i64 n] w (RowSay4 n w) := by
  by_cases h0 : 0 < n
  · exact row_pos n h0 hn w
  · obtain rfl : n = 0 := by omega
    exact row_nil w

/-- The helper's cipher. -/
def kw0 : List Int := Aes.kws Aes.TB (rowl 16)
theorem kw0_len : kw0.length = 4 * (9 + 2) := kws_len (rowl 16) 4 (rowl_len 16)
def SomeSay (w : World) (e : Ending) (w' : World) : Prop := ∃ c, e = .returned (.pointer (some ⟨c, 0, none⟩)) ∧ Hid (Ciph w' c Aes.TB kw0) ∧ Below w.heap.size w w'
attribute [irreducible] kw0
set_option maxHeartbeats 1000000 in
set_option maxRecDepth 100000 in
theorem some_any (w : World) : Calls Try.prog 36 #[] w (SomeSay w) := by
  have hl := rowl_len 16
  go_enter Try.func36, Try.ntmps36
  have HN : Hid (∀ g x, BAt x (some ⟨g, 0, none⟩) (rowl 16) → Calls Try.prog 11 #[.slice (some ⟨g, 0, none⟩) 16 16] x fun e x' => ∃ c, e = .returned (.tuple #[.pointer (some ⟨c, 0, none⟩), .int .i64 0]) ∧ Hid (Ciph x' c Aes.TB kw0) ∧ Hid (Below x.heap.size x x')) := fun g x hx => by
    refine (new_any (rowl 16) 4 (by omega) hl _ 16 (by omega) (by omega) x hx).mono ?_
    rintro e x' ⟨c, h1, _, h2, h3⟩
    exact ⟨c, h1, by unfold kw0; exact h2, h3⟩
  have HR : Hid (∀ x, Calls Try.prog 22 #[.int .i64 16] x (RowSay4 16 x)) := fun x => row_any 16 (by omega) x
  clear hl
  go_wp2_with (first
    | (go_at_call 22; refine (HR.out _).mono ?_; rintro e w1 ⟨g, rfl, HG, hb1⟩; have HB1 := Lib.hid hb1; clear hb1)
    | (go_at_call 11; refine (HN.out _ _ HG.out).mono ?_; rintro e w2 ⟨c, rfl, HC, hb2⟩; have HB2 : Hid (Below w.heap.size w w2) := HB1.out.trans (hb2.out.mono HB1.out.size); clear hb2))
  go_ret
  exact ⟨c, rfl, HC, HB2.out⟩

def BlockSay (a b i : Int) (w : World) (e : Ending) (w' : World) : Prop := e = .returned (.agg #[.int .u8 0, .int .u8 0, .int .u8 0, .int .u8 0, .int .u8 0, .int .u8 a, .int .u8 0, .int .u8 0, .int .u8 0, .int .u8 0, .int .u8 0, .int .u8 b, .int .u8 0, .int .u8 0, .int .u8 0, .int .u8 i]) ∧ Below w.heap.size w w'
set_option maxHeartbeats 1000000 in
set_option maxRecDepth 100000 in
theorem blk4_any (a b i : Int) (w : World) : Calls Try.prog 37 #[.int .u8 a, .int .u8 b, .int .u8 i] w (BlockSay a b i w) := by
  go_enter Try.func37, Try.ntmps37
  go_wp2
  exact bodyPost_ret (results_cell_row rfl _ _ w.heap.size 35 #[.int .u8 0, .int .u8 0, .int .u8 0, .int .u8 0, .int .u8 0, .int .u8 a, .int .u8 0, .int .u8 0, .int .u8 0, .int .u8 0, .int .u8 0, .int .u8 b, .int .u8 0, .int .u8 0, .int .u8 0, .int .u8 i] (0, 0) _ rfl (heap_alloc_new w _) Try.underlying35 rfl (row_size Try.size16 (show Hid ((#[.int .u8 0, .int .u8 0, .int .u8 0, .int .u8 0, .int .u8 0, .int .u8 a, .int .u8 0, .int .u8 0, .int .u8 0, .int .u8 0, .int .u8 0, .int .u8 b, .int .u8 0, .int .u8 0, .int .u8 0, .int .u8 i] : Array Value).size = 16) from rfl))) rfl ⟨rfl, (Below.refl _ w).alloc (Nat.le_refl _) _⟩
end Go.Proofs.Ytkajigfdfbgphaa

/-
  The reference's rounds, byte by byte, are the program's, word by word.
-/
import Derived.Test.YtkajigfdfbgphaaTurB
import Derived.Test.YtkajigfdfbgphaaAesP
namespace Go.Proofs.Ytkajigfdfbgphaa
namespace Aes
def sw (r : Nat → Nat) (k : Nat) : Int := ((w4 (r (4 * k)) (r (4 * k + 1)) (r (4 * k + 2)) (r (4 * k + 3)) : Nat) : Int)
/-- Sixteen bytes as a state. -/
def st (r : Nat → Nat) : W := ⟨sw r 0, sw r 1, sw r 2, sw r 3⟩
def layR (R : Nat → Nat) (i : Nat) (r : Nat → Nat) : Nat → Nat := fun j => r j ^^^ R (16 * i + j)
def tn (x : Nat) : Nat := (TB.getD x 0).toNat
def mvR (r : Nat → Nat) : Nat → Nat := fun j => tn (r (4 * ((j / 4 + j % 4) % 4) + j % 4))
def mxR (r : Nat → Nat) : Nat → Nat := fun j => mb (r (4 * (j / 4) + j % 4)) (r (4 * (j / 4) + (j % 4 + 1) % 4)) (r (4 * (j / 4) + (j % 4 + 2) % 4)) (r (4 * (j / 4) + (j % 4 + 3) % 4))
def B16 (r : Nat → Nat) : Prop := ∀ j, j < 16 → r j < 256

theorem sw_xor (r s : Nat → Nat) (k m : Nat) (hr : ∀ j, j < 4 → r (4 * k + j) < 256) (hs : ∀ j, j < 4 → s (4 * m + j) < 256) :
    bits .xor .u32 (sw r k) (sw s m) = ((w4 (r (4 * k) ^^^ s (4 * m)) (r (4 * k + 1) ^^^ s (4 * m + 1)) (r (4 * k + 2) ^^^ s (4 * m + 2)) (r (4 * k + 3) ^^^ s (4 * m + 3)) : Nat) : Int) := by
  have r0 := hr 0 (by omega); have r1 := hr 1 (by omega); have r2 := hr 2 (by omega); have r3 := hr 3 (by omega)
  have s0 := hs 0 (by omega); have s1 := hs 1 (by omega); have s2 := hs 2 (by omega); have s3 := hs 3 (by omega)
  rw [Nat.add_zero] at r0 s0
  unfold sw
  rw [xor_u32 _ _ (w4_lt _ _ _ _ r0 r1 r2 r3) (w4_lt _ _ _ _ s0 s1 s2 s3), w4_xor _ _ _ _ _ _ _ _ r0 r1 r2 r3 s0 s1 s2 s3]
theorem lay_st (R r : Nat → Nat) (ks : List Int) (i : Nat) (hr : B16 r) (hR : ∀ j, j < 16 → R (16 * i + j) < 256) (hk : ∀ k, k < 4 → ks.getD (4 * i + k) 0 = sw R (4 * i + k)) : lay (st r) ks i = st (layR R i r) := by
  have h0 := hk 0 (by omega); have h1 := hk 1 (by omega); have h2 := hk 2 (by omega); have h3 := hk 3 (by omega)
  have key : ∀ k, k < 4 → bits .xor .u32 (sw r k) (sw R (4 * i + k)) = sw (layR R i r) k := fun k hk => by
    rw [sw_xor r R k (4 * i + k) (fun j hj => hr _ (by omega)) (fun j hj => by rw [show 4 * (4 * i + k) + j = 16 * i + (4 * k + j) by omega]; exact hR _ (by omega))]
    unfold sw layR
    rw [show 16 * i + 4 * k = 4 * (4 * i + k) by omega, show 16 * i + (4 * k + 1) = 4 * (4 * i + k) + 1 by omega, show 16 * i + (4 * k + 2) = 4 * (4 * i + k) + 2 by omega, show 16 * i + (4 * k + 3) = 4 * (4 * i + k) + 3 by omega]
  rw [Nat.add_zero] at h0
  have k0 := key 0 (by omega); have k1 := key 1 (by omega); have k2 := key 2 (by omega); have k3 := key 3 (by omega)
  rw [Nat.add_zero] at k0
  unfold lay st
  simp only [h0, h1, h2, h3, k0, k1, k2, k3]
theorem tn_int (x : Nat) : ((tn x : Nat) : Int) = TB.getD x 0 := Int.toNat_of_nonneg (TB_at x).1
theorem tn_lt (x : Nat) : tn x < 256 := by
  have h := (TB_at x).2
  rw [← tn_int x] at h
  generalize tn x = y at *
  omega
attribute [irreducible] tn
theorem to0 (w : Nat) (h : w < 4294967296) : ((w : Int) / 16777216 % 256).toNat = w / 16777216 := by omega
theorem to1 (w : Nat) : ((w : Int) / 65536 % 256).toNat = w / 65536 % 256 := by omega
theorem to2 (w : Nat) : ((w : Int) / 256 % 256).toNat = w / 256 % 256 := by omega
theorem to3 (w : Nat) : ((w : Int) % 256).toNat = w % 256 := by omega
theorem col_w4 (a b c d a1 a2 a3 b0 b2 b3 c0 c1 c3 d0 d1 d2 : Nat) (ha : a < 256) (hb : b < 256) (hc : c < 256) (hd : d < 256) (ha1 : a1 < 256) (ha2 : a2 < 256) (ha3 : a3 < 256) (hb0 : b0 < 256) (hb2 : b2 < 256) (hb3 : b3 < 256) (hc0 : c0 < 256) (hc1 : c1 < 256) (hc3 : c3 < 256) (hd0 : d0 < 256) (hd1 : d1 < 256) (hd2 : d2 < 256) :
    col TB ((w4 a a1 a2 a3 : Nat) : Int) ((w4 b0 b b2 b3 : Nat) : Int) ((w4 c0 c1 c c3 : Nat) : Int) ((w4 d0 d1 d2 d : Nat) : Int) = ((w4 (tn a) (tn b) (tn c) (tn d) : Nat) : Int) := by
  rw [col_be4]
  have e0 := (to0 _ (w4_lt a a1 a2 a3 ha ha1 ha2 ha3)).trans (w4_0 a a1 a2 a3 ha ha1 ha2 ha3)
  have e1 := (to1 (w4 b0 b b2 b3)).trans (w4_1 b0 b b2 b3 hb0 hb hb2 hb3)
  have e2 := (to2 (w4 c0 c1 c c3)).trans (w4_2 c0 c1 c c3 hc0 hc1 hc hc3)
  have e3 := (to3 (w4 d0 d1 d2 d)).trans (w4_3 d0 d1 d2 d hd0 hd1 hd2 hd)
  rw [e0, e1, e2, e3, be4_sum _ _ _ _ (TB_at _) (TB_at _) (TB_at _) (TB_at _), ← tn_int a, ← tn_int b, ← tn_int c, ← tn_int d]
  clear e0 e1 e2 e3
  generalize tn a = ta
  generalize tn b = tb'
  generalize tn c = tc
  generalize tn d = td
  unfold w4
  omega
theorem mvd_st (r : Nat → Nat) (hr : B16 r) : mvd TB (st r) = st (mvR r) := by
  have h : ∀ j, j < 16 → r j < 256 := hr
  unfold mvd st sw
  simp only [Nat.mul_zero, Nat.zero_add, Nat.reduceMul, Nat.reduceAdd]
  rw [col_w4 (r 0) (r 5) (r 10) (r 15) _ _ _ _ _ _ _ _ _ _ _ _ (h _ (by omega)) (h _ (by omega)) (h _ (by omega)) (h _ (by omega)) (h _ (by omega)) (h _ (by omega)) (h _ (by omega)) (h _ (by omega)) (h _ (by omega)) (h _ (by omega)) (h _ (by omega)) (h _ (by omega)) (h _ (by omega)) (h _ (by omega)) (h _ (by omega)) (h _ (by omega)),
    col_w4 (r 4) (r 9) (r 14) (r 3) _ _ _ _ _ _ _ _ _ _ _ _ (h _ (by omega)) (h _ (by omega)) (h _ (by omega)) (h _ (by omega)) (h _ (by omega)) (h _ (by omega)) (h _ (by omega)) (h _ (by omega)) (h _ (by omega)) (h _ (by omega)) (h _ (by omega)) (h _ (by omega)) (h _ (by omega)) (h _ (by omega)) (h _ (by omega)) (h _ (by omega)),
    col_w4 (r 8) (r 13) (r 2) (r 7) _ _ _ _ _ _ _ _ _ _ _ _ (h _ (by omega)) (h _ (by omega)) (h _ (by omega)) (h _ (by omega)) (h _ (by omega)) (h _ (by omega)) (h _ (by omega)) (h _ (by omega)) (h _ (by omega)) (h _ (by omega)) (h _ (by omega)) (h _ (by omega)) (h _ (by omega)) (h _ (by omega)) (h _ (by omega)) (h _ (by omega)),
    col_w4 (r 12) (r 1) (r 6) (r 11) _ _ _ _ _ _ _ _ _ _ _ _ (h _ (by omega)) (h _ (by omega)) (h _ (by omega)) (h _ (by omega)) (h _ (by omega)) (h _ (by omega)) (h _ (by omega)) (h _ (by omega)) (h _ (by omega)) (h _ (by omega)) (h _ (by omega)) (h _ (by omega)) (h _ (by omega)) (h _ (by omega)) (h _ (by omega)) (h _ (by omega))]
  rfl
theorem mxd_st (r : Nat → Nat) (hr : B16 r) : mxd (st r) = st (mxR r) := by
  have h : ∀ j, j < 16 → r j < 256 := hr
  unfold mxd st sw
  simp only [Nat.mul_zero, Nat.zero_add, Nat.reduceMul, Nat.reduceAdd]
  rw [mixw_w4 _ _ _ _ (h _ (by omega)) (h _ (by omega)) (h _ (by omega)) (h _ (by omega)), mixw_w4 _ _ _ _ (h _ (by omega)) (h _ (by omega)) (h _ (by omega)) (h _ (by omega)), mixw_w4 _ _ _ _ (h _ (by omega)) (h _ (by omega)) (h _ (by omega)) (h _ (by omega)), mixw_w4 _ _ _ _ (h _ (by omega)) (h _ (by omega)) (h _ (by omega)) (h _ (by omega))]
  rfl
theorem mvR_b (r : Nat → Nat) : B16 (mvR r) := fun _ _ => tn_lt _
theorem mxR_b (r : Nat → Nat) (hr : B16 r) : B16 (mxR r) := fun _ _ => mb_lt (hr _ (by omega)) (hr _ (by omega)) (hr _ (by omega)) (hr _ (by omega))
theorem layR_b (R r : Nat → Nat) (i : Nat) (hr : B16 r) (hR : ∀ j, j < 16 → R (16 * i + j) < 256) : B16 (layR R i r) := fun j hj => x8 (hr j hj) (hR j hj)
/-- The rounds but the last, in bytes; a block, in bytes. -/
def rdR (R r : Nat → Nat) : Nat → Nat → Nat
  | 0 => layR R 0 r
  | k + 1 => layR R (k + 1) (mxR (mvR (rdR R r k)))
def blR (R : Nat → Nat) (N : Nat) (r : Nat → Nat) : Nat → Nat := layR R (N + 1) (mvR (rdR R r N))
theorem rdR_st (R r : Nat → Nat) (ks : List Int) (N : Nat) (hr : B16 r) (hR : ∀ j, j < 16 * (N + 1) → R j < 256) (hk : ∀ k, k < 4 * (N + 1) → ks.getD k 0 = sw R k) : rounds TB ks (st r) N = st (rdR R r N) ∧ B16 (rdR R r N) := by
  induction N with
  | zero =>
    rw [rounds_zero, rdR]
    exact ⟨lay_st R r ks 0 hr (fun j hj => hR _ (by omega)) (fun k h => hk _ (by omega)), layR_b R r 0 hr (fun j hj => hR _ (by omega))⟩
  | succ N ih =>
    obtain ⟨e, b⟩ := ih (fun j hj => hR j (by omega)) (fun k h => hk k (by omega))
    have b2 := mxR_b _ (mvR_b (rdR R r N))
    rw [rounds_succ, e, mvd_st _ b, mxd_st _ (mvR_b _), rdR]
    exact ⟨lay_st R _ ks (N + 1) b2 (fun j hj => hR _ (by omega)) (fun k h => hk _ (by omega)), layR_b R _ (N + 1) b2 (fun j hj => hR _ (by omega))⟩
theorem last_st (R r : Nat → Nat) (ks : List Int) (N : Nat) (hr : B16 r) (hR : ∀ j, j < 16 * (N + 2) → R j < 256) (hk : ∀ k, k < 4 * (N + 2) → ks.getD k 0 = sw R k) : last TB ks N (st r) = st (blR R N r) ∧ B16 (blR R N r) := by
  obtain ⟨e, b⟩ := rdR_st R r ks N hr (fun j hj => hR j (by omega)) (fun k h => hk k (by omega))
  unfold last blR
  rw [e, mvd_st _ b]
  exact ⟨lay_st R _ ks (N + 1) (mvR_b _) (fun j hj => hR _ (by omega)) (fun k h => hk _ (by omega)), layR_b R _ (N + 1) (mvR_b _) (fun j hj => hR _ (by omega))⟩
end Aes
end Go.Proofs.Ytkajigfdfbgphaa

/-
  rilllaw04.CtrBoth walked.
-/
import Derived.Test.YtkajigfdfbgphaaCtrG
namespace Go.Proofs.Ytkajigfdfbgphaa
open Go.RowKit

theorem bxor_lt (a b : Int) : 0 ≤ bits .xor .u8 a b ∧ bits .xor .u8 a b ≤ 255 := Aes.xor8_byt a b
theorem toNat_byt {x : Int} (h : 0 ≤ x ∧ x ≤ 255) : ∃ n : Nat, n < 256 ∧ x = (n : Int) := ⟨x.toNat, by omega, by omega⟩
theorem xor_twice {a b s : Int} (ha : 0 ≤ a ∧ a ≤ 255) (hb : 0 ≤ b ∧ b ≤ 255) (hs : 0 ≤ s ∧ s ≤ 255) : bits .xor .u8 (bits .xor .u8 a s) (bits .xor .u8 b s) = bits .xor .u8 a b := by
  obtain ⟨x, hx, rfl⟩ := toNat_byt ha
  obtain ⟨y, hy, rfl⟩ := toNat_byt hb
  obtain ⟨z, hz, rfl⟩ := toNat_byt hs
  rw [Aes.xor_u8 x z hx hz, Aes.xor_u8 y z hy hz, Aes.xor_u8 _ _ (Aes.x8 hx hz) (Aes.x8 hy hz), Aes.xor_u8 x y hx hy]
  congr 1
  rw [Nat.xor_assoc, Nat.xor_comm y z, ← Nat.xor_assoc z z y, Nat.xor_self, Nat.zero_xor]
theorem xor_back {a s : Int} (ha : 0 ≤ a ∧ a ≤ 255) (hs : 0 ≤ s ∧ s ≤ 255) : bits .xor .u8 (bits .xor .u8 a s) s = a := by
  obtain ⟨x, hx, rfl⟩ := toNat_byt ha
  obtain ⟨z, hz, rfl⟩ := toNat_byt hs
  rw [Aes.xor_u8 x z hx hz, Aes.xor_u8 _ z (Aes.x8 hx hz) hz]
  congr 1
  rw [Nat.xor_assoc, Nat.xor_self, Nat.xor_zero]
/-- A key that may be one: what New answers. -/
def KeyOk (w : World) (p0 : Option Addr) (n0 cap0 : Nat) (ks : List Int) : Prop :=
  ∀ x, Below w.heap.size w x → Calls Try.prog 11 #[.slice p0 n0 cap0] x fun r x' => ∃ c, r = .returned (.tuple #[.pointer (some ⟨c, 0, none⟩), .int .i64 0]) ∧ Hid (Ciph x' c Aes.TB ks) ∧ Hid (Below x.heap.size x x')
/-- .. and of one that may not. -/
def KeyBad (p0 : Option Addr) (n0 cap0 : Nat) : Prop :=
  ∀ x, Calls Try.prog 11 #[.slice p0 n0 cap0] x fun r x' => r = .returned (.tuple #[.pointer none, .int .i64 1]) ∧ x' = x
theorem key_cases (K : List Int) (p0 : Option Addr) (cap0 : Nat) (w : World) (hc : K.length ≤ cap0) (hcm : cap0 ≤ 9223372036854775807) (hp : BAt w p0 K) :
    KeyBad p0 K.length cap0 ∨ ∃ ks N, ks.length = 4 * (N + 2) ∧ N ≤ 100 ∧ KeyOk w p0 K.length cap0 ks := by
  have good : ∀ m, (m = 4 ∨ m = 6 ∨ m = 8) → K.length = 4 * m → ∃ ks N, ks.length = 4 * (N + 2) ∧ N ≤ 100 ∧ KeyOk w p0 K.length cap0 ks := fun m hm hK => by
    refine ⟨Aes.kws Aes.TB K, m + 5, by rw [kws_len K m hK], by omega, fun x hx => ?_⟩
    rw [hK]
    refine (new_any K m hm hK p0 cap0 (by omega) hcm x (hp.old hx)).mono ?_
    rintro r x' ⟨c, h1, _, h2, h3⟩
    exact ⟨c, h1, h2, h3⟩
  by_cases h16 : K.length = 16
  · exact Or.inr (good 4 (by omega) h16)
  · by_cases h24 : K.length = 24
    · exact Or.inr (good 6 (by omega) h24)
    · by_cases h32 : K.length = 32
      · exact Or.inr (good 8 (by omega) h32)
      · exact Or.inl fun x => new_bad p0 K.length cap0 h16 h24 h32 x
def StreamOf (ks : List Int) (N : Nat) (e n : Int) : Nat → List Int := Ctr.sblk ks N (e % 18446744073709551616) (n % 18446744073709551616)
theorem stream_byt (ks : List Int) (N : Nat) (e n : Int) (i j : Nat) : 0 ≤ (StreamOf ks N e n i).getD j 0 ∧ (StreamOf ks N e n i).getD j 0 ≤ 255 := Sha.byt_getD (sblk_byt _ _ _ _ _) _
/-- What Xor answers under such a key. -/
theorem xor_key {ks : List Int} {N : Nat} (hn : ks.length = 4 * (N + 2)) (hN : N ≤ 100) (c : Nat) (e n : Int) (L : List Int) (k : Nat) (hk : L.length = k) (p : Option Addr) (cap : Nat) (hL : k ≤ 1000000000) (hp0 : p = none → L = [] ∧ cap = 0) (w : World) (hp : BAt w p L) (hC : Ciph w c Aes.TB ks) :
    Calls Try.prog 18 #[.pointer (some ⟨c, 0, none⟩), .int .i64 e, .int .i64 n, .slice p k cap] w fun r w' => ∃ q cq, r = .returned (.slice q k cq) ∧ Hid (XorGot L (Ctr.xs (StreamOf ks N e n) L) w q cq w') := by
  subst hk
  exact xor_got c ks N e n L p cap hL hp0 hn hN w hp hC
attribute [irreducible] StreamOf

set_option maxHeartbeats 2000000 in
set_option maxRecDepth 100000 in
theorem both_bad (p0 : Option Addr) (n0 cap0 : Nat) (e n : Int) (pa pb : Option Addr) (na ca nb cb : Nat) (hb : KeyBad p0 n0 cap0) (w : World) :
    Calls Try.prog 8 #[.slice p0 n0 cap0, .int .i64 e, .int .i64 n, .slice pa na ca, .slice pb nb cb] w (YesSay w) := by
  have NK := Lib.hid hb; clear hb
  unfold KeyBad at NK
  go_enter Try.func8, Try.ntmps8
  go_wp2_with (first
    | (go_at_call 11; refine (NK.out _).mono ?_; rintro r w2 ⟨rfl, rfl⟩)
    | (go_at_call 17; refine (works_any _).mono ?_; rintro r w3 ⟨rfl, hb3⟩))
  go_ret
  exact ⟨rfl, hb3⟩
set_option maxHeartbeats 2000000 in
set_option maxRecDepth 100000 in
theorem both_long (p0 : Option Addr) (n0 cap0 : Nat) (e n : Int) (pa pb : Option Addr) (na ca nb cb : Nat) (ks : List Int) (w : World) (hk : KeyOk w p0 n0 cap0 ks) (h : 8192 < na ∨ 8192 < nb) :
    Calls Try.prog 8 #[.slice p0 n0 cap0, .int .i64 e, .int .i64 n, .slice pa na ca, .slice pb nb cb] w (YesSay w) := by
  have NK : Hid (Calls Try.prog 11 #[.slice p0 n0 cap0] w fun r x' => ∃ c, r = .returned (.tuple #[.pointer (some ⟨c, 0, none⟩), .int .i64 0]) ∧ Hid (Ciph x' c Aes.TB ks) ∧ Hid (Below w.heap.size w x')) := hk w (Below.refl _ _)
  clear hk
  by_cases h1 : 8192 < na
  · have h1' : (8192 : Int) < (na : Int) := by omega
    go_enter Try.func8, Try.ntmps8
    go_wp2_with (first
      | (go_at_call 11; refine NK.out.mono ?_; rintro r w2 ⟨c, rfl, _, HB2⟩)
      | (go_at_call 17; refine (works_any _).mono ?_; rintro r w3 ⟨rfl, hb3⟩))
    go_ret
    exact ⟨rfl, HB2.out.trans (hb3.mono HB2.out.size)⟩
  · have h1' : (na : Int) ≤ 8192 := by omega
    have h2' : (8192 : Int) < (nb : Int) := by omega
    go_enter Try.func8, Try.ntmps8
    go_wp2_with (first
      | (go_at_call 11; refine NK.out.mono ?_; rintro r w2 ⟨c, rfl, _, HB2⟩)
      | (go_at_call 17; refine (works_any _).mono ?_; rintro r w3 ⟨rfl, hb3⟩))
    go_ret
    exact ⟨rfl, HB2.out.trans (hb3.mono HB2.out.size)⟩
set_option maxHeartbeats 4000000 in
set_option maxRecDepth 100000 in
theorem both_good (p0 : Option Addr) (n0 cap0 : Nat) (e n : Int) (A B : List Int) (pa pb : Option Addr) (ca cb : Nat) (ks : List Int) (N : Nat) (hn : ks.length = 4 * (N + 2)) (hN : N ≤ 100) (w : World) (hk : KeyOk w p0 n0 cap0 ks) (ha : BAt w pa A) (hb : BAt w pb B) (ha0 : pa = none → A = [] ∧ ca = 0) (hb0 : pb = none → B = [] ∧ cb = 0) (hla : A.length ≤ 8192) (hlb : B.length ≤ 8192) :
    Calls Try.prog 8 #[.slice p0 n0 cap0, .int .i64 e, .int .i64 n, .slice pa A.length ca, .slice pb B.length cb] w (YesSay w) := by
  have NK : Hid (Calls Try.prog 11 #[.slice p0 n0 cap0] w fun r x' => ∃ c, r = .returned (.tuple #[.pointer (some ⟨c, 0, none⟩), .int .i64 0]) ∧ Hid (Ciph x' c Aes.TB ks) ∧ Hid (Below w.heap.size w x')) := hk w (Below.refl _ _)
  have Ha := Lib.hid ha; have Hb := Lib.hid hb; have Ha0 := Lib.hid ha0; have Hb0 := Lib.hid hb0
  have HNN := Lib.hid (And.intro hn hN)
  clear hk ha hb ha0 hb0 hn hN
  have h1' : (A.length : Int) ≤ 8192 := by omega
  have h2' : (B.length : Int) ≤ 8192 := by omega
  have HXR : Hid (∀ i, i < A.length → i < B.length → bits .xor .u8 ((Ctr.xs (StreamOf ks N e n) A).getD i 0) ((Ctr.xs (StreamOf ks N e n) B).getD i 0) = bits .xor .u8 (A.getD i 0) (B.getD i 0)) := fun i h1 h2 => by
    rw [Ctr.xs_get _ _ _ h1, Ctr.xs_get _ _ _ h2]
    exact xor_twice (Sha.byt_getD Ha.out.1 _) (Sha.byt_getD Hb.out.1 _) (stream_byt _ _ _ _ _ _)
  have HXA : Hid ((Ctr.xs (StreamOf ks N e n) A).length = A.length) := Ctr.xs_len _ _
  have HXB : Hid ((Ctr.xs (StreamOf ks N e n) B).length = B.length) := Ctr.xs_len _ _
  have XK1 : Hid (∀ c x, Ciph x c Aes.TB ks → BAt x pa A → Calls Try.prog 18 #[.pointer (some ⟨c, 0, none⟩), .int .i64 e, .int .i64 n, .slice pa A.length ca] x fun r w' => ∃ q cq, r = .returned (.slice q A.length cq) ∧ Hid (XorGot A (Ctr.xs (StreamOf ks N e n) A) x q cq w')) := fun c x hC hx => xor_key HNN.out.1 HNN.out.2 c e n A _ rfl pa ca (by omega) Ha0.out x hx hC
  have XK2 : Hid (∀ c x, Ciph x c Aes.TB ks → BAt x pb B → Calls Try.prog 18 #[.pointer (some ⟨c, 0, none⟩), .int .i64 e, .int .i64 n, .slice pb B.length cb] x fun r w' => ∃ q cq, r = .returned (.slice q B.length cq) ∧ Hid (XorGot B (Ctr.xs (StreamOf ks N e n) B) x q cq w')) := fun c x hC hx => xor_key HNN.out.1 HNN.out.2 c e n B _ rfl pb cb (by omega) Hb0.out x hx hC
  generalize Ctr.xs (StreamOf ks N e n) A = X at *
  generalize Ctr.xs (StreamOf ks N e n) B = Y at *
  go_enter Try.func8, Try.ntmps8
  go_wp2_with (first
    | (go_at_call 11; refine NK.out.mono ?_; rintro r w2 ⟨c, rfl, HC2, HB2⟩)
    | (go_at_call 18; have hc3 := HC3.out; refine (XK2.out c _ HC3.out (Hb.out.old HB3.out)).mono ?_; rintro r w4 ⟨q2, c2, rfl, HG4⟩; have HB4 : Hid (Below w.heap.size w w4) := HB3.out.trans (HG4.out.below.mono HB3.out.size); clear hc3)
    | (go_at_call 18; refine (XK1.out c _ HC2.out (Ha.out.old HB2.out)).mono ?_; rintro r w3 ⟨q1, c1, rfl, HG3⟩; have HB3 : Hid (Below w.heap.size w w3) := HB2.out.trans (HG3.out.below.mono HB2.out.size); have HC3 : Hid (Ciph w3 c Aes.TB ks) := HC2.out.below HG3.out.below (Nat.le_refl _)))
  have HX4 : Hid (BAt w4 q1 X) := HG3.out.bat.old HG4.out.below
  have HY4 : Hid (BAt w4 q2 Y) := HG4.out.bat
  have HA4 : Hid (BAt w4 pa A) := Ha.out.old HB4.out
  have HBB4 : Hid (BAt w4 pb B) := Hb.out.old HB4.out
  clear HG3 HG4 HB3 HC3 HB2 HC2 NK XK1 XK2 Ha Hb
  go_loopw [15] (fun v15 wr => ∃ k : Nat, k ≤ A.length ∧ k ≤ B.length ∧ v15 = .int .i64 k ∧ Hid (Below w4.heap.size w4 wr)) (fun v15 _ => A.length - (intOf v15).toNat)
  case atStart => exact ⟨0, Nat.zero_le _, Nat.zero_le _, rfl, Below.refl _ _⟩
  case round =>
    obtain ⟨k, hk1, hk2, rfl, HB⟩ := hrel
    by_cases h1 : k < A.length
    · by_cases h2 : k < B.length
      · obtain ⟨xb, xo, hq1, hcx⟩ := (HX4.out.old HB.out).2 (by rw [HXA.out]; omega)
        obtain ⟨yb, yo, hq2, hcy⟩ := (HY4.out.old HB.out).2 (by rw [HXB.out]; omega)
        obtain ⟨ab, ao, hpa, hca⟩ := (HA4.out.old HB.out).2 (by omega)
        obtain ⟨bb, bo, hpb, hcb⟩ := (HBB4.out.old HB.out).2 (by omega)
        subst hq1 hq2 hpa hpb
        have d0 := hcx k (by rw [HXA.out]; exact h1)
        have d1 := hcy k (by rw [HXB.out]; exact h2)
        have d2 := hca k h1
        have d3 := hcb k h2
        have hxr := HXR.out k h1 h2
        have hk0 : 0 ≤ (k : Int) := by omega
        have hka : (k : Int) < (A.length : Int) := by omega
        have hkb : (k : Int) < (B.length : Int) := by omega
        clear hcx hcy hca hcb
        generalize X.getD k 0 = x1 at *
        generalize Y.getD k 0 = y1 at *
        generalize A.getD k 0 = a1 at *
        generalize B.getD k 0 = b1 at *
        go_wp2
        go_quiet (fail)
        go_wp2
        exact ⟨⟨k + 1, by omega, by omega, by go_num, below_dn HB.out _⟩, by simp [intOf]; omega⟩
      · have hkb : (B.length : Int) ≤ (k : Int) := by omega
        go_wp2_with (go_at_call 17; refine (works_any _).mono ?_; rintro r w9 ⟨rfl, hb⟩; have R9 : Hid (Below w.heap.size w w9) := (HB4.out.trans (HB.out.mono HB4.out.size)).trans (hb.mono (Nat.le_trans HB4.out.size HB.out.size)); clear hb)
        go_ret
        exact ⟨rfl, R9.out⟩
    · have hka : (A.length : Int) ≤ (k : Int) := by omega
      go_wp2_with (go_at_call 17; refine (works_any _).mono ?_; rintro r w9 ⟨rfl, hb⟩; have R9 : Hid (Below w.heap.size w w9) := (HB4.out.trans (HB.out.mono HB4.out.size)).trans (hb.mono (Nat.le_trans HB4.out.size HB.out.size)); clear hb)
      go_ret
      exact ⟨rfl, R9.out⟩
theorem both_any (K : List Int) (p0 : Option Addr) (cap0 : Nat) (hc : K.length ≤ cap0) (hcm : cap0 ≤ 9223372036854775807) (e n : Int) (A B : List Int) (pa pb : Option Addr) (ca cb : Nat) (w : World) (hp : BAt w p0 K) (ha : BAt w pa A) (hb : BAt w pb B) (ha0 : pa = none → A = [] ∧ ca = 0) (hb0 : pb = none → B = [] ∧ cb = 0) :
    Calls Try.prog 8 #[.slice p0 K.length cap0, .int .i64 e, .int .i64 n, .slice pa A.length ca, .slice pb B.length cb] w (YesSay w) := by
  rcases key_cases K p0 cap0 w hc hcm hp with h | ⟨ks, N, h1, h2, h3⟩
  · exact both_bad _ _ _ _ _ _ _ _ _ _ _ h w
  · by_cases hl : 8192 < A.length ∨ 8192 < B.length
    · exact both_long _ _ _ _ _ _ _ _ _ _ _ ks w h3 hl
    · exact both_good p0 K.length cap0 e n A B pa pb ca cb ks N h1 h2 w h3 ha hb ha0 hb0 (by omega) (by omega)
end Go.Proofs.Ytkajigfdfbgphaa

/-
  rilllaw04.CtrBack walked.
-/
import Derived.Test.YtkajigfdfbgphaaCtrH
namespace Go.Proofs.Ytkajigfdfbgphaa
open Go.RowKit

theorem xs_xs (S : Nat → List Int) (L : List Int) (hb : Sha.Byt L) (hS : ∀ i j, 0 ≤ (S i).getD j 0 ∧ (S i).getD j 0 ≤ 255) : Ctr.xs S (Ctr.xs S L) = L := by
  apply Ctr.ext_getD
  · rw [Ctr.xs_len, Ctr.xs_len]
  · intro j hj
    rw [Ctr.xs_len, Ctr.xs_len] at hj
    rw [Ctr.xs_get _ _ _ (by rw [Ctr.xs_len]; exact hj), Ctr.xs_get _ _ _ hj]
    exact xor_back (Sha.byt_getD hb _) (hS _ _)
theorem rep_getD (n j : Nat) : (List.replicate n (0 : Int)).getD j 0 = 0 := by
  rw [List.getD_eq_getElem?_getD, List.getElem?_replicate]
  split <;> rfl

set_option maxHeartbeats 2000000 in
set_option maxRecDepth 100000 in
theorem back_bad (p0 : Option Addr) (n0 cap0 : Nat) (e n : Int) (pb : Option Addr) (nb cb : Nat) (hb : KeyBad p0 n0 cap0) (w : World) :
    Calls Try.prog 5 #[.slice p0 n0 cap0, .int .i64 e, .int .i64 n, .slice pb nb cb] w (YesSay w) := by
  have NK := Lib.hid hb; clear hb
  unfold KeyBad at NK
  go_enter Try.func5, Try.ntmps5
  go_wp2_with (first
    | (go_at_call 11; refine (NK.out _).mono ?_; rintro r w2 ⟨rfl, rfl⟩)
    | (go_at_call 17; refine (works_any _).mono ?_; rintro r w3 ⟨rfl, hb3⟩))
  go_ret
  exact ⟨rfl, hb3⟩
set_option maxHeartbeats 2000000 in
set_option maxRecDepth 100000 in
theorem back_long (p0 : Option Addr) (n0 cap0 : Nat) (e n : Int) (pb : Option Addr) (nb cb : Nat) (ks : List Int) (w : World) (hk : KeyOk w p0 n0 cap0 ks) (h : 8192 < nb) :
    Calls Try.prog 5 #[.slice p0 n0 cap0, .int .i64 e, .int .i64 n, .slice pb nb cb] w (YesSay w) := by
  have NK : Hid (Calls Try.prog 11 #[.slice p0 n0 cap0] w fun r x' => ∃ c, r = .returned (.tuple #[.pointer (some ⟨c, 0, none⟩), .int .i64 0]) ∧ Hid (Ciph x' c Aes.TB ks) ∧ Hid (Below w.heap.size w x')) := hk w (Below.refl _ _)
  clear hk
  have h1' : (8192 : Int) < (nb : Int) := by omega
  go_enter Try.func5, Try.ntmps5
  go_wp2_with (first
    | (go_at_call 11; refine NK.out.mono ?_; rintro r w2 ⟨c, rfl, _, HB2⟩)
    | (go_at_call 17; refine (works_any _).mono ?_; rintro r w3 ⟨rfl, hb3⟩))
  go_ret
  exact ⟨rfl, HB2.out.trans (hb3.mono HB2.out.size)⟩
set_option maxHeartbeats 4000000 in
set_option maxRecDepth 100000 in
theorem back_good (p0 : Option Addr) (n0 cap0 : Nat) (e n : Int) (B : List Int) (pb : Option Addr) (cb : Nat) (ks : List Int) (N : Nat) (hn : ks.length = 4 * (N + 2)) (hN : N ≤ 100) (w : World) (hk : KeyOk w p0 n0 cap0 ks) (hb : BAt w pb B) (hb0 : pb = none → B = [] ∧ cb = 0) (hlb : B.length ≤ 8192) :
    Calls Try.prog 5 #[.slice p0 n0 cap0, .int .i64 e, .int .i64 n, .slice pb B.length cb] w (YesSay w) := by
  have NK : Hid (Calls Try.prog 11 #[.slice p0 n0 cap0] w fun r x' => ∃ c, r = .returned (.tuple #[.pointer (some ⟨c, 0, none⟩), .int .i64 0]) ∧ Hid (Ciph x' c Aes.TB ks) ∧ Hid (Below w.heap.size w x')) := hk w (Below.refl _ _)
  have Hb := Lib.hid hb; have Hb0 := Lib.hid hb0
  have HNN := Lib.hid (And.intro hn hN)
  clear hk hb hb0 hn hN
  have h2' : (B.length : Int) ≤ 8192 := by omega
  have HXX : Hid (Ctr.xs (StreamOf ks N e n) (Ctr.xs (StreamOf ks N e n) B) = B) := xs_xs _ _ Hb.out.1 (stream_byt _ _ _ _)
  have HXR : Hid (∀ i, i < B.length → bits .xor .u8 (B.getD i 0) ((Ctr.xs (StreamOf ks N e n) (List.replicate B.length 0)).getD i 0) = (Ctr.xs (StreamOf ks N e n) B).getD i 0) := fun i h1 => by
    rw [Ctr.xs_get _ _ _ h1, Ctr.xs_get _ _ _ (by rw [List.length_replicate]; exact h1), rep_getD, xor0 _ (stream_byt _ _ _ _ _ _)]
  have HXB : Hid ((Ctr.xs (StreamOf ks N e n) B).length = B.length) := Ctr.xs_len _ _
  have HXZ : Hid ((Ctr.xs (StreamOf ks N e n) (List.replicate B.length 0)).length = B.length) := by show _ = _; rw [Ctr.xs_len, List.length_replicate]
  have XK1 : Hid (∀ c x, Ciph x c Aes.TB ks → BAt x pb B → Calls Try.prog 18 #[.pointer (some ⟨c, 0, none⟩), .int .i64 e, .int .i64 n, .slice pb B.length cb] x fun r w' => ∃ q cq, r = .returned (.slice q B.length cq) ∧ Hid (XorGot B (Ctr.xs (StreamOf ks N e n) B) x q cq w')) := fun c x hC hx => xor_key HNN.out.1 HNN.out.2 c e n B _ rfl pb cb (by omega) Hb0.out x hx hC
  have XK2 : Hid (∀ c g x, Ciph x c Aes.TB ks → BAt x (some ⟨g, 0, none⟩) (List.replicate B.length 0) → Calls Try.prog 18 #[.pointer (some ⟨c, 0, none⟩), .int .i64 e, .int .i64 n, .slice (some ⟨g, 0, none⟩) B.length B.length] x fun r w' => ∃ q cq, r = .returned (.slice q B.length cq) ∧ Hid (XorGot (List.replicate B.length 0) (Ctr.xs (StreamOf ks N e n) (List.replicate B.length 0)) x q cq w')) := fun c g x hC hx => xor_key HNN.out.1 HNN.out.2 c e n (List.replicate B.length 0) _ (by rw [List.length_replicate]) _ _ (by omega) (fun e => by cases e) x hx hC
  have XK3 : Hid (∀ c q cq x, Ciph x c Aes.TB ks → BAt x q (Ctr.xs (StreamOf ks N e n) B) → (q = none → Ctr.xs (StreamOf ks N e n) B = [] ∧ cq = 0) → Calls Try.prog 18 #[.pointer (some ⟨c, 0, none⟩), .int .i64 e, .int .i64 n, .slice q B.length cq] x fun r w' => ∃ q cq, r = .returned (.slice q B.length cq) ∧ Hid (XorGot (Ctr.xs (StreamOf ks N e n) B) B x q cq w')) := fun c q cq x hC hx hq => by
    have h := xor_key HNN.out.1 HNN.out.2 c e n (Ctr.xs (StreamOf ks N e n) B) _ (Ctr.xs_len _ _) q cq (by omega) hq x hx hC
    rw [HXX.out] at h
    exact h
  clear HXX
  generalize Ctr.xs (StreamOf ks N e n) (List.replicate B.length 0) = Z at *
  generalize Ctr.xs (StreamOf ks N e n) B = X at *
  go_enter Try.func5, Try.ntmps5
  go_upto_region 6 with (first
    | (go_at_call 11; refine NK.out.mono ?_; rintro r w2 ⟨c, rfl, HC2, HB2⟩)
    | ((with_reducible refine make_at _ 5 _ _ (.int .u8 0) 1 B.length B.length ?_ ?_ ?_ ?_ rfl ?_ ?_ ?_ ?_); (exact rfl); (exact rfl); (exact Try.underlying22); (exact Try.info_u8); omega; omega; omega; intro w4 G4 hb4 hs4; have HB4 : Hid (Below w.heap.size w w4) := HB3.out.trans (hb4.mono HB3.out.size); have HC4 : Hid (Ciph w4 c Aes.TB ks) := HC3.out.below hb4 (Nat.le_refl _); have HX4 : Hid (BAt w4 q1 X) := HG3.out.bat.old hb4; have HZ4 : Hid (BAt w4 (some ⟨w3.heap.size, 0, none⟩) (List.replicate B.length 0)) := bat_row (by rw [List.map_replicate]; exact G4.out) (byt_rep B.length 0 (by omega)); clear hb4 hs4 G4)
    | (go_at_call 18; refine (XK2.out c _ _ HC4.out HZ4.out).mono ?_; rintro r w5 ⟨q2, c2, rfl, HG5⟩; have HB5 : Hid (Below w.heap.size w w5) := HB4.out.trans (HG5.out.below.mono HB4.out.size); have HC5 : Hid (Ciph w5 c Aes.TB ks) := HC4.out.below HG5.out.below (Nat.le_refl _); have HX5 : Hid (BAt w5 q1 X) := HX4.out.old HG5.out.below)
    | (go_at_call 18; refine (XK1.out c _ HC2.out (Hb.out.old HB2.out)).mono ?_; rintro r w3 ⟨q1, c1, rfl, HG3⟩; have HB3 : Hid (Below w.heap.size w w3) := HB2.out.trans (HG3.out.below.mono HB2.out.size); have HC3 : Hid (Ciph w3 c Aes.TB ks) := HC2.out.below HG3.out.below (Nat.le_refl _)))
  have HBB5 : Hid (BAt w5 pb B) := Hb.out.old HB5.out
  have HN3 : Hid (q1 = none → X = [] ∧ c1 = 0) := HG3.out.none
  have HZ5 : Hid (BAt w5 q2 Z) := HG5.out.bat
  clear HG3 HB3 HC3 HB2 HC2 NK XK1 XK2 HB4 HC4 HX4 HZ4 HG5 Hb
  go_wp2_with (first
    | (go_at_call 18; refine (XK3.out c _ _ _ HC5.out HX5.out HN3.out).mono ?_; rintro r w6 ⟨q3, c3, rfl, HG6⟩; have HB6 : Hid (Below w.heap.size w w6) := HB5.out.trans (HG6.out.below.mono HB5.out.size); have HX6 : Hid (BAt w6 q1 X) := HX5.out.old HG6.out.below; have HZ6 : Hid (BAt w6 q2 Z) := HZ5.out.old HG6.out.below; have HBB6 : Hid (BAt w6 pb B) := HBB5.out.old HG6.out.below; have HR6 : Hid (BAt w6 q3 B) := HG6.out.bat; clear HG6)
    | (go_at_call 20; refine (same_any B q3 pb B.length B.length c3 cb rfl rfl _ HR6.out HBB6.out (by omega)).mono ?_; rintro r w7 ⟨rfl, hb7⟩; have HB7 : Hid (Below w.heap.size w w7) := HB6.out.trans (hb7.mono HB6.out.size); have HX7 : Hid (BAt w7 q1 X) := HX6.out.old hb7; have HZ7 : Hid (BAt w7 q2 Z) := HZ6.out.old hb7; have HBB7 : Hid (BAt w7 pb B) := HBB6.out.old hb7; clear hb7))
  clear HB5 HC5 HX5 HBB5 HZ5 HN3 XK3 HB6 HX6 HZ6 HBB6 HR6
  go_loopw [13] (fun v13 wr => ∃ k : Nat, k ≤ B.length ∧ v13 = .int .i64 k ∧ Hid (Below w7.heap.size w7 wr)) (fun v13 _ => B.length - (intOf v13).toNat)
  case atStart => exact ⟨0, Nat.zero_le _, rfl, Below.refl _ _⟩
  case round =>
    obtain ⟨k, hk2, rfl, HB⟩ := hrel
    by_cases h2 : k < B.length
    · obtain ⟨xb, xo, hq1, hcx⟩ := (HX7.out.old HB.out).2 (by rw [HXB.out]; omega)
      obtain ⟨zb, zo, hq2, hcz⟩ := (HZ7.out.old HB.out).2 (by rw [HXZ.out]; omega)
      obtain ⟨bb, bo, hpb, hcb⟩ := (HBB7.out.old HB.out).2 (by omega)
      subst hq1 hq2 hpb
      have d0 := hcx k (by rw [HXB.out]; exact h2)
      have d1 := hcz k (by rw [HXZ.out]; exact h2)
      have d3 := hcb k h2
      have hxr := HXR.out k h2
      have hk0 : 0 ≤ (k : Int) := by omega
      have hkb : (k : Int) < (B.length : Int) := by omega
      clear hcx hcz hcb
      generalize X.getD k 0 = x1 at *
      generalize Z.getD k 0 = z1 at *
      generalize B.getD k 0 = b1 at *
      go_wp2
      go_quiet (fail)
      go_wp2
      exact ⟨⟨k + 1, by omega, by go_num, below_dn HB.out _⟩, by simp [intOf]; omega⟩
    · have hkb : (B.length : Int) ≤ (k : Int) := by omega
      go_wp2_with (go_at_call 17; refine (works_any _).mono ?_; rintro r w9 ⟨rfl, hb⟩; have R9 : Hid (Below w.heap.size w w9) := (HB7.out.trans (HB.out.mono HB7.out.size)).trans (hb.mono (Nat.le_trans HB7.out.size HB.out.size)); clear hb)
      go_ret
      exact ⟨rfl, R9.out⟩
theorem back_any (K : List Int) (p0 : Option Addr) (cap0 : Nat) (hc : K.length ≤ cap0) (hcm : cap0 ≤ 9223372036854775807) (e n : Int) (B : List Int) (pb : Option Addr) (cb : Nat) (w : World) (hp : BAt w p0 K) (hb : BAt w pb B) (hb0 : pb = none → B = [] ∧ cb = 0) :
    Calls Try.prog 5 #[.slice p0 K.length cap0, .int .i64 e, .int .i64 n, .slice pb B.length cb] w (YesSay w) := by
  rcases key_cases K p0 cap0 w hc hcm hp with h | ⟨ks, N, h1, h2, h3⟩
  · exact back_bad _ _ _ _ _ _ _ _ h w
  · by_cases hl : 8192 < B.length
    · exact back_long _ _ _ _ _ _ _ _ ks w h3 hl
    · exact back_good p0 K.length cap0 e n B pb cb ks N h1 h2 w h3 hb hb0 (by omega)
end Go.Proofs.Ytkajigfdfbgphaa

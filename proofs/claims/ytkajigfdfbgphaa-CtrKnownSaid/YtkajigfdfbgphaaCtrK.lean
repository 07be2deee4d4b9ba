/-
  rilllaw04.CtrCut walked.
-/
import Derived.Test.YtkajigfdfbgphaaCtrJ
namespace Go.Proofs.Ytkajigfdfbgphaa
open Go.RowKit

/-- Where a beginning of a slice lies. -/
def slc (p : Option Addr) (c : Nat) : Option Addr := if c = 0 then p else p.map (·.add 0)
theorem slc_bat {x : World} {p : Option Addr} {c : Nat} {L : List Int} (k : Nat) (h : BAt x p L) : BAt x (slc p c) (L.take k) := by
  refine ⟨Sha.byt_take h.1 k, fun h0 => ?_⟩
  rw [List.length_take] at h0 ⊢
  obtain ⟨b, o, rfl, hc⟩ := h.2 (by omega)
  have e : slc (some ⟨b, o, none⟩) c = some ⟨b, o, none⟩ := by
    unfold slc
    split
    · rfl
    · simp [Addr.add_mid]
  refine ⟨b, o, e, fun j hj => ?_⟩
  rw [hc j (by omega), List.getD_eq_getElem?_getD, List.getD_eq_getElem?_getD, List.getElem?_take, if_pos (by omega)]
theorem slc_none {p : Option Addr} {c : Nat} {L : List Int} (k : Nat) (h : p = none → L = [] ∧ c = 0) (e : slc p c = none) : L.take k = [] ∧ c = 0 := by
  have hp : p = none := by
    unfold slc at e
    split at e
    · exact e
    · simpa using e
  obtain ⟨rfl, h2⟩ := h hp
  exact ⟨by simp, h2⟩

set_option maxHeartbeats 2000000 in
set_option maxRecDepth 100000 in
theorem cut_bad (p0 : Option Addr) (n0 cap0 : Nat) (e n : Int) (pb : Option Addr) (nb cb : Nat) (m : Int) (hb : KeyBad p0 n0 cap0) (w : World) :
    Calls Try.prog 6 #[.slice p0 n0 cap0, .int .i64 e, .int .i64 n, .slice pb nb cb, .int .i64 m] w (YesSay w) := by
  have NK := Lib.hid hb; clear hb
  unfold KeyBad at NK
  go_enter Try.func6, Try.ntmps6
  go_wp2_with (first
    | (go_at_call 11; refine (NK.out _).mono ?_; rintro r w2 ⟨rfl, rfl⟩)
    | (go_at_call 17; refine (works_any _).mono ?_; rintro r w3 ⟨rfl, hb3⟩))
  go_ret
  exact ⟨rfl, hb3⟩
set_option maxHeartbeats 2000000 in
set_option maxRecDepth 100000 in
theorem cut_long (p0 : Option Addr) (n0 cap0 : Nat) (e n : Int) (pb : Option Addr) (nb cb : Nat) (m : Int) (ks : List Int) (w : World) (hk : KeyOk w p0 n0 cap0 ks) (h : 8192 < nb) :
    Calls Try.prog 6 #[.slice p0 n0 cap0, .int .i64 e, .int .i64 n, .slice pb nb cb, .int .i64 m] w (YesSay w) := by
  have NK : Hid (Calls Try.prog 11 #[.slice p0 n0 cap0] w fun r x' => ∃ c, r = .returned (.tuple #[.pointer (some ⟨c, 0, none⟩), .int .i64 0]) ∧ Hid (Ciph x' c Aes.TB ks) ∧ Hid (Below w.heap.size w x')) := hk w (Below.refl _ _)
  clear hk
  have h1' : (8192 : Int) < (nb : Int) := by omega
  go_enter Try.func6, Try.ntmps6
  go_wp2_with (first
    | (go_at_call 11; refine NK.out.mono ?_; rintro r w2 ⟨c, rfl, _, HB2⟩)
    | (go_at_call 17; refine (works_any _).mono ?_; rintro r w3 ⟨rfl, hb3⟩))
  go_ret
  exact ⟨rfl, HB2.out.trans (hb3.mono HB2.out.size)⟩
set_option maxHeartbeats 4000000 in
set_option maxRecDepth 100000 in
theorem cut_good (p0 : Option Addr) (n0 cap0 : Nat) (e n : Int) (B : List Int) (pb : Option Addr) (cb : Nat) (m : Int) (ks : List Int) (N : Nat) (hn : ks.length = 4 * (N + 2)) (hN : N ≤ 100) (w : World) (hk : KeyOk w p0 n0 cap0 ks) (hb : BAt w pb B) (hb0 : pb = none → B = [] ∧ cb = 0) (hcb : B.length ≤ cb) (hlb : B.length ≤ 8192) :
    Calls Try.prog 6 #[.slice p0 n0 cap0, .int .i64 e, .int .i64 n, .slice pb B.length cb, .int .i64 m] w (YesSay w) := by
  have NK : Hid (Calls Try.prog 11 #[.slice p0 n0 cap0] w fun r x' => ∃ c, r = .returned (.tuple #[.pointer (some ⟨c, 0, none⟩), .int .i64 0]) ∧ Hid (Ciph x' c Aes.TB ks) ∧ Hid (Below w.heap.size w x')) := hk w (Below.refl _ _)
  have Hb := Lib.hid hb; have Hb0 := Lib.hid hb0
  have HNN := Lib.hid (And.intro hn hN)
  clear hk hb hb0 hn hN
  have h2' : (B.length : Int) ≤ 8192 := by omega
  have HXB : Hid ((Ctr.xs (StreamOf ks N e n) B).length = B.length) := Ctr.xs_len _ _
  have XK0 : Hid (∀ e' n', StreamOf ks N e' n' = StreamOf ks N e n → ∀ c x, Ciph x c Aes.TB ks → BAt x pb B → Calls Try.prog 18 #[.pointer (some ⟨c, 0, none⟩), .int .i64 e', .int .i64 n', .slice pb B.length cb] x fun r w' => ∃ q cq, r = .returned (.slice q B.length cq) ∧ Hid (XorGot B (Ctr.xs (StreamOf ks N e n) B) x q cq w')) := fun e' n' hs c x hC hx => by
    have h := xor_key HNN.out.1 HNN.out.2 c e' n' B _ rfl pb cb (by omega) Hb0.out x hx hC
    rw [hs] at h
    exact h
  have XK1 := Lib.hid (XK0.out e n rfl)
  have XK2 := Lib.hid (XK0.out _ n (stream_e48 ks N e n))
  have XK3 := Lib.hid (XK0.out e _ (stream_n62 ks N e n))
  have XKP : Hid (∀ k, k ≤ B.length → ∀ c x, Ciph x c Aes.TB ks → BAt x pb B → Calls Try.prog 18 #[.pointer (some ⟨c, 0, none⟩), .int .i64 e, .int .i64 n, .slice (slc pb cb) k cb] x fun r w' => ∃ q cq, r = .returned (.slice q k cq) ∧ Hid (XorGot (B.take k) ((Ctr.xs (StreamOf ks N e n) B).take k) x q cq w')) := fun k hk c x hC hx => by
    have h := xor_key HNN.out.1 HNN.out.2 c e n (B.take k) k (by rw [List.length_take]; omega) (slc pb cb) cb (by omega) (slc_none k Hb0.out) x (slc_bat k hx) hC
    rw [xs_take _ _ _ hk] at h
    exact h
  clear XK0
  generalize Ctr.xs (StreamOf ks N e n) B = X at *
  go_enter Try.func6, Try.ntmps6
  go_upto_region 6 with (first
    | (go_at_call 11; refine NK.out.mono ?_; rintro r w2 ⟨c, rfl, HC2, HB2⟩)
    | (go_at_call 21; refine (pick_any _ _ (by omega) (by omega) _).mono ?_; rintro r w4 ⟨rfl, k, hk, rfl⟩)
    | (go_at_call 18; refine (XK1.out c _ HC2.out (Hb.out.old HB2.out)).mono ?_; rintro r w3 ⟨q1, c1, rfl, HG3⟩; have HB3 : Hid (Below w.heap.size w w3) := HB2.out.trans (HG3.out.below.mono HB2.out.size); have HC3 : Hid (Ciph w3 c Aes.TB ks) := HC2.out.below HG3.out.below (Nat.le_refl _)))
  have hk : k ≤ B.length := by omega
  have hk2 : (k : Int) ≤ (cb : Int) := by omega
  have hk0 : 0 ≤ (k : Int) := by omega
  have HC1 : Hid (B.length ≤ c1) := HG3.out.cap.1
  have hk3 : (k : Int) ≤ (c1 : Int) := by have := HC1.out; omega
  have HX3 : Hid (BAt w4 q1 X) := HG3.out.bat
  have HBB3 : Hid (BAt w4 pb B) := Hb.out.old HB3.out
  have HKL : Hid ((X.take k).length = k) := by show _ = _; rw [List.length_take, HXB.out]; omega
  have XP := Lib.hid (XKP.out k hk)
  clear HG3 HB2 HC2 NK XK1 XKP Hb
  refine wp_region_any (by kernel_rfl) ?_
  change wpAny _ _ _ _ _ _ _ (World.drew _)
  have HQd : Hid (Below w.heap.size w w4.drew) := HB3.out.drew
  have HXd : Hid (BAt w4.drew q1 X) := HX3.out.drewN 1
  have HBd : Hid (BAt w4.drew pb B) := HBB3.out.drewN 1
  have HCd : Hid (Ciph w4.drew c Aes.TB ks) := HC3.out.below (Below.refl _ _).drew (Nat.le_refl _)
  clear HB3 HX3 HBB3 HC3
  generalize w4.drew = wd at *
  have hT := Lib.hid trivial
  refine wpAny_of_held (S := fun _ : World => True) _ _ _ _ ?_
  refine anyH_take 0 38 (.slice q1 B.length c1) hT.out rfl (by kernel_rfl) (by kernel_rfl) (by kernel_rfl) (fun _ _ _ h => h) (by rfl) (by intro x hx; go_simp; try (intro h; omega)) ?_
  try simp only [Act.put, List.setIfInBounds_toArray, List.set_cons_zero, List.set_cons_succ]
  refine anyH_take 1 39 (.int .i64 B.length) hT.out rfl (by kernel_rfl) (by kernel_rfl) (by kernel_rfl) (fun _ _ _ h => h) (by rfl) (by intro x hx; go_simp; try (intro h; omega)) ?_
  try simp only [Act.put, List.setIfInBounds_toArray, List.set_cons_zero, List.set_cons_succ]
  refine anyH_take 2 40 (.slice pb B.length cb) hT.out rfl (by kernel_rfl) (by kernel_rfl) (by kernel_rfl) (fun _ _ _ h => h) (by rfl) (by intro x hx; go_simp; try (intro h; omega)) ?_
  try simp only [Act.put, List.setIfInBounds_toArray, List.set_cons_zero, List.set_cons_succ]
  refine anyH_take 3 41 (.int .i64 B.length) hT.out rfl (by kernel_rfl) (by kernel_rfl) (by kernel_rfl) (fun _ _ _ h => h) (by rfl) (by intro x hx; go_simp; try (intro h; omega)) ?_
  try simp only [Act.put, List.setIfInBounds_toArray, List.set_cons_zero, List.set_cons_succ]
  refine anyH_take 4 42 (.bool false) hT.out rfl (by kernel_rfl) (by kernel_rfl) (by kernel_rfl) (fun _ _ _ h => h) (by rfl) (by intro x hx; go_simp; try (intro h; omega)) ?_
  try simp only [Act.put, List.setIfInBounds_toArray, List.set_cons_zero, List.set_cons_succ]
  refine anyH_take 5 43 (.bool false) hT.out rfl (by kernel_rfl) (by kernel_rfl) (by kernel_rfl) (fun _ _ _ h => h) (by rfl) (by intro x hx; go_simp; try (intro h; omega)) ?_
  try simp only [Act.put, List.setIfInBounds_toArray, List.set_cons_zero, List.set_cons_succ]
  refine anyH_take 6 44 (.pointer (some ⟨c, 0, none⟩)) hT.out rfl (by kernel_rfl) (by kernel_rfl) (by kernel_rfl) (fun _ _ _ h => h) (by rfl) (by intro x hx; go_simp; try (intro h; omega)) ?_
  try simp only [Act.put, List.setIfInBounds_toArray, List.set_cons_zero, List.set_cons_succ]
  refine anyH_take 7 45 (.int .i64 e) hT.out rfl (by kernel_rfl) (by kernel_rfl) (by kernel_rfl) (fun _ _ _ h => h) (by rfl) (by intro x hx; go_simp; try (intro h; omega)) ?_
  try simp only [Act.put, List.setIfInBounds_toArray, List.set_cons_zero, List.set_cons_succ]
  refine anyH_take 8 46 (.int .i64 n) hT.out rfl (by kernel_rfl) (by kernel_rfl) (by kernel_rfl) (fun _ _ _ h => h) (by rfl) (by intro x hx; go_simp; try (intro h; omega)) ?_
  try simp only [Act.put, List.setIfInBounds_toArray, List.set_cons_zero, List.set_cons_succ]
  refine anyH_take 9 47 (.slice pb B.length cb) hT.out rfl (by kernel_rfl) (by kernel_rfl) (by kernel_rfl) (fun _ _ _ h => h) (by rfl) (by intro x hx; go_simp; try (intro h; omega)) ?_
  try simp only [Act.put, List.setIfInBounds_toArray, List.set_cons_zero, List.set_cons_succ]
  refine anyH_take 10 48 (.int .i64 k) hT.out rfl (by kernel_rfl) (by kernel_rfl) (by kernel_rfl) (fun _ _ _ h => h) (by rfl) (by intro x hx; go_simp; try (intro h; omega)) ?_
  try simp only [Act.put, List.setIfInBounds_toArray, List.set_cons_zero, List.set_cons_succ]
  refine anyH_take 11 49 (.slice (slc pb cb) k cb) hT.out rfl (by kernel_rfl) (by kernel_rfl) (by kernel_rfl) (fun _ _ _ h => h) (by rfl) (by intro x hx; unfold slc; go_simp; try (intro h; omega)) ?_
  try simp only [Act.put, List.setIfInBounds_toArray, List.set_cons_zero, List.set_cons_succ]
  refine anyH_take 13 51 (.slice q1 B.length c1) hT.out rfl (by kernel_rfl) (by kernel_rfl) (by kernel_rfl) (fun _ _ _ h => h) (by rfl) (by intro x hx; go_simp; try (intro h; omega)) ?_
  try simp only [Act.put, List.setIfInBounds_toArray, List.set_cons_zero, List.set_cons_succ]
  refine anyH_take 14 52 (.int .i64 k) hT.out rfl (by kernel_rfl) (by kernel_rfl) (by kernel_rfl) (fun _ _ _ h => h) (by rfl) (by intro x hx; go_simp; try (intro h; omega)) ?_
  try simp only [Act.put, List.setIfInBounds_toArray, List.set_cons_zero, List.set_cons_succ]
  refine anyH_take 15 53 (.slice (slc q1 c1) k c1) hT.out rfl (by kernel_rfl) (by kernel_rfl) (by kernel_rfl) (fun _ _ _ h => h) (by rfl) (by intro x hx; unfold slc; go_simp; try (intro h; omega)) ?_
  try simp only [Act.put, List.setIfInBounds_toArray, List.set_cons_zero, List.set_cons_succ]
  refine anyH_one 12 (by kernel_rfl) ?_
  refine wpOp_step rfl (fun Kc hKc => ?_)
  go_simp
  refine (XP.out c _ HCd.out HBd.out).mono ?_
  rintro e5 w5 ⟨q5, c5, rfl, HG5⟩
  have HB5 : Hid (Below w.heap.size w w5) := HQd.out.trans (HG5.out.below.mono HQd.out.size)
  have HX5 : Hid (BAt w5 q1 X) := HXd.out.old HG5.out.below
  have HBB5 : Hid (BAt w5 pb B) := HBd.out.old HG5.out.below
  have HC5 : Hid (Ciph w5 c Aes.TB ks) := HCd.out.below HG5.out.below (Nat.le_refl _)
  have HT5 : Hid (BAt w5 q5 (X.take k)) := HG5.out.bat
  clear HG5 HQd HXd HBd HCd XP
  dsimp only
  refine hKc _ _ ⟨trivial, ?_⟩
  clear hKc Kc
  try simp only [Act.put, List.setIfInBounds_toArray, List.set_cons_zero, List.set_cons_succ]
  refine anyH_one 16 (by kernel_rfl) ?_
  refine wpOp_step rfl (fun Kc hKc => ?_)
  go_simp
  refine (same_any (X.take k) q5 (slc q1 c1) k k c5 c1 HKL.out HKL.out w5 HT5.out (slc_bat k HX5.out) (by rw [HKL.out]; omega)).mono ?_
  rintro e6 w6 ⟨rfl, hb6⟩
  have HB6 : Hid (Below w.heap.size w w6) := HB5.out.trans (hb6.mono HB5.out.size)
  have HX6 : Hid (BAt w6 q1 X) := HX5.out.old hb6
  have HBB6 : Hid (BAt w6 pb B) := HBB5.out.old hb6
  have HC6 : Hid (Ciph w6 c Aes.TB ks) := HC5.out.below hb6 (Nat.le_refl _)
  clear hb6 HB5 HX5 HBB5 HC5 HT5
  dsimp only
  refine hKc _ _ ⟨trivial, ?_⟩
  clear hKc Kc
  try simp only [Act.put, List.setIfInBounds_toArray, List.set_cons_zero, List.set_cons_succ]
  refine anyH_take 17 55 (.bool false) hT.out rfl (by kernel_rfl) (by kernel_rfl) (by kernel_rfl) (fun _ _ _ h => h) (by rfl) (by intro x hx; go_simp; try (intro h; omega)) ?_
  try simp only [Act.put, List.setIfInBounds_toArray, List.set_cons_zero, List.set_cons_succ]
  refine anyH_take 18 56 (.bool false) hT.out rfl (by kernel_rfl) (by kernel_rfl) (by kernel_rfl) (fun _ _ _ h => h) (by rfl) (by intro x hx; go_simp; try (intro h; omega)) ?_
  try simp only [Act.put, List.setIfInBounds_toArray, List.set_cons_zero, List.set_cons_succ]
  refine anyH_done (by kernel_rfl) ?_ _
  go_wp2_with (first
    | (go_at_call 17; refine (works_any _).mono ?_; rintro r w11 ⟨rfl, hb11⟩; have HB11 : Hid (Below w.heap.size w w11) := HB10.out.trans (hb11.mono HB10.out.size); clear hb11)
    | (go_at_call 20; refine (same_any X q9 q1 B.length B.length c9 c1 HXB.out HXB.out _ HR9.out HX9.out (by rw [HXB.out]; omega)).mono ?_; rintro r w10 ⟨rfl, hb10⟩; have HB10 : Hid (Below w.heap.size w w10) := HB9.out.trans (hb10.mono HB9.out.size); clear hb10)
    | (go_at_call 18; refine (XK3.out c _ HC8.out HBB8.out).mono ?_; rintro r w9 ⟨q9, c9, rfl, HG9⟩; have HB9 : Hid (Below w.heap.size w w9) := HB8.out.trans (HG9.out.below.mono HB8.out.size); have HX9 : Hid (BAt w9 q1 X) := HX8.out.old HG9.out.below; have HR9 : Hid (BAt w9 q9 X) := HG9.out.bat; clear HG9)
    | (go_at_call 20; refine (same_any X q7 q1 B.length B.length c7 c1 HXB.out HXB.out _ HR7.out HX7.out (by rw [HXB.out]; omega)).mono ?_; rintro r w8 ⟨rfl, hb8⟩; have HB8 : Hid (Below w.heap.size w w8) := HB7.out.trans (hb8.mono HB7.out.size); have HX8 : Hid (BAt w8 q1 X) := HX7.out.old hb8; have HBB8 : Hid (BAt w8 pb B) := HBB7.out.old hb8; have HC8 : Hid (Ciph w8 c Aes.TB ks) := HC7.out.below hb8 (Nat.le_refl _); clear hb8)
    | (go_at_call 18; refine (XK2.out c _ HC6.out HBB6.out).mono ?_; rintro r w7 ⟨q7, c7, rfl, HG7⟩; have HB7 : Hid (Below w.heap.size w w7) := HB6.out.trans (HG7.out.below.mono HB6.out.size); have HX7 : Hid (BAt w7 q1 X) := HX6.out.old HG7.out.below; have HBB7 : Hid (BAt w7 pb B) := HBB6.out.old HG7.out.below; have HC7 : Hid (Ciph w7 c Aes.TB ks) := HC6.out.below HG7.out.below (Nat.le_refl _); have HR7 : Hid (BAt w7 q7 X) := HG7.out.bat; clear HG7))
  go_ret
  exact ⟨rfl, HB11.out⟩
theorem cut_any (K : List Int) (p0 : Option Addr) (cap0 : Nat) (hc : K.length ≤ cap0) (hcm : cap0 ≤ 9223372036854775807) (e n : Int) (B : List Int) (pb : Option Addr) (cb : Nat) (m : Int) (w : World) (hp : BAt w p0 K) (hb : BAt w pb B) (hb0 : pb = none → B = [] ∧ cb = 0) (hcb : B.length ≤ cb) :
    Calls Try.prog 6 #[.slice p0 K.length cap0, .int .i64 e, .int .i64 n, .slice pb B.length cb, .int .i64 m] w (YesSay w) := by
  rcases key_cases K p0 cap0 w hc hcm hp with h | ⟨ks, N, h1, h2, h3⟩
  · exact cut_bad _ _ _ _ _ _ _ _ _ h w
  · by_cases hl : 8192 < B.length
    · exact cut_long _ _ _ _ _ _ _ _ _ ks w h3 hl
    · exact cut_good p0 K.length cap0 e n B pb cb m ks N h1 h2 w h3 hb hb0 hcb (by omega)
end Go.Proofs.Ytkajigfdfbgphaa

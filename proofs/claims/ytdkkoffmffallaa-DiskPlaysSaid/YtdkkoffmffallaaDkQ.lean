/-
  The law DiskFails walked.
-/
import Derived.Test.YtdkkoffmffallaaDkO
namespace Go.Proofs.Ytdkkoffmffallaa
open Go.RowKit

set_option maxHeartbeats 1000000 in
theorem pick_any (k n : Int) (h1 : 1 ≤ n) (hn : n ≤ 1000000) (w : World) : Calls Try.prog 11 #[.int .i64 k, .int .i64 n] w fun r w' => w' = w ∧ ∃ j : Nat, (j : Int) < n ∧ r = .returned (.int .i64 (j : Int)) := by
  have hlt : k.tmod n < n := Int.tmod_lt_of_pos k (by omega)
  have hge : -n < k.tmod n := by
    have h := Int.tmod_lt_of_pos (-k) (show 0 < n by omega)
    rw [Int.neg_tmod] at h
    omega
  have hw : IntKind.i64.wrap (k.tmod n) = k.tmod n := IntWalk.i64_in _ ⟨by omega, by omega⟩
  have hnz : n ≠ 0 := by omega
  have hw2 : IntKind.i64.wrap (k.tmod n + n) = k.tmod n + n := IntWalk.i64_in _ ⟨by omega, by omega⟩
  by_cases h0 : k.tmod n < 0
  · go_enter Try.func11, Try.ntmps11
    go_wp2
    go_ret
    exact ⟨rfl, (k.tmod n + n).toNat, by omega, by congr 2; show Value.int .i64 (k.tmod n + n) = _; congr 1; omega⟩
  · have h0' : 0 ≤ k.tmod n := by omega
    go_enter Try.func11, Try.ntmps11
    go_wp2
    go_ret
    exact ⟨rfl, (k.tmod n).toNat, by omega, by congr 2; show Value.int .i64 (k.tmod n) = _; congr 1; omega⟩

/-- Which number Pick answers. -/
def pk (k n : Int) : Nat := (if k.tmod n < 0 then k.tmod n + n else k.tmod n).toNat
theorem pk_lt (k n : Int) (h1 : 1 ≤ n) : (pk k n : Int) < n := by
  have hlt : k.tmod n < n := Int.tmod_lt_of_pos k (by omega)
  have hge : -n < k.tmod n := by
    have h := Int.tmod_lt_of_pos (-k) (show 0 < n by omega)
    rw [Int.neg_tmod] at h
    omega
  unfold pk
  split <;> omega
attribute [irreducible] pk
set_option maxHeartbeats 1000000 in
theorem pick_at (k n : Int) (h1 : 1 ≤ n) (hn : n ≤ 1000000) (w : World) : Calls Try.prog 11 #[.int .i64 k, .int .i64 n] w fun r w' => w' = w ∧ r = .returned (.int .i64 (pk k n : Nat)) := by
  have hlt : k.tmod n < n := Int.tmod_lt_of_pos k (by omega)
  have hge : -n < k.tmod n := by
    have h := Int.tmod_lt_of_pos (-k) (show 0 < n by omega)
    rw [Int.neg_tmod] at h
    omega
  have hw : IntKind.i64.wrap (k.tmod n) = k.tmod n := IntWalk.i64_in _ ⟨by omega, by omega⟩
  have hnz : n ≠ 0 := by omega
  have hw2 : IntKind.i64.wrap (k.tmod n + n) = k.tmod n + n := IntWalk.i64_in _ ⟨by omega, by omega⟩
  by_cases h0 : k.tmod n < 0
  · have hp : ((pk k n : Nat) : Int) = k.tmod n + n := by unfold pk; rw [if_pos h0]; omega
    go_enter Try.func11, Try.ntmps11
    go_wp2
    go_ret
    exact ⟨rfl, by first | rfl | (rw [hp]; rfl)⟩
  · have h0' : 0 ≤ k.tmod n := by omega
    have hp : ((pk k n : Nat) : Int) = k.tmod n := by unfold pk; rw [if_neg h0]; omega
    go_enter Try.func11, Try.ntmps11
    go_wp2
    go_ret
    exact ⟨rfl, by first | rfl | (rw [hp]; rfl)⟩

set_option maxHeartbeats 1000000 in
set_option maxRecDepth 100000 in
theorem same_ints (L : List Int) (p q : Option Addr) (n m c d : Nat) (hn : L.length = n) (hm : L.length = m) (w : World) (hp : ∀ y, Below w.heap.size w y → IAt y p L) (hq : ∀ y, Below w.heap.size w y → IAt y q L) (hL : L.length ≤ 10000000) :
    Calls Try.prog 24 #[.slice p n c, .slice q m d] w (YesSay w) := by
  subst hn
  subst hm
  have Hp := Lib.hid hp; clear hp
  have Hq := Lib.hid hq; clear hq
  go_enter Try.func24, Try.ntmps24
  go_wp2
  go_loopw [5] (fun v5 wr => ∃ k : Nat, k ≤ L.length ∧ v5 = .int .i64 k ∧ Hid (Below w.heap.size w wr)) (fun v5 _ => L.length - (intOf v5).toNat)
  case atStart => exact ⟨0, by omega, rfl, Below.refl _ _⟩
  case round =>
    obtain ⟨k, hk, rfl, HB⟩ := hrel
    by_cases hlt : k < L.length
    · obtain ⟨ab, ao, hpp, hcs⟩ := Hp.out _ HB.out (by omega)
      obtain ⟨bb, bo, hqq, hds⟩ := Hq.out _ HB.out (by omega)
      subst hpp
      subst hqq
      have c0 := hcs k hlt
      have c1 := hds k hlt
      have hn : 0 ≤ (k : Int) := by omega
      have hm : (k : Int) < (L.length : Int) := by omega
      generalize L.getD k 0 = x at *
      go_wp2
      go_quiet (fail)
      go_wp2
      exact ⟨⟨k + 1, by omega, by go_num, below_dn HB.out _⟩, by simp [intOf]; omega⟩
    · have E : k = L.length := by omega
      have hge : L.length ≤ k := by omega
      clear hlt E
      go_wp2
      go_ret
      exact ⟨rfl, HB.out⟩
def Zs (l : List Nat) : List Int := l.map fun (k : Nat) => (k : Int)
theorem zs_len (l : List Nat) : (Zs l).length = l.length := by simp [Zs]
/-- What Dirty told, as it is read while the disk turns. -/
theorem dirty_iat {w y : World} {T : Nat → Prop} {d lb rb cb n : Nat} {m : Dk.M} {l : List Nat} {v : Value} (hd : DkAt w T d lb rb cb m) (ho : y.ownsRow w.heap.size 3 1 v n (I64s l)) (hn : l.length = n) :
    ∃ a c, v = .slice a n c ∧ ∀ z, Mv [d, lb, rb, cb] y z → IAt z a (Zs l) := by
  obtain ⟨a, c, rfl⟩ := own_len ho
  refine ⟨a, c, rfl, fun z hz h0 => ?_⟩
  rw [zs_len] at h0 ⊢
  obtain ⟨g, rfl, h2, h3⟩ := ints_at ho (by omega)
  have hb : z.heap[g]? = y.heap[g]? := by
    obtain ⟨_, cur, hb⟩ := own_type ho g rfl
    refine hz.block g (lt_of_block hb) (fun hin => ?_)
    have t1 := hd.top _ hd.lt.1
    have t2 := hd.top _ hd.lt.2.1
    have t3 := hd.top _ hd.lt.2.2.1
    have t4 := hd.top _ hd.lt.2.2.2
    simp only [List.mem_cons, List.not_mem_nil, or_false] at hin
    rcases hin with rfl | rfl | rfl | rfl <;> omega
  refine ⟨g, 0, rfl, fun j hj => ?_⟩
  rw [Nat.zero_add, h3 z j (l[j]'hj) hb (List.getElem?_eq_getElem hj)]
  simp [Zs, List.getD_eq_getElem?_getD, hj]
namespace Dk
/-- Behind an operation. -/
structure Aft (m m' : M) : Prop where
  n : m'.n = m.n
  rd : m'.rd = m.rd
  wr : m'.wr ≤ m.wr + 1
  no : gone m = true → m'.ca = m.ca ∧ m'.down = true
  yes : gone m = false → m'.left = (if 0 < m.left then m.left - 1 else m.left) ∧ m'.down = false
theorem gone_down {m : M} (h : gone m = false) : m.down = false ∧ m.left ≠ 0 := by
  unfold gone at h
  simp at h
  exact h
theorem aft_spend (m : M) : Aft m (spend m) := by
  refine ⟨spend_n m, spend_rd m, by rw [spend_wr]; omega, fun h => ⟨spend_ca m, ?_⟩, fun h => ?_⟩
  · unfold spend; rw [if_pos h]
  · unfold spend; rw [h, if_neg (by decide)]; exact ⟨rfl, (gone_down h).1⟩
theorem aft_sync (m : M) : Aft m (syM m) := by
  have h := aft_spend m
  unfold syM
  cases hg : gone m with
  | true => rw [if_pos rfl]; exact h
  | false => rw [if_neg (by decide)]; exact ⟨h.n, h.rd, h.wr, fun q => (by rw [hg] at q; cases q), fun q => h.yes q⟩
theorem wrE_eq {m : M} {i : Int} {L : List Int} (h : fault m i L = 0) : wrE m i L = spendE m := by
  unfold wrE
  cases hd : m.down with
  | true => rw [if_pos rfl]; unfold spendE gone; rw [hd]; rfl
  | false => rw [if_neg (by decide), if_neg (by rw [h]; decide)]
theorem aft_write (m : M) (i : Int) (L : List Int) (hf : fault m i L = 0) : Aft m (wrM m i L) := by
  have h := aft_spend m
  unfold wrM
  cases hd : m.down with
  | true => rw [if_pos rfl]; exact ⟨rfl, rfl, by omega, fun _ => ⟨rfl, hd⟩, fun q => by have := (gone_down q).1; rw [hd] at this; cases this⟩
  | false =>
    rw [if_neg (by decide), if_neg (by rw [hf]; decide)]
    cases hg : gone m with
    | true => rw [if_pos rfl]; exact h
    | false => rw [if_neg (by decide)]; exact ⟨h.n, h.rd, by show m.wr + 1 ≤ _; omega, fun q => (by rw [hg] at q; cases q), fun q => h.yes q⟩
theorem dl_eq {m m' : M} (hn : m'.n = m.n) (hc : m'.ca = m.ca) : dl m' = dl m := by unfold dl; rw [hn, hc]
/-- A disk of nine sectors, armed for n operations, behind i. -/
structure Inv (m : M) (n i : Nat) : Prop where
  nn : m.n = 9
  rd : ∀ j, m.rd j = 0
  wr : m.wr ≤ i
  on : i ≤ n → m.left = (n : Int) - (i : Int) ∧ m.down = false
  off : n < i → m.down = true
theorem Inv.gone {m : M} {n i : Nat} (h : Inv m n i) : gone m = decide (n ≤ i) := by
  unfold Dk.gone
  by_cases h1 : i ≤ n
  · rw [(h.on h1).1, (h.on h1).2]
    by_cases h2 : n ≤ i
    · rw [decide_eq_true (show (n : Int) - (i : Int) = 0 by omega), decide_eq_true h2]; rfl
    · rw [decide_eq_false (show ¬ (n : Int) - (i : Int) = 0 by omega), decide_eq_false h2]; rfl
  · rw [h.off (by omega), decide_eq_true (show n ≤ i by omega)]; rfl
theorem Inv.next {m m' : M} {n i : Nat} (h : Inv m n i) (ha : Aft m m') : Inv m' n (i + 1) := by
  have hg := h.gone
  refine ⟨by rw [ha.n, h.nn], fun j => by rw [ha.rd]; exact h.rd j, by have := ha.wr; have := h.wr; omega, fun h1 => ?_, fun h1 => ?_⟩
  · rw [decide_eq_false (by omega)] at hg
    have h2 := ha.yes hg
    have h3 := h.on (by omega)
    rw [h3.1, if_pos (by omega)] at h2
    exact ⟨by rw [h2.1]; omega, h2.2⟩
  · rw [decide_eq_true (by omega)] at hg
    exact (ha.no hg).2
theorem Inv.down {m m' : M} {n i : Nat} (h : Inv m n i) (ha : Aft m m') : m'.down = decide (n ≤ i) := by
  have hg := h.gone
  by_cases h1 : n ≤ i
  · rw [decide_eq_true h1] at hg ⊢; exact (ha.no hg).2
  · rw [decide_eq_false h1] at hg ⊢; exact (ha.yes hg).2
theorem fault9 {m : M} (hn : m.n = 9) (i : Nat) (x : Int) : fault m ((i : Int) % 9) [x] = 0 := by
  unfold fault here
  rw [hn, decide_eq_true (show (0 : Int) ≤ (i : Int) % 9 by omega), decide_eq_true (show (i : Int) % 9 < ((9 : Nat) : Int) by omega)]
  rfl
/-- The write into a sector that there is not. -/
theorem fault_no {m : M} (hn : m.n = 9) : fault m 9 [] = 7 := by
  unfold fault here
  rw [hn]
  rfl
theorem wrE_dn {m : M} (hd : m.down = true) (_hn : m.n = 9) : wrE m 9 [] = 12 := by unfold wrE; rw [hd]; rfl
theorem wrE_up {m : M} (hd : m.down = false) (hn : m.n = 9) : wrE m 9 [] = 7 := by unfold wrE; rw [hd, fault_no hn]; rfl
theorem wrM_no {m : M} (hn : m.n = 9) : wrM m 9 [] = m := by
  unfold wrM
  rw [fault_no hn]
  cases m.down <;> rfl
end Dk
set_option maxHeartbeats 4000000 in
set_option maxRecDepth 100000 in
theorem fails_any (L : List Int) (n : Int) (tp : Option Addr) (cap : Nat) (_hn : In64 n) (w : World) (hl : IAt w tp L) :
    Calls Try.prog 5 #[.slice tp L.length cap, .int .i64 n] w (YesSay w) := by
  have DN : Hid (∀ (y : World) (o : Obj), Below y.heap.size y (y.alloc o)) := fun y o => (Below.refl _ _).alloc (Nat.le_refl _) o
  have HL : Hid (∀ y, Below w.heap.size w y → IAt y tp L) := fun y hy h0 => by
    obtain ⟨ab, ao, h1, h2⟩ := hl h0
    exact ⟨ab, ao, h1, fun j hj => (hy.cell (World.block_lt_of_cell? _ _ (h2 j hj))).trans (h2 j hj)⟩
  clear hl
  obtain ⟨N, HN⟩ : ∃ N, Hid (pk n 100 = N) := ⟨_, rfl⟩
  have HNL : Hid (N < 100) := by show N < _; rw [← HN.out]; have := pk_lt n 100 (by omega); omega
  go_enter Try.func5, Try.ntmps5
  go_upto_region 7 with (first
    | (go_at_call 9; refine (new4 9 (by omega) (by omega) _).mono ?_; rintro e0 q0 ⟨d, lb, rb, cb, rfl, hd, hb⟩; have H0 := Lib.hid (Sit.new hd.out hb (Below.refl _ w)); clear hd hb)
    | (go_at_call 11; refine (pick_at n 100 (by omega) (by omega) _).mono ?_; rw [HN.out]; rintro ep qp ⟨rfl, rfl⟩)
    | (go_at_call 22; refine (arm_any (N : Int) (by have := HNL.out; unfold In64; omega) _ H0.out.dk).mono ?_; rintro e1 q1 ⟨rfl, hd, hm⟩; have H1 := Lib.hid (H0.out.row hd.out hm); clear hd hm))
  go_loopw [7, 8, 9] (fun v7 _ _ wr => ∃ (i : Nat) (m : Dk.M) (T : Nat → Prop), i ≤ L.length ∧ i ≤ 100 ∧ v7 = .int .i64 i ∧ Hid (Dk.Inv m N i) ∧ Hid (Sit w wr T d lb rb cb m)) (fun v7 _ _ _ => 100 - (intOf v7).toNat)
  case atStart => exact ⟨0, _, _, by omega, by omega, rfl, Lib.hid ⟨rfl, fun _ => rfl, Nat.le_refl _, fun _ => ⟨by show (N : Int) = _; omega, rfl⟩, fun h => by omega⟩, H1⟩
  case round =>
    obtain ⟨i, m, T, hi, hi1, rfl, HI, HS⟩ := hrel
    by_cases hlt : i < L.length ∧ i < 100
    · obtain ⟨ab, ao, rfl, hcl⟩ := HL.out _ HS.out.old (by omega)
      have cl := hcl i hlt.1
      obtain ⟨x, hx⟩ : ∃ x, L.getD i 0 = x := ⟨_, rfl⟩
      have HCL : Hid (∀ y, Below w.heap.size w y → y.cell? ⟨ab, ao + i, none⟩ = some (.int .i64 x)) := fun y hy => by
        obtain ⟨ab', ao', h1, h2⟩ := HL.out y hy (by omega)
        cases h1
        rw [h2 i hlt.1, hx]
      clear hcl hx
      have hi0 : (0 : Int) ≤ (i : Int) := by omega
      have hil : (i : Int) < (L.length : Int) := by omega
      have hi100 : (i : Int) < 100 := by omega
      obtain ⟨K, HK⟩ : ∃ K, Hid (pk x 3 = K) := ⟨_, rfl⟩
      have HK3 : K < 3 := by have := pk_lt x 3 (by omega); rw [HK.out] at this; omega
      have hK : K = 0 ∨ K = 1 ∨ K = 2 := by omega
      clear HK3
      have hnn := HI.out.nn
      have hwr : Hid (m.wr ≤ 1000000000) := by have := HI.out.wr; show m.wr ≤ _; omega
      go_upto_region 13 with (first
        | (go_at_call 20; refine (dirty_any _ HS.out.dk hwr.out).mono ?_; rintro e1 w1 ⟨v1, rfl, ho1, hb1⟩; obtain ⟨a1, c1, rfl, hz1⟩ := dirty_iat HS.out.dk ho1.out rfl; have H2 := Lib.hid (HS.out.next hb1); have HZ := Lib.hid hz1; have cl1 := HCL.out _ H2.out.old; clear ho1 hb1 hz1)
        | (go_at_call 11; refine (pick_at x 3 (by omega) (by omega) _).mono ?_; rw [HK.out]; rintro ep w1 ⟨rfl, rfl⟩))
      have HSP : Hid (Dk.spendE m = if N ≤ i then 12 else 0) := by
        show Dk.spendE m = _
        unfold Dk.spendE
        rw [HI.out.gone]
        by_cases h : N ≤ i
        · rw [decide_eq_true h]; simp [h]
        · rw [decide_eq_false h]; simp [h]
      by_cases hin : N ≤ i
      · have hin1 : (N : Int) ≤ (i : Int) := by omega
        have hsp : Dk.spendE m = 12 := by rw [HSP.out, if_pos hin]
        have DLE : Hid (∀ m', Dk.Aft m m' → Dk.dl m' = Dk.dl m ∧ m'.down = true) := fun m' ha => ⟨Dk.dl_eq ha.n (ha.no (by rw [HI.out.gone, decide_eq_true hin])).1, (ha.no (by rw [HI.out.gone, decide_eq_true hin])).2⟩
        rcases hK with rfl | rfl | rfl
        · go_wp2_with (first
            | (go_at_call 15; refine (write_any 9 [] _ 0 0 rfl (by omega) (by have := HWR.out; have := HI.out.wr; omega) _ H4.out.dk (bs_none _)).mono ?_; rw [Dk.wrE_dn (by rw [HDN.out, decide_eq_true hin]) (by rw [HNN.out, hnn]), Dk.wrM_no (by rw [HNN.out, hnn])]; rintro e5 w5 ⟨rfl, hd5, hm5⟩; have H5 := Lib.hid (H4.out.write hd5.out hm5.out); clear hd5 hm5)
            | (go_at_call 15; refine (write_any _ [(i : Int)] _ 1 1 rfl (by omega) hwr.out _ (H2.out.next (DN.out _ (lit1 (i : Int)))).dk (bs1 w1 (i : Int) (by omega))).mono ?_; rw [Dk.wrE_eq (Dk.fault9 hnn i (i : Int)), hsp]; rintro e2 w2 ⟨rfl, hd2, hm2⟩; have HA := Lib.hid (Dk.aft_write m ((i : Int) % 9) [(i : Int)] (Dk.fault9 hnn i (i : Int))); have H3 := Lib.hid ((H2.out.next (DN.out _ (lit1 (i : Int)))).write hd2.out hm2.out); have MV2 : Hid (Mv [d, lb, rb, cb] w1 w2) := (Mv.of_below (DN.out w1 (lit1 (i : Int)))).trans hm2.out; have HDN := Lib.hid (HI.out.down HA.out); have HWR := Lib.hid (HA.out.wr); have HNN := Lib.hid (HA.out.n); clear hd2 hm2)
            | (go_at_call 21; refine (down_any _ H3.out.dk).mono ?_; rw [HDN.out, decide_eq_true hin]; rintro ed w2 ⟨rfl, rfl⟩)
            | (go_at_call 20; refine (dirty_any _ H3.out.dk (by have := HWR.out; have := HI.out.wr; omega)).mono ?_; rintro e3 w3 ⟨v3, rfl, ho3, hb3⟩; have ho3' := ho3.out; rw [(DLE.out _ HA.out).1] at ho3'; obtain ⟨a3, c3, rfl, hz3⟩ := dirty_iat H3.out.dk ho3' rfl; have HZ3 := Lib.hid hz3; have HB3 : Hid (Below w2.heap.size w2 w3) := Lib.hid hb3; clear ho3 ho3' hz3 hb3)
            | (go_at_call 24; refine (same_ints (Zs (Dk.dl m)) a1 a3 _ _ c1 c3 (zs_len _) (zs_len _) _ (fun y hy => HZ.out y ((MV2.out.trans (Mv.of_below HB3.out)).trans (Mv.of_below hy))) (fun y hy => HZ3.out y (Mv.of_below hy)) (by rw [zs_len]; have := Dk.dl_len m; omega)).mono ?_; rintro e4 w4 ⟨rfl, hb4⟩; have H4 := Lib.hid ((H3.out.next HB3.out).next hb4); clear hb4))
          exact ⟨⟨i + 1, _, _, by omega, by omega, by go_num, Lib.hid (HI.out.next HA.out), H5⟩, by simp [intOf]; omega⟩
        · go_wp2_with (first
            | (go_at_call 15; refine (write_any 9 [] _ 0 0 rfl (by omega) (by have := HWR.out; have := HI.out.wr; omega) _ H4.out.dk (bs_none _)).mono ?_; rw [Dk.wrE_dn (by rw [HDN.out, decide_eq_true hin]) (by rw [HNN.out, hnn]), Dk.wrM_no (by rw [HNN.out, hnn])]; rintro e5 w5 ⟨rfl, hd5, hm5⟩; have H5 := Lib.hid (H4.out.write hd5.out hm5.out); clear hd5 hm5)
            | (go_at_call 16; refine (sync_any _ H2.out.dk).mono ?_; rw [hsp]; rintro e2 w2 ⟨rfl, hd2, hm2⟩; have HA := Lib.hid (Dk.aft_sync m); have H3 := Lib.hid (H2.out.disk hd2.out hm2.out); have MV2 : Hid (Mv [d, lb, rb, cb] w1 w2) := hm2.out; have HDN := Lib.hid (HI.out.down HA.out); have HWR := Lib.hid (HA.out.wr); have HNN := Lib.hid (HA.out.n); clear hd2 hm2)
            | (go_at_call 21; refine (down_any _ H3.out.dk).mono ?_; rw [HDN.out, decide_eq_true hin]; rintro ed w2 ⟨rfl, rfl⟩)
            | (go_at_call 20; refine (dirty_any _ H3.out.dk (by have := HWR.out; have := HI.out.wr; omega)).mono ?_; rintro e3 w3 ⟨v3, rfl, ho3, hb3⟩; have ho3' := ho3.out; rw [(DLE.out _ HA.out).1] at ho3'; obtain ⟨a3, c3, rfl, hz3⟩ := dirty_iat H3.out.dk ho3' rfl; have HZ3 := Lib.hid hz3; have HB3 : Hid (Below w2.heap.size w2 w3) := Lib.hid hb3; clear ho3 ho3' hz3 hb3)
            | (go_at_call 24; refine (same_ints (Zs (Dk.dl m)) a1 a3 _ _ c1 c3 (zs_len _) (zs_len _) _ (fun y hy => HZ.out y ((MV2.out.trans (Mv.of_below HB3.out)).trans (Mv.of_below hy))) (fun y hy => HZ3.out y (Mv.of_below hy)) (by rw [zs_len]; have := Dk.dl_len m; omega)).mono ?_; rintro e4 w4 ⟨rfl, hb4⟩; have H4 := Lib.hid ((H3.out.next HB3.out).next hb4); clear hb4))
          exact ⟨⟨i + 1, _, _, by omega, by omega, by go_num, Lib.hid (HI.out.next HA.out), H5⟩, by simp [intOf]; omega⟩
        · go_wp2_with (first
            | (go_at_call 15; refine (write_any 9 [] _ 0 0 rfl (by omega) (by have := HWR.out; have := HI.out.wr; omega) _ H4.out.dk (bs_none _)).mono ?_; rw [Dk.wrE_dn (by rw [HDN.out, decide_eq_true hin]) (by rw [HNN.out, hnn]), Dk.wrM_no (by rw [HNN.out, hnn])]; rintro e5 w5 ⟨rfl, hd5, hm5⟩; have H5 := Lib.hid (H4.out.write hd5.out hm5.out); clear hd5 hm5)
            | (go_at_call 23; refine (spend_any _ H2.out.dk).mono ?_; rw [hsp]; rintro e2 w2 ⟨rfl, hd2, hm2⟩; have HA := Lib.hid (Dk.aft_spend m); have H3 := Lib.hid (H2.out.row hd2.out hm2); have MV2 : Hid (Mv [d, lb, rb, cb] w1 w2) := hm2.more (fun k hk => by simp at hk ⊢; exact Or.inl hk); have HDN := Lib.hid (HI.out.down HA.out); have HWR := Lib.hid (HA.out.wr); have HNN := Lib.hid (HA.out.n); clear hd2 hm2)
            | (go_at_call 21; refine (down_any _ H3.out.dk).mono ?_; rw [HDN.out, decide_eq_true hin]; rintro ed w2 ⟨rfl, rfl⟩)
            | (go_at_call 20; refine (dirty_any _ H3.out.dk (by have := HWR.out; have := HI.out.wr; omega)).mono ?_; rintro e3 w3 ⟨v3, rfl, ho3, hb3⟩; have ho3' := ho3.out; rw [(DLE.out _ HA.out).1] at ho3'; obtain ⟨a3, c3, rfl, hz3⟩ := dirty_iat H3.out.dk ho3' rfl; have HZ3 := Lib.hid hz3; have HB3 : Hid (Below w2.heap.size w2 w3) := Lib.hid hb3; clear ho3 ho3' hz3 hb3)
            | (go_at_call 24; refine (same_ints (Zs (Dk.dl m)) a1 a3 _ _ c1 c3 (zs_len _) (zs_len _) _ (fun y hy => HZ.out y ((MV2.out.trans (Mv.of_below HB3.out)).trans (Mv.of_below hy))) (fun y hy => HZ3.out y (Mv.of_below hy)) (by rw [zs_len]; have := Dk.dl_len m; omega)).mono ?_; rintro e4 w4 ⟨rfl, hb4⟩; have H4 := Lib.hid ((H3.out.next HB3.out).next hb4); clear hb4))
          exact ⟨⟨i + 1, _, _, by omega, by omega, by go_num, Lib.hid (HI.out.next HA.out), H5⟩, by simp [intOf]; omega⟩
      · have hin1 : (i : Int) < (N : Int) := by omega
        have hsp : Dk.spendE m = 0 := by rw [HSP.out, if_neg hin]
        rcases hK with rfl | rfl | rfl
        · go_wp2_with (first
            | (go_at_call 15; refine (write_any 9 [] _ 0 0 rfl (by omega) (by have := HWR.out; have := HI.out.wr; omega) _ H3.out.dk (bs_none _)).mono ?_; rw [Dk.wrE_up (by rw [HDN.out, decide_eq_false hin]) (by rw [HNN.out, hnn]), Dk.wrM_no (by rw [HNN.out, hnn])]; rintro e5 w5 ⟨rfl, hd5, hm5⟩; have H5 := Lib.hid (H3.out.write hd5.out hm5.out); clear hd5 hm5)
            | (go_at_call 15; refine (write_any _ [(i : Int)] _ 1 1 rfl (by omega) hwr.out _ (H2.out.next (DN.out _ (lit1 (i : Int)))).dk (bs1 w1 (i : Int) (by omega))).mono ?_; rw [Dk.wrE_eq (Dk.fault9 hnn i (i : Int)), hsp]; rintro e2 w2 ⟨rfl, hd2, hm2⟩; have HA := Lib.hid (Dk.aft_write m ((i : Int) % 9) [(i : Int)] (Dk.fault9 hnn i (i : Int))); have H3 := Lib.hid ((H2.out.next (DN.out _ (lit1 (i : Int)))).write hd2.out hm2.out); have MV2 : Hid (Mv [d, lb, rb, cb] w1 w2) := (Mv.of_below (DN.out w1 (lit1 (i : Int)))).trans hm2.out; have HDN := Lib.hid (HI.out.down HA.out); have HWR := Lib.hid (HA.out.wr); have HNN := Lib.hid (HA.out.n); clear hd2 hm2)
            | (go_at_call 21; refine (down_any _ H3.out.dk).mono ?_; rw [HDN.out, decide_eq_false hin]; rintro ed w2 ⟨rfl, rfl⟩))
          exact ⟨⟨i + 1, _, _, by omega, by omega, by go_num, Lib.hid (HI.out.next HA.out), H5⟩, by simp [intOf]; omega⟩
        · go_wp2_with (first
            | (go_at_call 15; refine (write_any 9 [] _ 0 0 rfl (by omega) (by have := HWR.out; have := HI.out.wr; omega) _ H3.out.dk (bs_none _)).mono ?_; rw [Dk.wrE_up (by rw [HDN.out, decide_eq_false hin]) (by rw [HNN.out, hnn]), Dk.wrM_no (by rw [HNN.out, hnn])]; rintro e5 w5 ⟨rfl, hd5, hm5⟩; have H5 := Lib.hid (H3.out.write hd5.out hm5.out); clear hd5 hm5)
            | (go_at_call 16; refine (sync_any _ H2.out.dk).mono ?_; rw [hsp]; rintro e2 w2 ⟨rfl, hd2, hm2⟩; have HA := Lib.hid (Dk.aft_sync m); have H3 := Lib.hid (H2.out.disk hd2.out hm2.out); have MV2 : Hid (Mv [d, lb, rb, cb] w1 w2) := hm2.out; have HDN := Lib.hid (HI.out.down HA.out); have HWR := Lib.hid (HA.out.wr); have HNN := Lib.hid (HA.out.n); clear hd2 hm2)
            | (go_at_call 21; refine (down_any _ H3.out.dk).mono ?_; rw [HDN.out, decide_eq_false hin]; rintro ed w2 ⟨rfl, rfl⟩))
          exact ⟨⟨i + 1, _, _, by omega, by omega, by go_num, Lib.hid (HI.out.next HA.out), H5⟩, by simp [intOf]; omega⟩
        · go_wp2_with (first
            | (go_at_call 15; refine (write_any 9 [] _ 0 0 rfl (by omega) (by have := HWR.out; have := HI.out.wr; omega) _ H3.out.dk (bs_none _)).mono ?_; rw [Dk.wrE_up (by rw [HDN.out, decide_eq_false hin]) (by rw [HNN.out, hnn]), Dk.wrM_no (by rw [HNN.out, hnn])]; rintro e5 w5 ⟨rfl, hd5, hm5⟩; have H5 := Lib.hid (H3.out.write hd5.out hm5.out); clear hd5 hm5)
            | (go_at_call 23; refine (spend_any _ H2.out.dk).mono ?_; rw [hsp]; rintro e2 w2 ⟨rfl, hd2, hm2⟩; have HA := Lib.hid (Dk.aft_spend m); have H3 := Lib.hid (H2.out.row hd2.out hm2); have MV2 : Hid (Mv [d, lb, rb, cb] w1 w2) := hm2.more (fun k hk => by simp at hk ⊢; exact Or.inl hk); have HDN := Lib.hid (HI.out.down HA.out); have HWR := Lib.hid (HA.out.wr); have HNN := Lib.hid (HA.out.n); clear hd2 hm2)
            | (go_at_call 21; refine (down_any _ H3.out.dk).mono ?_; rw [HDN.out, decide_eq_false hin]; rintro ed w2 ⟨rfl, rfl⟩))
          exact ⟨⟨i + 1, _, _, by omega, by omega, by go_num, Lib.hid (HI.out.next HA.out), H5⟩, by simp [intOf]; omega⟩
    · have hstop : ((i : Int) < (L.length : Int) → (100 : Int) ≤ (i : Int)) := by omega
      have HFW : Hid (∀ q, Dk.fault m 3 [q] = 0) := fun q => by
        unfold Dk.fault Dk.here
        rw [HI.out.nn]
        rfl
      have HRX : Hid (Dk.rdE (Dk.tpM m 3 [77]) 3 = 0 ∧ Dk.rdX (Dk.tpM m 3 [77]) 3 = [77]) := by
        have e : Dk.tpM m 3 [77] = { m with ls := upd m.ls 3 [77], ca := upd m.ca 3 none } := by unfold Dk.tpM; rw [HFW.out]; rfl
        have h : Dk.here (Dk.tpM m 3 [77]) 3 = true := by rw [e]; unfold Dk.here; show (decide _ && decide ((3 : Int) < (m.n : Int))) = true; rw [HI.out.nn]; rfl
        refine ⟨by unfold Dk.rdE; rw [if_pos h], ?_⟩
        unfold Dk.rdX
        rw [if_pos h, e]
        rfl
      have HRD : Hid (∀ j, (Dk.tpM m 3 [77]).rd j ≤ 1000000000) := fun j => by
        have e : (Dk.tpM m 3 [77]).rd = m.rd := by unfold Dk.tpM; split <;> rfl
        rw [e, HI.out.rd]
        omega
      by_cases hcase : (i : Int) < (L.length : Int)
      · have h100 := hstop hcase
        clear hstop hlt
        go_wp2_with (first
          | (go_at_call 25; refine (tamper_any 3 [77] _ 1 1 rfl (by omega) _ (HS.out.next (DN.out _ (lit1 77))).dk (bs1 wr 77 (by omega))).mono ?_; rw [HFW.out]; rintro e6 w6 ⟨rfl, hd6, hm6⟩; have H6 := Lib.hid ((HS.out.next (DN.out _ (lit1 77))).write hd6.out hm6.out); clear hd6 hm6)
          | (go_at_call 18; refine (read_any 3 _ H6.out.dk HRD.out).mono ?_; rintro e7 w7 ⟨v7, rfl, hv7, hd7, hm7⟩; obtain ⟨p7, c7, rfl, hb7⟩ := rd_bs hv7; rw [HRX.out.2] at hb7 ⊢; rw [HRX.out.1]; have H7 := Lib.hid (H6.out.disk hd7.out hm7.out); have P7 := Lib.hid hb7; clear hv7 hd7 hm7 hb7)
          | (go_at_call 19; refine (same_any [77] p7 _ 1 1 c7 1 rfl rfl _ (P7.out.old (DN.out _ (lit1 77))).bat (bs1 w7 77 (by omega)).bat (by decide)).mono ?_; rintro e8 w8 ⟨rfl, hb8⟩; have H8 := Lib.hid (H7.out.next ((DN.out _ (lit1 77)).trans (hb8.mono (DN.out _ (lit1 77)).size))); clear hb8)
          | (go_at_call 12; refine (known_any _).mono ?_; rintro e9 w9 ⟨rfl, hb9⟩; have H9 := Lib.hid (H8.out.next hb9).old; clear hb9))
        go_ret
        exact ⟨rfl, H9.out⟩
      · clear hstop hlt
        go_wp2_with (first
          | (go_at_call 25; refine (tamper_any 3 [77] _ 1 1 rfl (by omega) _ (HS.out.next (DN.out _ (lit1 77))).dk (bs1 wr 77 (by omega))).mono ?_; rw [HFW.out]; rintro e6 w6 ⟨rfl, hd6, hm6⟩; have H6 := Lib.hid ((HS.out.next (DN.out _ (lit1 77))).write hd6.out hm6.out); clear hd6 hm6)
          | (go_at_call 18; refine (read_any 3 _ H6.out.dk HRD.out).mono ?_; rintro e7 w7 ⟨v7, rfl, hv7, hd7, hm7⟩; obtain ⟨p7, c7, rfl, hb7⟩ := rd_bs hv7; rw [HRX.out.2] at hb7 ⊢; rw [HRX.out.1]; have H7 := Lib.hid (H6.out.disk hd7.out hm7.out); have P7 := Lib.hid hb7; clear hv7 hd7 hm7 hb7)
          | (go_at_call 19; refine (same_any [77] p7 _ 1 1 c7 1 rfl rfl _ (P7.out.old (DN.out _ (lit1 77))).bat (bs1 w7 77 (by omega)).bat (by decide)).mono ?_; rintro e8 w8 ⟨rfl, hb8⟩; have H8 := Lib.hid (H7.out.next ((DN.out _ (lit1 77)).trans (hb8.mono (DN.out _ (lit1 77)).size))); clear hb8)
          | (go_at_call 12; refine (known_any _).mono ?_; rintro e9 w9 ⟨rfl, hb9⟩; have H9 := Lib.hid (H8.out.next hb9).old; clear hb9))
        go_ret
        exact ⟨rfl, H9.out⟩
end Go.Proofs.Ytdkkoffmffallaa

/-
  Contract: super.Write, super.Read: nam.
-/
import Derived.Test.YtpfghjnhoafcmaaSpC
import Derived.Test.YtpfghjnhoafcmaaRg4
namespace Go.Proofs.Ytpfghjnhoafcmaa
open Go.RowKit

theorem msm_nam (v : Value) (w : World) : (method 288 29 v "Sum").run Try.prog w = .ok (133, v) w := by kernel_rfl
theorem nsm_nam (a : Addr) (w : World) : (nilAhead 288 29 (.pointer (some a)) "Sum").run Try.prog w = .ok (some false) w := by kernel_rfl
def sA (L : List Int) : Array Value := (L.map (Value.int .u8)).toArray
theorem a32_is (L : List Int) : A32 L = .agg (sA L) := rfl
theorem sa_one (L : List Int) : (sA L).all (·.oneCell') = true := by unfold sA; exact all_oneCell_toArray (bytes_one L)
theorem sa_size {L : List Int} (h : L.length = 32) : (sA L).size = 32 := by unfold sA; rw [List.size_toArray, List.length_map, h]
theorem z32_len : Rg.z32.length = 32 := Rg.oks_z.1
theorem Try.zeroSumS : (Try.prog.info? 34).map (fun i => (i.zero, i.size)) = some (some (.agg (sA Rg.z32)), 32) := by kernel_rfl
theorem Try.builtSumS : Try.prog.built 34 [] = some (sA Rg.z32) := by kernel_rfl
/-- Behind super.Write. -/
def SwSay (v : List Int) (n : Int) (T : Nat → Prop) (d lb rb cb : Nat) (m' : Dk.M) (ks : List Nat) (Q : World → Prop) (w : World) (e : Ending) (w' : World) : Prop :=
  e = .returned (.tuple #[A32 v, .int .i64 n]) ∧ Hid (DkAt w' (Own T w w') d lb rb cb m') ∧ Hid (Mv (d :: lb :: rb :: cb :: ks) w w') ∧ Hid (Q w')
set_option maxHeartbeats 4000000 in
set_option maxRecDepth 100000 in
theorem swrite_no_nam (a0 : Addr) (gg : Sp.G) (e : Int) {T : Nat → Prop} {d lb rb cb : Nat} {m : Dk.M} (w : World) (hd : DkAt w T d lb rb cb m) (hc : Sp.ck gg = 15) :
    Calls Try.prog 26 #[.pointer (some ⟨d, 0, none⟩), .iface 29 (.pointer (some a0)), .int .i64 e, GV gg] w (SwSay Rg.z32 15 T d lb rb cb m [] (fun z => Below w.heap.size w z) w) := by
  obtain ⟨S0, hS0⟩ : ∃ S0, Hid (sA Rg.z32 = S0) := ⟨_, rfl⟩
  have HSS : Hid (S0.size = 32) := by show _ = _; rw [← hS0.out]; exact sa_size z32_len
  have HS1 : Hid (S0.all (·.oneCell') = true) := by show _ = _; rw [← hS0.out]; exact sa_one _
  have hzs := (zero_of_info Try.zeroSumS).1
  have HBS := Lib.hid Try.builtSumS
  rw [hS0.out] at hzs HBS
  have hzsn : ¬ S0 = #[] := fun h => by have := HSS.out; rw [h] at this; simp at this
  have hszs := row_size Try.sizeSum HSS
  have HSV : Hid (A32 Rg.z32 = .agg S0) := by show _ = _; rw [← hS0.out, a32_is]
  clear hS0
  obtain ⟨A, eA, hk⟩ := gk gg
  have HAS := Lib.hid hk.size
  have h1 := hk.one
  have HD := Lib.hid hd
  have HLT : Hid (d < w.heap.size ∧ lb < w.heap.size ∧ rb < w.heap.size ∧ cb < w.heap.size) := ⟨hd.top _ hd.lt.1, hd.top _ hd.lt.2.1, hd.top _ hd.lt.2.2.1, hd.top _ hd.lt.2.2.2⟩
  have HNT : Hid (∀ k, w.heap.size ≤ k → ¬ T k) := fun k hk h => by have := hd.top k h; omega
  obtain ⟨w0, hw0⟩ : ∃ x, x = (w.alloc (.cells A 54)).alloc (.cells S0 34) := ⟨_, rfl⟩
  have R0 : Hid (w0.heap[w.heap.size]? = some (.cells A 54 (0, 0))) := by rw [hw0]; exact heap_alloc2_old w _ _
  have Z0 : Hid (w0.heap[w.heap.size + 1]? = some (.cells S0 34 (0, 0))) := by rw [hw0]; exact heap_alloc2_new w _ _
  have B0 : Hid (Below w.heap.size w w0) := by rw [hw0]; exact ((Below.refl _ w).alloc (Nat.le_refl _) _).alloc (by simp) _
  have HBW : Hid (∀ y, Below w0.heap.size w0 y → Below w.heap.size w y) := fun y hy => B0.out.trans (hy.mono B0.out.size)
  have HZ : Hid (∀ y, Below w0.heap.size w0 y → y.heap[w.heap.size + 1]? = some (.cells S0 34 (0, 0))) := fun y hy => (hy.block _ (lt_of_block Z0.out)).trans Z0.out
  have HZL : Hid (w.heap.size + 1 < w0.heap.size) := lt_of_block Z0.out
  have HP : Hid (∀ y, Calls Try.prog 20 #[.agg A] y (SPutNo y)) := fun y => by rw [← eA]; exact sput_no gg hc y
  rw [eA]
  clear hd hk eA hc
  go_enter Try.func26, Try.ntmps26
  go_upto_region 1 with (fail)
  change Code.wp _ _ _ _ ((w.alloc (.cells A 54)).alloc (.cells S0 34))
  rw [← hw0]
  clear hw0
  go_wp2_with (first
    | ((with_reducible refine row_load _ _ _ _ _ _ _ ?_ R0.out Try.underlying54 ?_ (row_size Try.sizeGeo HAS) ?_); (exact rfl); (exact rfl))
    | (go_at_call 20; refine (HP.out _).mono ?_; rintro e1 w1 ⟨rfl, HB1⟩)
    | ((with_reducible refine row_build0 _ _ HBS.out ?_))
    | ((with_reducible refine row_store _ _ _ _ _ _ _ ?_ ?_ (HZ.out _ HB1.out) (row_size Try.sizeSum HSS) ?_ HS1.out ?_); (exact rfl); (exact rfl); (exact rfl); intro w9 G9 ch9))
  refine bodyPost_ret (results_cell_tmp rfl _ _ (w.heap.size + 1) 34 S0 (0, 0) _ rfl G9 Try.underlying34 rfl (row_size Try.sizeSum HSS)) rfl ?_
  have HB9 : Below w.heap.size w w9 := ch9.below (HBW.out _ HB1.out) (by omega)
  refine ⟨by rw [HSV.out]; rfl, (HD.out.old HB9).own, Lib.hid (Mv.of_below HB9), HB9⟩
set_option maxHeartbeats 4000000 in
set_option maxRecDepth 100000 in
theorem swrite_er_nam (a0 : Addr) (gg : Sp.G) (e : Int) {T : Nat → Prop} {d lb rb cb : Nat} {m : Dk.M} (w : World) (hd : DkAt w T d lb rb cb m) (X : Int × List Int) (ks : List Nat) (P1 : World → Prop) (hks : ∀ k ∈ ks, ¬ T k ∧ k < w.heap.size) (hc : Sp.ck gg = 0)
    (hput : ∀ y p c, Below w.heap.size w y → Bs y p c (Sp.pt gg) → Calls Try.prog 36 #[.iface 29 (.pointer (some a0)), SV 1 e 0 0 p 24 c] y (LPut X y (fun z => P1 z ∧ Mv ks y z)))
    (hst : ∀ y z k, P1 y → Only k y z → w.heap.size ≤ k → P1 z) (hx : X.1 ≠ 0) :
    Calls Try.prog 26 #[.pointer (some ⟨d, 0, none⟩), .iface 29 (.pointer (some a0)), .int .i64 e, GV gg] w (SwSay Rg.z32 X.1 T d lb rb cb m ks P1 w) := by
  obtain ⟨S0, hS0⟩ : ∃ S0, Hid (sA Rg.z32 = S0) := ⟨_, rfl⟩
  have HSS : Hid (S0.size = 32) := by show _ = _; rw [← hS0.out]; exact sa_size z32_len
  have HS1 : Hid (S0.all (·.oneCell') = true) := by show _ = _; rw [← hS0.out]; exact sa_one _
  have hzs := (zero_of_info Try.zeroSumS).1
  have HBS := Lib.hid Try.builtSumS
  rw [hS0.out] at hzs HBS
  have hzsn : ¬ S0 = #[] := fun h => by have := HSS.out; rw [h] at this; simp at this
  have hszs := row_size Try.sizeSum HSS
  have HSV : Hid (A32 Rg.z32 = .agg S0) := by show _ = _; rw [← hS0.out, a32_is]
  clear hS0
  obtain ⟨A, eA, hk⟩ := gk gg
  have HAS := Lib.hid hk.size
  have h1 := hk.one
  have HD := Lib.hid hd
  have HLT : Hid (d < w.heap.size ∧ lb < w.heap.size ∧ rb < w.heap.size ∧ cb < w.heap.size) := ⟨hd.top _ hd.lt.1, hd.top _ hd.lt.2.1, hd.top _ hd.lt.2.2.1, hd.top _ hd.lt.2.2.2⟩
  have HNT : Hid (∀ k, w.heap.size ≤ k → ¬ T k) := fun k hk h => by have := hd.top k h; omega
  obtain ⟨w0, hw0⟩ : ∃ x, x = (w.alloc (.cells A 54)).alloc (.cells S0 34) := ⟨_, rfl⟩
  have R0 : Hid (w0.heap[w.heap.size]? = some (.cells A 54 (0, 0))) := by rw [hw0]; exact heap_alloc2_old w _ _
  have Z0 : Hid (w0.heap[w.heap.size + 1]? = some (.cells S0 34 (0, 0))) := by rw [hw0]; exact heap_alloc2_new w _ _
  have B0 : Hid (Below w.heap.size w w0) := by rw [hw0]; exact ((Below.refl _ w).alloc (Nat.le_refl _) _).alloc (by simp) _
  have HBW : Hid (∀ y, Below w0.heap.size w0 y → Below w.heap.size w y) := fun y hy => B0.out.trans (hy.mono B0.out.size)
  have HZ : Hid (∀ y, Below w0.heap.size w0 y → y.heap[w.heap.size + 1]? = some (.cells S0 34 (0, 0))) := fun y hy => (hy.block _ (lt_of_block Z0.out)).trans Z0.out
  have HZL : Hid (w.heap.size + 1 < w0.heap.size) := lt_of_block Z0.out
  have HP : Hid (∀ y, Calls Try.prog 20 #[.agg A] y (SPutYes (Sp.pt gg) y)) := fun y => by rw [← eA]; exact sput_yes gg hc y
  have HPUT := Lib.hid hput
  have HST := Lib.hid hst
  have HKS := Lib.hid hks
  rw [eA]
  clear hput hst hd hk eA hc hks
  obtain ⟨x1, L⟩ := X
  dsimp only at hx HPUT ⊢
  have hb0 : (x1 == 0) = false := by simpa using hx
  have hb1 : (x1 != 0) = true := by simpa using hx
  clear hx
  go_enter Try.func26, Try.ntmps26
  go_upto_region 1 with (fail)
  change Code.wp _ _ _ _ ((w.alloc (.cells A 54)).alloc (.cells S0 34))
  rw [← hw0]
  clear hw0
  go_upto_region 4 with (first
    | ((with_reducible refine row_load _ _ _ _ _ _ _ ?_ R0.out Try.underlying54 ?_ (row_size Try.sizeGeo HAS) ?_); (exact rfl); (exact rfl))
    | (go_at_call 20; refine (HP.out _).mono ?_; rintro e1 w1 ⟨p1, c1, rfl, HO1, HS1', HB1⟩))
  go_upto_region 5 with (go_at_call 36; refine (HPUT.out _ _ _ (HBW.out _ HB1.out) HS1'.out).mono ?_; rintro e3 w3 ⟨u3, m3, d3, rfl, hm3, HO3, HS3, hP3, hM3⟩)
  have HP3 := Lib.hid hP3
  have HM3 := Lib.hid hM3
  have HN3 := Lib.hid hm3
  have HK3 : Hid (Kp w.heap.size w1 w3) := Kp.of_mv HM3.out (fun k hk => (HKS.out k hk).2)
  have HD3 : Hid (DkAt w3 T d lb rb cb m) := (HD.out.old (HBW.out _ HB1.out)).mv HM3.out (fun k hk => (HKS.out k hk).1)
  have HW3 : Hid (w.heap.size ≤ w1.heap.size ∧ w1.heap.size ≤ w3.heap.size) := ⟨(HBW.out _ HB1.out).size, HM3.out.size⟩
  have Z3 : Hid (w3.heap[w.heap.size + 1]? = some (.cells S0 34 (0, 0))) := (HK3.out.block _ (by omega) (by have := HZL.out; have := HB1.out.size; omega)).trans (HZ.out _ HB1.out)
  have HMW : Hid (Mv (d :: lb :: rb :: cb :: ks) w w3) := (Mv.of_below (HBW.out _ HB1.out)).trans (HM3.out.more ks5)
  clear hP3 hM3 hm3 HZ HO1 HS1' HP HPUT R0 Z0
  go_wp2_with (first
    | ((with_reducible refine row_build0 _ _ HBS.out ?_))
    | ((with_reducible refine row_store _ _ _ _ _ _ _ ?_ ?_ Z3.out (row_size Try.sizeSum HSS) ?_ HS1.out ?_); (exact rfl); (exact rfl); (exact rfl); intro w9 G9 ch9))
  refine bodyPost_ret (results_cell_tmp rfl _ _ (w.heap.size + 1) 34 S0 (0, 0) _ rfl G9 Try.underlying34 rfl (row_size Try.sizeSum HSS)) rfl ?_
  refine ⟨by rw [HSV.out]; rfl, ?_, mv_chg HMW.out ch9 (by omega), HST.out _ _ _ HP3.out ch9.only (by omega)⟩
  exact (HD3.out.only ch9.only (HNT.out _ (by omega))).own
set_option maxHeartbeats 4000000 in
set_option maxRecDepth 100000 in
theorem swrite_dk_nam (a0 : Addr) (gg : Sp.G) (e : Int) {T : Nat → Prop} {d lb rb cb : Nat} {m : Dk.M} (w : World) (hd : DkAt w T d lb rb cb m) (X : Int × List Int) (ks : List Nat) (P1 : World → Prop) (hks : ∀ k ∈ ks, ¬ T k ∧ k < w.heap.size) (hX : X.2.length ≤ 1000000) (hwr : m.wr ≤ 1000000000) (hc : Sp.ck gg = 0)
    (hput : ∀ y p c, Below w.heap.size w y → Bs y p c (Sp.pt gg) → Calls Try.prog 36 #[.iface 29 (.pointer (some a0)), SV 1 e 0 0 p 24 c] y (LPut X y (fun z => P1 z ∧ Mv ks y z)))
    (hst : ∀ y z k, P1 y → Only k y z → w.heap.size ≤ k → P1 z) (hmv : ∀ y z, P1 y → Mv [d, lb, rb, cb] y z → P1 z) (hx : X.1 = 0) (hw : Dk.wrE m 0 X.2 ≠ 0) :
    Calls Try.prog 26 #[.pointer (some ⟨d, 0, none⟩), .iface 29 (.pointer (some a0)), .int .i64 e, GV gg] w (SwSay Rg.z32 (Dk.wrE m 0 X.2) T d lb rb cb (Dk.wrM m 0 X.2) ks P1 w) := by
  obtain ⟨S0, hS0⟩ : ∃ S0, Hid (sA Rg.z32 = S0) := ⟨_, rfl⟩
  have HSS : Hid (S0.size = 32) := by show _ = _; rw [← hS0.out]; exact sa_size z32_len
  have HS1 : Hid (S0.all (·.oneCell') = true) := by show _ = _; rw [← hS0.out]; exact sa_one _
  have hzs := (zero_of_info Try.zeroSumS).1
  have HBS := Lib.hid Try.builtSumS
  rw [hS0.out] at hzs HBS
  have hzsn : ¬ S0 = #[] := fun h => by have := HSS.out; rw [h] at this; simp at this
  have hszs := row_size Try.sizeSum HSS
  have HSV : Hid (A32 Rg.z32 = .agg S0) := by show _ = _; rw [← hS0.out, a32_is]
  clear hS0
  obtain ⟨A, eA, hk⟩ := gk gg
  have HAS := Lib.hid hk.size
  have h1 := hk.one
  have HD := Lib.hid hd
  have HLT : Hid (d < w.heap.size ∧ lb < w.heap.size ∧ rb < w.heap.size ∧ cb < w.heap.size) := ⟨hd.top _ hd.lt.1, hd.top _ hd.lt.2.1, hd.top _ hd.lt.2.2.1, hd.top _ hd.lt.2.2.2⟩
  have HNT : Hid (∀ k, w.heap.size ≤ k → ¬ T k) := fun k hk h => by have := hd.top k h; omega
  obtain ⟨w0, hw0⟩ : ∃ x, x = (w.alloc (.cells A 54)).alloc (.cells S0 34) := ⟨_, rfl⟩
  have R0 : Hid (w0.heap[w.heap.size]? = some (.cells A 54 (0, 0))) := by rw [hw0]; exact heap_alloc2_old w _ _
  have Z0 : Hid (w0.heap[w.heap.size + 1]? = some (.cells S0 34 (0, 0))) := by rw [hw0]; exact heap_alloc2_new w _ _
  have B0 : Hid (Below w.heap.size w w0) := by rw [hw0]; exact ((Below.refl _ w).alloc (Nat.le_refl _) _).alloc (by simp) _
  have HBW : Hid (∀ y, Below w0.heap.size w0 y → Below w.heap.size w y) := fun y hy => B0.out.trans (hy.mono B0.out.size)
  have HZ : Hid (∀ y, Below w0.heap.size w0 y → y.heap[w.heap.size + 1]? = some (.cells S0 34 (0, 0))) := fun y hy => (hy.block _ (lt_of_block Z0.out)).trans Z0.out
  have HZL : Hid (w.heap.size + 1 < w0.heap.size) := lt_of_block Z0.out
  have HP : Hid (∀ y, Calls Try.prog 20 #[.agg A] y (SPutYes (Sp.pt gg) y)) := fun y => by rw [← eA]; exact sput_yes gg hc y
  have HPUT := Lib.hid hput
  have HST := Lib.hid hst
  have HKS := Lib.hid hks
  rw [eA]
  have HMV := Lib.hid hmv
  clear hmv hput hst hd hk eA hc hks
  obtain ⟨x1, L⟩ := X
  dsimp only at hX hx hw HPUT ⊢
  subst hx
  have HW : Hid (∀ z p n c, L.length = n → DkAt z T d lb rb cb m → Bs z p c L → Calls Try.prog 37 #[.pointer (some ⟨d, 0, none⟩), .int .i64 0, .slice p n c] z (WSay T d lb rb cb (.int .i64 (Dk.wrE m 0 L)) (Dk.wrM m 0 L) z)) := fun z p n c hn hz hb => write_any 0 L p n c hn (by omega) hwr z hz hb
  generalize Dk.wrE m 0 L = E at *
  generalize Dk.wrM m 0 L = M' at *
  have hb0 : (E == 0) = false := by simpa using hw
  have hb1 : (E != 0) = true := by simpa using hw
  clear hX hwr hw
  go_enter Try.func26, Try.ntmps26
  go_upto_region 1 with (fail)
  change Code.wp _ _ _ _ ((w.alloc (.cells A 54)).alloc (.cells S0 34))
  rw [← hw0]
  clear hw0
  go_upto_region 4 with (first
    | ((with_reducible refine row_load _ _ _ _ _ _ _ ?_ R0.out Try.underlying54 ?_ (row_size Try.sizeGeo HAS) ?_); (exact rfl); (exact rfl))
    | (go_at_call 20; refine (HP.out _).mono ?_; rintro e1 w1 ⟨p1, c1, rfl, HO1, HS1', HB1⟩))
  go_upto_region 5 with (go_at_call 36; refine (HPUT.out _ _ _ (HBW.out _ HB1.out) HS1'.out).mono ?_; rintro e3 w3 ⟨u3, m3, d3, rfl, hm3, HO3, HS3, hP3, hM3⟩)
  have HP3 := Lib.hid hP3
  have HM3 := Lib.hid hM3
  have HN3 := Lib.hid hm3
  have HK3 : Hid (Kp w.heap.size w1 w3) := Kp.of_mv HM3.out (fun k hk => (HKS.out k hk).2)
  have HD3 : Hid (DkAt w3 T d lb rb cb m) := (HD.out.old (HBW.out _ HB1.out)).mv HM3.out (fun k hk => (HKS.out k hk).1)
  have HW3 : Hid (w.heap.size ≤ w1.heap.size ∧ w1.heap.size ≤ w3.heap.size) := ⟨(HBW.out _ HB1.out).size, HM3.out.size⟩
  have Z3 : Hid (w3.heap[w.heap.size + 1]? = some (.cells S0 34 (0, 0))) := (HK3.out.block _ (by omega) (by have := HZL.out; have := HB1.out.size; omega)).trans (HZ.out _ HB1.out)
  have HMW : Hid (Mv (d :: lb :: rb :: cb :: ks) w w3) := (Mv.of_below (HBW.out _ HB1.out)).trans (HM3.out.more ks5)
  clear hP3 hM3 hm3 HZ HO1 HS1' HP HPUT R0 Z0
  go_upto_region 8 with (go_at_call 37; refine (HW.out _ _ _ _ HN3.out HD3.out HS3.out).mono ?_; rintro e4 w4 ⟨rfl, HD4, HM4⟩)
  have HK4 : Hid (Kp w.heap.size w3 w4) := Kp.of_mv HM4.out (fun k hk => by
    have := HLT.out
    simp only [List.mem_cons, List.not_mem_nil, or_false] at hk
    rcases hk with rfl | rfl | rfl | rfl <;> omega)
  have Z4 : Hid (w4.heap[w.heap.size + 1]? = some (.cells S0 34 (0, 0))) := (HK4.out.block _ (by omega) (lt_of_block Z3.out)).trans Z3.out
  have HMX : Hid (Mv (d :: lb :: rb :: cb :: ks) w w4) := HMW.out.trans (HM4.out.more ks4)
  have HP4 : Hid (P1 w4) := HMV.out _ _ HP3.out HM4.out
  have HW4 : Hid (w3.heap.size ≤ w4.heap.size) := HM4.out.size
  have HNO : Hid (∀ k, k < w3.heap.size → ¬ T k → ¬ Own T w3 w4 k) := fun k h1 h2 h => by
    rcases h with h | h
    · exact h2 h
    · omega
  have HUP : Hid (∀ y m', w4.heap.size ≤ y.heap.size → DkAt y (Own T w3 w4) d lb rb cb m' → DkAt y (Own T w y) d lb rb cb m') := fun y m' hy hd => hd.lift (fun g hg => by
    rcases hg with h | h
    · exact Or.inl h
    · have := HW3.out; exact Or.inr ⟨by omega, by omega⟩) (fun g hg => by
    rcases hg with h | h
    · exact hd.top g (Or.inl h)
    · exact h.2)
  go_wp2_with (first
    | ((with_reducible refine row_build0 _ _ HBS.out ?_))
    | ((with_reducible refine row_store _ _ _ _ _ _ _ ?_ ?_ Z4.out (row_size Try.sizeSum HSS) ?_ HS1.out ?_); (exact rfl); (exact rfl); (exact rfl); intro w9 G9 ch9))
  refine bodyPost_ret (results_cell_tmp rfl _ _ (w.heap.size + 1) 34 S0 (0, 0) _ rfl G9 Try.underlying34 rfl (row_size Try.sizeSum HSS)) rfl ?_
  refine ⟨by rw [HSV.out]; rfl, ?_, mv_chg HMX.out ch9 (by omega), HST.out _ _ _ HP4.out ch9.only (by omega)⟩
  exact HUP.out _ _ (Nat.le_of_eq ch9.size.symm) (HD4.out.only ch9.only (HNO.out _ (lt_of_block Z3.out) (HNT.out _ (by omega))))
set_option maxHeartbeats 4000000 in
set_option maxRecDepth 100000 in
theorem swrite_ok_nam (a0 : Addr) (gg : Sp.G) (e : Int) {T : Nat → Prop} {d lb rb cb : Nat} {m : Dk.M} (w : World) (hd : DkAt w T d lb rb cb m) (X : Int × List Int) (ks : List Nat) (P1 : World → Prop) (hks : ∀ k ∈ ks, ¬ T k ∧ k < w.heap.size) (hX : X.2.length ≤ 1000000) (hwr : m.wr ≤ 1000000000) (hc : Sp.ck gg = 0)
    (hput : ∀ y p c, Below w.heap.size w y → Bs y p c (Sp.pt gg) → Calls Try.prog 36 #[.iface 29 (.pointer (some a0)), SV 1 e 0 0 p 24 c] y (LPut X y (fun z => P1 z ∧ Mv ks y z)))
    (hst : ∀ y z k, P1 y → Only k y z → w.heap.size ≤ k → P1 z) (hmv : ∀ y z, P1 y → Mv [d, lb, rb, cb] y z → P1 z) (SM : List Int) (P2 : World → Prop) (hsl : SM.length = 32)
    (hsum : ∀ z p n c, P1 z → X.2.length = n → Bs z p c X.2 → Calls Try.prog 133 #[.pointer (some a0), .slice p n c] z (fun r z' => r = .returned (A32 SM) ∧ P2 z' ∧ Mv ks z z'))
    (hst2 : ∀ y z k, P2 y → Only k y z → w.heap.size ≤ k → P2 z) (hx : X.1 = 0) (hw : Dk.wrE m 0 X.2 = 0) :
    Calls Try.prog 26 #[.pointer (some ⟨d, 0, none⟩), .iface 29 (.pointer (some a0)), .int .i64 e, GV gg] w (SwSay SM 0 T d lb rb cb (Dk.wrM m 0 X.2) ks P2 w) := by
  obtain ⟨S0, hS0⟩ : ∃ S0, Hid (sA Rg.z32 = S0) := ⟨_, rfl⟩
  have HSS : Hid (S0.size = 32) := by show _ = _; rw [← hS0.out]; exact sa_size z32_len
  have HS1 : Hid (S0.all (·.oneCell') = true) := by show _ = _; rw [← hS0.out]; exact sa_one _
  have hzs := (zero_of_info Try.zeroSumS).1
  have HBS := Lib.hid Try.builtSumS
  rw [hS0.out] at hzs HBS
  have hzsn : ¬ S0 = #[] := fun h => by have := HSS.out; rw [h] at this; simp at this
  have hszs := row_size Try.sizeSum HSS
  have HSV : Hid (A32 Rg.z32 = .agg S0) := by show _ = _; rw [← hS0.out, a32_is]
  clear hS0
  obtain ⟨A, eA, hk⟩ := gk gg
  have HAS := Lib.hid hk.size
  have h1 := hk.one
  have HD := Lib.hid hd
  have HLT : Hid (d < w.heap.size ∧ lb < w.heap.size ∧ rb < w.heap.size ∧ cb < w.heap.size) := ⟨hd.top _ hd.lt.1, hd.top _ hd.lt.2.1, hd.top _ hd.lt.2.2.1, hd.top _ hd.lt.2.2.2⟩
  have HNT : Hid (∀ k, w.heap.size ≤ k → ¬ T k) := fun k hk h => by have := hd.top k h; omega
  obtain ⟨w0, hw0⟩ : ∃ x, x = (w.alloc (.cells A 54)).alloc (.cells S0 34) := ⟨_, rfl⟩
  have R0 : Hid (w0.heap[w.heap.size]? = some (.cells A 54 (0, 0))) := by rw [hw0]; exact heap_alloc2_old w _ _
  have Z0 : Hid (w0.heap[w.heap.size + 1]? = some (.cells S0 34 (0, 0))) := by rw [hw0]; exact heap_alloc2_new w _ _
  have B0 : Hid (Below w.heap.size w w0) := by rw [hw0]; exact ((Below.refl _ w).alloc (Nat.le_refl _) _).alloc (by simp) _
  have HBW : Hid (∀ y, Below w0.heap.size w0 y → Below w.heap.size w y) := fun y hy => B0.out.trans (hy.mono B0.out.size)
  have HZ : Hid (∀ y, Below w0.heap.size w0 y → y.heap[w.heap.size + 1]? = some (.cells S0 34 (0, 0))) := fun y hy => (hy.block _ (lt_of_block Z0.out)).trans Z0.out
  have HZL : Hid (w.heap.size + 1 < w0.heap.size) := lt_of_block Z0.out
  have HP : Hid (∀ y, Calls Try.prog 20 #[.agg A] y (SPutYes (Sp.pt gg) y)) := fun y => by rw [← eA]; exact sput_yes gg hc y
  have HPUT := Lib.hid hput
  have HST := Lib.hid hst
  have HKS := Lib.hid hks
  rw [eA]
  have HMV := Lib.hid hmv
  have HSUM := Lib.hid hsum
  have HST2 := Lib.hid hst2
  have HQS := Lib.hid (sa_size hsl)
  have HQ1 := Lib.hid (sa_one SM)
  have HQV := Lib.hid (a32_is SM)
  clear hsl hsum hst2 hmv hput hst hd hk eA hc hks
  obtain ⟨x1, L⟩ := X
  dsimp only at hX hx hw HSUM HPUT ⊢
  subst hx
  have HW : Hid (∀ z p n c, L.length = n → DkAt z T d lb rb cb m → Bs z p c L → Calls Try.prog 37 #[.pointer (some ⟨d, 0, none⟩), .int .i64 0, .slice p n c] z (WSay T d lb rb cb (.int .i64 (Dk.wrE m 0 L)) (Dk.wrM m 0 L) z)) := fun z p n c hn hz hb => write_any 0 L p n c hn (by omega) hwr z hz hb
  rw [hw] at HW
  rw [HQV.out] at HSUM
  generalize Dk.wrM m 0 L = M' at *
  generalize hQ : sA SM = Q at *
  have ms := msm_nam
  have mn := nsm_nam
  clear hX hwr hw
  go_enter Try.func26, Try.ntmps26
  go_upto_region 1 with (fail)
  change Code.wp _ _ _ _ ((w.alloc (.cells A 54)).alloc (.cells S0 34))
  rw [← hw0]
  clear hw0
  go_upto_region 4 with (first
    | ((with_reducible refine row_load _ _ _ _ _ _ _ ?_ R0.out Try.underlying54 ?_ (row_size Try.sizeGeo HAS) ?_); (exact rfl); (exact rfl))
    | (go_at_call 20; refine (HP.out _).mono ?_; rintro e1 w1 ⟨p1, c1, rfl, HO1, HS1', HB1⟩))
  go_upto_region 5 with (go_at_call 36; refine (HPUT.out _ _ _ (HBW.out _ HB1.out) HS1'.out).mono ?_; rintro e3 w3 ⟨u3, m3, d3, rfl, hm3, HO3, HS3, hP3, hM3⟩)
  have HP3 := Lib.hid hP3
  have HM3 := Lib.hid hM3
  have HN3 := Lib.hid hm3
  have HK3 : Hid (Kp w.heap.size w1 w3) := Kp.of_mv HM3.out (fun k hk => (HKS.out k hk).2)
  have HD3 : Hid (DkAt w3 T d lb rb cb m) := (HD.out.old (HBW.out _ HB1.out)).mv HM3.out (fun k hk => (HKS.out k hk).1)
  have HW3 : Hid (w.heap.size ≤ w1.heap.size ∧ w1.heap.size ≤ w3.heap.size) := ⟨(HBW.out _ HB1.out).size, HM3.out.size⟩
  have Z3 : Hid (w3.heap[w.heap.size + 1]? = some (.cells S0 34 (0, 0))) := (HK3.out.block _ (by omega) (by have := HZL.out; have := HB1.out.size; omega)).trans (HZ.out _ HB1.out)
  have HMW : Hid (Mv (d :: lb :: rb :: cb :: ks) w w3) := (Mv.of_below (HBW.out _ HB1.out)).trans (HM3.out.more ks5)
  clear hP3 hM3 hm3 HZ HO1 HS1' HP HPUT R0 Z0
  go_upto_region 8 with (go_at_call 37; refine (HW.out _ _ _ _ HN3.out HD3.out HS3.out).mono ?_; rintro e4 w4 ⟨rfl, HD4, HM4⟩)
  have HK4 : Hid (Kp w.heap.size w3 w4) := Kp.of_mv HM4.out (fun k hk => by
    have := HLT.out
    simp only [List.mem_cons, List.not_mem_nil, or_false] at hk
    rcases hk with rfl | rfl | rfl | rfl <;> omega)
  have Z4 : Hid (w4.heap[w.heap.size + 1]? = some (.cells S0 34 (0, 0))) := (HK4.out.block _ (by omega) (lt_of_block Z3.out)).trans Z3.out
  have HMX : Hid (Mv (d :: lb :: rb :: cb :: ks) w w4) := HMW.out.trans (HM4.out.more ks4)
  have HP4 : Hid (P1 w4) := HMV.out _ _ HP3.out HM4.out
  have HW4 : Hid (w3.heap.size ≤ w4.heap.size) := HM4.out.size
  have HNO : Hid (∀ k, k < w3.heap.size → ¬ T k → ¬ Own T w3 w4 k) := fun k h1 h2 h => by
    rcases h with h | h
    · exact h2 h
    · omega
  have HUP : Hid (∀ y m', w4.heap.size ≤ y.heap.size → DkAt y (Own T w3 w4) d lb rb cb m' → DkAt y (Own T w y) d lb rb cb m') := fun y m' hy hd => hd.lift (fun g hg => by
    rcases hg with h | h
    · exact Or.inl h
    · have := HW3.out; exact Or.inr ⟨by omega, by omega⟩) (fun g hg => by
    rcases hg with h | h
    · exact hd.top g (Or.inl h)
    · exact h.2)
  have HS4 : Hid (Bs w4 u3 d3 L) := by
    obtain ⟨p5, c5, hv, hb, _⟩ := own_bs (own_kp HO3.out HK4.out HW3.out.1) HS3.out.bat.1
    injection hv with q1 q2 q3
    subst q1
    subst q3
    exact hb
  clear HS3 HO3
  go_wp2_with (first
    | (go_at_call 133; refine (HSUM.out _ _ _ _ HP4.out HN3.out HS4.out).mono ?_; rintro e5 w5 ⟨rfl, hP5, hM5⟩; have HP5 := Lib.hid hP5; have HM5 := Lib.hid hM5; have Z5 : Hid (w5.heap[w.heap.size + 1]? = some (.cells S0 34 (0, 0))) := (HM5.out.block _ (lt_of_block Z4.out) (fun h => by have := (HKS.out _ h).2; omega)).trans Z4.out)
    | ((with_reducible refine row_store _ _ _ _ _ _ _ ?_ ?_ Z5.out (row_size Try.sizeSum HQS) ?_ HQ1.out ?_); (exact rfl); (exact rfl); (rw [HQS.out, HSS.out]); intro w9 G9 ch9))
  refine bodyPost_ret (results_cell_tmp rfl _ _ (w.heap.size + 1) 34 Q (0, 0) _ rfl G9 Try.underlying34 rfl (row_size Try.sizeSum HQS)) rfl ?_
  refine ⟨by rw [HQV.out]; rfl, ?_, mv_chg (HMX.out.trans (HM5.out.more ks5)) ch9 (by omega), HST2.out _ _ _ HP5.out ch9.only (by omega)⟩
  have HD5 := HD4.out.mv HM5.out (fun k hk => HNO.out k (by have := (HKS.out k hk).2; have := HW3.out; omega) (HKS.out k hk).1)
  exact HUP.out _ _ (Nat.le_trans HM5.out.size (Nat.le_of_eq ch9.size.symm)) (HD5.only ch9.only (HNO.out _ (lt_of_block Z3.out) (HNT.out _ (by omega))))
end Go.Proofs.Ytpfghjnhoafcmaa

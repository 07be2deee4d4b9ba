/-
  Contract: super.Read: names.
-/
import Derived.Test.YtpfghjnhoafcmaaSpD
namespace Go.Proofs.Ytpfghjnhoafcmaa
open Go.RowKit

section
variable {P : Program} {ops : Array Oper} {a : Act} {w : World} {Q : Exit → Act → World → Prop}
theorem op_row_store {K : Act → World → Prop} (i : Nat) (ty : TypeId) (x y : Operand) {T : TypeId} {ps : String} {af : Array Edge} (ho : ops[i]? = some { dst := none, op := .store ty x y, type := T, pos := ps, after := af, guard := none })
    (g : Nat) (t : TypeId) (old cells : Array Value) (hx : a.eval x = .pointer (some ⟨g, 0, none⟩)) (hy : a.eval y = .agg cells) (hg : w.heap[g]? = some (.cells old t (0, 0)))
    (hi : (P.info? ty).map (·.size) = some cells.size) (hs : cells.size = old.size) (h1 : cells.all (·.oneCell') = true)
    (h : ∀ w', Hid (w'.heap[g]? = some (.cells cells t (0, 0))) → Chg g w w' → K a w') : wpOp P ops Q i K a w :=
  op_store i ty x y ho g 0 t old.toList cells hx hy (by simpa using hg) hi (by simp; omega) h1 (fun w' h1' h2' => h w' (show _ = _ by have := h1'.out; rw [this]; congr 2; apply Array.ext'; simp [splice, hs]) h2')
theorem results_cell2_tmp {fn : Func} {p q u : Tmp} {ty ty2 : TypeId} (h : fn.results = #[.cell p ty, .cell q ty2, .tmp u]) (tmps : Array Value) (w : World) (g : Nat) (t : TypeId) (cs : Array Value) (fr : Nat × Nat) (d : TypeDesc) (g2 : Nat) (t2 : TypeId) (cs2 : Array Value) (fr2 : Nat × Nat) (d2 : TypeDesc)
    (hp : tmps.getD p undef = .pointer (some ⟨g, 0, none⟩)) (hg : w.heap[g]? = some (.cells cs t fr))
    (hu : P.underlying ty = some d) (hd : (match d with | .struct _ | .array _ _ => true | _ => false) = true) (hi : (P.info? ty).map (·.size) = some cs.size)
    (hp2 : tmps.getD q undef = .pointer (some ⟨g2, 0, none⟩)) (hg2 : w.heap[g2]? = some (.cells cs2 t2 fr2))
    (hu2 : P.underlying ty2 = some d2) (hd2 : (match d2 with | .struct _ | .array _ _ => true | _ => false) = true) (hi2 : (P.info? ty2).map (·.size) = some cs2.size) :
    (results fn tmps).run P w = .ok (.tuple #[.agg cs, .agg cs2, tmps.getD u undef]) w := by
  have hp' : tmps[p]?.getD undef = .pointer (some ⟨g, 0, none⟩) := by simpa using hp
  have hp2' : tmps[q]?.getD undef = .pointer (some ⟨g2, 0, none⟩) := by simpa using hp2
  simp [results, h, hp', hp2', asAddr, run_loadVar_row w g t ty cs fr d hg hu hd hi, run_loadVar_row w g2 t2 ty2 cs2 fr2 d2 hg2 hu2 hd2 hi2]
end
/-- Behind super.Read. -/
def SrSay (g : Sp.G) (v : List Int) (n : Int) (T : Nat → Prop) (d lb rb cb : Nat) (m' : Dk.M) (ks : List Nat) (Q : World → Prop) (w : World) (e : Ending) (w' : World) : Prop :=
  e = .returned (.tuple #[GV g, A32 v, .int .i64 n]) ∧ Hid (DkAt w' (Own T w w') d lb rb cb m') ∧ Hid (Mv (d :: lb :: rb :: cb :: ks) w w') ∧ Hid (Q w')
set_option maxHeartbeats 4000000 in
set_option maxRecDepth 100000 in
theorem sread_none_nam (a0 : Addr) {T : Nat → Prop} {d lb rb cb : Nat} {m : Dk.M} (w : World) (hd : DkAt w T d lb rb cb m) (hrd : ∀ j, m.rd j ≤ 1000000000) (P : World → Prop) (hp : P w) (hmv : ∀ y z, P y → Mv [d, lb, rb, cb] y z → P z) (hst : ∀ y z k, P y → Only k y z → w.heap.size ≤ k → P z) (hb : Dk.rdX m 0 = []) :
    Calls Try.prog 27 #[.pointer (some ⟨d, 0, none⟩), .iface 29 (.pointer (some a0))] w (SrSay Sp.zero Rg.z32 9 T d lb rb cb (Dk.rdM m 0) [] P w) := by
  obtain ⟨Z, hZ⟩ : ∃ Z, Hid (GA ⟨0, 0, 0⟩ = Z) := ⟨_, rfl⟩
  have HZS : Hid (Z.size = 3) := by show _ = _; rw [← hZ.out]; rfl
  have HZ1 : Hid (Z.all (·.oneCell') = true) := by show _ = _; rw [← hZ.out]; simp [GA, Value.oneCell']
  have hz := (zero_of_info Try.zeroGeo).1
  have HBT := Lib.hid Try.builtGeo
  rw [hZ.out] at hz HBT
  have hzn : ¬ Z = #[] := fun h => by have := HZS.out; rw [h] at this; simp at this
  have hsz := row_size Try.sizeGeo HZS
  have HZV : Hid (GV Sp.zero = .agg Z) := by show _ = _; rw [← hZ.out, Sp.zero_is]; rfl
  clear hZ
  obtain ⟨S0, hS0⟩ : ∃ S0, Hid (sA Rg.z32 = S0) := ⟨_, rfl⟩
  have HSS : Hid (S0.size = 32) := by show _ = _; rw [← hS0.out]; exact sa_size z32_len
  have HS1 : Hid (S0.all (·.oneCell') = true) := by show _ = _; rw [← hS0.out]; exact sa_one _
  have hzs := (zero_of_info Try.zeroSumS).1
  have HBS := Lib.hid Try.builtSumS
  rw [hS0.out] at hzs HBS
  have hzsn : ¬ S0 = #[] := fun h => by have := HSS.out; rw [h] at this; simp at this
  have hszs := row_size Try.sizeSum HSS
  have HSV : Hid (A32 Rg.z32 = .agg S0) := by show _ = _; rw [← hS0.out, a32_is]
  clear hS0
  have HD := Lib.hid hd
  have HST := Lib.hid hst
  have HMV := Lib.hid hmv
  have HPW := Lib.hid hp
  have HNT : Hid (∀ k, w.heap.size ≤ k → ¬ T k) := fun k hk h => by have := hd.top k h; omega
  have HLT : Hid (∀ k ∈ [d, lb, rb, cb], k < w.heap.size) := fun k hk => by
    simp only [List.mem_cons, List.not_mem_nil, or_false] at hk
    rcases hk with rfl | rfl | rfl | rfl
    · exact hd.top _ hd.lt.1
    · exact hd.top _ hd.lt.2.1
    · exact hd.top _ hd.lt.2.2.1
    · exact hd.top _ hd.lt.2.2.2
  obtain ⟨w0, hw0⟩ : ∃ x, x = (w.alloc (.cells Z 54)).alloc (.cells S0 34) := ⟨_, rfl⟩
  have R0 : Hid (w0.heap[w.heap.size]? = some (.cells Z 54 (0, 0))) := by rw [hw0]; exact heap_alloc2_old w _ _
  have Z0 : Hid (w0.heap[w.heap.size + 1]? = some (.cells S0 34 (0, 0))) := by rw [hw0]; exact heap_alloc2_new w _ _
  have B0 : Hid (Below w.heap.size w w0) := by rw [hw0]; exact ((Below.refl _ w).alloc (Nat.le_refl _) _).alloc (by simp) _
  have HRD : Hid (Calls Try.prog 17 #[.pointer (some ⟨d, 0, none⟩), .int .i64 0] w0 (RdSayD T d lb rb cb m 0 w0)) := read_anyD 0 w0 (hd.old B0.out) hrd
  have HKP : Hid (∀ y, Mv [d, lb, rb, cb] w0 y → y.heap[w.heap.size]? = some (.cells Z 54 (0, 0)) ∧ y.heap[w.heap.size + 1]? = some (.cells S0 34 (0, 0))) := fun y hy =>
    ⟨(hy.block _ (lt_of_block R0.out) (fun h => by have := HLT.out _ h; omega)).trans R0.out, (hy.block _ (lt_of_block Z0.out) (fun h => by have := HLT.out _ h; omega)).trans Z0.out⟩
  have HP0 : Hid (P w0) := hst w w0 w.heap.size hp (only_of_below B0.out) (Nat.le_refl _)
  have HVB : Hid (∀ (y : World) (v : Value), y.ownsRow w0.heap.size 5 1 v (Dk.rdX m 0).length (U8s (Dk.rdX m 0)) ∧ Sha.Byt (Dk.rdX m 0) → ∃ p c, v = .slice p (Dk.rdX m 0).length c ∧ Bs y p c (Dk.rdX m 0)) := fun y v hv => by
    obtain ⟨p, c, h1, h2, _⟩ := own_bs hv.1 hv.2
    exact ⟨p, c, h1, h2⟩
  unfold RdSayD at HRD
  clear hd hst hmv hp hrd
  rw [hb] at HVB HRD
  have HVB : Hid (∀ (y : World) (v : Value), y.ownsRow w0.heap.size 5 1 v ([] : List Int).length (U8s []) ∧ Sha.Byt [] → ∃ p c, v = .slice p 0 c ∧ Bs y p c []) := HVB
  go_enter Try.func27, Try.ntmps27
  go_upto_region 1 with (fail)
  change Code.wp _ _ _ _ ((w.alloc (.cells Z 54)).alloc (.cells S0 34))
  rw [← hw0]
  clear hw0
  go_upto_region 2 with (go_at_call 17; refine HRD.out.mono ?_; rintro e1 w1 ⟨v1, rfl, hv1, HD1, HM1⟩; obtain ⟨q1, c1, hq1, hB1⟩ := HVB.out _ _ hv1.out; subst hq1; have HB1 := Lib.hid hB1; clear hB1 hv1)
  have K1 := Lib.hid (HKP.out _ HM1.out)
  have HP1 : Hid (P w1) := HMV.out _ _ HP0.out HM1.out
  have HMW : Hid (Mv [d, lb, rb, cb] w w1) := (Mv.of_below B0.out).trans HM1.out
  have HL1 : Hid (w.heap.size + 1 < w1.heap.size) := lt_of_block K1.out.2
  clear HRD HVB HKP HP0 R0 Z0
  go_wp2_with (first
    | ((with_reducible refine row_build0 _ _ HBT.out ?_))
    | ((with_reducible refine row_build0 _ _ HBS.out ?_))
    | ((with_reducible refine row_store _ _ _ _ _ _ _ ?_ ?_ ((ch8.block _ (by omega)).trans K1.out.2) (row_size Try.sizeSum HSS) ?_ HS1.out ?_); (exact rfl); (exact rfl); (exact rfl); intro w9 G9 ch9)
    | ((with_reducible refine row_store _ _ _ _ _ _ _ ?_ ?_ K1.out.1 (row_size Try.sizeGeo HZS) ?_ HZ1.out ?_); (exact rfl); (exact rfl); (exact rfl); intro w8 G8 ch8))
  have e8 : w9.heap[w.heap.size]? = some (.cells Z 54 (0, 0)) := (ch9.block _ (by omega)).trans G8.out
  refine bodyPost_ret (results_cell2_tmp rfl _ _ w.heap.size 54 Z (0, 0) _ (w.heap.size + 1) 34 S0 (0, 0) _ rfl e8 Try.underlying54 rfl (row_size Try.sizeGeo HZS) rfl G9 Try.underlying34 rfl (row_size Try.sizeSum HSS)) rfl ?_
  refine ⟨by rw [HSV.out, HZV.out]; rfl, ?_, mv_chg (mv_chg (HMW.out.more ks4) ch8 (Nat.le_refl _)) ch9 (by omega), HST.out _ _ _ (HST.out _ _ _ HP1.out ch8.only (Nat.le_refl _)) ch9.only (by omega)⟩
  exact ((HD1.out.only ch8.only (HNT.out _ (Nat.le_refl _))).only ch9.only (HNT.out _ (by omega))).own
set_option maxHeartbeats 4000000 in
set_option maxRecDepth 100000 in
theorem sread_bad_nam (a0 : Addr) {T : Nat → Prop} {d lb rb cb : Nat} {m : Dk.M} (w : World) (hd : DkAt w T d lb rb cb m) (hrd : ∀ j, m.rd j ≤ 1000000000) (P : World → Prop) (hp : P w) (hmv : ∀ y z, P y → Mv [d, lb, rb, cb] y z → P z) (hst : ∀ y z k, P y → Only k y z → w.heap.size ≤ k → P z) (X : Int × Sc.S) (hGL : X.2.L.length ≤ 900000) (hb : 0 < (Dk.rdX m 0).length)
    (hget : ∀ z q n c, P z → (Dk.rdX m 0).length = n → Bs z q c (Dk.rdX m 0) → Calls Try.prog 66 #[.iface 29 (.pointer (some a0)), .int .i64 1, .int .i64 0, .slice q n c] z (LGet X z)) (hn : Sp.hd X = none) :
    Calls Try.prog 27 #[.pointer (some ⟨d, 0, none⟩), .iface 29 (.pointer (some a0))] w (SrSay Sp.zero Rg.z32 14 T d lb rb cb (Dk.rdM m 0) [] P w) := by
  obtain ⟨Z, hZ⟩ : ∃ Z, Hid (GA ⟨0, 0, 0⟩ = Z) := ⟨_, rfl⟩
  have HZS : Hid (Z.size = 3) := by show _ = _; rw [← hZ.out]; rfl
  have HZ1 : Hid (Z.all (·.oneCell') = true) := by show _ = _; rw [← hZ.out]; simp [GA, Value.oneCell']
  have hz := (zero_of_info Try.zeroGeo).1
  have HBT := Lib.hid Try.builtGeo
  rw [hZ.out] at hz HBT
  have hzn : ¬ Z = #[] := fun h => by have := HZS.out; rw [h] at this; simp at this
  have hsz := row_size Try.sizeGeo HZS
  have HZV : Hid (GV Sp.zero = .agg Z) := by show _ = _; rw [← hZ.out, Sp.zero_is]; rfl
  clear hZ
  obtain ⟨S0, hS0⟩ : ∃ S0, Hid (sA Rg.z32 = S0) := ⟨_, rfl⟩
  have HSS : Hid (S0.size = 32) := by show _ = _; rw [← hS0.out]; exact sa_size z32_len
  have HS1 : Hid (S0.all (·.oneCell') = true) := by show _ = _; rw [← hS0.out]; exact sa_one _
  have hzs := (zero_of_info Try.zeroSumS).1
  have HBS := Lib.hid Try.builtSumS
  rw [hS0.out] at hzs HBS
  have hzsn : ¬ S0 = #[] := fun h => by have := HSS.out; rw [h] at this; simp at this
  have hszs := row_size Try.sizeSum HSS
  have HSV : Hid (A32 Rg.z32 = .agg S0) := by show _ = _; rw [← hS0.out, a32_is]
  clear hS0
  have HD := Lib.hid hd
  have HST := Lib.hid hst
  have HMV := Lib.hid hmv
  have HPW := Lib.hid hp
  have HNT : Hid (∀ k, w.heap.size ≤ k → ¬ T k) := fun k hk h => by have := hd.top k h; omega
  have HLT : Hid (∀ k ∈ [d, lb, rb, cb], k < w.heap.size) := fun k hk => by
    simp only [List.mem_cons, List.not_mem_nil, or_false] at hk
    rcases hk with rfl | rfl | rfl | rfl
    · exact hd.top _ hd.lt.1
    · exact hd.top _ hd.lt.2.1
    · exact hd.top _ hd.lt.2.2.1
    · exact hd.top _ hd.lt.2.2.2
  obtain ⟨w0, hw0⟩ : ∃ x, x = (w.alloc (.cells Z 54)).alloc (.cells S0 34) := ⟨_, rfl⟩
  have R0 : Hid (w0.heap[w.heap.size]? = some (.cells Z 54 (0, 0))) := by rw [hw0]; exact heap_alloc2_old w _ _
  have Z0 : Hid (w0.heap[w.heap.size + 1]? = some (.cells S0 34 (0, 0))) := by rw [hw0]; exact heap_alloc2_new w _ _
  have B0 : Hid (Below w.heap.size w w0) := by rw [hw0]; exact ((Below.refl _ w).alloc (Nat.le_refl _) _).alloc (by simp) _
  have HRD : Hid (Calls Try.prog 17 #[.pointer (some ⟨d, 0, none⟩), .int .i64 0] w0 (RdSayD T d lb rb cb m 0 w0)) := read_anyD 0 w0 (hd.old B0.out) hrd
  have HKP : Hid (∀ y, Mv [d, lb, rb, cb] w0 y → y.heap[w.heap.size]? = some (.cells Z 54 (0, 0)) ∧ y.heap[w.heap.size + 1]? = some (.cells S0 34 (0, 0))) := fun y hy =>
    ⟨(hy.block _ (lt_of_block R0.out) (fun h => by have := HLT.out _ h; omega)).trans R0.out, (hy.block _ (lt_of_block Z0.out) (fun h => by have := HLT.out _ h; omega)).trans Z0.out⟩
  have HP0 : Hid (P w0) := hst w w0 w.heap.size hp (only_of_below B0.out) (Nat.le_refl _)
  have HVB : Hid (∀ (y : World) (v : Value), y.ownsRow w0.heap.size 5 1 v (Dk.rdX m 0).length (U8s (Dk.rdX m 0)) ∧ Sha.Byt (Dk.rdX m 0) → ∃ p c, v = .slice p (Dk.rdX m 0).length c ∧ Bs y p c (Dk.rdX m 0)) := fun y v hv => by
    obtain ⟨p, c, h1, h2, _⟩ := own_bs hv.1 hv.2
    exact ⟨p, c, h1, h2⟩
  unfold RdSayD at HRD
  clear hd hst hmv hp hrd
  have HGET := Lib.hid hget
  have hlen : ¬ ((Dk.rdX m 0).length : Int) = 0 := by omega
  have hlen2 : (((Dk.rdX m 0).length : Int) == 0) = false := by simpa using hlen
  have HHE : Hid (∀ z q c, P z → w.heap.size ≤ z.heap.size → Bs z q c (Dk.rdX m 0) → Calls Try.prog 53 #[.iface 29 (.pointer (some a0)), .slice q (Dk.rdX m 0).length c] z (SHdSay (Sp.hd X) z)) := fun z q c hz hsz hbs =>
    sheld_gen 29 _ X q _ c z hGL (fun y hy => HGET.out y q _ c (HST.out z y z.heap.size hz (only_of_below hy) hsz) rfl (hbs.old hy))
  unfold SHdSay at HHE
  rw [hn] at HHE
  clear hget HGET hGL hn hb
  generalize Dk.rdX m 0 = B at *
  have HHZ : Hid (GV ((none : Option Sp.G).getD Sp.zero) = .agg Z) := HZV.out
  rw [HHZ.out] at HHE
  go_enter Try.func27, Try.ntmps27
  go_upto_region 1 with (fail)
  change Code.wp _ _ _ _ ((w.alloc (.cells Z 54)).alloc (.cells S0 34))
  rw [← hw0]
  clear hw0
  go_upto_region 2 with (go_at_call 17; refine HRD.out.mono ?_; rintro e1 w1 ⟨v1, rfl, hv1, HD1, HM1⟩; obtain ⟨q1, c1, hq1, hB1⟩ := HVB.out _ _ hv1.out; subst hq1; have HB1 := Lib.hid hB1; clear hB1 hv1)
  have K1 := Lib.hid (HKP.out _ HM1.out)
  have HP1 : Hid (P w1) := HMV.out _ _ HP0.out HM1.out
  have HMW : Hid (Mv [d, lb, rb, cb] w w1) := (Mv.of_below B0.out).trans HM1.out
  have HL1 : Hid (w.heap.size + 1 < w1.heap.size) := lt_of_block K1.out.2
  clear HRD HVB HKP HP0 R0 Z0
  go_upto_region 5 with (first
    | (go_at_call 53; refine (HHE.out _ _ _ HP1.out (by have := HL1.out; omega) HB1.out).mono ?_; rintro e4 w4 ⟨rfl, HB4⟩)
    | ((with_reducible refine row_store _ _ _ _ _ _ _ ?_ ?_ (heap_alloc_new _ _) (row_size Try.sizeGeo HZS) ?_ HZ1.out ?_); (exact rfl); (exact rfl); (exact rfl); intro w5 G5 ch5))
  have HB5 : Hid (Below w1.heap.size w1 w5) := ch5.below (HB4.out.alloc HB4.out.size _) HB4.out.size
  have K5 : Hid (w5.heap[w.heap.size]? = some (.cells Z 54 (0, 0)) ∧ w5.heap[w.heap.size + 1]? = some (.cells S0 34 (0, 0))) := ⟨(HB5.out.block _ (lt_of_block K1.out.1)).trans K1.out.1, (HB5.out.block _ (lt_of_block K1.out.2)).trans K1.out.2⟩
  have HP5 : Hid (P w5) := HST.out _ _ _ HP1.out (only_of_below (g := w1.heap.size) HB5.out) (by have := HL1.out; omega)
  go_wp2_with (first
    | ((with_reducible refine row_build0 _ _ HBT.out ?_))
    | ((with_reducible refine row_build0 _ _ HBS.out ?_))
    | ((with_reducible refine row_store _ _ _ _ _ _ _ ?_ ?_ ((ch8.block _ (by omega)).trans K5.out.2) (row_size Try.sizeSum HSS) ?_ HS1.out ?_); (exact rfl); (exact rfl); (exact rfl); intro w9 G9 ch9)
    | ((with_reducible refine row_store _ _ _ _ _ _ _ ?_ ?_ K5.out.1 (row_size Try.sizeGeo HZS) ?_ HZ1.out ?_); (exact rfl); (exact rfl); (exact rfl); intro w8 G8 ch8))
  have e8 : w9.heap[w.heap.size]? = some (.cells Z 54 (0, 0)) := (ch9.block _ (by omega)).trans G8.out
  refine bodyPost_ret (results_cell2_tmp rfl _ _ w.heap.size 54 Z (0, 0) _ (w.heap.size + 1) 34 S0 (0, 0) _ rfl e8 Try.underlying54 rfl (row_size Try.sizeGeo HZS) rfl G9 Try.underlying34 rfl (row_size Try.sizeSum HSS)) rfl ?_
  refine ⟨by rw [HSV.out, HZV.out]; rfl, ?_, mv_chg (mv_chg ((HMW.out.trans (Mv.of_below HB5.out)).more ks4) ch8 (Nat.le_refl _)) ch9 (by omega), HST.out _ _ _ (HST.out _ _ _ HP5.out ch8.only (Nat.le_refl _)) ch9.only (by omega)⟩
  exact (((HD1.out.old HB5.out).only ch8.only (HNT.out _ (Nat.le_refl _))).only ch9.only (HNT.out _ (by omega))).own
set_option maxHeartbeats 4000000 in
set_option maxRecDepth 100000 in
theorem sread_ok_nam (a0 : Addr) {T : Nat → Prop} {d lb rb cb : Nat} {m : Dk.M} (w : World) (hd : DkAt w T d lb rb cb m) (hrd : ∀ j, m.rd j ≤ 1000000000) (P : World → Prop) (hp : P w) (hmv : ∀ y z, P y → Mv [d, lb, rb, cb] y z → P z) (hst : ∀ y z k, P y → Only k y z → w.heap.size ≤ k → P z) (X : Int × Sc.S) (hGL : X.2.L.length ≤ 900000) (hb : 0 < (Dk.rdX m 0).length)
    (hget : ∀ z q n c, P z → (Dk.rdX m 0).length = n → Bs z q c (Dk.rdX m 0) → Calls Try.prog 66 #[.iface 29 (.pointer (some a0)), .int .i64 1, .int .i64 0, .slice q n c] z (LGet X z)) (ks : List Nat) (hks : ∀ k ∈ ks, ¬ T k ∧ k < w.heap.size) (SM : List Int) (P2 : World → Prop) (hsl : SM.length = 32)
    (hsum : ∀ z p n c, P z → (Dk.rdX m 0).length = n → Bs z p c (Dk.rdX m 0) → Calls Try.prog 133 #[.pointer (some a0), .slice p n c] z (fun r z' => r = .returned (A32 SM) ∧ P2 z' ∧ Mv ks z z'))
    (hst2 : ∀ y z k, P2 y → Only k y z → w.heap.size ≤ k → P2 z) (gg : Sp.G) (hn : Sp.hd X = some gg) :
    Calls Try.prog 27 #[.pointer (some ⟨d, 0, none⟩), .iface 29 (.pointer (some a0))] w (SrSay gg SM 0 T d lb rb cb (Dk.rdM m 0) ks P2 w) := by
  obtain ⟨Z, hZ⟩ : ∃ Z, Hid (GA ⟨0, 0, 0⟩ = Z) := ⟨_, rfl⟩
  have HZS : Hid (Z.size = 3) := by show _ = _; rw [← hZ.out]; rfl
  have HZ1 : Hid (Z.all (·.oneCell') = true) := by show _ = _; rw [← hZ.out]; simp [GA, Value.oneCell']
  have hz := (zero_of_info Try.zeroGeo).1
  have HBT := Lib.hid Try.builtGeo
  rw [hZ.out] at hz HBT
  have hzn : ¬ Z = #[] := fun h => by have := HZS.out; rw [h] at this; simp at this
  have hsz := row_size Try.sizeGeo HZS
  have HZV : Hid (GV Sp.zero = .agg Z) := by show _ = _; rw [← hZ.out, Sp.zero_is]; rfl
  clear hZ
  obtain ⟨S0, hS0⟩ : ∃ S0, Hid (sA Rg.z32 = S0) := ⟨_, rfl⟩
  have HSS : Hid (S0.size = 32) := by show _ = _; rw [← hS0.out]; exact sa_size z32_len
  have HS1 : Hid (S0.all (·.oneCell') = true) := by show _ = _; rw [← hS0.out]; exact sa_one _
  have hzs := (zero_of_info Try.zeroSumS).1
  have HBS := Lib.hid Try.builtSumS
  rw [hS0.out] at hzs HBS
  have hzsn : ¬ S0 = #[] := fun h => by have := HSS.out; rw [h] at this; simp at this
  have hszs := row_size Try.sizeSum HSS
  have HSV : Hid (A32 Rg.z32 = .agg S0) := by show _ = _; rw [← hS0.out, a32_is]
  clear hS0
  have HKS := Lib.hid hks
  have HSUM := Lib.hid hsum
  have HST2 := Lib.hid hst2
  have HQS := Lib.hid (sa_size hsl)
  have HQ1 := Lib.hid (sa_one SM)
  have HQV := Lib.hid (a32_is SM)
  rw [HQV.out] at HSUM
  clear hks hsum hst2 hsl
  have HD := Lib.hid hd
  have HST := Lib.hid hst
  have HMV := Lib.hid hmv
  have HPW := Lib.hid hp
  have HNT : Hid (∀ k, w.heap.size ≤ k → ¬ T k) := fun k hk h => by have := hd.top k h; omega
  have HLT : Hid (∀ k ∈ [d, lb, rb, cb], k < w.heap.size) := fun k hk => by
    simp only [List.mem_cons, List.not_mem_nil, or_false] at hk
    rcases hk with rfl | rfl | rfl | rfl
    · exact hd.top _ hd.lt.1
    · exact hd.top _ hd.lt.2.1
    · exact hd.top _ hd.lt.2.2.1
    · exact hd.top _ hd.lt.2.2.2
  obtain ⟨w0, hw0⟩ : ∃ x, x = (w.alloc (.cells Z 54)).alloc (.cells S0 34) := ⟨_, rfl⟩
  have R0 : Hid (w0.heap[w.heap.size]? = some (.cells Z 54 (0, 0))) := by rw [hw0]; exact heap_alloc2_old w _ _
  have Z0 : Hid (w0.heap[w.heap.size + 1]? = some (.cells S0 34 (0, 0))) := by rw [hw0]; exact heap_alloc2_new w _ _
  have B0 : Hid (Below w.heap.size w w0) := by rw [hw0]; exact ((Below.refl _ w).alloc (Nat.le_refl _) _).alloc (by simp) _
  have HRD : Hid (Calls Try.prog 17 #[.pointer (some ⟨d, 0, none⟩), .int .i64 0] w0 (RdSayD T d lb rb cb m 0 w0)) := read_anyD 0 w0 (hd.old B0.out) hrd
  have HKP : Hid (∀ y, Mv [d, lb, rb, cb] w0 y → y.heap[w.heap.size]? = some (.cells Z 54 (0, 0)) ∧ y.heap[w.heap.size + 1]? = some (.cells S0 34 (0, 0))) := fun y hy =>
    ⟨(hy.block _ (lt_of_block R0.out) (fun h => by have := HLT.out _ h; omega)).trans R0.out, (hy.block _ (lt_of_block Z0.out) (fun h => by have := HLT.out _ h; omega)).trans Z0.out⟩
  have HP0 : Hid (P w0) := hst w w0 w.heap.size hp (only_of_below B0.out) (Nat.le_refl _)
  have HVB : Hid (∀ (y : World) (v : Value), y.ownsRow w0.heap.size 5 1 v (Dk.rdX m 0).length (U8s (Dk.rdX m 0)) ∧ Sha.Byt (Dk.rdX m 0) → ∃ p c, v = .slice p (Dk.rdX m 0).length c ∧ Bs y p c (Dk.rdX m 0)) := fun y v hv => by
    obtain ⟨p, c, h1, h2, _⟩ := own_bs hv.1 hv.2
    exact ⟨p, c, h1, h2⟩
  unfold RdSayD at HRD
  clear hd hst hmv hp hrd
  have HGET := Lib.hid hget
  have hlen : ¬ ((Dk.rdX m 0).length : Int) = 0 := by omega
  have hlen2 : (((Dk.rdX m 0).length : Int) == 0) = false := by simpa using hlen
  have HHE : Hid (∀ z q c, P z → w.heap.size ≤ z.heap.size → Bs z q c (Dk.rdX m 0) → Calls Try.prog 53 #[.iface 29 (.pointer (some a0)), .slice q (Dk.rdX m 0).length c] z (SHdSay (Sp.hd X) z)) := fun z q c hz hsz hbs =>
    sheld_gen 29 _ X q _ c z hGL (fun y hy => HGET.out y q _ c (HST.out z y z.heap.size hz (only_of_below hy) hsz) rfl (hbs.old hy))
  unfold SHdSay at HHE
  rw [hn] at HHE
  obtain ⟨A, eA, hk⟩ := gk gg
  have HAS := Lib.hid hk.size
  have HA1 := Lib.hid hk.one
  have HGA := Lib.hid eA
  have HHZ : Hid (GV ((some gg).getD Sp.zero) = .agg A) := eA
  rw [HHZ.out] at HHE
  clear hget HGET hGL hn hb hk eA HHZ
  generalize Dk.rdX m 0 = B at *
  generalize hQ : sA SM = Q at *
  have ms := msm_nam
  have mn := nsm_nam
  go_enter Try.func27, Try.ntmps27
  go_upto_region 1 with (fail)
  change Code.wp _ _ _ _ ((w.alloc (.cells Z 54)).alloc (.cells S0 34))
  rw [← hw0]
  clear hw0
  go_upto_region 2 with (go_at_call 17; refine HRD.out.mono ?_; rintro e1 w1 ⟨v1, rfl, hv1, HD1, HM1⟩; obtain ⟨q1, c1, hq1, hB1⟩ := HVB.out _ _ hv1.out; subst hq1; have HB1 := Lib.hid hB1; clear hB1 hv1)
  have K1 := Lib.hid (HKP.out _ HM1.out)
  have HP1 : Hid (P w1) := HMV.out _ _ HP0.out HM1.out
  have HMW : Hid (Mv [d, lb, rb, cb] w w1) := (Mv.of_below B0.out).trans HM1.out
  have HL1 : Hid (w.heap.size + 1 < w1.heap.size) := lt_of_block K1.out.2
  clear HRD HVB HKP HP0 R0 Z0
  go_upto_region 5 with (first
    | (go_at_call 53; refine (HHE.out _ _ _ HP1.out (by have := HL1.out; omega) HB1.out).mono ?_; rintro e4 w4 ⟨rfl, HB4⟩)
    | ((with_reducible refine row_store _ _ _ _ _ _ _ ?_ ?_ (heap_alloc_new _ _) (row_size Try.sizeGeo HAS) ?_ HA1.out ?_); (exact rfl); (exact rfl); (rw [HAS.out, HZS.out]); intro w5 G5 ch5))
  have HX5 : Hid (Below w1.heap.size w1 w5) := ch5.below (HB4.out.alloc HB4.out.size _) HB4.out.size
  have K5 : Hid (w5.heap[w.heap.size]? = some (.cells Z 54 (0, 0)) ∧ w5.heap[w.heap.size + 1]? = some (.cells S0 34 (0, 0))) := ⟨(HX5.out.block _ (lt_of_block K1.out.1)).trans K1.out.1, (HX5.out.block _ (lt_of_block K1.out.2)).trans K1.out.2⟩
  have HP5 : Hid (P w5) := HST.out _ _ _ HP1.out (only_of_below (g := w1.heap.size) HX5.out) (by have := HL1.out; omega)
  have HB5 : Hid (Bs w5 q1 c1 B) := HB1.out.old HX5.out
  have HD5 : Hid (DkAt w5 T d lb rb cb (Dk.rdM m 0)) := HD1.out.old HX5.out
  have MW5 : Hid (Mv [d, lb, rb, cb] w w5) := HMW.out.trans (Mv.of_below HX5.out)
  have HGR : Hid (w.heap.size + 1 < w4.heap.size) := Nat.lt_of_lt_of_le HL1.out HB4.out.size
  clear ch5 HB4 HX5 HHE K1 HD1 HM1 HP1 HMW HB1
  generalize w4.heap.size = gr at *
  go_upto_region 7 with (fail)
  refine wp_region_any (by kernel_rfl) ?_
  change wpAny _ _ _ _ _ _ _ (World.drew _)
  have Gz : Hid (w5.drew.heap[gr]? = some (.cells A 54 (0, 0))) := G5.out
  have Pz : Hid (P w5.drew) := HST.out _ _ _ HP5.out (only_of_below (g := w.heap.size) (Below.refl _ w5).drew) (Nat.le_refl _)
  have Bz : Hid (Bs w5.drew q1 c1 B) := HB5.out.drew
  have Mz : Hid (Mv [d, lb, rb, cb] w w5.drew) := MW5.out.drew
  have Kz : Hid (w5.drew.heap[w.heap.size]? = some (.cells Z 54 (0, 0)) ∧ w5.drew.heap[w.heap.size + 1]? = some (.cells S0 34 (0, 0))) := K5.out
  have Dz : Hid (DkAt w5.drew T d lb rb cb (Dk.rdM m 0)) := HD5.out.old (Below.refl _ w5).drew
  obtain ⟨z, hz'⟩ : ∃ y, y = w5.drew := ⟨_, rfl⟩
  rw [← hz'] at Gz Pz Bz Mz Kz Dz ⊢
  clear hz' K5 HD5 MW5 HB5 HP5 G5
  refine wpAny_of_held (S := fun y => y.heap[gr]? = some (.cells A 54 (0, 0))) _ _ _ _ ?_
  refine anyH_take 0 31 (.agg A) Gz.out rfl (by kernel_rfl) (by kernel_rfl) (by kernel_rfl) (fun _ _ _ h => h) (by rfl) (fun y hy => exec_arr _ _ gr 0 A _ rfl (row_rng hy) Try.underlying54 rfl (row_size Try.sizeGeo HAS)) ?_
  try simp only [Act.put, List.setIfInBounds_toArray, List.set_cons_zero, List.set_cons_succ]
  refine anyH_take 1 32 (.iface 29 (.pointer (some a0))) Gz.out rfl (by kernel_rfl) (by kernel_rfl) (by kernel_rfl) (fun _ _ _ h => h) (by rfl) (by intro y hy; go_simp) ?_
  try simp only [Act.put, List.setIfInBounds_toArray, List.set_cons_zero, List.set_cons_succ]
  refine anyH_take 2 33 (.slice q1 B.length c1) Gz.out rfl (by kernel_rfl) (by kernel_rfl) (by kernel_rfl) (fun _ _ _ h => h) (by rfl) (by intro y hy; go_simp) ?_
  try simp only [Act.put, List.setIfInBounds_toArray, List.set_cons_zero, List.set_cons_succ]
  refine anyH_one 3 (by kernel_rfl) ?_
  refine wpOp_step rfl (fun Kc hKc => ?_)
  go_simp
  refine (HSUM.out z _ _ _ Pz.out rfl Bz.out).mono ?_
  rintro e6 w6 ⟨rfl, hP6, hM6⟩
  have HP6 := Lib.hid hP6
  have HM6 := Lib.hid hM6
  clear hP6 hM6
  have G6 : Hid (w6.heap[gr]? = some (.cells A 54 (0, 0))) := (HM6.out.block _ (lt_of_block Gz.out) (fun h => by have := (HKS.out _ h).2; have := HGR.out; omega)).trans Gz.out
  have K6 : Hid (w6.heap[w.heap.size]? = some (.cells Z 54 (0, 0)) ∧ w6.heap[w.heap.size + 1]? = some (.cells S0 34 (0, 0))) := ⟨(HM6.out.block _ (lt_of_block Kz.out.1) (fun h => by have := (HKS.out _ h).2; omega)).trans Kz.out.1, (HM6.out.block _ (lt_of_block Kz.out.2) (fun h => by have := (HKS.out _ h).2; omega)).trans Kz.out.2⟩
  dsimp only
  refine hKc _ _ ⟨G6.out, ?_⟩
  clear hKc Kc
  try simp only [Act.put, List.setIfInBounds_toArray, List.set_cons_zero, List.set_cons_succ]
  refine anyH_one 4 (by kernel_rfl) ?_
  refine op_row_store 4 54 (.tmp 4) (.tmp 31) rfl w.heap.size 54 Z A rfl rfl K6.out.1 (row_size Try.sizeGeo HAS) (by rw [HAS.out, HZS.out]) HA1.out ?_
  intro w8 G8 ch8
  refine ⟨(ch8.block _ (by have := HGR.out; omega)).trans G6.out, ?_⟩
  try simp only [Act.put, List.setIfInBounds_toArray, List.set_cons_zero, List.set_cons_succ]
  have G8' : Hid (w8.heap[gr]? = some (.cells A 54 (0, 0))) := (ch8.block _ (by have := HGR.out; omega)).trans G6.out
  have K8 : Hid (w8.heap[w.heap.size + 1]? = some (.cells S0 34 (0, 0))) := (ch8.block _ (by omega)).trans K6.out.2
  refine anyH_one 5 (by kernel_rfl) ?_
  refine op_row_store 5 34 (.tmp 5) (.tmp 34) rfl (w.heap.size + 1) 34 S0 Q rfl rfl K8.out (row_size Try.sizeSum HQS) (by rw [HQS.out, HSS.out]) HQ1.out ?_
  intro w9 G9 ch9
  have G9' : Hid (w9.heap[gr]? = some (.cells A 54 (0, 0))) := (ch9.block _ (by have := HGR.out; omega)).trans G8'.out
  refine ⟨G9'.out, ?_⟩
  try simp only [Act.put, List.setIfInBounds_toArray, List.set_cons_zero, List.set_cons_succ]
  refine anyH_take 6 6 (.int .i64 0) G9'.out rfl (by kernel_rfl) (by kernel_rfl) (by kernel_rfl) (fun _ _ _ h => h) (by rfl) (by intro y hy; go_simp) ?_
  try simp only [Act.put, List.setIfInBounds_toArray, List.set_cons_zero, List.set_cons_succ]
  refine wpAnyH_done (by kernel_rfl) ?_ _
  go_wp2
  have e8 : w9.heap[w.heap.size]? = some (.cells A 54 (0, 0)) := (ch9.block _ (by omega)).trans G8.out
  refine bodyPost_ret (results_cell2_tmp rfl _ _ w.heap.size 54 A (0, 0) _ (w.heap.size + 1) 34 Q (0, 0) _ rfl e8 Try.underlying54 rfl (row_size Try.sizeGeo HAS) rfl G9 Try.underlying34 rfl (row_size Try.sizeSum HQS)) rfl ?_
  refine ⟨by rw [HQV.out, HGA.out]; rfl, ?_, mv_chg (mv_chg ((Mz.out.more ks4).trans (HM6.out.more ks5)) ch8 (Nat.le_refl _)) ch9 (by omega), HST2.out _ _ _ (HST2.out _ _ _ HP6.out ch8.only (Nat.le_refl _)) ch9.only (by omega)⟩
  exact (((Dz.out.mv HM6.out (fun k hk => (HKS.out k hk).1)).only ch8.only (HNT.out _ (Nat.le_refl _))).only ch9.only (HNT.out _ (by omega))).own
end Go.Proofs.Ytpfghjnhoafcmaa

/-
  Contract: batch.Get.
-/
import Derived.Test.YtkgefogkdmbciaaBaI
namespace Go.Proofs.Ytkgefogkdmbciaa
open Go.RowKit

section
variable {P : Program} {ops : Array Oper} {rest : List Oper} {a : Act} {w : World} {Q : Exit → Act → World → Prop} {D : Option Tmp} {T : TypeId} {ps : String} {af : Array Edge} {gd : Option (Nat × Bool)}
theorem row_build3 (t : TypeId) (x y z : Operand) (v u s : Value) (R : Array Value) (hx : a.eval x = v) (hy : a.eval y = u) (hz : a.eval z = s) (hr : P.built t [(0, v), (1, u), (2, s)] = some R) (h : wpList P ops Q rest (a.put D (.agg R)) w) :
    wpList P ops Q ({ dst := D, op := .build t #[(0, x), (1, y), (2, z)], type := T, pos := ps, after := af, guard := none } :: rest) a w :=
  wpList_plain rfl fun K hK => by
    have hrun := run_build (P := P) w t #[(0, v), (1, u), (2, s)] R hr
    unfold Oper.wp execOp
    simp only [hx, hy, hz, List.map_toArray, List.map_cons, List.map_nil, hrun, Sem.run_bind, Sem.run_pure, Result.andThen_ok]
    exact hK _ _ h
theorem exec_build4 (t : TypeId) (x y z o : Operand) (v u s r : Value) (R : Array Value) (hx : a.eval x = v) (hy : a.eval y = u) (hz : a.eval z = s) (ho : a.eval o = r) (hr : P.built t [(0, v), (1, u), (2, s), (3, r)] = some R) :
    (execOp a.eval { dst := D, op := .build t #[(0, x), (1, y), (2, z), (3, o)], type := T, pos := ps, after := af, guard := gd }).run P w = .ok (.value (.agg R)) w := by
  have hrun := run_build (P := P) w t #[(0, v), (1, u), (2, s), (3, r)] R hr
  unfold execOp
  simp only [hx, hy, hz, ho, List.map_toArray, List.map_cons, List.map_nil, hrun, Sem.run_bind, Sem.run_pure, Result.andThen_ok]
end
def GetNo (r : Int) (w : World) (e : Ending) (w' : World) : Prop := e = .returned (.tuple #[.agg (SmA 0 Bt.Z 0 (.slice none 0 0)), .int .i64 r]) ∧ Below w.heap.size w w'
def GetOk (t : Int) (P : List Int) (n : Int) (m : Nat) (L : List Bt.En) (w : World) (e : Ending) (w' : World) : Prop :=
  ∃ g, e = .returned (.tuple #[.agg (SmA t P n (.slice (some ⟨g, 0, none⟩) m m)), .int .i64 0]) ∧ Hid (EsRow w' g L) ∧ Hid (w.heap.size ≤ g) ∧ Hid (Below w.heap.size w w')
theorem get_ret {fn : Func} {q u : Tmp} (h : fn.results = #[.cell q 26, .tmp u]) (tmps : Array Value) (w : World) (g : Nat) (R : Array Value) (v : Value) (fr : Nat × Nat) (hp : tmps.getD q undef = .pointer (some ⟨g, 0, none⟩)) (hg : w.heap[g]? = some (.cells R 26 fr)) (hs : R.size = 35) (hv : tmps.getD u undef = v) :
    (results fn tmps).run Try.prog w = .ok (.tuple #[.agg R, v]) w := by
  rw [results_cell_tmp h, hp, hv]
  have hl : (loadVar 26 ⟨g, 0, none⟩).run Try.prog w = .ok (.agg R) w := run_loadVar_row w g _ _ R fr _ hg Try.underlying26 rfl (sm_info hs)
  simp [asAddr, hl]
theorem SmAt.set {y : World} {g : Nat} {t n : Int} {P : List Int} {v : Value} (h : SmAt y g t P n v) (hP : P.length = 32) (u : Value) : SmAt (y.setCell ⟨g, 34, none⟩ u) g t P n u := by
  have h1 := heap_setCell_same y g 34 _ _ u h
  have e : (SmA t P n v).setIfInBounds 34 u = SmA t P n u := by
    unfold SmA SmC
    rw [List.setIfInBounds_toArray, List.set_cons_succ, List.set_append_right _ _ (by simp [hP])]
    simp [hP]
  rw [e] at h1
  exact h1
set_option maxHeartbeats 1000000 in
set_option maxRecDepth 100000 in
theorem or_any (a b : Int) (g : Nat) (w : World) (hg : w.heap[g]? = some (.cells #[.int .i64 a, .int .i64 b] 30 (0, 0))) :
    Calls Try.prog 43 #[.slice (some ⟨g, 0, none⟩) 2 2] w fun e w' => e = .returned (.int .i64 (if a = 0 then b else a)) ∧ w' = w := by
  have c0 : w.cell? ⟨g, 0, none⟩ = some (.int .i64 a) := by rw [cell_of_row w g 0 _ _ _ hg]; rfl
  have c1 : w.cell? ⟨g, 1, none⟩ = some (.int .i64 b) := by rw [cell_of_row w g 1 _ _ _ hg]; rfl
  obtain ⟨r, hr⟩ : ∃ r, (if a = 0 then b else a) = r := ⟨_, rfl⟩
  rw [hr]
  have HR := Lib.hid hr
  clear hr hg
  go_enter Try.func43, Try.ntmps43
  go_wp2
  go_loopw [8] (fun v8 wr => ∃ k : Nat, k ≤ 2 ∧ v8 = .int .i64 k ∧ Hid (0 < k → a = 0) ∧ Hid (1 < k → b = 0) ∧ wr = w) (fun v8 _ => 2 - (intOf v8).toNat)
  case atStart => exact ⟨0, by omega, rfl, fun h => by omega, fun h => by omega, rfl⟩
  case round =>
    obtain ⟨k, hk, rfl, HA, HB, rfl⟩ := hrel
    rcases k with _ | _ | k
    · by_cases h0 : a = 0
      · have hb : (a == 0) = true := by simp [h0]
        have H0 := Lib.hid h0
        clear h0
        go_wp2
        exact ⟨⟨1, by omega, rfl, fun _ => H0.out, fun h => by omega, trivial⟩, by simp [intOf]⟩
      · have hb : (a == 0) = false := by simp [h0]
        have hres : a = r := by rw [← HR.out, if_neg h0]
        have HRR := Lib.hid hres
        clear h0 hres
        go_wp2
        go_ret
        exact ⟨congrArg (fun z => Ending.returned (.int .i64 z)) HRR.out, rfl⟩
    · have ha := HA.out (by omega)
      have hres : b = r := by rw [← HR.out, if_pos ha]
      have HRR := Lib.hid hres
      clear ha hres
      by_cases h0 : b = 0
      · have hb : (b == 0) = true := by simp [h0]
        have H0 := Lib.hid h0
        have HA1 := Lib.hid (HA.out (by omega))
        clear h0
        go_wp2
        exact ⟨⟨2, by omega, rfl, fun _ => HA1.out, fun _ => H0.out, trivial⟩, by simp [intOf]⟩
      · have hb : (b == 0) = false := by simp [h0]
        clear h0
        go_wp2
        go_ret
        exact ⟨congrArg (fun z => Ending.returned (.int .i64 z)) HRR.out, rfl⟩
    · obtain rfl : k = 0 := by omega
      have hres : r = 0 := by rw [← HR.out, if_pos (HA.out (by omega))]; exact HB.out (by omega)
      subst hres
      go_wp2
      go_ret
      exact ⟨rfl, rfl⟩
theorem zsm_one : ZSm.toArray.all (·.oneCell') = true := by rw [zsm_eq]; exact smA_one _ _ _ _ _ _
theorem SmAt.all {y : World} {g : Nat} {t n : Int} {P : List Int} {v : Value} (h : SmAt y g t P n v) : y.rangeAt g 0 (SmA t P n v).toList := fun j u hu => by
  rw [cell_of_row y g (0 + j) _ _ _ h, Nat.zero_add]
  simpa using hu
theorem Bt.gc_late {B : List Int} {m : Nat} (hm : Bt.vm B = (m : Nat)) (hl : 56 * m ≤ (Bt.g4 B).length) :
    Bt.gc B = if Pk.en (Bt.rk (Bt.g4 B) m) (Bt.rc (Bt.g4 B) (Bt.h4 B) m) = 0 then Bt.ck (Bt.vt B) (Bt.vn B) (Bt.re (Bt.g4 B) m) else Pk.en (Bt.rk (Bt.g4 B) m) (Bt.rc (Bt.g4 B) (Bt.h4 B) m) := by
  by_cases hb : 56 ≤ B.length
  · obtain ⟨h4, h5⟩ := Bt.g4_big hb
    obtain ⟨h6, h7⟩ := Bt.rk_big m hl
    have hlen := Bt.rk_len_big hl
    have hg : (Bt.g4 B).length = B.length - 56 := by rw [h4, List.length_drop]
    rw [h5, h7]
    unfold Pk.en
    by_cases h0 : 0 < (Bt.rk (Bt.g4 B) m).length
    · rw [Bt.gc_long hb (by omega) (by omega)]
      simp [h0]
    · rw [Bt.gc_ck hb (by omega) (by omega), hm, Int.toNat_natCast]
      simp [h0]
  · obtain ⟨h4, h5, h6⟩ := Bt.g4_small (B := B) (by omega)
    rw [h4] at hl ⊢
    have hm0 : m = 0 := by simp at hl; omega
    subst hm0
    rw [Bt.gc_short (by omega), h5, Bt.rk_zero, Bt.rc_zero]
    unfold Pk.en
    simp
set_option maxHeartbeats 4000000 in
set_option maxRecDepth 100000 in
theorem get_any (B : List Int) (p : Option Addr) (n c : Nat) (hn : B.length = n) (hL : n ≤ 100000) (w : World) (hp : Bs w p c B) :
    Calls Try.prog 20 #[.slice p n c] w (fun e w' => (Bt.gc B = 0 ∧ GetOk (Bt.vt B) (Bt.vp B) (Bt.vn B) (Bt.vm B).toNat (Bt.re (Bt.g4 B) (Bt.vm B).toNat) w e w') ∨ (Bt.gc B ≠ 0 ∧ GetNo (Bt.gc B) w e w')) := by
  obtain ⟨R, hR⟩ : ∃ R : Ending → World → Prop, (fun e w' => (Bt.gc B = 0 ∧ GetOk (Bt.vt B) (Bt.vp B) (Bt.vn B) (Bt.vm B).toNat (Bt.re (Bt.g4 B) (Bt.vm B).toNat) w e w') ∨ (Bt.gc B ≠ 0 ∧ GetNo (Bt.gc B) w e w')) = R := ⟨_, rfl⟩
  have HNO : Hid (∀ r e w', Bt.gc B = r → r ≠ 0 → GetNo r w e w' → R e w') := fun r e w' h1 h2 h3 => by rw [← hR]; exact .inr ⟨by rw [h1]; exact h2, by rw [h1]; exact h3⟩
  have HYES : Hid (∀ e w', Bt.gc B = 0 → GetOk (Bt.vt B) (Bt.vp B) (Bt.vn B) (Bt.vm B).toNat (Bt.re (Bt.g4 B) (Bt.vm B).toNat) w e w' → R e w') := fun e w' h1 h3 => by rw [← hR]; exact .inl ⟨h1, h3⟩
  rw [hR]
  clear hR
  have HPB := Lib.hid hp.bat.1
  have HRD : Hid (∀ y, Below w.heap.size w y → Calls Try.prog 39 #[.slice p n c] y (NewSay B y)) := fun y hy => read_any B p n c hn (by omega) y (hp.old hy)
  have HN := Lib.hid hn
  have HI1 : Hid (∀ y g D, RdAt y g D B false → Calls Try.prog 40 #[.pointer (some ⟨g, 0, none⟩)] y (RdSay (.int .i64 (Bt.vt B)) (Bt.g1 B) (Pk.nb 8 B false) g D y)) := fun y g D hy => by
    have h := rint_any B false g D n hn (by omega) y hy
    rw [← Bt.vt_def, ← Bt.g1_def] at h
    exact h
  have hl1 : (Bt.g1 B).length ≤ n := by rw [Bt.g1_def, ← hn]; exact Pk.nx_le _ _
  have hl2 : (Bt.g2 B).length ≤ n := by rw [Bt.g2_def]; exact Nat.le_trans (Pk.nx_le _ _) hl1
  have hl3 : (Bt.g3 B).length ≤ n := by rw [Bt.g3_def]; exact Nat.le_trans (Pk.nx_le _ _) hl2
  have hl4 : (Bt.g4 B).length ≤ n := by rw [Bt.g4_def]; exact Nat.le_trans (Pk.nx_le _ _) hl3
  have HI2 : Hid (∀ y g D b, RdAt y g D (Bt.g1 B) b → Calls Try.prog 41 #[.pointer (some ⟨g, 0, none⟩)] y (RdSay (A32 (Bt.vp B)) (Bt.g2 B) (Pk.nb 32 (Bt.g1 B) b) g D y)) := fun y g D b hy => by
    have h := rsum_any (Bt.g1 B) b g D _ rfl (by omega) y hy
    rw [← Bt.vp_def, ← Bt.g2_def] at h
    exact h
  have HI3 : Hid (∀ y g D b, RdAt y g D (Bt.g2 B) b → Calls Try.prog 40 #[.pointer (some ⟨g, 0, none⟩)] y (RdSay (.int .i64 (Bt.vn B)) (Bt.g3 B) (Pk.nb 8 (Bt.g2 B) b) g D y)) := fun y g D b hy => by
    have h := rint_any (Bt.g2 B) b g D _ rfl (by omega) y hy
    rw [← Bt.vn_def, ← Bt.g3_def] at h
    exact h
  have HI4 : Hid (∀ y g D b, RdAt y g D (Bt.g3 B) b → Calls Try.prog 40 #[.pointer (some ⟨g, 0, none⟩)] y (RdSay (.int .i64 (Bt.vm B)) (Bt.g4 B) (Pk.nb 8 (Bt.g3 B) b) g D y)) := fun y g D b hy => by
    have h := rint_any (Bt.g3 B) b g D _ rfl (by omega) y hy
    rw [← Bt.vm_def, ← Bt.g4_def] at h
    exact h
  obtain ⟨l4, hl4e⟩ : ∃ l4, (Bt.g4 B).length = l4 := ⟨_, rfl⟩
  have HLF : Hid (∀ y g D b, RdAt y g D (Bt.g4 B) b → Calls Try.prog 42 #[.pointer (some ⟨g, 0, none⟩)] y (InSay (l4 : Nat) y)) := fun y g D b hy => by rw [← hl4e]; exact left_any _ b g D y hy
  rw [hl4e] at hl4
  have HVP : Hid ((Bt.vp B).length = 32) := by show _ = _; rw [Bt.vp_def]; exact Pk.vs_len _
  have HVB : Hid (Sha.Byt (Bt.vp B)) := by rw [Bt.vp_def, Bt.g1_def]; exact Bt.vs_byt (Pk.nx_byt hp.bat.1)
  obtain ⟨A, hA, hA2, hA3⟩ := a32_agg (Bt.vp B) HVP.out
  have HA2 := Lib.hid hA2
  have HBS : Hid (Try.prog.built 26 [(0, .int .i64 (Bt.vt B)), (1, .agg A), (2, .int .i64 (Bt.vn B))] = some (SmA (Bt.vt B) (Bt.vp B) (Bt.vn B) (.slice none 0 0))) := by show _ = _; rw [← hA]; exact build_sm _ _ _ HVP.out
  have HXS : Hid ((SmA (Bt.vt B) (Bt.vp B) (Bt.vn B) (.slice none 0 0)).size = 35) := smA_size _ _ _ HVP.out
  have HX1 : Hid ((SmA (Bt.vt B) (Bt.vp B) (Bt.vn B) (.slice none 0 0)).all (·.oneCell') = true) := smA_one _ _ _ _ _ _
  rw [hA] at HI2
  have HB4 : Hid (Pk.nb 8 (Bt.g3 B) (Pk.nb 8 (Bt.g2 B) (Pk.nb 32 (Bt.g1 B) (Pk.nb 8 B false))) = Bt.h4 B) := by show _ = _; rw [Bt.h4_def]
  obtain ⟨G4, hG4⟩ : ∃ x, Bt.g4 B = x := ⟨_, rfl⟩
  have HG4 := Lib.hid hG4
  rw [hG4] at HI4 HLF hl4e
  have HL4 := Lib.hid hl4e
  obtain ⟨M, hM⟩ : ∃ x, Bt.vm B = x := ⟨_, rfl⟩
  have HM := Lib.hid hM
  rw [hM] at HI4
  clear hn hp hl1 hl2 hl3 hA hA2 hA3 hG4 hM hl4e
  have hZS := sm_info (A := ZSm.toArray) rfl
  have B0 : Hid (Below w.heap.size w (w.alloc (.cells ZSm.toArray 26))) := (Below.refl _ w).alloc (Nat.le_refl _) _
  have G20 : Hid ((w.alloc (.cells ZSm.toArray 26)).heap[w.heap.size]? = some (.cells ZSm.toArray 26 (0, 0))) := heap_alloc_new w _
  go_enter Try.func20, Try.ntmps20
  go_upto_region 1 with (fail)
  change Code.wp _ _ _ _ (w.alloc (.cells ZSm.toArray 26))
  obtain ⟨w0, hw0⟩ : ∃ y, y = w.alloc (.cells ZSm.toArray 26) := ⟨_, rfl⟩
  rw [← hw0] at B0 G20 ⊢
  clear hw0
  go_upto_region 2 with (go_at_call 39; refine (HRD.out _ B0.out).mono ?_; rintro e1 w1 ⟨g, D, rfl, HR1, HG1, HL1⟩)
  have G21 : Hid (w1.heap[w.heap.size]? = some (.cells ZSm.toArray 26 (0, 0))) := (HL1.out.block _ (lt_of_block G20.out)).trans G20.out
  have HGD : Hid (w.heap.size < g ∧ ∀ d, D = some d → w.heap.size < d) := ⟨Nat.lt_of_lt_of_le (lt_of_block G20.out) HG1.out.1, fun d hd => Nat.lt_of_lt_of_le (lt_of_block G20.out) (HG1.out.2 d hd)⟩
  have B1 : Hid (Below w.heap.size w w1) := B0.out.trans (HL1.out.mono B0.out.size)
  have T1 := Lib.hid True.intro
  clear HRD B0 G20 HL1 HG1
  go_upto_region 3 with (first
    | (go_at_call 40; clear T1; refine (HI1.out _ _ _ HR1.out).mono ?_; rintro e2 w2 ⟨rfl, HR2, HO2⟩)
    | (go_at_call 41; refine (HI2.out _ _ _ _ HR2.out).mono ?_; rintro e3 w3 ⟨rfl, HR3, HO3⟩)
    | (go_at_call 40; refine (HI3.out _ _ _ _ HR3.out).mono ?_; rintro e4 w4 ⟨rfl, HR4, HO4⟩)
    | ((with_reducible refine row_build3 _ _ _ _ _ _ _ _ ?_ ?_ ?_ HBS.out ?_); (exact rfl); (exact rfl); (exact rfl))
    | ((with_reducible refine row_store _ _ _ _ _ _ _ ?_ ?_ (heap_alloc_new _ _) (sm_info HXS.out) ?_ HX1.out ?_); (exact rfl); (exact rfl); (rw [HXS.out]; rfl); intro w5 G5 ch5))
  obtain ⟨X, hX⟩ : ∃ X, SmA (Bt.vt B) (Bt.vp B) (Bt.vn B) (.slice none 0 0) = X := ⟨_, rfl⟩
  have HX := Lib.hid hX
  rw [hX] at G5 HBS HXS HX1
  clear hX
  have K5 : Hid (Below w4.heap.size w4 w5) := ch5.below ((Below.refl _ w4).alloc (Nat.le_refl _) _) (Nat.le_refl _)
  have HOa : Hid (Only g w1 w4) := (HO2.out.trans HO3.out).trans HO4.out
  have B4 : Hid (Below w.heap.size w w4) := HOa.out.below B1.out (Nat.le_of_lt HGD.out.1) B1.out.size
  have G24 : Hid (w4.heap[w.heap.size]? = some (.cells ZSm.toArray 26 (0, 0))) := (HOa.out.block _ (lt_of_block G21.out) (Nat.ne_of_lt HGD.out.1)).trans G21.out
  have HR5 := Lib.hid (HR4.out.old K5.out)
  have G25 : Hid (w5.heap[w.heap.size]? = some (.cells ZSm.toArray 26 (0, 0))) := (K5.out.block _ (lt_of_block G24.out)).trans G24.out
  have B5 : Hid (Below w.heap.size w w5) := B4.out.trans (K5.out.mono B4.out.size)
  obtain ⟨g5, hg5⟩ : ∃ g5, w4.heap.size = g5 := ⟨_, rfl⟩
  have HG5 : Hid (w.heap.size < g5 ∧ g < g5 ∧ ∀ d, D = some d → d < g5) := by show _ ∧ _; rw [← hg5]; exact ⟨lt_of_block G24.out, HR4.out.glt, HR4.out.lt⟩
  rw [hg5] at G5 ⊢
  clear ch5 HR1 HR2 HR3 HR4 HO2 HO3 HO4 HOa K5 G24 G21 B1 B4 hg5 HI1 HI2 HI3 HBS HX1
  go_upto_region 4 with (go_at_call 40; refine (HI4.out _ _ _ _ HR5.out).mono ?_; rintro e6 w6 ⟨rfl, HR6, HO6⟩)
  have G26 : Hid (w6.heap[w.heap.size]? = some (.cells ZSm.toArray 26 (0, 0))) := (HO6.out.block _ (lt_of_block G25.out) (Nat.ne_of_lt HGD.out.1)).trans G25.out
  have G6 : Hid (w6.heap[g5]? = some (.cells X 26 (0, 0))) := (HO6.out.block _ (lt_of_block G5.out) (Nat.ne_of_gt HG5.out.2.1)).trans G5.out
  have B6 : Hid (Below w.heap.size w w6) := HO6.out.below B5.out (Nat.le_of_lt HGD.out.1) B5.out.size
  rw [HB4.out] at HR6
  clear HR5 HO6 G25 G5 B5 HI4 HB4
  obtain ⟨ok, hok⟩ : ∃ ok, decide (0 ≤ M ∧ M ≤ (l4 / 56 : Nat)) = ok := ⟨_, rfl⟩
  have HW : Hid (∀ z, Calls Try.prog 34 #[.int .i64 M, .int .i64 0, .int .i64 (l4 / 56 : Nat)] z fun e w' => e = .returned (.bool ok) ∧ w' = z) := fun z => by rw [← hok]; exact within_any _ _ _ z
  have HOKE := Lib.hid hok
  clear hok
  have hq1 : ((l4 : Nat) : Int).tdiv 56 = ((l4 / 56 : Nat) : Int) := by rw [Int.tdiv_eq_ediv_of_nonneg (by omega)]; rfl
  have h56 : l4 / 56 ≤ 100000 := by omega
  obtain ⟨l56, hl56⟩ : ∃ l56, l4 / 56 = l56 := ⟨_, rfl⟩
  rw [hl56] at hq1 h56 HW HOKE
  have H56 := Lib.hid hl56
  have hw56 : wrap64 (l56 : Int) = l56 := by unfold wrap64; omega
  clear hl56
  cases ok with
  | false =>
    have HGC : Hid (Bt.gc B = 4) := Bt.gc_form (by
      have h := of_decide_eq_false HOKE.out
      have h1 := HM.out
      have h2 := HL4.out
      have h3 := H56.out
      by_cases hb : 56 ≤ B.length
      · have h4 := (Bt.g4_big hb).1
        rw [HG4.out] at h4
        rw [h4, List.length_drop] at h2
        omega
      · have h4 := (Bt.g4_small (B := B) (by omega)).2.2
        omega)
    go_wp2_with (first
      | (go_at_call 42; refine (HLF.out _ _ _ _ HR6.out).mono ?_; rintro e7 w7 ⟨rfl, hb7⟩; have G27 : Hid (w7.heap[w.heap.size]? = some (.cells ZSm.toArray 26 (0, 0))) := (hb7.block _ (lt_of_block G26.out)).trans G26.out; have B7 : Hid (Below w.heap.size w w7) := B6.out.trans (hb7.mono B6.out.size))
      | (go_at_call 34; refine (HW.out _).mono ?_; rintro e8 w8 ⟨rfl, hw8⟩; subst w8)
      | ((with_reducible refine build0_g _ _ ?_ build_sm0 ?_); (exact rfl))
      | ((with_reducible refine row_store _ _ _ _ _ _ _ ?_ ?_ G27.out (sm_info (A := ZSm.toArray) rfl) ?_ zsm_one ?_); (exact rfl); (exact rfl); (exact rfl); intro w9 G9 ch9))
    refine bodyPost_ret (get_ret rfl _ _ w.heap.size ZSm.toArray _ _ rfl G9.out rfl rfl) rfl (HNO.out 4 _ _ HGC.out (by omega) ⟨by rw [zsm_eq]; rfl, ch9.below B7.out (Nat.le_refl _)⟩)
  | true =>
    have hM0 := of_decide_eq_true HOKE.out
    obtain ⟨m, rfl⟩ : ∃ m : Nat, M = (m : Nat) := ⟨M.toNat, by omega⟩
    have HM56 : Hid (m ≤ l56 ∧ 56 * m ≤ l4) := by have := H56.out; show _ ∧ _; omega
    have hm5 : m ≤ 100000 := by omega
    clear HOKE hM0
    go_upto_region 6 with (first
      | (go_at_call 42; refine (HLF.out _ _ _ _ HR6.out).mono ?_; rintro e7 w7 ⟨rfl, hb7⟩)
      | (go_at_call 34; refine (HW.out _).mono ?_; rintro e8 w8 ⟨rfl, hw8⟩; subst w8))
    have G27 : Hid (w7.heap[w.heap.size]? = some (.cells ZSm.toArray 26 (0, 0))) := (hb7.block _ (lt_of_block G26.out)).trans G26.out
    have G7 : Hid (w7.heap[g5]? = some (.cells X 26 (0, 0))) := (hb7.block _ (lt_of_block G6.out)).trans G6.out
    have B7 : Hid (Below w.heap.size w w7) := B6.out.trans (hb7.mono B6.out.size)
    have HR7 := Lib.hid (HR6.out.old hb7)
    clear HR6 G26 G6 B6 hb7 HW HLF
    go_upto_region 7 with ((with_reducible refine make_en _ _ m ?_ ?_ (by omega) ?_); (exact rfl); (exact rfl); intro w8 R8 hb8 hs8; have c34 : w8.cell? ⟨g5, 34, none⟩ = some (.slice none 0 0) := SmAt.c34 (t := Bt.vt B) (P := Bt.vp B) (n := Bt.vn B) (by unfold SmAt; rw [HX.out]; exact (hb8.out.block _ (lt_of_block G7.out)).trans G7.out) HVP.out; have f34 := frozen_of_row w8 g5 34 _ _ ((hb8.out.block _ (lt_of_block G7.out)).trans G7.out))
    have HGE : Hid (w.heap.size < w7.heap.size ∧ g < w7.heap.size ∧ g5 < w7.heap.size ∧ ∀ d, D = some d → d < w7.heap.size) := ⟨lt_of_block G27.out, HR7.out.glt, lt_of_block G7.out, HR7.out.lt⟩
    have GS8 : Hid (SmAt w8 g5 (Bt.vt B) (Bt.vp B) (Bt.vn B) (.slice none 0 0)) := by unfold SmAt; rw [HX.out]; exact (hb8.out.block _ (lt_of_block G7.out)).trans G7.out
    have G28 : Hid (w8.heap[w.heap.size]? = some (.cells ZSm.toArray 26 (0, 0))) := (hb8.out.block _ (lt_of_block G27.out)).trans G27.out
    have B8 : Hid (Below w.heap.size w w8) := B7.out.trans (hb8.out.mono B7.out.size)
    have HR8 := Lib.hid (HR7.out.old hb8.out)
    obtain ⟨ge, hge⟩ : ∃ ge, w7.heap.size = ge := ⟨_, rfl⟩
    rw [hge] at R8 HGE ⊢
    clear G27 G7 B7 HR7 hb8 hs8 c34 f34 hge HX HXS
    have GS9 : Hid (SmAt (w8.setCell ⟨g5, 34, none⟩ (.slice (some ⟨ge, 0, none⟩) m m)) g5 (Bt.vt B) (Bt.vp B) (Bt.vn B) (.slice (some ⟨ge, 0, none⟩) m m)) := GS8.out.set HVP.out _
    have O9 : Hid (Only g5 w8 (w8.setCell ⟨g5, 34, none⟩ (.slice (some ⟨ge, 0, none⟩) m m))) := (Chg.setCell w8 ⟨g5, 34, none⟩ _).only
    obtain ⟨w9, hw9⟩ : ∃ y, y = w8.setCell ⟨g5, 34, none⟩ (.slice (some ⟨ge, 0, none⟩) m m) := ⟨_, rfl⟩
    rw [← hw9] at GS9 O9 ⊢
    clear hw9
    have R9 : Hid (EsRow w9 ge (Bt.re G4 0 ++ List.replicate (m - 0) Bt.en0)) := by rw [Bt.re_zero, List.nil_append, Nat.sub_zero]; exact R8.out.only O9.out (Nat.ne_of_gt HGE.out.2.2.1)
    have G29 : Hid (w9.heap[w.heap.size]? = some (.cells ZSm.toArray 26 (0, 0))) := (O9.out.block _ (lt_of_block G28.out) (Nat.ne_of_lt HG5.out.1)).trans G28.out
    have HR9 : Hid (RdAt w9 g D (Bt.rk G4 0) (Bt.rc G4 (Bt.h4 B) 0)) := by rw [Bt.rk_zero, Bt.rc_zero]; exact HR8.out.only O9.out (Nat.ne_of_gt HG5.out.2.1) (fun h => Nat.lt_irrefl _ (HG5.out.2.2 _ h))
    have B9 : Hid (Below w.heap.size w w9) := O9.out.below B8.out (Nat.le_of_lt HG5.out.1) B8.out.size
    have c34 := GS9.out.c34 HVP.out
    clear GS8 G28 B8 HR8 R8 O9
    go_wp2
    go_loopw [33] (fun v33 wr => ∃ k : Nat, k ≤ m ∧ v33 = .int .i64 k ∧ Hid (EsRow wr ge (Bt.re G4 k ++ List.replicate (m - k) Bt.en0)) ∧ Hid (SmAt wr g5 (Bt.vt B) (Bt.vp B) (Bt.vn B) (.slice (some ⟨ge, 0, none⟩) m m)) ∧ Hid (wr.heap[w.heap.size]? = some (.cells ZSm.toArray 26 (0, 0))) ∧ Hid (RdAt wr g D (Bt.rk G4 k) (Bt.rc G4 (Bt.h4 B) k)) ∧ Hid (Below w.heap.size w wr)) (fun v33 _ => m - (intOf v33).toNat)
    case atStart => exact ⟨0, by omega, rfl, R9.out, GS9.out, G29.out, HR9.out, B9.out⟩
    case round =>
      clear R9 GS9 G29 HR9 B9 c34
      obtain ⟨k, hk, rfl, HRW, HSM, HZR, HRD, HB⟩ := hrel
      by_cases hlt : k < m
      · have hlk : (Bt.rk G4 k).length ≤ l4 := by rw [← HL4.out]; exact Bt.rk_le _ _
        have HFL : Hid ((Bt.re G4 k ++ List.replicate (m - k) Bt.en0).length = m) := by show _ = _; rw [List.length_append, Bt.re_len, List.length_replicate]; omega
        have HBY : Hid (Sha.Byt G4) := by rw [← HG4.out, Bt.g4_def, Bt.g3_def, Bt.g2_def, Bt.g1_def]; exact Pk.nx_byt (Pk.nx_byt (Pk.nx_byt (Pk.nx_byt HPB.out)))
        have HFO : Hid (∀ x ∈ Bt.re G4 k ++ List.replicate (m - k) Bt.en0, x.ok) := Bt.ok_app (Bt.re_ok HBY.out k) (Bt.ok_rep Bt.en0_ok _)
        have HXO : Hid ((Bt.rx (Bt.rk G4 k)).ok) := Bt.rx_ok (Bt.rk_byt HBY.out k)
        have HSET : Hid ((Bt.re G4 k ++ List.replicate (m - k) Bt.en0).set k (Bt.rx (Bt.rk G4 k)) = Bt.re G4 (k + 1) ++ List.replicate (m - (k + 1)) Bt.en0) := by
          show _ = _
          rw [show m - k = m - (k + 1) + 1 by omega, Bt.set_next (Bt.re_len G4 k), Bt.re_succ]
        have HRK : Hid (Bt.rr (Bt.rk G4 k) = Bt.rk G4 (k + 1)) := (Bt.rk_succ G4 k).symm
        have HRC : Hid (Bt.rb (Bt.rk G4 k) (Bt.rc G4 (Bt.h4 B) k) = Bt.rc G4 (Bt.h4 B) (k + 1)) := (Bt.rc_succ G4 _ k).symm
        rw [Bt.rr_def] at HRK
        rw [Bt.rb_def] at HRC
        generalize Bt.rc G4 (Bt.h4 B) k = b0 at *
        generalize Bt.rk G4 k = Q at *
        generalize Bt.re G4 k ++ List.replicate (m - k) Bt.en0 = F at *
        have HJ1 : Hid (∀ y, RdAt y g D Q b0 → Calls Try.prog 40 #[.pointer (some ⟨g, 0, none⟩)] y (RdSay (.int .i64 (Bt.rx Q).k) (Pk.nx 8 Q) (Pk.nb 8 Q b0) g D y)) := fun y hy => by rw [Bt.rx_def]; exact rint_any Q b0 g D _ rfl (by omega) y hy
        have hq1' := Pk.nx_le 8 Q
        have hq2' := Pk.nx_le 8 (Pk.nx 8 Q)
        have hq3' := Pk.nx_le 8 (Pk.nx 8 (Pk.nx 8 Q))
        have HJ2 : Hid (∀ y b, RdAt y g D (Pk.nx 8 Q) b → Calls Try.prog 40 #[.pointer (some ⟨g, 0, none⟩)] y (RdSay (.int .i64 (Bt.rx Q).b) (Pk.nx 8 (Pk.nx 8 Q)) (Pk.nb 8 (Pk.nx 8 Q) b) g D y)) := fun y b hy => by rw [Bt.rx_def]; exact rint_any _ b g D _ rfl (by omega) y hy
        have HJ3 : Hid (∀ y b, RdAt y g D (Pk.nx 8 (Pk.nx 8 Q)) b → Calls Try.prog 40 #[.pointer (some ⟨g, 0, none⟩)] y (RdSay (.int .i64 (Bt.rx Q).s) (Pk.nx 8 (Pk.nx 8 (Pk.nx 8 Q))) (Pk.nb 8 (Pk.nx 8 (Pk.nx 8 Q)) b) g D y)) := fun y b hy => by rw [Bt.rx_def]; exact rint_any _ b g D _ rfl (by omega) y hy
        obtain ⟨U, hU, hU2, _⟩ := a32_agg (Bt.rx Q).u HXO.out.2.2.2.1
        have HJ4 : Hid (∀ y b, RdAt y g D (Pk.nx 8 (Pk.nx 8 (Pk.nx 8 Q))) b → Calls Try.prog 41 #[.pointer (some ⟨g, 0, none⟩)] y (RdSay (.agg U) (Pk.nx 32 (Pk.nx 8 (Pk.nx 8 (Pk.nx 8 Q)))) (Pk.nb 32 (Pk.nx 8 (Pk.nx 8 (Pk.nx 8 Q))) b) g D y)) := fun y b hy => by rw [← hU, Bt.rx_def]; exact rsum_any _ b g D _ rfl (by omega) y hy
        have HBE : Hid (Try.prog.built 50 [(0, .int .i64 (Bt.rx Q).k), (1, .int .i64 (Bt.rx Q).b), (2, .int .i64 (Bt.rx Q).s), (3, .agg U)] = some (EnA (Bt.rx Q))) := by rw [← hU]; exact build_en _ HXO.out
        rw [HRK.out] at HJ4
        clear hU hU2 hlk hq1' hq2' hq3' HRK
        generalize Bt.rx Q = x at *
        have hi0 : 0 ≤ (k : Int) := by omega
        have hi1 : (k : Int) < (m : Int) := by omega
        go_upto_region 10 with (fail)
        refine wp_region_any (by kernel_rfl) ?_
        change wpAny _ _ _ _ _ _ _ (World.drew _)
        have Rz : Hid (EsRow wr.drew ge F) := HRW.out
        have Sz : Hid (SmAt wr.drew g5 (Bt.vt B) (Bt.vp B) (Bt.vn B) (.slice (some ⟨ge, 0, none⟩) m m)) := HSM.out.drew
        have Zz : Hid (wr.drew.heap[w.heap.size]? = some (.cells ZSm.toArray 26 (0, 0))) := HZR.out
        have Dz : Hid (RdAt wr.drew g D Q b0) := HRD.out.drew
        have Bz : Hid (Below w.heap.size w wr.drew) := HB.out.drew
        obtain ⟨z, hz⟩ : ∃ y, y = wr.drew := ⟨_, rfl⟩
        rw [← hz] at Rz Sz Zz Dz Bz ⊢
        clear hz
        refine wpAny_of_held (S := fun y => SmAt y g5 (Bt.vt B) (Bt.vp B) (Bt.vn B) (.slice (some ⟨ge, 0, none⟩) m m)) _ _ _ _ ?_
        refine anyH_take 0 36 (.pointer (some ⟨g5, 34, none⟩)) Sz.out rfl (by kernel_rfl) (by kernel_rfl) (by kernel_rfl) (fun _ _ _ h => h) (by rfl) (by intro y hy; go_simp) ?_
        try simp only [Act.put, List.setIfInBounds_toArray, List.set_cons_zero, List.set_cons_succ]
        refine anyH_take 1 37 (.slice (some ⟨ge, 0, none⟩) m m) Sz.out rfl (by kernel_rfl) (by kernel_rfl) (by kernel_rfl) (fun _ _ _ h => h) (by rfl) (by intro y hy; have c := hy.c34 HVP.out; go_simp) ?_
        try simp only [Act.put, List.setIfInBounds_toArray, List.set_cons_zero, List.set_cons_succ]
        refine anyH_take 2 38 (.int .i64 (k : Nat)) Sz.out rfl (by kernel_rfl) (by kernel_rfl) (by kernel_rfl) (fun _ _ _ h => h) (by rfl) (by intro y hy; go_simp) ?_
        try simp only [Act.put, List.setIfInBounds_toArray, List.set_cons_zero, List.set_cons_succ]
        refine anyH_take 3 39 (.pointer (some ⟨g, 0, none⟩)) Sz.out rfl (by kernel_rfl) (by kernel_rfl) (by kernel_rfl) (fun _ _ _ h => h) (by rfl) (by intro y hy; go_simp) ?_
        try simp only [Act.put, List.setIfInBounds_toArray, List.set_cons_zero, List.set_cons_succ]
        refine anyH_take 5 41 (.pointer (some ⟨g, 0, none⟩)) Sz.out rfl (by kernel_rfl) (by kernel_rfl) (by kernel_rfl) (fun _ _ _ h => h) (by rfl) (by intro y hy; go_simp) ?_
        try simp only [Act.put, List.setIfInBounds_toArray, List.set_cons_zero, List.set_cons_succ]
        refine anyH_take 7 43 (.pointer (some ⟨g, 0, none⟩)) Sz.out rfl (by kernel_rfl) (by kernel_rfl) (by kernel_rfl) (fun _ _ _ h => h) (by rfl) (by intro y hy; go_simp) ?_
        try simp only [Act.put, List.setIfInBounds_toArray, List.set_cons_zero, List.set_cons_succ]
        refine anyH_take 9 45 (.pointer (some ⟨g, 0, none⟩)) Sz.out rfl (by kernel_rfl) (by kernel_rfl) (by kernel_rfl) (fun _ _ _ h => h) (by rfl) (by intro y hy; go_simp) ?_
        try simp only [Act.put, List.setIfInBounds_toArray, List.set_cons_zero, List.set_cons_succ]
        refine anyH_one 4 (by kernel_rfl) ?_
        refine wpOp_step rfl (fun Kc hKc => ?_)
        go_simp
        refine (HJ1.out _ Dz.out).mono ?_
        rintro e10 w10 ⟨rfl, HR10, HO10⟩
        have Oc10 : Hid (Only g z w10) := HO10.out
        have S10 : Hid (SmAt w10 g5 (Bt.vt B) (Bt.vp B) (Bt.vn B) (.slice (some ⟨ge, 0, none⟩) m m)) := (Oc10.out.block _ (lt_of_block Sz.out) (Nat.ne_of_gt HG5.out.2.1)).trans Sz.out
        dsimp only
        refine hKc _ _ ⟨S10.out, ?_⟩
        clear hKc Kc
        try simp only [Act.put, List.setIfInBounds_toArray, List.set_cons_zero, List.set_cons_succ]
        refine anyH_one 6 (by kernel_rfl) ?_
        refine wpOp_step rfl (fun Kc hKc => ?_)
        go_simp
        refine (HJ2.out _ _ HR10.out).mono ?_
        rintro e11 w11 ⟨rfl, HR11, HO11⟩
        have Oc11 : Hid (Only g z w11) := Oc10.out.trans HO11.out
        have S11 : Hid (SmAt w11 g5 (Bt.vt B) (Bt.vp B) (Bt.vn B) (.slice (some ⟨ge, 0, none⟩) m m)) := (Oc11.out.block _ (lt_of_block Sz.out) (Nat.ne_of_gt HG5.out.2.1)).trans Sz.out
        dsimp only
        refine hKc _ _ ⟨S11.out, ?_⟩
        clear hKc Kc
        try simp only [Act.put, List.setIfInBounds_toArray, List.set_cons_zero, List.set_cons_succ]
        refine anyH_one 8 (by kernel_rfl) ?_
        refine wpOp_step rfl (fun Kc hKc => ?_)
        go_simp
        refine (HJ3.out _ _ HR11.out).mono ?_
        rintro e12 w12 ⟨rfl, HR12, HO12⟩
        have Oc12 : Hid (Only g z w12) := Oc11.out.trans HO12.out
        have S12 : Hid (SmAt w12 g5 (Bt.vt B) (Bt.vp B) (Bt.vn B) (.slice (some ⟨ge, 0, none⟩) m m)) := (Oc12.out.block _ (lt_of_block Sz.out) (Nat.ne_of_gt HG5.out.2.1)).trans Sz.out
        dsimp only
        refine hKc _ _ ⟨S12.out, ?_⟩
        clear hKc Kc
        try simp only [Act.put, List.setIfInBounds_toArray, List.set_cons_zero, List.set_cons_succ]
        refine anyH_one 10 (by kernel_rfl) ?_
        refine wpOp_step rfl (fun Kc hKc => ?_)
        go_simp
        refine (HJ4.out _ _ HR12.out).mono ?_
        rintro e13 w13 ⟨rfl, HR13, HO13⟩
        have Oc13 : Hid (Only g z w13) := Oc12.out.trans HO13.out
        have S13 : Hid (SmAt w13 g5 (Bt.vt B) (Bt.vp B) (Bt.vn B) (.slice (some ⟨ge, 0, none⟩) m m)) := (Oc13.out.block _ (lt_of_block Sz.out) (Nat.ne_of_gt HG5.out.2.1)).trans Sz.out
        dsimp only
        refine hKc _ _ ⟨S13.out, ?_⟩
        clear hKc Kc
        try simp only [Act.put, List.setIfInBounds_toArray, List.set_cons_zero, List.set_cons_succ]
        refine anyH_take 11 47 (.agg (EnA x)) S13.out rfl (by kernel_rfl) (by kernel_rfl) (by kernel_rfl) (fun _ _ _ h => h) (by rfl) (fun y hy => exec_build4 _ _ _ _ _ _ _ _ _ _ rfl rfl rfl rfl HBE.out) ?_
        try simp only [Act.put, List.setIfInBounds_toArray, List.set_cons_zero, List.set_cons_succ]
        refine anyH_take 12 48 (.pointer (some ⟨ge, k * 35, none⟩)) S13.out rfl (by kernel_rfl) (by kernel_rfl) (by kernel_rfl) (fun _ _ _ h => h) (by rfl) (by intro y hy; go_simp) ?_
        try simp only [Act.put, List.setIfInBounds_toArray, List.set_cons_zero, List.set_cons_succ]
        rw [HRC.out] at HR13
        have R13 : Hid (EsRow w13 ge F) := Rz.out.only Oc13.out (Nat.ne_of_gt HGE.out.2.1)
        have Z13 : Hid (w13.heap[w.heap.size]? = some (.cells ZSm.toArray 26 (0, 0))) := (Oc13.out.block _ (lt_of_block Zz.out) (Nat.ne_of_lt HGD.out.1)).trans Zz.out
        have B13 : Hid (Below w.heap.size w w13) := Oc13.out.below Bz.out (Nat.le_of_lt HGD.out.1) Bz.out.size
        clear Oc10 Oc11 Oc12 Oc13 S10 S11 S12 HR10 HR11 HR12 HO10 HO11 HO12 HO13 Rz Sz Zz Dz Bz HRW HSM HZR HRD HB HJ1 HJ2 HJ3 HJ4 HBE
        refine anyH_one 13 (by kernel_rfl) ?_
        refine op_store 13 50 (.tmp 48) (.tmp 47) rfl ge (k * 35) 50 (Bt.ec F) (EnA x) rfl rfl R13.out (en_info HXO.out) (by rw [enA_size HXO.out, Bt.ec_len HFO.out, HFL.out]; omega) (enA_one x) ?_
        intro w14 G14 ch14
        have O14 : Hid (Only ge w13 w14) := ch14.only
        have S14 : Hid (SmAt w14 g5 (Bt.vt B) (Bt.vp B) (Bt.vn B) (.slice (some ⟨ge, 0, none⟩) m m)) := (O14.out.block _ (lt_of_block S13.out) (Nat.ne_of_lt HGE.out.2.2.1)).trans S13.out
        refine ⟨S14.out, ?_⟩
        refine wpAnyH_done (by kernel_rfl) ?_ _
        have R14 : Hid (EsRow w14 ge (Bt.re G4 (k + 1) ++ List.replicate (m - (k + 1)) Bt.en0)) := by
          have h := G14.out
          have e : splice (Bt.ec F) (k * 35) (EnA x).toList = Bt.ec (F.set k x) := by
            unfold splice
            rw [Array.length_toList, enA_size HXO.out]
            rw [← List.append_assoc]
            exact Bt.ec_set HFO.out k (by rw [HFL.out]; exact hlt) x
          rw [e, HSET.out] at h
          exact h
        have Z14 : Hid (w14.heap[w.heap.size]? = some (.cells ZSm.toArray 26 (0, 0))) := (O14.out.block _ (lt_of_block Z13.out) (Nat.ne_of_lt HGE.out.1)).trans Z13.out
        have B14 : Hid (Below w.heap.size w w14) := O14.out.below B13.out (Nat.le_of_lt HGE.out.1) B13.out.size
        have D14 : Hid (RdAt w14 g D (Bt.rk G4 (k + 1)) (Bt.rc G4 (Bt.h4 B) (k + 1))) := HR13.out.only O14.out (Nat.ne_of_gt HGE.out.2.1) (fun h => Nat.lt_irrefl _ (HGE.out.2.2.2 _ h))
        clear ch14 G14 O14 S13 Z13 B13 HR13 R13 HSET
        go_wp2
        exact ⟨⟨k + 1, by omega, by go_num, R14.out, S14.out, Z14.out, D14.out, B14.out⟩, by simp [intOf]; omega⟩
      · obtain rfl : k = m := by omega
        have RW : Hid (EsRow wr ge (Bt.re G4 k)) := by have h := HRW.out; rw [Nat.sub_self, List.replicate_zero, List.append_nil] at h; exact h
        have HBY : Hid (Sha.Byt G4) := by rw [← HG4.out, Bt.g4_def, Bt.g3_def, Bt.g2_def, Bt.g1_def]; exact Pk.nx_byt (Pk.nx_byt (Pk.nx_byt (Pk.nx_byt HPB.out)))
        have HFO : Hid (∀ x ∈ Bt.re G4 k, x.ok) := Bt.re_ok HBY.out k
        have HGC : Hid (Bt.gc B = if Pk.en (Bt.rk G4 k) (Bt.rc G4 (Bt.h4 B) k) = 0 then Bt.ck (Bt.vt B) (Bt.vn B) (Bt.re G4 k) else Pk.en (Bt.rk G4 k) (Bt.rc G4 (Bt.h4 B) k)) := by
          have h := Bt.gc_late (B := B) (m := k) HM.out (by rw [HG4.out, HL4.out]; exact HM56.out.2)
          rw [HG4.out] at h
          exact h
        have HED : Hid (∀ y, RdAt y g D (Bt.rk G4 k) (Bt.rc G4 (Bt.h4 B) k) → Calls Try.prog 44 #[.pointer (some ⟨g, 0, none⟩)] y (EndSay (Pk.en (Bt.rk G4 k) (Bt.rc G4 (Bt.h4 B) k)) y)) := fun y hy => end_any _ _ g D y hy
        have HCK : Hid (∀ y, EsRow y ge (Bt.re G4 k) → Calls Try.prog 14 #[.agg (SmA (Bt.vt B) (Bt.vp B) (Bt.vn B) (.slice (some ⟨ge, 0, none⟩) k k))] y (InSay (Bt.ck (Bt.vt B) (Bt.vn B) (Bt.re G4 k)) y)) := fun y hy => check_any _ _ _ _ k k _ (Bt.re_len _ _) y ⟨HVP.out, HVB.out, hy.es HFO.out (by rw [Bt.re_len]; omega)⟩
        have HYES2 : Hid (∀ e w', Bt.gc B = 0 → GetOk (Bt.vt B) (Bt.vp B) (Bt.vn B) k (Bt.re G4 k) w e w' → R e w') := fun e w' h1 h2 => HYES.out e w' h1 (by rw [HM.out, Int.toNat_natCast, HG4.out]; exact h2)
        have HX2 : Hid ((SmA (Bt.vt B) (Bt.vp B) (Bt.vn B) (.slice (some ⟨ge, 0, none⟩) k k)).size = 35) := smA_size _ _ _ HVP.out
        have HX3 : Hid ((SmA (Bt.vt B) (Bt.vp B) (Bt.vn B) (.slice (some ⟨ge, 0, none⟩) k k)).all (·.oneCell') = true) := smA_one _ _ _ _ _ _
        obtain ⟨cc, hcc⟩ : ∃ cc, Bt.ck (Bt.vt B) (Bt.vn B) (Bt.re G4 k) = cc := ⟨_, rfl⟩
        rw [hcc] at HGC HCK
        obtain ⟨ee, hee⟩ : ∃ ee, Pk.en (Bt.rk G4 k) (Bt.rc G4 (Bt.h4 B) k) = ee := ⟨_, rfl⟩
        rw [hee] at HGC HED
        obtain ⟨rr, hrr⟩ : ∃ rr, (if ee = 0 then cc else ee) = rr := ⟨_, rfl⟩
        rw [hrr] at HGC
        have HRR := Lib.hid hrr
        clear hcc hee hrr hlt HRW HYES HFO HBY
        go_upto_region 12 with (fail)
        refine wp_region_any (by kernel_rfl) ?_
        change wpAny _ _ _ _ _ _ _ (World.drew _)
        have Rz : Hid (EsRow wr.drew ge (Bt.re G4 k)) := RW.out
        have Sz : Hid (SmAt wr.drew g5 (Bt.vt B) (Bt.vp B) (Bt.vn B) (.slice (some ⟨ge, 0, none⟩) k k)) := HSM.out.drew
        have Zz : Hid (wr.drew.heap[w.heap.size]? = some (.cells ZSm.toArray 26 (0, 0))) := HZR.out
        have Dz : Hid (RdAt wr.drew g D (Bt.rk G4 k) (Bt.rc G4 (Bt.h4 B) k)) := HRD.out.drew
        have Bz : Hid (Below w.heap.size w wr.drew) := HB.out.drew
        obtain ⟨z, hz⟩ : ∃ y, y = wr.drew := ⟨_, rfl⟩
        rw [← hz] at Rz Sz Zz Dz Bz ⊢
        clear hz
        refine wpAny_of_held (S := fun y => SmAt y g5 (Bt.vt B) (Bt.vp B) (Bt.vn B) (.slice (some ⟨ge, 0, none⟩) k k)) _ _ _ _ ?_
        refine anyH_take 0 50 (.pointer (some ⟨g, 0, none⟩)) Sz.out rfl (by kernel_rfl) (by kernel_rfl) (by kernel_rfl) (fun _ _ _ h => h) (by rfl) (by intro y hy; go_simp) ?_
        try simp only [Act.put, List.setIfInBounds_toArray, List.set_cons_zero, List.set_cons_succ]
        refine anyH_take 2 52 (.agg (SmA (Bt.vt B) (Bt.vp B) (Bt.vn B) (.slice (some ⟨ge, 0, none⟩) k k))) Sz.out rfl (by kernel_rfl) (by kernel_rfl) (by kernel_rfl) (fun _ _ _ h => h) (by rfl) (fun y hy => exec_arr _ _ g5 0 _ _ rfl hy.all Try.underlying26 rfl (sm_info HX2.out)) ?_
        try simp only [Act.put, List.setIfInBounds_toArray, List.set_cons_zero, List.set_cons_succ]
        refine anyH_one 1 (by kernel_rfl) ?_
        refine wpOp_step rfl (fun Kc hKc => ?_)
        go_simp
        refine (HED.out _ Dz.out).mono ?_
        rintro e10 w10 ⟨rfl, hb10⟩
        have K10 : Hid (Below z.heap.size z w10) := hb10
        have S10 : Hid (SmAt w10 g5 (Bt.vt B) (Bt.vp B) (Bt.vn B) (.slice (some ⟨ge, 0, none⟩) k k)) := Sz.out.old K10.out
        have R10 : Hid (EsRow w10 ge (Bt.re G4 k)) := Rz.out.old K10.out
        dsimp only
        refine hKc _ _ ⟨S10.out, ?_⟩
        clear hKc Kc
        try simp only [Act.put, List.setIfInBounds_toArray, List.set_cons_zero, List.set_cons_succ]
        refine anyH_one 3 (by kernel_rfl) ?_
        refine wpOp_step rfl (fun Kc hKc => ?_)
        go_simp
        refine (HCK.out _ R10.out).mono ?_
        rintro e11 w11 ⟨rfl, hb11⟩
        have K11 : Hid (Below z.heap.size z w11) := K10.out.trans (hb11.mono K10.out.size)
        have S11 : Hid (SmAt w11 g5 (Bt.vt B) (Bt.vp B) (Bt.vn B) (.slice (some ⟨ge, 0, none⟩) k k)) := Sz.out.old K11.out
        have R11 : Hid (EsRow w11 ge (Bt.re G4 k)) := Rz.out.old K11.out
        dsimp only
        refine hKc _ _ ⟨S11.out, ?_⟩
        clear hKc Kc
        try simp only [Act.put, List.setIfInBounds_toArray, List.set_cons_zero, List.set_cons_succ]
        refine anyH_one 4 (by kernel_rfl) ?_
        refine wpOp_step rfl (fun Kc hKc => ?_)
        go_simp
        change Kc _ (w11.alloc (.cells #[.int .i64 ee, .int .i64 cc] 30))
        have K12 : Hid (Below w11.heap.size w11 (w11.alloc (.cells #[.int .i64 ee, .int .i64 cc] 30))) := (Below.refl _ w11).alloc (Nat.le_refl _) _
        have HOR : Hid (Calls Try.prog 43 #[.slice (some ⟨w11.heap.size, 0, none⟩) 2 2] (w11.alloc (.cells #[.int .i64 ee, .int .i64 cc] 30)) fun e w' => e = .returned (.int .i64 rr) ∧ w' = w11.alloc (.cells #[.int .i64 ee, .int .i64 cc] 30)) := by rw [← HRR.out]; exact or_any ee cc _ _ (heap_alloc_new w11 _)
        refine hKc _ _ ⟨S11.out.old K12.out, ?_⟩
        clear hKc Kc
        try simp only [Act.put, List.setIfInBounds_toArray, List.set_cons_zero, List.set_cons_succ]
        refine anyH_one 5 (by kernel_rfl) ?_
        refine wpOp_step rfl (fun Kc hKc => ?_)
        go_simp
        refine (HOR.out).mono ?_
        rintro e13 w13 ⟨rfl, hw13⟩
        have K13 : Hid (Below w11.heap.size w11 w13) := by rw [hw13]; exact K12.out
        clear hw13
        have S13 : Hid (SmAt w13 g5 (Bt.vt B) (Bt.vp B) (Bt.vn B) (.slice (some ⟨ge, 0, none⟩) k k)) := S11.out.old K13.out
        have R13 : Hid (EsRow w13 ge (Bt.re G4 k)) := R11.out.old K13.out
        have KK : Hid (Below z.heap.size z w13) := K11.out.trans (K13.out.mono K11.out.size)
        have Z13 : Hid (w13.heap[w.heap.size]? = some (.cells ZSm.toArray 26 (0, 0))) := (KK.out.block _ (lt_of_block Zz.out)).trans Zz.out
        have B13 : Hid (Below w.heap.size w w13) := Bz.out.trans (KK.out.mono Bz.out.size)
        dsimp only
        refine hKc _ _ ⟨S13.out, ?_⟩
        clear hKc Kc
        try simp only [Act.put, List.setIfInBounds_toArray, List.set_cons_zero, List.set_cons_succ]
        refine anyH_take 6 8 (.int .i64 rr) S13.out rfl (by kernel_rfl) (by kernel_rfl) (by kernel_rfl) (fun _ _ _ h => h) (by rfl) (by intro y hy; go_simp) ?_
        try simp only [Act.put, List.setIfInBounds_toArray, List.set_cons_zero, List.set_cons_succ]
        refine wpAnyH_done (by kernel_rfl) ?_ _
        clear S10 S11 R10 R11 K10 K11 K12 K13 KK Sz Rz Zz Dz Bz HOR HCK HED HRR
        by_cases hr0 : rr = 0
        · have hb0 : (rr == 0) = true := by simp [hr0]
          have HG0 : Hid (Bt.gc B = 0) := HGC.out.trans hr0
          clear hr0 HGC
          have S13' : Hid (w13.heap[g5]? = some (.cells (SmA (Bt.vt B) (Bt.vp B) (Bt.vn B) (.slice (some ⟨ge, 0, none⟩) k k)) 26 (0, 0))) := S13.out
          go_wp2_with (first
            | ((with_reducible refine row_load _ _ _ _ _ _ _ ?_ S13'.out Try.underlying26 ?_ (sm_info HX2.out) ?_); (exact rfl); (exact rfl))
            | ((with_reducible refine row_store _ _ _ _ _ _ _ ?_ ?_ Z13.out (sm_info HX2.out) ?_ HX3.out ?_); (exact rfl); (exact rfl); (rw [HX2.out]; rfl); intro w14 G14 ch14))
          refine bodyPost_ret (get_ret rfl _ _ w.heap.size _ _ _ rfl G14.out HX2.out rfl) rfl (HYES2.out _ _ HG0.out ⟨ge, rfl, ?_, Nat.le_of_lt HGE.out.1, ch14.below B13.out (Nat.le_refl _)⟩)
          exact R13.out.only ch14.only (Nat.ne_of_gt HGE.out.1)
        · have hb0 : (rr == 0) = false := by simp [hr0]
          have HR0 := Lib.hid hr0
          clear hr0
          go_wp2_with (first
            | ((with_reducible refine build0_g _ _ ?_ build_sm0 ?_); (exact rfl))
            | ((with_reducible refine row_store _ _ _ _ _ _ _ ?_ ?_ Z13.out (sm_info (A := ZSm.toArray) rfl) ?_ zsm_one ?_); (exact rfl); (exact rfl); (exact rfl); intro w14 G14 ch14))
          refine bodyPost_ret (get_ret rfl _ _ w.heap.size ZSm.toArray _ _ rfl G14.out rfl rfl) rfl (HNO.out rr _ _ HGC.out HR0.out ⟨by rw [zsm_eq]; rfl, ch14.below B13.out (Nat.le_refl _)⟩)
end Go.Proofs.Ytkgefogkdmbciaa

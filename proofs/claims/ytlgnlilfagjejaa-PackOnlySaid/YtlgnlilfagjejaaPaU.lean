/-
  PackPuts: the law walked.
-/
import Derived.Test.YtlgnlilfagjejaaPaT
namespace Go.Proofs.Ytlgnlilfagjejaa
open Go.RowKit

section
variable {P : Program} {ops : Array Oper} {rest : List Oper} {a : Act} {w : World} {Q : Exit → Act → World → Prop} {D : Option Tmp} {T : TypeId} {ps : String} {af : Array Edge} {gd : Option (Nat × Bool)}
theorem rng_load_g (ty : TypeId) (x : Operand) (b o : Nat) (A : Array Value) (d : TypeDesc) (hw : Region.wanted { dst := D, op := .load ty x, type := T, pos := ps, after := af, guard := gd } (yielded ops a.tmps) = true)
    (hx : a.eval x = .pointer (some ⟨b, o, none⟩)) (hc : w.rangeAt b o A.toList)
    (hu : P.underlying ty = some d) (hd : d.isRow = true) (hi : (P.info? ty).map (·.size) = some A.size)
    (h : wpList P ops Q rest (a.put D (.agg A)) w) : wpList P ops Q ({ dst := D, op := .load ty x, type := T, pos := ps, after := af, guard := gd } :: rest) a w :=
  BigFrame.wpList_want hw fun K hK => wp_load_mid ty x rfl b o hx A.toList d hc hu hd (by simpa using hi) (hK _ _ (by simpa using h))
theorem row_load_g (ty : TypeId) (x : Operand) (g : Nat) (t : TypeId) (cs : Array Value) (fr : Nat × Nat) (d : TypeDesc) (hw : Region.wanted { dst := D, op := .load ty x, type := T, pos := ps, after := af, guard := gd } (yielded ops a.tmps) = true)
    (hx : a.eval x = .pointer (some ⟨g, 0, none⟩)) (hg : w.heap[g]? = some (.cells cs t fr))
    (hu : P.underlying ty = some d) (hd : d.isRow = true) (hi : (P.info? ty).map (·.size) = some cs.size)
    (h : wpList P ops Q rest (a.put D (.agg cs)) w) : wpList P ops Q ({ dst := D, op := .load ty x, type := T, pos := ps, after := af, guard := gd } :: rest) a w :=
  rng_load_g ty x g 0 cs d hw hx (fun j v hv => by rw [cell_of_row w g (0 + j) _ _ _ hg, Nat.zero_add]; simpa using hv) hu hd hi h
end
def LentN (n : Nat) (L : List Int) (w : World) (e : Ending) (w' : World) : Prop :=
  ∃ g, e = .returned (.slice (some ⟨g, 0, none⟩) (n + 5) (n + 5)) ∧ Hid (w.heap.size ≤ g) ∧ Hid (w'.heap[g]? = some (.cells ((mk5 L).map (Value.int .u8)).toArray 5 (0, 0))) ∧ Hid (Below w.heap.size w w')
theorem lentn_any (L : List Int) (n : Nat) (hn : L.length = n) (hL : n ≤ 1000000) (p : Option Addr) (c : Nat) (w : World) (hp : Bs w p c L) : Calls Try.prog 10 #[.slice p n c] w (LentN n L w) := by
  subst hn
  refine (lent_any L p c w hp.bat hL).mono ?_
  rintro e w' ⟨g, h1, h2, h3, h4⟩
  exact ⟨g, h1, h2, h3, h4⟩
theorem keptn_any (L : List Int) (n : Nat) (hn : L.length = n) (hL : n ≤ 100000) (g : Nat) (q : Option Addr) (d : Nat) (w : World) (hg : w.heap[g]? = some (.cells ((mk5 L).map (Value.int .u8)).toArray 5 (0, 0))) (hq : Bs w q d L) :
    Calls Try.prog 19 #[.slice (some ⟨g, 0, none⟩) (n + 5) (n + 5), .slice q n d] w (YesSay w) := by
  subst hn
  exact kept_any L g q (L.length + 5) d w (bat_row hg (mk5_byt hq.bat.1)) hq.bat (by omega) (Nat.le_refl _)
theorem samen_any (R : List Int) (m : Nat) (hm : R.length = m) (hL : m ≤ 1000000) (p q : Option Addr) (c d : Nat) (w : World) (hp : Bs w p c R) (hq : Bs w q d R) : Calls Try.prog 14 #[.slice p m c, .slice q m d] w (YesSay w) :=
  same_any R p q m m c d hm hm w hp.bat hq.bat (by omega)
def SpSay (v : Value) (w : World) (e : Ending) (w' : World) : Prop := e = .returned (.tuple #[]) ∧ Hid (Sp v w w')
theorem spoiln_any {B m : Nat} {v : Value} {l : List Int} {w : World} (hL : m ≤ 1000000) (h : w.ownsRow B 5 1 v m (U8s l)) : Calls Try.prog 18 #[v] w (SpSay v w) :=
  (spoil_own h hL).mono fun _ _ h => ⟨h.1, h.2⟩

/-- A lent row and three rows of the call's own, apart. -/
structure Ap (w : World) (g : Nat) (vx vy vz : Value) : Prop where
  gx : vx.ownBlock ≠ some g
  gy : vy.ownBlock ≠ some g
  gz : vz.ownBlock ≠ some g
  xy : ∀ k, vy.ownBlock = some k → vx.ownBlock ≠ some k
  xz : ∀ k, vz.ownBlock = some k → vx.ownBlock ≠ some k
  yz : ∀ k, vz.ownBlock = some k → vy.ownBlock ≠ some k
  bx : ∀ k, vx.ownBlock = some k → w.heap.size ≤ k
  by_ : ∀ k, vy.ownBlock = some k → w.heap.size ≤ k
  bz : ∀ k, vz.ownBlock = some k → w.heap.size ≤ k
theorem ap_mk {w w1 w2 w3 w4 : World} {g nx ny nz : Nat} {vx vy vz : Value} {lx ly lz : List Value} (hx : w2.ownsRow w1.heap.size 5 1 vx nx lx) (hy : w3.ownsRow w2.heap.size 5 1 vy ny ly) (hz : w4.ownsRow w3.heap.size 5 1 vz nz lz)
    (hg : g < w1.heap.size) (hw : w.heap.size ≤ w1.heap.size) (h12 : w1.heap.size ≤ w2.heap.size) (h23 : w2.heap.size ≤ w3.heap.size) : Ap w g vx vy vz := by
  refine ⟨fun h => ?_, fun h => ?_, fun h => ?_, fun k h h' => ?_, fun k h h' => ?_, fun k h h' => ?_, fun k h => ?_, fun k h => ?_, fun k h => ?_⟩
  · have a := hx.lt _ h; omega
  · have a := hy.lt _ h; omega
  · have a := hz.lt _ h; omega
  · have a := hx.lt _ h'; have b := hy.lt _ h; omega
  · have a := hx.lt _ h'; have b := hz.lt _ h; omega
  · have a := hy.lt _ h'; have b := hz.lt _ h; omega
  · have a := hx.lt _ h; omega
  · have a := hy.lt _ h; omega
  · have a := hz.lt _ h; omega
set_option maxHeartbeats 2000000 in
set_option maxRecDepth 100000 in
theorem puts_big (v : Value) (R : Array Value) (hR : R.size = 33) (_h1 : R.all (·.oneCell') = true) (p : Option Addr) (n c : Nat) (hbig : ¬ n ≤ 65536) (w : World) :
    Calls Try.prog 3 #[.slice p n c, v, .agg R] w (YesSay w) := by
  have hsz := row_size Try.sizeRef hR
  have hgt : (n : Int) > 65536 := by omega
  have B0 : Hid (Below w.heap.size w (w.alloc (.cells R 26))) := (Below.refl _ w).alloc (Nat.le_refl _) _
  have HK : Hid (∀ y, Calls Try.prog 9 #[] y (YesSay y)) := fun y => known_any y
  go_enter Try.func3, Try.ntmps3
  go_wp2_with (go_at_call 9; refine (HK.out _).mono ?_; rintro e1 w1 ⟨rfl, hb1⟩)
  go_ret
  exact ⟨rfl, B0.out.trans (hb1.mono B0.out.size)⟩
set_option maxHeartbeats 4000000 in
set_option maxRecDepth 100000 in
theorem puts_true (L : List Int) (v : Int) (r : Int × List Int) (hS : r.2.length = 32) (hb : Sha.Byt r.2) (p : Option Addr) (n c : Nat) (hn : L.length = n) (hL : n ≤ 65536) (w : World) (hp : Bs w p c L) :
    Calls Try.prog 3 #[.slice p n c, .int .i64 v, R33 r] w (YesSay w) := by
  have HP := Lib.hid hp
  obtain ⟨A, hA, hA2, _⟩ := a32_agg r.2 hS
  obtain ⟨R, hR, hR2, hR3⟩ := r33_agg r hS
  have HA2 := Lib.hid hA2
  have HR2 := Lib.hid hR2
  have hsz := row_size Try.sizeRef HR2
  have HRA : Hid (R = (Value.int .i64 r.1 :: r.2.map (Value.int .u8)).toArray) := by
    unfold R33 at hR
    cases hR
    rfl
  have HAA : Hid (A = (r.2.map (Value.int .u8)).toArray) := by
    unfold A32 at hA
    cases hA
    rfl
  obtain ⟨m8, hm8⟩ : ∃ m, n + 8 = m := ⟨_, rfl⟩
  obtain ⟨m32, hm32⟩ : ∃ m, n + 32 = m := ⟨_, rfl⟩
  obtain ⟨m40, hm40⟩ : ∃ m, n + 40 = m := ⟨_, rfl⟩
  obtain ⟨X, hX⟩ : ∃ X, L ++ Pk.e8 v 8 = X := ⟨_, rfl⟩
  obtain ⟨Y, hY⟩ : ∃ Y, L ++ r.2 = Y := ⟨_, rfl⟩
  obtain ⟨Z, hZ⟩ : ∃ Z, L ++ Pk.ref r = Z := ⟨_, rfl⟩
  have HXL : Hid (X.length = m8) := by show _ = _; rw [← hX, List.length_append, Pk.e8_len, hn, hm8]
  have HYL : Hid (Y.length = m32) := by show _ = _; rw [← hY, List.length_append, hS, hn, hm32]
  have HZL : Hid (Z.length = m40) := by show _ = _; rw [← hZ, List.length_append, Pk.ref, List.length_append, Pk.e8_len, hS, hn, ← hm40]
  have HI : Hid (∀ y p c, Bs y p c L → Calls Try.prog 11 #[.slice p n c, .int .i64 v] y (RowOf X m8 y)) := fun y p c hy => by rw [← hX]; exact int_any L v p n c m8 hn hm8 (by omega) y hy
  have HI2 : Hid (∀ y p c, Bs y p c L → Calls Try.prog 15 #[.slice p n c, .int .i64 v] y (RowOf X m8 y)) := fun y p c hy => by rw [← hX]; exact refint_any L v p n c m8 hn hm8 (by omega) y hy
  have HS1 : Hid (∀ y p c, Bs y p c L → Calls Try.prog 12 #[.slice p n c, .agg A] y (RowOf Y m32 y)) := fun y p c hy => by rw [← hA, ← hY]; exact sum_any L r.2 hS hb p n c m32 hn hm32 (by omega) y hy
  have HS2 : Hid (∀ y p c, Bs y p c L → Calls Try.prog 16 #[.slice p n c, .agg A] y (RowOf Y m32 y)) := fun y p c hy => by rw [← hA, ← hY]; exact refsum_any L r.2 hS hb p n c m32 hn hm32 (by omega) y hy
  have HR : Hid (∀ y p c, Bs y p c L → Calls Try.prog 13 #[.slice p n c, .agg R] y (RowOf Z m40 y)) := fun y p c hy => by rw [← hR, ← hZ]; exact ref_any L r hS hb p n c m40 hn hm40 (by omega) y hy
  have HRf : Hid (∀ y p c, Bs y p c L → Calls Try.prog 17 #[.slice p n c, .agg R] y (RowOf Z m40 y)) := fun y p c hy => by rw [← hR, ← hZ]; exact refref_any L r hS hb p n c m40 hn hm40 (by omega) y hy
  have HLT : Hid (∀ y p c, Bs y p c L → Calls Try.prog 10 #[.slice p n c] y (LentN n L y)) := fun y p c hy => lentn_any L n hn (by omega) p c y hy
  have HKB : Hid (∀ y g q d, y.heap[g]? = some (.cells ((mk5 L).map (Value.int .u8)).toArray 5 (0, 0)) → Bs y q d L → Calls Try.prog 19 #[.slice (some ⟨g, 0, none⟩) (n + 5) (n + 5), .slice q n d] y (YesSay y)) := fun y g q d h1 h2 => keptn_any L n hn (by omega) g q d y h1 h2
  have HSX : Hid (∀ y p q c d, Bs y p c X → Bs y q d X → Calls Try.prog 14 #[.slice p m8 c, .slice q m8 d] y (YesSay y)) := fun y p q c d h1 h2 => samen_any X m8 HXL.out (by omega) p q c d y h1 h2
  have HSY : Hid (∀ y p q c d, Bs y p c Y → Bs y q d Y → Calls Try.prog 14 #[.slice p m32 c, .slice q m32 d] y (YesSay y)) := fun y p q c d h1 h2 => samen_any Y m32 HYL.out (by omega) p q c d y h1 h2
  have HSZ : Hid (∀ y p q c d, Bs y p c Z → Bs y q d Z → Calls Try.prog 14 #[.slice p m40 c, .slice q m40 d] y (YesSay y)) := fun y p q c d h1 h2 => samen_any Z m40 HZL.out (by omega) p q c d y h1 h2
  have HM : Hid (m8 ≤ 1000000 ∧ m32 ≤ 1000000 ∧ m40 ≤ 1000000) := ⟨by omega, by omega, by omega⟩
  have HLB : Hid (∀ y g, y.heap[g]? = some (.cells ((mk5 L).map (Value.int .u8)).toArray 5 (0, 0)) → Bs y (some ⟨g, 0, none⟩) (n + 5) L) := fun y g hg => by
    have h := lent_bs (by omega) hg hp.bat.1
    rw [hn] at h
    exact h
  have HN5 : (n : Int) ≤ ((n + 5 : Nat) : Int) := by omega
  have HK : Hid (∀ y, Calls Try.prog 9 #[] y (YesSay y)) := fun y => known_any y
  have B0 : Hid (Below w.heap.size w (w.alloc (.cells R 26))) := (Below.refl _ w).alloc (Nat.le_refl _) _
  have R0 : Hid ((w.alloc (.cells R 26)).heap[w.heap.size]? = some (.cells R 26 (0, 0))) := heap_alloc_new w _
  have hle : ¬ (n : Int) > 65536 := by omega
  rw [hR]
  clear hX hY hZ hm8 hm32 hm40 hn hp hA hA2 hR hR2 hS hb HXL HYL HZL
  go_enter Try.func3, Try.ntmps3
  go_upto_region 1 with (fail)
  obtain ⟨w0, hw0⟩ : ∃ x, x = w.alloc (.cells R 26) := ⟨_, rfl⟩
  rw [← hw0] at B0 R0 ⊢
  clear hw0
  have HRR : Hid (∀ y, Below w0.heap.size w0 y → y.heap[w.heap.size]? = some (.cells R 26 (0, 0))) := fun y hy => (hy.block _ (lt_of_block R0.out)).trans R0.out
  have HRG : Hid (∀ y, Below w0.heap.size w0 y → y.rangeAt w.heap.size 1 A.toList) := fun y hy j u hu => by
    have h := HRR.out y hy
    rw [HRA.out] at h
    rw [cell_of_row y w.heap.size (1 + j) _ _ _ h, Nat.add_comm]
    rw [HAA.out] at hu
    simpa using hu
  have HPO : Hid (∀ y, Below w0.heap.size w0 y → Bs y p c L) := fun y hy => HP.out.old (B0.out.trans (hy.mono B0.out.size))
  clear HRA HAA R0
  go_wp2_with (first
    | (go_at_call 9; refine (HK.out _).mono ?_; rintro e15 w15 ⟨rfl, hb15⟩)
    | (go_at_call 19; refine (HKB.out _ _ _ _ G13.out (HP.out.old B13.out)).mono ?_; rintro e14 w14 ⟨rfl, hb14⟩)
    | (go_at_call 18; refine (spoiln_any HM.out.2.2 Z12.out).mono ?_; rintro e13 w13 ⟨rfl, S13⟩; have B13 : Hid (Below w.heap.size w w13) := S13.out.below B12.out B12.out.size HAP.out.bz; have G13 := Lib.hid ((sp_block S13.out (lt_of_block G12.out) HAP.out.gz).trans G12.out))
    | (go_at_call 18; refine (spoiln_any HM.out.2.1 Y11.out).mono ?_; rintro e12 w12 ⟨rfl, S12⟩; have B12 : Hid (Below w.heap.size w w12) := S12.out.below B11.out B11.out.size HAP.out.by_; have G12 := Lib.hid ((sp_block S12.out (lt_of_block G11.out) HAP.out.gy).trans G11.out); have Z12 := Lib.hid (own_sp Z11.out S12.out HAP.out.yz))
    | (go_at_call 18; refine (spoiln_any HM.out.1 X10.out).mono ?_; rintro e11 w11 ⟨rfl, S11⟩; have B11 : Hid (Below w.heap.size w w11) := S11.out.below B10.out B10.out.size HAP.out.bx; have G11 := Lib.hid ((sp_block S11.out (lt_of_block G10.out) HAP.out.gx).trans G10.out); have Y11 := Lib.hid (own_sp Y10.out S11.out HAP.out.xy); have Z11 := Lib.hid (own_sp Z10.out S11.out HAP.out.xz))
    | (go_at_call 14; refine (HSZ.out _ _ _ _ _ (HB4.out.old K9.out) HB9.out).mono ?_; rintro e10 w10 ⟨rfl, hb10⟩; have K10 : Hid (Below w4.heap.size w4 w10) := K9.out.trans (hb10.mono K9.out.size); have B10 : Hid (Below w.heap.size w w10) := B0.out.trans ((B9.out.trans (hb10.mono B9.out.size)).mono B0.out.size); have G10 := Lib.hid ((K10.out.block _ (lt_of_block G4.out)).trans G4.out); have X10 := Lib.hid (own_keepX X4.out K10.out); have Y10 := Lib.hid (own_keepX Y4.out K10.out); have Z10 := Lib.hid (own_keepX HO4.out K10.out); have HAP := Lib.hid (ap_mk HO2.out HO3.out HO4.out (lt_of_block G1.out) (B0.out.trans (HL1.out.mono B0.out.size)).size HL2.out.size HL3.out.size))
    | (go_at_call 17; refine (HRf.out _ _ _ (HPO.out _ B8.out)).mono ?_; rintro e9 w9 ⟨p9, c9, rfl, HO9, HB9, HL9⟩; have K9 : Hid (Below w4.heap.size w4 w9) := K8.out.trans (HL9.out.mono K8.out.size); have B9 : Hid (Below w0.heap.size w0 w9) := B8.out.trans (HL9.out.mono B8.out.size))
    | (go_at_call 14; refine (HSY.out _ _ _ _ _ (BY4.out.old K7.out) HB7.out).mono ?_; rintro e8 w8 ⟨rfl, hb8⟩; have K8 : Hid (Below w4.heap.size w4 w8) := K7.out.trans (hb8.mono K7.out.size); have B8 : Hid (Below w0.heap.size w0 w8) := B7.out.trans (hb8.mono B7.out.size))
    | (go_at_call 16; refine (HS2.out _ _ _ (HPO.out _ B6.out)).mono ?_; rintro e7 w7 ⟨p7, c7, rfl, HO7, HB7, HL7⟩; have K7 : Hid (Below w4.heap.size w4 w7) := K6.out.trans (HL7.out.mono K6.out.size); have B7 : Hid (Below w0.heap.size w0 w7) := B6.out.trans (HL7.out.mono B6.out.size))
    | (go_at_call 14; refine (HSX.out _ _ _ _ _ (BX4.out.old K5.out) HB5.out).mono ?_; rintro e6 w6 ⟨rfl, hb6⟩; have K6 : Hid (Below w4.heap.size w4 w6) := K5.out.trans (hb6.mono K5.out.size); have B6 : Hid (Below w0.heap.size w0 w6) := B5.out.trans (hb6.mono B5.out.size))
    | (go_at_call 15; refine (HI2.out _ _ _ (HPO.out _ B4.out)).mono ?_; rintro e5 w5 ⟨p5, c5, rfl, HO5, HB5, HL5⟩; have K5 : Hid (Below w4.heap.size w4 w5) := HL5.out; have B5 : Hid (Below w0.heap.size w0 w5) := B4.out.trans (HL5.out.mono B4.out.size))
    | (go_at_call 13; refine (HR.out _ _ _ (HLB.out _ _ G3.out)).mono ?_; rintro e4 w4 ⟨p4, c4, rfl, HO4, HB4, HL4⟩; have B4 : Hid (Below w0.heap.size w0 w4) := B3.out.trans (HL4.out.mono B3.out.size); have G4 := Lib.hid ((HL4.out.block _ (lt_of_block G3.out)).trans G3.out); have BX4 := Lib.hid (BX3.out.old HL4.out); have BY4 := Lib.hid (HB3.out.old HL4.out); have X4 := Lib.hid (own_keepX X3.out HL4.out); have Y4 := Lib.hid (own_keepX HO3.out HL4.out))
    | (go_at_call 12; refine (HS1.out _ _ _ (HLB.out _ _ G2.out)).mono ?_; rintro e3 w3 ⟨p3, c3, rfl, HO3, HB3, HL3⟩; have B3 : Hid (Below w0.heap.size w0 w3) := B2.out.trans (HL3.out.mono B2.out.size); have G3 := Lib.hid ((HL3.out.block _ (lt_of_block G2.out)).trans G2.out); have BX3 := Lib.hid (HB2.out.old HL3.out); have X3 := Lib.hid (own_keepX HO2.out HL3.out))
    | (go_at_call 11; refine (HI.out _ _ _ (HLB.out _ _ G1.out)).mono ?_; rintro e2 w2 ⟨p2, c2, rfl, HO2, HB2, HL2⟩; have B2 : Hid (Below w0.heap.size w0 w2) := HL1.out.trans (HL2.out.mono HL1.out.size); have G2 := Lib.hid ((HL2.out.block _ (lt_of_block G1.out)).trans G1.out))
    | (go_at_call 10; refine (HLT.out _ _ _ (HPO.out _ (Below.refl _ _))).mono ?_; rintro e1 w1 ⟨g, rfl, HG1, G1, HL1⟩)
    | ((with_reducible refine row_load _ _ _ _ _ _ _ ?_ (HRR.out _ B3.out) Try.underlying26 ?_ (row_size Try.sizeRef HR2) ?_); (exact rfl); (exact rfl))
    | ((with_reducible refine row_load_g _ _ _ _ _ _ _ ?_ ?_ (HRR.out _ B8.out) Try.underlying26 ?_ (row_size Try.sizeRef HR2) ?_); (exact rfl); (exact rfl); (exact rfl))
    | ((with_reducible refine rng_load _ _ _ _ _ _ ?_ (HRG.out _ B2.out) Try.underlying24 ?_ (row_size Try.sizeSum HA2) ?_); (exact rfl); (exact rfl))
    | ((with_reducible refine rng_load_g _ _ _ _ _ _ ?_ ?_ (HRG.out _ B6.out) Try.underlying24 ?_ (row_size Try.sizeSum HA2) ?_); (exact rfl); (exact rfl); (exact rfl)))
  go_ret
  exact ⟨rfl, (B13.out.trans (hb14.mono B13.out.size)).trans (hb15.mono (B13.out.trans (hb14.mono B13.out.size)).size)⟩
theorem puts_any (L : List Int) (v : Int) (r : Int × List Int) (hS : r.2.length = 32) (hb : Sha.Byt r.2) (p : Option Addr) (c : Nat) (w : World) (hp : Bs w p c L) :
    Calls Try.prog 3 #[.slice p L.length c, .int .i64 v, R33 r] w (YesSay w) := by
  by_cases h : L.length ≤ 65536
  · exact puts_true L v r hS hb p L.length c rfl h w hp
  · obtain ⟨R, hR, hR2, hR3⟩ := r33_agg r hS
    rw [hR]
    exact puts_big (.int .i64 v) R hR2 hR3 p L.length c h w
end Go.Proofs.Ytlgnlilfagjejaa

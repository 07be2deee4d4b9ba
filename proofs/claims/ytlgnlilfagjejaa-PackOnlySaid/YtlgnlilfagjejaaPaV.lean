/-
  PackReads: the law walked.
-/
import Derived.Test.YtlgnlilfagjejaaPaE2
import Derived.Test.YtlgnlilfagjejaaPaU
namespace Go.Proofs.Ytlgnlilfagjejaa
open Go.RowKit

/-- Numbers that came in. -/
def IAt (y : World) (p : Option Addr) (L : List Int) : Prop := 0 < L.length → ∃ ab ao, p = some ⟨ab, ao, none⟩ ∧ ∀ j, j < L.length → y.cell? ⟨ab, ao + j, none⟩ = some (.int .i64 (L.getD j 0))
theorem IAt.old {w y : World} {p : Option Addr} {L : List Int} (h : IAt w p L) (hb : Below w.heap.size w y) : IAt y p L := fun h0 => by
  obtain ⟨ab, ao, e, hf⟩ := h h0
  exact ⟨ab, ao, e, fun j hj => (hb.cell (World.block_lt_of_cell? _ _ (hf j hj))).trans (hf j hj)⟩
/-- Both readers, apart from one another: the same is left of both. -/
structure Bth (w y : World) (gp gr : Nat) (Dp Dr : Option Nat) (X : List Int) (bb : Bool) : Prop where
  pr : RdAt y gp Dp X bb
  rf : RfRd y gr Dr X bb
  below : Below w.heap.size w y
  len : X.length ≤ 65536
  a1 : gp ≠ gr
  a2 : Dp ≠ some gr
  a3 : Dr ≠ some gp
  b1 : w.heap.size ≤ gp
  b2 : w.heap.size ≤ gr
theorem Bth.next {w y y1 y2 : World} {gp gr : Nat} {Dp Dr : Option Nat} {X X' : List Int} {bb bb' : Bool} (h : Bth w y gp gr Dp Dr X bb) (h1 : RdAt y1 gp Dp X' bb') (o1 : Only gp y y1) (h2 : RfRd y2 gr Dr X' bb') (o2 : Only gr y1 y2) (hl : X'.length ≤ X.length) : Bth w y2 gp gr Dp Dr X' bb' :=
  ⟨h1.only o2 (Ne.symm h.a1) h.a2, h2, o2.below (o1.below h.below h.b1 h.below.size) h.b2 (Nat.le_trans h.below.size o1.size), Nat.le_trans hl h.len, h.a1, h.a2, h.a3, h.b1, h.b2⟩
theorem Bth.mid {w y y1 : World} {gp gr : Nat} {Dp Dr : Option Nat} {X : List Int} {bb : Bool} (h : Bth w y gp gr Dp Dr X bb) (o1 : Only gp y y1) : RfRd y1 gr Dr X bb := h.rf.only o1 h.a1 h.a3
theorem Bth.old {w y z : World} {gp gr : Nat} {Dp Dr : Option Nat} {X : List Int} {bb : Bool} (h : Bth w y gp gr Dp Dr X bb) (hb : Below y.heap.size y z) : Bth w z gp gr Dp Dr X bb :=
  ⟨h.pr.old hb, h.rf.old hb, h.below.trans (hb.mono h.below.size), h.len, h.a1, h.a2, h.a3, h.b1, h.b2⟩
theorem RfRd.bad {w : World} {g : Nat} {D : Option Nat} {L : List Int} {b : Bool} (h : RfRd w g D L b) : w.cell? ⟨g, 2, none⟩ = some (.bool b) := by
  obtain ⟨p, c, a, B, h1, _⟩ := h.row
  rw [cell_of_row w g 2 _ _ _ h1]
  rfl

set_option maxHeartbeats 1000000 in
set_option maxRecDepth 100000 in
theorem spoilall_any (L : List Int) (n : Nat) (hn : L.length = n) (_hb : Sha.Byt L) (hL : n ≤ 100000) (g : Nat) (w : World) (hg : w.heap[g]? = some (.cells ((mk5 L).map (Value.int .u8)).toArray 5 (0, 0))) :
    Calls Try.prog 18 #[.slice (some ⟨g, 0, none⟩) (n + 5) (n + 5)] w fun r w' => r = .returned (.tuple #[]) ∧ Only g w w' := by
  have hl : (mk5 L).length = n + 5 := by rw [mk5_len, hn]
  exact spoil_cells g (n + 5) (n + 5) _ (mk5 L) hl (by omega) w hg (fun j hj => by
    have h : ((mk5 L).map (Value.int .u8)).toArray[j]? = some (.int .u8 ((mk5 L).getD j 0)) := by
      simp [List.getD_eq_getElem?_getD, hl, hj]
    exact h)
theorem notnil_ptr (a : Addr) (w : World) : (binOp .eql 36 (.pointer (some a)) (.pointer none)).run Try.prog w = .ok (.bool false) w := by kernel_rfl
set_option maxHeartbeats 1000000 in
set_option maxRecDepth 100000 in
theorem reads_big (v : Value) (p : Option Addr) (n c : Nat) (hbig : ¬ n ≤ 65536) (w : World) :
    Calls Try.prog 4 #[.slice p n c, v] w (YesSay w) := by
  have hgt : (n : Int) > 65536 := by omega
  have HK : Hid (∀ y, Calls Try.prog 9 #[] y (YesSay y)) := fun y => known_any y
  go_enter Try.func4, Try.ntmps4
  go_wp2_with (go_at_call 9; refine (HK.out _).mono ?_; rintro e1 w1 ⟨rfl, hb1⟩)
  go_ret
  exact ⟨rfl, hb1⟩
set_option maxHeartbeats 4000000 in
set_option maxRecDepth 100000 in
theorem reads_true (L M : List Int) (p q : Option Addr) (n c d m : Nat) (hn : L.length = n) (hm : M.length = m) (hL : n ≤ 65536) (w : World) (hp : Bs w p c L) (hq : IAt w q M) :
    Calls Try.prog 4 #[.slice p n c, .slice q m d] w (YesSay w) := by
  have HP := Lib.hid hp
  have HQ := Lib.hid hq
  have HM := Lib.hid hm
  have HLT : Hid (∀ y p c, Bs y p c L → Calls Try.prog 10 #[.slice p n c] y (LentN n L y)) := fun y p c hy => lentn_any L n hn (by omega) p c y hy
  have HKB : Hid (∀ y g q d, y.heap[g]? = some (.cells ((mk5 L).map (Value.int .u8)).toArray 5 (0, 0)) → Bs y q d L → Calls Try.prog 19 #[.slice (some ⟨g, 0, none⟩) (n + 5) (n + 5), .slice q n d] y (YesSay y)) := fun y g q d h1 h2 => keptn_any L n hn (by omega) g q d y h1 h2
  have HSA : Hid (∀ y g, y.heap[g]? = some (.cells ((mk5 L).map (Value.int .u8)).toArray 5 (0, 0)) → Calls Try.prog 18 #[.slice (some ⟨g, 0, none⟩) (n + 5) (n + 5)] y fun r y' => r = .returned (.tuple #[]) ∧ Only g y y') := fun y g hy => spoilall_any L n hn hp.bat.1 (by omega) g y hy
  have HLB : Hid (∀ y g, y.heap[g]? = some (.cells ((mk5 L).map (Value.int .u8)).toArray 5 (0, 0)) → Bs y (some ⟨g, 0, none⟩) (n + 5) L) := fun y g hg => by
    have h := lent_bs (by omega) hg hp.bat.1
    rw [hn] at h
    exact h
  have HRP : Hid (∀ y p c, Bs y p c L → Calls Try.prog 20 #[.slice p n c] y (NewSay L y)) := fun y p c hy => read_any L p n c hn (by omega) y hy
  have HRR : Hid (∀ y p c, Bs y p c L → Calls Try.prog 21 #[.slice p n c] y (RfNew L y)) := fun y p c hy => refread_any L p n c hn (by omega) y hy
  have HLL : Hid (L.length ≤ 65536) := by show _ ≤ _; omega
  have HN5 : (n : Int) ≤ ((n + 5 : Nat) : Int) := by omega
  have HK : Hid (∀ y, Calls Try.prog 9 #[] y (YesSay y)) := fun y => known_any y
  have HPK : Hid (∀ (k : Int) (y : World), Calls Try.prog 22 #[.int .i64 k, .int .i64 4] y fun r w' => w' = y ∧ r = .returned (.int .i64 (pk k 4 : Nat))) := fun k y => pick_at k 4 (by omega) (by omega) y
  have HPL : Hid (∀ k, (pk k 4 : Int) < 4) := fun k => pk_lt k 4 (by omega)
  have hnil := fun (a : Addr) (w : World) => notnil_ptr a w
  have hle : ¬ (n : Int) > 65536 := by omega
  clear hn hm hp hq
  go_enter Try.func4, Try.ntmps4
  go_wp2_with (first
    | (go_at_call 9; refine (HK.out _).mono ?_; rintro e15 w15 ⟨rfl, hb15⟩)
    | (go_at_call 18; refine (HSA.out _ _ G4.out).mono ?_; rintro e5 w5 ⟨rfl, ho5⟩; have O5 := Lib.hid ho5; clear ho5)
    | (go_at_call 19; refine (HKB.out _ _ _ _ G3.out (HP.out.old B3.out)).mono ?_; rintro e4 w4 ⟨rfl, hb4⟩; have H4 := Lib.hid hb4; clear hb4; have B4 : Hid (Below w.heap.size w w4) := B3.out.trans (H4.out.mono B3.out.size); have G4 := Lib.hid ((H4.out.block _ (lt_of_block G3.out)).trans G3.out))
    | (go_at_call 21; refine (HRR.out _ _ _ (HP.out.old B2.out)).mono ?_; rintro e3 w3 ⟨gr, Dr, rfl, RF3, RG3, RB3⟩; have B3 : Hid (Below w.heap.size w w3) := B2.out.trans (RB3.out.mono B2.out.size); have G3 := Lib.hid ((RB3.out.block _ (lt_of_block G2.out)).trans G2.out))
    | (go_at_call 20; refine (HRP.out _ _ _ (HLB.out _ _ G1.out)).mono ?_; rintro e2 w2 ⟨gp, Dp, rfl, PR2, PG2, PB2⟩; have B2 : Hid (Below w.heap.size w w2) := HL1.out.trans (PB2.out.mono HL1.out.size); have G2 := Lib.hid ((PB2.out.block _ (lt_of_block G1.out)).trans G1.out))
    | (go_at_call 10; refine (HLT.out _ _ _ HP.out).mono ?_; rintro e1 w1 ⟨g, rfl, HG1, G1, HL1⟩))
  have HB5 : Hid (Bth w w5 gp gr Dp Dr L false) := by
    have l1 := lt_of_block G1.out
    have l2 := lt_of_block G2.out
    have l3 := lt_of_block G3.out
    have g1 := HG1.out
    have s1 := HL1.out.size
    have p1 := PG2.out.1
    have p2 := PR2.out.glt
    have p3 := RG3.out.1
    have pr4 := (PR2.out.old RB3.out).old H4.out
    have rf4 := RF3.out.old H4.out
    refine ⟨pr4.only O5.out (by omega) (fun e => ?_), rf4.only O5.out (by omega) (fun e => ?_), O5.out.below B4.out (by omega) B4.out.size, HLL.out, by omega, fun e => ?_, fun e => ?_, by omega, by omega⟩
    · have h := PG2.out.2 _ e; omega
    · have h := RG3.out.2 _ e; omega
    · have h := PR2.out.lt _ e; omega
    · have h := RG3.out.2 _ e; omega
  have HI5 : Hid (∀ y, Below w.heap.size w y → IAt y q M) := fun y hy => HQ.out.old hy
  clear HLT HKB HSA HLB HRP HRR HLL HN5 O5 H4 B4 G4 RF3 RG3 RB3 B3 G3 PR2 PG2 PB2 B2 G2 HG1 G1 HL1 HP HQ
  go_loopw [8] (fun u8 wr => ∃ k : Nat, k ≤ m ∧ k ≤ 200 ∧ u8 = .int .i64 k ∧ ∃ X bb, Hid (Bth w wr gp gr Dp Dr X bb)) (fun u8 _ => 200 - (intOf u8).toNat)
  case atStart => exact ⟨0, by omega, by omega, rfl, L, false, HB5.out⟩
  case round =>
    clear HB5
    obtain ⟨k, hk, hk2, rfl, X, bb, HB⟩ := hrel
    by_cases hlt : k < m
    · by_cases hl2 : k < 200
      · obtain ⟨ab, ao, hqq, hcs⟩ := HI5.out _ HB.out.below (by rw [HM.out]; omega)
        subst hqq
        have c0 := hcs k (by rw [HM.out]; exact hlt)
        clear hcs
        obtain ⟨x, hx⟩ : ∃ x, M.getD k 0 = x := ⟨_, rfl⟩
        rw [hx] at c0
        clear hx
        have hi0 : (0 : Int) ≤ (k : Int) := by omega
        have hi1 : (k : Int) < (m : Int) := by omega
        have hi2 : (k : Int) < 200 := by omega
        have hj4 := HPL.out x
        have HP1 := Lib.hid (HPK.out x)
        generalize pk x 4 = j at *
        go_upto_region 15 with (go_at_call 22; refine (HP1.out _).mono ?_; rintro e6 w6 ⟨rfl, rfl⟩)
        clear c0 HP1
        have HLE : Hid (X.length ≤ 10000000) := by show _ ≤ _; have := HB.out.len; omega
        obtain rfl | rfl | rfl | rfl : j = 0 ∨ j = 1 ∨ j = 2 ∨ j = 3 := by omega
        · obtain ⟨V, HVV⟩ : ∃ V, Hid (Pk.vb X = V) := ⟨_, rfl⟩
          have HCP : Hid (Calls Try.prog 23 #[.pointer (some ⟨gp, 0, none⟩)] w6 (RdSay (.int .u8 V) (Pk.nx 1 X) (Pk.nb 1 X bb) gp Dp w6)) := by rw [← HVV.out]; exact rbyte_any X bb gp Dp _ rfl HLE.out w6 HB.out.pr
          have HCR : Hid (∀ y, RfRd y gr Dr X bb → Calls Try.prog 24 #[.pointer (some ⟨gr, 0, none⟩)] y (RfSay (.int .u8 V) (Pk.nx 1 X) (Pk.nb 1 X bb) gr Dr y)) := fun y hy => by rw [← HVV.out]; exact fbyte_any X bb gr Dr _ rfl y hy
          have HXN := Lib.hid (Pk.nx_le 1 X)
          generalize Pk.nx 1 X = X1 at *
          generalize Pk.nb 1 X bb = b1 at *
          clear HVV
          go_upto_region 21 with (first
            | (go_at_call 24; refine (HCR.out _ (HB.out.mid O7.out)).mono ?_; rintro e8 w8 ⟨rfl, R8, O8⟩; have HB8 := Lib.hid (HB.out.next R7.out O7.out R8.out O8.out HXN.out))
            | (go_at_call 23; refine HCP.out.mono ?_; rintro e7 w7 ⟨rfl, R7, O7⟩))
          clear HCP HCR R7 O7 R8 O8 HXN HB
          have K0 : Hid (Below w8.heap.size w8 w8.drew) := (Below.refl _ w8).drew
          have HC2 : Hid (∀ y, Below w8.heap.size w8 y → y.cell? ⟨gr, 2, none⟩ = some (.bool b1)) := fun y hy => (HB8.out.rf.old hy).bad
          have C0 : Hid (w8.drew.cell? ⟨gr, 2, none⟩ = some (.bool b1)) := HC2.out _ K0.out
          have HC3 : Hid (∀ y, Below w8.heap.size w8 y → Calls Try.prog 31 #[.pointer (some ⟨gp, 0, none⟩)] y (LeftSay X1 y)) := fun y hy => left_any X1 b1 gp Dp y (HB8.out.pr.old hy)
          have HC4 : Hid (∀ y, Below w8.heap.size w8 y → Calls Try.prog 32 #[.pointer (some ⟨gr, 0, none⟩)] y (LeftSay X1 y)) := fun y hy => refleft_any X1 b1 gr Dr y (HB8.out.rf.old hy)
          have HC5 : Hid (∀ y, Below w8.heap.size w8 y → Calls Try.prog 33 #[.pointer (some ⟨gp, 0, none⟩)] y (BadSay b1 y)) := fun y hy => bad_any X1 b1 gp Dp y (HB8.out.pr.old hy)
          have HC6 : Hid (∀ y, Below w8.heap.size w8 y → Calls Try.prog 34 #[.pointer (some ⟨gp, 0, none⟩)] y (EndSay (Pk.en X1 b1) y)) := fun y hy => end_any X1 b1 gp Dp y (HB8.out.pr.old hy)
          have HC7 : Hid (∀ y, Below w8.heap.size w8 y → Calls Try.prog 35 #[.pointer (some ⟨gr, 0, none⟩)] y (EndSay (Pk.en X1 b1) y)) := fun y hy => refend_any X1 b1 gr Dr y (HB8.out.rf.old hy)
          unfold LeftSay at HC3 HC4
          generalize Pk.en X1 b1 = N1 at *
          generalize X1.length = n1 at *
          go_region_held3 (fun y => y.cell? ⟨gr, 2, none⟩ = some (.bool b1)) (exact (Hid.out (by assumption)))
            ((first
              | (go_at_call 35; refine (HC7.out _ K4.out).mono ?_; rintro e13 w13 ⟨rfl, hb13⟩; have K5 : Hid (Below w8.heap.size w8 w13) := K4.out.trans (hb13.mono K4.out.size); have C5 := Lib.hid (HC2.out _ K5.out); clear hb13)
              | (go_at_call 34; refine (HC6.out _ K3.out).mono ?_; rintro e12 w12 ⟨rfl, hb12⟩; have K4 : Hid (Below w8.heap.size w8 w12) := K3.out.trans (hb12.mono K3.out.size); have C4 := Lib.hid (HC2.out _ K4.out); clear hb12)
              | (go_at_call 33; refine (HC5.out _ K2.out).mono ?_; rintro e11 w11 ⟨rfl, hb11⟩; have K3 : Hid (Below w8.heap.size w8 w11) := K2.out.trans (hb11.mono K2.out.size); have C3 := Lib.hid (HC2.out _ K3.out); clear hb11)
              | (go_at_call 32; refine (HC4.out _ K1.out).mono ?_; rintro e10 w10 ⟨rfl, hb10⟩; have K2 : Hid (Below w8.heap.size w8 w10) := K1.out.trans (hb10.mono K1.out.size); have C2 := Lib.hid (HC2.out _ K2.out); clear hb10)
              | (go_at_call 31; refine (HC3.out _ K0.out).mono ?_; rintro e9 w9 ⟨rfl, hb9⟩; have K1 : Hid (Below w8.heap.size w8 w9) := K0.out.trans (hb9.mono K0.out.size); have C1 := Lib.hid (HC2.out _ K1.out); clear hb9)))
          go_wp2
          exact ⟨⟨k + 1, by omega, by omega, by go_num, X1, b1, HB8.out.old K5.out⟩, by simp [intOf]; omega⟩
        · obtain ⟨V, HVV⟩ : ∃ V, Hid (Pk.vi X = V) := ⟨_, rfl⟩
          have HCP : Hid (Calls Try.prog 25 #[.pointer (some ⟨gp, 0, none⟩)] w6 (RdSay (.int .i64 V) (Pk.nx 8 X) (Pk.nb 8 X bb) gp Dp w6)) := by rw [← HVV.out]; exact rint_any X bb gp Dp _ rfl HLE.out w6 HB.out.pr
          have HCR : Hid (∀ y, RfRd y gr Dr X bb → Calls Try.prog 26 #[.pointer (some ⟨gr, 0, none⟩)] y (RfSay (.int .i64 V) (Pk.nx 8 X) (Pk.nb 8 X bb) gr Dr y)) := fun y hy => by rw [← HVV.out]; exact fint_any X bb gr Dr _ rfl y hy
          have HXN := Lib.hid (Pk.nx_le 8 X)
          generalize Pk.nx 8 X = X1 at *
          generalize Pk.nb 8 X bb = b1 at *
          clear HVV
          go_upto_region 21 with (first
            | (go_at_call 26; refine (HCR.out _ (HB.out.mid O7.out)).mono ?_; rintro e8 w8 ⟨rfl, R8, O8⟩; have HB8 := Lib.hid (HB.out.next R7.out O7.out R8.out O8.out HXN.out))
            | (go_at_call 25; refine HCP.out.mono ?_; rintro e7 w7 ⟨rfl, R7, O7⟩))
          clear HCP HCR R7 O7 R8 O8 HXN HB
          have K0 : Hid (Below w8.heap.size w8 w8.drew) := (Below.refl _ w8).drew
          have HC2 : Hid (∀ y, Below w8.heap.size w8 y → y.cell? ⟨gr, 2, none⟩ = some (.bool b1)) := fun y hy => (HB8.out.rf.old hy).bad
          have C0 : Hid (w8.drew.cell? ⟨gr, 2, none⟩ = some (.bool b1)) := HC2.out _ K0.out
          have HC3 : Hid (∀ y, Below w8.heap.size w8 y → Calls Try.prog 31 #[.pointer (some ⟨gp, 0, none⟩)] y (LeftSay X1 y)) := fun y hy => left_any X1 b1 gp Dp y (HB8.out.pr.old hy)
          have HC4 : Hid (∀ y, Below w8.heap.size w8 y → Calls Try.prog 32 #[.pointer (some ⟨gr, 0, none⟩)] y (LeftSay X1 y)) := fun y hy => refleft_any X1 b1 gr Dr y (HB8.out.rf.old hy)
          have HC5 : Hid (∀ y, Below w8.heap.size w8 y → Calls Try.prog 33 #[.pointer (some ⟨gp, 0, none⟩)] y (BadSay b1 y)) := fun y hy => bad_any X1 b1 gp Dp y (HB8.out.pr.old hy)
          have HC6 : Hid (∀ y, Below w8.heap.size w8 y → Calls Try.prog 34 #[.pointer (some ⟨gp, 0, none⟩)] y (EndSay (Pk.en X1 b1) y)) := fun y hy => end_any X1 b1 gp Dp y (HB8.out.pr.old hy)
          have HC7 : Hid (∀ y, Below w8.heap.size w8 y → Calls Try.prog 35 #[.pointer (some ⟨gr, 0, none⟩)] y (EndSay (Pk.en X1 b1) y)) := fun y hy => refend_any X1 b1 gr Dr y (HB8.out.rf.old hy)
          unfold LeftSay at HC3 HC4
          generalize Pk.en X1 b1 = N1 at *
          generalize X1.length = n1 at *
          go_region_held3 (fun y => y.cell? ⟨gr, 2, none⟩ = some (.bool b1)) (exact (Hid.out (by assumption)))
            ((first
              | (go_at_call 35; refine (HC7.out _ K4.out).mono ?_; rintro e13 w13 ⟨rfl, hb13⟩; have K5 : Hid (Below w8.heap.size w8 w13) := K4.out.trans (hb13.mono K4.out.size); have C5 := Lib.hid (HC2.out _ K5.out); clear hb13)
              | (go_at_call 34; refine (HC6.out _ K3.out).mono ?_; rintro e12 w12 ⟨rfl, hb12⟩; have K4 : Hid (Below w8.heap.size w8 w12) := K3.out.trans (hb12.mono K3.out.size); have C4 := Lib.hid (HC2.out _ K4.out); clear hb12)
              | (go_at_call 33; refine (HC5.out _ K2.out).mono ?_; rintro e11 w11 ⟨rfl, hb11⟩; have K3 : Hid (Below w8.heap.size w8 w11) := K2.out.trans (hb11.mono K2.out.size); have C3 := Lib.hid (HC2.out _ K3.out); clear hb11)
              | (go_at_call 32; refine (HC4.out _ K1.out).mono ?_; rintro e10 w10 ⟨rfl, hb10⟩; have K2 : Hid (Below w8.heap.size w8 w10) := K1.out.trans (hb10.mono K1.out.size); have C2 := Lib.hid (HC2.out _ K2.out); clear hb10)
              | (go_at_call 31; refine (HC3.out _ K0.out).mono ?_; rintro e9 w9 ⟨rfl, hb9⟩; have K1 : Hid (Below w8.heap.size w8 w9) := K0.out.trans (hb9.mono K0.out.size); have C1 := Lib.hid (HC2.out _ K1.out); clear hb9)))
          go_wp2
          exact ⟨⟨k + 1, by omega, by omega, by go_num, X1, b1, HB8.out.old K5.out⟩, by simp [intOf]; omega⟩
        · obtain ⟨V, HVV, _, _⟩ : ∃ V : Array Value, Hid (A32 (Pk.vs X) = .agg V) ∧ _ ∧ _ := a32_agg _ (Pk.vs_len X)
          have HEQ : ∀ y, (Op.equalIn 10000 24 (.agg V) (.agg V)).run Try.prog y = .ok true y := fun y => by
            have h := a32_eq (Pk.vs X) (Pk.vs X) (Pk.vs_len X) (Pk.vs_len X) y
            rw [decide_eq_true rfl, HVV.out] at h
            exact h
          have HCP : Hid (Calls Try.prog 27 #[.pointer (some ⟨gp, 0, none⟩)] w6 (RdSay (.agg V) (Pk.nx 32 X) (Pk.nb 32 X bb) gp Dp w6)) := by rw [← HVV.out]; exact rsum_any X bb gp Dp _ rfl HLE.out w6 HB.out.pr
          have HCR : Hid (∀ y, RfRd y gr Dr X bb → Calls Try.prog 28 #[.pointer (some ⟨gr, 0, none⟩)] y (RfSay (.agg V) (Pk.nx 32 X) (Pk.nb 32 X bb) gr Dr y)) := fun y hy => by rw [← HVV.out]; exact fsum_any X bb gr Dr _ rfl y hy
          have HXN := Lib.hid (Pk.nx_le 32 X)
          generalize Pk.nx 32 X = X1 at *
          generalize Pk.nb 32 X bb = b1 at *
          clear HVV
          go_upto_region 21 with (first
            | (go_at_call 28; refine (HCR.out _ (HB.out.mid O7.out)).mono ?_; rintro e8 w8 ⟨rfl, R8, O8⟩; have HB8 := Lib.hid (HB.out.next R7.out O7.out R8.out O8.out HXN.out))
            | (go_at_call 27; refine HCP.out.mono ?_; rintro e7 w7 ⟨rfl, R7, O7⟩))
          clear HCP HCR R7 O7 R8 O8 HXN HB
          have K0 : Hid (Below w8.heap.size w8 w8.drew) := (Below.refl _ w8).drew
          have HC2 : Hid (∀ y, Below w8.heap.size w8 y → y.cell? ⟨gr, 2, none⟩ = some (.bool b1)) := fun y hy => (HB8.out.rf.old hy).bad
          have C0 : Hid (w8.drew.cell? ⟨gr, 2, none⟩ = some (.bool b1)) := HC2.out _ K0.out
          have HC3 : Hid (∀ y, Below w8.heap.size w8 y → Calls Try.prog 31 #[.pointer (some ⟨gp, 0, none⟩)] y (LeftSay X1 y)) := fun y hy => left_any X1 b1 gp Dp y (HB8.out.pr.old hy)
          have HC4 : Hid (∀ y, Below w8.heap.size w8 y → Calls Try.prog 32 #[.pointer (some ⟨gr, 0, none⟩)] y (LeftSay X1 y)) := fun y hy => refleft_any X1 b1 gr Dr y (HB8.out.rf.old hy)
          have HC5 : Hid (∀ y, Below w8.heap.size w8 y → Calls Try.prog 33 #[.pointer (some ⟨gp, 0, none⟩)] y (BadSay b1 y)) := fun y hy => bad_any X1 b1 gp Dp y (HB8.out.pr.old hy)
          have HC6 : Hid (∀ y, Below w8.heap.size w8 y → Calls Try.prog 34 #[.pointer (some ⟨gp, 0, none⟩)] y (EndSay (Pk.en X1 b1) y)) := fun y hy => end_any X1 b1 gp Dp y (HB8.out.pr.old hy)
          have HC7 : Hid (∀ y, Below w8.heap.size w8 y → Calls Try.prog 35 #[.pointer (some ⟨gr, 0, none⟩)] y (EndSay (Pk.en X1 b1) y)) := fun y hy => refend_any X1 b1 gr Dr y (HB8.out.rf.old hy)
          unfold LeftSay at HC3 HC4
          generalize Pk.en X1 b1 = N1 at *
          generalize X1.length = n1 at *
          go_region_held3 (fun y => y.cell? ⟨gr, 2, none⟩ = some (.bool b1)) (exact (Hid.out (by assumption)))
            ((first
              | (go_at_call 35; refine (HC7.out _ K4.out).mono ?_; rintro e13 w13 ⟨rfl, hb13⟩; have K5 : Hid (Below w8.heap.size w8 w13) := K4.out.trans (hb13.mono K4.out.size); have C5 := Lib.hid (HC2.out _ K5.out); clear hb13)
              | (go_at_call 34; refine (HC6.out _ K3.out).mono ?_; rintro e12 w12 ⟨rfl, hb12⟩; have K4 : Hid (Below w8.heap.size w8 w12) := K3.out.trans (hb12.mono K3.out.size); have C4 := Lib.hid (HC2.out _ K4.out); clear hb12)
              | (go_at_call 33; refine (HC5.out _ K2.out).mono ?_; rintro e11 w11 ⟨rfl, hb11⟩; have K3 : Hid (Below w8.heap.size w8 w11) := K2.out.trans (hb11.mono K2.out.size); have C3 := Lib.hid (HC2.out _ K3.out); clear hb11)
              | (go_at_call 32; refine (HC4.out _ K1.out).mono ?_; rintro e10 w10 ⟨rfl, hb10⟩; have K2 : Hid (Below w8.heap.size w8 w10) := K1.out.trans (hb10.mono K1.out.size); have C2 := Lib.hid (HC2.out _ K2.out); clear hb10)
              | (go_at_call 31; refine (HC3.out _ K0.out).mono ?_; rintro e9 w9 ⟨rfl, hb9⟩; have K1 : Hid (Below w8.heap.size w8 w9) := K0.out.trans (hb9.mono K0.out.size); have C1 := Lib.hid (HC2.out _ K1.out); clear hb9)))
          go_wp2
          exact ⟨⟨k + 1, by omega, by omega, by go_num, X1, b1, HB8.out.old K5.out⟩, by simp [intOf]; omega⟩
        · obtain ⟨V, HVV, _, _⟩ : ∃ V : Array Value, Hid (R33 (Pk.vr X) = .agg V) ∧ _ ∧ _ := r33_agg _ (Pk.vr_len X)
          have HEQ : ∀ y, (Op.equalIn 10000 26 (.agg V) (.agg V)).run Try.prog y = .ok true y := fun y => by
            have h := r33_eqs (Pk.vr X) (Pk.vr X) (Pk.vr_len X) (Pk.vr_len X) y
            rw [decide_eq_true rfl, HVV.out] at h
            exact h
          have HCP : Hid (Calls Try.prog 29 #[.pointer (some ⟨gp, 0, none⟩)] w6 (RdSay (.agg V) (Pk.nx 40 X) (Pk.nb 40 X bb) gp Dp w6)) := by rw [← HVV.out]; exact rref_any X bb gp Dp _ rfl HLE.out w6 HB.out.pr
          have HCR : Hid (∀ y, RfRd y gr Dr X bb → Calls Try.prog 30 #[.pointer (some ⟨gr, 0, none⟩)] y (RfSay (.agg V) (Pk.nx 40 X) (Pk.nb 40 X bb) gr Dr y)) := fun y hy => by rw [← HVV.out]; exact fref_any X bb gr Dr _ rfl y hy
          have HXN := Lib.hid (Pk.nx_le 40 X)
          generalize Pk.nx 40 X = X1 at *
          generalize Pk.nb 40 X bb = b1 at *
          clear HVV
          go_upto_region 21 with (first
            | (go_at_call 30; refine (HCR.out _ (HB.out.mid O7.out)).mono ?_; rintro e8 w8 ⟨rfl, R8, O8⟩; have HB8 := Lib.hid (HB.out.next R7.out O7.out R8.out O8.out HXN.out))
            | (go_at_call 29; refine HCP.out.mono ?_; rintro e7 w7 ⟨rfl, R7, O7⟩))
          clear HCP HCR R7 O7 R8 O8 HXN HB
          have K0 : Hid (Below w8.heap.size w8 w8.drew) := (Below.refl _ w8).drew
          have HC2 : Hid (∀ y, Below w8.heap.size w8 y → y.cell? ⟨gr, 2, none⟩ = some (.bool b1)) := fun y hy => (HB8.out.rf.old hy).bad
          have C0 : Hid (w8.drew.cell? ⟨gr, 2, none⟩ = some (.bool b1)) := HC2.out _ K0.out
          have HC3 : Hid (∀ y, Below w8.heap.size w8 y → Calls Try.prog 31 #[.pointer (some ⟨gp, 0, none⟩)] y (LeftSay X1 y)) := fun y hy => left_any X1 b1 gp Dp y (HB8.out.pr.old hy)
          have HC4 : Hid (∀ y, Below w8.heap.size w8 y → Calls Try.prog 32 #[.pointer (some ⟨gr, 0, none⟩)] y (LeftSay X1 y)) := fun y hy => refleft_any X1 b1 gr Dr y (HB8.out.rf.old hy)
          have HC5 : Hid (∀ y, Below w8.heap.size w8 y → Calls Try.prog 33 #[.pointer (some ⟨gp, 0, none⟩)] y (BadSay b1 y)) := fun y hy => bad_any X1 b1 gp Dp y (HB8.out.pr.old hy)
          have HC6 : Hid (∀ y, Below w8.heap.size w8 y → Calls Try.prog 34 #[.pointer (some ⟨gp, 0, none⟩)] y (EndSay (Pk.en X1 b1) y)) := fun y hy => end_any X1 b1 gp Dp y (HB8.out.pr.old hy)
          have HC7 : Hid (∀ y, Below w8.heap.size w8 y → Calls Try.prog 35 #[.pointer (some ⟨gr, 0, none⟩)] y (EndSay (Pk.en X1 b1) y)) := fun y hy => refend_any X1 b1 gr Dr y (HB8.out.rf.old hy)
          unfold LeftSay at HC3 HC4
          generalize Pk.en X1 b1 = N1 at *
          generalize X1.length = n1 at *
          go_region_held3 (fun y => y.cell? ⟨gr, 2, none⟩ = some (.bool b1)) (exact (Hid.out (by assumption)))
            ((first
              | (go_at_call 35; refine (HC7.out _ K4.out).mono ?_; rintro e13 w13 ⟨rfl, hb13⟩; have K5 : Hid (Below w8.heap.size w8 w13) := K4.out.trans (hb13.mono K4.out.size); have C5 := Lib.hid (HC2.out _ K5.out); clear hb13)
              | (go_at_call 34; refine (HC6.out _ K3.out).mono ?_; rintro e12 w12 ⟨rfl, hb12⟩; have K4 : Hid (Below w8.heap.size w8 w12) := K3.out.trans (hb12.mono K3.out.size); have C4 := Lib.hid (HC2.out _ K4.out); clear hb12)
              | (go_at_call 33; refine (HC5.out _ K2.out).mono ?_; rintro e11 w11 ⟨rfl, hb11⟩; have K3 : Hid (Below w8.heap.size w8 w11) := K2.out.trans (hb11.mono K2.out.size); have C3 := Lib.hid (HC2.out _ K3.out); clear hb11)
              | (go_at_call 32; refine (HC4.out _ K1.out).mono ?_; rintro e10 w10 ⟨rfl, hb10⟩; have K2 : Hid (Below w8.heap.size w8 w10) := K1.out.trans (hb10.mono K1.out.size); have C2 := Lib.hid (HC2.out _ K2.out); clear hb10)
              | (go_at_call 31; refine (HC3.out _ K0.out).mono ?_; rintro e9 w9 ⟨rfl, hb9⟩; have K1 : Hid (Below w8.heap.size w8 w9) := K0.out.trans (hb9.mono K0.out.size); have C1 := Lib.hid (HC2.out _ K1.out); clear hb9)))
          go_wp2
          exact ⟨⟨k + 1, by omega, by omega, by go_num, X1, b1, HB8.out.old K5.out⟩, by simp [intOf]; omega⟩
      · obtain rfl : k = 200 := by omega
        have hi1 : (200 : Int) < (m : Int) := by omega
        have hb := HB.out.below
        clear hlt hl2
        go_wp2_with (go_at_call 9; refine (HK.out _).mono ?_; rintro e15 w15 ⟨rfl, hb15⟩)
        go_ret
        exact ⟨rfl, hb.trans (hb15.mono hb.size)⟩
    · obtain rfl : k = m := by omega
      have hi1 : ¬ (k : Int) < (k : Int) := by omega
      have hb := HB.out.below
      clear hlt
      go_wp2_with (go_at_call 9; refine (HK.out _).mono ?_; rintro e15 w15 ⟨rfl, hb15⟩)
      go_ret
      exact ⟨rfl, hb.trans (hb15.mono hb.size)⟩
theorem reads_any (L M : List Int) (p q : Option Addr) (c d : Nat) (w : World) (hp : Bs w p c L) (hq : IAt w q M) :
    Calls Try.prog 4 #[.slice p L.length c, .slice q M.length d] w (YesSay w) := by
  by_cases h : L.length ≤ 65536
  · exact reads_true L M p q L.length c d M.length rfl rfl h w hp hq
  · exact reads_big (.slice q M.length d) p L.length c h w
end Go.Proofs.Ytlgnlilfagjejaa

/-
  The law SectorPuts walked.
-/
import Derived.Test.YtkjfhbmdogmecaaGreatDoorScW1
namespace Go.Proofs.YtkjfhbmdogmecaaGreatDoor
open Go.RowKit

/-- A kind and a place in memory. -/
def AO (k a : Int) : Obj := .cells #[.int .i64 k, .int .i64 a] 26
structure AAt (w : World) (g : Nat) (k a : Int) : Prop where
  row : w.heap[g]? = some (AO k a)
section
variable {w x : World} {g : Nat} {k a : Int}
theorem AAt.c0 (h : AAt w g k a) : w.cell? ⟨g, 0, none⟩ = some (.int .i64 k) := by rw [cell_of_row w g 0 _ _ _ h.row]; rfl
theorem AAt.c1 (h : AAt w g k a) : w.cell? ⟨g, 1, none⟩ = some (.int .i64 a) := by rw [cell_of_row w g 1 _ _ _ h.row]; rfl
theorem AAt.old (h : AAt w g k a) (hb : Below w.heap.size w x) : AAt x g k a := ⟨(hb.block _ (Array.getElem?_eq_some_iff.1 h.row).1).trans h.row⟩
theorem AAt.new (w : World) (k a : Int) : AAt (w.alloc (AO k a)) w.heap.size k a := ⟨heap_alloc_new w _⟩
end

section
variable {P : Program} {md : Region.Mode} {ops : Array Oper} {Q : Exit → Act → World → Prop} {S : World → Prop}
theorem anyH_two (i j : Nat) {fuel : Nat} {listed : Array Bool} {a : Act} {w : World} (hr : Region.ready md ops listed = [i, j])
    (h : wpOp P ops Q i (fun a' w' => S w' ∧ wpAnyH P md ops Q S fuel (listed.setIfInBounds i true) a' w') a w) (h2 : wpOp P ops Q j (fun a' w' => S w' ∧ wpAnyH P md ops Q S fuel (listed.setIfInBounds j true) a' w') a w) : wpAnyH P md ops Q S (fuel + 1) listed a w :=
  ⟨fun h0 => absurd (hr ▸ h0) (by simp), fun k hk => by
    rw [hr] at hk
    simp at hk
    rcases hk with rfl | rfl
    · exact h
    · exact h2⟩
end
theorem gt_len {K : List Int} {k a : Int} {b : List Int} (hb : Sha.Byt b) : (Sc.gt (Seal.op K) k a b).2.L.length ≤ b.length := by
  by_cases h : (Sc.gt (Seal.op K) k a b).1 = 0
  · obtain ⟨h0, R, hR, he⟩ := Sc.gt_good h
    rw [he]
    have ho := (Seal.sl_op (fun x hx => hb x (List.mem_of_mem_drop hx)) hR).2
    rw [List.length_drop] at ho
    show R.length ≤ b.length
    omega
  · rw [Sc.gt_zero h]
    exact Nat.zero_le _
theorem pt_len (K : List Int) (s : Sc.S) : (Sc.pt (Seal.sl K) s).2.length ≤ 49 + s.L.length := by
  by_cases h : Sc.ers s = 0
  · rw [Sc.box_put_len K h]; exact Nat.le_refl _
  · rw [Sc.pt_no h]; exact Nat.zero_le _
theorem pt_byt (K : List Int) (s : Sc.S) : Sha.Byt (Sc.pt (Seal.sl K) s).2 := by
  by_cases h : Sc.ers s = 0
  · rw [Sc.pt_ok h]
    have hk := Sc.isK_iff.1 (Sc.ers_parts h).1
    exact Sha.byt_append (Sc.fr_byt (by omega) _ _) (Seal.sl_byt _ _ _ _ _)
  · rw [Sc.pt_no h]; intro x hx; simp at hx
/-- What Put, what Get answers, in letters. -/
def PutX (e : Int) (L : List Int) (w : World) (r : Ending) (w' : World) : Prop := ∃ u m d, r = .returned (.tuple #[.slice u m d, .int .i64 e]) ∧ L.length = m ∧ Hid (w'.ownsRow w.heap.size 5 1 (.slice u m d) m (U8s L)) ∧ Hid (Bs w' u d L) ∧ Hid (Below w.heap.size w w')
theorem putx_of {e : Int} {L : List Int} {w w' : World} {r : Ending} (h : LPut (e, L) w (Below w.heap.size w) r w') : PutX e L w r w' := h
def GetX (e : Int) (s : Sc.S) (w : World) (r : Ending) (w' : World) : Prop := ∃ u m d, r = .returned (.tuple #[Sv s u m d, .int .i64 e]) ∧ s.L.length = m ∧ Hid (w'.ownsRow w.heap.size 5 1 (.slice u m d) m (U8s s.L)) ∧ Hid (Bs w' u d s.L) ∧ Hid (Below w.heap.size w w')
theorem getx_of {e : Int} {s : Sc.S} {w w' : World} {r : Ending} (h : LGet (e, s) w r w') : GetX e s w r w' := h
set_option maxHeartbeats 8000000 in
set_option maxRecDepth 100000 in
theorem puts_any (hT : TakeSaid) (K : List Int) (s : Sc.S) (b : List Int) (k a : Int) (p0 p1 p3 : Option Addr) (n0 m1 n3 c0 c1 c3 : Nat) (hn0 : K.length = n0) (hm1 : s.L.length = m1) (hn3 : b.length = n3) (w : World) (h0 : Bs w p0 c0 K) (h1 : Bs w p1 c1 s.L) (h3 : Bs w p3 c3 b) (ht : Tab w 0) (htk : Tab w 1) :
    Calls Tryz.prog 3 #[.slice p0 n0 c0, Sv s p1 m1 c1, .agg #[.int .i64 k, .int .i64 a], .slice p3 n3 c3] w (YesSay w) := by
  have Ht := Lib.hid ht; clear ht
  have Htk := Lib.hid htk; clear htk
  have B0 : Hid (Below w.heap.size w ((w.alloc (SO s.k s.e s.n s.a p1 m1 c1)).alloc (AO k a))) := ((Below.refl _ w).alloc (Nat.le_refl _) _).alloc (by simp) _
  have HA : Hid (∀ y, Below ((w.alloc (SO s.k s.e s.n s.a p1 m1 c1)).alloc (AO k a)).heap.size ((w.alloc (SO s.k s.e s.n s.a p1 m1 c1)).alloc (AO k a)) y → SAt y w.heap.size s.k s.e s.n s.a p1 m1 c1 ∧ AAt y (w.heap.size + 1) k a) := fun y hy => by
    have h := AAt.new (w.alloc (SO s.k s.e s.n s.a p1 m1 c1)) k a
    rw [show (w.alloc (SO s.k s.e s.n s.a p1 m1 c1)).heap.size = w.heap.size + 1 by simp] at h
    exact ⟨((SAt.new w s.k s.e s.n s.a p1 m1 c1).old ((Below.refl _ _).alloc (Nat.le_refl _) _)).old hy, h.old hy⟩
  have HKN : Hid (∀ x, Below w.heap.size w x → Calls Tryz.prog 4 #[] x (YesSay x)) := fun x hx => known_any hT x (Ht.out.below hx Ht.out.lt)
  obtain ⟨w0, hw0⟩ : ∃ x, x = (w.alloc (SO s.k s.e s.n s.a p1 m1 c1)).alloc (AO k a) := ⟨_, rfl⟩
  rw [← hw0] at B0 HA
  obtain ⟨x0, x1, x2, x3, x4⟩ := (HA.out _ (Below.refl _ _)).1.all
  by_cases hl0 : (n0 : Int) > 4096
  · go_enter Tryz.func3, Tryz.ntmps3
    go_upto_region 1 with (fail)
    change Code.wp _ _ _ _ ((w.alloc (SO s.k s.e s.n s.a p1 m1 c1)).alloc (AO k a))
    rw [← hw0]
    clear hw0
    go_wp2_with (go_at_call 4; refine (HKN.out _ B0.out).mono ?_; rintro e1 w1 ⟨rfl, hb1⟩)
    go_ret
    exact ⟨rfl, B0.out.trans (hb1.mono B0.out.size)⟩
  by_cases hl1 : (m1 : Int) > 4096
  · go_enter Tryz.func3, Tryz.ntmps3
    go_upto_region 1 with (fail)
    change Code.wp _ _ _ _ ((w.alloc (SO s.k s.e s.n s.a p1 m1 c1)).alloc (AO k a))
    rw [← hw0]
    clear hw0
    go_wp2_with (go_at_call 4; refine (HKN.out _ B0.out).mono ?_; rintro e1 w1 ⟨rfl, hb1⟩)
    go_ret
    exact ⟨rfl, B0.out.trans (hb1.mono B0.out.size)⟩
  by_cases hl3 : (n3 : Int) > 4096
  · go_enter Tryz.func3, Tryz.ntmps3
    go_upto_region 1 with (fail)
    change Code.wp _ _ _ _ ((w.alloc (SO s.k s.e s.n s.a p1 m1 c1)).alloc (AO k a))
    rw [← hw0]
    clear hw0
    go_wp2_with (go_at_call 4; refine (HKN.out _ B0.out).mono ?_; rintro e1 w1 ⟨rfl, hb1⟩)
    go_ret
    exact ⟨rfl, B0.out.trans (hb1.mono B0.out.size)⟩
  have HNB : Hid (∀ x, Below w.heap.size w x → Calls Tryz.prog 5 #[.slice p0 n0 c0] x (NewBox K x)) := fun x hx => newbox_any hT K p0 n0 c0 hn0 (by omega) x (h0.old hx) (Ht.out.below hx Ht.out.lt)
  have HNC : Hid (∀ x, Below w.heap.size w x → Calls Tryz.prog 6 #[.slice p0 n0 c0] x (NewCr K x)) := fun x hx => boxed_any K p0 n0 c0 hn0 (by omega) x (h0.old hx) (Htk.out.below hx Htk.out.lt)
  have HL1 : Hid (∀ x, Below w.heap.size w x → Calls Tryz.prog 7 #[.slice p1 m1 c1] x (LentSay s.L x)) := fun x hx => by rw [← hm1]; exact lent_any s.L p1 c1 x (h1.old hx).bat (by omega)
  have HL3 : Hid (∀ x, Below w.heap.size w x → Calls Tryz.prog 7 #[.slice p3 n3 c3] x (LentSay b x)) := fun x hx => by rw [← hn3]; exact lent_any b p3 c3 x (h3.old hx).bat (by omega)
  have m5 : (m1 : Int) ≤ (m1 : Int) + 5 := by omega
  have n5 : (n3 : Int) ≤ (n3 : Int) + 5 := by omega
  go_enter Tryz.func3, Tryz.ntmps3
  go_upto_region 1 with (fail)
  change Code.wp _ _ _ _ ((w.alloc (SO s.k s.e s.n s.a p1 m1 c1)).alloc (AO k a))
  rw [← hw0]
  clear hw0
  go_upto_region 6 with (first
    | (go_at_call 5; refine (HNB.out _ B0.out).mono ?_; rintro e1 w1 ⟨gx, rfl, G1, b1⟩; have B1 : Hid (Below w0.heap.size w0 w1) := Lib.hid b1; clear b1; have W1 : Hid (Below w.heap.size w w1) := B0.out.trans (B1.out.mono B0.out.size))
    | (go_at_call 6; refine (HNC.out _ W1.out).mono ?_; rintro e2 w2 ⟨gm, rfl, G2, b2⟩; have B2 : Hid (Below w1.heap.size w1 w2) := Lib.hid b2; clear b2; have B02 : Hid (Below w0.heap.size w0 w2) := B1.out.trans (B2.out.mono B1.out.size); have W2 : Hid (Below w.heap.size w w2) := B0.out.trans (B02.out.mono B0.out.size); obtain ⟨x0, x1, x2, x3, x4⟩ := (HA.out _ B02.out).1.all))
  change Code.wp _ _ _ _ (w2.alloc (SO s.k s.e s.n s.a p1 m1 c1))
  have B3 : Hid (Below w2.heap.size w2 (w2.alloc (SO s.k s.e s.n s.a p1 m1 c1))) := (Below.refl _ w2).alloc (Nat.le_refl _) _
  have S3 : Hid (SAt (w2.alloc (SO s.k s.e s.n s.a p1 m1 c1)) w2.heap.size s.k s.e s.n s.a p1 m1 c1) := SAt.new w2 _ _ _ _ _ _ _
  obtain ⟨G, hG⟩ : ∃ x, x = w2.heap.size := ⟨_, rfl⟩
  obtain ⟨w3, hw3⟩ : ∃ x, x = w2.alloc (SO s.k s.e s.n s.a p1 m1 c1) := ⟨_, rfl⟩
  have LG : Hid (w2.heap.size ≤ G) := by rw [hG]; exact Nat.le_refl _
  rw [← hw3] at B3 S3 ⊢
  rw [← hG] at S3 ⊢
  clear hw3 hG x0 x1 x2 x3 x4
  have W3 : Hid (Below w.heap.size w w3) := W2.out.trans (B3.out.mono W2.out.size)
  have B03 : Hid (Below w0.heap.size w0 w3) := B02.out.trans (B3.out.mono B02.out.size)
  have x4 := (HA.out _ B03.out).1.c4
  go_upto_region 7 with (go_at_call 7; refine (HL1.out _ W3.out).mono ?_; rintro e4 w4 ⟨gs, rfl, L4, R4, b4⟩; have B4 : Hid (Below w3.heap.size w3 w4) := Lib.hid b4; clear b4)
  have B04 : Hid (Below w0.heap.size w0 w4) := B03.out.trans (B4.out.mono B03.out.size)
  have S4 : Hid (SAt w4 G s.k s.e s.n s.a p1 m1 c1) := S3.out.old B4.out
  clear x4
  have x4 := (HA.out _ B04.out).1.c4
  obtain ⟨y0, y1, y2, y3, y4⟩ := S4.out.all
  obtain ⟨f0, f1, f2, f3, f4⟩ := S4.out.fro
  have q5 : ((m1 + 5 : Nat) : Int) = (m1 : Int) + 5 := by omega
  have q6 : ((n3 + 5 : Nat) : Int) = (n3 : Int) + 5 := by omega
  go_upto_region 8 with (fail)
  change Code.wp _ _ _ _ (w4.setCell ⟨G, 4, none⟩ (.slice (some ⟨gs, 0, none⟩) m1 (m1 + 5)))
  have B24 : Hid (Below w2.heap.size w2 w4) := B3.out.trans (B4.out.mono B3.out.size)
  have B25 : Hid (Below w2.heap.size w2 (w4.setCell ⟨G, 4, none⟩ (.slice (some ⟨gs, 0, none⟩) m1 (m1 + 5)))) := (Chg.setCell w4 ⟨G, 4, none⟩ _).below B24.out LG.out
  have S5 : Hid (SAt (w4.setCell ⟨G, 4, none⟩ (.slice (some ⟨gs, 0, none⟩) m1 (m1 + 5))) G s.k s.e s.n s.a (some ⟨gs, 0, none⟩) m1 (m1 + 5)) := S4.out.set4
  have R5 : Hid ((w4.setCell ⟨G, 4, none⟩ (.slice (some ⟨gs, 0, none⟩) m1 (m1 + 5))).heap[gs]? = some (.cells ((mk5 s.L).map (Value.int .u8)).toArray 5 (0, 0))) := ((Chg.setCell w4 ⟨G, 4, none⟩ _).block gs (by have h1 := S3.out.lt; show gs ≠ G; omega)).trans R4
  obtain ⟨w5, hw5⟩ : ∃ x, x = w4.setCell ⟨G, 4, none⟩ (.slice (some ⟨gs, 0, none⟩) m1 (m1 + 5)) := ⟨_, rfl⟩
  rw [← hw5] at B25 S5 R5 ⊢
  clear hw5 x4 y0 y1 y2 y3 y4 f0 f1 f2 f3 f4 R4
  have W5 : Hid (Below w.heap.size w w5) := W2.out.trans (B25.out.mono W2.out.size)
  go_upto_region 9 with (go_at_call 7; refine (HL3.out _ W5.out).mono ?_; rintro e6 wA ⟨gb, rfl, LA6, RA, b6⟩; have B6 : Hid (Below w5.heap.size w5 wA) := Lib.hid b6; clear b6)
  have RA := Lib.hid RA
  have WA : Hid (Below w.heap.size w wA) := W5.out.trans (B6.out.mono W5.out.size)
  have B2A : Hid (Below w2.heap.size w2 wA) := B25.out.trans (B6.out.mono B25.out.size)
  have B1A : Hid (Below w1.heap.size w1 wA) := B2.out.trans (B2A.out.mono B2.out.size)
  have B0A : Hid (Below w0.heap.size w0 wA) := B1.out.trans (B1A.out.mono B1.out.size)
  have HF : Hid (∀ y, Below wA.heap.size wA y → SAt y w.heap.size s.k s.e s.n s.a p1 m1 c1 ∧ AAt y (w.heap.size + 1) k a) := fun y hy => HA.out y (B0A.out.trans (hy.mono B0A.out.size))
  have HSG : Hid (∀ y, Below wA.heap.size wA y → SAt y G s.k s.e s.n s.a (some ⟨gs, 0, none⟩) m1 (m1 + 5)) := fun y hy => (S5.out.old B6.out).old hy
  have RS : Hid (wA.heap[gs]? = some (.cells ((mk5 s.L).map (Value.int .u8)).toArray 5 (0, 0))) := (B6.out.block _ (lt_of_block R5.out)).trans R5.out
  have HWY : Hid (∀ y, Below wA.heap.size wA y → Below w.heap.size w y) := fun y hy => WA.out.trans (hy.mono WA.out.size)
  have HBX : Hid (∀ y, Below wA.heap.size wA y → BoxAt y gx K) := fun y hy => G1.out.old (B1A.out.trans (hy.mono B1A.out.size))
  have HCR : Hid (∀ y, Below wA.heap.size wA y → CrAt w1.heap.size y gm K) := fun y hy => G2.out.old (B2A.out.trans (hy.mono B2A.out.size))
  have HBS : Hid (∀ y, Below wA.heap.size wA y → Bs y (some ⟨gs, 0, none⟩) (m1 + 5) s.L) := fun y hy => by have h := lent_bs (by omega) RS.out h1.bat.1; rw [hm1] at h; exact h.old hy
  have HBB : Hid (∀ y, Below wA.heap.size wA y → Bs y (some ⟨gb, 0, none⟩) (n3 + 5) b) := fun y hy => by have h := lent_bs (by omega) RA.out h3.bat.1; rw [hn3] at h; exact h.old hy
  have HTB : Hid (∀ y, Below wA.heap.size wA y → Tab y 0) := fun y hy => Ht.out.below (HWY.out y hy) Ht.out.lt
  have HTK : Hid (∀ y, Below wA.heap.size wA y → Tab y 1) := fun y hy => Htk.out.below (HWY.out y hy) Htk.out.lt
  obtain ⟨X, hX⟩ : ∃ X, X = Sc.pt (Seal.sl K) s := ⟨_, rfl⟩
  obtain ⟨P, hP⟩ : ∃ P, P = Sc.gt (Seal.op K) k a b := ⟨_, rfl⟩
  obtain ⟨U, hU⟩ : ∃ U, U = Sc.gt (Seal.op K) s.k s.a X.2 := ⟨_, rfl⟩
  have hXl : X.2.length ≤ 5000 := by rw [hX]; have := pt_len K s; omega
  have hXb : Sha.Byt X.2 := by rw [hX]; exact pt_byt K s
  have hPl : P.2.L.length ≤ 5000 := by rw [hP]; have := gt_len (K := K) (k := k) (a := a) h3.bat.1; omega
  have hUl : U.2.L.length ≤ 5000 := by rw [hU]; have := gt_len (K := K) (k := s.k) (a := s.a) hXb; omega
  have HPUT : Hid (∀ y, Below wA.heap.size wA y → Calls Tryz.prog 8 #[.iface 28 (.pointer (some ⟨gx, 0, none⟩)), SV s.k s.e s.n s.a (some ⟨gs, 0, none⟩) m1 (m1 + 5)] y (PutX X.1 X.2 y)) := fun y hy => by
    have h := bput_any hT K gx s (some ⟨gs, 0, none⟩) m1 (m1 + 5) hm1 y (HBX.out y hy) (HBS.out y hy) (HTB.out y hy)
    rw [← hX] at h
    exact h
  have HRPUT : Hid (∀ y, Below wA.heap.size wA y → Calls Tryz.prog 9 #[.pointer (some ⟨gm, 0, none⟩), SV s.k s.e s.n s.a p1 m1 c1] y (PutX X.1 X.2 y)) := fun y hy => by
    have h := rput_any K w1.heap.size gm s p1 m1 c1 hm1 y (HCR.out y hy) (h1.old (HWY.out y hy)) (HTK.out y hy)
    rw [← hX] at h
    exact h
  have HGET : Hid (∀ y, Below wA.heap.size wA y → Calls Tryz.prog 10 #[.iface 28 (.pointer (some ⟨gx, 0, none⟩)), .int .i64 k, .int .i64 a, .slice (some ⟨gb, 0, none⟩) n3 (n3 + 5)] y (GetX P.1 P.2 y)) := fun y hy => by
    have h := bget_any hT K gx k a b (some ⟨gb, 0, none⟩) n3 (n3 + 5) hn3 y (HBX.out y hy) (HBB.out y hy) (HTB.out y hy)
    rw [← hP] at h
    exact h
  have HRGET : Hid (∀ y, Below wA.heap.size wA y → Calls Tryz.prog 11 #[.pointer (some ⟨gm, 0, none⟩), .int .i64 k, .int .i64 a, .slice p3 n3 c3] y (GetX P.1 P.2 y)) := fun y hy => by
    have h := rget_any K w1.heap.size gm k a b p3 n3 c3 hn3 y (HCR.out y hy) (h3.old (HWY.out y hy)) (HTK.out y hy)
    rw [← hP] at h
    exact h
  have HGU : Hid (∀ y u m d, Below wA.heap.size wA y → X.2.length = m → Bs y u d X.2 → Calls Tryz.prog 10 #[.iface 28 (.pointer (some ⟨gx, 0, none⟩)), .int .i64 s.k, .int .i64 s.a, .slice u m d] y (GetX U.1 U.2 y)) := fun y u m d hy hm hb => by
    have h := bget_any hT K gx s.k s.a X.2 u m d hm y (HBX.out y hy) hb (HTB.out y hy)
    rw [← hU] at h
    exact h
  have HRU : Hid (∀ y u m d, Below wA.heap.size wA y → X.2.length = m → Bs y u d X.2 → Calls Tryz.prog 11 #[.pointer (some ⟨gm, 0, none⟩), .int .i64 s.k, .int .i64 s.a, .slice u m d] y (GetX U.1 U.2 y)) := fun y u m d hy hm hb => by
    have h := rget_any K w1.heap.size gm s.k s.a X.2 u m d hm y (HCR.out y hy) hb (HTK.out y hy)
    rw [← hU] at h
    exact h
  have HKD : Hid (∀ y, Below w.heap.size w y → Calls Tryz.prog 14 #[.slice p3 n3 c3] y fun r x' => r = .returned (.int .i64 (Sc.kd b)) ∧ y = x') := fun y hy => (kind_any b p3 n3 c3 hn3 y (h3.old hy)).mono fun _ _ q => ⟨q.1, q.2.symm⟩
  have HRKD : Hid (∀ y, Below w.heap.size w y → Calls Tryz.prog 15 #[.slice p3 n3 c3] y fun r x' => r = .returned (.int .i64 (Sc.kd b)) ∧ y = x') := fun y hy => (fkindb_any b p3 n3 c3 hn3 y (h3.old hy)).mono fun _ _ q => ⟨q.1, q.2.symm⟩
  have HSX : Hid (∀ y p q m c d, X.2.length = m → Bs y p c X.2 → Bs y q d X.2 → Calls Tryz.prog 12 #[.slice p m c, .slice q m d] y (YesSay y)) := fun y p q m c d hm hp hq => same_any X.2 p q m m c d hm hm y hp.bat hq.bat (by omega)
  have HSP : Hid (∀ y p q m c d, P.2.L.length = m → Bs y p c P.2.L → Bs y q d P.2.L → Calls Tryz.prog 13 #[Sv P.2 p m c, Sv P.2 q m d] y (YesSay y)) := fun y p q m c d hm hp hq => by
    have h := samesec_any P.2 P.2 p q m m c d hm hm y hp hq (by omega)
    rw [decide_eq_true rfl] at h
    exact h
  have HSU : Hid (∀ y p q m c d, U.2.L.length = m → Bs y p c U.2.L → Bs y q d U.2.L → Calls Tryz.prog 13 #[Sv U.2 p m c, Sv U.2 q m d] y (YesSay y)) := fun y p q m c d hm hp hq => by
    have h := samesec_any U.2 U.2 p q m m c d hm hm y hp hq (by omega)
    rw [decide_eq_true rfl] at h
    exact h
  have HK1 : Hid (∀ y, Below w.heap.size w y → y.heap[gs]? = some (.cells ((mk5 s.L).map (Value.int .u8)).toArray 5 (0, 0)) → Calls Tryz.prog 17 #[.slice (some ⟨gs, 0, none⟩) (m1 + 5) (m1 + 5), .slice p1 m1 c1] y (YesSay y)) := fun y hy hr => by
    have h := kept_any s.L gs p1 (s.L.length + 5) c1 y (bat_row hr (mk5_byt h1.bat.1)) (h1.old hy).bat (by omega) (Nat.le_refl _)
    rw [hm1] at h
    exact h
  have HK3 : Hid (∀ y, Below w.heap.size w y → y.heap[gb]? = some (.cells ((mk5 b).map (Value.int .u8)).toArray 5 (0, 0)) → Calls Tryz.prog 17 #[.slice (some ⟨gb, 0, none⟩) (n3 + 5) (n3 + 5), .slice p3 n3 c3] y (YesSay y)) := fun y hy hr => by
    have h := kept_any b gb p3 (b.length + 5) c3 y (bat_row hr (mk5_byt h3.bat.1)) (h3.old hy).bat (by omega) (Nat.le_refl _)
    rw [hn3] at h
    exact h
  have HXL : Hid (X.2.length ≤ 5000 ∧ P.2.L.length ≤ 5000) := ⟨hXl, hPl⟩
  have HL5 : Hid (s.L.length = m1 ∧ b.length = n3 ∧ m1 ≤ 4096 ∧ n3 ≤ 4096) := ⟨hm1, hn3, by omega, by omega⟩
  have H1 := Lib.hid h1; have H3 := Lib.hid h3
  have LGS : Hid (gs < wA.heap.size ∧ gb < wA.heap.size) := ⟨lt_of_block RS.out, lt_of_block RA.out⟩
  clear hX hP hU hXl hXb hPl hUl h0 h1 h3 hn0 hT HTB HTK HBX HCR HBS HBB S3 S4 S5 R5 B25 B24 B04 B03 B02 B3 B4 B6 B2A B1A B0A W2 W3 W5 W1 L4 LA6 LG HL1 HL3 HNB HNC HA Ht Htk hl0 hl1 hl3 G1 G2 hm1 hn3
  obtain ⟨xe, XL⟩ := X
  obtain ⟨pe, ps⟩ := P
  obtain ⟨ue, us⟩ := U
  simp only at HPUT HRPUT HGET HRGET HGU HRU HSX HSP HSU HXL
  have AA := Lib.hid (Below.refl wA.heap.size wA)
  obtain ⟨x0, x1, x2, x3, x4⟩ := (HSG.out _ AA.out).all
  go_upto_region 10 with (go_at_call 8; refine (HPUT.out _ AA.out).mono ?_; rintro eB wB ⟨uB, mB, dB, rfl, lB, OB, HB, bB⟩; have AB : Hid (Below wA.heap.size wA wB) := bB.out)
  clear x0 x1 x2 x3 x4
  obtain ⟨x0, x1, x2, x3, x4⟩ := (HF.out _ AB.out).1.all
  go_upto_region 11 with (go_at_call 9; refine (HRPUT.out _ AB.out).mono ?_; rintro eC wC ⟨uC, mC, dC, rfl, lC, OC, HC, bC⟩; have AC : Hid (Below wA.heap.size wA wC) := AB.out.trans (bC.out.mono AB.out.size))
  obtain rfl : mB = mC := lB.symm.trans lC
  have Oz : Hid (Below wA.heap.size wA wC.drew) := AC.out.drew
  have BCz : Hid (Below wB.heap.size wB wC.drew) := bC.out.drew
  have Hxz : Hid (Bs wC.drew uB dB XL) := HB.out.old BCz.out
  have Hyz : Hid (Bs wC.drew uC dC XL) := HC.out.drew
  have OBL : Hid (∀ q, (Value.slice uB mB dB).ownBlock = some q → wA.heap.size ≤ q ∧ q < wC.drew.heap.size) := fun q hq => ⟨(OB.out.lt q hq).1, Nat.lt_of_lt_of_le (OB.out.lt q hq).2 BCz.out.size⟩
  have OXz : Hid (wC.drew.ownsRow wA.heap.size 5 1 (.slice uB mB dB) mB (U8s XL)) := own_keepX OB.out BCz.out
  have HKC : Hid (∀ y, Below wA.heap.size wA y → y.cell? ⟨w.heap.size + 1, 0, none⟩ = some (.int .i64 k) ∧ y.cell? ⟨w.heap.size + 1, 1, none⟩ = some (.int .i64 a)) := fun y hy => ⟨(HF.out y hy).2.c0, (HF.out y hy).2.c1⟩
  clear x0 x1 x2 x3 x4 AB AC bC OB OC HB HC bB BCz
  refine wp_region_any (by kernel_rfl) ?_
  change wpAny _ _ _ _ _ _ _ (World.drew _)
  generalize wC.drew = z at *
  have TD := HKC.out _ Oz.out
  refine wpAny_of_held (S := fun y => y.cell? ⟨w.heap.size + 1, 0, none⟩ = some (.int .i64 k) ∧ y.cell? ⟨w.heap.size + 1, 1, none⟩ = some (.int .i64 a)) _ _ _ _ ?_
  refine anyH_take 0 71 (.pointer (some ⟨gx, 0, none⟩)) TD rfl (by kernel_rfl) (by kernel_rfl) (by kernel_rfl) (fun _ _ _ h => h) (by rfl) (by intro x hx; obtain ⟨y0, y1⟩ := hx; go_simp; try (intro h; omega)) ?_
  try simp only [Act.put, List.setIfInBounds_toArray, List.set_cons_zero, List.set_cons_succ]
  refine anyH_take 1 72 (.iface 28 (.pointer (some ⟨gx, 0, none⟩))) TD rfl (by kernel_rfl) (by kernel_rfl) (by kernel_rfl) (fun _ _ _ h => h) (by rfl) (by intro x hx; obtain ⟨y0, y1⟩ := hx; go_simp; try (intro h; omega)) ?_
  try simp only [Act.put, List.setIfInBounds_toArray, List.set_cons_zero, List.set_cons_succ]
  refine anyH_take 2 73 (.pointer (some ⟨w.heap.size + 1, 0, none⟩)) TD rfl (by kernel_rfl) (by kernel_rfl) (by kernel_rfl) (fun _ _ _ h => h) (by rfl) (by intro x hx; obtain ⟨y0, y1⟩ := hx; go_simp; try (intro h; omega)) ?_
  try simp only [Act.put, List.setIfInBounds_toArray, List.set_cons_zero, List.set_cons_succ]
  refine anyH_take 3 74 (.int .i64 k) TD rfl (by kernel_rfl) (by kernel_rfl) (by kernel_rfl) (fun _ _ _ h => h) (by rfl) (by intro x hx; obtain ⟨y0, y1⟩ := hx; go_simp; try (intro h; omega)) ?_
  try simp only [Act.put, List.setIfInBounds_toArray, List.set_cons_zero, List.set_cons_succ]
  refine anyH_take 4 75 (.pointer (some ⟨w.heap.size + 1, 1, none⟩)) TD rfl (by kernel_rfl) (by kernel_rfl) (by kernel_rfl) (fun _ _ _ h => h) (by rfl) (by intro x hx; obtain ⟨y0, y1⟩ := hx; go_simp; try (intro h; omega)) ?_
  try simp only [Act.put, List.setIfInBounds_toArray, List.set_cons_zero, List.set_cons_succ]
  refine anyH_take 5 76 (.int .i64 a) TD rfl (by kernel_rfl) (by kernel_rfl) (by kernel_rfl) (fun _ _ _ h => h) (by rfl) (by intro x hx; obtain ⟨y0, y1⟩ := hx; go_simp; try (intro h; omega)) ?_
  try simp only [Act.put, List.setIfInBounds_toArray, List.set_cons_zero, List.set_cons_succ]
  refine anyH_take 6 77 (.slice (some ⟨gb, 0, none⟩) (n3 + 5) (n3 + 5)) TD rfl (by kernel_rfl) (by kernel_rfl) (by kernel_rfl) (fun _ _ _ h => h) (by rfl) (by intro x hx; obtain ⟨y0, y1⟩ := hx; go_simp; try (intro h; omega)) ?_
  try simp only [Act.put, List.setIfInBounds_toArray, List.set_cons_zero, List.set_cons_succ]
  refine anyH_take 7 78 (.slice p3 n3 c3) TD rfl (by kernel_rfl) (by kernel_rfl) (by kernel_rfl) (fun _ _ _ h => h) (by rfl) (by intro x hx; obtain ⟨y0, y1⟩ := hx; go_simp; try (intro h; omega)) ?_
  try simp only [Act.put, List.setIfInBounds_toArray, List.set_cons_zero, List.set_cons_succ]
  refine anyH_take 8 79 (.int .i64 (n3 : Int)) TD rfl (by kernel_rfl) (by kernel_rfl) (by kernel_rfl) (fun _ _ _ h => h) (by rfl) (by intro x hx; obtain ⟨y0, y1⟩ := hx; go_simp; try (intro h; omega)) ?_
  try simp only [Act.put, List.setIfInBounds_toArray, List.set_cons_zero, List.set_cons_succ]
  refine anyH_take 9 80 (.slice (some ⟨gb, 0, none⟩) n3 (n3 + 5)) TD rfl (by kernel_rfl) (by kernel_rfl) (by kernel_rfl) (fun _ _ _ h => h) (by rfl) (by intro x hx; obtain ⟨y0, y1⟩ := hx; go_simp; try (intro h; omega)) ?_
  try simp only [Act.put, List.setIfInBounds_toArray, List.set_cons_zero, List.set_cons_succ]
  refine anyH_two 10 14 (by kernel_rfl) ?_ ?_
  · refine wpOp_step rfl (fun Kc hKc => ?_)
    go_simp
    refine (HGET.out z Oz.out).mono ?_
    rintro e6 w6 ⟨u6, m6, d6, rfl, l6, P6, H6, b6⟩
    have O6 : Hid (Below wA.heap.size wA w6) := Oz.out.trans (b6.out.mono Oz.out.size)
    dsimp only
    refine hKc _ _ ⟨HKC.out _ O6.out, ?_⟩
    clear hKc Kc
    have TE := HKC.out _ O6.out
    try simp only [Act.put, List.setIfInBounds_toArray, List.set_cons_zero, List.set_cons_succ]
    refine anyH_take 11 70 (.tuple #[Sv ps u6 m6 d6, .int .i64 pe]) TE rfl (by kernel_rfl) (by kernel_rfl) (by kernel_rfl) (fun _ _ _ h => h) (by rfl) (by intro x hx; obtain ⟨y0, y1⟩ := hx; go_simp; try (intro h; omega)) ?_
    try simp only [Act.put, List.setIfInBounds_toArray, List.set_cons_zero, List.set_cons_succ]
    refine anyH_take 12 82 (Sv ps u6 m6 d6) TE rfl (by kernel_rfl) (by kernel_rfl) (by kernel_rfl) (fun _ _ _ h => h) (by rfl) (by intro x hx; obtain ⟨y0, y1⟩ := hx; go_simp; try (intro h; omega)) ?_
    try simp only [Act.put, List.setIfInBounds_toArray, List.set_cons_zero, List.set_cons_succ]
    refine anyH_take 13 83 (.int .i64 pe) TE rfl (by kernel_rfl) (by kernel_rfl) (by kernel_rfl) (fun _ _ _ h => h) (by rfl) (by intro x hx; obtain ⟨y0, y1⟩ := hx; go_simp; try (intro h; omega)) ?_
    try simp only [Act.put, List.setIfInBounds_toArray, List.set_cons_zero, List.set_cons_succ]
    refine anyH_one 14 (by kernel_rfl) ?_
    refine wpOp_step rfl (fun Kc hKc => ?_)
    go_simp
    refine hKc _ _ ⟨HKC.out _ (O6.out.alloc O6.out.size _), ?_⟩
    clear hKc Kc TE
    try simp only [Act.put, List.setIfInBounds_toArray, List.set_cons_zero, List.set_cons_succ]
    refine anyH_one 15 (by kernel_rfl) ?_
    refine op_store 15 24 (.tmp 18) (.tmp 82) rfl w6.heap.size 0 24 [.int .i64 0, .int .i64 0, .int .i64 0, .int .i64 0, .slice none 0 0] #[.int .i64 ps.k, .int .i64 ps.e, .int .i64 ps.n, .int .i64 ps.a, .slice u6 m6 d6] rfl rfl (heap_alloc_new w6 _) (by rw [ssize]; rfl) (by simp) (by simp [Value.oneCell']) ?_
    intro w7 G7 ch7
    have O7 : Hid (Below wA.heap.size wA w7) := ch7.below (O6.out.alloc O6.out.size _) (O6.out.size)
    refine ⟨HKC.out _ O7.out, ?_⟩
    have TF := HKC.out _ O7.out
    have Z7 : Hid (SAt w7 w6.heap.size ps.k ps.e ps.n ps.a u6 m6 d6) := ⟨G7.out⟩
    try simp only [Act.put, List.setIfInBounds_toArray, List.set_cons_zero, List.set_cons_succ]
    refine anyH_take 16 19 (.int .i64 pe) TF rfl (by kernel_rfl) (by kernel_rfl) (by kernel_rfl) (fun _ _ _ h => h) (by rfl) (by intro x hx; obtain ⟨y0, y1⟩ := hx; go_simp; try (intro h; omega)) ?_
    try simp only [Act.put, List.setIfInBounds_toArray, List.set_cons_zero, List.set_cons_succ]
    refine anyH_done (by kernel_rfl) ?_ _
    clear TF
    have B67 : Hid (Below w6.heap.size w6 w7) := ch7.below ((Below.refl _ w6).alloc (Nat.le_refl _) _) (Nat.le_refl _)
    have BZ7 : Hid (Below z.heap.size z w7) := b6.out.trans (B67.out.mono b6.out.size)
    have H67 : Hid (Bs w7 u6 d6 ps.L) := H6.out.old B67.out
    have P67 : Hid (w7.ownsRow z.heap.size 5 1 (.slice u6 m6 d6) m6 (U8s ps.L)) := own_keepX P6.out B67.out
    clear ch7 G7 B67
    have Hx7 : Hid (Bs w7 uB dB XL) := Hxz.out.old BZ7.out
    have Hy7 : Hid (Bs w7 uC dC XL) := Hyz.out.old BZ7.out
    obtain ⟨GP, hGP⟩ : ∃ x, x = w6.heap.size := ⟨_, rfl⟩
    have LGP : Hid (z.heap.size ≤ GP) := by
      show _ ≤ _
      rw [hGP]
      first | exact b6.out.size | exact Nat.le_refl _
    rw [← hGP] at Z7 ⊢
    have LAz : Hid (wA.heap.size ≤ z.heap.size) := Oz.out.size
    clear hGP Oz TD
    have OX7 := Lib.hid (own_keepX OXz.out BZ7.out)
    have LZ7 : Hid (z.heap.size ≤ w7.heap.size) := BZ7.out.size
    obtain ⟨a0, a1⟩ := HKC.out _ O7.out
    go_upto_region 13 with (go_at_call 11; refine (HRGET.out _ O7.out).mono ?_; rintro eE wE ⟨uE, mE, dE, rfl, lE, OE, HE, bE⟩)
    obtain rfl : m6 = mE := l6.symm.trans lE
    change Code.wp _ _ _ _ (wE.alloc (SO ps.k ps.e ps.n ps.a uE m6 dE))
    have B7E : Hid (Below w7.heap.size w7 (wE.alloc (SO ps.k ps.e ps.n ps.a uE m6 dE))) := bE.out.alloc bE.out.size _
    have ZE : Hid (SAt (wE.alloc (SO ps.k ps.e ps.n ps.a uE m6 dE)) wE.heap.size ps.k ps.e ps.n ps.a uE m6 dE) := SAt.new wE _ _ _ _ _ _ _
    have HE2 : Hid (Bs (wE.alloc (SO ps.k ps.e ps.n ps.a uE m6 dE)) uE dE ps.L) := HE.out.old ((Below.refl _ _).alloc (Nat.le_refl _) _)
    obtain ⟨GE, hGE⟩ : ∃ x, x = wE.heap.size := ⟨_, rfl⟩
    obtain ⟨vE, hvE⟩ : ∃ x, x = wE.alloc (SO ps.k ps.e ps.n ps.a uE m6 dE) := ⟨_, rfl⟩
    rw [← hvE] at B7E ZE HE2 ⊢
    rw [← hGE] at ZE ⊢
    clear hvE hGE a0 a1 OE HE bE
    have AE : Hid (Below wA.heap.size wA vE) := O7.out.trans (B7E.out.mono O7.out.size)
    obtain ⟨x0, x1, x2, x3, x4⟩ := (HF.out _ AE.out).1.all
    go_upto_region 14 with (go_at_call 10; refine (HGU.out _ uB mB dB AE.out lB (Hx7.out.old B7E.out)).mono ?_; rintro eF wF ⟨uF, mF, dF, rfl, lF, OF, HFF, bF⟩)
    change Code.wp _ _ _ _ (wF.alloc (SO us.k us.e us.n us.a uF mF dF))
    have BEF : Hid (Below vE.heap.size vE (wF.alloc (SO us.k us.e us.n us.a uF mF dF))) := bF.out.alloc bF.out.size _
    have BFF : Hid (Below wF.heap.size wF (wF.alloc (SO us.k us.e us.n us.a uF mF dF))) := (Below.refl _ _).alloc (Nat.le_refl _) _
    have ZF : Hid (SAt (wF.alloc (SO us.k us.e us.n us.a uF mF dF)) wF.heap.size us.k us.e us.n us.a uF mF dF) := SAt.new wF _ _ _ _ _ _ _
    have OF2 : Hid ((wF.alloc (SO us.k us.e us.n us.a uF mF dF)).ownsRow vE.heap.size 5 1 (.slice uF mF dF) mF (U8s us.L)) := own_keepX OF.out BFF.out
    have UB := Lib.hid HFF.out.bat.1
    obtain ⟨GF, hGF⟩ : ∃ x, x = wF.heap.size := ⟨_, rfl⟩
    have LGF : Hid (w7.heap.size ≤ GF) := by rw [hGF]; exact Nat.le_trans B7E.out.size bF.out.size
    obtain ⟨vF, hvF⟩ : ∃ x, x = wF.alloc (SO us.k us.e us.n us.a uF mF dF) := ⟨_, rfl⟩
    rw [← hvF] at BEF ZF OF2 ⊢
    rw [← hGF] at ZF ⊢
    clear hvF hGF x0 x1 x2 x3 x4 OF HFF bF BFF
    have AF : Hid (Below wA.heap.size wA vF) := AE.out.trans (BEF.out.mono AE.out.size)
    have B7F : Hid (Below w7.heap.size w7 vF) := B7E.out.trans (BEF.out.mono B7E.out.size)
    obtain ⟨x0, x1, x2, x3, x4⟩ := (HF.out _ AF.out).1.all
    go_upto_region 15 with (go_at_call 11; refine (HRU.out _ uC mB dC AF.out lB (Hy7.out.old B7F.out)).mono ?_; rintro eH wH ⟨uH, mH, dH, rfl, lH, OH, HH, bH⟩)
    obtain rfl : mF = mH := lF.symm.trans lH
    change Code.wp _ _ _ _ (wH.alloc (SO us.k us.e us.n us.a uH mF dH))
    have BFH : Hid (Below vF.heap.size vF (wH.alloc (SO us.k us.e us.n us.a uH mF dH))) := bH.out.alloc bH.out.size _
    have BHH : Hid (Below wH.heap.size wH (wH.alloc (SO us.k us.e us.n us.a uH mF dH))) := (Below.refl _ _).alloc (Nat.le_refl _) _
    have ZH : Hid (SAt (wH.alloc (SO us.k us.e us.n us.a uH mF dH)) wH.heap.size us.k us.e us.n us.a uH mF dH) := SAt.new wH _ _ _ _ _ _ _
    have OH2 : Hid ((wH.alloc (SO us.k us.e us.n us.a uH mF dH)).ownsRow vF.heap.size 5 1 (.slice uH mF dH) mF (U8s us.L)) := own_keepX OH.out BHH.out
    obtain ⟨GH, hGH⟩ : ∃ x, x = wH.heap.size := ⟨_, rfl⟩
    have LGH : Hid (w7.heap.size ≤ GH) := by rw [hGH]; exact Nat.le_trans B7F.out.size bH.out.size
    obtain ⟨vH, hvH⟩ : ∃ x, x = wH.alloc (SO us.k us.e us.n us.a uH mF dH) := ⟨_, rfl⟩
    rw [← hvH] at BFH ZH OH2 ⊢
    rw [← hGH] at ZH ⊢
    clear hvH hGH x0 x1 x2 x3 x4 OH HH bH BHH
    have BEH : Hid (Below vE.heap.size vE vH) := BEF.out.trans (BFH.out.mono BEF.out.size)
    have B7H : Hid (Below w7.heap.size w7 vH) := B7E.out.trans (BEH.out.mono B7E.out.size)
    have AH : Hid (Below wA.heap.size wA vH) := O7.out.trans (B7H.out.mono O7.out.size)
    have OFH := Lib.hid (own_keepX OF2.out BFH.out)
    have HC : Hid (∀ y, Below vH.heap.size vH y → SAt y GP ps.k ps.e ps.n ps.a u6 m6 d6 ∧ SAt y GE ps.k ps.e ps.n ps.a uE m6 dE ∧ SAt y GF us.k us.e us.n us.a uF mF dF ∧ SAt y GH us.k us.e us.n us.a uH mF dH) := fun y hy =>
      ⟨Z7.out.old (B7H.out.trans (hy.mono B7H.out.size)), ZE.out.old (BEH.out.trans (hy.mono BEH.out.size)), ZF.out.old (BFH.out.trans (hy.mono BFH.out.size)), ZH.out.old hy⟩
    have HX : Hid (∀ y, Below vH.heap.size vH y → Bs y uB dB XL ∧ Bs y uC dC XL ∧ Bs y u6 d6 ps.L ∧ Bs y uE dE ps.L ∧ Bs y uF dF us.L ∧ Bs y uH dH us.L) := fun y hy =>
      ⟨Hx7.out.old (B7H.out.trans (hy.mono B7H.out.size)), Hy7.out.old (B7H.out.trans (hy.mono B7H.out.size)), H67.out.old (B7H.out.trans (hy.mono B7H.out.size)), HE2.out.old (BEH.out.trans (hy.mono BEH.out.size)), (bs_own OFH.out UB.out).old hy, (bs_own OH2.out UB.out).old hy⟩
    have TK : Hid (0 = 0) := rfl
    have lB' := Lib.hid lB
    have l6' := Lib.hid l6
    have lF' := Lib.hid lF
    go_upto_region 17 with (first
      | (go_at_call 12; refine (HSX.out _ _ _ mB _ _ lB'.out (HX.out _ (Below.refl _ _)).1 (HX.out _ (Below.refl _ _)).2.1).mono ?_; rintro eI wI ⟨rfl, bI⟩; have BI : Hid (Below vH.heap.size vH wI) := Lib.hid bI; clear bI; obtain ⟨g0, g1, g2, g3, g4⟩ := (HC.out _ BI.out).1.all; obtain ⟨h0, h1, h2, h3, h4⟩ := (HC.out _ BI.out).2.1.all)
      | (go_at_call 13; have TT := TK.out; clear TK; refine (HSP.out _ _ _ m6 _ _ l6'.out (HX.out _ BI.out).2.2.1 (HX.out _ BI.out).2.2.2.1).mono ?_; rintro eJ wJ ⟨rfl, bJ⟩; have BJ : Hid (Below vH.heap.size vH wJ) := BI.out.trans (bJ.mono BI.out.size); clear bJ g0 g1 g2 g3 g4 h0 h1 h2 h3 h4; obtain ⟨g0, g1, g2, g3, g4⟩ := (HC.out _ BJ.out).2.2.1.all; obtain ⟨h0, h1, h2, h3, h4⟩ := (HC.out _ BJ.out).2.2.2.all)
      | (go_at_call 13; refine (HSU.out _ _ _ mF _ _ lF'.out (HX.out _ BJ.out).2.2.2.2.1 (HX.out _ BJ.out).2.2.2.2.2).mono ?_; rintro eK wK ⟨rfl, bK⟩; have BK : Hid (Below vH.heap.size vH wK) := BJ.out.trans (bK.mono BJ.out.size); clear bK g0 g1 g2 g3 g4 h0 h1 h2 h3 h4; have WK : Hid (Below w.heap.size w wK) := HWY.out _ (AH.out.trans (BK.out.mono AH.out.size)))
      | (go_at_call 14; refine (HKD.out _ WK.out).mono ?_; rintro eL wL ⟨rfl, rfl⟩)
      | (go_at_call 15; refine (HRKD.out _ WK.out).mono ?_; rintro eL wL ⟨rfl, rfl⟩))
    have B7K : Hid (Below w7.heap.size w7 wK) := B7H.out.trans (BK.out.mono B7H.out.size)
    have BZK : Hid (Below z.heap.size z wK) := BZ7.out.trans (B7K.out.mono BZ7.out.size)
    have AK : Hid (Below wA.heap.size wA wK) := AH.out.trans (BK.out.mono AH.out.size)
    have BEK : Hid (Below vE.heap.size vE wK) := BEH.out.trans (BK.out.mono BEH.out.size)
    have OXK := Lib.hid (own_keepX OXz.out BZK.out)
    have OPK := Lib.hid (own_keepX P67.out B7K.out)
    have OUK := Lib.hid (own_keepX OFH.out BK.out)
    have OVK := Lib.hid (own_keepX OH2.out BK.out)
    have OPL : Hid (∀ q, (Value.slice u6 m6 d6).ownBlock = some q → z.heap.size ≤ q ∧ q < w7.heap.size) := fun q hq => P67.out.lt q hq
    have OUL : Hid (∀ q, (Value.slice uF mF dF).ownBlock = some q → w7.heap.size ≤ q) := fun q hq => Nat.le_trans B7E.out.size (OFH.out.lt q hq).1
    have OVL : Hid (∀ q, (Value.slice uH mF dH).ownBlock = some q → w7.heap.size ≤ q) := fun q hq => Nat.le_trans B7F.out.size (OH2.out.lt q hq).1
    have LAZ := Lib.hid LAz.out
    have ZPK := Lib.hid (HC.out _ BK.out).1
    have ZFK := Lib.hid (HC.out _ BK.out).2.2.1
    have ZHK := Lib.hid (HC.out _ BK.out).2.2.2
    have ZSK := Lib.hid (HF.out _ AK.out).1
    have RSK : Hid (wK.heap[gs]? = some (.cells ((mk5 s.L).map (Value.int .u8)).toArray 5 (0, 0))) := (AK.out.block _ LGS.out.1).trans RS.out
    have RBK : Hid (wK.heap[gb]? = some (.cells ((mk5 b).map (Value.int .u8)).toArray 5 (0, 0))) := (AK.out.block _ LGS.out.2).trans RA.out
    have ML : Hid (mB ≤ 5000 ∧ m6 ≤ 5000) := ⟨by have := HXL.out.1; have := lB'.out; omega, by have := HXL.out.2; have := l6'.out; omega⟩
    have SZ : Hid (w7.heap.size ≤ wK.heap.size ∧ wA.heap.size ≤ wK.heap.size) := ⟨B7K.out.size, AK.out.size⟩
    go_upto_region 18 with (go_at_call 16; refine (spoil_own OXK.out (by have := ML.out; omega)).mono ?_; rintro eM wM ⟨rfl, hs⟩; have HSM := Lib.hid hs; clear hs)
    have KM : Hid (∀ q, q < wA.heap.size ∨ z.heap.size ≤ q → q < wK.heap.size → wM.heap[q]? = wK.heap[q]?) := fun q h1 h2 => sp_block HSM.out h2 (fun hq => by have h3 := OBL.out q hq; omega)
    have WM : Hid (Below w.heap.size w wM) := HSM.out.below WK.out WK.out.size (fun q hq => Nat.le_trans WA.out.size (OBL.out q hq).1)
    have SM : Hid (wK.heap.size ≤ wM.heap.size) := sp_size HSM.out
    have OPM := Lib.hid (own_sp OPK.out HSM.out (fun q hq hq2 => by have h1 := (OPL.out q hq).1; have h2 := (OBL.out q hq2).2; omega))
    have OUM := Lib.hid (own_sp OUK.out HSM.out (fun q hq hq2 => by have h1 := OUL.out q hq; have h2 := (OBL.out q hq2).2; have := LZ7.out; omega))
    have OVM := Lib.hid (own_sp OVK.out HSM.out (fun q hq hq2 => by have h1 := OVL.out q hq; have h2 := (OBL.out q hq2).2; have := LZ7.out; omega))
    have ZPM : Hid (SAt wM GP ps.k ps.e ps.n ps.a u6 m6 d6) := ⟨(KM.out _ (Or.inr LGP.out) ZPK.out.lt).trans ZPK.out.row⟩
    obtain ⟨g0, g1, g2, g3, g4⟩ := ZPM.out.all
    go_upto_region 19 with (go_at_call 16; refine (spoil_own OPM.out (by have := ML.out; omega)).mono ?_; rintro eN wN ⟨rfl, hs⟩; have HSN := Lib.hid hs; clear hs)
    have KN : Hid (∀ q, q < wA.heap.size ∨ w7.heap.size ≤ q → q < wK.heap.size → wN.heap[q]? = wK.heap[q]?) := fun q h1 h2 => (sp_block HSN.out (Nat.lt_of_lt_of_le h2 SM.out) (fun hq => by have h3 := OPL.out q hq; have := LAZ.out; omega)).trans (KM.out q (by have := LZ7.out; omega) h2)
    have WN : Hid (Below w.heap.size w wN) := HSN.out.below WM.out WM.out.size (fun q hq => Nat.le_trans (Nat.le_trans WA.out.size LAZ.out) (OPL.out q hq).1)
    have OUN := Lib.hid (own_sp OUM.out HSN.out (fun q hq hq2 => by have h1 := OUL.out q hq; have h2 := (OPL.out q hq2).2; omega))
    have OVN := Lib.hid (own_sp OVM.out HSN.out (fun q hq hq2 => by have h1 := OVL.out q hq; have h2 := (OPL.out q hq2).2; omega))
    have ZFN : Hid (SAt wN GF us.k us.e us.n us.a uF mF dF) := ⟨(KN.out _ (Or.inr LGF.out) ZFK.out.lt).trans ZFK.out.row⟩
    have ZHN : Hid (SAt wN GH us.k us.e us.n us.a uH mF dH) := ⟨(KN.out _ (Or.inr LGH.out) ZHK.out.lt).trans ZHK.out.row⟩
    have LS0 : Hid (w.heap.size < wA.heap.size) := (HF.out _ (Below.refl _ _)).1.lt
    have ZSN : Hid (SAt wN w.heap.size s.k s.e s.n s.a p1 m1 c1) := ⟨(KN.out _ (Or.inl LS0.out) ZSK.out.lt).trans ZSK.out.row⟩
    have RSN : Hid (wN.heap[gs]? = some (.cells ((mk5 s.L).map (Value.int .u8)).toArray 5 (0, 0))) := (KN.out _ (Or.inl LGS.out.1) (lt_of_block RSK.out)).trans RSK.out
    have RBN : Hid (wN.heap[gb]? = some (.cells ((mk5 b).map (Value.int .u8)).toArray 5 (0, 0))) := (KN.out _ (Or.inl LGS.out.2) (lt_of_block RBK.out)).trans RBK.out
    clear g0 g1 g2 g3 g4
    obtain ⟨g0, g1, g2, g3, g4⟩ := ZFN.out.all
    obtain ⟨h0, h1, h2, h3, h4⟩ := ZHN.out.all
    go_wp2_with (first
      | (go_at_call 13; refine (HSU.out _ _ _ mF _ _ lF'.out (bs_own OUN.out UB.out) (bs_own OVN.out UB.out)).mono ?_; rintro eO wO ⟨rfl, bO⟩; have BO : Hid (Below wN.heap.size wN wO) := Lib.hid bO; clear bO; have WO : Hid (Below w.heap.size w wO) := WN.out.trans (BO.out.mono WN.out.size); have i4 := (ZSN.out.old BO.out).c4)
      | (go_at_call 17; refine (HK3.out _ WP.out ((BP.out.block _ (lt_of_block RBN.out)).trans RBN.out)).mono ?_; rintro eQ wQ ⟨rfl, bQ⟩; have WQ : Hid (Below w.heap.size w wQ) := WP.out.trans (bQ.mono WP.out.size))
      | (go_at_call 17; refine (HK1.out _ WO.out ((BO.out.block _ (lt_of_block RSN.out)).trans RSN.out)).mono ?_; rintro eP wP ⟨rfl, bP⟩; have BP : Hid (Below wN.heap.size wN wP) := BO.out.trans (bP.mono BO.out.size); have WP : Hid (Below w.heap.size w wP) := WN.out.trans (BP.out.mono WN.out.size))
      | (go_at_call 4; refine (HKN.out _ WQ.out).mono ?_; rintro eR wR ⟨rfl, bR⟩))
    go_ret
    exact ⟨rfl, WQ.out.trans (bR.mono WQ.out.size)⟩
  · refine wpOp_step rfl (fun Kc hKc => ?_)
    go_simp
    change Kc _ (z.alloc (SO 0 0 0 0 none 0 0))
    refine hKc _ _ ⟨HKC.out _ (Oz.out.alloc Oz.out.size _), ?_⟩
    clear hKc Kc TD
    have Oa : Hid (Below wA.heap.size wA (z.alloc (SO 0 0 0 0 none 0 0))) := (Oz.out.alloc Oz.out.size _)
    have BA : Hid (Below z.heap.size z (z.alloc (SO 0 0 0 0 none 0 0))) := (Below.refl _ _).alloc (Nat.le_refl _) _
    have RA : Hid ((z.alloc (SO 0 0 0 0 none 0 0)).heap[z.heap.size]? = some (SO 0 0 0 0 none 0 0)) := heap_alloc_new _ _
    have LA : Hid (z.heap.size < (z.alloc (SO 0 0 0 0 none 0 0)).heap.size) := by show _ < _; simp
    have Hxa : Hid (Bs (z.alloc (SO 0 0 0 0 none 0 0)) uB dB XL) := Hxz.out.old BA.out
    have Hya : Hid (Bs (z.alloc (SO 0 0 0 0 none 0 0)) uC dC XL) := Hyz.out.old BA.out
    obtain ⟨za, hza⟩ : ∃ x, x = z.alloc (SO 0 0 0 0 none 0 0) := ⟨_, rfl⟩
    rw [← hza] at Oa BA RA LA Hxa Hya ⊢
    clear hza
    try simp only [Act.put, List.setIfInBounds_toArray, List.set_cons_zero, List.set_cons_succ]
    have TD := HKC.out _ Oa.out
    refine anyH_one 10 (by kernel_rfl) ?_
    refine wpOp_step rfl (fun Kc hKc => ?_)
    go_simp
    refine (HGET.out za Oa.out).mono ?_
    rintro e6 w6 ⟨u6, m6, d6, rfl, l6, P6, H6, b6⟩
    have O6 : Hid (Below wA.heap.size wA w6) := Oa.out.trans (b6.out.mono Oa.out.size)
    dsimp only
    refine hKc _ _ ⟨HKC.out _ O6.out, ?_⟩
    clear hKc Kc
    have TE := HKC.out _ O6.out
    try simp only [Act.put, List.setIfInBounds_toArray, List.set_cons_zero, List.set_cons_succ]
    refine anyH_take 11 70 (.tuple #[Sv ps u6 m6 d6, .int .i64 pe]) TE rfl (by kernel_rfl) (by kernel_rfl) (by kernel_rfl) (fun _ _ _ h => h) (by rfl) (by intro x hx; obtain ⟨y0, y1⟩ := hx; go_simp; try (intro h; omega)) ?_
    try simp only [Act.put, List.setIfInBounds_toArray, List.set_cons_zero, List.set_cons_succ]
    refine anyH_take 12 82 (Sv ps u6 m6 d6) TE rfl (by kernel_rfl) (by kernel_rfl) (by kernel_rfl) (fun _ _ _ h => h) (by rfl) (by intro x hx; obtain ⟨y0, y1⟩ := hx; go_simp; try (intro h; omega)) ?_
    try simp only [Act.put, List.setIfInBounds_toArray, List.set_cons_zero, List.set_cons_succ]
    refine anyH_take 13 83 (.int .i64 pe) TE rfl (by kernel_rfl) (by kernel_rfl) (by kernel_rfl) (fun _ _ _ h => h) (by rfl) (by intro x hx; obtain ⟨y0, y1⟩ := hx; go_simp; try (intro h; omega)) ?_
    try simp only [Act.put, List.setIfInBounds_toArray, List.set_cons_zero, List.set_cons_succ]
    have R6 : Hid (w6.heap[z.heap.size]? = some (SO 0 0 0 0 none 0 0)) := (b6.out.block _ (lt_of_block RA.out)).trans RA.out
    refine anyH_one 15 (by kernel_rfl) ?_
    refine op_store 15 24 (.tmp 18) (.tmp 82) rfl z.heap.size 0 24 [.int .i64 0, .int .i64 0, .int .i64 0, .int .i64 0, .slice none 0 0] #[.int .i64 ps.k, .int .i64 ps.e, .int .i64 ps.n, .int .i64 ps.a, .slice u6 m6 d6] rfl rfl R6.out (by rw [ssize]; rfl) (by simp) (by simp [Value.oneCell']) ?_
    intro w7 G7 ch7
    have O7 : Hid (Below wA.heap.size wA w7) := ch7.below O6.out (Oz.out.size)
    refine ⟨HKC.out _ O7.out, ?_⟩
    have TF := HKC.out _ O7.out
    have Z7 : Hid (SAt w7 z.heap.size ps.k ps.e ps.n ps.a u6 m6 d6) := ⟨G7.out⟩
    try simp only [Act.put, List.setIfInBounds_toArray, List.set_cons_zero, List.set_cons_succ]
    refine anyH_take 16 19 (.int .i64 pe) TF rfl (by kernel_rfl) (by kernel_rfl) (by kernel_rfl) (fun _ _ _ h => h) (by rfl) (by intro x hx; obtain ⟨y0, y1⟩ := hx; go_simp; try (intro h; omega)) ?_
    try simp only [Act.put, List.setIfInBounds_toArray, List.set_cons_zero, List.set_cons_succ]
    refine anyH_done (by kernel_rfl) ?_ _
    clear TF
    have BZ7 : Hid (Below z.heap.size z w7) := ch7.below (BA.out.trans (b6.out.mono BA.out.size)) (Nat.le_refl _)
    have H67 : Hid (Bs w7 u6 d6 ps.L) := bs_own_only H6.out P6.out ch7.only LA.out
    have P67 : Hid (w7.ownsRow z.heap.size 5 1 (.slice u6 m6 d6) m6 (U8s ps.L)) := own_baseS (own_chg P6.out ch7 LA.out) (Nat.le_of_lt LA.out)
    clear ch7 G7 R6 RA LA BA Oa Hxa Hya
    have Hx7 : Hid (Bs w7 uB dB XL) := Hxz.out.old BZ7.out
    have Hy7 : Hid (Bs w7 uC dC XL) := Hyz.out.old BZ7.out
    obtain ⟨GP, hGP⟩ : ∃ x, x = z.heap.size := ⟨_, rfl⟩
    have LGP : Hid (z.heap.size ≤ GP) := by
      show _ ≤ _
      rw [hGP]
      first | exact b6.out.size | exact Nat.le_refl _
    rw [← hGP] at Z7 ⊢
    have LAz : Hid (wA.heap.size ≤ z.heap.size) := Oz.out.size
    clear hGP Oz TD
    have OX7 := Lib.hid (own_keepX OXz.out BZ7.out)
    have LZ7 : Hid (z.heap.size ≤ w7.heap.size) := BZ7.out.size
    obtain ⟨a0, a1⟩ := HKC.out _ O7.out
    go_upto_region 13 with (go_at_call 11; refine (HRGET.out _ O7.out).mono ?_; rintro eE wE ⟨uE, mE, dE, rfl, lE, OE, HE, bE⟩)
    obtain rfl : m6 = mE := l6.symm.trans lE
    change Code.wp _ _ _ _ (wE.alloc (SO ps.k ps.e ps.n ps.a uE m6 dE))
    have B7E : Hid (Below w7.heap.size w7 (wE.alloc (SO ps.k ps.e ps.n ps.a uE m6 dE))) := bE.out.alloc bE.out.size _
    have ZE : Hid (SAt (wE.alloc (SO ps.k ps.e ps.n ps.a uE m6 dE)) wE.heap.size ps.k ps.e ps.n ps.a uE m6 dE) := SAt.new wE _ _ _ _ _ _ _
    have HE2 : Hid (Bs (wE.alloc (SO ps.k ps.e ps.n ps.a uE m6 dE)) uE dE ps.L) := HE.out.old ((Below.refl _ _).alloc (Nat.le_refl _) _)
    obtain ⟨GE, hGE⟩ : ∃ x, x = wE.heap.size := ⟨_, rfl⟩
    obtain ⟨vE, hvE⟩ : ∃ x, x = wE.alloc (SO ps.k ps.e ps.n ps.a uE m6 dE) := ⟨_, rfl⟩
    rw [← hvE] at B7E ZE HE2 ⊢
    rw [← hGE] at ZE ⊢
    clear hvE hGE a0 a1 OE HE bE
    have AE : Hid (Below wA.heap.size wA vE) := O7.out.trans (B7E.out.mono O7.out.size)
    obtain ⟨x0, x1, x2, x3, x4⟩ := (HF.out _ AE.out).1.all
    go_upto_region 14 with (go_at_call 10; refine (HGU.out _ uB mB dB AE.out lB (Hx7.out.old B7E.out)).mono ?_; rintro eF wF ⟨uF, mF, dF, rfl, lF, OF, HFF, bF⟩)
    change Code.wp _ _ _ _ (wF.alloc (SO us.k us.e us.n us.a uF mF dF))
    have BEF : Hid (Below vE.heap.size vE (wF.alloc (SO us.k us.e us.n us.a uF mF dF))) := bF.out.alloc bF.out.size _
    have BFF : Hid (Below wF.heap.size wF (wF.alloc (SO us.k us.e us.n us.a uF mF dF))) := (Below.refl _ _).alloc (Nat.le_refl _) _
    have ZF : Hid (SAt (wF.alloc (SO us.k us.e us.n us.a uF mF dF)) wF.heap.size us.k us.e us.n us.a uF mF dF) := SAt.new wF _ _ _ _ _ _ _
    have OF2 : Hid ((wF.alloc (SO us.k us.e us.n us.a uF mF dF)).ownsRow vE.heap.size 5 1 (.slice uF mF dF) mF (U8s us.L)) := own_keepX OF.out BFF.out
    have UB := Lib.hid HFF.out.bat.1
    obtain ⟨GF, hGF⟩ : ∃ x, x = wF.heap.size := ⟨_, rfl⟩
    have LGF : Hid (w7.heap.size ≤ GF) := by rw [hGF]; exact Nat.le_trans B7E.out.size bF.out.size
    obtain ⟨vF, hvF⟩ : ∃ x, x = wF.alloc (SO us.k us.e us.n us.a uF mF dF) := ⟨_, rfl⟩
    rw [← hvF] at BEF ZF OF2 ⊢
    rw [← hGF] at ZF ⊢
    clear hvF hGF x0 x1 x2 x3 x4 OF HFF bF BFF
    have AF : Hid (Below wA.heap.size wA vF) := AE.out.trans (BEF.out.mono AE.out.size)
    have B7F : Hid (Below w7.heap.size w7 vF) := B7E.out.trans (BEF.out.mono B7E.out.size)
    obtain ⟨x0, x1, x2, x3, x4⟩ := (HF.out _ AF.out).1.all
    go_upto_region 15 with (go_at_call 11; refine (HRU.out _ uC mB dC AF.out lB (Hy7.out.old B7F.out)).mono ?_; rintro eH wH ⟨uH, mH, dH, rfl, lH, OH, HH, bH⟩)
    obtain rfl : mF = mH := lF.symm.trans lH
    change Code.wp _ _ _ _ (wH.alloc (SO us.k us.e us.n us.a uH mF dH))
    have BFH : Hid (Below vF.heap.size vF (wH.alloc (SO us.k us.e us.n us.a uH mF dH))) := bH.out.alloc bH.out.size _
    have BHH : Hid (Below wH.heap.size wH (wH.alloc (SO us.k us.e us.n us.a uH mF dH))) := (Below.refl _ _).alloc (Nat.le_refl _) _
    have ZH : Hid (SAt (wH.alloc (SO us.k us.e us.n us.a uH mF dH)) wH.heap.size us.k us.e us.n us.a uH mF dH) := SAt.new wH _ _ _ _ _ _ _
    have OH2 : Hid ((wH.alloc (SO us.k us.e us.n us.a uH mF dH)).ownsRow vF.heap.size 5 1 (.slice uH mF dH) mF (U8s us.L)) := own_keepX OH.out BHH.out
    obtain ⟨GH, hGH⟩ : ∃ x, x = wH.heap.size := ⟨_, rfl⟩
    have LGH : Hid (w7.heap.size ≤ GH) := by rw [hGH]; exact Nat.le_trans B7F.out.size bH.out.size
    obtain ⟨vH, hvH⟩ : ∃ x, x = wH.alloc (SO us.k us.e us.n us.a uH mF dH) := ⟨_, rfl⟩
    rw [← hvH] at BFH ZH OH2 ⊢
    rw [← hGH] at ZH ⊢
    clear hvH hGH x0 x1 x2 x3 x4 OH HH bH BHH
    have BEH : Hid (Below vE.heap.size vE vH) := BEF.out.trans (BFH.out.mono BEF.out.size)
    have B7H : Hid (Below w7.heap.size w7 vH) := B7E.out.trans (BEH.out.mono B7E.out.size)
    have AH : Hid (Below wA.heap.size wA vH) := O7.out.trans (B7H.out.mono O7.out.size)
    have OFH := Lib.hid (own_keepX OF2.out BFH.out)
    have HC : Hid (∀ y, Below vH.heap.size vH y → SAt y GP ps.k ps.e ps.n ps.a u6 m6 d6 ∧ SAt y GE ps.k ps.e ps.n ps.a uE m6 dE ∧ SAt y GF us.k us.e us.n us.a uF mF dF ∧ SAt y GH us.k us.e us.n us.a uH mF dH) := fun y hy =>
      ⟨Z7.out.old (B7H.out.trans (hy.mono B7H.out.size)), ZE.out.old (BEH.out.trans (hy.mono BEH.out.size)), ZF.out.old (BFH.out.trans (hy.mono BFH.out.size)), ZH.out.old hy⟩
    have HX : Hid (∀ y, Below vH.heap.size vH y → Bs y uB dB XL ∧ Bs y uC dC XL ∧ Bs y u6 d6 ps.L ∧ Bs y uE dE ps.L ∧ Bs y uF dF us.L ∧ Bs y uH dH us.L) := fun y hy =>
      ⟨Hx7.out.old (B7H.out.trans (hy.mono B7H.out.size)), Hy7.out.old (B7H.out.trans (hy.mono B7H.out.size)), H67.out.old (B7H.out.trans (hy.mono B7H.out.size)), HE2.out.old (BEH.out.trans (hy.mono BEH.out.size)), (bs_own OFH.out UB.out).old hy, (bs_own OH2.out UB.out).old hy⟩
    have TK : Hid (0 = 0) := rfl
    have lB' := Lib.hid lB
    have l6' := Lib.hid l6
    have lF' := Lib.hid lF
    go_upto_region 17 with (first
      | (go_at_call 12; refine (HSX.out _ _ _ mB _ _ lB'.out (HX.out _ (Below.refl _ _)).1 (HX.out _ (Below.refl _ _)).2.1).mono ?_; rintro eI wI ⟨rfl, bI⟩; have BI : Hid (Below vH.heap.size vH wI) := Lib.hid bI; clear bI; obtain ⟨g0, g1, g2, g3, g4⟩ := (HC.out _ BI.out).1.all; obtain ⟨h0, h1, h2, h3, h4⟩ := (HC.out _ BI.out).2.1.all)
      | (go_at_call 13; have TT := TK.out; clear TK; refine (HSP.out _ _ _ m6 _ _ l6'.out (HX.out _ BI.out).2.2.1 (HX.out _ BI.out).2.2.2.1).mono ?_; rintro eJ wJ ⟨rfl, bJ⟩; have BJ : Hid (Below vH.heap.size vH wJ) := BI.out.trans (bJ.mono BI.out.size); clear bJ g0 g1 g2 g3 g4 h0 h1 h2 h3 h4; obtain ⟨g0, g1, g2, g3, g4⟩ := (HC.out _ BJ.out).2.2.1.all; obtain ⟨h0, h1, h2, h3, h4⟩ := (HC.out _ BJ.out).2.2.2.all)
      | (go_at_call 13; refine (HSU.out _ _ _ mF _ _ lF'.out (HX.out _ BJ.out).2.2.2.2.1 (HX.out _ BJ.out).2.2.2.2.2).mono ?_; rintro eK wK ⟨rfl, bK⟩; have BK : Hid (Below vH.heap.size vH wK) := BJ.out.trans (bK.mono BJ.out.size); clear bK g0 g1 g2 g3 g4 h0 h1 h2 h3 h4; have WK : Hid (Below w.heap.size w wK) := HWY.out _ (AH.out.trans (BK.out.mono AH.out.size)))
      | (go_at_call 14; refine (HKD.out _ WK.out).mono ?_; rintro eL wL ⟨rfl, rfl⟩)
      | (go_at_call 15; refine (HRKD.out _ WK.out).mono ?_; rintro eL wL ⟨rfl, rfl⟩))
    have B7K : Hid (Below w7.heap.size w7 wK) := B7H.out.trans (BK.out.mono B7H.out.size)
    have BZK : Hid (Below z.heap.size z wK) := BZ7.out.trans (B7K.out.mono BZ7.out.size)
    have AK : Hid (Below wA.heap.size wA wK) := AH.out.trans (BK.out.mono AH.out.size)
    have BEK : Hid (Below vE.heap.size vE wK) := BEH.out.trans (BK.out.mono BEH.out.size)
    have OXK := Lib.hid (own_keepX OXz.out BZK.out)
    have OPK := Lib.hid (own_keepX P67.out B7K.out)
    have OUK := Lib.hid (own_keepX OFH.out BK.out)
    have OVK := Lib.hid (own_keepX OH2.out BK.out)
    have OPL : Hid (∀ q, (Value.slice u6 m6 d6).ownBlock = some q → z.heap.size ≤ q ∧ q < w7.heap.size) := fun q hq => P67.out.lt q hq
    have OUL : Hid (∀ q, (Value.slice uF mF dF).ownBlock = some q → w7.heap.size ≤ q) := fun q hq => Nat.le_trans B7E.out.size (OFH.out.lt q hq).1
    have OVL : Hid (∀ q, (Value.slice uH mF dH).ownBlock = some q → w7.heap.size ≤ q) := fun q hq => Nat.le_trans B7F.out.size (OH2.out.lt q hq).1
    have LAZ := Lib.hid LAz.out
    have ZPK := Lib.hid (HC.out _ BK.out).1
    have ZFK := Lib.hid (HC.out _ BK.out).2.2.1
    have ZHK := Lib.hid (HC.out _ BK.out).2.2.2
    have ZSK := Lib.hid (HF.out _ AK.out).1
    have RSK : Hid (wK.heap[gs]? = some (.cells ((mk5 s.L).map (Value.int .u8)).toArray 5 (0, 0))) := (AK.out.block _ LGS.out.1).trans RS.out
    have RBK : Hid (wK.heap[gb]? = some (.cells ((mk5 b).map (Value.int .u8)).toArray 5 (0, 0))) := (AK.out.block _ LGS.out.2).trans RA.out
    have ML : Hid (mB ≤ 5000 ∧ m6 ≤ 5000) := ⟨by have := HXL.out.1; have := lB'.out; omega, by have := HXL.out.2; have := l6'.out; omega⟩
    have SZ : Hid (w7.heap.size ≤ wK.heap.size ∧ wA.heap.size ≤ wK.heap.size) := ⟨B7K.out.size, AK.out.size⟩
    go_upto_region 18 with (go_at_call 16; refine (spoil_own OXK.out (by have := ML.out; omega)).mono ?_; rintro eM wM ⟨rfl, hs⟩; have HSM := Lib.hid hs; clear hs)
    have KM : Hid (∀ q, q < wA.heap.size ∨ z.heap.size ≤ q → q < wK.heap.size → wM.heap[q]? = wK.heap[q]?) := fun q h1 h2 => sp_block HSM.out h2 (fun hq => by have h3 := OBL.out q hq; omega)
    have WM : Hid (Below w.heap.size w wM) := HSM.out.below WK.out WK.out.size (fun q hq => Nat.le_trans WA.out.size (OBL.out q hq).1)
    have SM : Hid (wK.heap.size ≤ wM.heap.size) := sp_size HSM.out
    have OPM := Lib.hid (own_sp OPK.out HSM.out (fun q hq hq2 => by have h1 := (OPL.out q hq).1; have h2 := (OBL.out q hq2).2; omega))
    have OUM := Lib.hid (own_sp OUK.out HSM.out (fun q hq hq2 => by have h1 := OUL.out q hq; have h2 := (OBL.out q hq2).2; have := LZ7.out; omega))
    have OVM := Lib.hid (own_sp OVK.out HSM.out (fun q hq hq2 => by have h1 := OVL.out q hq; have h2 := (OBL.out q hq2).2; have := LZ7.out; omega))
    have ZPM : Hid (SAt wM GP ps.k ps.e ps.n ps.a u6 m6 d6) := ⟨(KM.out _ (Or.inr LGP.out) ZPK.out.lt).trans ZPK.out.row⟩
    obtain ⟨g0, g1, g2, g3, g4⟩ := ZPM.out.all
    go_upto_region 19 with (go_at_call 16; refine (spoil_own OPM.out (by have := ML.out; omega)).mono ?_; rintro eN wN ⟨rfl, hs⟩; have HSN := Lib.hid hs; clear hs)
    have KN : Hid (∀ q, q < wA.heap.size ∨ w7.heap.size ≤ q → q < wK.heap.size → wN.heap[q]? = wK.heap[q]?) := fun q h1 h2 => (sp_block HSN.out (Nat.lt_of_lt_of_le h2 SM.out) (fun hq => by have h3 := OPL.out q hq; have := LAZ.out; omega)).trans (KM.out q (by have := LZ7.out; omega) h2)
    have WN : Hid (Below w.heap.size w wN) := HSN.out.below WM.out WM.out.size (fun q hq => Nat.le_trans (Nat.le_trans WA.out.size LAZ.out) (OPL.out q hq).1)
    have OUN := Lib.hid (own_sp OUM.out HSN.out (fun q hq hq2 => by have h1 := OUL.out q hq; have h2 := (OPL.out q hq2).2; omega))
    have OVN := Lib.hid (own_sp OVM.out HSN.out (fun q hq hq2 => by have h1 := OVL.out q hq; have h2 := (OPL.out q hq2).2; omega))
    have ZFN : Hid (SAt wN GF us.k us.e us.n us.a uF mF dF) := ⟨(KN.out _ (Or.inr LGF.out) ZFK.out.lt).trans ZFK.out.row⟩
    have ZHN : Hid (SAt wN GH us.k us.e us.n us.a uH mF dH) := ⟨(KN.out _ (Or.inr LGH.out) ZHK.out.lt).trans ZHK.out.row⟩
    have LS0 : Hid (w.heap.size < wA.heap.size) := (HF.out _ (Below.refl _ _)).1.lt
    have ZSN : Hid (SAt wN w.heap.size s.k s.e s.n s.a p1 m1 c1) := ⟨(KN.out _ (Or.inl LS0.out) ZSK.out.lt).trans ZSK.out.row⟩
    have RSN : Hid (wN.heap[gs]? = some (.cells ((mk5 s.L).map (Value.int .u8)).toArray 5 (0, 0))) := (KN.out _ (Or.inl LGS.out.1) (lt_of_block RSK.out)).trans RSK.out
    have RBN : Hid (wN.heap[gb]? = some (.cells ((mk5 b).map (Value.int .u8)).toArray 5 (0, 0))) := (KN.out _ (Or.inl LGS.out.2) (lt_of_block RBK.out)).trans RBK.out
    clear g0 g1 g2 g3 g4
    obtain ⟨g0, g1, g2, g3, g4⟩ := ZFN.out.all
    obtain ⟨h0, h1, h2, h3, h4⟩ := ZHN.out.all
    go_wp2_with (first
      | (go_at_call 13; refine (HSU.out _ _ _ mF _ _ lF'.out (bs_own OUN.out UB.out) (bs_own OVN.out UB.out)).mono ?_; rintro eO wO ⟨rfl, bO⟩; have BO : Hid (Below wN.heap.size wN wO) := Lib.hid bO; clear bO; have WO : Hid (Below w.heap.size w wO) := WN.out.trans (BO.out.mono WN.out.size); have i4 := (ZSN.out.old BO.out).c4)
      | (go_at_call 17; refine (HK3.out _ WP.out ((BP.out.block _ (lt_of_block RBN.out)).trans RBN.out)).mono ?_; rintro eQ wQ ⟨rfl, bQ⟩; have WQ : Hid (Below w.heap.size w wQ) := WP.out.trans (bQ.mono WP.out.size))
      | (go_at_call 17; refine (HK1.out _ WO.out ((BO.out.block _ (lt_of_block RSN.out)).trans RSN.out)).mono ?_; rintro eP wP ⟨rfl, bP⟩; have BP : Hid (Below wN.heap.size wN wP) := BO.out.trans (bP.mono BO.out.size); have WP : Hid (Below w.heap.size w wP) := WN.out.trans (BP.out.mono WN.out.size))
      | (go_at_call 4; refine (HKN.out _ WQ.out).mono ?_; rintro eR wR ⟨rfl, bR⟩))
    go_ret
    exact ⟨rfl, WQ.out.trans (bR.mono WQ.out.size)⟩
end Go.Proofs.YtkjfhbmdogmecaaGreatDoor

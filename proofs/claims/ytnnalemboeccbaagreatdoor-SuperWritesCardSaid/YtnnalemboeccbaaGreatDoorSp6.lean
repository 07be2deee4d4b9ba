/-
  GeF, SpHr (merged)
-/
import Derived.Test.YtnnalemboeccbaaGreatDoorGe1
import Derived.Test.YtnnalemboeccbaaGreatDoorSpG
import Derived.Test.YtnnalemboeccbaaGreatDoorRg1
import Derived.Great.BuildSlice
import Derived.Test.YtnnalemboeccbaaGreatDoorPa2
import Derived.Test.YtnnalemboeccbaaGreatDoorSc5
namespace Go.Proofs.YtnnalemboeccbaaGreatDoor

/-! GeF:  -/
section
open Go.RowKit
set_option maxHeartbeats 2000000 in
set_option maxRecDepth 100000 in
theorem needs_any (a b c m:Int) (hb:32≤b∧b≤64) (hm:0≤m∧m≤64) (w:World):Calls Tryz.prog 186 #[.agg #[.int .i64 a,.int .i64 b,.int .i64 c],.int .i64 m] w (Num (Ge.nd b m) w):=by
 obtain ⟨B0,HX⟩:=gbox a b c w
 obtain ⟨w0,hw0⟩:∃ x,x=w.alloc (GBox a b c):=⟨_,rfl⟩
 rw [← hw0] at B0 HX
 have hn:=Ge.nd_in b m hb.1 hm.1 hm.2
 have hl:=fun k=>Ge.nd_le b m k (by omega)
 obtain ⟨N,hN⟩:∃ N:Nat,Ge.nd b m=(N:Int):=⟨(Ge.nd b m).toNat,by omega⟩
 rw [hN] at hn hl ⊢
 have HL:=Lib.hid hl
 clear hl hN
 have hw1:IntKind.i64.wrap (b-1)=b-1:=IntWalk.i64_in _ ⟨by omega,by omega⟩
 have hw2:IntKind.i64.wrap (4*m)=4*m:=IntWalk.i64_in _ ⟨by omega,by omega⟩
 go_enter Tryz.func186,Tryz.ntmps186
 go_upto_region 1 with (fail)
 unfold GBox at hw0
 rw [← hw0]
 clear hw0
 obtain ⟨x00,x01,x02⟩:=HX.out _ (Below.refl _ _)
 go_upto_region 2 with (fail)
 go_loopw [5] (fun v5 wr=>∃ k:Nat,k≤N∧v5 = .int .i64 k∧wr=w0) (fun v5 _=>N-(intOf v5).toNat)
 case atStart=>exact ⟨0,by omega,rfl,rfl⟩
 case round =>
  obtain ⟨k,hk,rfl,rfl⟩:=hrel
  have hp:=Ge.area (k:Int) (b-1) (by omega) (by omega)
  have hw3:IntKind.i64.wrap ((k:Int)*(b-1))=(k:Int)*(b-1):=IntWalk.i64_in _ ⟨by omega,by omega⟩
  by_cases hlt:k<N
  ·have hc:(k:Int)*(b-1)<4*m:=by
    have h:=HL.out (k:Int)
    omega
   go_wp2
   exact ⟨⟨k+1,by omega,by go_num,by first | rfl | trivial⟩,by simp [intOf];omega⟩
  ·have hkN:k=N:=by omega
   subst hkN
   have hc:¬ (k:Int)*(b-1)<4*m:=by
    have h:=HL.out (k:Int)
    omega
   go_wp2
   go_ret
   exact ⟨rfl,B0.out⟩
def Yes (v:Bool) (w:World) (e:Ending) (w':World):Prop:=e = .returned (.bool v)∧Below w.heap.size w w'
set_option maxHeartbeats 4000000 in
set_option maxRecDepth 100000 in
theorem right_anyE (a b c:Int) (w:World):Calls Tryz.prog 165 #[.agg #[.int .i64 a,.int .i64 b,.int .i64 c]] w (Yes (decide (Ge.ok a b c)) w):=by
 obtain ⟨B0,HX⟩:=gbox a b c w
 obtain ⟨w0,hw0⟩:∃ x,x=w.alloc (GBox a b c):=⟨_,rfl⟩
 rw [← hw0] at B0 HX
 obtain ⟨R,hR⟩:∃ R,Hid (decide (Ge.ok a b c)=R):=⟨_,rfl⟩
 rw [hR.out]
 by_cases hs:Ge.sz a b c
 ·have HS:=Lib.hid hs
  obtain ⟨⟨ha0,ha1⟩,⟨hb0,hb1⟩,hc0,hc1⟩:=hs
  have h1:=Ge.nd_in b c hb0 (by omega) hc1
  have h2:=Ge.ln_in b hb0 hb1
  have h3:=Ge.room_in a b c HS.out
  obtain ⟨N,hN⟩:∃ N,Hid (Ge.nd b c=N):=⟨_,rfl⟩
  obtain ⟨M,hM⟩:∃ N,Hid (Ge.ln b=N):=⟨_,rfl⟩
  have hR2:Hid (R=decide (c+9<(a-N-14)*(M+1))):=by
   show _=_
   rw [← hR.out,← hN.out,← hM.out]
   exact decide_eq_decide.2 ⟨fun h=>h.2,fun h=>⟨HS.out,h⟩⟩
  have KN:∀ y,Below w0.heap.size w0 y→Calls Tryz.prog 186 #[.agg #[.int .i64 a,.int .i64 b,.int .i64 c],.int .i64 c] y fun e w'=>e = .returned (.int .i64 N)∧Hid (Below w0.heap.size w0 w'):=fun y hy=>by
   rw [← hN.out]
   refine (needs_any a b c c ⟨hb0,hb1⟩ ⟨by omega,hc1⟩ y).mono ?_
   rintro e w' ⟨rfl,hb⟩
   exact ⟨rfl,hy.trans (hb.mono hy.size)⟩
  rw [hN.out] at h1
  have hw6:IntKind.i64.wrap (b-1)=b-1:=IntWalk.i64_in _ ⟨by omega,by omega⟩
  have hw7:IntKind.i64.wrap ((b-1).tdiv 5)=M:=by
   rw [Int.tdiv_eq_ediv_of_nonneg (by omega),← hM.out]
   exact IntWalk.i64_in _ ⟨by omega,by omega⟩
  rw [hM.out] at h2
  have h4:=h3
  unfold Ge.room at h4
  rw [hN.out,hM.out] at h4
  have hw1:IntKind.i64.wrap (c+9)=c+9:=IntWalk.i64_in _ ⟨by omega,by omega⟩
  have hw2:IntKind.i64.wrap (a-N)=a-N:=IntWalk.i64_in _ ⟨by omega,by omega⟩
  have hw3:IntKind.i64.wrap (a-N-14)=a-N-14:=IntWalk.i64_in _ ⟨by omega,by omega⟩
  have hw4:IntKind.i64.wrap (M+1)=M+1:=IntWalk.i64_in _ ⟨by omega,by omega⟩
  have hw5:IntKind.i64.wrap ((a-N-14)*(M+1))=(a-N-14)*(M+1):=IntWalk.i64_in _ ⟨by omega,by omega⟩
  obtain ⟨X,hX⟩:∃ X,(a-N-14)*(M+1)=X:=⟨_,rfl⟩
  rw [hX] at hw5
  have hR3:Hid (R=decide (c+9<X)):=by show _=_;rw [← hX];exact hR2.out
  clear h3 h4 hR2
  go_enter Tryz.func165,Tryz.ntmps165
  go_upto_region 1 with (fail)
  unfold GBox at hw0
  rw [← hw0]
  clear hw0
  obtain ⟨x00,x01,x02⟩:=HX.out _ (Below.refl _ _)
  go_upto_region 7 with (fail)
  have BB:Hid (Below w0.heap.size w0 w0.drew):=(Below.refl _ w0).drew
  go_region_held3 (fun y=>y.cell? ⟨w.heap.size,0,none⟩=some (.int .i64 a)∧y.cell? ⟨w.heap.size,1,none⟩=some (.int .i64 b)∧y.cell? ⟨w.heap.size,2,none⟩=some (.int .i64 c))
   (exact HX.out _ (Hid.out (by assumption)))
   ((go_at_call 186;refine (KN _ (Hid.out (by assumption))).mono ?_;rintro e1 w1 ⟨rfl,hb1⟩;clear BB;have BB:=hb1;clear hb1))
  go_wp2
  go_ret
  exact ⟨by rw [hR3.out];rfl,B0.out.trans (BB.out.mono B0.out.size)⟩
 ·have hR0:R=false:=by rw [← hR.out];exact decide_eq_false (fun q=>hs q.1)
  have HB:=B0
  rw [hR0]
  by_cases h0:a<16
  ·go_enter Tryz.func165,Tryz.ntmps165
   go_upto_region 1 with (fail)
   unfold GBox at hw0
   rw [← hw0]
   clear hw0
   obtain ⟨x00,x01,x02⟩:=HX.out _ (Below.refl _ _)
   go_wp2
   go_ret
   exact ⟨rfl,HB.out⟩
  by_cases h1:32<a
  ·go_enter Tryz.func165,Tryz.ntmps165
   go_upto_region 1 with (fail)
   unfold GBox at hw0
   rw [← hw0]
   clear hw0
   obtain ⟨x00,x01,x02⟩:=HX.out _ (Below.refl _ _)
   go_wp2
   go_ret
   exact ⟨rfl,HB.out⟩
  by_cases h2:b<32
  ·go_enter Tryz.func165,Tryz.ntmps165
   go_upto_region 1 with (fail)
   unfold GBox at hw0
   rw [← hw0]
   clear hw0
   obtain ⟨x00,x01,x02⟩:=HX.out _ (Below.refl _ _)
   go_wp2
   go_ret
   exact ⟨rfl,HB.out⟩
  by_cases h3:64<b
  ·go_enter Tryz.func165,Tryz.ntmps165
   go_upto_region 1 with (fail)
   unfold GBox at hw0
   rw [← hw0]
   clear hw0
   obtain ⟨x00,x01,x02⟩:=HX.out _ (Below.refl _ _)
   go_wp2
   go_ret
   exact ⟨rfl,HB.out⟩
  by_cases h4:c<1
  ·go_enter Tryz.func165,Tryz.ntmps165
   go_upto_region 1 with (fail)
   unfold GBox at hw0
   rw [← hw0]
   clear hw0
   obtain ⟨x00,x01,x02⟩:=HX.out _ (Below.refl _ _)
   go_wp2
   go_ret
   exact ⟨rfl,HB.out⟩
  have h5:64<c:=by
   unfold Ge.sz at hs
   omega
  go_enter Tryz.func165,Tryz.ntmps165
  go_upto_region 1 with (fail)
  unfold GBox at hw0
  rw [← hw0]
  clear hw0
  obtain ⟨x00,x01,x02⟩:=HX.out _ (Below.refl _ _)
  go_wp2
  go_ret
  exact ⟨rfl,HB.out⟩
theorem right_ok {a b c:Int} (h:Ge.ok a b c) (w:World):Calls Tryz.prog 165 #[.agg #[.int .i64 a,.int .i64 b,.int .i64 c]] w (Yes true w):=by
 have q:=right_anyE a b c w
 rw [decide_eq_true h] at q
 exact q
theorem right_no {a b c:Int} (h:¬ Ge.ok a b c) (w:World):Calls Tryz.prog 165 #[.agg #[.int .i64 a,.int .i64 b,.int .i64 c]] w (Yes false w):=by
 have q:=right_anyE a b c w
 rw [decide_eq_false h] at q
 exact q
set_option maxHeartbeats 2000000 in
set_option maxRecDepth 100000 in
theorem rcheck_any (a b c:Int) (w:World):Calls Tryz.prog 128 #[.agg #[.int .i64 a,.int .i64 b,.int .i64 c]] w (Num (Ge.ck a b c) w):=by
 obtain ⟨B0,HX⟩:=gbox a b c w
 obtain ⟨w0,hw0⟩:∃ x,x=w.alloc (GBox a b c):=⟨_,rfl⟩
 rw [← hw0] at B0 HX
 by_cases ho:Ge.ok a b c
 ·have hs:Ge.ck a b c=0:=by unfold Ge.ck;exact if_pos ho
  rw [hs]
  have HO:=Lib.hid ho
  go_enter Tryz.func128,Tryz.ntmps128
  go_upto_region 1 with (fail)
  unfold GBox at hw0
  rw [← hw0]
  clear hw0
  obtain ⟨x00,x01,x02⟩:=HX.out _ (Below.refl _ _)
  go_wp2_with ((go_at_call 165;refine (right_ok HO.out _).mono ?_;rintro e1 w1 ⟨rfl,hb1⟩;obtain ⟨x10,x11,x12⟩:=HX.out _ hb1))
  go_ret
  exact ⟨rfl,B0.out.trans (hb1.mono B0.out.size)⟩
 ·have hs:Ge.ck a b c=15:=by unfold Ge.ck;exact if_neg ho
  rw [hs]
  go_enter Tryz.func128,Tryz.ntmps128
  go_upto_region 1 with (fail)
  unfold GBox at hw0
  rw [← hw0]
  clear hw0
  obtain ⟨x00,x01,x02⟩:=HX.out _ (Below.refl _ _)
  go_wp2_with (go_at_call 165;refine (right_no ho _).mono ?_;rintro e1 w1 ⟨rfl,hb1⟩)
  go_ret
  exact ⟨rfl,B0.out.trans (hb1.mono B0.out.size)⟩
end

/-! SpHr:  -/
section
open Go.RowKit
theorem fgcheck_any (g:Sp.G) (w:World):Calls Tryz.prog 128 #[GV g] w (Num (Sp.ck g) w):=by
 unfold Sp.ck
 exact rcheck_any g.a g.b g.c w
theorem build_geo1 (a:Int):Tryz.prog.built 67 [(0,.int .i64 a)]=some (GA ⟨a,0,0⟩):=by kernel_rfl
set_option maxHeartbeats 1000000 in
set_option maxRecDepth 100000 in
theorem fsput_no (g:Sp.G) (hn:Sp.ck g=15) (w:World):Calls Tryz.prog 78 #[GV g] w (SPutNo w):=by
 obtain ⟨A,eA,hk⟩:=gk g
 have HC0:Hid (∀ y,Calls Tryz.prog 128 #[.agg A] y (Num 15 y)):=fun y=>by
  have:=fgcheck_any g y
  rw [hn,eA] at this
  exact this
 rw [eA]
 have HAS:=Lib.hid hk.size
 have h1:=hk.one
 have R0:Hid ((w.alloc (.cells A 67)).heap[w.heap.size]?=some (.cells A 67 (0,0))):=heap_alloc_new w _
 have B0:Hid (Below w.heap.size w (w.alloc (.cells A 67))):=(Below.refl _ w).alloc (Nat.le_refl _) _
 clear hk eA hn
 go_enter Tryz.func78,Tryz.ntmps78
 go_wp2_with (first
   | ((with_reducible refine row_load _ _ _ _ _ _ _ ?_ R0.out Tryz.underlying67 ?_ (row_size Tryz.sizeGeo HAS) ?_);(exact rfl);(exact rfl))
   | (go_at_call 128;refine (HC0.out _).mono ?_;rintro e1 w1 ⟨rfl,HB1⟩;have B1:=Lib.hid (B0.out.trans (HB1.mono B0.out.size))))
 go_ret2
 exact ⟨rfl,B1.out⟩
set_option maxHeartbeats 4000000 in
set_option maxRecDepth 100000 in
theorem fsput_yes (g:Sp.G) (hn:Sp.ck g=0) (w:World):Calls Tryz.prog 78 #[GV g] w (SPutYes (Sp.pt g) w):=by
 obtain ⟨A,eA,hk⟩:=gk g
 have HC0:Hid (∀ y,Calls Tryz.prog 128 #[.agg A] y (Num 0 y)):=fun y=>by
  have:=fgcheck_any g y
  rw [hn,eA] at this
  exact this
 have H0:Hid (∀ y,Calls Tryz.prog 112 #[.slice none 0 0,.int .i64 g.a] y (RowOf (Sp.p1 g) 8 y)):=fun y=>by
  have:=refint_any [] g.a none 0 0 8 rfl rfl (by omega) y (bs_none y)
  rw [Sp.s1] at this
  exact this
 have H1:Hid (∀ y q d,Bs y q d (Sp.p1 g)→Calls Tryz.prog 112 #[.slice q 8 d,.int .i64 g.b] y (RowOf (Sp.p2 g) 16 y)):=fun y q d hy=>by
  have:=refint_any (Sp.p1 g) g.b q 8 d 16 (Sp.p1_len g) rfl (by omega) y hy
  rw [Sp.s2] at this
  exact this
 have H2:Hid (∀ y q d,Bs y q d (Sp.p2 g)→Calls Tryz.prog 112 #[.slice q 16 d,.int .i64 g.c] y (RowOf (Sp.pt g) 24 y)):=fun y q d hy=>by
  have:=refint_any (Sp.p2 g) g.c q 16 d 24 (Sp.p2_len g) rfl (by omega) y hy
  rw [Sp.s3] at this
  exact this
 rw [eA]
 have HAS:=Lib.hid hk.size
 have h1:=hk.one
 have HX:=Lib.hid hk.at_
 obtain ⟨w0,hw0⟩:∃ x,x=w.alloc (.cells A 67):=⟨_,rfl⟩
 have R0:Hid (w0.heap[w.heap.size]?=some (.cells A 67 (0,0))):=by rw [hw0];exact heap_alloc_new w _
 have B0:Hid (Below w.heap.size w w0):=by rw [hw0];exact (Below.refl _ w).alloc (Nat.le_refl _) _
 have HL:Hid (∀ y,Below w0.heap.size w0 y→y.cell? ⟨w.heap.size,0,none⟩=some (.int .i64 g.a)∧y.cell? ⟨w.heap.size,1,none⟩=some (.int .i64 g.b)∧y.cell? ⟨w.heap.size,2,none⟩=some (.int .i64 g.c)):=fun y hy=>HX.out y _ _ ((hy.block _ (lt_of_block R0.out)).trans R0.out)
 clear hk eA hn HX
 go_enter Tryz.func78,Tryz.ntmps78
 go_upto_region 1 with (fail)
 change Code.wp _ _ _ _ (w.alloc (.cells A 67))
 rw [← hw0]
 clear hw0
 go_upto_region 4 with (first
   | ((with_reducible refine row_load _ _ _ _ _ _ _ ?_ R0.out Tryz.underlying67 ?_ (row_size Tryz.sizeGeo HAS) ?_);(exact rfl);(exact rfl))
   | (go_at_call 128;refine (HC0.out _).mono ?_;rintro e1 w1 ⟨rfl,HB1⟩))
 refine wp_region_any (by kernel_rfl) ?_
 change wpAny _ _ _ _ _ _ _ (World.drew _)
 have BB:Hid (Below w0.heap.size w0 w1.drew):=Lib.hid HB1.drew
 obtain ⟨z,hz⟩:∃ y,y=w1.drew:=⟨_,rfl⟩
 rw [← hz] at BB ⊢
 clear hz HB1 HC0
 refine wpAny_of_held (S:=fun y=>y.cell? ⟨w.heap.size,0,none⟩=some (.int .i64 g.a)∧y.cell? ⟨w.heap.size,1,none⟩=some (.int .i64 g.b)∧y.cell? ⟨w.heap.size,2,none⟩=some (.int .i64 g.c)) _ _ _ _ ?_
 have SD:=HL.out _ BB.out
 refine aH 0 10 (.pointer (some ⟨w.heap.size,0,none⟩)) SD rfl (by intro x hx;obtain ⟨y0,y1,y2⟩:=hx;go_simp;try (intro h;omega)) ?_
 try simp only [Act.put,zq1,zq2,zq3]
 refine aH 1 11 (.int .i64 g.a) SD rfl (by intro x hx;obtain ⟨y0,y1,y2⟩:=hx;go_simp;try (intro h;omega)) ?_
 try simp only [Act.put,zq1,zq2,zq3]
 refine aH 3 13 (.pointer (some ⟨w.heap.size,1,none⟩)) SD rfl (by intro x hx;obtain ⟨y0,y1,y2⟩:=hx;go_simp;try (intro h;omega)) ?_
 try simp only [Act.put,zq1,zq2,zq3]
 refine aH 4 14 (.int .i64 g.b) SD rfl (by intro x hx;obtain ⟨y0,y1,y2⟩:=hx;go_simp;try (intro h;omega)) ?_
 try simp only [Act.put,zq1,zq2,zq3]
 refine aH 6 16 (.pointer (some ⟨w.heap.size,2,none⟩)) SD rfl (by intro x hx;obtain ⟨y0,y1,y2⟩:=hx;go_simp;try (intro h;omega)) ?_
 try simp only [Act.put,zq1,zq2,zq3]
 refine aH 7 17 (.int .i64 g.c) SD rfl (by intro x hx;obtain ⟨y0,y1,y2⟩:=hx;go_simp;try (intro h;omega)) ?_
 try simp only [Act.put,zq1,zq2,zq3]
 refine anyH_one 2 (by kernel_rfl) ?_
 refine wpOp_step rfl (fun Kc hKc=>?_)
 go_simp
 refine (H0.out _).mono ?_
 rintro e3 w3 ⟨p3,c3,rfl,O3,H3,b3⟩
 have B3:Hid (Below w0.heap.size w0 w3):=BB.out.trans (b3.out.mono BB.out.size)
 dsimp only
 refine hKc _ _ ⟨HL.out _ B3.out,?_⟩
 clear hKc Kc
 try simp only [Act.put,zq1,zq2,zq3]
 clear SD
 have SD:=HL.out _ B3.out
 refine anyH_one 5 (by kernel_rfl) ?_
 refine wpOp_step rfl (fun Kc hKc=>?_)
 go_simp
 refine (H1.out _ _ _ H3.out).mono ?_
 rintro e4 w4 ⟨p4,c4,rfl,O4,H4,b4⟩
 have B4:Hid (Below w0.heap.size w0 w4):=B3.out.trans (b4.out.mono B3.out.size)
 dsimp only
 refine hKc _ _ ⟨HL.out _ B4.out,?_⟩
 clear hKc Kc
 try simp only [Act.put,zq1,zq2,zq3]
 clear SD
 have SD:=HL.out _ B4.out
 refine anyH_one 8 (by kernel_rfl) ?_
 refine wpOp_step rfl (fun Kc hKc=>?_)
 go_simp
 refine (H2.out _ _ _ H4.out).mono ?_
 rintro e5 w5 ⟨p5,c5,rfl,O5,H5,b5⟩
 have B5:Hid (Below w0.heap.size w0 w5):=B4.out.trans (b5.out.mono B4.out.size)
 dsimp only
 refine hKc _ _ ⟨HL.out _ B5.out,?_⟩
 clear hKc Kc
 try simp only [Act.put,zq1,zq2,zq3]
 clear SD
 have SD:=HL.out _ B5.out
 refine aH 9 2 (.slice p5 24 c5) SD rfl (by intro x hx;obtain ⟨y0,y1,y2⟩:=hx;go_simp;try (intro h;omega)) ?_
 try simp only [Act.put,zq1,zq2,zq3]
 refine aH 10 3 (.int .i64 0) SD rfl (by intro x hx;obtain ⟨y0,y1,y2⟩:=hx;go_simp;try (intro h;omega)) ?_
 try simp only [Act.put,zq1,zq2,zq3]
 refine wpAnyH_done (by kernel_rfl) ?_ _
 go_wp2
 go_ret2
 exact ⟨_,_,rfl,own_base O5.out (by have:=B4.out.size;have:=B0.out.size;omega),H5,B0.out.trans (B5.out.mono B0.out.size)⟩
set_option maxHeartbeats 4000000 in
set_option maxRecDepth 100000 in
theorem fsget_any (L:List Int) (p:Option Addr) (n c:Nat) (hn:L.length=n) (hL:n≤900000) (w:World) (hp:Bs w p c L) :
  Calls Tryz.prog 83 #[.slice p n c] w (SGot L w):=by
 have HP:=Lib.hid hp
 clear hp
 obtain ⟨Z,hZ⟩:∃ Z,Hid (GA ⟨0,0,0⟩=Z):=⟨_,rfl⟩
 have HZS:Hid (Z.size=3):=by show _=_;rw [← hZ.out];rfl
 have HZ1:Hid (Z.all (·.oneCell')=true):=by show _=_;rw [← hZ.out];simp [GA,Value.oneCell']
 have hz:=(zero_of_info Tryz.zeroGeo).1
 have HBT:=Lib.hid Tryz.builtGeo
 rw [hZ.out] at hz HBT
 have hzn:¬ Z = #[]:=fun h=>by have:=HZS.out;rw [h] at this;simp at this
 have hsz:=row_size Tryz.sizeGeo HZS
 have HC0:Hid (∀ y,Below w.heap.size w y→Calls Tryz.prog 102 #[.slice p n c] y (RfNew L y)):=fun y hy=>refread_any L p n c hn (by omega) y (HP.out.old hy)
 have HK0:Hid (∀ y g D,RfRd y g D L false→Calls Tryz.prog 103 #[.pointer (some ⟨g,0,none⟩)] y (RfSay (.int .i64 (Sp.gc L).a) (Sp.rs L 1) (Sp.bd L 1) g D y)):=fun y g D hy=>by
  rw [(Sp.n0 L).1,(Sp.n0 L).2.1,(Sp.n0 L).2.2]
  exact fint_any L false g D _ rfl y hy
 have HK1:Hid (∀ y g D,RfRd y g D (Sp.rs L 1) (Sp.bd L 1)→Calls Tryz.prog 103 #[.pointer (some ⟨g,0,none⟩)] y (RfSay (.int .i64 (Sp.gc L).b) (Sp.rs L 2) (Sp.bd L 2) g D y)):=fun y g D hy=>by
  rw [(Sp.n1 L).1,(Sp.n1 L).2.1,(Sp.n1 L).2.2]
  exact fint_any _ _ g D _ rfl y hy
 have HK2:Hid (∀ y g D,RfRd y g D (Sp.rs L 2) (Sp.bd L 2)→Calls Tryz.prog 103 #[.pointer (some ⟨g,0,none⟩)] y (RfSay (.int .i64 (Sp.gc L).c) (Sp.rs L 3) (Sp.bd L 3) g D y)):=fun y g D hy=>by
  rw [(Sp.n2 L).1,(Sp.n2 L).2.1,(Sp.n2 L).2.2]
  exact fint_any _ _ g D _ rfl y hy
 have HKE:Hid (∀ y g D,RfRd y g D (Sp.rs L 3) (Sp.bd L 3)→Calls Tryz.prog 110 #[.pointer (some ⟨g,0,none⟩)] y (EndSayP (Sp.en L) y)):=fun y g D hy=>by
  have h:=refend_any _ _ g D y hy
  rw [Sp.en_is] at h
  exact h
 have HN0:Hid (Sp.en L ≠ 0→Sp.er L=Sp.en L∧.agg Z=GV (Sp.gt L)):=fun h=>by
  have h1:Sp.er L=Sp.en L:=Sp.er_en h
  refine ⟨h1,?_⟩
  rw [Sp.gt_none (by rw [h1];exact h),← hZ.out,Sp.zero_is]
  rfl
 have HN1:Hid (Sp.en L=0→Sp.ck (Sp.gc L)=15→Sp.er L=15∧.agg Z=GV (Sp.gt L)):=fun h h2=>by
  have h1:Sp.er L=15:=by rw [Sp.er_ok h,h2]
  refine ⟨h1,?_⟩
  rw [Sp.gt_none (by omega),← hZ.out,Sp.zero_is]
  rfl
 have HN2:Hid (Sp.en L=0→Sp.ck (Sp.gc L)=0→Sp.er L=0∧GV (Sp.gc L)=GV (Sp.gt L)):=fun h h2=>by
  have h1:Sp.er L=0:=by rw [Sp.er_ok h,h2]
  exact ⟨h1,by rw [Sp.gt_some h1]⟩
 have HMB:Hid (∀ y,Calls Tryz.prog 128 #[GV (Sp.gc L)] y (Num (Sp.ck (Sp.gc L)) y)):=fun y=>fgcheck_any _ y
 have HOR:=Lib.hid (Sp.ck_or (Sp.gc L))
 have HBL:Hid (Tryz.prog.built 67 [(0,.int .i64 (Sp.gc L).a)]=some (GA ⟨(Sp.gc L).a,0,0⟩)):=build_geo1 _
 obtain ⟨A,eA,hk⟩:=gk (Sp.gc L)
 have HAS:=Lib.hid hk.size
 have HA1:=Lib.hid hk.one
 have eA2:GA (Sp.gc L)=A:=by unfold GV at eA;injection eA
 have HA2:=Lib.hid eA2.symm
 rw [eA] at HN2 HMB
 obtain ⟨en,hen⟩:∃ en,Hid (Sp.en L=en):=⟨_,rfl⟩
 rw [hen.out] at HKE HN0 HN1 HN2
 obtain ⟨q,hq⟩:∃ q,Hid (Sp.ck (Sp.gc L)=q):=⟨_,rfl⟩
 rw [hq.out] at HMB HN1 HN2 HOR
 generalize Sp.gc L=r at *
 obtain ⟨ga,gb,gc⟩:=r
 dsimp only at *
 have R0:Hid ((w.alloc (.cells Z 67)).heap[w.heap.size]?=some (.cells Z 67 (0,0))):=heap_alloc_new w _
 have B0:Hid (Below w.heap.size w (w.alloc (.cells Z 67))):=(Below.refl _ w).alloc (Nat.le_refl _) _
 have HSU:Hid (w.heap.size<(w.alloc (.cells Z 67)).heap.size):=by show _<_;simp
 clear hn hL HP hZ hk eA eA2 hen hq
 go_enter Tryz.func83,Tryz.ntmps83
 go_upto_region 1 with (fail)
 obtain ⟨w0,hw0⟩:∃ x,x=w.alloc (.cells Z 67):=⟨_,rfl⟩
 rw [← hw0] at B0 R0 HSU ⊢
 clear hw0
 go_upto_region 2 with (go_at_call 102;refine (HC0.out _ B0.out).mono ?_;rintro e1 w1 ⟨g,D,rfl,Q0,HG1,HB1⟩)
 have O0:Hid (Only g w1 w1):=Only.refl _ _
 have NE:Hid (w.heap.size ≠ g):=by have:=HSU.out;have:=HG1.out.1;show _ ≠ _;omega
 have BB1:Hid (Below w.heap.size w w1):=B0.out.trans (HB1.out.mono B0.out.size)
 have R1:Hid (∀ y,Only g w1 y→y.heap[w.heap.size]?=some (.cells Z 67 (0,0))):=fun y hy=>by
  have r1:=(HB1.out.block _ (lt_of_block R0.out)).trans R0.out
  exact (hy.block _ (lt_of_block r1) NE.out).trans r1
 have HGW:Hid (w.heap.size≤g):=Nat.le_trans B0.out.size HG1.out.1
 clear HC0 HB1 R0 B0
 have HAS1:Hid ((GA ⟨ga,0,0⟩).size=3):=rfl
 have HA11:Hid ((GA ⟨ga,0,0⟩).all (·.oneCell')=true):=by show _=_;simp [GA,Value.oneCell']
 go_upto_region 3 with (first
  | (go_at_call 103;have TT:=Q0.out;refine (HK0.out _ _ _ Q0.out).mono ?_;rintro e2 w2 ⟨rfl,Q1,OO1⟩;have O1:=Lib.hid (O0.out.trans OO1.out);clear OO1)
  | ((with_reducible refine row_buildN _ _ _ _ ?_ HBL.out ?_);(exact rfl))
  | ((with_reducible refine row_store _ _ _ _ _ _ _ ?_ ?_ (heap_alloc_new _ _) (row_size Tryz.sizeGeo HAS1) ?_ HA11.out ?_);(exact rfl);(exact rfl);(rw [HAS1.out,HZS.out]);intro wa Ga cha))
 have HGP:Hid (w.heap.size<w2.heap.size):=by have:=lt_of_block (R1.out _ O1.out);exact this
 have QA:Hid (RfRd wa g D (Sp.rs L 1) (Sp.bd L 1)):=by
  have a1:=Q1.out.old ((Below.refl _ w2).alloc (Nat.le_refl _) (.cells Z 67))
  exact a1.only cha.only (Nat.ne_of_gt Q1.out.glt) (fun h=>by have:=Q1.out.lt _ h;omega)
 have BA0:Hid (Below w.heap.size w wa):=by
  have a1:=O1.out.below BB1.out HGW.out BB1.out.size
  exact cha.below (a1.alloc a1.size _) a1.size
 have RA0:Hid (wa.heap[w.heap.size]?=some (.cells Z 67 (0,0))):=by
  have a1:=R1.out _ O1.out
  exact (cha.block _ (Nat.ne_of_lt HGP.out)).trans ((((Below.refl _ w2).alloc (Nat.le_refl _) _).block _ (lt_of_block a1)).trans a1)
 have HGG:Hid (g ≠ w2.heap.size∧w.heap.size≤g∧D ≠ some w2.heap.size):=⟨Nat.ne_of_lt Q1.out.glt,HGW.out,fun h=>by have:=Q1.out.lt _ h;omega⟩
 clear HK0 HBL Q0 Q1 O0 O1 R1 BB1 HG1 HGW cha HAS1 HA11
 generalize w2.heap.size=gp at *
 have Oa:Hid (Only g wa wa):=Only.refl _ _
 go_upto_region 4 with (go_at_call 103;have TT:=QA.out;refine (HK1.out _ _ _ QA.out).mono ?_;rintro e3 w3 ⟨rfl,Q2,OO2⟩;clear TT;have hr3:Hid (w3.heap[gp]?=some (.cells #[.int .i64 ga,.int .i64 0,.int .i64 0] 67 (0,0))):=(OO2.out.block _ (lt_of_block Ga) (Ne.symm HGG.out.1)).trans Ga;have hc3:w3.cell? ⟨gp,1,none⟩=some (.int .i64 0):=(by rw [cell_of_row _ _ _ _ _ _ hr3.out];rfl);have hf3:=frozen_of_row w3 gp 1 _ _ hr3.out)
 obtain ⟨wb,hwb⟩:∃ y,y=w3.setCell ⟨gp,1,none⟩ (.int .i64 gb):=⟨_,rfl⟩
 have Gb:Hid (wb.heap[gp]?=some (.cells #[.int .i64 ga,.int .i64 gb,.int .i64 0] 67 (0,0))):=by rw [hwb];exact (heap_setCell_same w3 gp 1 _ _ _ hr3.out).trans rfl
 have cb:Hid (Chg gp w3 wb):=by rw [hwb];exact Chg.setCell w3 ⟨gp,1,none⟩ _
 have QB:Hid (RfRd wb g D (Sp.rs L 2) (Sp.bd L 2)):=Q2.out.only cb.out.only (Ne.symm HGG.out.1) HGG.out.2.2
 have BB:Hid (Below w.heap.size w wb):=cb.out.below (OO2.out.below BA0.out HGG.out.2.1 BA0.out.size) (Nat.le_of_lt HGP.out)
 have RB0:Hid (wb.heap[w.heap.size]?=some (.cells Z 67 (0,0))):=(cb.out.block _ (Nat.ne_of_lt HGP.out)).trans ((OO2.out.block _ (lt_of_block RA0.out) NE.out).trans RA0.out)
 rw [← hwb]
 clear hwb hr3 hc3 hf3 Q2 OO2 QA BA0 RA0 Ga HK1 cb Oa
 go_upto_region 5 with (go_at_call 103;have TT:=QB.out;refine (HK2.out _ _ _ QB.out).mono ?_;rintro e4 w4 ⟨rfl,Q3,OO3⟩;have hr4:Hid (w4.heap[gp]?=some (.cells #[.int .i64 ga,.int .i64 gb,.int .i64 0] 67 (0,0))):=(OO3.out.block _ (lt_of_block Gb.out) (Ne.symm HGG.out.1)).trans Gb.out;have hc4:w4.cell? ⟨gp,2,none⟩=some (.int .i64 0):=(by rw [cell_of_row _ _ _ _ _ _ hr4.out];rfl);have hf4:=frozen_of_row w4 gp 2 _ _ hr4.out)
 obtain ⟨wa,hwa⟩:∃ y,y=w4.setCell ⟨gp,2,none⟩ (.int .i64 gc):=⟨_,rfl⟩
 have Ga:wa.heap[gp]?=some (.cells A 67 (0,0)):=by rw [hwa,HA2.out];exact (heap_setCell_same w4 gp 2 _ _ _ hr4.out).trans rfl
 have ca:Hid (Chg gp w4 wa):=by rw [hwa];exact Chg.setCell w4 ⟨gp,2,none⟩ _
 have QA:Hid (RfRd wa g D (Sp.rs L 3) (Sp.bd L 3)):=Q3.out.only ca.out.only (Ne.symm HGG.out.1) HGG.out.2.2
 have BA:Hid (Below w.heap.size w wa):=ca.out.below (OO3.out.below BB.out HGG.out.2.1 BB.out.size) (Nat.le_of_lt HGP.out)
 have RA:Hid (wa.heap[w.heap.size]?=some (.cells Z 67 (0,0))):=(ca.out.block _ (Nat.ne_of_lt HGP.out)).trans ((OO3.out.block _ (lt_of_block RB0.out) NE.out).trans RB0.out)
 rw [← hwa]
 clear hwa hr4 hc4 hf4 Q3 OO3 QB BB RB0 Gb HK2 ca HGG HA2 NE hz hzn
 have RE:=Lib.hid (HKE.out wa g D QA.out)
 have RZ:Hid (∀ x,Below wa.heap.size wa x→x.heap[w.heap.size]?=some (.cells Z 67 (0,0))):=fun x hx=>(hx.block _ (lt_of_block RA.out)).trans RA.out
 have RP:Hid (∀ x,Below wa.heap.size wa x→x.heap[gp]?=some (.cells A 67 (0,0))):=fun x hx=>(hx.block _ (lt_of_block Ga)).trans Ga
 have RB:Hid (∀ x,Below wa.heap.size wa x→Below w.heap.size w x):=fun x hx=>BA.out.trans (hx.mono BA.out.size)
 clear HKE QA RA BA Ga
 by_cases h0:en=0
 ·subst h0
  rcases HOR.out with hq | hq
  ·subst hq
   have HE:=Lib.hid (HN2.out rfl rfl)
   clear HN0 HN1 HN2 HOR
   go_wp2_with (first
    | (go_at_call 110;refine RE.out.mono ?_;rintro e17 w17 ⟨rfl,hb7⟩;have HB7:=Lib.hid hb7;clear hb7)
    | ((with_reducible refine row_load _ _ _ _ _ _ _ ?_ (RP.out _ HB9.out) Tryz.underlying67 ?_ (row_size Tryz.sizeGeo HAS) ?_);(exact rfl);(exact rfl))
    | ((with_reducible refine row_load _ _ _ _ _ _ _ ?_ (RP.out _ HB7.out) Tryz.underlying67 ?_ (row_size Tryz.sizeGeo HAS) ?_);(exact rfl);(exact rfl))
    | (go_at_call 128;refine (HMB.out _).mono ?_;rintro e18 w18 ⟨rfl,HB8⟩;have HB9:=Lib.hid (HB7.out.trans (HB8.mono HB7.out.size)))
    | ((with_reducible refine row_store _ _ _ _ _ _ _ ?_ ?_ (RZ.out _ HB9.out) (row_size Tryz.sizeGeo HAS) ?_ HA1.out ?_);(exact rfl);(exact rfl);(rw [HAS.out,HZS.out]);intro w19 G9 ch9))
   refine bodyPost_ret (results_cell_tmp rfl _ _ w.heap.size 67 A (0,0) _ rfl G9 Tryz.underlying67 rfl (row_size Tryz.sizeGeo HAS)) rfl ⟨?_,ch9.below (RB.out _ HB9.out) (Nat.le_refl _)⟩
   rw [HE.out.1,← HE.out.2];rfl
  ·subst hq
   have HE:=Lib.hid (HN1.out rfl rfl)
   clear HN0 HN1 HN2 HOR
   go_wp2_with (first
    | (go_at_call 110;refine RE.out.mono ?_;rintro e17 w17 ⟨rfl,hb7⟩;have HB7:=Lib.hid hb7;clear hb7)
    | ((with_reducible refine row_load _ _ _ _ _ _ _ ?_ (RP.out _ HB7.out) Tryz.underlying67 ?_ (row_size Tryz.sizeGeo HAS) ?_);(exact rfl);(exact rfl))
    | (go_at_call 128;refine (HMB.out _).mono ?_;rintro e18 w18 ⟨rfl,HB8⟩;have HB9:=Lib.hid (HB7.out.trans (HB8.mono HB7.out.size)))
    | ((with_reducible refine row_build0 _ _ HBT.out ?_))
    | ((with_reducible refine row_store _ _ _ _ _ _ _ ?_ ?_ (RZ.out _ HB9.out) (row_size Tryz.sizeGeo HZS) ?_ HZ1.out ?_);(exact rfl);(exact rfl);(exact rfl);intro w19 G9 ch9))
   refine bodyPost_ret (results_cell_tmp rfl _ _ w.heap.size 67 Z (0,0) _ rfl G9 Tryz.underlying67 rfl (row_size Tryz.sizeGeo HZS)) rfl ⟨?_,ch9.below (RB.out _ HB9.out) (Nat.le_refl _)⟩
   rw [HE.out.1,← HE.out.2];rfl
 ·have HE:=Lib.hid (HN0.out h0)
  have hb0:(en==0)=false:=by simpa using h0
  clear HN0 HN1 HN2 HOR
  go_wp2_with (first
   | (go_at_call 110;refine RE.out.mono ?_;rintro e17 w17 ⟨rfl,hb7⟩;have HB7:=Lib.hid hb7;clear hb7)
   | ((with_reducible refine row_build0 _ _ HBT.out ?_))
   | ((with_reducible refine row_store _ _ _ _ _ _ _ ?_ ?_ (RZ.out _ HB7.out) (row_size Tryz.sizeGeo HZS) ?_ HZ1.out ?_);(exact rfl);(exact rfl);(exact rfl);intro w19 G9 ch9))
  refine bodyPost_ret (results_cell_tmp rfl _ _ w.heap.size 67 Z (0,0) _ rfl G9 Tryz.underlying67 rfl (row_size Tryz.sizeGeo HZS)) rfl ⟨?_,ch9.below (RB.out _ HB7.out) (Nat.le_refl _)⟩
  rw [HE.out.1,← HE.out.2];rfl
set_option maxRecDepth 100000 in
theorem crsum_any (K:List Int) (B g:Nat) (b:List Int) (p:Option Addr) (n c:Nat) (hn:b.length=n) (hnl:n≤1000000) (w:World) (hg:CrAt B w g K) (hb:Bs w p c b) (ht:Tab w 0) :
  Calls Tryz.prog 81 #[.pointer (some ⟨g,0,none⟩),.slice p n c] w (RowSay (Sha.dg b) w):=by
 obtain ⟨gb,h0,h1,h2⟩:=hg
 obtain ⟨w0,hw0⟩:∃ x,x=w.alloc (.cells (List.replicate 32 (Value.int .u8 0)).toArray 39):=⟨_,rfl⟩
 have B0:Hid (Below w.heap.size w w0):=by rw [hw0];exact (Below.refl _ w).alloc (Nat.le_refl _) _
 have R0:Hid (w0.heap[w.heap.size]?=some (.cells (List.replicate 32 (Value.int .u8 0)).toArray 39 (0,0))):=by rw [hw0];exact heap_alloc_new w _
 obtain ⟨A,HA1,HA2,HA3⟩:∃ A:Array Value,Hid (A=((Sha.dg b).map (Value.int .u8)).toArray)∧Hid (A.size=32)∧Hid (A.all (·.oneCell')=true) :=
  ⟨_,rfl,by show _=_;simp [dg_len],all_oneCell_toArray (bytes_one _)⟩
 have c0:w0.cell? ⟨g,0,none⟩=some (.pointer (some ⟨gb,0,none⟩)):=by rw [cell_of_row _ g 0 _ _ _ ((B0.out.block _ (lt_of_block h1)).trans h1)];rfl
 have HR:Hid (Calls Tryz.prog 130 #[.pointer (some ⟨gb,0,none⟩),.slice p n c] w0 (RowSay (Sha.dg b) w0)):=refsum_any b _ p n c hn hnl w0 (hb.old B0.out) (ht.below B0.out ht.lt)
 clear h1 h2 hb ht
 go_enter Tryz.func81,Tryz.ntmps81
 go_upto_region 1 with (fail)
 change Code.wp _ _ _ _ (w.alloc (.cells (List.replicate 32 (Value.int .u8 0)).toArray 39))
 rw [← hw0]
 clear hw0
 go_wp2_with (first
  | (go_at_call 130;refine HR.out.mono ?_;rintro e w1 ⟨rfl,hb1⟩;rw [← HA1.out];have B1:Hid (Below w.heap.size w w1):=B0.out.trans (hb1.mono B0.out.size);have R1:=Lib.hid ((hb1.block _ (lt_of_block R0.out)).trans R0.out);clear hb1)
  | ((with_reducible refine row_store _ _ _ _ _ _ _ ?_ ?_ R1.out (row_size Tryz.sizeSum HA2) ?_ HA3.out ?_);(exact rfl);(exact rfl);(rw [HA2.out];rfl);intro w6 G6 ch6))
 refine bodyPost_ret (results_cell_row rfl _ _ w.heap.size 39 A (0,0) _ rfl G6.out Tryz.underlying39 rfl (row_size Tryz.sizeSum HA2)) rfl ⟨?_,ch6.below B1.out (Nat.le_refl _)⟩
 rw [HA1.out]
end
end Go.Proofs.YtnnalemboeccbaaGreatDoor

/-
  SpZ3, SpZ4, SpZ5 (merged)
-/
import Derived.Test.YtnnalemboeccbaaGreatDoorSp3
import Derived.Test.YtnnalemboeccbaaGreatDoorDk5
namespace Go.Proofs.YtnnalemboeccbaaGreatDoor

/-! SpZ3:  -/
section
open Go.RowKit
def RrSay (g:Sp.G) (v:List Int) (n:Int) (T:Nat→Prop) (r qb:Nat) (m':Dk.M) (ks:List Nat) (Q:World→Prop) (w:World) (e:Ending) (w':World):Prop :=
 e = .returned (.tuple #[GV g,A32 v,.int .i64 n])∧Hid (RfAt w' (Own T w w') r qb m')∧Hid (Mv (r :: qb :: ks) w w')∧Hid (Q w')
set_option maxHeartbeats 4000000 in
set_option maxRecDepth 100000 in
theorem rread_none (a0:Addr) {T:Nat→Prop} {r qb:Nat} {m:Dk.M} (w:World) (hd:RfAt w T r qb m) (hrd:∀ j,m.rd j≤1000000000) (P:World→Prop) (hp:P w) (hmv:∀ y z,P y→Mv [r,qb] y z→P z) (hst:∀ y z k,P y→Only k y z→w.heap.size≤k→P z) (hb:Dk.rdX m 0 = []) :
  Calls Tryz.prog 38 #[.pointer (some ⟨r,0,none⟩),.pointer (some a0)] w (RrSay Sp.zero Rg.z32 9 T r qb (Dk.rdM m 0) [] P w):=by
 obtain ⟨Z,hZ⟩:∃ Z,Hid (GA ⟨0,0,0⟩=Z):=⟨_,rfl⟩
 have HZS:Hid (Z.size=3):=by show _=_;rw [← hZ.out];rfl
 have HZ1:Hid (Z.all (·.oneCell')=true):=by show _=_;rw [← hZ.out];simp [GA,Value.oneCell']
 have hz:=(zero_of_info Tryz.zeroGeo).1
 have HBT:=Lib.hid Tryz.builtGeo
 rw [hZ.out] at hz HBT
 have hzn:¬ Z = #[]:=fun h=>by have:=HZS.out;rw [h] at this;simp at this
 have hsz:=row_size Tryz.sizeGeo HZS
 have HZV:Hid (GV Sp.zero = .agg Z):=by show _=_;rw [← hZ.out,Sp.zero_is];rfl
 clear hZ
 obtain ⟨S0,hS0⟩:∃ S0,Hid (sA Rg.z32=S0):=⟨_,rfl⟩
 have HSS:Hid (S0.size=32):=by show _=_;rw [← hS0.out];exact sa_size z32_len
 have HS1:Hid (S0.all (·.oneCell')=true):=by show _=_;rw [← hS0.out];exact sa_one _
 have hzs:=(zero_of_info Tryz.zeroSumS).1
 have HBS:=Lib.hid Tryz.builtSumS
 rw [hS0.out] at hzs HBS
 have hzsn:¬ S0 = #[]:=fun h=>by have:=HSS.out;rw [h] at this;simp at this
 have hszs:=row_size Tryz.sizeSum HSS
 have HSV:Hid (A32 Rg.z32 = .agg S0):=by show _=_;rw [← hS0.out,a32_is]
 clear hS0
 have HD:=Lib.hid hd
 have HST:=Lib.hid hst
 have HMV:=Lib.hid hmv
 have HPW:=Lib.hid hp
 have HNT:Hid (∀ k,w.heap.size≤k→¬ T k):=fun k hk h=>by have:=hd.top k h;omega
 have HLT:Hid (∀ k∈[r,qb],k<w.heap.size):=fun k hk=>by
  simp only [List.mem_cons,List.not_mem_nil,or_false] at hk
  rcases hk with rfl | rfl
  ·exact hd.top _ hd.lt.1
  ·exact hd.top _ hd.lt.2
 obtain ⟨w0,hw0⟩:∃ x,x=(w.alloc (.cells Z 67)).alloc (.cells S0 39):=⟨_,rfl⟩
 have R0:Hid (w0.heap[w.heap.size]?=some (.cells Z 67 (0,0))):=by rw [hw0];exact heap_alloc2_old w _ _
 have Z0:Hid (w0.heap[w.heap.size+1]?=some (.cells S0 39 (0,0))):=by rw [hw0];exact heap_alloc2_new w _ _
 have B0:Hid (Below w.heap.size w w0):=by rw [hw0];exact ((Below.refl _ w).alloc (Nat.le_refl _) _).alloc (by simp) _
 have HRD:Hid (Calls Tryz.prog 50 #[.pointer (some ⟨r,0,none⟩),.int .i64 0] w0 (RfRdD T r qb m 0 w0)):=refread_anyD 0 w0 (hd.old B0.out) hrd
 have HKP:Hid (∀ y,Mv [r,qb] w0 y→y.heap[w.heap.size]?=some (.cells Z 67 (0,0))∧y.heap[w.heap.size+1]?=some (.cells S0 39 (0,0))):=fun y hy =>
  ⟨(hy.block _ (lt_of_block R0.out) (fun h=>by have:=HLT.out _ h;omega)).trans R0.out,(hy.block _ (lt_of_block Z0.out) (fun h=>by have:=HLT.out _ h;omega)).trans Z0.out⟩
 have HP0:Hid (P w0):=hst w w0 w.heap.size hp (only_of_below B0.out) (Nat.le_refl _)
 have HVB:Hid (∀ (y:World) (v:Value),y.ownsRow w0.heap.size 5 1 v (Dk.rdX m 0).length (U8s (Dk.rdX m 0))∧Sha.Byt (Dk.rdX m 0)→∃ p c,v = .slice p (Dk.rdX m 0).length c∧Bs y p c (Dk.rdX m 0)):=fun y v hv=>by
  obtain ⟨p,c,h1,h2,_⟩:=own_bs hv.1 hv.2
  exact ⟨p,c,h1,h2⟩
 unfold RfRdD at HRD
 clear hd hst hmv hp hrd
 rw [hb] at HVB HRD
 have HVB:Hid (∀ (y:World) (v:Value),y.ownsRow w0.heap.size 5 1 v ([]:List Int).length (U8s [])∧Sha.Byt []→∃ p c,v = .slice p 0 c∧Bs y p c []):=HVB
 go_enter Tryz.func38,Tryz.ntmps38
 go_upto_region 1 with (fail)
 change Code.wp _ _ _ _ ((w.alloc (.cells Z 67)).alloc (.cells S0 39))
 rw [← hw0]
 clear hw0
 go_upto_region 2 with (go_at_call 50;refine HRD.out.mono ?_;rintro e1 w1 ⟨v1,rfl,hv1,HD1,HM1⟩;obtain ⟨q1,c1,hq1,hB1⟩:=HVB.out _ _ hv1.out;subst hq1;have HB1:=Lib.hid hB1;clear hB1 hv1)
 have K1:=Lib.hid (HKP.out _ HM1.out)
 have HP1:Hid (P w1):=HMV.out _ _ HP0.out HM1.out
 have HMW:Hid (Mv [r,qb] w w1):=(Mv.of_below B0.out).trans HM1.out
 have HL1:Hid (w.heap.size+1<w1.heap.size):=lt_of_block K1.out.2
 clear HRD HVB HKP HP0 R0 Z0
 go_wp2_with (first
  | ((with_reducible refine row_build0 _ _ HBT.out ?_))
  | ((with_reducible refine row_build0 _ _ HBS.out ?_))
  | ((with_reducible refine row_store _ _ _ _ _ _ _ ?_ ?_ ((ch8.block _ (by omega)).trans K1.out.2) (row_size Tryz.sizeSum HSS) ?_ HS1.out ?_);(exact rfl);(exact rfl);(exact rfl);intro w9 G9 ch9)
  | ((with_reducible refine row_store _ _ _ _ _ _ _ ?_ ?_ K1.out.1 (row_size Tryz.sizeGeo HZS) ?_ HZ1.out ?_);(exact rfl);(exact rfl);(exact rfl);intro w8 G8 ch8))
 have e8:w9.heap[w.heap.size]?=some (.cells Z 67 (0,0)):=(ch9.block _ (by omega)).trans G8.out
 refine bodyPost_ret (results_cell2_tmp rfl _ _ w.heap.size 67 Z (0,0) _ (w.heap.size+1) 39 S0 (0,0) _ rfl e8 Tryz.underlying67 rfl (row_size Tryz.sizeGeo HZS) rfl G9 Tryz.underlying39 rfl (row_size Tryz.sizeSum HSS)) rfl ?_
 refine ⟨by rw [HSV.out,HZV.out];rfl,?_,mv_chg (mv_chg (HMW.out.more ks2) ch8 (Nat.le_refl _)) ch9 (by omega),HST.out _ _ _ (HST.out _ _ _ HP1.out ch8.only (Nat.le_refl _)) ch9.only (by omega)⟩
 exact Lib.hid <| RfAt.own ((HD1.out.only ch8.only (HNT.out _ (Nat.le_refl _))).only ch9.only (HNT.out _ (by omega))) _
end

/-! SpZ4:  -/
section
open Go.RowKit
set_option maxHeartbeats 4000000 in
set_option maxRecDepth 100000 in
theorem rread_bad (a0:Addr) {T:Nat→Prop} {r qb:Nat} {m:Dk.M} (w:World) (hd:RfAt w T r qb m) (hrd:∀ j,m.rd j≤1000000000) (P:World→Prop) (hp:P w) (hmv:∀ y z,P y→Mv [r,qb] y z→P z) (hst:∀ y z k,P y→Only k y z→w.heap.size≤k→P z) (X:Int × Sc.S) (hGL:X.2.L.length≤900000) (hb:0<(Dk.rdX m 0).length)
  (hget:∀ z q n c,P z→(Dk.rdX m 0).length=n→Bs z q c (Dk.rdX m 0)→Calls Tryz.prog 54 #[.pointer (some a0),.int .i64 1,.int .i64 0,.slice q n c] z (LGet X z)) (hn:Sp.hd X=none) :
  Calls Tryz.prog 38 #[.pointer (some ⟨r,0,none⟩),.pointer (some a0)] w (RrSay Sp.zero Rg.z32 14 T r qb (Dk.rdM m 0) [] P w):=by
 obtain ⟨Z,hZ⟩:∃ Z,Hid (GA ⟨0,0,0⟩=Z):=⟨_,rfl⟩
 have HZS:Hid (Z.size=3):=by show _=_;rw [← hZ.out];rfl
 have HZ1:Hid (Z.all (·.oneCell')=true):=by show _=_;rw [← hZ.out];simp [GA,Value.oneCell']
 have hz:=(zero_of_info Tryz.zeroGeo).1
 have HBT:=Lib.hid Tryz.builtGeo
 rw [hZ.out] at hz HBT
 have hzn:¬ Z = #[]:=fun h=>by have:=HZS.out;rw [h] at this;simp at this
 have hsz:=row_size Tryz.sizeGeo HZS
 have HZV:Hid (GV Sp.zero = .agg Z):=by show _=_;rw [← hZ.out,Sp.zero_is];rfl
 clear hZ
 obtain ⟨S0,hS0⟩:∃ S0,Hid (sA Rg.z32=S0):=⟨_,rfl⟩
 have HSS:Hid (S0.size=32):=by show _=_;rw [← hS0.out];exact sa_size z32_len
 have HS1:Hid (S0.all (·.oneCell')=true):=by show _=_;rw [← hS0.out];exact sa_one _
 have hzs:=(zero_of_info Tryz.zeroSumS).1
 have HBS:=Lib.hid Tryz.builtSumS
 rw [hS0.out] at hzs HBS
 have hzsn:¬ S0 = #[]:=fun h=>by have:=HSS.out;rw [h] at this;simp at this
 have hszs:=row_size Tryz.sizeSum HSS
 have HSV:Hid (A32 Rg.z32 = .agg S0):=by show _=_;rw [← hS0.out,a32_is]
 clear hS0
 have HD:=Lib.hid hd
 have HST:=Lib.hid hst
 have HMV:=Lib.hid hmv
 have HPW:=Lib.hid hp
 have HNT:Hid (∀ k,w.heap.size≤k→¬ T k):=fun k hk h=>by have:=hd.top k h;omega
 have HLT:Hid (∀ k∈[r,qb],k<w.heap.size):=fun k hk=>by
  simp only [List.mem_cons,List.not_mem_nil,or_false] at hk
  rcases hk with rfl | rfl
  ·exact hd.top _ hd.lt.1
  ·exact hd.top _ hd.lt.2
 obtain ⟨w0,hw0⟩:∃ x,x=(w.alloc (.cells Z 67)).alloc (.cells S0 39):=⟨_,rfl⟩
 have R0:Hid (w0.heap[w.heap.size]?=some (.cells Z 67 (0,0))):=by rw [hw0];exact heap_alloc2_old w _ _
 have Z0:Hid (w0.heap[w.heap.size+1]?=some (.cells S0 39 (0,0))):=by rw [hw0];exact heap_alloc2_new w _ _
 have B0:Hid (Below w.heap.size w w0):=by rw [hw0];exact ((Below.refl _ w).alloc (Nat.le_refl _) _).alloc (by simp) _
 have HRD:Hid (Calls Tryz.prog 50 #[.pointer (some ⟨r,0,none⟩),.int .i64 0] w0 (RfRdD T r qb m 0 w0)):=refread_anyD 0 w0 (hd.old B0.out) hrd
 have HKP:Hid (∀ y,Mv [r,qb] w0 y→y.heap[w.heap.size]?=some (.cells Z 67 (0,0))∧y.heap[w.heap.size+1]?=some (.cells S0 39 (0,0))):=fun y hy =>
  ⟨(hy.block _ (lt_of_block R0.out) (fun h=>by have:=HLT.out _ h;omega)).trans R0.out,(hy.block _ (lt_of_block Z0.out) (fun h=>by have:=HLT.out _ h;omega)).trans Z0.out⟩
 have HP0:Hid (P w0):=hst w w0 w.heap.size hp (only_of_below B0.out) (Nat.le_refl _)
 have HVB:Hid (∀ (y:World) (v:Value),y.ownsRow w0.heap.size 5 1 v (Dk.rdX m 0).length (U8s (Dk.rdX m 0))∧Sha.Byt (Dk.rdX m 0)→∃ p c,v = .slice p (Dk.rdX m 0).length c∧Bs y p c (Dk.rdX m 0)):=fun y v hv=>by
  obtain ⟨p,c,h1,h2,_⟩:=own_bs hv.1 hv.2
  exact ⟨p,c,h1,h2⟩
 unfold RfRdD at HRD
 clear hd hst hmv hp hrd
 obtain ⟨x1,kk,ee,nn,aa,L⟩:=X
 dsimp only at hGL
 have HGE:Hid (∀ z q c,P z→Bs z q c (Dk.rdX m 0)→Calls Tryz.prog 54 #[.pointer (some a0),.int .i64 1,.int .i64 0,.slice q (Dk.rdX m 0).length c] z (LGet (x1,⟨kk,ee,nn,aa,L⟩) z)):=fun z q c hz hbs=>hget z q _ c hz rfl hbs
 have hlen:¬ ((Dk.rdX m 0).length:Int)=0:=by omega
 have hlen2:(((Dk.rdX m 0).length:Int)==0)=false:=by simpa using hlen
 have HG2:Hid (∀ y q n c,L.length=n→Bs y q c L→Calls Tryz.prog 83 #[.slice q n c] y (SGot L y)):=fun y q n c hn hy=>fsget_any L q n c hn (by omega) y hy
 unfold SGot at HG2
 have hbad:x1 ≠ 0∨(x1=0∧Sp.er L ≠ 0)∨(x1=0∧Sp.er L=0∧nn ≠ 0):=by
  by_cases q1:x1=0
  ·by_cases q2:Sp.er L=0
   ·by_cases q3:nn=0
    ·rw [Sp.hd_4 (X:=(x1,⟨kk,ee,nn,aa,L⟩)) q1 q3 q2] at hn
     cases hn
    ·exact Or.inr (Or.inr ⟨q1,q2,q3⟩)
   ·exact Or.inr (Or.inl ⟨q1,q2⟩)
  ·exact Or.inl q1
 obtain ⟨A,eA,hk⟩:=gk (Sp.gt L)
 have HAS:=Lib.hid hk.size
 have HA1:=Lib.hid hk.one
 rw [eA] at HG2
 clear hget hGL hn hb hk eA
 generalize Sp.er L=er at *
 generalize Dk.rdX m 0=B at *
 go_enter Tryz.func38,Tryz.ntmps38
 go_upto_region 1 with (fail)
 change Code.wp _ _ _ _ ((w.alloc (.cells Z 67)).alloc (.cells S0 39))
 rw [← hw0]
 clear hw0
 go_upto_region 2 with (go_at_call 50;refine HRD.out.mono ?_;rintro e1 w1 ⟨v1,rfl,hv1,HD1,HM1⟩;obtain ⟨q1,c1,hq1,hB1⟩:=HVB.out _ _ hv1.out;subst hq1;have HB1:=Lib.hid hB1;clear hB1 hv1)
 have K1:=Lib.hid (HKP.out _ HM1.out)
 have HP1:Hid (P w1):=HMV.out _ _ HP0.out HM1.out
 have HMW:Hid (Mv [r,qb] w w1):=(Mv.of_below B0.out).trans HM1.out
 have HL1:Hid (w.heap.size+1<w1.heap.size):=lt_of_block K1.out.2
 clear HRD HVB HKP HP0 R0 Z0
 go_upto_region 5 with (go_at_call 54;refine (HGE.out _ _ _ HP1.out HB1.out).mono ?_;rintro e2 w2 ⟨u2,m2,d2,rfl,hm2,HO2,HS2,hb2⟩;have HB2:=Lib.hid hb2;have HN2:=Lib.hid hm2;clear hb2 hm2)
 obtain ⟨w3,hw3⟩:∃ y,y=w2.alloc (SO kk ee nn aa u2 m2 d2):=⟨_,rfl⟩
 have HB3:Hid (Below w1.heap.size w1 w3):=by rw [hw3];exact HB2.out.alloc HB2.out.size _
 have HS3:Hid (Bs w3 u2 d2 L):=by rw [hw3];exact HS2.out.old ((Below.refl _ w2).alloc (Nat.le_refl _) _)
 have HA3:Hid (SAt w3 w2.heap.size kk ee nn aa u2 m2 d2):=by rw [hw3];exact SAt.new w2 _ _ _ _ _ _ _
 change Code.wp _ _ _ _ (w2.alloc (SO kk ee nn aa u2 m2 d2))
 rw [← hw3]
 clear hw3 HO2 HS2 HGE HB2
 generalize w2.heap.size=gs at *
 have c4:=HA3.out.c4
 go_upto_region 6 with (first
  | (go_at_call 83;refine (HG2.out _ _ _ _ HN2.out HS3.out).mono ?_;rintro e4 w4 ⟨rfl,HB4⟩)
  | ((with_reducible refine row_store _ _ _ _ _ _ _ ?_ ?_ (heap_alloc_new _ _) (row_size Tryz.sizeGeo HAS) ?_ HA1.out ?_);(exact rfl);(exact rfl);(rw [HAS.out,HZS.out]);intro w5 G5 ch5))
 have HX5:Hid (Below w1.heap.size w1 w5):=(HB3.out.trans ((ch5.below (HB4.out.alloc HB4.out.size _) HB4.out.size).mono HB3.out.size))
 have HA5:Hid (SAt w5 gs kk ee nn aa u2 m2 d2):=HA3.out.old (ch5.below (HB4.out.alloc HB4.out.size _) HB4.out.size)
 have c2:=HA5.out.c2
 have HB4x:=HX5
 have K5:Hid (w5.heap[w.heap.size]?=some (.cells Z 67 (0,0))∧w5.heap[w.heap.size+1]?=some (.cells S0 39 (0,0))):=⟨(HX5.out.block _ (lt_of_block K1.out.1)).trans K1.out.1,(HX5.out.block _ (lt_of_block K1.out.2)).trans K1.out.2⟩
 have HP5:Hid (P w5):=HST.out _ _ _ HP1.out (only_of_below (g:=w1.heap.size) HX5.out) (by have:=HL1.out;omega)
 clear ch5 HB4 HG2 c4 G5 HS3 HA3 HB3
 rcases hbad with h | ⟨rfl,h⟩ | ⟨rfl,rfl,h⟩
 ·have hb0:(x1==0)=false:=by simpa using h
  have hb1:(x1 != 0)=true:=by simpa using h
  clear h
  go_wp2_with (first
   | ((with_reducible refine row_build0 _ _ HBT.out ?_))
   | ((with_reducible refine row_build0 _ _ HBS.out ?_))
   | ((with_reducible refine row_store _ _ _ _ _ _ _ ?_ ?_ ((ch8.block _ (by omega)).trans K5.out.2) (row_size Tryz.sizeSum HSS) ?_ HS1.out ?_);(exact rfl);(exact rfl);(exact rfl);intro w9 G9 ch9)
   | ((with_reducible refine row_store _ _ _ _ _ _ _ ?_ ?_ K5.out.1 (row_size Tryz.sizeGeo HZS) ?_ HZ1.out ?_);(exact rfl);(exact rfl);(exact rfl);intro w8 G8 ch8))
  have e8:w9.heap[w.heap.size]?=some (.cells Z 67 (0,0)):=(ch9.block _ (by omega)).trans G8.out
  refine bodyPost_ret (results_cell2_tmp rfl _ _ w.heap.size 67 Z (0,0) _ (w.heap.size+1) 39 S0 (0,0) _ rfl e8 Tryz.underlying67 rfl (row_size Tryz.sizeGeo HZS) rfl G9 Tryz.underlying39 rfl (row_size Tryz.sizeSum HSS)) rfl ?_
  refine ⟨by rw [HSV.out,HZV.out];rfl,?_,mv_chg (mv_chg ((HMW.out.trans (Mv.of_below HX5.out)).more ks2) ch8 (Nat.le_refl _)) ch9 (by omega),HST.out _ _ _ (HST.out _ _ _ HP5.out ch8.only (Nat.le_refl _)) ch9.only (by omega)⟩
  exact Lib.hid <| RfAt.own (((HD1.out.old HX5.out).only ch8.only (HNT.out _ (Nat.le_refl _))).only ch9.only (HNT.out _ (by omega))) _
 ·have hb0:(er==0)=false:=by simpa using h
  have hb1:(er != 0)=true:=by simpa using h
  clear h
  go_wp2_with (first
   | ((with_reducible refine row_build0 _ _ HBT.out ?_))
   | ((with_reducible refine row_build0 _ _ HBS.out ?_))
   | ((with_reducible refine row_store _ _ _ _ _ _ _ ?_ ?_ ((ch8.block _ (by omega)).trans K5.out.2) (row_size Tryz.sizeSum HSS) ?_ HS1.out ?_);(exact rfl);(exact rfl);(exact rfl);intro w9 G9 ch9)
   | ((with_reducible refine row_store _ _ _ _ _ _ _ ?_ ?_ K5.out.1 (row_size Tryz.sizeGeo HZS) ?_ HZ1.out ?_);(exact rfl);(exact rfl);(exact rfl);intro w8 G8 ch8))
  have e8:w9.heap[w.heap.size]?=some (.cells Z 67 (0,0)):=(ch9.block _ (by omega)).trans G8.out
  refine bodyPost_ret (results_cell2_tmp rfl _ _ w.heap.size 67 Z (0,0) _ (w.heap.size+1) 39 S0 (0,0) _ rfl e8 Tryz.underlying67 rfl (row_size Tryz.sizeGeo HZS) rfl G9 Tryz.underlying39 rfl (row_size Tryz.sizeSum HSS)) rfl ?_
  refine ⟨by rw [HSV.out,HZV.out];rfl,?_,mv_chg (mv_chg ((HMW.out.trans (Mv.of_below HX5.out)).more ks2) ch8 (Nat.le_refl _)) ch9 (by omega),HST.out _ _ _ (HST.out _ _ _ HP5.out ch8.only (Nat.le_refl _)) ch9.only (by omega)⟩
  exact Lib.hid <| RfAt.own (((HD1.out.old HX5.out).only ch8.only (HNT.out _ (Nat.le_refl _))).only ch9.only (HNT.out _ (by omega))) _
 ·have hb0:(nn==0)=false:=by simpa using h
  have hb1:(nn != 0)=true:=by simpa using h
  clear h
  go_wp2_with (first
   | ((with_reducible refine row_build0 _ _ HBT.out ?_))
   | ((with_reducible refine row_build0 _ _ HBS.out ?_))
   | ((with_reducible refine row_store _ _ _ _ _ _ _ ?_ ?_ ((ch8.block _ (by omega)).trans K5.out.2) (row_size Tryz.sizeSum HSS) ?_ HS1.out ?_);(exact rfl);(exact rfl);(exact rfl);intro w9 G9 ch9)
   | ((with_reducible refine row_store _ _ _ _ _ _ _ ?_ ?_ K5.out.1 (row_size Tryz.sizeGeo HZS) ?_ HZ1.out ?_);(exact rfl);(exact rfl);(exact rfl);intro w8 G8 ch8))
  have e8:w9.heap[w.heap.size]?=some (.cells Z 67 (0,0)):=(ch9.block _ (by omega)).trans G8.out
  refine bodyPost_ret (results_cell2_tmp rfl _ _ w.heap.size 67 Z (0,0) _ (w.heap.size+1) 39 S0 (0,0) _ rfl e8 Tryz.underlying67 rfl (row_size Tryz.sizeGeo HZS) rfl G9 Tryz.underlying39 rfl (row_size Tryz.sizeSum HSS)) rfl ?_
  refine ⟨by rw [HSV.out,HZV.out];rfl,?_,mv_chg (mv_chg ((HMW.out.trans (Mv.of_below HX5.out)).more ks2) ch8 (Nat.le_refl _)) ch9 (by omega),HST.out _ _ _ (HST.out _ _ _ HP5.out ch8.only (Nat.le_refl _)) ch9.only (by omega)⟩
  exact Lib.hid <| RfAt.own (((HD1.out.old HX5.out).only ch8.only (HNT.out _ (Nat.le_refl _))).only ch9.only (HNT.out _ (by omega))) _
set_option maxHeartbeats 4000000 in
set_option maxRecDepth 100000 in
theorem rread_ok (a0:Addr) {T:Nat→Prop} {r qb:Nat} {m:Dk.M} (w:World) (hd:RfAt w T r qb m) (hrd:∀ j,m.rd j≤1000000000) (P:World→Prop) (hp:P w) (hmv:∀ y z,P y→Mv [r,qb] y z→P z) (hst:∀ y z k,P y→Only k y z→w.heap.size≤k→P z) (X:Int × Sc.S) (hGL:X.2.L.length≤900000) (hb:0<(Dk.rdX m 0).length)
  (hget:∀ z q n c,P z→(Dk.rdX m 0).length=n→Bs z q c (Dk.rdX m 0)→Calls Tryz.prog 54 #[.pointer (some a0),.int .i64 1,.int .i64 0,.slice q n c] z (LGet X z)) (ks:List Nat) (hks:∀ k∈ks,¬ T k∧k<w.heap.size) (SM:List Int) (P2:World→Prop) (hsl:SM.length=32)
  (hsum:∀ z p n c,P z→(Dk.rdX m 0).length=n→Bs z p c (Dk.rdX m 0)→Calls Tryz.prog 81 #[.pointer (some a0),.slice p n c] z (fun r z'=>r = .returned (A32 SM)∧P2 z'∧Mv ks z z'))
  (hst2:∀ y z k,P2 y→Only k y z→w.heap.size≤k→P2 z) (gg:Sp.G) (hn:Sp.hd X=some gg) :
  Calls Tryz.prog 38 #[.pointer (some ⟨r,0,none⟩),.pointer (some a0)] w (RrSay gg SM 0 T r qb (Dk.rdM m 0) ks P2 w):=by
 obtain ⟨Z,hZ⟩:∃ Z,Hid (GA ⟨0,0,0⟩=Z):=⟨_,rfl⟩
 have HZS:Hid (Z.size=3):=by show _=_;rw [← hZ.out];rfl
 have HZ1:Hid (Z.all (·.oneCell')=true):=by show _=_;rw [← hZ.out];simp [GA,Value.oneCell']
 have hz:=(zero_of_info Tryz.zeroGeo).1
 have HBT:=Lib.hid Tryz.builtGeo
 rw [hZ.out] at hz HBT
 have hzn:¬ Z = #[]:=fun h=>by have:=HZS.out;rw [h] at this;simp at this
 have hsz:=row_size Tryz.sizeGeo HZS
 have HZV:Hid (GV Sp.zero = .agg Z):=by show _=_;rw [← hZ.out,Sp.zero_is];rfl
 clear hZ
 obtain ⟨S0,hS0⟩:∃ S0,Hid (sA Rg.z32=S0):=⟨_,rfl⟩
 have HSS:Hid (S0.size=32):=by show _=_;rw [← hS0.out];exact sa_size z32_len
 have HS1:Hid (S0.all (·.oneCell')=true):=by show _=_;rw [← hS0.out];exact sa_one _
 have hzs:=(zero_of_info Tryz.zeroSumS).1
 have HBS:=Lib.hid Tryz.builtSumS
 rw [hS0.out] at hzs HBS
 have hzsn:¬ S0 = #[]:=fun h=>by have:=HSS.out;rw [h] at this;simp at this
 have hszs:=row_size Tryz.sizeSum HSS
 have HSV:Hid (A32 Rg.z32 = .agg S0):=by show _=_;rw [← hS0.out,a32_is]
 clear hS0
 have HKS:=Lib.hid hks
 have HSUM:=Lib.hid hsum
 have HST2:=Lib.hid hst2
 have HQS:=Lib.hid (sa_size hsl)
 have HQ1:=Lib.hid (sa_one SM)
 have HQV:=Lib.hid (a32_is SM)
 rw [HQV.out] at HSUM
 clear hks hsum hst2 hsl
 have HD:=Lib.hid hd
 have HST:=Lib.hid hst
 have HMV:=Lib.hid hmv
 have HPW:=Lib.hid hp
 have HNT:Hid (∀ k,w.heap.size≤k→¬ T k):=fun k hk h=>by have:=hd.top k h;omega
 have HLT:Hid (∀ k∈[r,qb],k<w.heap.size):=fun k hk=>by
  simp only [List.mem_cons,List.not_mem_nil,or_false] at hk
  rcases hk with rfl | rfl
  ·exact hd.top _ hd.lt.1
  ·exact hd.top _ hd.lt.2
 obtain ⟨w0,hw0⟩:∃ x,x=(w.alloc (.cells Z 67)).alloc (.cells S0 39):=⟨_,rfl⟩
 have R0:Hid (w0.heap[w.heap.size]?=some (.cells Z 67 (0,0))):=by rw [hw0];exact heap_alloc2_old w _ _
 have Z0:Hid (w0.heap[w.heap.size+1]?=some (.cells S0 39 (0,0))):=by rw [hw0];exact heap_alloc2_new w _ _
 have B0:Hid (Below w.heap.size w w0):=by rw [hw0];exact ((Below.refl _ w).alloc (Nat.le_refl _) _).alloc (by simp) _
 have HRD:Hid (Calls Tryz.prog 50 #[.pointer (some ⟨r,0,none⟩),.int .i64 0] w0 (RfRdD T r qb m 0 w0)):=refread_anyD 0 w0 (hd.old B0.out) hrd
 have HKP:Hid (∀ y,Mv [r,qb] w0 y→y.heap[w.heap.size]?=some (.cells Z 67 (0,0))∧y.heap[w.heap.size+1]?=some (.cells S0 39 (0,0))):=fun y hy =>
  ⟨(hy.block _ (lt_of_block R0.out) (fun h=>by have:=HLT.out _ h;omega)).trans R0.out,(hy.block _ (lt_of_block Z0.out) (fun h=>by have:=HLT.out _ h;omega)).trans Z0.out⟩
 have HP0:Hid (P w0):=hst w w0 w.heap.size hp (only_of_below B0.out) (Nat.le_refl _)
 have HVB:Hid (∀ (y:World) (v:Value),y.ownsRow w0.heap.size 5 1 v (Dk.rdX m 0).length (U8s (Dk.rdX m 0))∧Sha.Byt (Dk.rdX m 0)→∃ p c,v = .slice p (Dk.rdX m 0).length c∧Bs y p c (Dk.rdX m 0)):=fun y v hv=>by
  obtain ⟨p,c,h1,h2,_⟩:=own_bs hv.1 hv.2
  exact ⟨p,c,h1,h2⟩
 unfold RfRdD at HRD
 clear hd hst hmv hp hrd
 obtain ⟨x1,kk,ee,nn,aa,L⟩:=X
 obtain ⟨h1,h2,h3,h4⟩:=Sp.hd_some hn
 dsimp only at h1 h2 h3 h4 hGL
 subst h1
 subst h2
 have HGE:Hid (∀ z q c,P z→Bs z q c (Dk.rdX m 0)→Calls Tryz.prog 54 #[.pointer (some a0),.int .i64 1,.int .i64 0,.slice q (Dk.rdX m 0).length c] z (LGet (0,⟨kk,ee,0,aa,L⟩) z)):=fun z q c hz hbs=>hget z q _ c hz rfl hbs
 have hlen:¬ ((Dk.rdX m 0).length:Int)=0:=by omega
 have hlen2:(((Dk.rdX m 0).length:Int)==0)=false:=by simpa using hlen
 have HG2:Hid (∀ y q n c,L.length=n→Bs y q c L→Calls Tryz.prog 83 #[.slice q n c] y (SGot L y)):=fun y q n c hn hy=>fsget_any L q n c hn (by omega) y hy
 unfold SGot at HG2
 rw [h3,← h4] at HG2
 obtain ⟨A,eA,hk⟩:=gk gg
 have HAS:=Lib.hid hk.size
 have HA1:=Lib.hid hk.one
 have HGA:=Lib.hid eA
 rw [eA] at HG2
 clear hget hGL hn hb hk eA h3 h4
 generalize Dk.rdX m 0=B at *
 generalize hQ:sA SM=Q at *
 go_enter Tryz.func38,Tryz.ntmps38
 go_upto_region 1 with (fail)
 change Code.wp _ _ _ _ ((w.alloc (.cells Z 67)).alloc (.cells S0 39))
 rw [← hw0]
 clear hw0
 go_upto_region 2 with (go_at_call 50;refine HRD.out.mono ?_;rintro e1 w1 ⟨v1,rfl,hv1,HD1,HM1⟩;obtain ⟨q1,c1,hq1,hB1⟩:=HVB.out _ _ hv1.out;subst hq1;have HB1:=Lib.hid hB1;clear hB1 hv1)
 have K1:=Lib.hid (HKP.out _ HM1.out)
 have HP1:Hid (P w1):=HMV.out _ _ HP0.out HM1.out
 have HMW:Hid (Mv [r,qb] w w1):=(Mv.of_below B0.out).trans HM1.out
 have HL1:Hid (w.heap.size+1<w1.heap.size):=lt_of_block K1.out.2
 clear HRD HVB HKP HP0 R0 Z0
 go_upto_region 5 with (go_at_call 54;refine (HGE.out _ _ _ HP1.out HB1.out).mono ?_;rintro e2 w2 ⟨u2,m2,d2,rfl,hm2,HO2,HS2,hb2⟩;have HB2:=Lib.hid hb2;have HN2:=Lib.hid hm2;clear hb2 hm2)
 obtain ⟨w3,hw3⟩:∃ y,y=w2.alloc (SO kk ee 0 aa u2 m2 d2):=⟨_,rfl⟩
 have HB3:Hid (Below w1.heap.size w1 w3):=by rw [hw3];exact HB2.out.alloc HB2.out.size _
 have HS3:Hid (Bs w3 u2 d2 L):=by rw [hw3];exact HS2.out.old ((Below.refl _ w2).alloc (Nat.le_refl _) _)
 have HA3:Hid (SAt w3 w2.heap.size kk ee 0 aa u2 m2 d2):=by rw [hw3];exact SAt.new w2 _ _ _ _ _ _ _
 change Code.wp _ _ _ _ (w2.alloc (SO kk ee 0 aa u2 m2 d2))
 rw [← hw3]
 clear hw3 HO2 HS2 HGE HB2
 generalize w2.heap.size=gs at *
 have c4:=HA3.out.c4
 go_upto_region 6 with (first
  | (go_at_call 83;refine (HG2.out _ _ _ _ HN2.out HS3.out).mono ?_;rintro e4 w4 ⟨rfl,HB4⟩)
  | ((with_reducible refine row_store _ _ _ _ _ _ _ ?_ ?_ (heap_alloc_new _ _) (row_size Tryz.sizeGeo HAS) ?_ HA1.out ?_);(exact rfl);(exact rfl);(rw [HAS.out,HZS.out]);intro w5 G5 ch5))
 have HX5:Hid (Below w1.heap.size w1 w5):=(HB3.out.trans ((ch5.below (HB4.out.alloc HB4.out.size _) HB4.out.size).mono HB3.out.size))
 have HA5:Hid (SAt w5 gs kk ee 0 aa u2 m2 d2):=HA3.out.old (ch5.below (HB4.out.alloc HB4.out.size _) HB4.out.size)
 have c2:=HA5.out.c2
 have K5:Hid (w5.heap[w.heap.size]?=some (.cells Z 67 (0,0))∧w5.heap[w.heap.size+1]?=some (.cells S0 39 (0,0))):=⟨(HX5.out.block _ (lt_of_block K1.out.1)).trans K1.out.1,(HX5.out.block _ (lt_of_block K1.out.2)).trans K1.out.2⟩
 have HP5:Hid (P w5):=HST.out _ _ _ HP1.out (only_of_below (g:=w1.heap.size) HX5.out) (by have:=HL1.out;omega)
 have HB5:Hid (Bs w5 q1 c1 B):=HB1.out.old HX5.out
 have HD5:Hid (RfAt w5 T r qb (Dk.rdM m 0)):=HD1.out.old HX5.out
 have MW5:Hid (Mv [r,qb] w w5):=HMW.out.trans (Mv.of_below HX5.out)
 have HGR:Hid (w.heap.size+1<w4.heap.size):=Nat.lt_of_lt_of_le HL1.out (Nat.le_trans HB3.out.size HB4.out.size)
 clear ch5 HB4 HX5 HG2 K1 HS3 HD1 HM1 HP1 HMW HB1
 generalize w4.heap.size=gr at *
 go_upto_region 8 with (fail)
 refine wp_region_any (by kernel_rfl) ?_
 change wpAny _ _ _ _ _ _ _ (World.drew _)
 have Gz:Hid (w5.drew.heap[gr]?=some (.cells A 67 (0,0))):=G5.out
 have Pz:Hid (P w5.drew):=HST.out _ _ _ HP5.out (only_of_below (g:=w.heap.size) (Below.refl _ w5).drew) (Nat.le_refl _)
 have Bz:Hid (Bs w5.drew q1 c1 B):=HB5.out.drew
 have Mz:Hid (Mv [r,qb] w w5.drew):=MW5.out.drew
 have Kz:Hid (w5.drew.heap[w.heap.size]?=some (.cells Z 67 (0,0))∧w5.drew.heap[w.heap.size+1]?=some (.cells S0 39 (0,0))):=K5.out
 have Dz:Hid (RfAt w5.drew T r qb (Dk.rdM m 0)):=HD5.out.old (Below.refl _ w5).drew
 obtain ⟨z,hz'⟩:∃ y,y=w5.drew:=⟨_,rfl⟩
 rw [← hz'] at Gz Pz Bz Mz Kz Dz ⊢
 clear hz' K5 HD5 MW5 HB5 HP5 G5
 refine wpAny_of_held (S:=fun y=>y.heap[gr]?=some (.cells A 67 (0,0))) _ _ _ _ ?_
 refine aH 0 48 (.agg A) Gz.out rfl (fun y hy=>exec_arr _ _ gr 0 A _ rfl (row_rng hy) Tryz.underlying67 rfl (row_size Tryz.sizeGeo HAS)) ?_
 try simp only [Act.put,zq1,zq2,zq3]
 refine aH 1 49 (.pointer (some a0)) Gz.out rfl (by intro y hy;go_simp) ?_
 try simp only [Act.put,zq1,zq2,zq3]
 refine aH 2 50 (.slice q1 B.length c1) Gz.out rfl (by intro y hy;go_simp) ?_
 try simp only [Act.put,zq1,zq2,zq3]
 refine anyH_one 3 (by kernel_rfl) ?_
 refine wpOp_step rfl (fun Kc hKc=>?_)
 go_simp
 refine (HSUM.out z _ _ _ Pz.out rfl Bz.out).mono ?_
 rintro e6 w6 ⟨rfl,hP6,hM6⟩
 have HP6:=Lib.hid hP6
 have HM6:=Lib.hid hM6
 clear hP6 hM6
 have G6:Hid (w6.heap[gr]?=some (.cells A 67 (0,0))):=(HM6.out.block _ (lt_of_block Gz.out) (fun h=>by have:=(HKS.out _ h).2;have:=HGR.out;omega)).trans Gz.out
 have K6:Hid (w6.heap[w.heap.size]?=some (.cells Z 67 (0,0))∧w6.heap[w.heap.size+1]?=some (.cells S0 39 (0,0))):=⟨(HM6.out.block _ (lt_of_block Kz.out.1) (fun h=>by have:=(HKS.out _ h).2;omega)).trans Kz.out.1,(HM6.out.block _ (lt_of_block Kz.out.2) (fun h=>by have:=(HKS.out _ h).2;omega)).trans Kz.out.2⟩
 dsimp only
 refine hKc _ _ ⟨G6.out,?_⟩
 clear hKc Kc
 try simp only [Act.put,zq1,zq2,zq3]
 refine anyH_one 4 (by kernel_rfl) ?_
 refine op_row_store 4 67 (.tmp 4) (.tmp 48) rfl w.heap.size 67 Z A rfl rfl K6.out.1 (row_size Tryz.sizeGeo HAS) (by rw [HAS.out,HZS.out]) HA1.out ?_
 intro w8 G8 ch8
 refine ⟨(ch8.block _ (by have:=HGR.out;omega)).trans G6.out,?_⟩
 try simp only [Act.put,zq1,zq2,zq3]
 have G8':Hid (w8.heap[gr]?=some (.cells A 67 (0,0))):=(ch8.block _ (by have:=HGR.out;omega)).trans G6.out
 have K8:Hid (w8.heap[w.heap.size+1]?=some (.cells S0 39 (0,0))):=(ch8.block _ (by omega)).trans K6.out.2
 refine anyH_one 5 (by kernel_rfl) ?_
 refine op_row_store 5 39 (.tmp 5) (.tmp 51) rfl (w.heap.size+1) 39 S0 Q rfl rfl K8.out (row_size Tryz.sizeSum HQS) (by rw [HQS.out,HSS.out]) HQ1.out ?_
 intro w9 G9 ch9
 have G9':Hid (w9.heap[gr]?=some (.cells A 67 (0,0))):=(ch9.block _ (by have:=HGR.out;omega)).trans G8'.out
 refine ⟨G9'.out,?_⟩
 try simp only [Act.put,zq1,zq2,zq3]
 refine aH 6 6 (.int .i64 0) G9'.out rfl (by intro y hy;go_simp) ?_
 try simp only [Act.put,zq1,zq2,zq3]
 refine wpAnyH_done (by kernel_rfl) ?_ _
 go_wp2
 have e8:w9.heap[w.heap.size]?=some (.cells A 67 (0,0)):=(ch9.block _ (by omega)).trans G8.out
 refine bodyPost_ret (results_cell2_tmp rfl _ _ w.heap.size 67 A (0,0) _ (w.heap.size+1) 39 Q (0,0) _ rfl e8 Tryz.underlying67 rfl (row_size Tryz.sizeGeo HAS) rfl G9 Tryz.underlying39 rfl (row_size Tryz.sizeSum HQS)) rfl ?_
 refine ⟨by rw [HQV.out,HGA.out];rfl,?_,mv_chg (mv_chg ((Mz.out.more ks2).trans (HM6.out.more ks3)) ch8 (Nat.le_refl _)) ch9 (by omega),HST2.out _ _ _ (HST2.out _ _ _ HP6.out ch8.only (Nat.le_refl _)) ch9.only (by omega)⟩
 exact Lib.hid <| RfAt.own (((Dz.out.mv HM6.out (fun k hk=>(HKS.out k hk).1)).only ch8.only (HNT.out _ (Nat.le_refl _))).only ch9.only (HNT.out _ (by omega))) _
end

/-! SpZ5:  -/
section
open Go.RowKit
theorem RBox.same {B:Nat} {w x:World} {g:Nat} {K:List Int} (h:RBox B w g K) (hk:∀ k,B≤k→k<w.heap.size→x.heap[k]?=w.heap[k]?):RBox B x g K:=by
 obtain ⟨d,q,cq,h0,h1,h2,h3,h4,h5,h6⟩:=h
 exact ⟨d,q,cq,h0,h1,h2,h3,(hk _ h0 (lt_of_block h4)).trans h4,fun j hj=>by
  have h:=h5 j hj
  rw [World.cell?_of_block (a:=⟨q,j,none⟩) (hk q h1 (World.block_lt_of_cell? _ _ h))]
  exact h,h6.same hk⟩
section
variable {w z:World} {T:Nat→Prop} {r qb B:Nat} {m:Dk.M} {K:List Int} {g:Nat}
theorem cr_qd (h:CrAt B w g K) (hB:r<B∧qb<B) (hq:Qd w [r,qb] z):CrAt B z g K:=by
 obtain ⟨gb,h0,h1,h2⟩:=h
 have hk:∀ k,B≤k→k<w.heap.size→z.heap[k]?=w.heap[k]?:=fun k a b=>hq.2 k b (by simp only [List.mem_cons,List.not_mem_nil,or_false];omega)
 exact ⟨gb,h0,(hk _ h0 (lt_of_block h1)).trans h1,h2.same hk⟩
theorem tabk_qd {t:Nat} (ht:Tab w t) (hK:t∉[r,qb]) (hq:Qd w [r,qb] z):Tab z t:=fun j hj=>by
 have h:=ht j hj
 rw [World.cell?_of_block (a:=⟨t,j,none⟩) (hq.2 t (World.block_lt_of_cell? _ _ h) hK)]
 exact h
theorem rx_write (gg:Sp.G) (e:Int) (hd:RfAt w T r qb m) (hb:CrAt B w g K) (hB:r<B∧qb<B) (hK:0 ∉ [r,qb]) (ht:Tab w 0) (hwr:m.wr≤1000000000) :
  Calls Tryz.prog 34 #[.pointer (some ⟨r,0,none⟩),.pointer (some ⟨g,0,none⟩),.int .i64 e,GV gg] w (RwSay (Sp.bV m K gg e) (Sp.bE m K gg e) T r qb (Sp.bM m K gg e) [] (Qd w [r,qb]) w):=by
 have hBX:=Sp.bX_len K gg e
 obtain ⟨X,hX⟩:∃ X,X=Sp.bX K gg e:=⟨_,rfl⟩
 rw [← hX] at hBX
 by_cases hc:Sp.ck gg=0
 ·have hput:∀ y p c,Below w.heap.size w y→Bs y p c (Sp.pt gg)→Calls Tryz.prog 79 #[.pointer (some ⟨g,0,none⟩),SV 1 e 0 0 p 24 c] y (LPut X y (fun z=>Qd w [r,qb] z∧Mv [] y z)):=fun y p c hy hp=>by
   have hq:=rput_any K B g (Sp.sec gg e) p 24 c (Sp.sec_len gg e) y (hb.old hy) (by unfold Sp.sec;exact hp) (ht.below hy ht.lt)
   have hv:Sv (Sp.sec gg e) p 24 c=SV 1 e 0 0 p 24 c:=by unfold Sp.sec Sv;rfl
   rw [hv,show Sc.pt (Seal.sl K) (Sp.sec gg e)=X by rw [hX];rfl] at hq
   refine hq.mono ?_
   rintro r z ⟨u,mm,dd,h1,h2,h3,h4,h5⟩
   exact ⟨u,mm,dd,h1,h2,h3,h4,((Qd.refl w _).below hy).below h5,Mv.of_below h5⟩
  have hst:∀ y z k,Qd w [r,qb] y→Only k y z→w.heap.size≤k→Qd w [r,qb] z:=fun y z k h1 h2 h3=>h1.only h2 h3
  have hmv:∀ y z,Qd w [r,qb] y→Mv [r,qb] y z→Qd w [r,qb] z:=fun y z h1 h2=>h1.mv h2
  by_cases hx:X.1=0
  ·have hE:Sp.bE m K gg e=Dk.wrE m 0 X.2:=by unfold Sp.bE;rw [if_pos hc,← hX,if_pos hx]
   have hM:Sp.bM m K gg e=Dk.wrM m 0 X.2:=by unfold Sp.bM;rw [if_pos hc,← hX,if_pos hx]
   by_cases hw:Dk.wrE m 0 X.2=0
   ·have hV:Sp.bV m K gg e=Sha.dg X.2:=by unfold Sp.bV;rw [hE,if_pos hw,← hX]
    rw [hV,hE,hM,hw]
    exact rwrite_ok ⟨g,0,none⟩ gg e w hd X [] (Qd w [r,qb]) (fun k hk=>by cases hk) hBX hwr hc hput hst hmv (Sha.dg X.2) (Qd w [r,qb]) (dg_len _)
     (fun z p n c hq hn hb2=>(crsum_any K B g X.2 p n c hn (by omega) z (cr_qd hb hB hq) hb2 (tabk_qd ht hK hq)).mono fun _ _ q=>⟨q.1,hq.below q.2,Mv.of_below q.2⟩) hst hx hw
   ·have hV:Sp.bV m K gg e=Rg.z32:=by unfold Sp.bV;rw [hE,if_neg hw]
    rw [hV,hE,hM]
    exact rwrite_dk ⟨g,0,none⟩ gg e w hd X [] (Qd w [r,qb]) (fun k hk=>by cases hk) hBX hwr hc hput hst hmv hx hw
  ·have hE:Sp.bE m K gg e=X.1:=by unfold Sp.bE;rw [if_pos hc,← hX,if_neg hx]
   have hM:Sp.bM m K gg e=m:=by unfold Sp.bM;rw [if_pos hc,← hX,if_neg hx]
   have hV:Sp.bV m K gg e=Rg.z32:=by unfold Sp.bV;rw [hE,if_neg hx]
   rw [hV,hE,hM]
   exact rwrite_er ⟨g,0,none⟩ gg e w hd X [] (Qd w [r,qb]) (fun k hk=>by cases hk) hc hput hst hx
 ·have hc15:Sp.ck gg=15:=(Sp.ck_or gg).resolve_left hc
  have hE:Sp.bE m K gg e=15:=by unfold Sp.bE;rw [if_neg hc]
  have hM:Sp.bM m K gg e=m:=by unfold Sp.bM;rw [if_neg hc]
  have hV:Sp.bV m K gg e=Rg.z32:=by unfold Sp.bV;rw [hE,if_neg (by decide)]
  rw [hV,hE,hM]
  refine (rwrite_no ⟨g,0,none⟩ gg e w hd hc15).mono ?_
  rintro r z ⟨h1,h2,h3,h4⟩
  exact ⟨h1,h2,h3,(Qd.refl w _).below h4.out⟩
theorem rx_read (hd:RfAt w T r qb m) (hb:CrAt B w g K) (hB:r<B∧qb<B) (hK:0 ∉ [r,qb]) (ht:Tab w 0) (hrd:∀ j,m.rd j≤1000000000) (hL:(Dk.rdX m 0).length≤100000) (hgl:(Sc.gt (Seal.op K) 1 0 (Dk.rdX m 0)).2.L.length≤900000) :
  Calls Tryz.prog 38 #[.pointer (some ⟨r,0,none⟩),.pointer (some ⟨g,0,none⟩)] w (RrSay (Sp.bR K (Dk.rdX m 0)).1 (Sp.bR K (Dk.rdX m 0)).2.1 (Sp.bR K (Dk.rdX m 0)).2.2 T r qb (Dk.rdM m 0) [] (Qd w [r,qb]) w):=by
 have hst:∀ y z k,Qd w [r,qb] y→Only k y z→w.heap.size≤k→Qd w [r,qb] z:=fun y z k h1 h2 h3=>h1.only h2 h3
 have hmv:∀ y z,Qd w [r,qb] y→Mv [r,qb] y z→Qd w [r,qb] z:=fun y z h1 h2=>h1.mv h2
 by_cases hb0:Dk.rdX m 0 = []
 ·have e:Sp.bR K (Dk.rdX m 0)=(Sp.zero,Rg.z32,9):=by unfold Sp.bR;rw [if_pos hb0]
  rw [e]
  exact rread_none ⟨g,0,none⟩ w hd hrd (Qd w [r,qb]) (Qd.refl w _) hmv hst hb0
 ·have hlen:0<(Dk.rdX m 0).length:=Nat.pos_of_ne_zero (fun q=>hb0 (List.eq_nil_of_length_eq_zero q))
  have hget:∀ z q n c,Qd w [r,qb] z→(Dk.rdX m 0).length=n→Bs z q c (Dk.rdX m 0)→Calls Tryz.prog 54 #[.pointer (some ⟨g,0,none⟩),.int .i64 1,.int .i64 0,.slice q n c] z (LGet (Sc.gt (Seal.op K) 1 0 (Dk.rdX m 0)) z):=fun z q n c hq hn hbs =>
   rget_any K B g 1 0 _ q n c hn z (cr_qd hb hB hq) hbs (tabk_qd ht hK hq)
  cases hv:Sp.hd (Sc.gt (Seal.op K) 1 0 (Dk.rdX m 0)) with
  | none =>
   have e:Sp.bR K (Dk.rdX m 0)=(Sp.zero,Rg.z32,14):=by unfold Sp.bR;rw [if_neg hb0,hv]
   rw [e]
   exact rread_bad ⟨g,0,none⟩ w hd hrd (Qd w [r,qb]) (Qd.refl w _) hmv hst _ hgl hlen hget hv
  | some gg =>
   have e:Sp.bR K (Dk.rdX m 0)=(gg,Sha.dg (Dk.rdX m 0),0):=by unfold Sp.bR;rw [if_neg hb0,hv]
   rw [e]
   exact rread_ok ⟨g,0,none⟩ w hd hrd (Qd w [r,qb]) (Qd.refl w _) hmv hst _ hgl hlen hget [] (fun k hk=>by cases hk) (Sha.dg (Dk.rdX m 0)) (Qd w [r,qb]) (dg_len _)
    (fun z p n c hq hn hb2=>(crsum_any K B g _ p n c hn (by omega) z (cr_qd hb hB hq) hb2 (tabk_qd ht hK hq)).mono fun _ _ q=>⟨q.1,hq.below q.2,Mv.of_below q.2⟩) hst gg hv
end
end
end Go.Proofs.YtnnalemboeccbaaGreatDoor

import Derived.Test.YtnnalemboeccbaaGreatDoorSp5
namespace Go.Proofs.YtnnalemboeccbaaGreatDoor
open Go.RowKit
set_option maxHeartbeats 16000000 in
set_option maxRecDepth 100000 in
theorem swrites_any (hTS:TakeSaid) (K:List Int) (kp:Option Addr) (kn kc:Nat) (hkn:K.length=kn) (gg:Sp.G) (e n:Int) (hn:In64 n) (L:List Int) (bp:Option Addr) (bn bc:Nat) (hbn:L.length=bn) (w:World) (hk:Bs w kp kc K) (hb:Bs w bp bc L) (hts:Tab w 1) (htk:Tab w 0) :
  Calls Tryz.prog 5 #[.slice kp kn kc,GV gg,.agg #[.int .i64 e,.int .i64 n],.slice bp bn bc] w (YesSay w):=by
 have HKN:Hid (∀ y,Calls Tryz.prog 30 #[] y (YesSay y)):=fun y=>sknown_any y
 obtain ⟨A,eA,hk0⟩:=gk gg
 have HAS:=Lib.hid hk0.size
 have h1:=hk0.one
 obtain ⟨w0,hw0⟩:∃ x,x=(w.alloc (.cells A 67)).alloc (.cells #[.int .i64 e,.int .i64 n] 69):=⟨_,rfl⟩
 have R0:Hid (w0.heap[w.heap.size]?=some (.cells A 67 (0,0))):=by rw [hw0];exact heap_alloc2_old w _ _
 have Z0:Hid (w0.heap[w.heap.size+1]?=some (.cells #[.int .i64 e,.int .i64 n] 69 (0,0))):=by rw [hw0];exact heap_alloc2_new w _ _
 have B0:Hid (Below w.heap.size w w0):=by rw [hw0];exact ((Below.refl _ w).alloc (Nat.le_refl _) _).alloc (by simp) _
 obtain ⟨S0,hS0⟩:∃ S0,Hid (sA Rg.z32=S0):=⟨_,rfl⟩
 have HSS:Hid (S0.size=32):=by show _=_;rw [← hS0.out];exact sa_size z32_len
 have HS1:Hid (S0.all (·.oneCell')=true):=by show _=_;rw [← hS0.out];exact sa_one _
 have hzs:=(zero_of_info Tryz.zeroSumS).1
 have HBS:=Lib.hid Tryz.builtSumS
 rw [hS0.out] at hzs HBS
 have hzsn:¬ S0 = #[]:=fun h=>by have:=HSS.out;rw [h] at this;simp at this
 have hszs:=row_size Tryz.sizeSum HSS
 have HSV:Hid (A32 Rg.z32 = .agg S0):=by show _=_;rw [← hS0.out,a32_is]
 clear hS0
 obtain ⟨Z,hZ⟩:∃ Z,Hid (GA ⟨0,0,0⟩=Z):=⟨_,rfl⟩
 have HZS:Hid (Z.size=3):=by show _=_;rw [← hZ.out];rfl
 have HZ1:Hid (Z.all (·.oneCell')=true):=by show _=_;rw [← hZ.out];simp [GA,Value.oneCell']
 have hz:=(zero_of_info Tryz.zeroGeo).1
 have HBT:=Lib.hid Tryz.builtGeo
 rw [hZ.out] at hz HBT
 have hzn:¬ Z = #[]:=fun h=>by have:=HZS.out;rw [h] at this;simp at this
 have hsz:=row_size Tryz.sizeGeo HZS
 have HZV:Hid (GV Sp.zero = .agg Z):=by show _=_;rw [← hZ.out,Sp.zero_is];rfl
 clear hZ
 rw [eA]
 by_cases hk1:(kn:Int)>1024
 ·clear hk0 eA hk hb hts htk
  go_enter Tryz.func5,Tryz.ntmps5
  go_upto_region 1 with (fail)
  change Code.wp _ _ _ _ ((w.alloc (.cells A 67)).alloc (.cells #[.int .i64 e,.int .i64 n] 69))
  rw [← hw0]
  clear hw0
  go_wp2_with (go_at_call 30;refine (HKN.out _).mono ?_;rintro e3 w3 ⟨rfl,hb3⟩)
  go_ret
  exact ⟨rfl,B0.out.trans (hb3.mono B0.out.size)⟩
 by_cases hk2:(bn:Int)>2048
 ·clear hk0 eA hk hb hts htk
  go_enter Tryz.func5,Tryz.ntmps5
  go_upto_region 1 with (fail)
  change Code.wp _ _ _ _ ((w.alloc (.cells A 67)).alloc (.cells #[.int .i64 e,.int .i64 n] 69))
  rw [← hw0]
  clear hw0
  go_wp2_with (go_at_call 30;refine (HKN.out _).mono ?_;rintro e3 w3 ⟨rfl,hb3⟩)
  go_ret
  exact ⟨rfl,B0.out.trans (hb3.mono B0.out.size)⟩
 have HK:=Lib.hid hk
 have HB:=Lib.hid hb
 have HTS:=Lib.hid hts
 have HTK:=Lib.hid htk
 have HS:=Lib.hid hTS
 clear hk0 hk hb hts htk hTS
 go_enter Tryz.func5,Tryz.ntmps5
 go_upto_region 1 with (fail)
 change Code.wp _ _ _ _ ((w.alloc (.cells A 67)).alloc (.cells #[.int .i64 e,.int .i64 n] 69))
 rw [← hw0]
 clear hw0
 have HC:Hid (∀ y,Below w0.heap.size w0 y→y.heap[w.heap.size]?=some (.cells A 67 (0,0))∧y.cell? ⟨w.heap.size+1,0,none⟩=some (.int .i64 e)∧y.cell? ⟨w.heap.size+1,1,none⟩=some (.int .i64 n)):=fun y hy=>by
  have q:=(hy.block _ (lt_of_block Z0.out)).trans Z0.out
  exact ⟨(hy.block _ (lt_of_block R0.out)).trans R0.out,by rw [cell_of_row y _ 0 _ _ _ q];rfl,by rw [cell_of_row y _ 1 _ _ _ q];rfl⟩
 have HTS0:Hid (Tab w0 1):=HTS.out.below B0.out HTS.out.lt
 have HTK0:Hid (Tab w0 0):=HTK.out.below B0.out HTK.out.lt
 have HK0:Hid (Bs w0 kp kc K):=HK.out.old B0.out
 have HL0:Hid (Bs w0 bp bc L):=HB.out.old B0.out
 clear HTS HTK HK HB R0 Z0
 go_upto_region 9 with (first
  | (go_at_call 8;refine (new4 5 (by omega) (by omega) _).mono ?_;rintro e1 w1 ⟨d,lb,rb,cb,rfl,hd1,hb1⟩)
  | (go_at_call 9;refine (refnew5 _).mono ?_;rintro e2 w2 ⟨r,qb,rfl,hr2,hb2⟩;have HB2:=Lib.hid (hb1.trans (hb2.out.mono hb1.size)))
  | (go_at_call 10;refine (newbox_any HS.out K kp kn kc hkn (by omega) _ (HK0.out.old HB2.out) (HTS0.out.below HB2.out HTS0.out.lt)).mono ?_;rintro e3 w3 ⟨gs,rfl,hx3,hb3⟩;have HB3:=Lib.hid (HB2.out.trans (hb3.mono HB2.out.size)))
  | (go_at_call 11;refine (boxed_any K kp kn kc hkn (by omega) _ (HK0.out.old HB3.out) (HTK0.out.below HB3.out HTK0.out.lt)).mono ?_;rintro e4 w4 ⟨gr,rfl,hc4,hb4⟩;have H4:=Lib.hid (sp4_make (Below.refl _ w0) hd1.out hb1 hr2.out hb2.out hx3.out hb3 hc4.out hb4 HTS0.out HTK0.out);have Y4:=Lib.hid (HC.out _ H4.out.low)))
 clear hd1 hr2 hx3 hc4 hb1 hb2 hb3 hb4 HB2 HB3 HTS0 HTK0 HK0
 generalize w3.heap.size=B at *
 obtain ⟨m1,hm1⟩:∃ m1,m1 = { Dk.fresh 5 with left:=n }:=⟨_,rfl⟩
 have M1:Hid (m1.n=5∧m1.wr=0∧∀ j,m1.rd j=0):=by rw [hm1];exact ⟨rfl,rfl,fun _=>rfl⟩
 have c41:=Y4.out.2.2
 go_upto_region 10 with (go_at_call 31;refine (c_arm n hn H4.out).mono ?_;rintro e5 w5 ⟨rfl,H5,_⟩)
 have c51:=(HC.out _ H5.out.low).2.2
 go_upto_region 11 with (go_at_call 32;refine (f_arm n hn H5.out).mono ?_;rintro e6 w6 ⟨rfl,H6,_⟩)
 rw [← hm1] at H6
 clear H5 H4 c41 c51 Y4 hm1
 have Y6:=Lib.hid (HC.out _ H6.out.low)
 have c60:=Y6.out.2.1
 have hql:=Sp.bV_len m1 K gg e
 have HQS:=Lib.hid (sa_size hql)
 have HQ1:=Lib.hid (sa_one (Sp.bV m1 K gg e))
 have HEQ:Hid (∀ y,(Op.equalIn 10000 39 (.agg (sA (Sp.bV m1 K gg e))) (.agg (sA (Sp.bV m1 K gg e)))).run Tryz.prog y = .ok true y):=fun y=>by have h:=a32_eq _ _ hql hql y;rw [decide_eq_true rfl] at h;exact h
 have HWR:Hid (∀ y,Sp4 w0 K d lb rb cb r qb gs gr B m1 m1 y→Calls Tryz.prog 33 #[.pointer (some ⟨d,0,none⟩),.iface 33 (.pointer (some ⟨gs,0,none⟩)),.int .i64 e,.agg A] y (C4 B y (Sp4 w0 K d lb rb cb r qb gs gr B (Sp.bM m1 K gg e) m1) (.tuple #[.agg (sA (Sp.bV m1 K gg e)),.int .i64 (Sp.bE m1 K gg e)]))):=fun y hy=>by rw [← eA];exact c_write HS.out gg e (by have:=M1.out.2.1;omega) hy
 have HFW:Hid (∀ y,Sp4 w0 K d lb rb cb r qb gs gr B (Sp.bM m1 K gg e) m1 y→Calls Tryz.prog 34 #[.pointer (some ⟨r,0,none⟩),.pointer (some ⟨gr,0,none⟩),.int .i64 e,.agg A] y (C4 B y (Sp4 w0 K d lb rb cb r qb gs gr B (Sp.bM m1 K gg e) (Sp.bM m1 K gg e)) (.tuple #[.agg (sA (Sp.bV m1 K gg e)),.int .i64 (Sp.bE m1 K gg e)]))):=fun y hy=>by rw [← eA];exact f_write gg e (by have:=M1.out.2.1;omega) hy
 have M2:Hid ((Sp.bM m1 K gg e).n=5∧(Sp.bM m1 K gg e).wr≤1∧∀ j,(Sp.bM m1 K gg e).rd j=0):=by
  obtain ⟨q1,q2,q3⟩:=Sp.bM_same m1 K gg e
  have q:=M1.out
  exact ⟨q1.trans q.1,by omega,fun j=>by rw [q3];exact q.2.2 j⟩
 clear hql
 generalize sA (Sp.bV m1 K gg e)=Q at *
 generalize Sp.bM m1 K gg e=m2 at *
 generalize Sp.bE m1 K gg e=E at *
 go_upto_region 12 with (first
  | ((with_reducible refine row_load _ _ _ _ _ _ _ ?_ Y6.out.1 Tryz.underlying67 ?_ (row_size Tryz.sizeGeo HAS) ?_);(exact rfl);(exact rfl))
  | (go_at_call 33;refine (HWR.out _ H6.out).mono ?_;rintro e7 w7 ⟨rfl,H7,_⟩)
  | ((with_reducible refine row_store _ _ _ _ _ _ _ ?_ ?_ (heap_alloc_new _ _) (row_size Tryz.sizeSum HQS) ?_ HQ1.out ?_);(exact rfl);(exact rfl);(rw [HQS.out,HSS.out]);intro w8 G8 ch8))
 have b8:Hid (Below w7.heap.size w7 w8):=ch8.below ((Below.refl _ w7).alloc (Nat.le_refl _) _) (Nat.le_refl _)
 have H8:=Lib.hid (H7.out.old b8.out)
 have Y8:=Lib.hid (HC.out _ H8.out.low)
 have c80:=Y8.out.2.1
 have HB7:Hid (B≤w7.heap.size):=H7.out.big
 clear ch8 b8 H7 H6 Y6 HWR
 generalize w7.heap.size=q1 at *
 go_upto_region 13 with (first
  | ((with_reducible refine row_load _ _ _ _ _ _ _ ?_ Y8.out.1 Tryz.underlying67 ?_ (row_size Tryz.sizeGeo HAS) ?_);(exact rfl);(exact rfl))
  | (go_at_call 34;refine (HFW.out _ H8.out).mono ?_;rintro e9 w9 ⟨rfl,H9,K9⟩)
  | ((with_reducible refine row_store _ _ _ _ _ _ _ ?_ ?_ (heap_alloc_new _ _) (row_size Tryz.sizeSum HQS) ?_ HQ1.out ?_);(exact rfl);(exact rfl);(rw [HQS.out,HSS.out]);intro w10 G10 ch10))
 have b10:Hid (Below w9.heap.size w9 w10):=ch10.below ((Below.refl _ w9).alloc (Nat.le_refl _) _) (Nat.le_refl _)
 have H10:=Lib.hid (H9.out.old b10.out)
 have G8':Hid (w10.heap[q1]?=some (.cells Q 39 (0,0))):=(b10.out.block _ (Nat.lt_of_lt_of_le (lt_of_block G8.out) K9.out.size)).trans ((K9.out.block _ HB7.out (lt_of_block G8.out)).trans G8.out)
 clear ch10 b10 K9 H9 H8 Y8 c80 HFW G8
 generalize w9.heap.size=q2 at *
 refine wp_region_any (by kernel_rfl) ?_
 change wpAny _ _ _ _ _ _ _ (World.drew _)
 have HZ:Hid (Sp4 w0 K d lb rb cb r qb gs gr B m2 m2 w10.drew):=H10.out.old (Below.refl _ _).drew
 have SD:w10.drew.heap[q1]?=some (.cells Q 39 (0,0))∧w10.drew.heap[q2]?=some (.cells Q 39 (0,0))∧w10.drew.cell? ⟨r,2,none⟩=some (.int .i64 (m2.wr:Int))∧w10.drew.cell? ⟨r,3,none⟩=some (.bool m2.down):=⟨G8'.out,G10.out,HZ.out.cells⟩
 obtain ⟨z,hz'⟩:∃ x,x=w10.drew:=⟨_,rfl⟩
 rw [← hz'] at HZ SD ⊢
 clear hz' H10 G8' G10
 have he1:=HEQ.out
 refine wpAny_of_held (S:=fun y=>y.heap[q1]?=some (.cells Q 39 (0,0))∧y.heap[q2]?=some (.cells Q 39 (0,0))∧y.cell? ⟨r,2,none⟩=some (.int .i64 (m2.wr:Int))∧y.cell? ⟨r,3,none⟩=some (.bool m2.down)) _ _ _ _ ?_
 refine aH 0 80 (.agg Q) SD rfl (by intro x hx;have y0:=hx;(first | exact exec_arrN 39 (.tmp 15) q1 0 Q _ rfl (row_rng hx.1) Tryz.underlying39 rfl (row_size Tryz.sizeSum HQS) | exact exec_arrN 39 (.tmp 16) q2 0 Q _ rfl (row_rng hx.2.1) Tryz.underlying39 rfl (row_size Tryz.sizeSum HQS) | (obtain ⟨x0,x1,x2,x3⟩:=hx;go_simp;done) | (obtain ⟨x0,x1,x2,x3⟩:=hx;go_simp;simp));try (intro h;omega)) ?_
 try simp only [Act.put,zq1,zq2,zq3]
 refine aH 1 81 (.agg Q) SD rfl (by intro x hx;have y0:=hx;(first | exact exec_arrN 39 (.tmp 15) q1 0 Q _ rfl (row_rng hx.1) Tryz.underlying39 rfl (row_size Tryz.sizeSum HQS) | exact exec_arrN 39 (.tmp 16) q2 0 Q _ rfl (row_rng hx.2.1) Tryz.underlying39 rfl (row_size Tryz.sizeSum HQS) | (obtain ⟨x0,x1,x2,x3⟩:=hx;go_simp;done) | (obtain ⟨x0,x1,x2,x3⟩:=hx;go_simp;simp));try (intro h;omega)) ?_
 try simp only [Act.put,zq1,zq2,zq3]
 refine aH 2 82 (.bool false) SD rfl (by intro x hx;have y0:=hx;(first | exact exec_arrN 39 (.tmp 15) q1 0 Q _ rfl (row_rng hx.1) Tryz.underlying39 rfl (row_size Tryz.sizeSum HQS) | exact exec_arrN 39 (.tmp 16) q2 0 Q _ rfl (row_rng hx.2.1) Tryz.underlying39 rfl (row_size Tryz.sizeSum HQS) | (obtain ⟨x0,x1,x2,x3⟩:=hx;go_simp;done) | (obtain ⟨x0,x1,x2,x3⟩:=hx;go_simp;simp));try (intro h;omega)) ?_
 try simp only [Act.put,zq1,zq2,zq3]
 refine aH 3 83 (.bool false) SD rfl (by intro x hx;have y0:=hx;(first | exact exec_arrN 39 (.tmp 15) q1 0 Q _ rfl (row_rng hx.1) Tryz.underlying39 rfl (row_size Tryz.sizeSum HQS) | exact exec_arrN 39 (.tmp 16) q2 0 Q _ rfl (row_rng hx.2.1) Tryz.underlying39 rfl (row_size Tryz.sizeSum HQS) | (obtain ⟨x0,x1,x2,x3⟩:=hx;go_simp;done) | (obtain ⟨x0,x1,x2,x3⟩:=hx;go_simp;simp));try (intro h;omega)) ?_
 try simp only [Act.put,zq1,zq2,zq3]
 refine aH 4 84 (.int .i64 E) SD rfl (by intro x hx;have y0:=hx;(first | exact exec_arrN 39 (.tmp 15) q1 0 Q _ rfl (row_rng hx.1) Tryz.underlying39 rfl (row_size Tryz.sizeSum HQS) | exact exec_arrN 39 (.tmp 16) q2 0 Q _ rfl (row_rng hx.2.1) Tryz.underlying39 rfl (row_size Tryz.sizeSum HQS) | (obtain ⟨x0,x1,x2,x3⟩:=hx;go_simp;done) | (obtain ⟨x0,x1,x2,x3⟩:=hx;go_simp;simp));try (intro h;omega)) ?_
 try simp only [Act.put,zq1,zq2,zq3]
 refine aH 5 85 (.int .i64 E) SD rfl (by intro x hx;have y0:=hx;(first | exact exec_arrN 39 (.tmp 15) q1 0 Q _ rfl (row_rng hx.1) Tryz.underlying39 rfl (row_size Tryz.sizeSum HQS) | exact exec_arrN 39 (.tmp 16) q2 0 Q _ rfl (row_rng hx.2.1) Tryz.underlying39 rfl (row_size Tryz.sizeSum HQS) | (obtain ⟨x0,x1,x2,x3⟩:=hx;go_simp;done) | (obtain ⟨x0,x1,x2,x3⟩:=hx;go_simp;simp));try (intro h;omega)) ?_
 try simp only [Act.put,zq1,zq2,zq3]
 refine aH 6 86 (.bool false) SD rfl (by intro x hx;have y0:=hx;(first | exact exec_arrN 39 (.tmp 15) q1 0 Q _ rfl (row_rng hx.1) Tryz.underlying39 rfl (row_size Tryz.sizeSum HQS) | exact exec_arrN 39 (.tmp 16) q2 0 Q _ rfl (row_rng hx.2.1) Tryz.underlying39 rfl (row_size Tryz.sizeSum HQS) | (obtain ⟨x0,x1,x2,x3⟩:=hx;go_simp;done) | (obtain ⟨x0,x1,x2,x3⟩:=hx;go_simp;simp));try (intro h;omega)) ?_
 try simp only [Act.put,zq1,zq2,zq3]
 refine aH 7 87 (.bool false) SD rfl (by intro x hx;have y0:=hx;(first | exact exec_arrN 39 (.tmp 15) q1 0 Q _ rfl (row_rng hx.1) Tryz.underlying39 rfl (row_size Tryz.sizeSum HQS) | exact exec_arrN 39 (.tmp 16) q2 0 Q _ rfl (row_rng hx.2.1) Tryz.underlying39 rfl (row_size Tryz.sizeSum HQS) | (obtain ⟨x0,x1,x2,x3⟩:=hx;go_simp;done) | (obtain ⟨x0,x1,x2,x3⟩:=hx;go_simp;simp));try (intro h;omega)) ?_
 try simp only [Act.put,zq1,zq2,zq3]
 refine aH 8 88 (.bool false) SD rfl (by intro x hx;have y0:=hx;(first | exact exec_arrN 39 (.tmp 15) q1 0 Q _ rfl (row_rng hx.1) Tryz.underlying39 rfl (row_size Tryz.sizeSum HQS) | exact exec_arrN 39 (.tmp 16) q2 0 Q _ rfl (row_rng hx.2.1) Tryz.underlying39 rfl (row_size Tryz.sizeSum HQS) | (obtain ⟨x0,x1,x2,x3⟩:=hx;go_simp;done) | (obtain ⟨x0,x1,x2,x3⟩:=hx;go_simp;simp));try (intro h;omega)) ?_
 try simp only [Act.put,zq1,zq2,zq3]
 refine aH 9 89 (.pointer (some ⟨d,0,none⟩)) SD rfl (by intro x hx;have y0:=hx;(first | exact exec_arrN 39 (.tmp 15) q1 0 Q _ rfl (row_rng hx.1) Tryz.underlying39 rfl (row_size Tryz.sizeSum HQS) | exact exec_arrN 39 (.tmp 16) q2 0 Q _ rfl (row_rng hx.2.1) Tryz.underlying39 rfl (row_size Tryz.sizeSum HQS) | (obtain ⟨x0,x1,x2,x3⟩:=hx;go_simp;done) | (obtain ⟨x0,x1,x2,x3⟩:=hx;go_simp;simp));try (intro h;omega)) ?_
 try simp only [Act.put,zq1,zq2,zq3]
 refine aH 11 91 (.pointer (some ⟨r,0,none⟩)) SD rfl (by intro x hx;have y0:=hx;(first | exact exec_arrN 39 (.tmp 15) q1 0 Q _ rfl (row_rng hx.1) Tryz.underlying39 rfl (row_size Tryz.sizeSum HQS) | exact exec_arrN 39 (.tmp 16) q2 0 Q _ rfl (row_rng hx.2.1) Tryz.underlying39 rfl (row_size Tryz.sizeSum HQS) | (obtain ⟨x0,x1,x2,x3⟩:=hx;go_simp;done) | (obtain ⟨x0,x1,x2,x3⟩:=hx;go_simp;simp));try (intro h;omega)) ?_
 try simp only [Act.put,zq1,zq2,zq3]
 refine aH 12 92 (.pointer (some ⟨r,0,none⟩)) SD rfl (by intro x hx;have y0:=hx;(first | exact exec_arrN 39 (.tmp 15) q1 0 Q _ rfl (row_rng hx.1) Tryz.underlying39 rfl (row_size Tryz.sizeSum HQS) | exact exec_arrN 39 (.tmp 16) q2 0 Q _ rfl (row_rng hx.2.1) Tryz.underlying39 rfl (row_size Tryz.sizeSum HQS) | (obtain ⟨x0,x1,x2,x3⟩:=hx;go_simp;done) | (obtain ⟨x0,x1,x2,x3⟩:=hx;go_simp;simp));try (intro h;omega)) ?_
 try simp only [Act.put,zq1,zq2,zq3]
 refine aH 13 93 (.pointer (some ⟨r,3,none⟩)) SD rfl (by intro x hx;have y0:=hx;(first | exact exec_arrN 39 (.tmp 15) q1 0 Q _ rfl (row_rng hx.1) Tryz.underlying39 rfl (row_size Tryz.sizeSum HQS) | exact exec_arrN 39 (.tmp 16) q2 0 Q _ rfl (row_rng hx.2.1) Tryz.underlying39 rfl (row_size Tryz.sizeSum HQS) | (obtain ⟨x0,x1,x2,x3⟩:=hx;go_simp;done) | (obtain ⟨x0,x1,x2,x3⟩:=hx;go_simp;simp));try (intro h;omega)) ?_
 try simp only [Act.put,zq1,zq2,zq3]
 refine aH 14 94 (.bool m2.down) SD rfl (by intro x hx;have y0:=hx;(first | exact exec_arrN 39 (.tmp 15) q1 0 Q _ rfl (row_rng hx.1) Tryz.underlying39 rfl (row_size Tryz.sizeSum HQS) | exact exec_arrN 39 (.tmp 16) q2 0 Q _ rfl (row_rng hx.2.1) Tryz.underlying39 rfl (row_size Tryz.sizeSum HQS) | (obtain ⟨x0,x1,x2,x3⟩:=hx;go_simp;done) | (obtain ⟨x0,x1,x2,x3⟩:=hx;go_simp;simp));try (intro h;omega)) ?_
 try simp only [Act.put,zq1,zq2,zq3]
 refine anyH_one 10 (by kernel_rfl) ?_
 refine wpOp_step rfl (fun Kc hKc=>?_)
 go_simp
 refine (c_down HZ.out).mono ?_
 rintro e21 z1 ⟨rfl,hz1⟩
 subst hz1
 dsimp only
 refine hKc _ _ ⟨SD,?_⟩
 clear hKc Kc
 try simp only [Act.put,zq1,zq2,zq3]
 refine aH 15 95 (.bool false) SD rfl (by intro x hx;have y0:=hx;(first | exact exec_arrN 39 (.tmp 15) q1 0 Q _ rfl (row_rng hx.1) Tryz.underlying39 rfl (row_size Tryz.sizeSum HQS) | exact exec_arrN 39 (.tmp 16) q2 0 Q _ rfl (row_rng hx.2.1) Tryz.underlying39 rfl (row_size Tryz.sizeSum HQS) | (obtain ⟨x0,x1,x2,x3⟩:=hx;go_simp;done) | (obtain ⟨x0,x1,x2,x3⟩:=hx;go_simp;simp));try (intro h;omega)) ?_
 try simp only [Act.put,zq1,zq2,zq3]
 refine aH 16 96 (.bool false) SD rfl (by intro x hx;have y0:=hx;(first | exact exec_arrN 39 (.tmp 15) q1 0 Q _ rfl (row_rng hx.1) Tryz.underlying39 rfl (row_size Tryz.sizeSum HQS) | exact exec_arrN 39 (.tmp 16) q2 0 Q _ rfl (row_rng hx.2.1) Tryz.underlying39 rfl (row_size Tryz.sizeSum HQS) | (obtain ⟨x0,x1,x2,x3⟩:=hx;go_simp;done) | (obtain ⟨x0,x1,x2,x3⟩:=hx;go_simp;simp));try (intro h;omega)) ?_
 try simp only [Act.put,zq1,zq2,zq3]
 refine aH 17 97 (.bool false) SD rfl (by intro x hx;have y0:=hx;(first | exact exec_arrN 39 (.tmp 15) q1 0 Q _ rfl (row_rng hx.1) Tryz.underlying39 rfl (row_size Tryz.sizeSum HQS) | exact exec_arrN 39 (.tmp 16) q2 0 Q _ rfl (row_rng hx.2.1) Tryz.underlying39 rfl (row_size Tryz.sizeSum HQS) | (obtain ⟨x0,x1,x2,x3⟩:=hx;go_simp;done) | (obtain ⟨x0,x1,x2,x3⟩:=hx;go_simp;simp));try (intro h;omega)) ?_
 try simp only [Act.put,zq1,zq2,zq3]
 refine aH 18 98 (.pointer (some ⟨d,0,none⟩)) SD rfl (by intro x hx;have y0:=hx;(first | exact exec_arrN 39 (.tmp 15) q1 0 Q _ rfl (row_rng hx.1) Tryz.underlying39 rfl (row_size Tryz.sizeSum HQS) | exact exec_arrN 39 (.tmp 16) q2 0 Q _ rfl (row_rng hx.2.1) Tryz.underlying39 rfl (row_size Tryz.sizeSum HQS) | (obtain ⟨x0,x1,x2,x3⟩:=hx;go_simp;done) | (obtain ⟨x0,x1,x2,x3⟩:=hx;go_simp;simp));try (intro h;omega)) ?_
 try simp only [Act.put,zq1,zq2,zq3]
 refine aH 20 100 (.pointer (some ⟨r,0,none⟩)) SD rfl (by intro x hx;have y0:=hx;(first | exact exec_arrN 39 (.tmp 15) q1 0 Q _ rfl (row_rng hx.1) Tryz.underlying39 rfl (row_size Tryz.sizeSum HQS) | exact exec_arrN 39 (.tmp 16) q2 0 Q _ rfl (row_rng hx.2.1) Tryz.underlying39 rfl (row_size Tryz.sizeSum HQS) | (obtain ⟨x0,x1,x2,x3⟩:=hx;go_simp;done) | (obtain ⟨x0,x1,x2,x3⟩:=hx;go_simp;simp));try (intro h;omega)) ?_
 try simp only [Act.put,zq1,zq2,zq3]
 refine aH 21 101 (.pointer (some ⟨r,0,none⟩)) SD rfl (by intro x hx;have y0:=hx;(first | exact exec_arrN 39 (.tmp 15) q1 0 Q _ rfl (row_rng hx.1) Tryz.underlying39 rfl (row_size Tryz.sizeSum HQS) | exact exec_arrN 39 (.tmp 16) q2 0 Q _ rfl (row_rng hx.2.1) Tryz.underlying39 rfl (row_size Tryz.sizeSum HQS) | (obtain ⟨x0,x1,x2,x3⟩:=hx;go_simp;done) | (obtain ⟨x0,x1,x2,x3⟩:=hx;go_simp;simp));try (intro h;omega)) ?_
 try simp only [Act.put,zq1,zq2,zq3]
 refine aH 22 102 (.pointer (some ⟨r,2,none⟩)) SD rfl (by intro x hx;have y0:=hx;(first | exact exec_arrN 39 (.tmp 15) q1 0 Q _ rfl (row_rng hx.1) Tryz.underlying39 rfl (row_size Tryz.sizeSum HQS) | exact exec_arrN 39 (.tmp 16) q2 0 Q _ rfl (row_rng hx.2.1) Tryz.underlying39 rfl (row_size Tryz.sizeSum HQS) | (obtain ⟨x0,x1,x2,x3⟩:=hx;go_simp;done) | (obtain ⟨x0,x1,x2,x3⟩:=hx;go_simp;simp));try (intro h;omega)) ?_
 try simp only [Act.put,zq1,zq2,zq3]
 refine aH 23 103 (.int .i64 (m2.wr:Int)) SD rfl (by intro x hx;have y0:=hx;(first | exact exec_arrN 39 (.tmp 15) q1 0 Q _ rfl (row_rng hx.1) Tryz.underlying39 rfl (row_size Tryz.sizeSum HQS) | exact exec_arrN 39 (.tmp 16) q2 0 Q _ rfl (row_rng hx.2.1) Tryz.underlying39 rfl (row_size Tryz.sizeSum HQS) | (obtain ⟨x0,x1,x2,x3⟩:=hx;go_simp;done) | (obtain ⟨x0,x1,x2,x3⟩:=hx;go_simp;simp));try (intro h;omega)) ?_
 try simp only [Act.put,zq1,zq2,zq3]
 refine anyH_one 19 (by kernel_rfl) ?_
 refine wpOp_step rfl (fun Kc hKc=>?_)
 go_simp
 refine (c_writes HZ.out).mono ?_
 rintro e22 z2 ⟨rfl,hz2⟩
 subst hz2
 dsimp only
 refine hKc _ _ ⟨SD,?_⟩
 clear hKc Kc
 try simp only [Act.put,zq1,zq2,zq3]
 refine aH 24 104 (.bool false) SD rfl (by intro x hx;have y0:=hx;(first | exact exec_arrN 39 (.tmp 15) q1 0 Q _ rfl (row_rng hx.1) Tryz.underlying39 rfl (row_size Tryz.sizeSum HQS) | exact exec_arrN 39 (.tmp 16) q2 0 Q _ rfl (row_rng hx.2.1) Tryz.underlying39 rfl (row_size Tryz.sizeSum HQS) | (obtain ⟨x0,x1,x2,x3⟩:=hx;go_simp;done) | (obtain ⟨x0,x1,x2,x3⟩:=hx;go_simp;simp));try (intro h;omega)) ?_
 try simp only [Act.put,zq1,zq2,zq3]
 refine aH 25 105 (.bool false) SD rfl (by intro x hx;have y0:=hx;(first | exact exec_arrN 39 (.tmp 15) q1 0 Q _ rfl (row_rng hx.1) Tryz.underlying39 rfl (row_size Tryz.sizeSum HQS) | exact exec_arrN 39 (.tmp 16) q2 0 Q _ rfl (row_rng hx.2.1) Tryz.underlying39 rfl (row_size Tryz.sizeSum HQS) | (obtain ⟨x0,x1,x2,x3⟩:=hx;go_simp;done) | (obtain ⟨x0,x1,x2,x3⟩:=hx;go_simp;simp));try (intro h;omega)) ?_
 try simp only [Act.put,zq1,zq2,zq3]
 refine wpAnyH_done (by kernel_rfl) ?_ _
 have HZM:Hid (Sp4 w0 K d lb rb cb r qb gs gr B m2 m2 z2):=HZ.out
 clear HZ SD HEQ he1
 generalize z2=zz at *
 go_wp2
 go_loopw [17] (fun v17 wr=>∃ (i:Nat) (m o:Dk.M),i≤2∧v17 = .int .i64 (i:Int)∧Hid (Sp4 w0 K d lb rb cb r qb gs gr B m o wr)∧Hid (Eqv m o∧m.n=5∧(∀ j,m.rd j≤10*i)∧∀ j,o.rd j≤10*i)) (fun v17 _=>2-(intOf v17).toNat)
 case atStart=>exact ⟨0,m2,m2,by omega,rfl,HZM.out,⟨⟨rfl,rfl,rfl⟩,M2.out.1,fun j=>by rw [M2.out.2.2 j];exact Nat.zero_le _,fun j=>by rw [M2.out.2.2 j];exact Nat.zero_le _⟩⟩
 case round =>
 clear HZM M2 M1 HQS HQ1
 obtain ⟨i,m,o,hi,rfl,HV,HM⟩:=hrel
 by_cases hlt:¬ i<2
 ·have hni:¬ (i:Int)<2:=by omega
  go_wp2_with (go_at_call 30;refine (HKN.out _).mono ?_;rintro e8 w8 ⟨rfl,hb8⟩;have HB8:=Lib.hid ((B0.out.trans (HV.out.low.mono B0.out.size)).trans (hb8.mono (Nat.le_trans B0.out.size HV.out.low.size))))
  go_ret
  exact ⟨rfl,HB8.out⟩
 have hii:(i:Int)<2:=by omega
 obtain ⟨A2,eA2,hk2'⟩:=gk (Sp.bR K (Dk.rdX m 0)).1
 have HAS2:=Lib.hid hk2'.size
 have HA2:=Lib.hid hk2'.one
 have hql:=Sp.bR_len K (Dk.rdX m 0)
 have HQS2:=Lib.hid (sa_size hql)
 have HQ2:=Lib.hid (sa_one (Sp.bR K (Dk.rdX m 0)).2.1)
 have hXL:=HV.out.rdX_le
 have hox:=HM.out.1.x
 have hGL:=sgt_le K 1 0 (Dk.rdX m 0)
 have HE1:Hid (∀ y,(Op.equalIn 10000 67 (.agg A2) (.agg A2)).run Tryz.prog y = .ok true y):=fun y=>by have h:=geo_eq (Sp.bR K (Dk.rdX m 0)).1 (Sp.bR K (Dk.rdX m 0)).1 y;rw [decide_eq_true rfl,eA2] at h;exact h
 have HE2:Hid (∀ y,(Op.equalIn 10000 39 (.agg (sA (Sp.bR K (Dk.rdX m 0)).2.1)) (.agg (sA (Sp.bR K (Dk.rdX m 0)).2.1))).run Tryz.prog y = .ok true y):=fun y=>by have h:=a32_eq _ _ hql hql y;rw [decide_eq_true rfl] at h;exact h
 have HCR:Hid (∀ y,Sp4 w0 K d lb rb cb r qb gs gr B m o y→Calls Tryz.prog 37 #[.pointer (some ⟨d,0,none⟩),.iface 33 (.pointer (some ⟨gs,0,none⟩))] y (C4 B y (Sp4 w0 K d lb rb cb r qb gs gr B (Dk.rdM m 0) o) (.tuple #[.agg A2,.agg (sA (Sp.bR K (Dk.rdX m 0)).2.1),.int .i64 (Sp.bR K (Dk.rdX m 0)).2.2]))):=fun y hy=>by have h:=c_read HS.out (fun j=>by have:=HM.out.2.2.1 j;omega) (by omega) (by omega) hy;rw [eA2] at h;exact h
 have HFR:Hid (∀ y,Sp4 w0 K d lb rb cb r qb gs gr B (Dk.rdM m 0) o y→Calls Tryz.prog 38 #[.pointer (some ⟨r,0,none⟩),.pointer (some ⟨gr,0,none⟩)] y (C4 B y (Sp4 w0 K d lb rb cb r qb gs gr B (Dk.rdM m 0) (Dk.rdM o 0)) (.tuple #[.agg A2,.agg (sA (Sp.bR K (Dk.rdX m 0)).2.1),.int .i64 (Sp.bR K (Dk.rdX m 0)).2.2]))):=fun y hy=>by have h:=f_read (fun j=>by have:=HM.out.2.2.2 j;omega) (by rw [hox];omega) (by rw [hox];omega) hy;rw [hox,eA2] at h;exact h
 have HCD:Hid (∀ y,Sp4 w0 K d lb rb cb r qb gs gr B (Dk.rdM m 0) (Dk.rdM o 0) y→Calls Tryz.prog 17 #[.pointer (some ⟨d,0,none⟩),.int .i64 0] y fun e z=>∃ p c,e = .returned (.tuple #[.slice p (Dk.rdX m 0).length c,.int .i64 (Dk.rdE (Dk.rdM m 0) 0)])∧Hid (Bs z p c (Dk.rdX m 0))∧Hid (Sp4 w0 K d lb rb cb r qb gs gr B (Dk.rdM (Dk.rdM m 0) 0) (Dk.rdM o 0) z)∧Hid (Kp B y z)):=fun y hy=>by have h:=c_rd (fun j=>by have:=(rdM_same m).2 j;have:=HM.out.2.2.1 j;omega) hy;rw [rdM_x] at h;exact h
 have HPK:Hid (∀ y,Sp4 w0 K d lb rb cb r qb gs gr B (Dk.rdM (Dk.rdM m 0) 0) (Dk.rdM o 0) y→Calls Tryz.prog 19 #[.pointer (some ⟨r,0,none⟩),.int .i64 0] y fun e z=>∃ p c,e = .returned (.slice p (Dk.rdX m 0).length c)∧Hid (Bs z p c (Dk.rdX m 0))∧Hid (Below y.heap.size y z)):=fun y hy=>by
  have hn5:(Dk.rdM o 0).n=5:=(rdM_same o).1.1.trans (HM.out.1.1.trans HM.out.2.1)
  have h:=f_peek (by rw [hn5];omega) hy
  rw [peek_x hn5,rdM_x,hox] at h
  exact h
 have HSB:Hid (∀ y p q c c',Bs y p c (Dk.rdX m 0)→Bs y q c' (Dk.rdX m 0)→Calls Tryz.prog 18 #[.slice p (Dk.rdX m 0).length c,.slice q (Dk.rdX m 0).length c'] y (YesSay y)):=fun y p q c c' h1 h2=>same_any _ p q _ _ c c' rfl rfl y h1.bat h2.bat (by omega)
 have HMN:Hid (Eqv (Dk.rdM (Dk.rdM m 0) 0) (Dk.rdM o 0)∧(Dk.rdM (Dk.rdM m 0) 0).n=5∧(∀ j,(Dk.rdM (Dk.rdM m 0) 0).rd j≤10*(i+1))∧∀ j,(Dk.rdM o 0).rd j≤10*(i+1)):=⟨HM.out.1.rd,(rdM_same (Dk.rdM m 0)).1.1.trans ((rdM_same m).1.1.trans HM.out.2.1),fun j=>by have:=(rdM_same m).2 j;have:=(rdM_same (Dk.rdM m 0)).2 j;have:=HM.out.2.2.1 j;omega,fun j=>by have:=(rdM_same o).2 j;have:=HM.out.2.2.2 j;omega⟩
 clear hql hXL hox hGL eA2 hk2' HM
 generalize sA (Sp.bR K (Dk.rdX m 0)).2.1=Q2 at *
 generalize (Sp.bR K (Dk.rdX m 0)).2.2=E2 at *
 generalize Dk.rdX m 0=X at *
 generalize Dk.rdE (Dk.rdM m 0) 0=E3 at *
 generalize Dk.rdM (Dk.rdM m 0) 0=m5 at *
 generalize Dk.rdM m 0=m4 at *
 generalize Dk.rdM o 0=o4 at *
 go_upto_region 19 with (first
  | (go_at_call 37;refine (HCR.out _ HV.out).mono ?_;rintro e3 w3' ⟨rfl,H3,_⟩)
  | ((with_reducible refine row_store _ _ _ _ _ _ _ ?_ ?_ (heap_alloc2_old _ _ _) (row_size Tryz.sizeGeo HAS2) ?_ HA2.out ?_);(exact rfl);(exact rfl);(rw [HAS2.out,HZS.out]);intro wg3 Gg3 cg3)
  | ((with_reducible refine row_store _ _ _ _ _ _ _ ?_ ?_ ((cg3.block _ (by simp)).trans (heap_alloc2_new _ _ _)) (row_size Tryz.sizeSum HQS2) ?_ HQ2.out ?_);(exact rfl);(exact rfl);(rw [HQS2.out,HSS.out]);intro ws3 Gs3 cs3))
 have Bt3:Hid (Below w3'.heap.size w3' ws3):=cs3.below (cg3.below (((Below.refl _ w3').alloc (Nat.le_refl _) _).alloc (by simp) _) (Nat.le_refl _)) (by simp)
 have Gh3:Hid (ws3.heap[w3'.heap.size]?=some (.cells A2 67 (0,0))):=(cs3.block _ (by simp)).trans Gg3.out
 have H3':=Lib.hid (H3.out.old Bt3.out)
 have HBg:Hid (B≤w3'.heap.size):=H3.out.big
 clear HCR HV H3 Gg3 cg3 cs3 Bt3
 generalize w3'.heap.size=g1 at *
 go_upto_region 20 with (first
  | (go_at_call 38;refine (HFR.out _ H3'.out).mono ?_;rintro e4 w4' ⟨rfl,H4,K4⟩)
  | ((with_reducible refine row_store _ _ _ _ _ _ _ ?_ ?_ (heap_alloc2_old _ _ _) (row_size Tryz.sizeGeo HAS2) ?_ HA2.out ?_);(exact rfl);(exact rfl);(rw [HAS2.out,HZS.out]);intro wg4 Gg4 cg4)
  | ((with_reducible refine row_store _ _ _ _ _ _ _ ?_ ?_ ((cg4.block _ (by simp)).trans (heap_alloc2_new _ _ _)) (row_size Tryz.sizeSum HQS2) ?_ HQ2.out ?_);(exact rfl);(exact rfl);(rw [HQS2.out,HSS.out]);intro ws4 Gs4 cs4))
 have Bt4:Hid (Below w4'.heap.size w4' ws4):=cs4.below (cg4.below (((Below.refl _ w4').alloc (Nat.le_refl _) _).alloc (by simp) _) (Nat.le_refl _)) (by simp)
 have Gh4:Hid (ws4.heap[w4'.heap.size]?=some (.cells A2 67 (0,0))):=(cs4.block _ (by simp)).trans Gg4.out
 have H4':=Lib.hid (H4.out.old Bt4.out)
 have HBh:Hid (B≤w4'.heap.size):=H4.out.big
 have U1:Hid (ws4.heap[g1]?=some (.cells A2 67 (0,0))):=(Bt4.out.block _ (Nat.lt_of_lt_of_le (lt_of_block Gh3.out) K4.out.size)).trans ((K4.out.block _ HBg.out (lt_of_block Gh3.out)).trans Gh3.out)
 have U2:Hid (ws4.heap[g1+1]?=some (.cells Q2 39 (0,0))):=(Bt4.out.block _ (Nat.lt_of_lt_of_le (lt_of_block Gs3.out) K4.out.size)).trans ((K4.out.block _ (Nat.le_succ_of_le HBg.out) (lt_of_block Gs3.out)).trans Gs3.out)
 clear HFR H3' H4 Gg4 cg4 cs4 Bt4 K4 Gh3 Gs3
 generalize w4'.heap.size=g2 at *
 go_upto_region 21 with (go_at_call 17;refine (HCD.out _ H4'.out).mono ?_;rintro e5 w5' ⟨p1,c1,rfl,HX1,H5',K5⟩)
 have S1:Hid (w5'.heap[g1]?=some (.cells A2 67 (0,0))):=(K5.out.block _ HBg.out (lt_of_block U1.out)).trans U1.out
 have S2:Hid (w5'.heap[g1+1]?=some (.cells Q2 39 (0,0))):=(K5.out.block _ (Nat.le_succ_of_le HBg.out) (lt_of_block U2.out)).trans U2.out
 have S3:Hid (w5'.heap[g2]?=some (.cells A2 67 (0,0))):=(K5.out.block _ HBh.out (lt_of_block Gh4.out)).trans Gh4.out
 have S4:Hid (w5'.heap[g2+1]?=some (.cells Q2 39 (0,0))):=(K5.out.block _ (Nat.le_succ_of_le HBh.out) (lt_of_block Gs4.out)).trans Gs4.out
 clear HCD H4' HBg HBh U1 U2 Gh4 Gs4 K5
 have he1:=HE1.out
 have he2:=HE2.out
 go_wp2_with (first
  | ((with_reducible refine row_load _ _ _ _ _ _ _ ?_ S1.out Tryz.underlying67 ?_ (row_size Tryz.sizeGeo HAS2) ?_);(exact rfl);(exact rfl))
  | ((with_reducible refine row_load_g _ _ _ _ _ _ _ ?_ ?_ S1.out Tryz.underlying67 ?_ (row_size Tryz.sizeGeo HAS2) ?_);(exact rfl);(exact rfl);(exact rfl))
  | ((with_reducible refine row_load _ _ _ _ _ _ _ ?_ S2.out Tryz.underlying39 ?_ (row_size Tryz.sizeSum HQS2) ?_);(exact rfl);(exact rfl))
  | ((with_reducible refine row_load_g _ _ _ _ _ _ _ ?_ ?_ S2.out Tryz.underlying39 ?_ (row_size Tryz.sizeSum HQS2) ?_);(exact rfl);(exact rfl);(exact rfl))
  | ((with_reducible refine row_load _ _ _ _ _ _ _ ?_ S3.out Tryz.underlying67 ?_ (row_size Tryz.sizeGeo HAS2) ?_);(exact rfl);(exact rfl))
  | ((with_reducible refine row_load_g _ _ _ _ _ _ _ ?_ ?_ S3.out Tryz.underlying67 ?_ (row_size Tryz.sizeGeo HAS2) ?_);(exact rfl);(exact rfl);(exact rfl))
  | ((with_reducible refine row_load _ _ _ _ _ _ _ ?_ S4.out Tryz.underlying39 ?_ (row_size Tryz.sizeSum HQS2) ?_);(exact rfl);(exact rfl))
  | ((with_reducible refine row_load_g _ _ _ _ _ _ _ ?_ ?_ S4.out Tryz.underlying39 ?_ (row_size Tryz.sizeSum HQS2) ?_);(exact rfl);(exact rfl);(exact rfl))
  | (go_at_call 19;refine (HPK.out _ H5'.out).mono ?_;rintro e31 z1 ⟨p5,c5,rfl,hb5,HB5⟩)
  | (go_at_call 18;refine (HSB.out _ _ _ _ _ (HX1.out.old HB5.out) hb5.out).mono ?_;rintro e32 z3 ⟨rfl,hb6⟩;have HV6:=Lib.hid (H5'.out.old (HB5.out.trans (hb6.mono HB5.out.size))))
  | (go_at_call 39;refine (c_tamper L bp bn bc hbn (by omega) (HL0.out.old HV6.out.low) HV6.out).mono ?_;rintro e7 w7' ⟨rfl,H7',_⟩)
  | (go_at_call 40;refine (f_tamper L bp bn bc hbn (by omega) (HL0.out.old H7'.out.low) H7'.out).mono ?_;rintro e8 w8' ⟨rfl,H8',_⟩))
 exact ⟨⟨i+1,_,_,by omega,by go_num,H8'.out,⟨HMN.out.1.tp L,(tpM_same m5 L).1.trans HMN.out.2.1,fun j=>by rw [(tpM_same m5 L).2];exact HMN.out.2.2.1 j,fun j=>by rw [(tpM_same o4 L).2];exact HMN.out.2.2.2 j⟩⟩,by simp [intOf];omega⟩
end Go.Proofs.YtnnalemboeccbaaGreatDoor

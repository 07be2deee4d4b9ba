import Derived.Test.YthgjfjmampmiiaaGreatDoorRz2
namespace Go.Proofs.YthgjfjmampmiiaaGreatDoor
open Go.Proofs.Tryz
set_option maxHeartbeats 2000000
set_option maxRecDepth 100000
open Go.RowKit
namespace Rg
def fM (K:List Int) (m:Dk.M) (o:O):Int:=if o.k=0 then wE m o.r (bX K o.r o.n) else if o.k=1 then Dk.fault m o.n o.D else if o.k=2 then (if Dk.fC m o.m=0 then Dk.fault (Dk.dG m o.m) o.n (Dk.bK m o.m) else Dk.fC m o.m) else if o.k=3 then Dk.aM m else 0
def ed (K:List Int) (m:Dk.M) (o:O):Dk.M:=if o.k=0 then wM m o.r (bX K o.r o.n) else if o.k=1 then Dk.iX m o.n o.D else if o.k=2 then (if Dk.fC m o.m=0 then Dk.iX (Dk.dG m o.m) o.n (Dk.bK m o.m) else Dk.dG m o.m) else if o.k=3 then Dk.nZ m else if o.k=4 then Dk.cY m (Dk.cD o.L) else if o.k=5 then { m with left:=o.n } else m
section
variable {K:List Int} {m:Dk.M} {o:O}
theorem ru0 (h:o.k=0):fM K m o=wE m o.r (bX K o.r o.n)∧ed K m o=wM m o.r (bX K o.r o.n):=by unfold fM ed;rw [if_pos h,if_pos h];exact ⟨rfl,rfl⟩
theorem ru1 (h:o.k=1):fM K m o=Dk.fault m o.n o.D∧ed K m o=Dk.iX m o.n o.D:=by unfold fM ed;simp [h]
theorem ru2 (h:o.k=2) (he:Dk.fC m o.m=0):fM K m o=Dk.fault (Dk.dG m o.m) o.n (Dk.bK m o.m)∧ed K m o=Dk.iX (Dk.dG m o.m) o.n (Dk.bK m o.m):=by unfold fM ed;simp [h,he]
theorem uC (h:o.k=2) (he:¬ Dk.fC m o.m=0):fM K m o=Dk.fC m o.m∧ed K m o=Dk.dG m o.m:=by unfold fM ed;simp [h,he]
theorem ru3 (h:o.k=3):fM K m o=Dk.aM m∧ed K m o=Dk.nZ m:=by unfold fM ed;simp [h]
theorem ru4 (h:o.k=4):fM K m o=0∧ed K m o=Dk.cY m (Dk.cD o.L):=by unfold fM ed;simp [h]
theorem ru5 (h:o.k=5):fM K m o=0∧ed K m o = { m with left:=o.n }:=by unfold fM ed;simp [h]
theorem ru6 (h0:o.k ≠ 0) (h1:o.k ≠ 1) (h2:o.k ≠ 2) (h3:o.k ≠ 3) (h4:o.k ≠ 4) (h5:o.k ≠ 5):fM K m o=0∧ed K m o=m:=by unfold fM ed;simp [h0,h1,h2,h3,h4,h5]
attribute [irreducible] fM ed
end
end Rg
section
variable {x y z:World} {K:List Int} {d lb rb cb r qb gs gr B:Nat} {T U:Nat→Prop} {m n m' n':Dk.M}
theorem bB.ajx (h:bB x K d lb rb cb r qb gs gr B m n y) (hm:Mv [d,lb,rb,cb] y z):qw x z:=by
 obtain ⟨T,U,h⟩:=h;exact hm.below h.bel (fun k hk=>h.lo.1 k (by
  simp only [List.mem_cons,List.not_mem_nil,or_false] at hk;rcases hk with rfl | rfl | rfl | rfl
  ·exact h.dk.lt.1
  ·exact h.dk.lt.2.1
  ·exact h.dk.lt.2.2.1
  ·exact h.dk.lt.2.2.2)) h.bel.size
theorem bB.ajE (h:bB x K d lb rb cb r qb gs gr B m n y) (hm:Mv [r,qb] y z):qw x z:=by
 obtain ⟨T,U,h⟩:=h;exact hm.below h.bel (fun k hk=>h.lo.2 k (by
  simp only [List.mem_cons,List.not_mem_nil,or_false] at hk;rcases hk with rfl | rfl
  ·exact h.rf.lt.1
  ·exact h.rf.lt.2)) h.bel.size
theorem agD (GN:aV) (o:Rg.O) (hk:o.k=0) (A:Array Value) (pd:Option Addr) (cd:Nat) (pf:Option Addr) (cf:Nat) (hA:rq o A pd cd pf cf) (hop:eR x o pd cd pf cf) (w:World) (h:bB x K d lb rb cb r qb gs gr B m n w) (hb:o.D.length≤1024∧m.wr≤10000∧(∀ j,m.rd j≤10000)∧(Dk.bK m o.m).length≤1024) :
  qc 11 #[qp d,.iface 33 (qp gs),.agg A] w (C4 B w (bB x K d lb rb cb r qb gs gr B (Rg.ed K m o) n) (.int .i64 (Rg.fM K m o))):=by
 obtain ⟨w1,Aq⟩:∃ y,y=w.alloc (.cells A 48):=⟨_,rfl⟩;have R1:Hid (w1.heap[w.heap.size]?=qo A 48):=by rw [Aq];exact heap_alloc_new w _
 have B1:Hid (qw w w1):=by rw [Aq];exact (Below.refl _ w).alloc qn _
 have V1:=qh (h.av B1.out);have BN:Hid (Kp B w w1):=Kp.aB B1.out;have Be:=qh h.tS;have hs:=hA.size;have h1:=hA.one;obtain ⟨c0,c1,c2,rr,c4,c5⟩:=hA.at_ w1 w.heap.size _ R1.out;have Cu:=qh rr;have CO:=qh hA.at_;have Bp:=qh hop;have Ey:=ae Tryz.ah (qh (aA hop.ok));rw [(Rg.ru0 hk).1,(Rg.ru0 hk).2];have HC:Hid (∀ y,bB x K d lb rb cb r qb gs gr B m n y→qc 30 #[qp d,.iface 33 (qp gs),.agg (br o.r),.int .i64 o.n] y (C4 B y (bB x K d lb rb cb r qb gs gr B (Rg.wM m o.r (Rg.bX K o.r o.n)) n) (.int .i64 (Rg.wE m o.r (Rg.bX K o.r o.n))))):=fun y hy=>by
  have h2:=zV GN o.r hop.ok o.n (by omega) hy;rw [cM] at h2;exact h2
 clear hA rr hop hb h;go_enter func11,ntmps11;go_upto_region 1 with (fail)
 change Code.wp _ _ _ _ (w.alloc (.cells A 48));rw [← Aq];clear Aq;rw [hk] at c0;go_wp2_with (first
  | ((with_reducible refine cN _ _ w.heap.size 3 (br o.r) _ ?_ ?_ Cu.out underlying45 ?_ Ey ?_);(exact rfl);(exact rfl);(exact rfl))
  | (go_at_call 30;refine (HC.out _ V1.out).mono ?_;rintro e2 w2 ⟨rfl,V2,A9⟩))
 go_ret;exact ⟨rfl,V2,BN.out.trans A9.out⟩
theorem afE (o:Rg.O) (hk:o.k=1) (A:Array Value) (pd:Option Addr) (cd:Nat) (pf:Option Addr) (cf:Nat) (hA:rq o A pd cd pf cf) (hop:eR x o pd cd pf cf) (w:World) (h:bB x K d lb rb cb r qb gs gr B m n w) (hb:o.D.length≤1024∧m.wr≤10000∧(∀ j,m.rd j≤10000)∧(Dk.bK m o.m).length≤1024) :
  qc 11 #[qp d,.iface 33 (qp gs),.agg A] w (C4 B w (bB x K d lb rb cb r qb gs gr B (Rg.ed K m o) n) (.int .i64 (Rg.fM K m o))):=by
 obtain ⟨w1,Aq⟩:∃ y,y=w.alloc (.cells A 48):=⟨_,rfl⟩;have R1:Hid (w1.heap[w.heap.size]?=qo A 48):=by rw [Aq];exact heap_alloc_new w _
 have B1:Hid (qw w w1):=by rw [Aq];exact (Below.refl _ w).alloc qn _
 have V1:=qh (h.av B1.out);have BN:Hid (Kp B w w1):=Kp.aB B1.out;have Be:=qh h.tS;have hs:=hA.size;have h1:=hA.one;obtain ⟨c0,c1,c2,rr,c4,c5⟩:=hA.at_ w1 w.heap.size _ R1.out;have Cu:=qh rr;have CO:=qh hA.at_;have Bp:=qh hop;have Ey:=ae Tryz.ah (qh (aA hop.ok));rw [(Rg.ru1 hk).1,(Rg.ru1 hk).2];have HC:Hid (∀ y,bB x K d lb rb cb r qb gs gr B m n y→qc 35 #[qp d,.int .i64 o.n,.slice pd o.D.length cd] y (C4 B y (bB x K d lb rb cb r qb gs gr B (Dk.iX m o.n o.D) n) (.int .i64 (Dk.fault m o.n o.D)))):=fun y hy=>by
  exact oA o.n o.D pd _ cd rfl (by omega) (hop.D.av hy.low) hy
 clear hA rr hop hb h;go_enter func11,ntmps11;go_upto_region 1 with (fail)
 change Code.wp _ _ _ _ (w.alloc (.cells A 48));rw [← Aq];clear Aq;rw [hk] at c0;go_wp2_with (go_at_call 35;refine (HC.out _ V1.out).mono ?_;rintro e2 w2 ⟨rfl,V2,A9⟩)
 go_ret;exact ⟨rfl,V2,BN.out.trans A9.out⟩
theorem agm (o:Rg.O) (hk:o.k=2) (A:Array Value) (pd:Option Addr) (cd:Nat) (pf:Option Addr) (cf:Nat) (hA:rq o A pd cd pf cf) (hop:eR x o pd cd pf cf) (w:World) (h:bB x K d lb rb cb r qb gs gr B m n w) (hb:o.D.length≤1024∧m.wr≤10000∧(∀ j,m.rd j≤10000)∧(Dk.bK m o.m).length≤1024) :
  qc 11 #[qp d,.iface 33 (qp gs),.agg A] w (C4 B w (bB x K d lb rb cb r qb gs gr B (Rg.ed K m o) n) (.int .i64 (Rg.fM K m o))):=by
 obtain ⟨w1,Aq⟩:∃ y,y=w.alloc (.cells A 48):=⟨_,rfl⟩;have R1:Hid (w1.heap[w.heap.size]?=qo A 48):=by rw [Aq];exact heap_alloc_new w _
 have B1:Hid (qw w w1):=by rw [Aq];exact (Below.refl _ w).alloc qn _
 have V1:=qh (h.av B1.out);have BN:Hid (Kp B w w1):=Kp.aB B1.out;have Be:=qh h.tS;have hs:=hA.size;have h1:=hA.one;obtain ⟨c0,c1,c2,rr,c4,c5⟩:=hA.at_ w1 w.heap.size _ R1.out;have Cu:=qh rr;have CO:=qh hA.at_;have Bp:=qh hop;have Ey:=ae Tryz.ah (qh (aA hop.ok));have ET:Hid (Dk.fC m o.m=0→Rg.fM K m o=Dk.fault (Dk.dG m o.m) o.n (Dk.bK m o.m)∧Rg.ed K m o=Dk.iX (Dk.dG m o.m) o.n (Dk.bK m o.m)):=fun q=>Rg.ru2 hk q;have Jp:Hid (¬ Dk.fC m o.m=0→Rg.fM K m o=Dk.fC m o.m∧Rg.ed K m o=Dk.dG m o.m):=fun q=>Rg.uC hk q;have HC:Hid (∀ y,bB x K d lb rb cb r qb gs gr B m n y→qc 16 #[qp d,.int .i64 o.m] y (R4 B (Dk.bK m o.m) (Dk.fC m o.m) y (bB x K d lb rb cb r qb gs gr B (Dk.dG m o.m) n))):=fun y hy=>aft o.m (fun j=>by have:=hb.2.2.1 j;omega) hy;have HT:Hid (∀ y p q,bB x K d lb rb cb r qb gs gr B (Dk.dG m o.m) n y→Bs y p q (Dk.bK m o.m)→qc 35 #[qp d,.int .i64 o.n,.slice p (Dk.bK m o.m).length q] y (C4 B y (bB x K d lb rb cb r qb gs gr B (Dk.iX (Dk.dG m o.m) o.n (Dk.bK m o.m)) n) (.int .i64 (Dk.fault (Dk.dG m o.m) o.n (Dk.bK m o.m))))):=fun y p q hy hbs=>oA o.n (Dk.bK m o.m) p _ q rfl (by omega) hbs hy;clear hA rr hop hb h;go_enter func11,ntmps11;go_upto_region 1 with (fail)
 change Code.wp _ _ _ _ (w.alloc (.cells A 48));rw [← Aq];clear Aq;rw [hk] at c0;go_upto_region 8 with (go_at_call 16;refine (HC.out _ V1.out).mono ?_;rintro e2 w2 ⟨p2,q2,rfl,Ar,V2,A9⟩)
 have R2:=qh ((A9.out.block _ Be.out (lt_of_block R1.out)).trans R1.out);have d1:=(CO.out w2 w.heap.size _ R2.out).2.1;have IF:Hid (Kp B w w2):=BN.out.trans A9.out;clear c0 c1 c2 c4 c5 A9;by_cases hE:Dk.fC m o.m=0
 ·rw [hE];have HTx:=qh (HT.out _ p2 q2 V2.out Ar.out);obtain ⟨nx,Ph⟩:∃ nx,(Dk.bK m o.m).length=nx:=⟨_,rfl⟩;rw [Ph] at HTx ⊢;go_wp2_with (go_at_call 35;refine HTx.out.mono ?_;rintro e3 w3 ⟨rfl,V3,EV⟩)
  go_ret;exact ⟨by rw [(ET.out hE).1];first | done | rfl,by rw [(ET.out hE).2];exact V3,IF.out.trans EV.out⟩
 ·have Cq:(Dk.fC m o.m==0)=false:=by simpa using hE
  have Hw:=qh (Jp.out hE);clear ET Jp HT;generalize Dk.fC m o.m=rE at *;go_wp2;go_ret;exact ⟨by rw [Hw.out.1];first | done | rfl,by rw [Hw.out.2];exact V2,IF⟩
theorem afz (o:Rg.O) (hk:o.k=3) (A:Array Value) (pd:Option Addr) (cd:Nat) (pf:Option Addr) (cf:Nat) (hA:rq o A pd cd pf cf) (hop:eR x o pd cd pf cf) (w:World) (h:bB x K d lb rb cb r qb gs gr B m n w) (_hb:o.D.length≤1024∧m.wr≤10000∧(∀ j,m.rd j≤10000)∧(Dk.bK m o.m).length≤1024) :
  qc 11 #[qp d,.iface 33 (qp gs),.agg A] w (C4 B w (bB x K d lb rb cb r qb gs gr B (Rg.ed K m o) n) (.int .i64 (Rg.fM K m o))):=by
 obtain ⟨w1,Aq⟩:∃ y,y=w.alloc (.cells A 48):=⟨_,rfl⟩;have R1:Hid (w1.heap[w.heap.size]?=qo A 48):=by rw [Aq];exact heap_alloc_new w _
 have B1:Hid (qw w w1):=by rw [Aq];exact (Below.refl _ w).alloc qn _
 have V1:=qh (h.av B1.out);have BN:Hid (Kp B w w1):=Kp.aB B1.out;have Be:=qh h.tS;have hs:=hA.size;have h1:=hA.one;obtain ⟨c0,c1,c2,rr,c4,c5⟩:=hA.at_ w1 w.heap.size _ R1.out;have Cu:=qh rr;have CO:=qh hA.at_;have Bp:=qh hop;have Ey:=ae Tryz.ah (qh (aA hop.ok));rw [(Rg.ru3 hk).1,(Rg.ru3 hk).2];have HC:Hid (∀ y,bB x K d lb rb cb r qb gs gr B m n y→qc 36 #[qp d] y (C4 B y (bB x K d lb rb cb r qb gs gr B (Dk.nZ m) n) (.int .i64 (Dk.aM m)))):=fun y hy=>by
  exact afR hy
 clear hA rr hop _hb h;go_enter func11,ntmps11;go_upto_region 1 with (fail)
 change Code.wp _ _ _ _ (w.alloc (.cells A 48));rw [← Aq];clear Aq;rw [hk] at c0;go_wp2_with (go_at_call 36;refine (HC.out _ V1.out).mono ?_;rintro e2 w2 ⟨rfl,V2,A9⟩)
 go_ret;exact ⟨rfl,V2,BN.out.trans A9.out⟩
theorem afK (o:Rg.O) (hk:o.k=4) (A:Array Value) (pd:Option Addr) (cd:Nat) (pf:Option Addr) (cf:Nat) (hA:rq o A pd cd pf cf) (hop:eR x o pd cd pf cf) (w:World) (h:bB x K d lb rb cb r qb gs gr B m n w) (hb:o.D.length≤1024∧m.wr≤10000∧(∀ j,m.rd j≤10000)∧(Dk.bK m o.m).length≤1024) :
  qc 11 #[qp d,.iface 33 (qp gs),.agg A] w (C4 B w (bB x K d lb rb cb r qb gs gr B (Rg.ed K m o) n) (.int .i64 (Rg.fM K m o))):=by
 obtain ⟨w1,Aq⟩:∃ y,y=w.alloc (.cells A 48):=⟨_,rfl⟩;have R1:Hid (w1.heap[w.heap.size]?=qo A 48):=by rw [Aq];exact heap_alloc_new w _
 have B1:Hid (qw w w1):=by rw [Aq];exact (Below.refl _ w).alloc qn _
 have V1:=qh (h.av B1.out);have BN:Hid (Kp B w w1):=Kp.aB B1.out;have Be:=qh h.tS;have hs:=hA.size;have h1:=hA.one;obtain ⟨c0,c1,c2,rr,c4,c5⟩:=hA.at_ w1 w.heap.size _ R1.out;have Cu:=qh rr;have CO:=qh hA.at_;have Bp:=qh hop;have Ey:=ae Tryz.ah (qh (aA hop.ok));rw [(Rg.ru4 hk).1,(Rg.ru4 hk).2];have HC:Hid (∀ y,bB x K d lb rb cb r qb gs gr B m n y→qc 37 #[qp d,.slice pf o.L.length cf] y (C4 B y (bB x K d lb rb cb r qb gs gr B (Dk.cY m (Dk.cD o.L)) n) (.tuple #[]))):=fun y hy=>by
  exact adS o.L pf _ cf rfl (by omega) (fun z hz=>hop.L.av (hy.ajx hz)) hy
 clear hA rr hop hb h;go_enter func11,ntmps11;go_upto_region 1 with (fail)
 change Code.wp _ _ _ _ (w.alloc (.cells A 48));rw [← Aq];clear Aq;rw [hk] at c0;go_wp2_with (go_at_call 37;refine (HC.out _ V1.out).mono ?_;rintro e2 w2 ⟨rfl,V2,A9⟩)
 go_ret;exact ⟨rfl,V2,BN.out.trans A9.out⟩
theorem ahv (o:Rg.O) (hk:o.k=5) (A:Array Value) (pd:Option Addr) (cd:Nat) (pf:Option Addr) (cf:Nat) (hA:rq o A pd cd pf cf) (hop:eR x o pd cd pf cf) (w:World) (h:bB x K d lb rb cb r qb gs gr B m n w) (_hb:o.D.length≤1024∧m.wr≤10000∧(∀ j,m.rd j≤10000)∧(Dk.bK m o.m).length≤1024) :
  qc 11 #[qp d,.iface 33 (qp gs),.agg A] w (C4 B w (bB x K d lb rb cb r qb gs gr B (Rg.ed K m o) n) (.int .i64 (Rg.fM K m o))):=by
 obtain ⟨w1,Aq⟩:∃ y,y=w.alloc (.cells A 48):=⟨_,rfl⟩;have R1:Hid (w1.heap[w.heap.size]?=qo A 48):=by rw [Aq];exact heap_alloc_new w _
 have B1:Hid (qw w w1):=by rw [Aq];exact (Below.refl _ w).alloc qn _
 have V1:=qh (h.av B1.out);have BN:Hid (Kp B w w1):=Kp.aB B1.out;have Be:=qh h.tS;have hs:=hA.size;have h1:=hA.one;obtain ⟨c0,c1,c2,rr,c4,c5⟩:=hA.at_ w1 w.heap.size _ R1.out;have Cu:=qh rr;have CO:=qh hA.at_;have Bp:=qh hop;have Ey:=ae Tryz.ah (qh (aA hop.ok));rw [(Rg.ru5 hk).1,(Rg.ru5 hk).2];have HC:Hid (∀ y,bB x K d lb rb cb r qb gs gr B m n y→qc 38 #[qp d,.int .i64 o.n] y (C4 B y (bB x K d lb rb cb r qb gs gr B { m with left:=o.n } n) (.tuple #[]))):=fun y hy=>by
  exact aiq o.n (by have:=hop.n;unfold Pk.aT at this;unfold aT;exact this) hy
 clear hA rr hop _hb h;go_enter func11,ntmps11;go_upto_region 1 with (fail)
 change Code.wp _ _ _ _ (w.alloc (.cells A 48));rw [← Aq];clear Aq;rw [hk] at c0;go_wp2_with (go_at_call 38;refine (HC.out _ V1.out).mono ?_;rintro e2 w2 ⟨rfl,V2,A9⟩)
 go_ret;exact ⟨rfl,V2,BN.out.trans A9.out⟩
theorem agt (o:Rg.O) (h0:o.k ≠ 0) (h1k:o.k ≠ 1) (h2k:o.k ≠ 2) (h3k:o.k ≠ 3) (h4k:o.k ≠ 4) (h5k:o.k ≠ 5) (A:Array Value) (pd:Option Addr) (cd:Nat) (pf:Option Addr) (cf:Nat) (hA:rq o A pd cd pf cf) (hop:eR x o pd cd pf cf) (w:World) (h:bB x K d lb rb cb r qb gs gr B m n w) (_hb:o.D.length≤1024∧m.wr≤10000∧(∀ j,m.rd j≤10000)∧(Dk.bK m o.m).length≤1024) :
  qc 11 #[qp d,.iface 33 (qp gs),.agg A] w (C4 B w (bB x K d lb rb cb r qb gs gr B (Rg.ed K m o) n) (.int .i64 (Rg.fM K m o))):=by
 obtain ⟨w1,Aq⟩:∃ y,y=w.alloc (.cells A 48):=⟨_,rfl⟩;have R1:Hid (w1.heap[w.heap.size]?=qo A 48):=by rw [Aq];exact heap_alloc_new w _
 have B1:Hid (qw w w1):=by rw [Aq];exact (Below.refl _ w).alloc qn _
 have V1:=qh (h.av B1.out);have BN:Hid (Kp B w w1):=Kp.aB B1.out;have Be:=qh h.tS;have hs:=hA.size;have h1:=hA.one;obtain ⟨c0,c1,c2,rr,c4,c5⟩:=hA.at_ w1 w.heap.size _ R1.out;have Cu:=qh rr;have CO:=qh hA.at_;have Bp:=qh hop;have Ey:=ae Tryz.ah (qh (aA hop.ok));rw [(Rg.ru6 h0 h1k h2k h3k h4k h5k).1,(Rg.ru6 h0 h1k h2k h3k h4k h5k).2];clear hA rr hop _hb h;go_enter func11,ntmps11;go_upto_region 1 with (fail)
 change Code.wp _ _ _ _ (w.alloc (.cells A 48));rw [← Aq];clear Aq;have b0:(o.k==0)=false:=by simpa using h0
 have b1:(o.k==1)=false:=by simpa using h1k
 have b2:(o.k==2)=false:=by simpa using h2k
 have b3:(o.k==3)=false:=by simpa using h3k
 have b4:(o.k==4)=false:=by simpa using h4k
 have b5:(o.k==5)=false:=by simpa using h5k
 clear h0 h1k h2k h3k h4k h5k;generalize o.k=kk at c0 b0 b1 b2 b3 b4 b5;go_wp2;go_ret;exact ⟨rfl,V1,BN⟩
theorem ab6 (GN:aV) (o:Rg.O) (A:Array Value) (pd:Option Addr) (cd:Nat) (pf:Option Addr) (cf:Nat) (hA:rq o A pd cd pf cf) (hop:eR x o pd cd pf cf) (w:World) (h:bB x K d lb rb cb r qb gs gr B m n w) (hb:o.D.length≤1024∧m.wr≤10000∧(∀ j,m.rd j≤10000)∧(Dk.bK m o.m).length≤1024) :
  qc 11 #[qp d,.iface 33 (qp gs),.agg A] w (C4 B w (bB x K d lb rb cb r qb gs gr B (Rg.ed K m o) n) (.int .i64 (Rg.fM K m o))):=by
 by_cases h0:o.k=0
 ·exact agD GN o h0 A pd cd pf cf hA hop w h hb
 by_cases h1:o.k=1
 ·exact afE o h1 A pd cd pf cf hA hop w h hb
 by_cases h2:o.k=2
 ·exact agm o h2 A pd cd pf cf hA hop w h hb
 by_cases h3:o.k=3
 ·exact afz o h3 A pd cd pf cf hA hop w h hb
 by_cases h4:o.k=4
 ·exact afK o h4 A pd cd pf cf hA hop w h hb
 by_cases h5:o.k=5
 ·exact ahv o h5 A pd cd pf cf hA hop w h hb
 exact agt o h0 h1 h2 h3 h4 h5 A pd cd pf cf hA hop w h hb
theorem agK (o:Rg.O) (hk:o.k=0) (A:Array Value) (pd:Option Addr) (cd:Nat) (pf:Option Addr) (cf:Nat) (hA:rq o A pd cd pf cf) (hop:eR x o pd cd pf cf) (w:World) (h:bB x K d lb rb cb r qb gs gr B m n w) (hb:o.D.length≤1024∧n.wr≤10000∧(∀ j,n.rd j≤10000)∧(Dk.bK n o.m).length≤1024) :
  qc 12 #[qp r,qp gr,.agg A] w (C4 B w (bB x K d lb rb cb r qb gs gr B m (Rg.ed K n o)) (.int .i64 (Rg.fM K n o))):=by
 obtain ⟨w1,Aq⟩:∃ y,y=w.alloc (.cells A 48):=⟨_,rfl⟩;have R1:Hid (w1.heap[w.heap.size]?=qo A 48):=by rw [Aq];exact heap_alloc_new w _
 have B1:Hid (qw w w1):=by rw [Aq];exact (Below.refl _ w).alloc qn _
 have V1:=qh (h.av B1.out);have BN:Hid (Kp B w w1):=Kp.aB B1.out;have Be:=qh h.tS;have hs:=hA.size;have h1:=hA.one;obtain ⟨c0,c1,c2,rr,c4,c5⟩:=hA.at_ w1 w.heap.size _ R1.out;have Cu:=qh rr;have CO:=qh hA.at_;have Bp:=qh hop;have Ey:=ae Tryz.ah (qh (aA hop.ok));rw [(Rg.ru0 hk).1,(Rg.ru0 hk).2];have HC:Hid (∀ y,bB x K d lb rb cb r qb gs gr B m n y→qc 39 #[qp r,qp gr,.agg (br o.r),.int .i64 o.n] y (C4 B y (bB x K d lb rb cb r qb gs gr B m (Rg.wM n o.r (Rg.bX K o.r o.n))) (.int .i64 (Rg.wE n o.r (Rg.bX K o.r o.n))))):=fun y hy=>by
  have h2:=zv o.r hop.ok o.n (by omega) hy;rw [cM] at h2;exact h2
 clear hA rr hop hb h;go_enter func12,ntmps12;go_upto_region 1 with (fail)
 change Code.wp _ _ _ _ (w.alloc (.cells A 48));rw [← Aq];clear Aq;rw [hk] at c0;go_wp2_with (first
  | ((with_reducible refine cN _ _ w.heap.size 3 (br o.r) _ ?_ ?_ Cu.out underlying45 ?_ Ey ?_);(exact rfl);(exact rfl);(exact rfl))
  | (go_at_call 39;refine (HC.out _ V1.out).mono ?_;rintro e2 w2 ⟨rfl,V2,A9⟩))
 go_ret;exact ⟨rfl,V2,BN.out.trans A9.out⟩
theorem agw (o:Rg.O) (hk:o.k=1) (A:Array Value) (pd:Option Addr) (cd:Nat) (pf:Option Addr) (cf:Nat) (hA:rq o A pd cd pf cf) (hop:eR x o pd cd pf cf) (w:World) (h:bB x K d lb rb cb r qb gs gr B m n w) (hb:o.D.length≤1024∧n.wr≤10000∧(∀ j,n.rd j≤10000)∧(Dk.bK n o.m).length≤1024) :
  qc 12 #[qp r,qp gr,.agg A] w (C4 B w (bB x K d lb rb cb r qb gs gr B m (Rg.ed K n o)) (.int .i64 (Rg.fM K n o))):=by
 obtain ⟨w1,Aq⟩:∃ y,y=w.alloc (.cells A 48):=⟨_,rfl⟩;have R1:Hid (w1.heap[w.heap.size]?=qo A 48):=by rw [Aq];exact heap_alloc_new w _
 have B1:Hid (qw w w1):=by rw [Aq];exact (Below.refl _ w).alloc qn _
 have V1:=qh (h.av B1.out);have BN:Hid (Kp B w w1):=Kp.aB B1.out;have Be:=qh h.tS;have hs:=hA.size;have h1:=hA.one;obtain ⟨c0,c1,c2,rr,c4,c5⟩:=hA.at_ w1 w.heap.size _ R1.out;have Cu:=qh rr;have CO:=qh hA.at_;have Bp:=qh hop;have Ey:=ae Tryz.ah (qh (aA hop.ok));rw [(Rg.ru1 hk).1,(Rg.ru1 hk).2];have HC:Hid (∀ y,bB x K d lb rb cb r qb gs gr B m n y→qc 40 #[qp r,.int .i64 o.n,.slice pd o.D.length cd] y (C4 B y (bB x K d lb rb cb r qb gs gr B m (Dk.iX n o.n o.D)) (.int .i64 (Dk.fault n o.n o.D)))):=fun y hy=>by
  exact nV o.n o.D pd _ cd rfl (by omega) (hop.D.av hy.low) hy
 clear hA rr hop hb h;go_enter func12,ntmps12;go_upto_region 1 with (fail)
 change Code.wp _ _ _ _ (w.alloc (.cells A 48));rw [← Aq];clear Aq;rw [hk] at c0;go_wp2_with (go_at_call 40;refine (HC.out _ V1.out).mono ?_;rintro e2 w2 ⟨rfl,V2,A9⟩)
 go_ret;exact ⟨rfl,V2,BN.out.trans A9.out⟩
theorem ag1 (o:Rg.O) (hk:o.k=2) (A:Array Value) (pd:Option Addr) (cd:Nat) (pf:Option Addr) (cf:Nat) (hA:rq o A pd cd pf cf) (hop:eR x o pd cd pf cf) (w:World) (h:bB x K d lb rb cb r qb gs gr B m n w) (hb:o.D.length≤1024∧n.wr≤10000∧(∀ j,n.rd j≤10000)∧(Dk.bK n o.m).length≤1024) :
  qc 12 #[qp r,qp gr,.agg A] w (C4 B w (bB x K d lb rb cb r qb gs gr B m (Rg.ed K n o)) (.int .i64 (Rg.fM K n o))):=by
 obtain ⟨w1,Aq⟩:∃ y,y=w.alloc (.cells A 48):=⟨_,rfl⟩;have R1:Hid (w1.heap[w.heap.size]?=qo A 48):=by rw [Aq];exact heap_alloc_new w _
 have B1:Hid (qw w w1):=by rw [Aq];exact (Below.refl _ w).alloc qn _
 have V1:=qh (h.av B1.out);have BN:Hid (Kp B w w1):=Kp.aB B1.out;have Be:=qh h.tS;have hs:=hA.size;have h1:=hA.one;obtain ⟨c0,c1,c2,rr,c4,c5⟩:=hA.at_ w1 w.heap.size _ R1.out;have Cu:=qh rr;have CO:=qh hA.at_;have Bp:=qh hop;have Ey:=ae Tryz.ah (qh (aA hop.ok));have ET:Hid (Dk.fC n o.m=0→Rg.fM K n o=Dk.fault (Dk.dG n o.m) o.n (Dk.bK n o.m)∧Rg.ed K n o=Dk.iX (Dk.dG n o.m) o.n (Dk.bK n o.m)):=fun q=>Rg.ru2 hk q;have Jp:Hid (¬ Dk.fC n o.m=0→Rg.fM K n o=Dk.fC n o.m∧Rg.ed K n o=Dk.dG n o.m):=fun q=>Rg.uC hk q;have HC:Hid (∀ y,bB x K d lb rb cb r qb gs gr B m n y→qc 41 #[qp r,.int .i64 o.m] y (R4 B (Dk.bK n o.m) (Dk.fC n o.m) y (bB x K d lb rb cb r qb gs gr B m (Dk.dG n o.m)))):=fun y hy=>aid o.m (fun j=>by have:=hb.2.2.1 j;omega) hy;have HT:Hid (∀ y p q,bB x K d lb rb cb r qb gs gr B m (Dk.dG n o.m) y→Bs y p q (Dk.bK n o.m)→qc 40 #[qp r,.int .i64 o.n,.slice p (Dk.bK n o.m).length q] y (C4 B y (bB x K d lb rb cb r qb gs gr B m (Dk.iX (Dk.dG n o.m) o.n (Dk.bK n o.m))) (.int .i64 (Dk.fault (Dk.dG n o.m) o.n (Dk.bK n o.m))))):=fun y p q hy hbs=>nV o.n (Dk.bK n o.m) p _ q rfl (by omega) hbs hy;clear hA rr hop hb h;go_enter func12,ntmps12;go_upto_region 1 with (fail)
 change Code.wp _ _ _ _ (w.alloc (.cells A 48));rw [← Aq];clear Aq;rw [hk] at c0;go_upto_region 8 with (go_at_call 41;refine (HC.out _ V1.out).mono ?_;rintro e2 w2 ⟨p2,q2,rfl,Ar,V2,A9⟩)
 have R2:=qh ((A9.out.block _ Be.out (lt_of_block R1.out)).trans R1.out);have d1:=(CO.out w2 w.heap.size _ R2.out).2.1;have IF:Hid (Kp B w w2):=BN.out.trans A9.out;clear c0 c1 c2 c4 c5 A9;by_cases hE:Dk.fC n o.m=0
 ·rw [hE];have HTx:=qh (HT.out _ p2 q2 V2.out Ar.out);obtain ⟨nx,Ph⟩:∃ nx,(Dk.bK n o.m).length=nx:=⟨_,rfl⟩;rw [Ph] at HTx ⊢;go_wp2_with (go_at_call 40;refine HTx.out.mono ?_;rintro e3 w3 ⟨rfl,V3,EV⟩)
  go_ret;exact ⟨by rw [(ET.out hE).1];first | done | rfl,by rw [(ET.out hE).2];exact V3,IF.out.trans EV.out⟩
 ·have Cq:(Dk.fC n o.m==0)=false:=by simpa using hE
  have Hw:=qh (Jp.out hE);clear ET Jp HT;generalize Dk.fC n o.m=rE at *;go_wp2;go_ret;exact ⟨by rw [Hw.out.1];first | done | rfl,by rw [Hw.out.2];exact V2,IF⟩
theorem agq (o:Rg.O) (hk:o.k=3) (A:Array Value) (pd:Option Addr) (cd:Nat) (pf:Option Addr) (cf:Nat) (hA:rq o A pd cd pf cf) (hop:eR x o pd cd pf cf) (w:World) (h:bB x K d lb rb cb r qb gs gr B m n w) (_hb:o.D.length≤1024∧n.wr≤10000∧(∀ j,n.rd j≤10000)∧(Dk.bK n o.m).length≤1024) :
  qc 12 #[qp r,qp gr,.agg A] w (C4 B w (bB x K d lb rb cb r qb gs gr B m (Rg.ed K n o)) (.int .i64 (Rg.fM K n o))):=by
 obtain ⟨w1,Aq⟩:∃ y,y=w.alloc (.cells A 48):=⟨_,rfl⟩;have R1:Hid (w1.heap[w.heap.size]?=qo A 48):=by rw [Aq];exact heap_alloc_new w _
 have B1:Hid (qw w w1):=by rw [Aq];exact (Below.refl _ w).alloc qn _
 have V1:=qh (h.av B1.out);have BN:Hid (Kp B w w1):=Kp.aB B1.out;have Be:=qh h.tS;have hs:=hA.size;have h1:=hA.one;obtain ⟨c0,c1,c2,rr,c4,c5⟩:=hA.at_ w1 w.heap.size _ R1.out;have Cu:=qh rr;have CO:=qh hA.at_;have Bp:=qh hop;have Ey:=ae Tryz.ah (qh (aA hop.ok));rw [(Rg.ru3 hk).1,(Rg.ru3 hk).2];have HC:Hid (∀ y,bB x K d lb rb cb r qb gs gr B m n y→qc 42 #[qp r] y (C4 B y (bB x K d lb rb cb r qb gs gr B m (Dk.nZ n)) (.int .i64 (Dk.aM n)))):=fun y hy=>by
  exact afT hy
 clear hA rr hop _hb h;go_enter func12,ntmps12;go_upto_region 1 with (fail)
 change Code.wp _ _ _ _ (w.alloc (.cells A 48));rw [← Aq];clear Aq;rw [hk] at c0;go_wp2_with (go_at_call 42;refine (HC.out _ V1.out).mono ?_;rintro e2 w2 ⟨rfl,V2,A9⟩)
 go_ret;exact ⟨rfl,V2,BN.out.trans A9.out⟩
theorem agV (o:Rg.O) (hk:o.k=4) (A:Array Value) (pd:Option Addr) (cd:Nat) (pf:Option Addr) (cf:Nat) (hA:rq o A pd cd pf cf) (hop:eR x o pd cd pf cf) (w:World) (h:bB x K d lb rb cb r qb gs gr B m n w) (_hb:o.D.length≤1024∧n.wr≤10000∧(∀ j,n.rd j≤10000)∧(Dk.bK n o.m).length≤1024) :
  qc 12 #[qp r,qp gr,.agg A] w (C4 B w (bB x K d lb rb cb r qb gs gr B m (Rg.ed K n o)) (.int .i64 (Rg.fM K n o))):=by
 obtain ⟨w1,Aq⟩:∃ y,y=w.alloc (.cells A 48):=⟨_,rfl⟩;have R1:Hid (w1.heap[w.heap.size]?=qo A 48):=by rw [Aq];exact heap_alloc_new w _
 have B1:Hid (qw w w1):=by rw [Aq];exact (Below.refl _ w).alloc qn _
 have V1:=qh (h.av B1.out);have BN:Hid (Kp B w w1):=Kp.aB B1.out;have Be:=qh h.tS;have hs:=hA.size;have h1:=hA.one;obtain ⟨c0,c1,c2,rr,c4,c5⟩:=hA.at_ w1 w.heap.size _ R1.out;have Cu:=qh rr;have CO:=qh hA.at_;have Bp:=qh hop;have Ey:=ae Tryz.ah (qh (aA hop.ok));rw [(Rg.ru4 hk).1,(Rg.ru4 hk).2];have HC:Hid (∀ y,bB x K d lb rb cb r qb gs gr B m n y→qc 43 #[qp r,.slice pf o.L.length cf] y (C4 B y (bB x K d lb rb cb r qb gs gr B m (Dk.cY n (Dk.cD o.L))) (.tuple #[]))):=fun y hy=>by
  exact adU o.L pf _ cf rfl (fun z hz=>hop.L.av (hy.ajE hz)) hy
 clear hA rr hop _hb h;go_enter func12,ntmps12;go_upto_region 1 with (fail)
 change Code.wp _ _ _ _ (w.alloc (.cells A 48));rw [← Aq];clear Aq;rw [hk] at c0;go_wp2_with (go_at_call 43;refine (HC.out _ V1.out).mono ?_;rintro e2 w2 ⟨rfl,V2,A9⟩)
 go_ret;exact ⟨rfl,V2,BN.out.trans A9.out⟩
theorem agl (o:Rg.O) (hk:o.k=5) (A:Array Value) (pd:Option Addr) (cd:Nat) (pf:Option Addr) (cf:Nat) (hA:rq o A pd cd pf cf) (hop:eR x o pd cd pf cf) (w:World) (h:bB x K d lb rb cb r qb gs gr B m n w) (_hb:o.D.length≤1024∧n.wr≤10000∧(∀ j,n.rd j≤10000)∧(Dk.bK n o.m).length≤1024) :
  qc 12 #[qp r,qp gr,.agg A] w (C4 B w (bB x K d lb rb cb r qb gs gr B m (Rg.ed K n o)) (.int .i64 (Rg.fM K n o))):=by
 obtain ⟨w1,Aq⟩:∃ y,y=w.alloc (.cells A 48):=⟨_,rfl⟩;have R1:Hid (w1.heap[w.heap.size]?=qo A 48):=by rw [Aq];exact heap_alloc_new w _
 have B1:Hid (qw w w1):=by rw [Aq];exact (Below.refl _ w).alloc qn _
 have V1:=qh (h.av B1.out);have BN:Hid (Kp B w w1):=Kp.aB B1.out;have Be:=qh h.tS;have hs:=hA.size;have h1:=hA.one;obtain ⟨c0,c1,c2,rr,c4,c5⟩:=hA.at_ w1 w.heap.size _ R1.out;have Cu:=qh rr;have CO:=qh hA.at_;have Bp:=qh hop;have Ey:=ae Tryz.ah (qh (aA hop.ok));rw [(Rg.ru5 hk).1,(Rg.ru5 hk).2];have HC:Hid (∀ y,bB x K d lb rb cb r qb gs gr B m n y→qc 44 #[qp r,.int .i64 o.n] y (C4 B y (bB x K d lb rb cb r qb gs gr B m { n with left:=o.n }) (.tuple #[]))):=fun y hy=>by
  exact aik o.n (by have:=hop.n;unfold Pk.aT at this;unfold aT;exact this) hy
 clear hA rr hop _hb h;go_enter func12,ntmps12;go_upto_region 1 with (fail)
 change Code.wp _ _ _ _ (w.alloc (.cells A 48));rw [← Aq];clear Aq;rw [hk] at c0;go_wp2_with (go_at_call 44;refine (HC.out _ V1.out).mono ?_;rintro e2 w2 ⟨rfl,V2,A9⟩)
 go_ret;exact ⟨rfl,V2,BN.out.trans A9.out⟩
theorem afP (o:Rg.O) (h0:o.k ≠ 0) (h1k:o.k ≠ 1) (h2k:o.k ≠ 2) (h3k:o.k ≠ 3) (h4k:o.k ≠ 4) (h5k:o.k ≠ 5) (A:Array Value) (pd:Option Addr) (cd:Nat) (pf:Option Addr) (cf:Nat) (hA:rq o A pd cd pf cf) (hop:eR x o pd cd pf cf) (w:World) (h:bB x K d lb rb cb r qb gs gr B m n w) (_hb:o.D.length≤1024∧n.wr≤10000∧(∀ j,n.rd j≤10000)∧(Dk.bK n o.m).length≤1024) :
  qc 12 #[qp r,qp gr,.agg A] w (C4 B w (bB x K d lb rb cb r qb gs gr B m (Rg.ed K n o)) (.int .i64 (Rg.fM K n o))):=by
 obtain ⟨w1,Aq⟩:∃ y,y=w.alloc (.cells A 48):=⟨_,rfl⟩;have R1:Hid (w1.heap[w.heap.size]?=qo A 48):=by rw [Aq];exact heap_alloc_new w _
 have B1:Hid (qw w w1):=by rw [Aq];exact (Below.refl _ w).alloc qn _
 have V1:=qh (h.av B1.out);have BN:Hid (Kp B w w1):=Kp.aB B1.out;have Be:=qh h.tS;have hs:=hA.size;have h1:=hA.one;obtain ⟨c0,c1,c2,rr,c4,c5⟩:=hA.at_ w1 w.heap.size _ R1.out;have Cu:=qh rr;have CO:=qh hA.at_;have Bp:=qh hop;have Ey:=ae Tryz.ah (qh (aA hop.ok));rw [(Rg.ru6 h0 h1k h2k h3k h4k h5k).1,(Rg.ru6 h0 h1k h2k h3k h4k h5k).2];clear hA rr hop _hb h;go_enter func12,ntmps12;go_upto_region 1 with (fail)
 change Code.wp _ _ _ _ (w.alloc (.cells A 48));rw [← Aq];clear Aq;have b0:(o.k==0)=false:=by simpa using h0
 have b1:(o.k==1)=false:=by simpa using h1k
 have b2:(o.k==2)=false:=by simpa using h2k
 have b3:(o.k==3)=false:=by simpa using h3k
 have b4:(o.k==4)=false:=by simpa using h4k
 have b5:(o.k==5)=false:=by simpa using h5k
 clear h0 h1k h2k h3k h4k h5k;generalize o.k=kk at c0 b0 b1 b2 b3 b4 b5;go_wp2;go_ret;exact ⟨rfl,V1,BN⟩
theorem aah (o:Rg.O) (A:Array Value) (pd:Option Addr) (cd:Nat) (pf:Option Addr) (cf:Nat) (hA:rq o A pd cd pf cf) (hop:eR x o pd cd pf cf) (w:World) (h:bB x K d lb rb cb r qb gs gr B m n w) (hb:o.D.length≤1024∧n.wr≤10000∧(∀ j,n.rd j≤10000)∧(Dk.bK n o.m).length≤1024) :
  qc 12 #[qp r,qp gr,.agg A] w (C4 B w (bB x K d lb rb cb r qb gs gr B m (Rg.ed K n o)) (.int .i64 (Rg.fM K n o))):=by
 by_cases h0:o.k=0
 ·exact agK o h0 A pd cd pf cf hA hop w h hb
 by_cases h1:o.k=1
 ·exact agw o h1 A pd cd pf cf hA hop w h hb
 by_cases h2:o.k=2
 ·exact ag1 o h2 A pd cd pf cf hA hop w h hb
 by_cases h3:o.k=3
 ·exact agq o h3 A pd cd pf cf hA hop w h hb
 by_cases h4:o.k=4
 ·exact agV o h4 A pd cd pf cf hA hop w h hb
 by_cases h5:o.k=5
 ·exact agl o h5 A pd cd pf cf hA hop w h hb
 exact afP o h0 h1 h2 h3 h4 h5 A pd cd pf cf hA hop w h hb
end
end Go.Proofs.YthgjfjmampmiiaaGreatDoor

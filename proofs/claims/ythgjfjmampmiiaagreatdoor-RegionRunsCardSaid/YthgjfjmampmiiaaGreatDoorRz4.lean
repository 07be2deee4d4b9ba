/-
  RgZ7, RgZ8 (merged)
-/
import Derived.Test.YthgjfjmampmiiaaGreatDoorRgZ6
namespace Go.Proofs.YthgjfjmampmiiaaGreatDoor
open Go.Proofs.Tryz
set_option maxHeartbeats 16000000
set_option maxRecDepth 100000
section
open Go.RowKit
namespace Rg
def tl (m:Dk.M) (f:Nat→Nat):Dk.M:={ m with rd:=f }
def gS (m o:Dk.M):Prop:=∃ f,o=tl m f
section
variable {m o n:Dk.M} {f:Nat→Nat}
theorem gS.refl (m:Dk.M):gS m m:=⟨m.rd,rfl⟩
theorem gS.symm (h:gS m o):gS o m:=by obtain ⟨f,rfl⟩:=h;exact ⟨m.rd,rfl⟩
theorem gS.trans (h:gS m o) (h2:gS o n):gS m n:=by obtain ⟨f,rfl⟩:=h;obtain ⟨g,rfl⟩:=h2;exact ⟨g,rfl⟩
theorem gS.eqv (h:gS m o):Eqv m o:=by obtain ⟨f,rfl⟩:=h;exact ⟨rfl,rfl,rfl⟩
theorem gC (c:Prop) [Decidable c] (a b:Dk.M):(if c then tl a f else tl b f)=tl (if c then a else b) f:=by split<;>rfl
theorem rM:Dk.aK (tl m f)=tl (Dk.aK m) f:=by
 show (if Dk.gone m then tl { m with down:=true } f else tl { m with left:=if 0<m.left then m.left-1 else m.left } f)=_;rw [gC];rfl
theorem af4 (i:Int) (L:List Int):Dk.gY (tl m f) i L=tl (Dk.gY m i L) f:=by
 show (if m.down then tl m f else if Dk.fault m i L ≠ 0 then tl m f else if Dk.gone m then Dk.aK (tl m f) else { Dk.aK (tl m f) with ca:=aZ m.ca i.toNat (some L),wr:=m.wr+1 })=_;rw [rM];show (if m.down then tl m f else if Dk.fault m i L ≠ 0 then tl m f else if Dk.gone m then tl (Dk.aK m) f else tl { Dk.aK m with ca:=aZ m.ca i.toNat (some L),wr:=m.wr+1 } f)=_;rw [gC,gC,gC];rfl
theorem ahe (i:Int) (L:List Int):Dk.iX (tl m f) i L=tl (Dk.iX m i L) f:=by
 show (if Dk.fault m i L=0 then tl { m with ls:=aZ m.ls i.toNat L,ca:=aZ m.ca i.toNat none } f else tl m f)=_;rw [gC];rfl
theorem afU:Dk.nZ (tl m f)=tl (Dk.nZ m) f:=by
 show (if Dk.gone m then Dk.aK (tl m f) else Dk.synced (Dk.aK (tl m f)))=_;rw [rM];show (if Dk.gone m then tl (Dk.aK m) f else tl (Dk.synced (Dk.aK m)) f)=_;rw [gC];rfl
theorem aa0 (g:Nat→Bool):∀ k,Dk.fT (tl m f) g k=tl (Dk.fT m g k) f
 | 0=>rfl
 | k+1=>by
  have hd:Dk.dl (tl m f)=Dk.dl m:=rfl;rw [Dk.fT,Dk.fT,hd,aa0 g k];cases (Dk.dl m)[k]? with
  | none=>rfl
  | some i =>
   show (if g k then tl (Dk.settle (Dk.fT m g k) i) f else tl (Dk.drop (Dk.fT m g k) i) f)=tl (if g k then _ else _) f;rw [gC]
theorem abW (g:Nat→Bool):Dk.cY (tl m f) g=tl (Dk.cY m g) f:=by
 unfold Dk.cY;have hd:Dk.dl (tl m f)=Dk.dl m:=rfl;rw [hd,aa0]
 rfl
theorem qL (m:Dk.M) (i:Int):gS m (Dk.dG m i):=by
 unfold Dk.dG;split
 ·exact ⟨_,rfl⟩
 ·exact gS.refl m
theorem ajj (r:R) (X:Int × List Int):wM (tl m f) r X=tl (wM m r X) f:=by
 unfold wM;rw [af4];rw [gC,gC]
theorem ahP (r:R) (X:Int × List Int):wE (tl m f) r X=wE m r X:=by unfold wE;rfl
theorem gS.tp (h:gS m o) (i:Int) (L:List Int):gS (Dk.iX m i L) (Dk.iX o i L):=by obtain ⟨f,rfl⟩:=h;exact ⟨f,ahe i L⟩
theorem gS.rd (h:gS m o) (i j:Int):gS (Dk.dG m i) (Dk.dG o j):=((qL m i).symm.trans h).trans (qL o j)
theorem gS.al:∀ k,gS m (fL m k)
 | 0=>gS.refl m
 | k+1=>(gS.al k).trans (qL _ _)
theorem gS.rdI (h:gS m o) (i:Int):Dk.fC o i=Dk.fC m i∧Dk.bK o i=Dk.bK m i:=by obtain ⟨f,rfl⟩:=h;exact ⟨rfl,rfl⟩
theorem gS.fault (h:gS m o) (i:Int) (L:List Int):Dk.fault o i L=Dk.fault m i L:=by obtain ⟨f,rfl⟩:=h;rfl
theorem gS.ru (h:gS m n) (K:List Int) (a:O):fM K n a=fM K m a∧gS (ed K m a) (ed K n a):=by
 by_cases h0:a.k=0
 ·rw [(ru0 h0).1,(ru0 h0).2,(ru0 h0).1,(ru0 h0).2];obtain ⟨f,rfl⟩:=h;exact ⟨ahP _ _,f,ajj _ _⟩
 by_cases h1:a.k=1
 ·rw [(ru1 h1).1,(ru1 h1).2,(ru1 h1).1,(ru1 h1).2];exact ⟨h.fault _ _,h.tp _ _⟩
 by_cases h2:a.k=2
 ·have hr:=h.rdI a.m;by_cases he:Dk.fC m a.m=0
  ·rw [(ru2 h2 he).1,(ru2 h2 he).2,(ru2 h2 (hr.1.trans he)).1,(ru2 h2 (hr.1.trans he)).2,hr.2];exact ⟨(h.rd _ _).fault _ _,(h.rd _ _).tp _ _⟩
  ·have Fx:¬ Dk.fC n a.m=0:=by rw [hr.1];exact he
   rw [(uC h2 he).1,(uC h2 he).2,(uC h2 Fx).1,(uC h2 Fx).2];exact ⟨hr.1,h.rd _ _⟩
 by_cases h3:a.k=3
 ·rw [(ru3 h3).1,(ru3 h3).2,(ru3 h3).1,(ru3 h3).2];obtain ⟨f,rfl⟩:=h;exact ⟨rfl,f,afU⟩
 by_cases h4:a.k=4
 ·rw [(ru4 h4).1,(ru4 h4).2,(ru4 h4).1,(ru4 h4).2];obtain ⟨f,rfl⟩:=h;exact ⟨rfl,f,abW _⟩
 by_cases h5:a.k=5
 ·rw [(ru5 h5).1,(ru5 h5).2,(ru5 h5).1,(ru5 h5).2];obtain ⟨f,rfl⟩:=h;exact ⟨rfl,f,rfl⟩
 rw [(ru6 h0 h1 h2 h3 h4 h5).1,(ru6 h0 h1 h2 h3 h4 h5).2,(ru6 h0 h1 h2 h3 h4 h5).1,(ru6 h0 h1 h2 h3 h4 h5).2];exact ⟨rfl,h⟩
def Le1 (m o:Dk.M):Prop:=o.wr≤m.wr+1∧(∀ j,o.rd j≤m.rd j+1)∧o.n=m.n
theorem wG (K:List Int) (m:Dk.M) (a:O):Le1 m (ed K m a):=by
 have hz:Le1 m m:=⟨by omega,fun j=>by omega,rfl⟩;by_cases h0:a.k=0
 ·rw [(ru0 h0).2];unfold wM;split
  ·split
   ·obtain ⟨a1,a2,a3⟩:=aae m (home a.r) (bX K a.r a.n).2;exact ⟨a2,fun j=>by rw [a3];omega,a1⟩
   ·exact hz
  ·exact hz
 by_cases h1:a.k=1
 ·rw [(ru1 h1).2];exact afF _ _ _
 by_cases h2:a.k=2
 ·by_cases he:Dk.fC m a.m=0
  ·rw [(ru2 h2 he).2];obtain ⟨a1,a2,a3⟩:=zG (Dk.dG m a.m) a.n (Dk.bK m a.m);obtain ⟨b1,b2,b3⟩:=ml m a.m;exact ⟨by rw [a1];exact b1,fun j=>by rw [a2];exact b2 j,by rw [a3];exact b3⟩
  ·rw [(uC h2 he).2];exact ml _ _
 by_cases h3:a.k=3
 ·rw [(ru3 h3).2];exact ⟨(Dk.lZ m).wr,fun j=>by rw [(Dk.lZ m).rd];omega,(Dk.lZ m).n⟩
 by_cases h4:a.k=4
 ·rw [(ru4 h4).2];exact ⟨by rw [(Dk.rW m _).2];omega,fun j=>by rw [(Dk.rW m _).1];omega,(Dk.nR m _ _).1⟩
 by_cases h5:a.k=5
 ·rw [(ru5 h5).2];exact ⟨Nat.le_succ _,fun j=>Nat.le_succ _,rfl⟩
 rw [(ru6 h0 h1 h2 h3 h4 h5).2];exact hz
end
end Rg
end
section
open Go.RowKit
theorem ad9 (w:World):qc 8 #[.int .i64 4] w fun e w'=>∃ r qb,e = .returned (.tuple #[qp r,.int .i64 0])∧Hid (bA w' (fun g=>w.heap.size≤g∧g<w'.heap.size) r qb (Dk.fresh 4))∧Hid (qw w w'):=by
 refine (vq 4 (by omega) (by omega) w).mono ?_;intro e z h;unfold tu at h;rw [if_pos (by decide)] at h;obtain ⟨r,qb,h1,h2,h3⟩:=h;exact ⟨r,qb,h1,h2,h3⟩
structure Far (m n:Dk.M) (k:Nat):Prop where
 eq:Rg.gS m n
 nn:m.n=4
 wm:m.wr≤k
 wn:n.wr≤k
 rm:∀ j,m.rd j≤10*k
 rn:∀ j,n.rd j≤10*k
structure qV (m n:Dk.M) (k j:Nat):Prop where
 eq:Rg.gS m n
 nn:m.n=4
 wm:m.wr≤k+1
 wn:n.wr≤k+1
 rm:∀ i,m.rd i≤10*k+3+j
 rn:∀ i,n.rd i≤10*k+3
theorem abO (m:Dk.M):(Rg.fL m 2).n=m.n∧(Rg.fL m 2).wr=m.wr∧∀ j,(Rg.fL m 2).rd j≤m.rd j+2:=by
 obtain ⟨h1,_,_,h4,_,_⟩:=Rg.mV m 2;refine ⟨h1,h4,fun j=>?_⟩;have a1:=(Rg.ml m 1).2.1 j;have a2:=(Rg.ml (Dk.dG m 1) 2).2.1 j;show (Dk.dG (Dk.dG m ((0:Nat)+1)) ((1:Nat)+1)).rd j≤_;have e1:(((0:Nat):Int)+1)=1:=by omega
 have e2:(((1:Nat):Int)+1)=2:=by omega
 rw [e1,e2];omega
theorem Far.go {m n:Dk.M} {k:Nat} (h:Far m n k) (K:List Int) (a:Rg.O):qV (Rg.fL (Rg.ed K m a) 2) (Rg.fL (Rg.ed K n a) 2) k 0:=by
 obtain ⟨a1,a2,a3⟩:=Rg.wG K m a;obtain ⟨b1,b2,b3⟩:=Rg.wG K n a;obtain ⟨c1,c2,c3⟩:=abO (Rg.ed K m a);obtain ⟨d1,d2,d3⟩:=abO (Rg.ed K n a);have e:=h.wm;have f:=h.wn;refine ⟨((Rg.gS.al 2).symm.trans (h.eq.ru K a).2).trans (Rg.gS.al 2),by rw [c1,a3];exact h.nn,by omega,by omega,fun i=>?_,fun i=>?_⟩
 ·have q1:=c3 i;have q2:=a2 i;have q3:=h.rm i;omega
 ·have q1:=d3 i;have q2:=b2 i;have q3:=h.rn i;omega
theorem qV.next {m n:Dk.M} {k j:Nat} (h:qV m n k j) (i:Int):qV (Dk.dG m i) n k (j+1):=by
 obtain ⟨a1,a2,a3⟩:=Rg.ml m i;have e1:(Dk.dG m i).wr=m.wr:=by unfold Dk.dG;split<;>rfl
 exact ⟨(Rg.qL m i).symm.trans h.eq,by rw [a3];exact h.nn,by rw [e1];exact h.wm,h.wn,fun x=>by have q1:=a2 x;have q2:=h.rm x;omega,h.rn⟩
theorem qV.done {m n:Dk.M} {k:Nat} (h:qV m n k 4):Far m n (k+1):=⟨h.eq,h.nn,h.wm,h.wn,fun x=>by have q:=h.rm x;omega,fun x=>by have q:=h.rn x;omega⟩
theorem aaP {n m:Dk.M} (h:Rg.gS m n) (hn:m.n=4) (j:Nat) (hj:j<4):j<n.n∧Dk.cG n j=Dk.bK m (j:Int):=by
 obtain ⟨f,rfl⟩:=h;refine ⟨by show j<m.n;omega,?_⟩;have hh:Dk.here m (j:Int)=true:=by unfold Dk.here;rw [hn];simp;omega
 unfold Dk.bK;rw [if_pos hh]
 rfl
section
variable {w y z:World} {K:List Int} {d lb rb cb r qb gs gr B:Nat} {m n:Dk.M}
theorem bB.j6 (h:bB w K d lb rb cb r qb gs gr B m n y) (k:Nat) (_:k<2):(Rg.bG K ((k:Int)+1) (Dk.bK m ((k:Int)+1))).2.L.length≤900000:=by
 have q1:=ahO K ((k:Int)+1) (Dk.bK m ((k:Int)+1));have q2:=h.pP ((k:Int)+1);omega
theorem sY (k:Nat) (_:k<2):ai.aY (Rg.bG K ((k:Int)+1) (Dk.bK m ((k:Int)+1))).2.L:=agk _ _ _
end
theorem yz (GN:aV) (K:List Int) (kp:Option Addr) (kn kc:Nat) (Es:K.length=kn) (X:List Rg.O) (lp:Option Addr) (ln lc:Nat) (Nq:X.length=ln) (w:World) (hk:Bs w kp kc K) (hl:Os w lp X) (Jh:cT w 0) (EO:cT w 1) :
  qc 3 #[.slice kp kn kc,.slice lp ln lc] w (lY w):=by
 have Oh:Hid (∀ y,qc 6 #[] y (lY y)):=fun y=>yl y;by_cases hS:oF X ln
 case neg =>
  have HL:=qh (aav X lp ln lc Nq w hl hS);clear hS hk hl Jh EO;go_enter func3,ntmps3;go_wp2_with (first
   | (go_at_call 5;refine HL.out.mono ?_;rintro e1 w1 ⟨rfl,Ag⟩)
   | (go_at_call 6;refine (Oh.out _).mono ?_;rintro e3 w3 ⟨rfl,As⟩))
  go_ret;exact ⟨rfl,Ag.trans (As.mono Ag.size)⟩
 have HL:=qh (ad7 X lp ln lc Nq w hl hS);by_cases Ec:(kn:Int)>1024
 ·clear hS hk hl Jh EO;go_enter func3,ntmps3;go_wp2_with (first
   | (go_at_call 5;refine HL.out.mono ?_;rintro e1 w1 ⟨rfl,Ag⟩)
   | (go_at_call 6;refine (Oh.out _).mono ?_;rintro e3 w3 ⟨rfl,As⟩))
  go_ret;exact ⟨rfl,Ag.trans (As.mono Ag.size)⟩
 have HK:=qh hk;have HP:=qh hl;have JM:=qh Jh;have F5:=qh EO;have HS:=qh GN;have Oe:=qh hS;have HN:=qh Nq;clear hk hl Jh EO GN hS Nq;go_enter func3,ntmps3;go_upto_region 9 with (first
  | (go_at_call 5;refine HL.out.mono ?_;rintro e0 w0 ⟨rfl,CY⟩;have Bd:=qh CY)
  | (go_at_call 7;refine (ajl 4 (by omega) (by omega) _).mono ?_;rintro e1 w1 ⟨d,lb,rb,cb,rfl,DH,Ag⟩)
  | (go_at_call 8;refine (ad9 _).mono ?_;rintro e2 w2 ⟨r,qb,rfl,Jf,Al⟩;have Aj:=qh (Bd.out.trans ((Ag.trans (Al.out.mono Ag.size)).mono Bd.out.size)))
  | (go_at_call 9;refine (tW HS.out K kp kn kc Es (by omega) _ (HK.out.av Aj.out) (JM.out.below Aj.out JM.out.lt)).mono ?_;rintro e3 w3 ⟨gs,rfl,EP,As⟩;have Ao:=qh (Aj.out.trans (As.mono Aj.out.size)))
  | (go_at_call 10;refine (x7 K kp kn kc Es (by omega) _ (HK.out.av Ao.out) (F5.out.below Ao.out F5.out.lt)).mono ?_;rintro e4 w4 ⟨gr,rfl,Qx,AJ⟩;have H4:=qh (aa7 Bd.out DH.out Ag Jf.out Al.out EP.out As Qx.out AJ JM.out F5.out)))
 clear DH Jf EP Qx Ag Al As AJ CY Bd Aj Ao JM F5 HK HL Ec Es;generalize w3.heap.size=B at *;have RD:Hid (Far (Dk.fresh 4) (Dk.fresh 4) 0):=⟨Rg.gS.refl _,rfl,Nat.le_refl _,Nat.le_refl _,fun j=>Nat.le_refl _,fun j=>Nat.le_refl _⟩;generalize Dk.fresh 4=m0 at *;go_upto_region 10 with (fail)
 go_loopw [11] (fun v11 wr=>∃ (k:Nat) (m n:Dk.M),k≤ln∧v11 = .int .i64 k∧Hid (bB w K d lb rb cb r qb gs gr B m n wr)∧Hid (Far m n k)) (fun v11 _=>ln-(intOf v11).toNat)
 case atStart=>exact ⟨0,m0,m0,by omega,rfl,H4,RD⟩
 case round =>
  obtain ⟨k,m,n,hk,rfl,HV,HM⟩:=hrel;by_cases Ae:k<ln
  case neg =>
   have Bc:ln≤k:=by omega
   clear Ae;go_wp2_with (go_at_call 6;refine (Oh.out _).mono ?_;rintro e3 w3' ⟨rfl,As⟩;have Dh:=qh As)
   go_ret;exact ⟨rfl,HV.out.low.trans (Dh.out.mono HV.out.low.size)⟩
  obtain ⟨ab,ao,CM,hi⟩:=HP.out (by rw [HN.out];omega);subst CM;obtain ⟨pd,cd,pf,cf,hr,hop⟩:=hi k (by rw [HN.out];exact Ae);have Ca:=opk (X.getD k Rg.dF) hop.ok pd cd pf cf;have Ps:=Oe.out.2 k Ae;have Th:=Oe.out.1;obtain ⟨A,hA⟩:∃ A,A=(oc (X.getD k Rg.dF) pd cd pf cf).toArray:=⟨_,rfl⟩;rw [← hA] at Ca;have KE:w.rangeAt ab (ao+k*141) A.toList:=by rw [hA];exact hr
  have CJ:Hid (∀ y,qw w y→y.rangeAt ab (ao+k*141) A.toList):=fun y hy=>pX KE hy;have Aw:Hid (A.size=141):=Ca.size;have Fv:=Ca.one;generalize X.getD k Rg.dF=a at *;clear hA hr KE hi;have Lp:Hid (∀ y,bB w K d lb rb cb r qb gs gr B m n y→qc 11 #[qp d,.iface 33 (qp gs),.agg A] y (C4 B y (fun z=>bB w K d lb rb cb r qb gs gr B (Rg.ed K m a) n z) (.int .i64 (Rg.fM K m a)))):=fun y hy=>ab6 HS.out a A pd cd pf cf Ca hop y hy ⟨Ps.1,by have:=HM.out.wm;omega,fun j=>by have:=HM.out.rm j;omega,hy.pP _⟩;have IQ:Hid (∀ y,bB w K d lb rb cb r qb gs gr B (Rg.ed K m a) n y→qc 12 #[qp r,qp gr,.agg A] y (C4 B y (fun z=>bB w K d lb rb cb r qb gs gr B (Rg.ed K m a) (Rg.ed K n a) z) (.int .i64 (Rg.fM K m a)))):=fun y hy=>by
   have h:=aah a A pd cd pf cf Ca hop y hy ⟨Ps.1,by have:=HM.out.wn;omega,fun j=>by have:=HM.out.rn j;omega,by rw [(HM.out.eq.rdI a.m).2];exact HV.out.pP _⟩;rw [(HM.out.eq.ru K a).1] at h;exact h
  have RH:Hid (qV (Rg.fL (Rg.ed K m a) 2) (Rg.fL (Rg.ed K n a) 2) k 0):=HM.out.go K a;have BT:Hid (Rg.gS (Rg.ed K m a) (Rg.ed K n a)):=(HM.out.eq.ru K a).2;have Dl:Hid ((∀ j,(Rg.ed K m a).rd j≤999999990)∧∀ j,(Rg.ed K n a).rd j≤999999990):=⟨fun j=>by
   have q1:=(Rg.wG K m a).2.1 j;have q2:=HM.out.rm j;omega,fun j=>by
   have q1:=(Rg.wG K n a).2.1 j;have q2:=HM.out.rn j;omega⟩
  clear hop Ca Ps HM;generalize Rg.fM K m a=E at *;generalize Rg.ed K m a=m1 at *;generalize Rg.ed K n a=n1 at *;have KK:Hid (Rg.al n1 (Rg.bG K)=Rg.al m1 (Rg.bG K)):=Rg.afJ BT.out.eqv _;have KL:Hid (∀ y,bB w K d lb rb cb r qb gs gr B m1 n1 y→qc 14 #[qp d,.iface 33 (qp gs)] y (A4 B (Rg.al m1 (Rg.bG K)) y (fun z=>bB w K d lb rb cb r qb gs gr B (Rg.fL m1 2) n1 z))):=fun y hy=>ajm HS.out Dl.out.1 hy.j6 sY hy;have IC:Hid (∀ y,bB w K d lb rb cb r qb gs gr B m1 n1 y→∀ x,bB w K d lb rb cb r qb gs gr B (Rg.fL m1 2) n1 x→qc 15 #[qp r,qp gr] x (A4 B (Rg.al m1 (Rg.bG K)) x (fun z=>bB w K d lb rb cb r qb gs gr B (Rg.fL m1 2) (Rg.fL n1 2) z))):=fun y hy x hx=>by
   have h:=aif (K:=K) (n:=n1) Dl.out.2 (fun k hk=>by rw [(BT.out.rdI ((k:Int)+1)).2];exact hy.j6 k hk) sY hx;rw [KK.out] at h;exact h
  have Qc:Hid (∀ (L:List Rg.R) y p q c c',L.length≤100000→Rs y p c L→Rs y q c' L→qc 13 #[.slice p L.length c,.slice q L.length c'] y (xB true y)):=fun L y p q c c' h0 h1 h2=>by
   have h:=yD L L p q _ _ c c' rfl rfl h0 y h1 h2;rw [decide_eq_true rfl] at h;exact h
  have FP:Hid ((Rg.al m1 (Rg.bG K)).length≤100000):=by
   show _≤_;unfold Rg.al Rg.nz Rg.nz Rg.nz;simp only [List.nil_append,List.length_append];have q:∀ o:Option Rg.R,o.toList.length≤1:=fun o=>by cases o<;>simp
   have q1:=q (Rg.pF m1 (Rg.bG K) 0);have q2:=q (Rg.pF m1 (Rg.bG K) 1);omega
  clear BT KK Dl;generalize Rg.al m1 (Rg.bG K)=LA at *;generalize Rg.fL m1 2=m2 at *;generalize Rg.fL n1 2=n2 at *;have Ni:0≤(k:Int):=by omega
  have Gl:(k:Int)<(ln:Int):=by omega
  go_upto_region 12 with (fail)
  refine wp_region_any (by kernel_rfl) ?_;change wpAny _ _ _ _ _ _ _ (World.drew _);have Of:Hid (bB w K d lb rb cb r qb gs gr B m n wr.drew):=HV.out.av (Below.refl _ _).drew;generalize wr.drew=z0 at *;have S0:=CJ.out z0 Of.out.low;clear HV;refine wpAny_of_held (S:=fun y=>y.rangeAt ab (ao+k*141) A.toList) _ _ _ _ ?_;refine aS 0 47 (qp d) S0 rfl (by intro y hy;go_simp) ?_;refine aS 1 48 (qp gs) S0 rfl (by intro y hy;go_simp) ?_;refine aS 2 49 (.iface 33 (qp gs)) S0 rfl (by intro y hy;go_simp) ?_;refine aS 3 50 (.slice (some ⟨ab,ao,none⟩) ln lc) S0 rfl (by intro y hy;go_simp) ?_;refine aS 4 51 (.int .i64 k) S0 rfl (by intro y hy;go_simp) ?_;refine aS 5 52 (.pointer (some ⟨ab,ao+k*141,none⟩)) S0 rfl (by intro y hy;go_simp) ?_;refine aS 6 53 (.agg A) S0 rfl (fun y hy=>aj _ _ ab (ao+k*141) A _ rfl hy underlying48 rfl (ae Tryz.zZ Aw)) ?_;refine aS 8 55 (qp r) S0 rfl (by intro y hy;go_simp) ?_;refine aS 9 56 (qp gr) S0 rfl (by intro y hy;go_simp) ?_;refine aS 10 57 (.slice (some ⟨ab,ao,none⟩) ln lc) S0 rfl (by intro y hy;go_simp) ?_;refine aS 11 58 (.int .i64 k) S0 rfl (by intro y hy;go_simp) ?_;refine aS 12 59 (.pointer (some ⟨ab,ao+k*141,none⟩)) S0 rfl (by intro y hy;go_simp) ?_;refine aS 13 60 (.agg A) S0 rfl (fun y hy=>aj _ _ ab (ao+k*141) A _ rfl hy underlying48 rfl (ae Tryz.zZ Aw)) ?_;refine aD 7 (by kernel_rfl) ?_;refine wpOp_step rfl (fun Kc Af=>?_);go_simp;refine (Lp.out _ Of.out).mono ?_;rintro e2 z2 ⟨rfl,Kt,A9⟩;dsimp only;have S2:=CJ.out _ Kt.out.low;refine Af _ _ ⟨S2,?_⟩;clear Af Kc;try simp only [Act.put,aQ,aR,aO]
  refine aD 14 (by kernel_rfl) ?_;refine wpOp_step rfl (fun Kc Af=>?_);go_simp;refine (IQ.out _ Kt.out).mono ?_;rintro e3 z3 ⟨rfl,IV,EV⟩;dsimp only;have S3:=CJ.out _ IV.out.low;refine Af _ _ ⟨S3,?_⟩;clear Af Kc;try simp only [Act.put,aQ,aR,aO]
  refine aS 15 62 (.bool false) S3 rfl (by intro y hy;go_simp) ?_;refine aS 16 63 (.bool false) S3 rfl (by intro y hy;go_simp) ?_;refine aS 17 64 (qp d) S3 rfl (by intro y hy;go_simp) ?_;refine aS 18 65 (qp gs) S3 rfl (by intro y hy;go_simp) ?_;refine aS 19 66 (.iface 33 (qp gs)) S3 rfl (by intro y hy;go_simp) ?_;refine aS 21 68 (qp r) S3 rfl (by intro y hy;go_simp) ?_;refine aS 22 69 (qp gr) S3 rfl (by intro y hy;go_simp) ?_;refine aD 20 (by kernel_rfl) ?_;refine wpOp_step rfl (fun Kc Af=>?_);go_simp;refine (KL.out _ IV.out).mono ?_;rintro e4 z4 ⟨v4,rfl,Ct,M8,Ku,FO⟩;dsimp only;have S4:=CJ.out _ Ku.out.low;refine Af _ _ ⟨S4,?_⟩;clear Af Kc;try simp only [Act.put,aQ,aR,aO]
  refine aD 23 (by kernel_rfl) ?_;refine wpOp_step rfl (fun Kc Af=>?_);go_simp;refine (IC.out _ IV.out _ Ku.out).mono ?_;rintro e5 z5 ⟨v5,rfl,HO5,Qh,Fq,IE⟩;have Le:Hid (nF z3.heap.size z5 v4 LA):=agW Ct.out IE.out IV.out.tS;obtain ⟨p4,c4,rfl,KF⟩:=nF.es Le.out M8.out;obtain ⟨p5,c5,rfl,Mm⟩:=nF.es HO5.out Qh.out;have F1:=qh KF;have IK:=qh Mm;clear KF Mm;dsimp only;have S5:=CJ.out _ Fq.out.low;refine Af _ _ ⟨S5,?_⟩;clear Af Kc;try simp only [Act.put,aQ,aR,aO]
  refine aD 24 (by kernel_rfl) ?_;refine wpOp_step rfl (fun Kc Af=>?_);go_simp;refine (Qc.out LA _ _ _ _ _ FP.out F1.out IK.out).mono ?_;rintro e6 z6 ⟨rfl,BJ⟩;have Lw:=qh (Fq.out.av BJ);dsimp only;have S6:=CJ.out _ Lw.out.low;refine Af _ _ ⟨S6,?_⟩;clear Af Kc;try simp only [Act.put,aQ,aR,aO]
  refine aS 25 72 (.bool false) S6 rfl (by intro y hy;go_simp) ?_;refine aS 26 73 (.bool false) S6 rfl (by intro y hy;go_simp) ?_;refine wpAnyH_done (by kernel_rfl) ?_ _;clear Lp IQ KL IC Qc FP F1 IK Ct HO5 Le M8 Qh A9 EV FO IE Of Kt IV Ku Fq S0 S2 S3 S4 S5 S6 BJ;go_upto_region 15 with (fail)
  go_loopw [12] (fun v12 wr=>∃ (j:Nat) (m3:Dk.M),j≤4∧v12 = .int .i64 j∧Hid (bB w K d lb rb cb r qb gs gr B m3 n2 wr)∧Hid (qV m3 n2 k j)) (fun v12 _=>4-(intOf v12).toNat)
  case atStart=>exact ⟨0,m2,by omega,rfl,Lw,RH⟩
  case round =>
   obtain ⟨j,m3,hj,rfl,HV,HM⟩:=hrel;by_cases Cp:j<4
   ·have N9:=qh (aaP HM.out.eq HM.out.nn j Cp);have KS:=qh (fun y (hy:bB w K d lb rb cb r qb gs gr B m3 n2 y)=>aft (j:Int) (fun i=>by have:=HM.out.rm i;have:=Oe.out.1;omega) hy);have PV:=qh (fun y (hy:bB w K d lb rb cb r qb gs gr B (Dk.dG m3 (j:Int)) n2 y)=>acT j N9.out.1 hy);have Bx:Hid ((Dk.bK m3 (j:Int)).length≤1024):=HV.out.pP _;have Ko:=qh (HM.out.next (j:Int));rw [N9.out.2] at PV;have Il:Hid (∀ y p q c c',Bs y p c (Dk.bK m3 (j:Int))→Bs y q c' (Dk.bK m3 (j:Int))→qc 17 #[.slice p (Dk.bK m3 (j:Int)).length c,.slice q (Dk.bK m3 (j:Int)).length c'] y (lY y)):=fun y p q c c' h1 h2=>acs _ p q _ _ c c' rfl rfl y h1.bat h2.bat (by have:=Bx.out;omega);unfold R4 at KS;clear N9 Bx HM;generalize Dk.bK m3 (j:Int)=XX at *;generalize Dk.dG m3 (j:Int)=m4 at *;generalize Dk.fC m3 (j:Int)=EE at *;have Te:(j:Int)<4:=by omega
    go_wp2_with (first
     | (go_at_call 16;refine (KS.out _ HV.out).mono ?_;rintro e1 y1 ⟨p1,c1,rfl,AM,Fe,D8⟩)
     | (go_at_call 18;refine (PV.out _ Fe.out).mono ?_;rintro e2 y2 ⟨p2,c2,rfl,Ar,Aj⟩)
     | (go_at_call 17;refine (Il.out _ _ _ _ _ (AM.out.av Aj.out) Ar.out).mono ?_;rintro e3 y3 ⟨rfl,As⟩;have Sm:=qh (Fe.out.av (Aj.out.trans (As.mono Aj.out.size)))))
    exact ⟨⟨j+1,m4,by omega,by go_num,Sm,Ko⟩,by simp [intOf];omega⟩
   ·have Te:¬ (j:Int)<4:=by omega
    have ej:j=4:=by omega
    subst ej;have Rx:=qh HM.out.done;go_wp2;exact ⟨⟨k+1,m3,n2,by omega,by go_num,HV,Rx⟩,by simp [intOf];omega⟩
end
end Go.Proofs.YthgjfjmampmiiaaGreatDoor

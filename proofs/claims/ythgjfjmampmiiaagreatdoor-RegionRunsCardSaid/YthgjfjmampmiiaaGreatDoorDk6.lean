/-
  DkJ, DkM (merged)
-/
import Derived.Test.YthgjfjmampmiiaaGreatDoorDk2
namespace Go.Proofs.YthgjfjmampmiiaaGreatDoor
open Go.Proofs.Tryz
set_option maxHeartbeats 2000000
set_option maxRecDepth 100000
section
open Go.RowKit
namespace Dk
def synced (m:M):M:={ m with ls:=cG m,ca:=fun _=>none }
def nZ (m:M):M:=if gone m then aK m else synced (aK m)
end Dk
section
variable {T:Nat→Prop} {d lb rb cb:Nat} {m:Dk.M}
theorem iU.del {y z:World} {i:Nat} {F:Nat→Option Value} {L:List Int} (hF:iU y T m F) (hu:∀ (g:Nat) (cur:Array Value),T g→y.heap[g]?=qo cur 5→z.heap[g]?=y.heap[g]?):iU z T { m with ls:=aZ m.ls i L,ca:=aZ m.ca i none } (aZ F i none):=fun j=>by
 by_cases AK:j=i
 ·subst AK;show (aZ m.ca j none j=none→aZ F j none j=none)∧∀ X,aZ m.ca j none j=some X→_;rw [az,az];exact ⟨fun _=>rfl,fun X hX=>by cases hX⟩
 ·show (aZ m.ca i none j=none→aZ F i none j=none)∧∀ X,aZ m.ca i none j=some X→∃ v,aZ F i none j=some v∧_;rw [aq _ _ AK,aq _ _ AK];refine ⟨(hF j).1,fun X hX=>?_⟩;obtain ⟨u,c1,c2⟩:=(hF j).2 X hX;exact ⟨u,c1,c2.aG hu⟩
theorem iU.aG {y z:World} {F:Nat→Option Value} (hF:iU y T m F) (hu:∀ (g:Nat) (cur:Array Value),T g→y.heap[g]?=qo cur 5→z.heap[g]?=y.heap[g]?):iU z T m F:=fun j=>⟨(hF j).1,fun X hX=>by
 obtain ⟨u,c1,c2⟩:=(hF j).2 X hX;exact ⟨u,c1,c2.aG hu⟩⟩
structure yv (m m':Dk.M) (lft:Nat→Bool):Prop where
 n:m'.n=m.n
 rd:m'.rd=m.rd
 wr:m'.wr=m.wr
 lf:m'.left=m.left
 down:m'.down=m.down
 more:∀ i,lft i=true→m'.ls i=m.ls i∧m'.ca i=m.ca i∧(m.ca i).isSome=true
 done:∀ i,lft i=false→m'.ls i=Dk.cG m i∧m'.ca i=none
theorem yv.end {m m':Dk.M} {left:Nat→Bool} (h:yv m m' left) (hl:∀ i,left i=false):m'=Dk.synced m:=by
 obtain ⟨n,ls,ca,rd,wr,lf,dn⟩:=m';have h1:=h.n;have h2:=h.rd;have h3:=h.wr;have h4:=h.lf;have h5:=h.down;dsimp only at h1 h2 h3 h4 h5;subst h1;subst h2;subst h3;subst h4;subst h5;have e1:ls=Dk.cG m:=funext fun i=>(h.done i (hl i)).1;have e2:ca=fun _=>none:=funext fun i=>(h.done i (hl i)).2;subst e1;subst e2
 rfl
theorem yv.step {m m':Dk.M} {left:Nat→Bool} {j:Nat} (h:yv m m' left) (hj:left j=true):yv m (Dk.settle m' j) (aZ left j false):=by
 obtain ⟨h1,h2,h3,h4,h5,h6,h7⟩:=h;refine ⟨h1,h2,h3,h4,h5,fun i hi=>?_,fun i hi=>?_⟩
 ·by_cases CT:i=j
  ·subst CT;rw [az] at hi;cases hi
  ·rw [aq _ _ CT] at hi;show aZ m'.ls j _ i=_∧aZ m'.ca j none i=_∧_;rw [aq _ _ CT,aq _ _ CT];exact h6 i hi
 ·by_cases CT:i=j
  ·subst CT;show aZ m'.ls i _ i=_∧aZ m'.ca i none i=_;rw [az,az,(h6 i hj).2.1];refine ⟨?_,rfl⟩;unfold Dk.cG;obtain ⟨X,hX⟩:=Option.isSome_iff_exists.1 (h6 i hj).2.2;rw [hX]
   rfl
  ·rw [aq _ _ CT] at hi;show aZ m'.ls j _ i=_∧aZ m'.ca j none i=_;rw [aq _ _ CT,aq _ _ CT];exact h7 i hi
theorem acq (w:World) (hd:aJ w T d lb rb cb m):qc 36 #[qp d] w (oG T d lb rb cb (.int .i64 (Dk.aM m)) (Dk.nZ m) w):=by
 have HD:=qh hd;clear hd;cases hg:Dk.gone m with
 | true =>
  have e1:Dk.aM m=12:=by unfold Dk.aM;rw [if_pos hg]
  have e2:Dk.nZ m=Dk.aK m:=by unfold Dk.nZ;rw [if_pos hg]
  go_enter func36,ntmps36;go_wp2_with (go_at_call 77;refine (iF _ HD.out).mono ?_;rw [e1];rintro e w2 ⟨rfl,Cv,AP⟩;have AX:=qh AP;clear AP)
  go_ret;refine ⟨by first | rfl | (rw [e1];rfl),qh ?_,qh (AX.out.more (fun k hk=>by simp at hk ⊢;exact Or.inl hk))⟩;rw [e2];exact Cv.out
 | false =>
  have e1:Dk.aM m=0:=by unfold Dk.aM;rw [hg];rfl
  have e2:Dk.nZ m=Dk.synced (Dk.aK m):=by unfold Dk.nZ;rw [hg];rfl
  obtain ⟨m2,hm2e⟩:∃ m2,Hid (Dk.aK m=m2):=⟨_,rfl⟩;go_enter func36,ntmps36;go_upto_region 4 with (go_at_call 77;refine (iF _ HD.out).mono ?_;rw [e1];rintro e w2 ⟨rfl,Cv,AP⟩;rw [hm2e.out] at Cv;have AX:Hid (Mv [d,lb,rb,cb] w w2):=qh (AP.more (fun k hk=>by simp at hk ⊢;exact Or.inl hk));clear AP)
  have AL:=qh Cv.out;clear Cv HD;have k1:=AL.out.cells.2.1;obtain ⟨F,DN,Dw⟩:=AL.out.csh;have HF:=qh (show bM w2 cb m2.wr F∧iU w2 T m2 F from ⟨DN,Dw⟩);clear DN Dw;go_wp2_with (at_range;obtain ⟨w3,cnt3,Am,QV,Nh,Nv,_⟩:=HF.out.1.range Tryz.gZ;refine fO rfl _ _ rfl _ rfl _ w3 Am ?_;have DU:=qh QV;have B3:Hid (qw w2 w3):=(Below.refl _ w2).grown Nh qn (fun _ e=>by cases e);clear Am QV Nh Nv)
  go_frame
  go_loopw [4] (fun v4 wr=>∃ (m':Dk.M) (left:Nat→Bool) (F':Nat→Option Value) (cnt:Nat),Hid (yv m2 m' left)∧Hid (cH wr cb w2.heap.size m'.wr F' left cnt)∧Hid (aJ wr T d lb rb cb m'∧iU wr T m' F')∧Hid (Mv [d,lb,rb,cb] w2 wr)) (fun _ wr=>wr.rangeLeft cb w2.heap.size)
  case atStart =>
   refine ⟨m2,_,F,cnt3,qh ⟨rfl,rfl,rfl,rfl,rfl,fun i hi=>⟨rfl,rfl,?_⟩,fun i hi=>?_⟩,DU,qh ⟨AL.out.av B3.out,HF.out.2.aG (fun g cur EJ _=>B3.out.block g (AL.out.top g EJ))⟩,qh (Mv.aB B3.out)⟩
   ·cases h:m2.ca i with
    | none=>rw [(HF.out.2 i).1 h] at hi;cases hi
    | some L=>rfl
   ·cases h:m2.ca i with
    | none=>exact ⟨by unfold Dk.cG;rw [h];rfl,rfl⟩
    | some L=>obtain ⟨v,hv,_⟩:=(HF.out.2 i).2 L h;rw [hv] at hi;cases hi
  case round =>
   obtain ⟨m',left,F',cnt,HH,HR,Iz,HM⟩:=hrel;rcases HR.out.next 0 with ⟨hl,Am⟩ | ⟨j,v,w5,cnt5,L8,Fw,Am,hj,Mm,Ae,CE,Pr,Fx⟩
   ·have he:=HH.out.end hl;subst he;have Hv:=qh Iz.out.1;go_wp2_with (at_next;refine cP rfl _ rfl _ rfl _ _ Am ?_)
    go_ret;refine ⟨by first | rfl | (rw [e1];rfl),qh ?_,qh (AX.out.trans HM.out)⟩;rw [e2,hm2e.out];exact Hv.out
   ·have Pg:¬ T w2.heap.size:=fun h=>Nat.lt_irrefl _ (AL.out.top _ h);have M5:Mv [w2.heap.size] wr w5:=Mv.grown CE (fun k e=>by cases e;simp);have FK:=qh (Iz.out.1.mv M5 (fun k hk=>by simp at hk;subst hk;exact Pg));have EB:Hid (iU w5 T m' F'):=Iz.out.2.aG (fun g cur EJ _=>M5.block g (Iz.out.1.top g EJ) (by simp;intro e;exact Pg (e ▸ EJ)));have Se:Hid (Mv [d,lb,rb,cb] w2 w5):=⟨M5.os.trans HM.out.os,M5.tape.trans HM.out.tape,M5.output.trans HM.out.output,Nat.le_trans HM.out.size M5.size,fun k hk hn=>(M5.block k (Nat.lt_of_lt_of_le hk HM.out.size) (by simp;omega)).trans (HM.out.block k hk hn)⟩;obtain ⟨L,hL,hs⟩:∃ L,m'.ca j=some L∧j3 w5 T v L:=by
     cases h:m'.ca j with
     | none=>rw [(EB.out j).1 h] at Fw;cases Fw
     | some L=>obtain ⟨u,hu,hs⟩:=(EB.out j).2 L h;rw [hu] at Fw;cases Fw;exact ⟨L,rfl,hs⟩
    obtain ⟨p,c,rfl,_⟩:=hs.bs;have OU:j<m'.n:=by
     by_cases q:j<m'.n
     ·exact q
     ·rw [FK.out.ok.out j (by omega)] at hL;cases hL
    obtain ⟨A,a1,a2,a3⟩:=FK.out.cI;have ne:=FK.out.ne;have IK:=qh Mm;have Od:=qh (nm j m'.n p L.length c OU w5 (fun y=>∃ cnt',Hid (cH y cb w2.heap.size m'.wr (aZ F' j none) (aZ left j false) cnt')∧cnt'≤cnt5∧Hid (aJ y T d lb rb cb (Dk.settle m' j)∧iU y T (Dk.settle m' j) (aZ F' j none))∧Hid (Mv [d,lb,rb,cb] w2 y)) FK.out.cells.1 FK.out.cells.2.1 ne.1 A a1 a2
     (fun z hz=>by
      have h:=(hz.map IK.out.map).afk Tryz.gZ j hj;rw [Fw] at h;exact h)
     (fun z ty hz=>by
      have Bn:=heap_setCell_same w5 lb j A 22 (.slice p L.length c) a1;have m1:Mv [lb,cb] w5 (w5.setCell ⟨lb,j,none⟩ (.slice p L.length c)):=(Mv.refl _ _).setCell _ _ (by simp);have m2':Mv [lb,cb] w5 z:=m1.trans (hz.mv _);have Ty:cH z cb w2.heap.size m'.wr F' (aZ left j false) cnt5:=IK.out.aG (by rw [hz.heap];exact heap_setCell_other w5 ⟨lb,j,none⟩ cb _ (fun e=>ne.2.2.2.2.1 e.symm)) (by rw [hz.heap];exact heap_setCell_other w5 ⟨lb,j,none⟩ _ _ (fun e=>Pg (by have e':w2.heap.size=lb:=e;rw [e'];exact FK.out.lt.2.1)));obtain ⟨y,cnt',Mp,Nu,hle,ht⟩:=Ty.drop Tryz.gZ j hj ty;have m3:Mv [lb,cb] w5 y:=m2'.trans (Mv.kf ht (by simp));have m4:Mv [d,lb,rb,cb] w5 y:=m3.more (fun k hk=>by simp at hk ⊢;rcases hk with rfl | rfl<;>simp);have Fz:y.heap[lb]?=qo (A.setIfInBounds j (.slice p L.length c)) 22:=by
       rw [ht.grown.block lb (by rw [hz.heap];exact lt_of_block Bn) (fun e=>ne.2.2.2.2.1 (Option.some.inj e)),hz.heap];exact Bn
      have es:Dk.settle m' j = { m' with ls:=aZ m'.ls j L,ca:=aZ m'.ca j none }:=by unfold Dk.settle;rw [hL];rfl
      refine ⟨y,Mp,cnt',qh (Nu.congr (fun i=>?_)),hle,qh ?_,qh (Se.out.trans m4)⟩
      ·by_cases CT:i=j
       ·subst CT;rw [az,az]
       ·rw [aq _ _ CT,aq _ _ CT,aq _ _ CT]
      ·rw [es];exact ⟨FK.out.put (fun _ h=>h) (fun g hg=>Nat.lt_of_lt_of_le (FK.out.top g hg) m3.size) m3 a1 Fz EB.out Nu.map OU (hs.aG (FK.out.u8 m4)) (FK.out.ok.cab j L hL),EB.out.del (FK.out.u8 m4)⟩))
    have NZ:=qh L8;have N1:=qh HR.out.left_eq;have MQ:=qh Ae;clear hs a1 a2 a3 ne CE Pr Mm L8 Ae Fw M5 OU hL;go_wp2_with (first
     | (at_next;refine cP rfl _ rfl _ rfl _ _ Am ?_)
     | (go_at_call 78;refine Od.out.mono ?_;rintro e w6 ⟨rfl,cnt6,QW,Tk,OM,Pb⟩))
    exact ⟨⟨_,_,_,cnt6,qh (HH.out.step NZ.out),QW,OM,Pb⟩,by rw [QW.out.left_eq,N1.out];have:=MQ.out;omega⟩
end
end
section
open Go.RowKit
def IAt (y:World) (p:Option Addr) (L:List Int):Prop:=0<L.length→∃ ab ao,p=some ⟨ab,ao,none⟩∧∀ j,j<L.length→y.cell? ⟨ab,ao+j,none⟩=some (.int .i64 (L.getD j 0))
namespace Dk
def drop (m:M) (i:Nat):M:={ m with ca:=aZ m.ca i none }
def fT (m:M) (f:Nat→Bool):Nat→M
 | 0=>m
 | k+1=>match (dl m)[k]? with
  | some i=>if f k then settle (fT m f k) i else drop (fT m f k) i
  | none=>fT m f k
def cD (L:List Int) (k:Nat):Bool:=decide (k<L.length) && !(L.getD k 0==0)
def cY (m:M) (f:Nat→Bool):M:={ fT m f (dl m).length with left:=-1,down:=false }
section
variable {m:M} {f:Nat→Bool}
theorem na {k i:Nat} (h:(dl m)[k]?=some i):fT m f (k+1)=if f k then settle (fT m f k) i else drop (fT m f k) i:=by rw [fT,h]
theorem nR (m:M) (f:Nat→Bool):∀ k,(fT m f k).n=m.n∧(fT m f k).rd=m.rd∧(fT m f k).wr=m.wr
 | 0=>⟨rfl,rfl,rfl⟩
 | k+1=>by
  have h:=nR m f k;rw [fT];split
  ·split
   ·exact h
   ·exact h
  ·exact h
theorem jE (m:M) (f:Nat→Bool) (i:Nat):∀ k,(∀ j,j<k→(dl m)[j]? ≠ some i)→(fT m f k).ca i=m.ca i∧(fT m f k).ls i=m.ls i
 | 0,_=>⟨rfl,rfl⟩
 | k+1,hk=>by
  have h:=jE m f i k (fun j hj=>hk j (by omega));rw [fT];split
  ·rename_i x hx
   have Fk:i ≠ x:=fun e=>hk k (by omega) (by rw [hx,e]);split
   ·show aZ _ x none i=_∧aZ _ x _ i=_;rw [aq _ _ Fk,aq _ _ Fk];exact h
   ·show aZ _ x none i=_∧_;rw [aq _ _ Fk];exact h
  ·exact h
theorem pG {j k i:Nat} (hj:(dl m)[j]?=some i) (hk:(dl m)[k]?=some i):j=k:=by
 have h1:=(List.getElem?_eq_some_iff.1 hj);have h2:=(List.getElem?_eq_some_iff.1 hk);obtain ⟨l1,e1⟩:=h1;obtain ⟨l2,e2⟩:=h2;have hp:=List.pairwise_iff_getElem.1 (kg m);by_cases q1:j<k
 ·have:=hp j k l1 l2 q1;omega
 ·by_cases q2:k<j
  ·have:=hp k j l2 l1 q2;omega
  ·omega
theorem ze (m:M) (f:Nat→Bool) {j i:Nat} (hj:(dl m)[j]?=some i):∀ k,j<k→(fT m f k).ca i=none∧(fT m f k).ls i=if f j then (m.ca i).getD [] else m.ls i
 | 0,h=>by omega
 | k+1,hk=>by
  by_cases GO:j=k
  ·subst GO;have h:=jE m f i j (fun q hq e=>by have:=pG e hj;omega);rw [na hj];cases hf:f j with
   | true =>
    show aZ _ i none i=_∧aZ _ i _ i=_;rw [az,az,h.1];exact ⟨rfl,rfl⟩
   | false =>
    show aZ _ i none i=_∧(fT m f j).ls i=_;rw [az,h.2];exact ⟨rfl,rfl⟩
  ·have h:=ze m f hj k (by omega);rw [fT];split
   ·rename_i x hx
    have Fk:i ≠ x:=fun e=>GO (pG hj (by rw [hx,e]));split
    ·show aZ _ x none i=_∧aZ _ x _ i=_;rw [aq _ _ Fk,aq _ _ Fk];exact h
    ·show aZ _ x none i=_∧_;rw [aq _ _ Fk];exact h
   ·exact h
end
end Dk
section
variable {T:Nat→Prop} {d lb rb cb:Nat} {m:Dk.M}
theorem aJ.drop {y z:World} {i:Nat} {F:Nat→Option Value} (h:aJ y T d lb rb cb m) (hm:Mv [cb] y z) (hF:iU y T m F) (hc:bM z cb m.wr (aZ F i none)):aJ z T d lb rb cb (Dk.drop m i):=by
 have J4:Mv [d,lb,rb,cb] y z:=hm.more (fun k hk=>by simp at hk ⊢;subst hk;simp);have hu:=h.u8 J4;have ne:=h.ne;have lt:=h.lt;obtain ⟨A,a1,a2,a3⟩:=h.cI;obtain ⟨o1,o2,o3,o4,o5,o6⟩:=h.ok;have key:∀ g,T g→g ≠ cb→z.heap[g]?=y.heap[g]?:=fun g hg hn=>hm.block g (h.top g hg) (by simpa using hn);refine ⟨lt,fun g hg=>Nat.lt_of_lt_of_le (h.top g hg) hm.size,(key d lt.1 ne.2.2.1).trans h.row,⟨A,(key lb lt.2.1 ne.2.2.2.2.1).trans a1,a2,fun j hj=>?_⟩,⟨_,hc,fun j=>?_⟩,(key rb lt.2.2.1 ne.2.2.2.2.2).trans h.rds,⟨o1,o2,fun j hj=>?_,o4,o5,fun j X hX=>?_⟩⟩
 ·obtain ⟨u,c1,c2⟩:=a3 j hj;exact ⟨u,c1,c2.aG hu⟩
 ·by_cases AK:j=i
  ·subst AK;show (aZ m.ca j none j=none→aZ F j none j=none)∧∀ X,aZ m.ca j none j=some X→_;rw [az,az];exact ⟨fun _=>rfl,fun X hX=>by cases hX⟩
  ·show (aZ m.ca i none j=none→aZ F i none j=none)∧∀ X,aZ m.ca i none j=some X→∃ v,aZ F i none j=some v∧_;rw [aq _ _ AK,aq _ _ AK];refine ⟨(hF j).1,fun X hX=>?_⟩;obtain ⟨u,c1,c2⟩:=(hF j).2 X hX;exact ⟨u,c1,c2.aG hu⟩
 ·show aZ m.ca i none j=none;by_cases AK:j=i
  ·rw [AK,az]
  ·rw [aq _ _ AK];exact o3 j hj
 ·by_cases AK:j=i
  ·rw [AK] at hX;have Cx:aZ m.ca i none i=some X:=hX;rw [az] at Cx;cases Cx
  ·have Cx:aZ m.ca i none j=some X:=hX;rw [aq _ _ AK] at Cx;exact o6 j X Cx
theorem acS {w:World} {B e n:Nat} {v:Value} {xs:List Value} (h:w.ownsRow B e 1 v n xs):∃ a c,v = .slice a n c:=by
 rcases h.2 with ⟨h2,h3⟩ | ⟨g,cap,cur,h2,_⟩
 ·exact ⟨none,0,by rw [h2,h3]⟩
 ·exact ⟨_,cap,h2⟩
theorem ints_at {w:World} {B n c:Nat} {a:Option Addr} {l:List Nat} (h:w.ownsRow B 3 1 (.slice a n c) n (kY l)) (h0:0<n):∃ g,a=some ⟨g,0,none⟩∧B≤g∧∀ (y:World) (j i:Nat),y.heap[g]?=w.heap[g]?→l[j]?=some i→y.cell? ⟨g,j,none⟩=some (.int .i64 (i:Int)):=by
 have hl:l.length=n:=by have:=h.1;unfold kY at this;simpa using this
 rcases h.2 with ⟨_,h3⟩ | ⟨g,cap,cur,h2,hB,hb,h3,h4,h5,h6⟩
 ·omega
 ·cases h2
  refine ⟨g,rfl,hB,fun y j i hy hj=>?_⟩;have Cp:=(List.getElem?_eq_some_iff.1 hj).1;rw [cell_of_row y g j _ _ _ (hy.trans hb)];have h7:(cur.toList.take (n*1))[j]?=(kY l)[j]?:=by rw [h6]
  rw [List.getElem?_take_of_lt (by omega)] at h7;rw [← Array.getElem?_toList,h7];unfold kY;rw [List.getElem?_map,hj]
  rfl
theorem x5 (L:List Int) (p:Option Addr) (n c:Nat) (hn:L.length=n) (w:World) (hd:aJ w T d lb rb cb m) (CG:m.wr≤1000000000) (hl:∀ y,Mv [d,lb,rb,cb] w y→IAt y p L) :
  qc 37 #[qp d,.slice p n c] w (oG T d lb rb cb (.tuple #[]) (Dk.cY m (Dk.cD L)) w):=by
 have HD:=qh hd;clear hd;have HL:=qh hl;clear hl;have HN:=qh hn;clear hn;have C0:=HD.out.ok.n2;go_enter func37,ntmps37;obtain ⟨N,La⟩:∃ N,Hid ((Dk.dl m).length=N):=⟨_,rfl⟩;go_upto_region 1 with (go_at_call 79;refine (xO _ HD.out CG).mono ?_;rintro e w1 ⟨v1,rfl,Cz,Ag⟩;rw [La.out] at Cz;obtain ⟨a1,c1,rfl⟩:=acS Cz.out;have Ax:=qh Cz.out;have B1:=qh Ag;clear Cz Ag)
 have Dt:=qh (HD.out.av B1.out);have M1:Hid (Mv [d,lb,rb,cb] w w1):=qh (Mv.aB B1.out);have CJ:Hid (∀ (k i:Nat),(Dk.dl m)[k]?=some i→∃ g,a1=some ⟨g,0,none⟩∧∀ y,Mv [d,lb,rb,cb] w1 y→y.cell? ⟨g,k,none⟩=some (.int .i64 (i:Int))):=fun k i hk=>by
  have Dp:=(List.getElem?_eq_some_iff.1 hk).1;rw [La.out] at Dp;obtain ⟨g,h1,h2,h3⟩:=ints_at Ax.out (by omega);refine ⟨g,h1,fun y hy=>h3 y k i ?_ hk⟩;subst h1;obtain ⟨_,cur,hb⟩:=dY Ax.out g rfl;refine hy.block g (lt_of_block hb) (fun AF=>?_);have t1:=HD.out.top _ HD.out.lt.1;have t2:=HD.out.top _ HD.out.lt.2.1;have t3:=HD.out.top _ HD.out.lt.2.2.1;have t4:=HD.out.top _ HD.out.lt.2.2.2;simp only [List.mem_cons,List.not_mem_nil,or_false] at AF;rcases AF with rfl | rfl | rfl | rfl<;>omega
 have FU:Hid (N≤m.n):=by show N≤_;rw [← La.out];exact Dk.zt m
 clear HD Ax B1;go_loopw [4,5,9] (fun v4 v5 v9 wr=>∃ k:Nat,k≤N∧v9 = .int .i64 (k:Int)∧Hid (aJ wr T d lb rb cb (Dk.fT m (Dk.cD L) k))∧Hid (Mv [d,lb,rb,cb] w1 wr)) (fun _ _ v9 _=>N-(intOf v9).toNat)
 case atStart=>exact ⟨0,Nat.zero_le _,rfl,Dt,qh (Mv.refl _ _)⟩
 case round =>
  obtain ⟨k,hk,rfl,Kj,FQ⟩:=hrel;by_cases Ae:k<N
  ·obtain ⟨i,hi⟩:∃ i,(Dk.dl m)[k]?=some i:=⟨(Dk.dl m)[k]'(by rw [La.out];exact Ae),List.getElem?_eq_getElem _⟩;obtain ⟨g,rfl,BK⟩:=CJ.out k i hi;have ck:=BK _ FQ.out;have GP:(0:Int)≤(k:Int):=by omega
   have Ec:(k:Int)<(N:Int):=by omega
   have Mb:=(Dk.mN m i).1 (List.mem_of_getElem? hi);have JW:(Dk.fT m (Dk.cD L) k).ca i=m.ca i:=(Dk.jE m (Dk.cD L) i k (fun q hq e=>by have:=Dk.pG e hi;omega)).1;have GK:=qh (Dk.na (f:=Dk.cD L) hi);have AF:i<(Dk.fT m (Dk.cD L) k).n:=by rw [(Dk.nR m (Dk.cD L) k).1];exact Mb.1
   have Aq:IntKind.i64.wrap ((k:Int)+1)=(k:Int)+1:=IntWalk.i64_in _ (by have:=FU.out;constructor<;>omega);clear BK;cases hf:Dk.cD L k with
   | true =>
    have RJ:=qh hf;have Dp:k<L.length∧L.getD k 0 ≠ 0:=by
     unfold Dk.cD at hf;simp only [Bool.and_eq_true,decide_eq_true_eq,Bool.not_eq_true',beq_eq_false_iff_ne] at hf;exact hf
    have Es:(k:Int)<(n:Int):=by have:=HN.out;omega
    obtain ⟨ab,ao,rfl,EI⟩:=HL.out _ (M1.out.trans FQ.out) (by omega);have cl:=EI k Dp.1;obtain ⟨xk,MC⟩:∃ xk,L.getD k 0=xk:=⟨_,rfl⟩;have J2:=Dp.2;rw [MC] at cl J2;have hz:(xk==0)=false:=by simpa using J2
    have hz2:(xk != 0)=true:=by simpa using J2
    clear MC;have Od:=qh (vm i _ Kj.out AF (by rw [JW];exact Mb.2));clear EI Dp hf;go_wp2_with (go_at_call 78;refine Od.out.mono ?_;rintro e w6 ⟨rfl,OM,Pb⟩)
    exact ⟨⟨k+1,by omega,by go_num,qh (by rw [GK.out,RJ.out,if_pos rfl];exact OM.out),qh (FQ.out.trans Pb.out)⟩,by simp [intOf];omega⟩
   | false =>
    obtain ⟨F,DN,Dw⟩:=Kj.out.csh;have HF:=qh (show bM wr cb (Dk.fT m (Dk.cD L) k).wr F∧iU wr T (Dk.fT m (Dk.cD L) k) F from ⟨DN,Dw⟩);have k1:=Kj.out.cells.2.1;clear DN Dw;have fin:∀ y,bM y cb (Dk.fT m (Dk.cD L) k).wr (aZ F i none)→wr.mapTurned y cb→Hid (aJ y T d lb rb cb (Dk.fT m (Dk.cD L) (k+1)))∧Hid (Mv [d,lb,rb,cb] w1 y):=fun y h1 h2=>by
     rw [GK.out,hf,if_neg (by decide)];exact ⟨qh (Kj.out.drop (Mv.kf h2 (by simp)) HF.out.2 h1),qh (FQ.out.trans (Mv.kf h2 (by simp)))⟩
    have FIN:=qh fin;clear fin;by_cases Dp:k<L.length
    ·have Es:(k:Int)<(n:Int):=by have:=HN.out;omega
     obtain ⟨ab,ao,rfl,EI⟩:=HL.out _ (M1.out.trans FQ.out) (by omega);have cl:=EI k Dp;have hz:L.getD k 0=0:=by
      unfold Dk.cD at hf;simpa [Dp] using hf
     rw [hz] at cl;clear EI;go_wp2_with (at_delete;obtain ⟨w6,Am,Fg,Fj⟩:=HF.out.1.drop Tryz.gZ i (by omega) _;refine gk rfl _ _ _ _ rfl cb _ rfl rfl w6 Am ?_;have KY:=qh (FIN.out w6 Fg Fj);clear Fg Fj Am)
     exact ⟨⟨k+1,by omega,by go_num,KY.out.1,KY.out.2⟩,by simp [intOf];omega⟩
    ·have Es:(n:Int)≤(k:Int):=by have:=HN.out;omega
     go_wp2_with (at_delete;obtain ⟨w6,Am,Fg,Fj⟩:=HF.out.1.drop Tryz.gZ i (by omega) _;refine gk rfl _ _ _ _ rfl cb _ rfl rfl w6 Am ?_;have KY:=qh (FIN.out w6 Fg Fj);clear Fg Fj Am)
     exact ⟨⟨k+1,by omega,by go_num,KY.out.1,KY.out.2⟩,by simp [intOf];omega⟩
  ·obtain rfl:k=N:=by omega
   clear Ae;have Hv:=qh Kj.out;clear Kj;obtain ⟨mk,hmk⟩:∃ mk,Hid (Dk.fT m (Dk.cD L) k=mk):=⟨_,rfl⟩;have ec:Hid (Dk.cY m (Dk.cD L) = { mk with left:=-1,down:=false }):=by
    show Dk.cY m (Dk.cD L)=_;unfold Dk.cY;rw [La.out,hmk.out]
   rw [hmk.out] at Hv;have c4:=Hv.out.cells.2.2.2.2.1;have c5:=Hv.out.cells.2.2.2.2.2;have f4:=frozen_of_row wr d 4 _ _ Hv.out.row;have f5:=frozen_of_row wr d 5 _ _ Hv.out.row;have s4:=heap_setCell_same wr d 4 _ _ (.int .i64 (-1)) Hv.out.row;have c5':(wr.setCell ⟨d,4,none⟩ (.int .i64 (-1))).cell? ⟨d,5,none⟩=some (.bool mk.down):=by rw [cell_of_row _ d 5 _ _ _ s4];rfl
   have f5':=frozen_of_row _ d 5 _ _ s4;have s5:=heap_setCell_same _ d 5 _ _ (.bool false) s4;have S5:=qh s5;clear s4 s5;go_wp2;go_end0
   have hm:Mv [d] wr ((wr.setCell ⟨d,4,none⟩ (.int .i64 (-1))).setCell ⟨d,5,none⟩ (.bool false)):=((Mv.refl _ _).setCell _ _ (by simp)).setCell _ _ (by simp);refine ⟨rfl,qh ?_,qh ((M1.out.trans FQ.out).trans (hm.more (fun k hk=>by simp at hk ⊢;exact Or.inl hk)))⟩;rw [ec.out];exact Hv.out.eD hm (by rw [S5.out];rfl) rfl rfl rfl rfl qn (by unfold aT;dsimp only;omega)
end
end
end Go.Proofs.YthgjfjmampmiiaaGreatDoor

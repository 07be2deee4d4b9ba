/-
  DkF, DkG, DkH, DkI (merged)
-/
import Derived.Test.YthgjfjmampmiiaaGreatDoorDk1
import Derived.Test.YthgjfjmampmiiaaGreatDoorDkS
import Derived.Sort.OwnSortedInts
namespace Go.Proofs.YthgjfjmampmiiaaGreatDoor
open Go.Proofs.Tryz
set_option maxHeartbeats 2000000
set_option maxRecDepth 100000
section
open Go.RowKit
section
variable {w y z:World} {T T':Nat→Prop} {d lb rb cb i:Nat} {m:Dk.M} {v:Value} {L:List Int} {F:Nat→Option Value} {A:Array Value}
theorem aJ.u8 (h:aJ y T d lb rb cb m) (hm:Mv [d,lb,rb,cb] y z) (g:Nat) (cur:Array Value) (_hg:T g) (h2:y.heap[g]?=qo cur 5):z.heap[g]?=y.heap[g]?:=by
 obtain ⟨A,a1,_⟩:=h.cI;obtain ⟨F,b1,_⟩:=h.csh;obtain ⟨es,clock,b1⟩:=b1.isMap;have r:=h.row;have q:=h.rds;refine hm.block g (lt_of_block h2) (fun AF=>?_);simp only [List.mem_cons,List.not_mem_nil,or_false] at AF;rcases AF with rfl | rfl | rfl | rfl
 ·rw [r] at h2;injection Option.some.inj h2 with _ h3 _;exact absurd h3 (by decide)
 ·rw [a1] at h2;injection Option.some.inj h2 with _ h3 _;exact absurd h3 (by decide)
 ·rw [q] at h2;injection Option.some.inj h2 with _ h3 _;exact absurd h3 (by decide)
 ·rw [b1] at h2;cases h2
theorem aJ.tf (h:aJ y T d lb rb cb m) {g o:Nat} {x:Int} (hc:y.cell? ⟨g,o,none⟩=some (.int .u8 x)):g∉[d,lb,rb,cb]:=by
 obtain ⟨A,a1,a2,a3⟩:=h.cI;obtain ⟨F,b1,_⟩:=h.csh;obtain ⟨es,clock,b1⟩:=b1.isMap;intro AF;simp only [List.mem_cons,List.not_mem_nil,or_false] at AF;rcases AF with rfl | rfl | rfl | rfl
 ·rw [cell_of_row y g o _ _ _ h.row] at hc
  match o,hc with
  | 0,hc=>cases hc
  | 1,hc=>cases hc
  | 2,hc=>cases hc
  | 3,hc=>cases hc
  | 4,hc=>cases hc
  | 5,hc=>cases hc
  | n+6,hc=>simp at hc
 ·rw [cell_of_row y g o _ _ _ a1] at hc;have ho:o<A.size:=(Array.getElem?_eq_some_iff.1 hc).1;obtain ⟨v,c1,c2⟩:=a3 o (by omega);obtain ⟨p,c,rfl,_⟩:=c2.bs;rw [c1] at hc;cases hc
 ·rw [cell_of_row y g o _ _ _ h.rds] at hc;simp at hc
 ·simp [World.cell?,b1] at hc
theorem aJ.bs {p:Option Addr} {c:Nat} (h:aJ y T d lb rb cb m) (hb:Bs y p c L) (hm:Mv [d,lb,rb,cb] y z):Bs z p c L :=
 ⟨⟨hb.bat.1,fun h0=>by
  obtain ⟨ab,ao,h1,h2⟩:=hb.bat.2 h0;refine ⟨ab,ao,h1,fun j hj=>?_⟩;rw [World.cell?_of_block (hm.block ab (World.block_lt_of_cell? _ _ (h2 j hj)) (h.tf (h2 j hj)))];exact h2 j hj⟩,hb.cap,hb.nil⟩
theorem Mv.more {ks js:List Nat} (h:Mv ks y z) (hs:∀ k∈ks,k∈js):Mv js y z:=⟨h.os,h.tape,h.output,h.size,fun k hk hn=>h.block k hk (fun e=>hn (hs k e))⟩
def iU (y:World) (T:Nat→Prop) (m:Dk.M) (F:Nat→Option Value):Prop:=∀ i,(m.ca i=none→F i=none)∧∀ L,m.ca i=some L→∃ v,F i=some v∧j3 y T v L
theorem aJ.put (h:aJ y T d lb rb cb m) (hT:∀ g,T g→T' g) (ht:∀ g,T' g→g<z.heap.size) (hm:Mv [lb,cb] y z) (hA:y.heap[lb]?=qo A 22) (hz:z.heap[lb]?=qo (A.setIfInBounds i v) 22)
  (hF:iU y T m F) (hc:bM z cb m.wr (aZ F i none)) (hi:i<m.n) (hs:j3 z T' v L) (hL:L.length≤1024):aJ z T' d lb rb cb { m with ls:=aZ m.ls i L,ca:=aZ m.ca i none }:=by
 have J4:Mv [d,lb,rb,cb] y z:=hm.more (fun k hk=>by simp at hk ⊢;rcases hk with rfl | rfl<;>simp);have hu:=h.u8 J4;have ne:=h.ne;have lt:=h.lt;have Mu:=h.top;obtain ⟨A',a1,a2,a3⟩:=h.cI;rw [hA] at a1;obtain rfl:A=A':=by injection Option.some.inj a1
 obtain ⟨o1,o2,o3,o4,o5,o6⟩:=h.ok;refine ⟨⟨hT _ lt.1,hT _ lt.2.1,hT _ lt.2.2.1,hT _ lt.2.2.2⟩,ht,(hm.block d (Mu _ lt.1) (by simp;omega)).trans h.row,⟨_,hz,by simpa using a2,fun j hj=>?_⟩,⟨_,hc,fun j=>?_⟩,(hm.block rb (Mu _ lt.2.2.1) (by simp;omega)).trans h.rds,⟨o1,o2,fun j hj=>?_,o4,fun j=>?_,fun j X hX=>?_⟩⟩
 ·obtain ⟨u,c1,c2⟩:=a3 j hj;by_cases AK:j=i
  ·subst AK;refine ⟨v,?_,?_⟩
   ·rw [Array.getElem?_setIfInBounds_self_of_lt (by omega)]
   ·show j3 z T' v (aZ m.ls j L j);rw [az];exact hs
  ·refine ⟨u,?_,?_⟩
   ·rw [Array.getElem?_setIfInBounds_ne (fun e=>AK e.symm)];exact c1
   ·show j3 z T' u (aZ m.ls i L j);rw [aq _ _ AK];exact (c2.aG hu).lift hT
 ·by_cases AK:j=i
  ·subst AK;show (aZ m.ca j none j=none→aZ F j none j=none)∧∀ X,aZ m.ca j none j=some X→_;rw [az,az];exact ⟨fun _=>rfl,fun X hX=>by cases hX⟩
  ·show (aZ m.ca i none j=none→aZ F i none j=none)∧∀ X,aZ m.ca i none j=some X→∃ v,aZ F i none j=some v∧_;rw [aq _ _ AK,aq _ _ AK];refine ⟨(hF j).1,fun X hX=>?_⟩;obtain ⟨u,c1,c2⟩:=(hF j).2 X hX;exact ⟨u,c1,(c2.aG hu).lift hT⟩
 ·show aZ m.ca i none j=none;rw [aq _ _ (by have:m.n≤j:=hj;omega)];exact o3 j hj
 ·show (aZ m.ls i L j).length≤1024;by_cases AK:j=i
  ·rw [AK,az];exact hL
  ·rw [aq _ _ AK];exact o5 j
 ·by_cases AK:j=i
  ·rw [AK] at hX;have Cx:aZ m.ca i none i=some X:=hX;rw [az] at Cx;cases Cx
  ·have Cx:aZ m.ca i none j=some X:=hX;rw [aq _ _ AK] at Cx;exact o6 j X Cx
theorem aJ.afQ (h:aJ y T d lb rb cb m) (hT:∀ g,T g→T' g) (ht:∀ g,T' g→g<z.heap.size) (hm:Mv [d,cb] y z) (hr:z.heap[d]?=qo #[.slice (some ⟨lb,0,none⟩) m.n m.n,.map (some cb),.slice (some ⟨rb,0,none⟩) m.n m.n,.int .i64 ((m.wr+1:Nat):Int),.int .i64 m.left,.bool m.down] 74)
  (hF:iU y T m F) (hc:bM z cb (m.wr+1) (aZ F i (some v))) (hi:i<m.n) (hs:j3 z T' v L) (hL:L.length≤1024):aJ z T' d lb rb cb { m with ca:=aZ m.ca i (some L),wr:=m.wr+1 }:=by
 have J4:Mv [d,lb,rb,cb] y z:=hm.more (fun k hk=>by simp at hk ⊢;rcases hk with rfl | rfl<;>simp);have hu:=h.u8 J4;have ne:=h.ne;have lt:=h.lt;have Mu:=h.top;obtain ⟨A,a1,a2,a3⟩:=h.cI;obtain ⟨o1,o2,o3,o4,o5,o6⟩:=h.ok;refine ⟨⟨hT _ lt.1,hT _ lt.2.1,hT _ lt.2.2.1,hT _ lt.2.2.2⟩,ht,hr,⟨A,(hm.block lb (Mu _ lt.2.1) (by simp;omega)).trans a1,a2,fun j hj=>?_⟩,⟨_,hc,fun j=>?_⟩,(hm.block rb (Mu _ lt.2.2.1) (by simp;omega)).trans h.rds,⟨o1,o2,fun j hj=>?_,o4,o5,fun j X hX=>?_⟩⟩
 ·obtain ⟨u,c1,c2⟩:=a3 j hj;exact ⟨u,c1,(c2.aG hu).lift hT⟩
 ·by_cases AK:j=i
  ·subst AK;show (aZ m.ca j (some L) j=none→aZ F j (some v) j=none)∧∀ X,aZ m.ca j (some L) j=some X→∃ u,aZ F j (some v) j=some u∧_;rw [az,az];exact ⟨fun q=>(by cases q),fun X hX=>(by cases hX;exact ⟨v,rfl,hs⟩)⟩
  ·show (aZ m.ca i (some L) j=none→aZ F i (some v) j=none)∧∀ X,aZ m.ca i (some L) j=some X→∃ u,aZ F i (some v) j=some u∧_;rw [aq _ _ AK,aq _ _ AK];refine ⟨(hF j).1,fun X hX=>?_⟩;obtain ⟨u,c1,c2⟩:=(hF j).2 X hX;exact ⟨u,c1,(c2.aG hu).lift hT⟩
 ·show aZ m.ca i (some L) j=none;rw [aq _ _ (by have:m.n≤j:=hj;omega)];exact o3 j hj
 ·by_cases AK:j=i
  ·rw [AK] at hX;have Cx:aZ m.ca i (some L) i=some X:=hX;rw [az] at Cx;cases Cx
   exact hL
  ·have Cx:aZ m.ca i (some L) j=some X:=hX;rw [aq _ _ AK] at Cx;exact o6 j X Cx
end
def oG (T:Nat→Prop) (d lb rb cb:Nat) (v:Value) (m':Dk.M) (w:World) (e:Ending) (w':World):Prop:=e = .returned v∧Hid (aJ w' T d lb rb cb m')∧Hid (Mv [d,lb,rb,cb] w w')
namespace Dk
def settle (m:M) (i:Nat):M:={ m with ls:=aZ m.ls i ((m.ca i).getD []),ca:=aZ m.ca i none }
end Dk
theorem ow.mv {w z:World} (h:ow w z) (ks:List Nat):Mv ks w z:=⟨h.os,h.tape,h.output,by rw [h.heap];exact Nat.le_refl _,fun k _ _=>by rw [h.heap]⟩
theorem ow.map {w z:World} {b k:Nat} {F:Nat→Option Value} (h:ow w z) (hm:bM w b k F):bM z b k F:=hm.aG (by rw [h.heap])
section
variable {T:Nat→Prop} {d lb rb cb:Nat} {m:Dk.M}
theorem vm (i:Nat) (w:World) (hd:aJ w T d lb rb cb m) (hi:i<m.n) (hc:(m.ca i).isSome=true) :
  qc 78 #[qp d,.int .i64 (i:Int)] w (oG T d lb rb cb (.tuple #[]) (Dk.settle m i) w):=by
 obtain ⟨c0,c1,_⟩:=hd.cells;obtain ⟨A,a1,a2,a3⟩:=hd.cI;obtain ⟨F,b1,b2⟩:=hd.csh;obtain ⟨L,hL⟩:∃ L,m.ca i=some L:=Option.isSome_iff_exists.1 hc;obtain ⟨v,hv,hs⟩:=(b2 i).2 L hL;obtain ⟨p,c,rfl,_⟩:=hs.bs;have ne:=hd.ne;have n2:=hd.ok.n2;refine (nm i m.n p L.length c hi w (fun y=>Hid (aJ y T d lb rb cb (Dk.settle m i))∧Hid (Mv [d,lb,rb,cb] w y)) c0 c1 ne.1 A a1 a2 (fun z hz=>?_) (fun z ty hz=>?_)).mono (fun e y h=>⟨h.1,h.2.1,h.2.2⟩)
 ·have h:=(hz.map b1).afk Tryz.gZ i (by omega);rw [hv] at h;exact h
 ·have Bn:=heap_setCell_same w lb i A 22 (.slice p L.length c) a1;have m1:Mv [lb,cb] w (w.setCell ⟨lb,i,none⟩ (.slice p L.length c)):=(Mv.refl _ _).setCell _ _ (by simp);have m2:Mv [lb,cb] w z:=m1.trans (hz.mv _);have Pc:bM z cb m.wr F:=hz.map (b1.aG (heap_setCell_other w ⟨lb,i,none⟩ cb _ (fun e=>ne.2.2.2.2.1 e.symm)));obtain ⟨y,Am,AP,ht⟩:=Pc.drop Tryz.gZ i (by omega) ty;have m3:Mv [lb,cb] w y:=m2.trans (Mv.kf ht (by simp));have m4:Mv [d,lb,rb,cb] w y:=m3.more (fun k hk=>by simp at hk ⊢;rcases hk with rfl | rfl<;>simp);have Fz:y.heap[lb]?=qo (A.setIfInBounds i (.slice p L.length c)) 22:=by
   rw [ht.grown.block lb (by rw [hz.heap];exact lt_of_block Bn) (fun e=>ne.2.2.2.2.1 (Option.some.inj e)),hz.heap];exact Bn
  refine ⟨y,Am,qh ?_,qh m4⟩;have:=hd.put (fun _ h=>h) (fun g hg=>Nat.lt_of_lt_of_le (hd.top g hg) m3.size) m3 a1 Fz b2 AP hi (hs.aG (hd.u8 m4)) (hd.ok.cab i L hL);unfold Dk.settle;rw [hL];exact this
end
end
section
open Go.RowKit
namespace Dk
def kE (m:M) (i:Int) (L:List Int):Int:=if m.down then 12 else if fault m i L ≠ 0 then fault m i L else aM m
def gY (m:M) (i:Int) (L:List Int):M:=if m.down then m else if fault m i L ≠ 0 then m else if gone m then aK m else { aK m with ca:=aZ m.ca i.toNat (some L),wr:=m.wr+1 }
theorem jA (m:M):(aK m).n=m.n:=by unfold aK;split<;>rfl
theorem nf (m:M):(aK m).ca=m.ca:=by unfold aK;split<;>rfl
theorem mG (m:M):(aK m).rd=m.rd:=by unfold aK;split<;>rfl
theorem fS (m:M):(aK m).wr=m.wr:=by unfold aK;split<;>rfl
theorem gE {m:M} {i:Int} (h:here m i=true):∃ j:Nat,i=(j:Int)∧j<m.n:=by
 unfold here at h;simp at h;exact ⟨i.toNat,by omega,by omega⟩
theorem fX {m:M} {i:Int} {L:List Int} (h:fault m i L=0):here m i=true∧L.length≤1024:=by
 unfold fault at h;cases hh:here m i with
 | false=>rw [hh] at h;simp at h
 | true =>
  rw [hh] at h;by_cases hl:1024<L.length
  ·simp [hl] at h
  ·exact ⟨rfl,by omega⟩
end Dk
def Own (T:Nat→Prop) (w w':World):Nat→Prop:=fun g=>T g∨(w.heap.size≤g∧g<w'.heap.size)
def aev (T:Nat→Prop) (d lb rb cb:Nat) (v:Value) (m':Dk.M) (w:World) (e:Ending) (w':World):Prop:=e = .returned v∧Hid (aJ w' (Own T w w') d lb rb cb m')∧Hid (Mv [d,lb,rb,cb] w w')
section
variable {T:Nat→Prop} {d lb rb cb:Nat} {m:Dk.M}
theorem aJ.own {w y:World} (h:aJ y T d lb rb cb m):aJ y (Own T w y) d lb rb cb m:=h.lift (fun _ h=>Or.inl h) (fun g hg=>by
 rcases hg with h1 | h1
 ·exact h.top g h1
 ·exact h1.2)
theorem y5 (i:Int) (L:List Int) (p:Option Addr) (n c:Nat) (hn:L.length=n) (Iu:n≤1000000) (CG:m.wr≤1000000000) (w:World) (hd:aJ w T d lb rb cb m) (hb:Bs w p c L) :
  qc 68 #[qp d,.int .i64 i,.slice p n c] w (aev T d lb rb cb (.int .i64 (Dk.kE m i L)) (Dk.gY m i L) w):=by
 obtain ⟨c0,c1,c2,c3,c4,c5⟩:=hd.cells;clear c0 c1 c2 c3 c4;have HD:=qh hd;clear hd;have HB:=qh hb;clear hb;cases BX:m.down with
 | true =>
  have e1:Dk.kE m i L=12:=by unfold Dk.kE;rw [if_pos BX]
  have e2:Dk.gY m i L=m:=by unfold Dk.gY;rw [if_pos BX]
  rw [BX] at c5;go_enter func68,ntmps68;go_wp2;go_ret;refine ⟨by first | rfl | (rw [e1];rfl),qh ?_,qh (Mv.refl _ _)⟩;rw [e2];exact HD.out.own
 | false =>
  rw [BX] at c5;by_cases hf:Dk.fault m i L=0
  ·obtain ⟨hh,hL⟩:=Dk.fX hf;obtain ⟨j,rfl,hj⟩:=Dk.gE hh;cases hg:Dk.gone m with
   | true =>
    have e1:Dk.kE m j L=12:=by unfold Dk.kE Dk.aM;rw [BX,if_neg (by decide),if_neg (by rw [hf];decide),if_pos hg]
    have e2:Dk.gY m j L=Dk.aK m:=by unfold Dk.gY;rw [BX,if_neg (by decide),if_neg (by rw [hf];decide),if_pos hg]
    have e3:Dk.aM m=12:=by unfold Dk.aM;rw [if_pos hg]
    go_enter func68,ntmps68;go_wp2_with (first
     | (go_at_call 76;refine (fV _ L p n c hn _ HD.out).mono ?_;rw [hf];rintro e w1 ⟨rfl,rfl⟩)
     | (go_at_call 77;refine (iF _ HD.out).mono ?_;rw [e3];rintro e w2 ⟨rfl,Cv,AP⟩;have AX:=qh AP;clear AP))
    go_ret;refine ⟨by first | rfl | (rw [e1];rfl),qh ?_,qh (AX.out.more (fun k hk=>by simp at hk ⊢;exact Or.inl hk))⟩;rw [e2];exact Cv.out.own
   | false =>
    have e1:Dk.kE m j L=0:=by unfold Dk.kE Dk.aM;rw [BX,if_neg (by decide),if_neg (by rw [hf];decide),hg];rfl
    have e2:Dk.gY m j L = { Dk.aK m with ca:=aZ (Dk.aK m).ca j (some L),wr:=(Dk.aK m).wr+1 }:=by unfold Dk.gY;rw [BX,if_neg (by decide),if_neg (by rw [hf];decide),hg,Dk.nf,Dk.fS];rfl
    have e3:Dk.aM m=0:=by unfold Dk.aM;rw [hg];rfl
    obtain ⟨m2,hm2e⟩:∃ m2,Hid (Dk.aK m=m2):=⟨_,rfl⟩;have h0:(0:Int)≤(j:Int):=by omega
    have Nl:j<m2.n:=by rw [← hm2e.out,Dk.jA];exact hj
    have PD:m2.wr≤1000000000:=by rw [← hm2e.out,Dk.fS];exact CG
    go_enter func68,ntmps68;go_upto_region 9 with (first
     | (go_at_call 76;refine (fV _ L p n c hn _ HD.out).mono ?_;rw [hf];rintro e w1 ⟨rfl,rfl⟩)
     | (go_at_call 77;refine (iF _ HD.out).mono ?_;rw [e3];rintro e w2 ⟨rfl,Cv,Md⟩;rw [hm2e.out] at Cv;have AX:=qh Md;clear Md))
    have Bl:Hid (Bs w2.drew p c L):=(HD.out.bs HB.out (AX.out.more (fun k hk=>by simp at hk ⊢;exact Or.inl hk))).drew;have AL:=qh Cv.out;have k1:=Cv.out.cells.2.1;have k3:=Cv.out.cells.2.2.2.1;clear Cv;obtain ⟨F,DN,Dw⟩:=AL.out.csh;have HF:=qh (show bM w2 cb m2.wr F∧iU w2 T m2 F from ⟨DN,Dw⟩);clear DN Dw;go_region_held3 (fun y=>y.cell? ⟨d,1,none⟩=some (.map (some cb)))
     (first | exact k1 | exact kb.out | exact kc.out)
     ((go_at_call 50;refine (gm L p n c hn Iu _ Bl.out).mono ?_;rintro e w4 ⟨v4,rfl,BM,AJ⟩;have B4:Hid (qw w2 w4):=((Below.refl _ w2).drew).trans AJ;have O4:=qh BM;have kb:Hid (w4.cell? ⟨d,1,none⟩=some (.map (some cb))):=(B4.out.cell (World.block_lt_of_cell? _ _ k1)).trans k1;obtain ⟨w5,Am,Fg,Fj⟩:=(HF.out.1.aG (B4.out.block _ HF.out.1.lt)).store Tryz.gZ j (by have:=AL.out.ok.n2;omega) v4 (by unfold maxLen;omega);have II:=qh Fg;have Ip:=qh Fj;have kc:Hid (w5.cell? ⟨d,1,none⟩=some (.map (some cb))):=(World.cell?_of_block (Fj.grown.block d (World.block_lt_of_cell? _ _ kb.out) (fun e=>AL.out.ne.2.2.1 (Option.some.inj e)))).trans kb.out;clear Fg Fj BM AJ))
    have Ae:=AL.out.top _ AL.out.lt.1;have Ma:=AL.out.top _ AL.out.lt.2.2.2;have Ns:=AL.out.ne.2.2.1;have M5:Hid (Mv [d,cb] w2 w5):=(Mv.aB B4.out).trans (Mv.kf Ip.out (by simp));have r5:Hid (w5.heap[d]?=w2.heap[d]?):=(Ip.out.grown.block d (Nat.lt_of_lt_of_le Ae B4.out.size) (fun e=>Ns (Option.some.inj e))).trans (B4.out.block d Ae);have R5:=qh (r5.out.trans AL.out.row);have c3:w5.cell? ⟨d,3,none⟩=some (.int .i64 (m2.wr:Int)):=by rw [cell_of_row w5 d 3 _ _ _ R5.out];rfl
    have f3:=frozen_of_row w5 d 3 _ _ R5.out;have Aq:IntKind.i64.wrap ((m2.wr:Int)+1)=(m2.wr:Int)+1:=IntWalk.i64_in _ ⟨by omega,by omega⟩;clear k1 k3 kb kc r5;go_wp2;go_ret;have Bn:=heap_setCell_same w5 d 3 _ _ (.int .i64 ((m2.wr:Int)+1)) R5.out;have M6:Mv [d,cb] w2 (w5.setCell ⟨d,3,none⟩ (.int .i64 ((m2.wr:Int)+1))):=M5.out.setCell _ _ (by simp);have M7:Mv [d,lb,rb,cb] w1 (w5.setCell ⟨d,3,none⟩ (.int .i64 ((m2.wr:Int)+1))):=(AX.out.more (fun k hk=>by simp at hk ⊢;exact Or.inl hk)).trans (M6.more (fun k hk=>by simp at hk ⊢;rcases hk with rfl | rfl<;>simp));refine ⟨by first | rfl | (rw [e1];rfl),qh ?_,qh M7⟩;rw [e2,hm2e.out];have hO:=O4.out;have Gp:∀ g,v4.ownBlock=some g→w2.heap.size≤g∧g<w4.heap.size:=fun g hg=>hO.lt g hg;have hk:∀ g,v4.ownBlock=some g→(w5.setCell ⟨d,3,none⟩ (.int .i64 ((m2.wr:Int)+1))).heap[g]?=w4.heap[g]?:=fun g hg=>by
     have h:=Gp g hg;rw [heap_setCell_other w5 ⟨d,3,none⟩ g _ (show g ≠ d by omega)];exact Ip.out.grown.block g h.2 (fun e=>by have:=Option.some.inj e;omega)
    have Bj:w4.heap.size≤(w5.setCell ⟨d,3,none⟩ (.int .i64 ((m2.wr:Int)+1))).heap.size:=by have:=Ip.out.grown.size;simp;exact this
    have h12:=AX.out.size;refine AL.out.afQ (fun _ h=>Or.inl h) (fun g hg=>?_) M6 (by rw [Bn];simp) HF.out.2 (II.out.aG (heap_setCell_other w5 ⟨d,3,none⟩ cb _ (fun e=>Ns e.symm))) Nl ?_ hL
    ·rcases hg with h | h
     ·exact Nat.lt_of_lt_of_le (AL.out.top g h) M6.size
     ·exact h.2
    ·refine ⟨fc ?_ hk,HB.out.bat.1,fun g hg=>Or.inr ?_⟩
     ·rw [hn];exact ei hO (Nat.zero_le _)
     ·have h:=Gp g hg;exact ⟨by omega,by omega⟩
  ·have e1:Dk.kE m i L=Dk.fault m i L:=by unfold Dk.kE;rw [BX,if_neg (by decide),if_pos hf]
   have e2:Dk.gY m i L=m:=by unfold Dk.gY;rw [BX,if_neg (by decide),if_pos hf]
   have OP:(Dk.fault m i L==0)=false:=by simpa using hf
   go_enter func68,ntmps68;go_wp2_with (go_at_call 76;refine (fV _ L p n c hn _ HD.out).mono ?_;rintro e w1 ⟨rfl,rfl⟩)
   go_ret;refine ⟨by first | rfl | (rw [e1];rfl),qh ?_,qh (Mv.refl _ _)⟩;rw [e2];exact HD.out.own
end
end
section
open Go.RowKit
namespace Dk
def iX (m:M) (i:Int) (L:List Int):M:=if fault m i L=0 then { m with ls:=aZ m.ls i.toNat L,ca:=aZ m.ca i.toNat none } else m
def fC (m:M) (i:Int):Int:=if here m i then 0 else 7
def cG (m:M) (j:Nat):List Int:=(m.ca j).getD (m.ls j)
def bK (m:M) (i:Int):List Int:=if here m i then cG m i.toNat else []
def dG (m:M) (i:Int):M:=if here m i then { m with rd:=aZ m.rd i.toNat (m.rd i.toNat+1) } else m
end Dk
section
variable {T:Nat→Prop} {d lb rb cb:Nat} {m:Dk.M}
theorem uF (i:Int) (L:List Int) (p:Option Addr) (n c:Nat) (hn:L.length=n) (Iu:n≤1000000) (w:World) (hd:aJ w T d lb rb cb m) (hb:Bs w p c L) :
  qc 35 #[qp d,.int .i64 i,.slice p n c] w (aev T d lb rb cb (.int .i64 (Dk.fault m i L)) (Dk.iX m i L) w):=by
 by_cases hf:Dk.fault m i L=0
 ·obtain ⟨hh,hL⟩:=Dk.fX hf;obtain ⟨j,rfl,hj⟩:=Dk.gE hh;have e2:Dk.iX m j L = { m with ls:=aZ m.ls j L,ca:=aZ m.ca j none }:=by unfold Dk.iX;rw [if_pos hf];rfl
  have k0:=hd.cells.1;obtain ⟨A,Fv,CD,_⟩:=hd.cI;obtain ⟨F,DN,Dw⟩:=hd.csh;have HF:=qh (show bM w cb m.wr F∧iU w T m F from ⟨DN,Dw⟩);have HA:=qh Fv;have Aw:=qh CD;have HD:=qh hd;have HB:=qh hb;have ML:=qh hb.drew;have EM:(0:Int)≤(j:Int):=by omega
  have Dq:(j:Int)<(m.n:Int):=by omega
  have ne:=hd.ne;have Ea:=qh hd.ne;have OY:=hd.top _ hd.lt.2.1;have Ma:=hd.top _ hd.lt.2.2.2;have OZ:=hd.top _ hd.lt.1;have C0:=hd.ok.n2;obtain ⟨a0,Oz⟩:∃ a0,A[j]?=some a0:=⟨A[j]'(by omega),Array.getElem?_eq_getElem _⟩;clear hd hb Fv CD DN Dw ne;go_enter func35,ntmps35;go_upto_region 4 with (go_at_call 76;refine (fV _ L p n c hn _ HD.out).mono ?_;rw [hf];rintro e w1 ⟨rfl,rfl⟩)
  go_region_held3 (fun y=>y.cell? ⟨d,0,none⟩=some (.slice (some ⟨lb,0,none⟩) m.n m.n))
   (first | exact k0 | exact kb.out | exact kc.out _)
   ((go_at_call 50;refine (gm L p n c hn Iu _ ML.out).mono ?_;rintro e w4 ⟨v4,rfl,BM,AJ⟩;obtain ⟨p4,c4,rfl,_,_⟩:=bH BM HB.out.bat.1;have B4:Hid (qw w1 w4):=((Below.refl _ w1).drew).trans AJ;have O4:=qh BM;have kb:Hid (w4.cell? ⟨d,0,none⟩=some (.slice (some ⟨lb,0,none⟩) m.n m.n)):=(B4.out.cell (World.block_lt_of_cell? _ _ k0)).trans k0;have NK:Hid (w4.heap[lb]?=qo A 22):=(B4.out.block _ OY).trans HA.out;have t4:w4.cell? ⟨lb,j,none⟩=some a0:=(cell_of_row w4 lb j _ _ _ NK.out).trans Oz;have f4:=frozen_of_row w4 lb j _ _ NK.out;have kc:Hid (∀ u,(w4.setCell ⟨lb,j,none⟩ u).cell? ⟨d,0,none⟩=some (.slice (some ⟨lb,0,none⟩) m.n m.n)):=fun u=>(World.cell?_of_block (heap_setCell_other w4 ⟨lb,j,none⟩ d _ Ea.out.1)).trans kb.out;clear BM AJ))
  obtain ⟨w5,Ft⟩:∃ y:World,Hid (w4.setCell ⟨lb,j,none⟩ (.slice p4 n c4)=y):=⟨_,rfl⟩;have Bn:=heap_setCell_same w4 lb j _ _ (.slice p4 n c4) NK.out;have M5:Hid (Mv [lb,cb] w1 w5):=by show Mv _ _ _;rw [← Ft.out];exact (Mv.aB B4.out).setCell _ _ (by simp)
  have O5:Hid (∀ k,k ≠ lb→w5.heap[k]?=w4.heap[k]?):=fun k hk=>by rw [← Ft.out];exact heap_setCell_other w4 ⟨lb,j,none⟩ k _ hk
  have S5:Hid (w4.heap.size≤w5.heap.size):=by show _≤_;rw [← Ft.out];simp
  rw [Ft.out] at Bn ⊢;have L5:=qh Bn;have k1:w5.cell? ⟨d,1,none⟩=some (.map (some cb)):=(World.cell?_of_block ((O5.out d Ea.out.1).trans (B4.out.block d OZ))).trans HD.out.cells.2.1;have Sf:Hid (bM w5 cb m.wr F):=HF.out.1.aG ((O5.out cb (fun e=>Ea.out.2.2.2.2.1 e.symm)).trans (B4.out.block cb Ma));clear Ft Bn k0 kb kc t4 f4;go_wp2_with (at_delete;obtain ⟨w6,Am,Fg,Fj⟩:=Sf.out.drop Tryz.gZ j (by omega) _;refine gk rfl _ _ _ _ rfl cb _ rfl rfl w6 Am ?_;have II:=qh Fg;have Ip:=qh Fj;clear Fg Fj Am)
  go_ret;have M6:Mv [lb,cb] w1 w6:=M5.out.trans (Mv.kf Ip.out (by simp));have M7:Mv [d,lb,rb,cb] w1 w6:=M6.more (fun k hk=>by simp at hk ⊢;rcases hk with rfl | rfl<;>simp);have hO:=O4.out;have Gp:∀ g,(Value.slice p4 n c4).ownBlock=some g→w1.heap.size≤g∧g<w4.heap.size:=fun g hg=>by
   have h:=hO.lt g (by rw [hn];exact hg);exact h
  have hk:∀ g,(Value.slice p4 n c4).ownBlock=some g→w6.heap[g]?=w4.heap[g]?:=fun g hg=>by
   have h:=Gp g hg;have h2:=S5.out;exact (Ip.out.grown.block g (by omega) (fun e=>by have:=Option.some.inj e;omega)).trans (O5.out g (by omega))
  have Bj:=Ip.out.grown.size;refine ⟨by rw [hf];rfl,qh ?_,qh M7⟩;rw [e2];refine HD.out.put (fun _ h=>Or.inl h) (fun g hg=>?_) M6 HA.out ((Ip.out.grown.block lb (lt_of_block L5.out) (fun e=>Ea.out.2.2.2.2.1 (Option.some.inj e))).trans L5.out) HF.out.2 II.out hj ?_ hL
  ·rcases hg with h | h
   ·exact Nat.lt_of_lt_of_le (HD.out.top g h) M6.size
   ·exact h.2
  ·refine ⟨fc (v:=.slice p4 n c4) ?_ hk,HB.out.bat.1,fun g hg=>Or.inr ?_⟩
   ·rw [hn];have h:=ei hO (Nat.zero_le _);rw [hn] at h;exact h
   ·have h:=Gp g hg;have h2:=S5.out;exact ⟨by omega,by omega⟩
 ·have e2:Dk.iX m i L=m:=by unfold Dk.iX;rw [if_neg hf]
  have OP:(Dk.fault m i L==0)=false:=by simpa using hf
  have HD:=qh hd;clear hd;go_enter func35,ntmps35;go_wp2_with (go_at_call 76;refine (fV _ L p n c hn _ HD.out).mono ?_;rintro e w1 ⟨rfl,rfl⟩)
  go_ret;refine ⟨rfl,qh ?_,qh (Mv.refl _ _)⟩;rw [e2];exact HD.out.own
def uA (T:Nat→Prop) (d lb rb cb:Nat) (m:Dk.M) (i:Int) (w:World) (e:Ending) (w':World):Prop:=∃ v,e = .returned (.tuple #[v,.int .i64 (Dk.fC m i)])∧Hid (w'.ownsRow w.heap.size 5 1 v (Dk.bK m i).length (aC (Dk.bK m i))∧ai.aY (Dk.bK m i))∧Hid (aJ w' T d lb rb cb (Dk.dG m i))∧Hid (Mv [d,lb,rb,cb] w w')
theorem aJ.counted {y z:World} {j:Nat} (h:aJ y T d lb rb cb m) (hm:Mv [rb] y z) (hr:z.heap[rb]?=qo (((List.range m.n).map fun i=>Value.int .i64 (m.rd i:Int)).toArray.setIfInBounds j (.int .i64 ((m.rd j:Int)+1))) 3) (hj:j<m.n) :
  aJ z T d lb rb cb { m with rd:=aZ m.rd j (m.rd j+1) }:=by
 have ne:=h.ne;have lt:=h.lt;have J4:Mv [d,lb,rb,cb] y z:=hm.more (fun k hk=>by simp at hk ⊢;subst hk;simp);have hu:=h.u8 J4;have key:∀ g,T g→g ≠ rb→z.heap[g]?=y.heap[g]?:=fun g hg hn=>hm.block g (h.top g hg) (by simpa using hn);obtain ⟨A,a1,a2,a3⟩:=h.cI;obtain ⟨F,b1,b2⟩:=h.csh;obtain ⟨o1,o2,o3,o4,o5,o6⟩:=h.ok;refine ⟨lt,fun g hg=>Nat.lt_of_lt_of_le (h.top g hg) hm.size,(key d lt.1 ne.2.1).trans h.row,⟨A,(key lb lt.2.1 ne.2.2.2.1).trans a1,a2,fun i hi=>?_⟩,⟨F,b1.aG (key cb lt.2.2.2 (fun e=>ne.2.2.2.2.2 e.symm)),fun i=>⟨(b2 i).1,fun L hL=>?_⟩⟩,?_,⟨o1,o2,o3,o4,o5,o6⟩⟩
 ·obtain ⟨v,c1,c2⟩:=a3 i hi;exact ⟨v,c1,c2.aG hu⟩
 ·obtain ⟨v,c1,c2⟩:=(b2 i).2 L hL;exact ⟨v,c1,c2.aG hu⟩
 ·rw [hr];congr 2;apply Array.ext_getElem?
  intro k;by_cases I8:k=j
  ·subst I8;rw [Array.getElem?_setIfInBounds_self_of_lt (by simpa using hj)];simp [hj,az]
  ·rw [Array.getElem?_setIfInBounds_ne (fun e=>I8 e.symm)];by_cases hk:k<m.n
   ·simp [hk,aq _ _ I8]
   ·simp [hk]
theorem nI (i:Int) (w:World) (hd:aJ w T d lb rb cb m) (CA:∀ j,m.rd j≤1000000000) :
  qc 16 #[qp d,.int .i64 i] w (uA T d lb rb cb m i w):=by
 cases hh:Dk.here m i with
 | false =>
  have e1:Dk.fC m i=7:=by unfold Dk.fC;rw [hh];rfl
  have e2:Dk.bK m i = []:=by unfold Dk.bK;rw [hh];rfl
  have e3:Dk.dG m i=m:=by unfold Dk.dG;rw [hh];rfl
  have HD:=qh hd;clear hd;go_enter func16,ntmps16;go_wp2_with (go_at_call 49;refine (iz i _ HD.out).mono ?_;rw [hh];rintro e w1 ⟨rfl,rfl⟩)
  go_ret2;refine ⟨.slice none 0 0,by rw [e1];rfl,qh ?_,qh ?_,qh (Mv.refl _ _)⟩
  ·rw [e2];exact ⟨by unfold aC;exact World.ownsRow_nil _ _ _ _,fun x hx=>by simp at hx⟩
  ·rw [e3];exact HD.out
 | true =>
  obtain ⟨j,rfl,hj⟩:=Dk.gE hh;have e1:Dk.fC m j=0:=by unfold Dk.fC;rw [hh];rfl
  have e2:Dk.bK m j=Dk.cG m j:=by unfold Dk.bK;rw [hh];rfl
  have e3:Dk.dG m j = { m with rd:=aZ m.rd j (m.rd j+1) }:=by unfold Dk.dG;rw [hh];rfl
  have k2:=hd.cells.2.2.1;have ne:=hd.ne;have c2:w.cell? ⟨rb,j,none⟩=some (.int .i64 (m.rd j:Int)):=by
   rw [cell_of_row w rb j _ _ _ hd.rds];simp [hj]
  have f2:=frozen_of_row w rb j _ _ hd.rds;have Aq:IntKind.i64.wrap ((m.rd j:Int)+1)=(m.rd j:Int)+1:=IntWalk.i64_in _ (by have:=CA j;constructor<;>omega);have EM:(0:Int)≤(j:Int):=by omega
  have Dq:(j:Int)<(m.n:Int):=by omega
  obtain ⟨w2,Ba⟩:∃ y:World,Hid (w.setCell ⟨rb,j,none⟩ (.int .i64 ((m.rd j:Int)+1))=y):=⟨_,rfl⟩;have M2:Hid (Mv [rb] w w2):=by show Mv _ _ _;rw [← Ba.out];exact (Mv.refl _ _).setCell _ _ (by simp)
  have D2:Hid (aJ w2 T d lb rb cb { m with rd:=aZ m.rd j (m.rd j+1) }):=by
   refine hd.counted M2.out ?_ hj;rw [← Ba.out];exact heap_setCell_same w rb j _ _ _ hd.rds
  have HD:=qh hd;clear hd;have k0:=D2.out.cells.1;have k1:=D2.out.cells.2.1;have M4:Hid (Mv [d,lb,rb,cb] w w2):=M2.out.more (fun k hk=>by simp at hk ⊢;subst hk;simp);obtain ⟨F,DN,Dw⟩:=D2.out.csh;obtain ⟨A,Fv,CD,De⟩:=D2.out.cI;have GR:=DN.look Tryz.gZ j (by have:=HD.out.ok.n2;omega);cases hc:m.ca j with
  | some L =>
   obtain ⟨v,hv,hs⟩:=(Dw j).2 L hc;obtain ⟨p,c,rfl,hb⟩:=hs.bs;have e4:Dk.cG m j=L:=by unfold Dk.cG;rw [hc];rfl
   have SC:L.length≤1024:=HD.out.ok.cab j L hc;rw [hv] at GR;dsimp only [Option.getD_some,Option.isSome_some] at GR;have HB:=qh hb;clear hb hs DN Dw Fv CD De ne;go_enter func16,ntmps16;go_upto_region 4 with (go_at_call 49;refine (iz _ _ HD.out).mono ?_;rw [hh];rintro e w1 ⟨rfl,rfl⟩)
   rw [Ba.out];go_wp2_with (go_at_call 50;refine (gm L p L.length c rfl (by omega) _ HB.out).mono ?_;rintro e w4 ⟨v4,rfl,BM,AJ⟩;have B4:Hid (qw w2 w4):=AJ;have O4:=qh BM;clear BM AJ)
   go_ret2;refine ⟨v4,by rw [e1];rfl,qh ?_,qh ?_,qh (M4.out.trans (Mv.aB B4.out))⟩
   ·rw [e2,e4];exact ⟨ei O4.out M2.out.size,HB.out.bat.1⟩
   ·rw [e3];exact D2.out.av B4.out
  | none =>
   obtain ⟨v,hv,hs⟩:=De j hj;obtain ⟨p,c,rfl,hb⟩:=hs.bs;have CN:({ m with rd:=aZ m.rd j (m.rd j+1) }:Dk.M).ls j=m.ls j:=rfl;have e4:Dk.cG m j=m.ls j:=by unfold Dk.cG;rw [hc];rfl
   have SC:(m.ls j).length≤1024:=HD.out.ok.lsb j;rw [(Dw j).1 hc] at GR;dsimp only [Option.getD_none,Option.isSome_none] at GR;have c6:w2.cell? ⟨lb,j,none⟩=some (.slice p (m.ls j).length c):=(cell_of_row w2 lb j _ _ _ Fv).trans hv;have HB:=qh (show Bs w2 p c (m.ls j) from hb);clear hb hs DN Dw Fv CD De ne hv CN;generalize m.ls j=L at *;go_enter func16,ntmps16;go_upto_region 4 with (go_at_call 49;refine (iz _ _ HD.out).mono ?_;rw [hh];rintro e w1 ⟨rfl,rfl⟩)
   rw [Ba.out];go_wp2_with (go_at_call 50;refine (gm L p L.length c rfl (by omega) _ HB.out).mono ?_;rintro e w4 ⟨v4,rfl,BM,AJ⟩;have B4:Hid (qw w2 w4):=AJ;have O4:=qh BM;clear BM AJ)
   go_ret2;refine ⟨v4,by rw [e1];rfl,qh ?_,qh ?_,qh (M4.out.trans (Mv.aB B4.out))⟩
   ·rw [e2,e4];exact ⟨ei O4.out M2.out.size,HB.out.bat.1⟩
   ·rw [e3];exact D2.out.av B4.out
end
end
section
open Go.RowKit
namespace Dk
def dl (m:M):List Nat:=(List.range m.n).filter fun i=>(m.ca i).isSome
theorem mN (m:M) (i:Nat):i∈dl m↔i<m.n∧(m.ca i).isSome=true:=by
 unfold dl;rw [List.mem_filter,List.mem_range]
theorem kg (m:M):(dl m).Pairwise (· < ·):=List.Pairwise.filter _ List.pairwise_lt_range
theorem zK (m:M):(dl m).Nodup:=(kg m).imp (fun h=>Nat.ne_of_lt h)
theorem zt (m:M):(dl m).length≤m.n:=by
 unfold dl;have:=List.length_filter_le (fun i=>(m.ca i).isSome) (List.range m.n)
 rwa [List.length_range] at this
theorem yN (m:M) (ks:List Nat) (hn:ks.Nodup) (hk:∀ i,i∈ks↔i∈dl m):((ks.map fun (k:Nat)=>(k:Int)).mergeSort fun x y=>decide (x≤y))=(dl m).map fun (k:Nat)=>(k:Int):=by
 have tr:∀ a b c:Int,decide (a≤b)=true→decide (b≤c)=true→decide (a≤c)=true:=fun a b c h1 h2=>by
  simp only [decide_eq_true_eq] at *;omega
 have tt:∀ a b:Int,(decide (a≤b)||decide (b≤a))=true:=fun a b=>by
  simp only [Bool.or_eq_true,decide_eq_true_eq];omega
 have hp:ks.Perm (dl m):=(List.perm_ext_iff_of_nodup hn (zK m)).2 hk;refine List.Perm.eq_of_pairwise (le:=fun a b=>decide (a≤b)=true) (fun a b _ _ h1 h2=>by simp only [decide_eq_true_eq] at h1 h2;omega) (List.pairwise_mergeSort tr tt _) ?_ ((List.mergeSort_perm _ _).trans (hp.map _));rw [List.pairwise_map];exact (kg m).imp (fun h=>by simp only [decide_eq_true_eq];omega)
end Dk
def kY (l:List Nat):List Value:=l.map fun (k:Nat)=>Value.int .i64 (k:Int)
theorem Tryz.mB:(prog.info? 3).map (fun i=>(i.zero,i.size,i.bytes))=some (some (.int .i64 0),1,8):=by kernel_rfl
theorem tR {ops:Array Oper} {rest:List Oper} {a:Act} {w:World} {Q:Exit→Act→World→Prop} {D:Option Tmp} {T:TypeId} {ps:String} {af:Array Edge} (s x:Operand) (B:Nat) (V:Value) (n:Nat) (L:List Nat) (ad:Addr) (y:Nat)
  (hs:a.eval s=V) (hx:a.eval x = .slice (some ad) 1 1) (ho:w.ownsRow B 3 1 V n (kY L)) (hc:w.cell? ad=some (.int .i64 (y:Int))) (hk:n≤1000000000000) (hB:B≤w.heap.size)
  (h:∀ v' w',w'.ownsRow B 3 1 v' (n+1) (kY (L++[y]))→w.grownBy w' V.ownBlock→wpList prog ops Q rest (a.put D v') w') :
  wpList prog ops Q ({ dst:=D,op:=.call { callee:=.builtin .append,args:=#[s,x],argTypes:=#[46,46] },type:=T,pos:=ps,after:=af,guard:=none } :: rest) a w:=by
 obtain ⟨i0,hi,hz0,hz1,hz2⟩:=info_parts Tryz.mB;have JT:ad.add 0=ad:=by simp [Addr.add]
 refine wpList_append_own_at _ rfl s x 46 rfl B 3 i0 (.int .i64 0) 1 8 underlying46 hi hz0 hz1 hz2 rfl (by decide) V n (kY L) hs ho ad 1 1 [.int .i64 (y:Int)] hx rfl (fun j q hj=>?_) (fun u hu=>by simp at hu;subst hu;rfl) (by unfold maxLen;omega) (by omega) hB ?_
 ·rcases j with _ | j
  ·simp at hj;subst hj;rw [JT];exact hc
  ·simp at hj
 ·intro v' w' h1 h2 _ h4;exact h v' w' (by unfold kY at *;rw [List.map_append];exact h1) h2
theorem fO {P:Program} {w:World} {ops:Array Oper} {rest:List Oper} {o:Oper} {a:Act} {Q:Exit→Act→World→Prop} (hg:o.guard=none) (x:Operand) (t:TypeId) (hop:o.op=Op.range t x) (mv:Value) (hm:a.eval x=mv) (v:Value) (y:World) (Am:(Instr.range t mv).run P w = .ok v y)
  (hK:wpList P ops Q rest (a.put o.dst v) y):wpList P ops Q (o :: rest) a w:=by
 refine wpList_plain hg fun K' Ge=>?_;unfold Oper.wp;simp [execOp,hop,hm,Am,Result.andThen];exact Ge _ _ hK
theorem cP {P:Program} {w:World} {ops:Array Oper} {rest:List Oper} {o:Oper} {a:Act} {Q:Exit→Act→World→Prop} (hg:o.guard=none) (it:Operand) (hop:o.op=Op.next it false) (iv:Value) (hm:a.eval it=iv) (v:Value) (y:World) (Am:(Instr.next iv false o.type).run P w = .ok v y)
  (hK:wpList P ops Q rest (a.put o.dst v) y):wpList P ops Q (o :: rest) a w:=by
 refine wpList_plain hg fun K' Ge=>?_;unfold Oper.wp;simp [execOp,hop,hm,Am,Result.andThen];exact Ge _ _ hK
def zE (m:Dk.M) (w:World) (e:Ending) (w':World):Prop:=∃ v,e = .returned v∧Hid (w'.ownsRow w.heap.size 3 1 v (Dk.dl m).length (kY (Dk.dl m)))∧qw w w'
section
variable {T:Nat→Prop} {d lb rb cb:Nat} {m:Dk.M}
theorem cH.grown {w y:World} {b r k cnt:Nat} {F:Nat→Option Value} {left:Nat→Bool} {B n:Nat} {e:TypeId} {v:Value} {xs:List Value} (h:cH w b r k F left cnt) (hg:w.grownBy y v.ownBlock) (ho:w.ownsRow B e 1 v n xs):cH y b r k F left cnt:=by
 have hl:=h.lt;have Fz:=h.map.lt;obtain ⟨es,clock,hb⟩:=h.map.isMap;have hr:=h.iter;obtain ⟨q1,q2,q3,q4,hr⟩:=hr;refine h.aG (hg.block b Fz (fun e=>?_)) (hg.block r hl.1 (fun e=>?_))
 ·obtain ⟨_,cur,h2⟩:=dY ho b e.symm;rw [hb] at h2;cases h2
 ·obtain ⟨_,cur,h2⟩:=dY ho r e.symm;rw [hr] at h2;cases h2
theorem xO (w:World) (hd:aJ w T d lb rb cb m) (CG:m.wr≤1000000000):qc 79 #[qp d] w (zE m w):=by
 have k1:=hd.cells.2.1;obtain ⟨F,DN,Dw⟩:=hd.csh;have C0:=hd.ok.n2;have Ih:=qh hd.ok.out;have HF:Hid (∀ i,(F i).isSome=(m.ca i).isSome):=fun i=>by
  cases h:m.ca i with
  | none=>rw [(Dw i).1 h];rfl
  | some L=>obtain ⟨v,hv,_⟩:=(Dw i).2 L h;rw [hv];rfl
 have HM:=qh DN;clear hd DN Dw;go_enter func79,ntmps79;go_wp2_with (at_range;obtain ⟨w1,cnt1,Am,Je,I4,CN,Qz⟩:=HM.out.range Tryz.gZ;refine fO rfl _ _ rfl _ rfl _ w1 Am ?_;have Ch:=qh Je;have B1:Hid (qw w w1):=(Below.refl _ w).grown I4 qn (fun _ e=>by cases e);have Ru:=qh Qz;clear Am Je I4 CN Qz)
 go_frame
 go_loopw [3,4] (fun v3 v4 wr=>∃ (ks:List Nat) (left:Nat→Bool) (cnt n:Nat),ks.length=n∧n+cnt≤cnt1∧Hid (wr.ownsRow w.heap.size 3 1 v3 n (kY ks))∧Hid (cH wr cb w.heap.size m.wr F left cnt)∧Hid (qw w wr)∧Hid (ks.Nodup∧∀ i,i∈ks↔(m.ca i).isSome=true∧left i=false)) (fun _ _ wr=>wr.rangeLeft cb w.heap.size)
 case atStart =>
  refine ⟨[],_,cnt1,0,rfl,by omega,qh (World.ownsRow_nil _ _ _ _),Ch,B1,qh ⟨List.nodup_nil,fun i=>?_⟩⟩;constructor
  ·intro h;simp at h
  ·rintro ⟨h1,h2⟩;have h3:=HF.out i;rw [h1] at h3;rw [h3] at h2;cases h2
 case round =>
  obtain ⟨ks,left,cnt,n,hn,Ns,HO,HR,HB,HK⟩:=hrel;rcases HR.out.next 0 with ⟨hl,Am⟩ | ⟨j,v,w2,cnt2,L8,Fw,Am,hj,Jf,Ae,DI,Ex,Fx⟩
  ·have Lu:Hid ((ks.map fun (k:Nat)=>(k:Int)).mergeSort (fun x y=>decide (x≤y))=(Dk.dl m).map fun (k:Nat)=>(k:Int)):=Dk.yN m ks HK.out.1 (fun i=>by
    rw [HK.out.2,Dk.mN];constructor
    ·rintro ⟨h1,_⟩;refine ⟨?_,h1⟩;by_cases q:i<m.n
     ·exact q
     ·rw [Ih.out i (by omega)] at h1;cases h1
    ·exact fun h=>⟨h.2,hl i⟩)
   have EY:Hid (n=(Dk.dl m).length):=by
    have h:=congrArg List.length Lu.out;simp only [List.length_mergeSort,List.length_map] at h;show n=_;omega
   clear hl;rcases HO.out.2 with ⟨rfl,h0⟩ | ⟨g,cap,cur,rfl,IZ,hb,h1,h2,h3,h4⟩
   ·have GS:=EY.out;go_wp2_with (first
     | (at_next;refine cP rfl _ rfl _ rfl _ _ Am ?_)
     | (go_at_call 124;refine (slices_Sort_int_none none 0 _).mono ?_;rintro e w5 ⟨rfl,rfl⟩))
    go_ret;have I2:Dk.dl m = []:=List.eq_nil_of_length_eq_zero (by omega);refine ⟨_,rfl,qh ?_,HB.out⟩;rw [I2];exact World.ownsRow_nil _ _ _ _
   ·have Bl:=qh IZ;have KN:=qh hb;have N4:=qh (show ks.length≤cap∧cap≤maxLen∧cur.size=cap*1 from ⟨by rw [hn];exact h1,h2,h3⟩);have F5:Hid (cur.toList.take ks.length=(ks.map fun (k:Nat)=>(k:Int)).map (Value.int .i64)):=by
     show _=_;rw [List.map_map,hn];rw [Nat.mul_one] at h4;exact h4
    have hc:=slices_Sort_int g 0 cap (ks.map fun (k:Nat)=>(k:Int)) wr (holds_of_blockI KN.out (by rw [List.length_map];exact F5.out)) (lt_of_block KN.out) (by have h:=EY.out;have h5:=Dk.zt m;rw [List.length_map];omega);rw [List.length_map,hn] at hc;have HC:=qh hc;clear hc IZ hb h1 h2 h3 h4;go_wp2_with (first
     | (at_next;refine cP rfl _ rfl _ rfl _ _ Am ?_)
     | (go_at_call 124;refine HC.out.mono ?_;rintro e w5 ⟨rfl,nn,os,rfl⟩))
    go_ret;have D4:=ownsRow_sortedI (w:=wr) (base:=w.heap.size) (n:=nn) (os:=os) (ss:=ks.map fun (k:Nat)=>(k:Int)) (ts:=(ks.map fun (k:Nat)=>(k:Int)).mergeSort fun x y=>decide (x≤y)) (by simp) Bl.out KN.out (by rw [List.length_map];exact N4.out.1) N4.out.2.1 N4.out.2.2;rw [Lu.out] at D4 ⊢;refine ⟨_,rfl,qh ?_,HB.out.grown (grownBy_sortedI _) HB.out.size (fun q hq=>by cases hq;exact Bl.out)⟩;rw [List.length_map,hn] at D4;rw [← EY.out];unfold kY;rw [List.map_map] at D4;exact D4
  ·have BS:=qh Jf;have B2:Hid (qw w w2):=HB.out.grown DI HB.out.size (fun q e=>by cases e;exact Nat.le_refl _);have O2:Hid (w2.ownsRow w.heap.size 3 1 u3 n (kY ks)):=fc HO.out (fun g hg=>by
    obtain ⟨_,cur,h2⟩:=dY HO.out g hg;refine DI.block g (lt_of_block h2) (fun e=>?_);obtain ⟨q1,q2,q3,q4,It⟩:=HR.out.iter;rw [← Option.some.inj e,h2] at It;cases It)
   have Du:Hid (w.heap.size≤w2.heap.size∧cnt1≤m.wr):=⟨B2.out.size,Ru.out⟩;have HX:Hid (qw w2 (w2.alloc (.cells #[.int .i64 (j:Int)] 3))):=qb _ _;have RW:Hid ((m.ca j).isSome=true):=by show _=true;rw [← HF.out j,Fw];rfl
   have NZ:=qh L8;have N1:=qh HR.out.left_eq;have MQ:=qh Ae;clear DI Ex Jf L8 Ae Fw;go_wp2_with (first
    | (at_next;refine cP rfl _ rfl _ rfl _ _ Am ?_)
    | (at_builtin;refine tR _ _ w.heap.size _ n ks ⟨w2.heap.size,0,none⟩ j rfl rfl (aN O2.out HX.out) (by rw [cell_of_row _ _ 0 _ _ _ (heap_alloc_new w2 _)];rfl) (by have:=Du.out;omega) (by have:=Du.out;simp;omega) ?_;intro v5 w5 CF CE;have HO5:=qh CF;have Di:=qh CE;clear CF CE))
   have R5:=(BS.out.aG (HX.out.block _ BS.out.map.lt) (HX.out.block _ BS.out.lt.1)).grown Di.out (aN O2.out HX.out);refine ⟨⟨ks++[j],_,cnt2,n+1,by simp [hn],by have:=MQ.out;omega,HO5,qh R5,qh ((B2.out.trans (HX.out.mono Du.out.1)).grown Di.out (by have:=Du.out.1;simp;omega) (fun q hq=>(O2.out.lt q hq).1)),qh ⟨?_,fun i=>?_⟩⟩,by rw [R5.left_eq,N1.out];exact MQ.out⟩
   ·refine List.nodup_append.2 ⟨HK.out.1,by simp,fun a ha b hb e=>?_⟩;simp at hb;subst hb;subst e;have h:=((HK.out.2 a).1 ha).2;rw [NZ.out] at h;cases h
   ·rw [List.mem_append,HK.out.2];by_cases CT:i=j
    ·subst CT;rw [az];simp [RW.out]
    ·rw [aq _ _ CT];simp [CT]
end
end
end Go.Proofs.YthgjfjmampmiiaaGreatDoor

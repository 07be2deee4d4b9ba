import Derived.Test.YthgjfjmampmiiaaGreatDoorRg4
namespace Go.Proofs.YthgjfjmampmiiaaGreatDoor
open Go.Proofs.Tryz
set_option maxHeartbeats 4000000
set_option maxRecDepth 100000
open Go.RowKit
namespace Rg
def bh (r:R):Nat→R
 | 0=>⟨0,0,0,dW,zr,0,0,0,0,dW,dW⟩
 | 1=>⟨r.gen,0,0,dW,zr,0,0,0,0,dW,dW⟩
 | 2=>⟨r.gen,r.st,0,dW,zr,0,0,0,0,dW,dW⟩
 | 3=>⟨r.gen,r.st,r.ep,dW,zr,0,0,0,0,dW,dW⟩
 | 4=>⟨r.gen,r.st,r.ep,r.su,zr,0,0,0,0,dW,dW⟩
 | 5=>⟨r.gen,r.st,r.ep,r.su,r.rt,0,0,0,0,dW,dW⟩
 | 6=>⟨r.gen,r.st,r.ep,r.su,r.rt,r.bs,0,0,0,dW,dW⟩
 | 7=>⟨r.gen,r.st,r.ep,r.su,r.rt,r.bs,r.bl,0,0,dW,dW⟩
 | 8=>⟨r.gen,r.st,r.ep,r.su,r.rt,r.bs,r.bl,r.ts,0,dW,dW⟩
 | 9=>⟨r.gen,r.st,r.ep,r.su,r.rt,r.bs,r.bl,r.ts,r.tl,dW,dW⟩
 | 10=>⟨r.gen,r.st,r.ep,r.su,r.rt,r.bs,r.bl,r.ts,r.tl,r.b1,dW⟩
 | _=>r
theorem afZ (r:R):bh r 0=zero:=by unfold zero;rfl
theorem ac4 (r:R):bh r 11=r:=rfl
theorem nU:Pk.aT zr.1∧y9 zr.2:=by unfold zr;exact ⟨fk,bR⟩
theorem fz {r:R} (h:Ok r):∀ k,Ok (bh r k)
 | 0=>⟨fk,fk,fk,bR,nU,fk,fk,fk,fk,bR,bR⟩
 | 1=>⟨h.gen,fk,fk,bR,nU,fk,fk,fk,fk,bR,bR⟩
 | 2=>⟨h.gen,h.st,fk,bR,nU,fk,fk,fk,fk,bR,bR⟩
 | 3=>⟨h.gen,h.st,h.ep,bR,nU,fk,fk,fk,fk,bR,bR⟩
 | 4=>⟨h.gen,h.st,h.ep,h.su,nU,fk,fk,fk,fk,bR,bR⟩
 | 5=>⟨h.gen,h.st,h.ep,h.su,h.rt,fk,fk,fk,fk,bR,bR⟩
 | 6=>⟨h.gen,h.st,h.ep,h.su,h.rt,h.bs,fk,fk,fk,bR,bR⟩
 | 7=>⟨h.gen,h.st,h.ep,h.su,h.rt,h.bs,h.bl,fk,fk,bR,bR⟩
 | 8=>⟨h.gen,h.st,h.ep,h.su,h.rt,h.bs,h.bl,h.ts,fk,bR,bR⟩
 | 9=>⟨h.gen,h.st,h.ep,h.su,h.rt,h.bs,h.bl,h.ts,h.tl,bR,bR⟩
 | 10=>⟨h.gen,h.st,h.ep,h.su,h.rt,h.bs,h.bl,h.ts,h.tl,h.b1,bR⟩
 | _+11=>h
end Rg
theorem gB {X Y Z:List Value} {o:Nat} (i:Nat) (v:Value) (hX:X.length=o) (hi:i<Y.length):(X++(Y++Z)).set (o+i) v=X++(Y.set i v++Z):=by
 rw [List.set_append_right _ _ (by omega),hX,Nat.add_sub_cancel_left,List.set_append_left _ _ hi]
theorem lM {X Y Z V:List Value} {o n:Nat} (hX:X.length=o) (hY:Y.length=n):(X++(Y++Z)).take o++V++(X++(Y++Z)).drop (o+n)=X++(V++Z):=by
 rw [List.take_append_of_le_length (by omega),List.take_of_length_le (by omega),← List.append_assoc X Y Z,List.drop_append_of_le_length (by rw [List.length_append];omega),List.drop_of_length_le (by rw [List.length_append];omega),List.nil_append,List.append_assoc]
section
variable {r:Rg.R} (h:Rg.Ok r)
theorem adV:(cv (Rg.bh r 0)).set 0 (.int .i64 r.gen)=cv (Rg.bh r 1):=by
 have e:=gB (X:=([]:List Value)) (Y:=([Value.int .i64 0,Value.int .i64 0,Value.int .i64 0]:List Value)) (Z:=(bW Rg.dW++((Value.int .i64 Rg.zr.1 :: bW Rg.zr.2)++([Value.int .i64 0,Value.int .i64 0]++([Value.int .i64 0,Value.int .i64 0]++(bW Rg.dW++(bW Rg.dW))))):List Value)) (o:=0) 0 (Value.int .i64 r.gen) rfl (by simp);unfold cv;simp only [List.nil_append] at e ⊢;exact e
theorem aeW:(cv (Rg.bh r 1)).set 1 (.int .i64 r.st)=cv (Rg.bh r 2):=by
 have e:=gB (X:=([]:List Value)) (Y:=([Value.int .i64 r.gen,Value.int .i64 0,Value.int .i64 0]:List Value)) (Z:=(bW Rg.dW++((Value.int .i64 Rg.zr.1 :: bW Rg.zr.2)++([Value.int .i64 0,Value.int .i64 0]++([Value.int .i64 0,Value.int .i64 0]++(bW Rg.dW++(bW Rg.dW))))):List Value)) (o:=0) 1 (Value.int .i64 r.st) rfl (by simp);unfold cv;simp only [List.nil_append] at e ⊢;exact e
theorem aeQ:(cv (Rg.bh r 2)).set 2 (.int .i64 r.ep)=cv (Rg.bh r 3):=by
 have e:=gB (X:=([]:List Value)) (Y:=([Value.int .i64 r.gen,Value.int .i64 r.st,Value.int .i64 0]:List Value)) (Z:=(bW Rg.dW++((Value.int .i64 Rg.zr.1 :: bW Rg.zr.2)++([Value.int .i64 0,Value.int .i64 0]++([Value.int .i64 0,Value.int .i64 0]++(bW Rg.dW++(bW Rg.dW))))):List Value)) (o:=0) 2 (Value.int .i64 r.ep) rfl (by simp);unfold cv;simp only [List.nil_append] at e ⊢;exact e
theorem adD:(cv (Rg.bh r 3)).take 3++bW r.su++(cv (Rg.bh r 3)).drop (3+32)=cv (Rg.bh r 4):=by
 have e:=lM (X:=([Value.int .i64 r.gen,Value.int .i64 r.st,Value.int .i64 r.ep]:List Value)) (Y:=(bW Rg.dW:List Value)) (Z:=((Value.int .i64 Rg.zr.1 :: bW Rg.zr.2)++([Value.int .i64 0,Value.int .i64 0]++([Value.int .i64 0,Value.int .i64 0]++(bW Rg.dW++(bW Rg.dW)))):List Value)) (V:=(bW r.su:List Value)) (o:=3) (n:=32) rfl (by simp [Rg.bR.1]);unfold cv;simp only [List.append_assoc] at e ⊢;exact e
include h in
theorem ac9:(cv (Rg.bh r 4)).take 35++(Value.int .i64 r.rt.1 :: bW r.rt.2)++(cv (Rg.bh r 4)).drop (35+33)=cv (Rg.bh r 5):=by
 have e:=lM (X:=([Value.int .i64 r.gen,Value.int .i64 r.st,Value.int .i64 r.ep]++bW r.su:List Value)) (Y:=((Value.int .i64 Rg.zr.1 :: bW Rg.zr.2):List Value)) (Z:=([Value.int .i64 0,Value.int .i64 0]++([Value.int .i64 0,Value.int .i64 0]++(bW Rg.dW++(bW Rg.dW))):List Value)) (V:=((Value.int .i64 r.rt.1 :: bW r.rt.2):List Value)) (o:=35) (n:=33) (by simp [h.su.1]) (by simp [Rg.nU.2.1]);unfold cv;simp only [List.append_assoc] at e ⊢;exact e
include h in
theorem adz:(cv (Rg.bh r 5)).set 68 (.int .i64 r.bs)=cv (Rg.bh r 6):=by
 have e:=gB (X:=([Value.int .i64 r.gen,Value.int .i64 r.st,Value.int .i64 r.ep]++bW r.su++(Value.int .i64 r.rt.1 :: bW r.rt.2):List Value)) (Y:=([Value.int .i64 0,Value.int .i64 0]:List Value)) (Z:=([Value.int .i64 0,Value.int .i64 0]++(bW Rg.dW++(bW Rg.dW)):List Value)) (o:=68) 0 (Value.int .i64 r.bs) (by simp [h.su.1,h.rt.2.1]) (by simp);unfold cv;simp only [List.append_assoc] at e ⊢;exact e
include h in
theorem aeX:(cv (Rg.bh r 6)).set 69 (.int .i64 r.bl)=cv (Rg.bh r 7):=by
 have e:=gB (X:=([Value.int .i64 r.gen,Value.int .i64 r.st,Value.int .i64 r.ep]++bW r.su++(Value.int .i64 r.rt.1 :: bW r.rt.2):List Value)) (Y:=([Value.int .i64 r.bs,Value.int .i64 0]:List Value)) (Z:=([Value.int .i64 0,Value.int .i64 0]++(bW Rg.dW++(bW Rg.dW)):List Value)) (o:=68) 1 (Value.int .i64 r.bl) (by simp [h.su.1,h.rt.2.1]) (by simp);unfold cv;simp only [List.append_assoc] at e ⊢;exact e
include h in
theorem acR:(cv (Rg.bh r 7)).set 70 (.int .i64 r.ts)=cv (Rg.bh r 8):=by
 have e:=gB (X:=([Value.int .i64 r.gen,Value.int .i64 r.st,Value.int .i64 r.ep]++bW r.su++(Value.int .i64 r.rt.1 :: bW r.rt.2)++[Value.int .i64 r.bs,Value.int .i64 r.bl]:List Value)) (Y:=([Value.int .i64 0,Value.int .i64 0]:List Value)) (Z:=(bW Rg.dW++(bW Rg.dW):List Value)) (o:=70) 0 (Value.int .i64 r.ts) (by simp [h.su.1,h.rt.2.1]) (by simp);unfold cv;simp only [List.append_assoc] at e ⊢;exact e
include h in
theorem aek:(cv (Rg.bh r 8)).set 71 (.int .i64 r.tl)=cv (Rg.bh r 9):=by
 have e:=gB (X:=([Value.int .i64 r.gen,Value.int .i64 r.st,Value.int .i64 r.ep]++bW r.su++(Value.int .i64 r.rt.1 :: bW r.rt.2)++[Value.int .i64 r.bs,Value.int .i64 r.bl]:List Value)) (Y:=([Value.int .i64 r.ts,Value.int .i64 0]:List Value)) (Z:=(bW Rg.dW++(bW Rg.dW):List Value)) (o:=70) 1 (Value.int .i64 r.tl) (by simp [h.su.1,h.rt.2.1]) (by simp);unfold cv;simp only [List.append_assoc] at e ⊢;exact e
include h in
theorem acC:(cv (Rg.bh r 9)).take 72++bW r.b1++(cv (Rg.bh r 9)).drop (72+32)=cv (Rg.bh r 10):=by
 have e:=lM (X:=([Value.int .i64 r.gen,Value.int .i64 r.st,Value.int .i64 r.ep]++bW r.su++(Value.int .i64 r.rt.1 :: bW r.rt.2)++[Value.int .i64 r.bs,Value.int .i64 r.bl]++[Value.int .i64 r.ts,Value.int .i64 r.tl]:List Value)) (Y:=(bW Rg.dW:List Value)) (Z:=(bW Rg.dW:List Value)) (V:=(bW r.b1:List Value)) (o:=72) (n:=32) (by simp [h.su.1,h.rt.2.1]) (by simp [Rg.bR.1]);unfold cv;simp only [List.append_assoc] at e ⊢;exact e
include h in
theorem zh:(cv (Rg.bh r 10)).take 104++bW r.b2++(cv (Rg.bh r 10)).drop (104+32)=cv (Rg.bh r 11):=by
 have e:=lM (X:=([Value.int .i64 r.gen,Value.int .i64 r.st,Value.int .i64 r.ep]++bW r.su++(Value.int .i64 r.rt.1 :: bW r.rt.2)++[Value.int .i64 r.bs,Value.int .i64 r.bl]++[Value.int .i64 r.ts,Value.int .i64 r.tl]++bW r.b1:List Value)) (Y:=(bW Rg.dW:List Value)) (Z:=([]:List Value)) (V:=(bW r.b2:List Value)) (o:=104) (n:=32) (by simp [h.su.1,h.rt.2.1,h.b1.1]) (by simp [Rg.bR.1]);unfold cv;simp only [List.append_assoc,List.append_nil] at e ⊢;exact e
end
structure Gr (w wr:World) (g gp:Nat) (D:Option Nat) (Z:Array Value) (L:List Int) (b:Bool) (x:Rg.R):Prop where
 rd:cg wr g D L b
 p2:wr.heap[w.heap.size]?=qo Z 45
 pp:wr.heap[gp]?=qo (br x) 45
 low:qw w wr
 ng:w.heap.size<g
 nd2:D ≠ some w.heap.size
 gpg:gp ≠ g
 gp2:w.heap.size<gp
 ndp:D ≠ some gp
theorem Gr.read {w wr x:World} {g gp:Nat} {D:Option Nat} {Z:Array Value} {L L':List Int} {b b':Bool} {r:Rg.R} (h:Gr w wr g gp D Z L b r) (hr:cg x g D L' b') (ho:aE g wr x):Gr w x g gp D Z L' b' r :=
 ⟨hr,(ho.block _ (lt_of_block h.p2) (Nat.ne_of_lt h.ng)).trans h.p2,(ho.block _ (lt_of_block h.pp) h.gpg).trans h.pp,ho.below h.low (Nat.le_of_lt h.ng) h.low.size,h.ng,h.nd2,h.gpg,h.gp2,h.ndp⟩
theorem Gr.store {w wr x:World} {g gp:Nat} {D:Option Nat} {Z:Array Value} {L:List Int} {b:Bool} {r r':Rg.R} (h:Gr w wr g gp D Z L b r) (hp:x.heap[gp]?=qo (br r') 45) (ch:bJ gp wr x):Gr w x g gp D Z L b r' :=
 ⟨h.rd.only ch.only h.gpg h.ndp,(ch.block _ (Nat.ne_of_lt h.gp2)).trans h.p2,hp,ch.below h.low (Nat.le_of_lt h.gp2),h.ng,h.nd2,h.gpg,h.gp2,h.ndp⟩
theorem Gr.int {w wr:World} {g gp:Nat} {D:Option Nat} {Z:Array Value} {L:List Int} {b:Bool} {r r':Rg.R} (h:Gr w wr g gp D Z L b r) (j:Nat) (v:Int) (hs:(cv r).set j (.int .i64 v)=cv r'):Gr w (wr.setCell ⟨gp,j,none⟩ (.int .i64 v)) g gp D Z L b r':=by
 refine h.store ?_ (bJ.setCell wr ⟨gp,j,none⟩ _);have h1:=heap_setCell_same wr gp j _ _ (.int .i64 v) h.pp;rw [h1];unfold br;rw [← hs];simp
theorem Gr.cell {w wr:World} {g gp:Nat} {D:Option Nat} {Z:Array Value} {L:List Int} {b:Bool} {r:Rg.R} (h:Gr w wr g gp D Z L b r) {j:Nat} {v:Value} (hv:(cv r)[j]?=some v):wr.cell? ⟨gp,j,none⟩=some v∧wr.frozen? ⟨gp,j,none⟩=false:=by
 refine ⟨?_,frozen_of_row wr gp j _ _ h.pp⟩;rw [cell_of_row wr gp j _ _ _ h.pp];unfold br;simpa using hv
theorem yx (L:List Int) (p:Option Addr) (n c:Nat) (hn:L.length=n) (hL:n≤900000) (w:World) (hp:Bs w p c L) :
  qc 47 #[.slice p n c] w (eJ L w):=by
 have HP:=qh hp;have EA:Hid (ai.aY L):=hp.bat.1;clear hp;obtain ⟨Z,hZ⟩:∃ Z,Hid ((cv Rg.zero).toArray=Z):=⟨_,rfl⟩;have AB:Hid (Z.size=136):=by show _=_;rw [← hZ.out,List.size_toArray,dr Rg.bw]
 have Cn:Hid (Z.all (·.oneCell')=true):=by show _=_;rw [← hZ.out];exact all_oneCell_toArray (jn Rg.zero)
 have hz:=(zero_of_info Tryz.dN).1;have Ee:=qh Tryz.lT;rw [hZ.out] at hz Ee;have GV:¬ Z = #[]:=fun h=>by have:=AB.out;rw [h] at this;simp at this
 have Bj:=ae Tryz.ah AB;have BH:Hid (Rg.Ok (Rg.rc L)):=Rg.acg EA.out;have Ds:Hid (∀ y,qw w y→qc 88 #[.slice p n c] y (acd L y)):=fun y hy=>kQ L p n c hn (by omega) y (HP.out.av hy);have BN:Hid (∀ y g D,cg y g D L false→qc 89 #[qp g] y (eH (.int .i64 (Rg.rc L).gen) (Rg.rs L 1) (Rg.bd L 1) g D y)):=fun y g D hy=>by
  rw [Rg.aiA,Rg.aiw,Rg.aji,Rg.rs0,Rg.bd0];exact dv L false g D _ rfl y hy
 have D8:Hid (∀ y g D,cg y g D (Rg.rs L 1) (Rg.bd L 1)→qc 89 #[qp g] y (eH (.int .i64 (Rg.rc L).st) (Rg.rs L 2) (Rg.bd L 2) g D y)):=fun y g D hy=>by
  rw [Rg.ahK,Rg.aiR,Rg.ajb];exact dv (Rg.rs L 1) (Rg.bd L 1) g D _ rfl y hy
 have A9:Hid (∀ y g D,cg y g D (Rg.rs L 2) (Rg.bd L 2)→qc 89 #[qp g] y (eH (.int .i64 (Rg.rc L).ep) (Rg.rs L 3) (Rg.bd L 3) g D y)):=fun y g D hy=>by
  rw [Rg.aie,Rg.ahF,Rg.ahZ];exact dv (Rg.rs L 2) (Rg.bd L 2) g D _ rfl y hy
 have EV:Hid (∀ y g D,cg y g D (Rg.rs L 3) (Rg.bd L 3)→qc 94 #[qp g] y (eH (dz (Rg.rc L).su) (Rg.rs L 4) (Rg.bd L 4) g D y)):=fun y g D hy=>by
  rw [Rg.ai5,Rg.aiK,Rg.ajd];exact jS (Rg.rs L 3) (Rg.bd L 3) g D _ rfl y hy
 have FO:Hid (∀ y g D,cg y g D (Rg.rs L 4) (Rg.bd L 4)→qc 95 #[qp g] y (eH (fU (Rg.rc L).rt) (Rg.rs L 5) (Rg.bd L 5) g D y)):=fun y g D hy=>by
  rw [Rg.aiB,Rg.aiV,Rg.ahI];exact aaD (Rg.rs L 4) (Rg.bd L 4) g D _ rfl y hy
 have IE:Hid (∀ y g D,cg y g D (Rg.rs L 5) (Rg.bd L 5)→qc 89 #[qp g] y (eH (.int .i64 (Rg.rc L).bs) (Rg.rs L 6) (Rg.bd L 6) g D y)):=fun y g D hy=>by
  rw [Rg.aib,Rg.ahN,Rg.ahX];exact dv (Rg.rs L 5) (Rg.bd L 5) g D _ rfl y hy
 have Js:Hid (∀ y g D,cg y g D (Rg.rs L 6) (Rg.bd L 6)→qc 89 #[qp g] y (eH (.int .i64 (Rg.rc L).bl) (Rg.rs L 7) (Rg.bd L 7) g D y)):=fun y g D hy=>by
  rw [Rg.aiF,Rg.ajc,Rg.ahE];exact dv (Rg.rs L 6) (Rg.bd L 6) g D _ rfl y hy
 have K1:Hid (∀ y g D,cg y g D (Rg.rs L 7) (Rg.bd L 7)→qc 89 #[qp g] y (eH (.int .i64 (Rg.rc L).ts) (Rg.rs L 8) (Rg.bd L 8) g D y)):=fun y g D hy=>by
  rw [Rg.ai2,Rg.ah2,Rg.aiP];exact dv (Rg.rs L 7) (Rg.bd L 7) g D _ rfl y hy
 have K2:Hid (∀ y g D,cg y g D (Rg.rs L 8) (Rg.bd L 8)→qc 89 #[qp g] y (eH (.int .i64 (Rg.rc L).tl) (Rg.rs L 9) (Rg.bd L 9) g D y)):=fun y g D hy=>by
  rw [Rg.ahW,Rg.ai3,Rg.aim];exact dv (Rg.rs L 8) (Rg.bd L 8) g D _ rfl y hy
 have Jt:Hid (∀ y g D,cg y g D (Rg.rs L 9) (Rg.bd L 9)→qc 94 #[qp g] y (eH (dz (Rg.rc L).b1) (Rg.rs L 10) (Rg.bd L 10) g D y)):=fun y g D hy=>by
  rw [Rg.ajn,Rg.aiy,Rg.ajq];exact jS (Rg.rs L 9) (Rg.bd L 9) g D _ rfl y hy
 have Eh:Hid (∀ y g D,cg y g D (Rg.rs L 10) (Rg.bd L 10)→qc 94 #[qp g] y (eH (dz (Rg.rc L).b2) (Rg.rs L 11) (Rg.bd L 11) g D y)):=fun y g D hy=>by
  rw [Rg.ae3,Rg.afr,Rg.afd];exact jS (Rg.rs L 10) (Rg.bd L 10) g D _ rfl y hy
 have Jv:Hid (∀ y g D,cg y g D (Rg.rs L 11) (Rg.bd L 11)→qc 96 #[qp g] y (lG (Pk.en (Rg.rs L 11) (Rg.bd L 11)) y)):=fun y g D hy=>vj _ _ g D y hy;have DL:Hid (Pk.en (Rg.rs L 11) (Rg.bd L 11) ≠ 0→Rg.er L=Pk.en (Rg.rs L 11) (Rg.bd L 11)∧.agg Z=RV (Rg.gt L)):=fun h=>by
  have h1:Rg.er L=Pk.en (Rg.rs L 11) (Rg.bd L 11):=by unfold Rg.er;rw [if_pos h]
  refine ⟨h1,?_⟩;rw [Rg.gu (by rw [h1];exact h),← hZ.out];unfold RV
  rfl
 have Dj:Hid (Pk.en (Rg.rs L 11) (Rg.bd L 11)=0→Rg.may (Rg.rc L)=false→Rg.er L=7∧.agg Z=RV (Rg.gt L)):=fun h h2=>by
  have h1:Rg.er L=7:=by unfold Rg.er;rw [if_neg (by omega),h2];rfl
  refine ⟨h1,?_⟩;rw [Rg.gu (by omega),← hZ.out];unfold RV
  rfl
 have Bw:Hid (Pk.en (Rg.rs L 11) (Rg.bd L 11)=0→Rg.may (Rg.rc L)=true→Rg.er L=0∧RV (Rg.rc L)=RV (Rg.gt L)):=fun h h2=>by
  have h1:Rg.er L=0:=by unfold Rg.er;rw [if_neg (by omega),if_pos h2]
  refine ⟨h1,?_⟩;unfold Rg.gt;rw [if_pos h1]
 have Ic:Hid (∀ y,qc 97 #[RV (Rg.rc L)] y (dQ (Rg.may (Rg.rc L)) y)):=fun y=>mF _ BH.out y;have Aw:Hid ((br (Rg.rc L)).size=136):=aA BH.out;have An:Hid ((br (Rg.rc L)).all (·.oneCell')=true):=dm _;have Ss:Hid (Z=br Rg.zero):=hZ.out.symm;obtain ⟨SU,eSU,sSU,oSU⟩:=iA (Rg.rc L).su BH.out.su.1;obtain ⟨RT,eRT,sRT,oRT⟩:=qv (Rg.rc L).rt BH.out.rt.2.1;obtain ⟨B1,eB1,sB1,oB1⟩:=iA (Rg.rc L).b1 BH.out.b1.1;obtain ⟨B2,eB2,sB2,oB2⟩:=iA (Rg.rc L).b2 BH.out.b2.1;rw [eSU] at EV;rw [eRT] at FO;rw [eB1] at Jt;rw [eB2] at Eh;have E3:Hid (((br (Rg.bh (Rg.rc L) 3)).toList.take 3++SU.toList++(br (Rg.bh (Rg.rc L) 3)).toList.drop (3+SU.size)).toArray=br (Rg.bh (Rg.rc L) 4)):=by
  show _=_;have e1:SU=(bW (Rg.rc L).su:List Value).toArray:=by unfold dz at eSU;injection eSU with eSU;exact eSU.symm
  rw [sSU,e1];exact congrArg List.toArray (adD)
 have Z3:Hid (3+SU.size≤(br (Rg.bh (Rg.rc L) 3)).size):=by show _≤_;rw [sSU,aA (Rg.fz BH.out 3)];omega
 have S3:=qh sSU;have O3':=qh oSU;have E4:Hid (((br (Rg.bh (Rg.rc L) 4)).toList.take 35++RT.toList++(br (Rg.bh (Rg.rc L) 4)).toList.drop (35+RT.size)).toArray=br (Rg.bh (Rg.rc L) 5)):=by
  show _=_;have e1:RT=((Value.int .i64 (Rg.rc L).rt.1 :: bW (Rg.rc L).rt.2):List Value).toArray:=by unfold fU at eRT;injection eRT with eRT;exact eRT.symm
  rw [sRT,e1];exact congrArg List.toArray (ac9 BH.out)
 have Z4:Hid (35+RT.size≤(br (Rg.bh (Rg.rc L) 4)).size):=by show _≤_;rw [sRT,aA (Rg.fz BH.out 4)];omega
 have S4:=qh sRT;have O4':=qh oRT;have E9:Hid (((br (Rg.bh (Rg.rc L) 9)).toList.take 72++B1.toList++(br (Rg.bh (Rg.rc L) 9)).toList.drop (72+B1.size)).toArray=br (Rg.bh (Rg.rc L) 10)):=by
  show _=_;have e1:B1=(bW (Rg.rc L).b1:List Value).toArray:=by unfold dz at eB1;injection eB1 with eB1;exact eB1.symm
  rw [sB1,e1];exact congrArg List.toArray (acC BH.out)
 have Z9:Hid (72+B1.size≤(br (Rg.bh (Rg.rc L) 9)).size):=by show _≤_;rw [sB1,aA (Rg.fz BH.out 9)];omega
 have S9:=qh sB1;have O9':=qh oB1;have PK:Hid (((br (Rg.bh (Rg.rc L) 10)).toList.take 104++B2.toList++(br (Rg.bh (Rg.rc L) 10)).toList.drop (104+B2.size)).toArray=br (Rg.bh (Rg.rc L) 11)):=by
  show _=_;have e1:B2=(bW (Rg.rc L).b2:List Value).toArray:=by unfold dz at eB2;injection eB2 with eB2;exact eB2.symm
  rw [sB2,e1];exact congrArg List.toArray (zh BH.out)
 have Qn:Hid (104+B2.size≤(br (Rg.bh (Rg.rc L) 10)).size):=by show _≤_;rw [sB2,aA (Rg.fz BH.out 10)];omega
 have Qm:=qh sB2;have O10':=qh oB2;have E0:Hid ((cv (Rg.bh (Rg.rc L) 0)).set 0 (.int .i64 (Rg.rc L).gen)=cv (Rg.bh (Rg.rc L) 1)):=adV;have V0:Hid ((cv (Rg.bh (Rg.rc L) 0))[0]?=some (.int .i64 0)):=by show _=_;unfold cv;rfl
 have E1:Hid ((cv (Rg.bh (Rg.rc L) 1)).set 1 (.int .i64 (Rg.rc L).st)=cv (Rg.bh (Rg.rc L) 2)):=aeW;have V1:Hid ((cv (Rg.bh (Rg.rc L) 1))[1]?=some (.int .i64 0)):=by show _=_;unfold cv;rfl
 have E2:Hid ((cv (Rg.bh (Rg.rc L) 2)).set 2 (.int .i64 (Rg.rc L).ep)=cv (Rg.bh (Rg.rc L) 3)):=aeQ;have V2:Hid ((cv (Rg.bh (Rg.rc L) 2))[2]?=some (.int .i64 0)):=by show _=_;unfold cv;rfl
 have E5:Hid ((cv (Rg.bh (Rg.rc L) 5)).set 68 (.int .i64 (Rg.rc L).bs)=cv (Rg.bh (Rg.rc L) 6)):=adz BH.out;have V5:Hid ((cv (Rg.bh (Rg.rc L) 5))[68]?=some (.int .i64 0)):=fg (j:=0) (kF (Rg.fz BH.out 5)) rfl;have E6:Hid ((cv (Rg.bh (Rg.rc L) 6)).set 69 (.int .i64 (Rg.rc L).bl)=cv (Rg.bh (Rg.rc L) 7)):=aeX BH.out;have V6:Hid ((cv (Rg.bh (Rg.rc L) 6))[69]?=some (.int .i64 0)):=fg (j:=1) (kF (Rg.fz BH.out 6)) rfl;have E7:Hid ((cv (Rg.bh (Rg.rc L) 7)).set 70 (.int .i64 (Rg.rc L).ts)=cv (Rg.bh (Rg.rc L) 8)):=acR BH.out;have V7:Hid ((cv (Rg.bh (Rg.rc L) 7))[70]?=some (.int .i64 0)):=fg (j:=0) (kK (Rg.fz BH.out 7)) rfl;have E8:Hid ((cv (Rg.bh (Rg.rc L) 8)).set 71 (.int .i64 (Rg.rc L).tl)=cv (Rg.bh (Rg.rc L) 9)):=aek BH.out;have V8:Hid ((cv (Rg.bh (Rg.rc L) 8))[71]?=some (.int .i64 0)):=fg (j:=1) (kK (Rg.fz BH.out 8)) rfl;have F0:Hid (Rg.bh (Rg.rc L) 0=Rg.zero):=Rg.afZ _;have PM:Hid (br (Rg.bh (Rg.rc L) 11)=br (Rg.rc L)):=by rw [Rg.ac4];exact rfl
 rw [cM] at Bw Ic;obtain ⟨en,Fx⟩:∃ en,Hid (Pk.en (Rg.rs L 11) (Rg.bd L 11)=en):=⟨_,rfl⟩;rw [Fx.out] at Jv DL Dj Bw;obtain ⟨q,hq⟩:∃ q,Hid (Rg.may (Rg.rc L)=q):=⟨_,rfl⟩;rw [hq.out] at Ic Dj Bw;have R0:Hid ((w.alloc (.cells Z 45)).heap[w.heap.size]?=qo Z 45):=heap_alloc_new w _;have B0:Hid (qw w (w.alloc (.cells Z 45))):=qb w _;have GK:Hid (w.heap.size<(w.alloc (.cells Z 45)).heap.size):=by show _<_;simp
 clear hn hL HP EA hZ Fx hq BH eSU eRT eB1 eB2 sSU sRT sB1 sB2 oSU oRT oB1 oB2;generalize Rg.bh (Rg.rc L)=FF at *;generalize (Rg.rc L).gen=gen at *;generalize (Rg.rc L).st=st at *;generalize (Rg.rc L).ep=ep at *;generalize (Rg.rc L).bs=bs at *;generalize (Rg.rc L).bl=bl at *;generalize (Rg.rc L).ts=ts at *;generalize (Rg.rc L).tl=tl at *;go_enter func47,ntmps47;go_upto_region 1 with (fail)
 obtain ⟨w0,Ah⟩:∃ x,x=w.alloc (.cells Z 45):=⟨_,rfl⟩;rw [← Ah] at B0 R0 GK ⊢;clear Ah;go_upto_region 2 with (go_at_call 88;refine (Ds.out _ B0.out).mono ?_;rintro e1 w1 ⟨g,D,rfl,Q0,Cw,Ai⟩)
 go_upto_region 3 with (first
  | ((with_reducible refine bT _ _ Ee.out ?_))
  | ((with_reducible refine ak _ _ _ _ _ _ _ ?_ ?_ (heap_alloc_new _ _) (ae Tryz.ah AB) ?_ Cn.out ?_);(exact rfl);(exact rfl);(exact rfl);intro w2 G2 BB))
 have G0:Hid (Gr w w2 g w1.heap.size D Z (Rg.rs L 0) (Rg.bd L 0) (FF 0)):=by
  have QI:w.heap.size<g:=Nat.lt_of_lt_of_le GK.out Cw.out.1;have Ag:qw w w1:=B0.out.trans (Ai.out.mono B0.out.size);have Al:qw w1 w2:=BB.below (qb w1 _) qn;have r1:=(Ai.out.block _ (lt_of_block R0.out)).trans R0.out;have EK:=Q0.out.glt;refine ⟨?_,(Al.block _ (lt_of_block r1)).trans r1,?_,Ag.trans (Al.mono Ag.size),QI,fun h=>?_,Nat.ne_of_gt EK,Nat.lt_trans QI EK,fun h=>?_⟩
  ·rw [Rg.rs0,Rg.bd0];exact Q0.out.av Al
  ·rw [F0.out,← Ss.out];exact G2.out
  ·have:=Cw.out.2 _ h;have:=GK.out;omega
  ·have:=Q0.out.lt _ h;omega
 clear Ds Q0 Ai R0 B0 Cw G2 BB hz GV Bj GK;generalize w1.heap.size=gp at *;have K0:Hid (∀ y,cg y g D (Rg.rs L 0) (Rg.bd L 0)→qc 89 #[qp g] y (eH (.int .i64 gen) (Rg.rs L 1) (Rg.bd L 1) g D y)):=fun y hy=>BN.out y g D (by rw [Rg.rs0,Rg.bd0] at hy;exact hy);go_upto_region 4 with (go_at_call 89;refine (K0.out _ G0.out.rd).mono ?_;rintro e3 w3 ⟨rfl,Q1,OO1⟩;have GG0:=qh (G0.out.read Q1.out OO1.out);obtain ⟨cc0,ff0⟩:=GG0.out.cell V0.out;have G1:=qh (GG0.out.int 0 _ E0.out))
 clear Q1 OO1 GG0 G0 cc0 ff0 E0 V0;obtain ⟨z0,hz0⟩:∃ y,y=w3.setCell ⟨gp,0,none⟩ (.int .i64 gen):=⟨_,rfl⟩;rw [← hz0] at G1 ⊢;clear hz0;go_upto_region 5 with (go_at_call 89;refine (D8.out _ _ _ G1.out.rd).mono ?_;rintro e4 w4 ⟨rfl,Q2,OO2⟩;have GG1:=qh (G1.out.read Q2.out OO2.out);obtain ⟨cc1,ff1⟩:=GG1.out.cell V1.out;have G2:=qh (GG1.out.int 1 _ E1.out))
 clear Q2 OO2 GG1 G1 cc1 ff1 E1 V1;obtain ⟨z1,hz1⟩:∃ y,y=w4.setCell ⟨gp,1,none⟩ (.int .i64 st):=⟨_,rfl⟩;rw [← hz1] at G2 ⊢;clear hz1;go_upto_region 6 with (go_at_call 89;refine (A9.out _ _ _ G2.out.rd).mono ?_;rintro e5 w5 ⟨rfl,Q3,OO3⟩;have GG2:=qh (G2.out.read Q3.out OO3.out);obtain ⟨cc2,ff2⟩:=GG2.out.cell V2.out;have G3:=qh (GG2.out.int 2 _ E2.out))
 clear Q3 OO3 GG2 G2 cc2 ff2 E2 V2;obtain ⟨z2,hz2⟩:∃ y,y=w5.setCell ⟨gp,2,none⟩ (.int .i64 ep):=⟨_,rfl⟩;rw [← hz2] at G3 ⊢;clear hz2;go_upto_region 7 with (first
  | (go_at_call 94;refine (EV.out _ _ _ G3.out.rd).mono ?_;rintro e6 w6 ⟨rfl,Q4,OO4⟩;have GG3:=qh (G3.out.read Q4.out OO4.out))
  | ((with_reducible refine fY _ _ _ gp 3 _ (br (FF 3)) SU ?_ ?_ GG3.out.pp (ae Tryz.ar S3) Z3.out O3'.out ?_);(first | exact rfl | go_simp);(exact rfl);intro z3 GS3 chs3;have G4:Hid (Gr w z3 g gp D Z (Rg.rs L 4) (Rg.bd L 4) (FF 4)):=GG3.out.store (by rw [← E3.out];exact GS3.out) chs3))
 clear Q4 OO4 GG3 G3 GS3 chs3 E3 S3 O3' Z3;go_upto_region 8 with (first
  | (go_at_call 95;refine (FO.out _ _ _ G4.out.rd).mono ?_;rintro e7 w7 ⟨rfl,Q5,OO5⟩;have GG4:=qh (G4.out.read Q5.out OO5.out))
  | ((with_reducible refine fY _ _ _ gp 35 _ (br (FF 4)) RT ?_ ?_ GG4.out.pp (ae Tryz.bm S4) Z4.out O4'.out ?_);(first | exact rfl | go_simp);(exact rfl);intro z4 GS4 chs4;have G5:Hid (Gr w z4 g gp D Z (Rg.rs L 5) (Rg.bd L 5) (FF 5)):=GG4.out.store (by rw [← E4.out];exact GS4.out) chs4))
 clear Q5 OO5 GG4 G4 GS4 chs4 E4 S4 O4' Z4;go_upto_region 9 with (go_at_call 89;refine (IE.out _ _ _ G5.out.rd).mono ?_;rintro e8 w8 ⟨rfl,Q6,OO6⟩;have GG5:=qh (G5.out.read Q6.out OO6.out);obtain ⟨cc5,ff5⟩:=GG5.out.cell V5.out;have G6:=qh (GG5.out.int 68 _ E5.out))
 clear Q6 OO6 GG5 G5 cc5 ff5 E5 V5;obtain ⟨z5,Re⟩:∃ y,y=w8.setCell ⟨gp,68,none⟩ (.int .i64 bs):=⟨_,rfl⟩;rw [← Re] at G6 ⊢;clear Re;go_upto_region 10 with (go_at_call 89;refine (Js.out _ _ _ G6.out.rd).mono ?_;rintro e9 w9 ⟨rfl,Q7,OO7⟩;have GG6:=qh (G6.out.read Q7.out OO7.out);obtain ⟨cc6,ff6⟩:=GG6.out.cell V6.out;have G7:=qh (GG6.out.int 69 _ E6.out))
 clear Q7 OO7 GG6 G6 cc6 ff6 E6 V6;obtain ⟨z6,Rf⟩:∃ y,y=w9.setCell ⟨gp,69,none⟩ (.int .i64 bl):=⟨_,rfl⟩;rw [← Rf] at G7 ⊢;clear Rf;go_upto_region 11 with (go_at_call 89;refine (K1.out _ _ _ G7.out.rd).mono ?_;rintro e10 w10 ⟨rfl,Q8,OO8⟩;have GG7:=qh (G7.out.read Q8.out OO8.out);obtain ⟨cc7,ff7⟩:=GG7.out.cell V7.out;have G8:=qh (GG7.out.int 70 _ E7.out))
 clear Q8 OO8 GG7 G7 cc7 ff7 E7 V7;obtain ⟨z7,Rh⟩:∃ y,y=w10.setCell ⟨gp,70,none⟩ (.int .i64 ts):=⟨_,rfl⟩;rw [← Rh] at G8 ⊢;clear Rh;go_upto_region 12 with (go_at_call 89;refine (K2.out _ _ _ G8.out.rd).mono ?_;rintro e11 w11 ⟨rfl,Q9,OO9⟩;have GG8:=qh (G8.out.read Q9.out OO9.out);obtain ⟨cc8,ff8⟩:=GG8.out.cell V8.out;have G9:=qh (GG8.out.int 71 _ E8.out))
 clear Q9 OO9 GG8 G8 cc8 ff8 E8 V8;obtain ⟨z8,Ri⟩:∃ y,y=w11.setCell ⟨gp,71,none⟩ (.int .i64 tl):=⟨_,rfl⟩;rw [← Ri] at G9 ⊢;clear Ri;go_upto_region 13 with (first
  | (go_at_call 94;refine (Jt.out _ _ _ G9.out.rd).mono ?_;rintro e12 w12 ⟨rfl,Kv,OO10⟩;have GG9:=qh (G9.out.read Kv.out OO10.out))
  | ((with_reducible refine fY _ _ _ gp 72 _ (br (FF 9)) B1 ?_ ?_ GG9.out.pp (ae Tryz.ar S9) Z9.out O9'.out ?_);(first | exact rfl | go_simp);(exact rfl);intro z9 GS9 chs9;have NI:Hid (Gr w z9 g gp D Z (Rg.rs L 10) (Rg.bd L 10) (FF 10)):=GG9.out.store (by rw [← E9.out];exact GS9.out) chs9))
 clear Kv OO10 GG9 G9 GS9 chs9 E9 S9 O9' Z9;go_upto_region 14 with (first
  | (go_at_call 94;refine (Eh.out _ _ _ NI.out.rd).mono ?_;rintro e13 w13 ⟨rfl,JQ,OO11⟩;have GG10:=qh (NI.out.read JQ.out OO11.out))
  | ((with_reducible refine fY _ _ _ gp 104 _ (br (FF 10)) B2 ?_ ?_ GG10.out.pp (ae Tryz.ar Qm) Qn.out O10'.out ?_);(first | exact rfl | go_simp);(exact rfl);intro z10 GS10 chs10;have Ix:Hid (Gr w z10 g gp D Z (Rg.rs L 11) (Rg.bd L 11) (FF 11)):=GG10.out.store (by rw [← PK.out];exact GS10.out) chs10))
 clear JQ OO11 GG10 NI GS10 chs10 PK Qm O10' Qn;rw [show br (FF 11)=br (FF 11) from rfl] at PM;have QA:=qh Ix.out.rd;have RE:=qh (Jv.out z10 g D QA.out);have Ga:Hid (z10.heap[gp]?=qo (br (Rg.rc L)) 45):=by rw [← PM.out];exact Ix.out.pp
 have RA:Hid (z10.heap[w.heap.size]?=qo Z 45):=Ix.out.p2;have BA:Hid (qw w z10):=Ix.out.low;generalize br (Rg.rc L)=A at *;have RZ:Hid (∀ x,qw z10 x→x.heap[w.heap.size]?=qo Z 45):=fun x hx=>(hx.block _ (lt_of_block RA.out)).trans RA.out;have RP:Hid (∀ x,qw z10 x→x.heap[gp]?=qo A 45):=fun x hx=>(hx.block _ (lt_of_block Ga.out)).trans Ga.out;have RB:Hid (∀ x,qw z10 x→qw w x):=fun x hx=>BA.out.trans (hx.mono BA.out.size);clear Jv QA RA BA Ga Ix BN K0 D8 A9 EV FO IE Js K1 K2 Jt Eh;by_cases h0:en=0
 ·subst h0;cases q with
  | false =>
   have HE:=qh (Dj.out rfl rfl);clear DL Dj Bw;go_wp2_with (first
    | (go_at_call 96;refine RE.out.mono ?_;rintro e17 w17 ⟨rfl,Bh⟩;have AU:=qh Bh;clear Bh)
    | ((with_reducible refine ay _ _ _ _ _ _ _ ?_ (RP.out _ AU.out) underlying45 ?_ (ae Tryz.ah Aw) ?_);(exact rfl);(exact rfl))
    | (go_at_call 97;refine (Ic.out _).mono ?_;rintro e18 w18 ⟨rfl,AQ⟩;have Dh:=qh (AU.out.trans (AQ.out.mono AU.out.size)))
    | ((with_reducible refine bT _ _ Ee.out ?_))
    | ((with_reducible refine ak _ _ _ _ _ _ _ ?_ ?_ (RZ.out _ Dh.out) (ae Tryz.ah AB) ?_ Cn.out ?_);(exact rfl);(exact rfl);(exact rfl);intro w19 G9 AW))
   refine bodyPost_ret (results_cell_tmp rfl _ _ w.heap.size 45 Z (0,0) _ rfl G9 underlying45 rfl (ae Tryz.ah AB)) rfl ⟨?_,AW.below (RB.out _ Dh.out) qn⟩;rw [HE.out.1,← HE.out.2];rfl
  | true =>
   have HE:=qh (Bw.out rfl rfl);clear DL Dj Bw;go_wp2_with (first
    | (go_at_call 96;refine RE.out.mono ?_;rintro e17 w17 ⟨rfl,Bh⟩;have AU:=qh Bh;clear Bh)
    | ((with_reducible refine ay _ _ _ _ _ _ _ ?_ (RP.out _ Dh.out) underlying45 ?_ (ae Tryz.ah Aw) ?_);(exact rfl);(exact rfl))
    | ((with_reducible refine ay _ _ _ _ _ _ _ ?_ (RP.out _ AU.out) underlying45 ?_ (ae Tryz.ah Aw) ?_);(exact rfl);(exact rfl))
    | (go_at_call 97;refine (Ic.out _).mono ?_;rintro e18 w18 ⟨rfl,AQ⟩;have Dh:=qh (AU.out.trans (AQ.out.mono AU.out.size)))
    | ((with_reducible refine ak _ _ _ _ _ _ _ ?_ ?_ (RZ.out _ Dh.out) (ae Tryz.ah Aw) ?_ An.out ?_);(exact rfl);(exact rfl);(rw [Aw.out,AB.out]);intro w19 G9 AW))
   refine bodyPost_ret (results_cell_tmp rfl _ _ w.heap.size 45 A (0,0) _ rfl G9 underlying45 rfl (ae Tryz.ah Aw)) rfl ⟨?_,AW.below (RB.out _ Dh.out) qn⟩;rw [HE.out.1,← HE.out.2];rfl
 ·have HE:=qh (DL.out h0);have CY:(en==0)=false:=by simpa using h0
  clear DL Dj Bw;go_wp2_with (first
   | (go_at_call 96;refine RE.out.mono ?_;rintro e17 w17 ⟨rfl,Bh⟩;have AU:=qh Bh;clear Bh)
   | ((with_reducible refine bT _ _ Ee.out ?_))
   | ((with_reducible refine ak _ _ _ _ _ _ _ ?_ ?_ (RZ.out _ AU.out) (ae Tryz.ah AB) ?_ Cn.out ?_);(exact rfl);(exact rfl);(exact rfl);intro w19 G9 AW))
  refine bodyPost_ret (results_cell_tmp rfl _ _ w.heap.size 45 Z (0,0) _ rfl G9 underlying45 rfl (ae Tryz.ah AB)) rfl ⟨?_,AW.below (RB.out _ AU.out) qn⟩;rw [HE.out.1,← HE.out.2];rfl
end Go.Proofs.YthgjfjmampmiiaaGreatDoor

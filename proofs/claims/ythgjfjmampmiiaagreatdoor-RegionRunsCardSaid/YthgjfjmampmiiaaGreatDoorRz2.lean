/-
  RgZ2, RgZ3, RgZ4, RgZ5 (merged)
-/
import Derived.Test.YthgjfjmampmiiaaGreatDoorRz1
import Derived.Test.YthgjfjmampmiiaaGreatDoorRgO
import Derived.Test.YthgjfjmampmiiaaGreatDoorDk7
import Derived.Test.YthgjfjmampmiiaaGreatDoorRg8
namespace Go.Proofs.YthgjfjmampmiiaaGreatDoor
open Go.Proofs.Tryz
set_option maxHeartbeats 8000000
set_option maxRecDepth 100000
section
open Go.RowKit
def afc (L:List Rg.R) (T:Nat→Prop) (q qb:Nat) (m':Dk.M) (w:World) (e:Ending) (w':World):Prop :=
 ∃ v,e = .returned v∧Hid (nF w.heap.size w' v L)∧Hid (∀ x∈L,Rg.Ok x)∧Hid (bA w' T q qb m')∧Hid (Mv [q,qb] w w')
def afm (E:Int) (X:List Int) (T:Nat→Prop) (q qb:Nat) (m':Dk.M) (w:World) (e:Ending) (w':World):Prop :=
 ∃ p c,e = .returned (.tuple #[.slice p X.length c,.int .i64 E])∧Hid (Bs w' p c X)∧Hid (bA w' T q qb m')∧Hid (Mv [q,qb] w w')
theorem yd (a0:Addr) (G:Int→List Int→Int × Sc.S) {T:Nat→Prop} {q qb:Nat} {m:Dk.M} (w:World) (hd:bA w T q qb m) (CA:∀ j,m.rd j≤999999990)
  (j6:∀ k:Nat,k<2→(G ((k:Int)+1) (Dk.bK m ((k:Int)+1))).2.L.length≤900000)
  (sY:∀ k:Nat,k<2→ai.aY (G ((k:Int)+1) (Dk.bK m ((k:Int)+1))).2.L)
  (hget:∀ k:Nat,k<2→∀ y p n c,Mv [q,qb] w y→(Dk.bK m ((k:Int)+1)).length=n→Bs y p c (Dk.bK m ((k:Int)+1))→qc 46 #[.pointer (some a0),.int .i64 2,.int .i64 ((k:Int)+1),.slice p n c] y (nj (G ((k:Int)+1) (Dk.bK m ((k:Int)+1))) y)) :
  qc 15 #[qp q,.pointer (some a0)] w (afc (Rg.al m G) T q qb (Rg.fL m 2) w):=by
 have Dl:Hid (∀ k:Nat,k<2→∀ y,bA y T q qb (Rg.fL m k)→qc 41 #[qp q,.int .i64 ((k:Int)+1)] y (afm (if Dk.here m ((k:Int)+1) then 0 else 7) (Dk.bK m ((k:Int)+1)) T q qb (Rg.fL m (k+1)) y)):=fun k hk y hy=>by
  have hx:=Rg.xm m k ((k:Int)+1);refine (jT ((k:Int)+1) y hy (fun j=>Nat.le_trans (Rg.tj m 999999990 CA k j) (by omega))).mono ?_;rintro e w' ⟨v,h1,h2,h3,h4⟩;rw [hx.1] at h2;obtain ⟨p,c,h5,h6,_⟩:=bH h2.out.1 h2.out.2;have h7:Dk.fC (Rg.fL m k) ((k:Int)+1)=if Dk.here m ((k:Int)+1) then 0 else 7:=by unfold Dk.fC;rw [hx.2]
  rw [h7,h5] at h1;exact ⟨p,c,h1,h6,h3,h4⟩
 have FW:Hid (∀ k:Nat,k<2→Dk.here m ((k:Int)+1)=false→Rg.pF m G k=none):=fun k hk h=>Rg.ab0 _ h;have Ly:Hid (∀ k:Nat,k<2→Dk.here m ((k:Int)+1)=true→Rg.pF m G k=Rg.hb ((k:Int)+1) (G ((k:Int)+1) (Dk.bK m ((k:Int)+1)))):=fun k hk h=>Rg.pN _ h;have HO:Hid (∀ k:Nat,k<2→∀ r,Rg.pF m G k=some r→Rg.Ok r):=fun k hk r hr=>Rg.afn (sY k hk) hr;have Db:Hid (∀ k,Rg.nz m G (k+1)=Rg.nz m G k++(Rg.pF m G k).toList):=fun k=>rfl;have KJ:Hid (Rg.al m G=Rg.nz m G 2):=rfl;have Bf:Hid (Rg.nz m G 0 = []):=rfl;have AD:Hid (∀ k:Nat,k≤2→(∀ x∈Rg.nz m G k,Rg.Ok x)∧(Rg.nz m G k).length≤k):=fun k=>by
  induction k with
  | zero=>exact fun _=>⟨fun x hx=>(by cases hx),Nat.le_refl _⟩
  | succ k ih =>
   intro hk;obtain ⟨h1,h2⟩:=ih (by omega);rw [Db.out];cases q:Rg.pF m G k with
   | none=>simp only [Option.toList_none,List.append_nil];exact ⟨h1,by omega⟩
   | some r =>
    simp only [Option.toList_some];refine ⟨Rg.uJ h1 (fun x hx=>by rw [List.mem_singleton] at hx;rw [hx];exact HO.out k (by omega) r q),?_⟩;rw [List.length_append,List.length_singleton];omega
 have Jo:Hid (bA w T q qb (Rg.fL m 0)):=hd;have M0:Hid (∀ k,T k→k<w.heap.size):=hd.top;have EC:Hid (∀ k∈[q,qb],k<w.heap.size):=fun k hk=>by
  simp only [List.mem_cons,List.not_mem_nil,or_false] at hk;rcases hk with rfl | rfl
  ·exact hd.top _ hd.lt.1
  ·exact hd.top _ hd.lt.2
 have Cb:Hid (∀ k:Nat,k<2→∀ y p c,Mv [q,qb] w y→Bs y p c (Dk.bK m ((k:Int)+1))→qc 46 #[.pointer (some a0),.int .i64 2,.int .i64 ((k:Int)+1),.slice p (Dk.bK m ((k:Int)+1)).length c] y (nj (G ((k:Int)+1) (Dk.bK m ((k:Int)+1))) y)):=fun k hk y p c h1 h2=>hget k hk y p _ c h1 rfl h2;have Bo:=qh j6;have Sj:Hid (∀ (y z:World) m',bA y T q qb m'→Below w.heap.size y z→bA z T q qb m'):=fun y z m' h1 h2=>h1.aG h2.size (fun g hg=>h2.block g (M0.out g hg));rw [KJ.out];clear j6 sY hget CA hd KJ;generalize Rg.nz m G=LL at *;generalize Rg.pF m G=HH at *;generalize Rg.fL m=MM at *;obtain ⟨Z,hZ⟩:∃ Z,Hid ((cv Rg.zero).toArray=Z):=⟨_,rfl⟩;have AB:Hid (Z.size=136):=by show _=_;rw [← hZ.out,List.size_toArray,dr Rg.bw]
 have hz:=(zero_of_info Tryz.dN).1;rw [hZ.out] at hz;have GV:¬ Z = #[]:=fun h=>by have:=AB.out;rw [h] at this;simp at this
 have Bj:=ae Tryz.ah AB;go_enter func15,ntmps15;go_wp2;go_loopw [5,6] (fun v5 v6 wr=>∃ k:Nat,k≤2∧v6 = .int .i64 ((k:Int)+1)∧Hid (nF w.heap.size wr v5 (LL k))∧Hid (bA wr T q qb (MM k))∧Hid (Mv [q,qb] w wr)) (fun _ v6 _=>4-(intOf v6).toNat)
 case atStart=>exact ⟨0,by omega,rfl,by rw [Bf.out];exact wI _ _,Jo.out,Mv.refl _ _⟩
 case round =>
  obtain ⟨k,hk,rfl,Ax,Dt,BO⟩:=hrel;by_cases Ae:k<2
  ·have hle:(k:Int)+1≤2:=by omega
   have HR:=qh (Dl.out k Ae wr Dt.out);have GI:=qh (Db.out k);have BH:=qh (HO.out k Ae);have AV:=qh (AD.out k hk);have Fp:=qh (Cb.out k Ae);have HGLk:=qh (Bo.out k Ae);have Dj:=FW.out k Ae;have Iq:=Ly.out k Ae;have Fe:Hid (w.heap.size≤wr.heap.size):=BO.out.size;have CI:Hid (∀ w1 y,bA w1 T q qb (MM (k+1))→Mv [q,qb] wr w1→qw w1 y→HH k=none→nF w.heap.size y u5 (LL (k+1))∧bA y T q qb (MM (k+1))∧Mv [q,qb] w y):=fun w1 y h1 h2 h3 h4=>by
    refine ⟨?_,h1.av h3,(BO.out.trans h2).trans (Mv.aB h3)⟩;rw [GI.out,h4];simp only [Option.toList_none,List.append_nil];exact aN (mX Ax.out h2 EC.out) h3
   clear Dl FW Ly HO Db AD Cb Bo Jo Bf Dt;unfold afm at HR;cases hh:Dk.here m ((k:Int)+1) with
   | false =>
    have HN:=Dj hh;rw [hh] at HR;simp only [Bool.false_eq_true,if_false] at HR;clear Dj Iq Fp HGLk hh;go_wp2_with (go_at_call 41;refine HR.out.mono ?_;rintro e1 w1 ⟨p1,c1,rfl,Ai,AL,AX⟩)
    obtain ⟨h1,h2,h3⟩:=CI.out w1 w1 AL.out AX.out (Below.refl _ _) HN;exact ⟨⟨k+1,by omega,by go_num,h1,h2,h3⟩,by simp [intOf];omega⟩
   | true =>
    have Cs:=qh (Iq hh);rw [hh] at HR;simp only [if_true] at HR;clear Dj Iq hh;generalize Dk.bK m ((k:Int)+1)=B at *;obtain ⟨eg,sg⟩:∃ x,x=G ((k:Int)+1) B:=⟨_,rfl⟩;rw [← sg] at Cs Fp HGLk;obtain ⟨x1,kk,ee,nn,aa,L⟩:=eg;clear sg;have j6:=HGLk.out;dsimp only at j6;have A8:Hid (∀ y p n c,L.length=n→Bs y p c L→qc 47 #[.slice p n c] y (eJ L y)):=fun y p n c hn hy=>yx L p n c hn (by omega) y hy;clear HGLk j6;by_cases hx:x1=0
    case neg =>
     have HN:HH k=none:=by rw [Cs.out];exact Rg.ajf hx
     have CY:(x1==0)=false:=by simpa using hx
     have Ag:(x1 != 0)=true:=by simpa using hx
     clear Cs A8 hx;go_upto_region 8 with (first
      | (go_at_call 41;refine HR.out.mono ?_;rintro e1 w1 ⟨q1,c1,rfl,Ai,AL,AX⟩;have HM1x:=qh (BO.out.trans AX.out))
      | (go_at_call 46;refine (Fp.out _ _ _ HM1x.out Ai.out).mono ?_;rintro e2 w2 ⟨u2,m2,d2,rfl,AP,AA,Ar,Al⟩;have Aj:=qh Al;have Bw:=qh AP;clear Al AP))
     obtain ⟨w3,AH⟩:∃ y,y=w2.alloc (SO kk ee nn aa u2 m2 d2):=⟨_,rfl⟩;have Ao:Hid (qw w1 w3):=by rw [AH];exact Aj.out.alloc Aj.out.size _
     have AY:Hid (Bs w3 u2 d2 L):=by rw [AH];exact Ar.out.av ((Below.refl _ w2).alloc qn _)
     have Au:Hid (cA w3 w2.heap.size kk ee nn aa u2 m2 d2):=by rw [AH];exact cA.new w2 _ _ _ _ _ _ _
     have Iy:Hid (w2.heap.size<w3.heap.size):=Au.out.lt;change Code.wp _ _ _ _ (w2.alloc (SO kk ee nn aa u2 m2 d2));rw [← AH];clear AH Ai AA Ar Fp HR;generalize w2.heap.size=gs at *;go_wp2;obtain ⟨h1,h2,h3⟩:=CI.out w1 _ AL.out AX.out Ao.out HN;exact ⟨⟨k+1,by omega,by go_num,h1,h2,h3⟩,by simp [intOf];omega⟩
    case pos =>
     subst hx;by_cases h2:Rg.er L=0
     case neg =>
      have HN:HH k=none:=by rw [Cs.out];exact Rg.aiX rfl h2
      have CY:(Rg.er L==0)=false:=by simpa using h2
      have Ag:(Rg.er L != 0)=true:=by simpa using h2
      clear Cs h2;go_upto_region 8 with (first
       | (go_at_call 41;refine HR.out.mono ?_;rintro e1 w1 ⟨q1,c1,rfl,Ai,AL,AX⟩;have HM1x:=qh (BO.out.trans AX.out))
       | (go_at_call 46;refine (Fp.out _ _ _ HM1x.out Ai.out).mono ?_;rintro e2 w2 ⟨u2,m2,d2,rfl,AP,AA,Ar,Al⟩;have Aj:=qh Al;have Bw:=qh AP;clear Al AP))
      obtain ⟨w3,AH⟩:∃ y,y=w2.alloc (SO kk ee nn aa u2 m2 d2):=⟨_,rfl⟩;have Ao:Hid (qw w1 w3):=by rw [AH];exact Aj.out.alloc Aj.out.size _
      have AY:Hid (Bs w3 u2 d2 L):=by rw [AH];exact Ar.out.av ((Below.refl _ w2).alloc qn _)
      have Au:Hid (cA w3 w2.heap.size kk ee nn aa u2 m2 d2):=by rw [AH];exact cA.new w2 _ _ _ _ _ _ _
      have Iy:Hid (w2.heap.size<w3.heap.size):=Au.out.lt;change Code.wp _ _ _ _ (w2.alloc (SO kk ee nn aa u2 m2 d2));rw [← AH];clear AH Ai AA Ar Fp HR;generalize w2.heap.size=gs at *;have CB:Hid (Rg.Ok (Rg.gt L)):=Rg.my AY.out.bat.1;have Aw:Hid ((br (Rg.gt L)).size=136):=aA CB.out;have An:Hid ((br (Rg.gt L)).all (·.oneCell')=true):=dm _;have Kg:=qh (iQ CB.out);have DB:∀ (z:World) (g:Nat) (t:TypeId),z.heap[g]?=qo (br (Rg.gt L)) t→z.cell? ⟨g,2,none⟩=some (.int .i64 (Rg.gt L).ep):=fun z g t hz=>by
       obtain ⟨A,_,_,_,_,e1,hk⟩:=s7 CB.out;rw [cM] at e1;injection e1 with e1
       rw [e1] at hz;exact (hk.ints z g t hz).2.2.1
      have GH:=qh (fun y=>gg _ CB.out y);have Bb:=qh (fun y (hy:qw w3 y)=>A8.out y u2 m2 d2 Bw.out (AY.out.av hy));unfold eJ at Bb;rw [cM] at Bb GH;clear A8;generalize Rg.er L=er at *;generalize br (Rg.gt L)=A at *;have c4:=Au.out.c4;go_upto_region 10 with (first
       | (go_at_call 47;refine (Bb.out _ (Below.refl _ _)).mono ?_;rintro e4 w4 ⟨rfl,Av⟩)
       | ((with_reducible refine ak _ _ _ _ _ _ _ ?_ ?_ (heap_alloc_new _ _) (ae Tryz.ah Aw) ?_ An.out ?_);(exact rfl);(exact rfl);(rw [Aw.out,AB.out]);intro w5 G5 AZ))
      have Ay:Hid (qw w3 w5):=AZ.below (Av.out.alloc Av.out.size _) Av.out.size;have Br:Hid (qw w1 w5):=Ao.out.trans (Ay.out.mono Ao.out.size);have R5:Hid (∀ y,qw w5 y→y.heap[w4.heap.size]?=qo A 45):=fun y hy=>(hy.block _ (lt_of_block G5)).trans G5;have c1:=(Au.out.av Ay.out).c1;have c2:=DB _ _ _ G5;clear AZ Av Bb c4;generalize w4.heap.size=gr at *;go_wp2;obtain ⟨h1,h2,h3⟩:=CI.out w1 _ AL.out AX.out Br.out HN;exact ⟨⟨k+1,by omega,by go_num,h1,h2,h3⟩,by simp [intOf];omega⟩
     case pos =>
      by_cases h3:(Rg.gt L).ep=ee
      case neg =>
       have HN:HH k=none:=by rw [Cs.out];exact Rg.aiY rfl h2 h3
       have As:((Rg.gt L).ep==ee)=false:=by simpa using h3
       have Ef:=qh h2;clear Cs h2 h3;go_upto_region 8 with (first
        | (go_at_call 41;refine HR.out.mono ?_;rintro e1 w1 ⟨q1,c1,rfl,Ai,AL,AX⟩;have HM1x:=qh (BO.out.trans AX.out))
        | (go_at_call 46;refine (Fp.out _ _ _ HM1x.out Ai.out).mono ?_;rintro e2 w2 ⟨u2,m2,d2,rfl,AP,AA,Ar,Al⟩;have Aj:=qh Al;have Bw:=qh AP;clear Al AP))
       obtain ⟨w3,AH⟩:∃ y,y=w2.alloc (SO kk ee nn aa u2 m2 d2):=⟨_,rfl⟩;have Ao:Hid (qw w1 w3):=by rw [AH];exact Aj.out.alloc Aj.out.size _
       have AY:Hid (Bs w3 u2 d2 L):=by rw [AH];exact Ar.out.av ((Below.refl _ w2).alloc qn _)
       have Au:Hid (cA w3 w2.heap.size kk ee nn aa u2 m2 d2):=by rw [AH];exact cA.new w2 _ _ _ _ _ _ _
       have Iy:Hid (w2.heap.size<w3.heap.size):=Au.out.lt;change Code.wp _ _ _ _ (w2.alloc (SO kk ee nn aa u2 m2 d2));rw [← AH];clear AH Ai AA Ar Fp HR;generalize w2.heap.size=gs at *;have CB:Hid (Rg.Ok (Rg.gt L)):=Rg.my AY.out.bat.1;have Aw:Hid ((br (Rg.gt L)).size=136):=aA CB.out;have An:Hid ((br (Rg.gt L)).all (·.oneCell')=true):=dm _;have Kg:=qh (iQ CB.out);have DB:∀ (z:World) (g:Nat) (t:TypeId),z.heap[g]?=qo (br (Rg.gt L)) t→z.cell? ⟨g,2,none⟩=some (.int .i64 (Rg.gt L).ep):=fun z g t hz=>by
        obtain ⟨A,_,_,_,_,e1,hk⟩:=s7 CB.out;rw [cM] at e1;injection e1 with e1
        rw [e1] at hz;exact (hk.ints z g t hz).2.2.1
       have GH:=qh (fun y=>gg _ CB.out y);have Bb:=qh (fun y (hy:qw w3 y)=>A8.out y u2 m2 d2 Bw.out (AY.out.av hy));unfold eJ at Bb;rw [cM] at Bb GH;clear A8;rw [Ef.out] at Bb;clear Ef;generalize (Rg.gt L).ep=ep at *;generalize br (Rg.gt L)=A at *;have c4:=Au.out.c4;go_upto_region 10 with (first
        | (go_at_call 47;refine (Bb.out _ (Below.refl _ _)).mono ?_;rintro e4 w4 ⟨rfl,Av⟩)
        | ((with_reducible refine ak _ _ _ _ _ _ _ ?_ ?_ (heap_alloc_new _ _) (ae Tryz.ah Aw) ?_ An.out ?_);(exact rfl);(exact rfl);(rw [Aw.out,AB.out]);intro w5 G5 AZ))
       have Ay:Hid (qw w3 w5):=AZ.below (Av.out.alloc Av.out.size _) Av.out.size;have Br:Hid (qw w1 w5):=Ao.out.trans (Ay.out.mono Ao.out.size);have R5:Hid (∀ y,qw w5 y→y.heap[w4.heap.size]?=qo A 45):=fun y hy=>(hy.block _ (lt_of_block G5)).trans G5;have c1:=(Au.out.av Ay.out).c1;have c2:=DB _ _ _ G5;clear AZ Av Bb c4;generalize w4.heap.size=gr at *;go_wp2;obtain ⟨h1,h2,h3⟩:=CI.out w1 _ AL.out AX.out Br.out HN;exact ⟨⟨k+1,by omega,by go_num,h1,h2,h3⟩,by simp [intOf];omega⟩
      case pos =>
       have Ef:=qh h2;have Fo:=qh h3;have Qv:(ee==ee)=true:=by simp
       by_cases h4:Rg.home (Rg.gt L)=(k:Int)+1
       case neg =>
        have HN:HH k=none:=by rw [Cs.out];exact Rg.aic rfl h2 h3 h4
        have AJ:(Rg.home (Rg.gt L)==(k:Int)+1)=false:=by simpa using h4
        clear Cs h2 h3 h4;go_upto_region 8 with (first
         | (go_at_call 41;refine HR.out.mono ?_;rintro e1 w1 ⟨q1,c1,rfl,Ai,AL,AX⟩;have HM1x:=qh (BO.out.trans AX.out))
         | (go_at_call 46;refine (Fp.out _ _ _ HM1x.out Ai.out).mono ?_;rintro e2 w2 ⟨u2,m2,d2,rfl,AP,AA,Ar,Al⟩;have Aj:=qh Al;have Bw:=qh AP;clear Al AP))
        obtain ⟨w3,AH⟩:∃ y,y=w2.alloc (SO kk ee nn aa u2 m2 d2):=⟨_,rfl⟩;have Ao:Hid (qw w1 w3):=by rw [AH];exact Aj.out.alloc Aj.out.size _
        have AY:Hid (Bs w3 u2 d2 L):=by rw [AH];exact Ar.out.av ((Below.refl _ w2).alloc qn _)
        have Au:Hid (cA w3 w2.heap.size kk ee nn aa u2 m2 d2):=by rw [AH];exact cA.new w2 _ _ _ _ _ _ _
        have Iy:Hid (w2.heap.size<w3.heap.size):=Au.out.lt;change Code.wp _ _ _ _ (w2.alloc (SO kk ee nn aa u2 m2 d2));rw [← AH];clear AH Ai AA Ar Fp HR;generalize w2.heap.size=gs at *;have CB:Hid (Rg.Ok (Rg.gt L)):=Rg.my AY.out.bat.1;have Aw:Hid ((br (Rg.gt L)).size=136):=aA CB.out;have An:Hid ((br (Rg.gt L)).all (·.oneCell')=true):=dm _;have Kg:=qh (iQ CB.out);have DB:∀ (z:World) (g:Nat) (t:TypeId),z.heap[g]?=qo (br (Rg.gt L)) t→z.cell? ⟨g,2,none⟩=some (.int .i64 (Rg.gt L).ep):=fun z g t hz=>by
         obtain ⟨A,_,_,_,_,e1,hk⟩:=s7 CB.out;rw [cM] at e1;injection e1 with e1
         rw [e1] at hz;exact (hk.ints z g t hz).2.2.1
        have GH:=qh (fun y=>gg _ CB.out y);have Bb:=qh (fun y (hy:qw w3 y)=>A8.out y u2 m2 d2 Bw.out (AY.out.av hy));unfold eJ at Bb;rw [cM] at Bb GH;clear A8;rw [Ef.out] at Bb;rw [Fo.out] at DB;clear Ef Fo;generalize Rg.home (Rg.gt L)=J6 at *;generalize br (Rg.gt L)=A at *;have c4:=Au.out.c4;go_upto_region 10 with (first
         | (go_at_call 47;refine (Bb.out _ (Below.refl _ _)).mono ?_;rintro e4 w4 ⟨rfl,Av⟩)
         | ((with_reducible refine ak _ _ _ _ _ _ _ ?_ ?_ (heap_alloc_new _ _) (ae Tryz.ah Aw) ?_ An.out ?_);(exact rfl);(exact rfl);(rw [Aw.out,AB.out]);intro w5 G5 AZ))
        have Ay:Hid (qw w3 w5):=AZ.below (Av.out.alloc Av.out.size _) Av.out.size;have Br:Hid (qw w1 w5):=Ao.out.trans (Ay.out.mono Ao.out.size);have R5:Hid (∀ y,qw w5 y→y.heap[w4.heap.size]?=qo A 45):=fun y hy=>(hy.block _ (lt_of_block G5)).trans G5;have c1:=(Au.out.av Ay.out).c1;have c2:=DB _ _ _ G5;clear AZ Av Bb c4;generalize w4.heap.size=gr at *;go_wp2_with (first
         | ((with_reducible refine gL _ _ _ _ _ _ _ ?_ ?_ G5.out underlying45 ?_ (ae Tryz.ah Aw) ?_);(exact rfl);(exact rfl);(exact rfl))
         | (go_at_call 48;refine (GH.out _).mono ?_;rintro e6 w6 ⟨rfl,BJ⟩;have AU:=qh (Br.out.trans (BJ.mono Br.out.size));have R6:=qh (R5.out _ BJ);clear BJ))
        obtain ⟨h1,h2,h3⟩:=CI.out w1 _ AL.out AX.out AU.out HN;exact ⟨⟨k+1,by omega,by go_num,h1,h2,h3⟩,by simp [intOf];omega⟩
       case pos =>
        have HN:Hid (HH k=some (Rg.gt L)):=by show _=_;rw [Cs.out];exact Rg.agd rfl h2 h3 h4
        have Hy:=qh h4;have LM:((k:Int)+1==(k:Int)+1)=true:=by simp
        obtain ⟨N,hN⟩:∃ N,(LL k).length=N:=⟨_,rfl⟩;have EY:Hid (N≤100000):=by have:=AV.out.2;show _≤_;omega
        have FU:=qh hN;clear Cs h2 h3 h4 hN;go_upto_region 8 with (first
         | (go_at_call 41;refine HR.out.mono ?_;rintro e1 w1 ⟨q1,c1,rfl,Ai,AL,AX⟩;have HM1x:=qh (BO.out.trans AX.out))
         | (go_at_call 46;refine (Fp.out _ _ _ HM1x.out Ai.out).mono ?_;rintro e2 w2 ⟨u2,m2,d2,rfl,AP,AA,Ar,Al⟩;have Aj:=qh Al;have Bw:=qh AP;clear Al AP))
        obtain ⟨w3,AH⟩:∃ y,y=w2.alloc (SO kk ee nn aa u2 m2 d2):=⟨_,rfl⟩;have Ao:Hid (qw w1 w3):=by rw [AH];exact Aj.out.alloc Aj.out.size _
        have AY:Hid (Bs w3 u2 d2 L):=by rw [AH];exact Ar.out.av ((Below.refl _ w2).alloc qn _)
        have Au:Hid (cA w3 w2.heap.size kk ee nn aa u2 m2 d2):=by rw [AH];exact cA.new w2 _ _ _ _ _ _ _
        have Iy:Hid (w2.heap.size<w3.heap.size):=Au.out.lt;change Code.wp _ _ _ _ (w2.alloc (SO kk ee nn aa u2 m2 d2));rw [← AH];clear AH Ai AA Ar Fp HR;generalize w2.heap.size=gs at *;have CB:Hid (Rg.Ok (Rg.gt L)):=Rg.my AY.out.bat.1;have Aw:Hid ((br (Rg.gt L)).size=136):=aA CB.out;have An:Hid ((br (Rg.gt L)).all (·.oneCell')=true):=dm _;have Kg:=qh (iQ CB.out);have DB:∀ (z:World) (g:Nat) (t:TypeId),z.heap[g]?=qo (br (Rg.gt L)) t→z.cell? ⟨g,2,none⟩=some (.int .i64 (Rg.gt L).ep):=fun z g t hz=>by
         obtain ⟨A,_,_,_,_,e1,hk⟩:=s7 CB.out;rw [cM] at e1;injection e1 with e1
         rw [e1] at hz;exact (hk.ints z g t hz).2.2.1
        have GH:=qh (fun y=>gg _ CB.out y);have Bb:=qh (fun y (hy:qw w3 y)=>A8.out y u2 m2 d2 Bw.out (AY.out.av hy));unfold eJ at Bb;rw [cM] at Bb GH;clear A8;rw [Ef.out] at Bb;rw [Fo.out] at DB;rw [Hy.out] at GH;clear Ef Fo Hy;have c4:=Au.out.c4;go_upto_region 10 with (first
         | (go_at_call 47;refine (Bb.out _ (Below.refl _ _)).mono ?_;rintro e4 w4 ⟨rfl,Av⟩)
         | ((with_reducible refine ak _ _ _ _ _ _ _ ?_ ?_ (heap_alloc_new _ _) (ae Tryz.ah Aw) ?_ An.out ?_);(exact rfl);(exact rfl);(rw [Aw.out,AB.out]);intro w5 G5 AZ))
        have Ay:Hid (qw w3 w5):=AZ.below (Av.out.alloc Av.out.size _) Av.out.size;have Br:Hid (qw w1 w5):=Ao.out.trans (Ay.out.mono Ao.out.size);have R5:Hid (∀ y,qw w5 y→y.heap[w4.heap.size]?=qo (br (Rg.gt L)) 45):=fun y hy=>(hy.block _ (lt_of_block G5)).trans G5;have c1:=(Au.out.av Ay.out).c1;have c2:=DB _ _ _ G5;clear AZ Av Bb c4;generalize w4.heap.size=gr at *;have HO5:Hid (nF w.heap.size w5 u5 (LL k)):=aN (mX Ax.out AX.out EC.out) Br.out;go_upto_region 11 with (first
         | ((with_reducible refine gL _ _ _ _ _ _ _ ?_ ?_ G5.out underlying45 ?_ (ae Tryz.ah Aw) ?_);(exact rfl);(exact rfl);(exact rfl))
         | (go_at_call 48;refine (GH.out _).mono ?_;rintro e6 w6 ⟨rfl,BJ⟩;have AU:=qh (Br.out.trans (BJ.mono Br.out.size));have R6:=qh (R5.out _ BJ);clear BJ))
        have Lg:Hid (nF w.heap.size w6 u5 (LL k)):=aN (mX Ax.out AX.out EC.out) AU.out;have Sn:Hid (w.heap.size≤w6.heap.size):=Nat.le_trans (Nat.le_trans Fe.out AX.out.size) AU.out.size;go_wp2_with (first
         | ((with_reducible refine ay _ _ _ _ _ _ _ ?_ R6.out underlying45 ?_ Kg.out ?_);(exact rfl);(exact rfl))
         | ((with_reducible refine ace _ (Rg.gt L) CB.out ?_ ?_);(exact rfl))
         | ((with_reducible refine aaW _ _ w.heap.size _ (LL k) (Rg.gt L) ?_ ?_ Lg.out AV.out.1 CB.out N FU.out EY.out Sn.out ?_);(exact rfl);(exact rfl);intro q9 d9 w9 O9 K9 _))
        have Dh:Hid (Below w.heap.size w6 w9):=K9;exact ⟨⟨k+1,by omega,by go_num,by rw [GI.out,HN.out];simp only [Option.toList_some];exact O9.out,Sj.out _ _ _ (AL.out.av AU.out) Dh.out,zz ((BO.out.trans AX.out).trans (Mv.aB AU.out)) Dh.out⟩,by simp [intOf];omega⟩
  ·have E:k=2:=by omega
   subst E;have Bc:¬ ((2:Nat):Int)+1≤2:=by omega
   clear Ae;go_wp2;go_ret;exact ⟨_,rfl,Ax,(AD.out 2 (by omega)).1,Dt,BO⟩
end
section
open Go.RowKit
section
variable {w z:World} {T:Nat→Prop} {r qb B:Nat} {m:Dk.M} {K:List Int} {g:Nat}
theorem yb (x:Rg.R) (hr:Rg.Ok x) (n:Int) (hd:bA w T r qb m) (hb:gQ B w g K) (ht:cT w 1) (CG:m.wr≤1000000000) :
  qc 39 #[qp r,qp g,RV x,.int .i64 n] w (rv x (Rg.bX K x n) T r qb m w) :=
 r7 ⟨g,0,none⟩ x hr n (Rg.bX K x n) w hd (Rg.aaN K hr n) CG fun _ y p c hy hp=>by
  have hq:=ab7 K B g (Rg.sec x n) p 192 c (Rg.gA hr n) y (hb.av hy) (by unfold Rg.sec;exact hp) (ht.below hy ht.lt);have hv:Sv (Rg.sec x n) p 192 c=SV 2 x.ep n (Rg.home x) p 192 c:=by unfold Rg.sec Sv;rfl
  rw [hv,show Sc.pt (an.sl K) (Rg.sec x n)=Rg.bX K x n from rfl] at hq;exact hq
theorem agQ (hd:bA w T r qb m) (hb:gQ B w g K) (hB:r<B∧qb<B) (hK:1 ∉ [r,qb]) (ht:cT w 1) (CA:∀ j,m.rd j≤999999990)
  (j6:∀ k:Nat,k<2→(Rg.bG K ((k:Int)+1) (Dk.bK m ((k:Int)+1))).2.L.length≤900000)
  (sY:∀ k:Nat,k<2→ai.aY (Rg.bG K ((k:Int)+1) (Dk.bK m ((k:Int)+1))).2.L) :
  qc 15 #[qp r,qp g] w (afc (Rg.al m (Rg.bG K)) T r qb (Rg.fL m 2) w) :=
 yd ⟨g,0,none⟩ (Rg.bG K) w hd CA j6 sY fun k _ y q n c hm hn hbs=>by
  have hq:Qd w [r,qb] y:=(Qd.refl w _).mv hm;exact abF K B g 2 _ _ q n c hn y (ail hb hB hq) hbs (ac6 ht hK hq)
end
end
section
open Go.RowKit
section
variable {w y z:World} {K:List Int} {d lb rb cb r qb gs gr B:Nat} {T U:Nat→Prop} {m n m' n':Dk.M}
def A4 (B:Nat) (L:List Rg.R) (y:World) (F:World→Prop) (e:Ending) (z:World):Prop:=∃ v,e = .returned v∧Hid (nF y.heap.size z v L)∧Hid (∀ x∈L,Rg.Ok x)∧Hid (F z)∧Hid (Kp B y z)
def R4 (B:Nat) (X:List Int) (E:Int) (y:World) (F:World→Prop) (e:Ending) (z:World):Prop:=∃ p c,e = .returned (.tuple #[.slice p X.length c,.int .i64 E])∧Hid (Bs z p c X)∧Hid (F z)∧Hid (Kp B y z)
theorem zV (GN:aV) (x:Rg.R) (hr:Rg.Ok x) (num:Int) (CG:m.wr≤1000000000) (h:bB w K d lb rb cb r qb gs gr B m n y) :
  qc 30 #[qp d,.iface 33 (qp gs),RV x,.int .i64 num] y (C4 B y (bB w K d lb rb cb r qb gs gr B (Rg.wM m x (Rg.bX K x num)) n) (.int .i64 (Rg.wE m x (Rg.bX K x num)))):=by
 obtain ⟨T,U,h⟩:=h;refine (ye GN x hr num h.dk h.bx h.ts' CG).mono ?_;rintro x z ⟨h1,h2,h3⟩;exact ⟨h1,qh ⟨_,_,h.ff h3.out h2.out⟩,Kp.eP h3.out h.ofd⟩
theorem zv (x:Rg.R) (hr:Rg.Ok x) (num:Int) (CG:n.wr≤1000000000) (h:bB w K d lb rb cb r qb gs gr B m n y) :
  qc 39 #[qp r,qp gr,RV x,.int .i64 num] y (C4 B y (bB w K d lb rb cb r qb gs gr B m (Rg.wM n x (Rg.bX K x num))) (.int .i64 (Rg.wE n x (Rg.bX K x num)))):=by
 obtain ⟨T,U,h⟩:=h;refine (yb x hr num h.rf h.cr h.tk' CG).mono ?_;rintro x z ⟨h1,h2,h3⟩;exact ⟨h1,qh ⟨_,_,h.mvr h3.out h2.out⟩,Kp.eP h3.out h.ofr⟩
theorem ajm (GN:aV) (CA:∀ j,m.rd j≤999999990)
  (j6:∀ k:Nat,k<2→(Rg.bG K ((k:Int)+1) (Dk.bK m ((k:Int)+1))).2.L.length≤900000)
  (sY:∀ k:Nat,k<2→ai.aY (Rg.bG K ((k:Int)+1) (Dk.bK m ((k:Int)+1))).2.L) (h:bB w K d lb rb cb r qb gs gr B m n y) :
  qc 14 #[qp d,.iface 33 (qp gs)] y (A4 B (Rg.al m (Rg.bG K)) y (bB w K d lb rb cb r qb gs gr B (Rg.fL m 2) n)):=by
 obtain ⟨T,U,h⟩:=h;refine (afA GN h.dk h.bx h.ts' CA j6 sY).mono ?_;rintro x z ⟨v,h1,h2,h3,h4,h5⟩;exact ⟨v,h1,h2,h3,qh ⟨_,_,h.ff h5.out h4.out.own⟩,Kp.eP h5.out h.ofd⟩
theorem aif (CA:∀ j,n.rd j≤999999990)
  (j6:∀ k:Nat,k<2→(Rg.bG K ((k:Int)+1) (Dk.bK n ((k:Int)+1))).2.L.length≤900000)
  (sY:∀ k:Nat,k<2→ai.aY (Rg.bG K ((k:Int)+1) (Dk.bK n ((k:Int)+1))).2.L) (h:bB w K d lb rb cb r qb gs gr B m n y) :
  qc 15 #[qp r,qp gr] y (A4 B (Rg.al n (Rg.bG K)) y (bB w K d lb rb cb r qb gs gr B m (Rg.fL n 2))):=by
 obtain ⟨T,U,h⟩:=h;refine (agQ h.rf h.cr h.lt.2 h.ofK h.tk' CA j6 sY).mono ?_;rintro x z ⟨v,h1,h2,h3,h4,h5⟩;exact ⟨v,h1,h2,h3,qh ⟨_,_,h.mvr h5.out (h4.out.own _)⟩,Kp.eP h5.out h.ofr⟩
theorem aft (i:Int) (CA:∀ j,m.rd j≤1000000000) (h:bB w K d lb rb cb r qb gs gr B m n y):qc 16 #[qp d,.int .i64 i] y (R4 B (Dk.bK m i) (Dk.fC m i) y (bB w K d lb rb cb r qb gs gr B (Dk.dG m i) n)):=by
 obtain ⟨T,U,h⟩:=h;refine (nI i y h.dk CA).mono ?_;rintro x z ⟨v,h1,h2,h3,h4⟩;obtain ⟨p,c,rfl,hb,_⟩:=bH h2.out.1 h2.out.2;exact ⟨p,c,h1,hb,qh ⟨_,_,h.ff h4.out h3.out.own⟩,Kp.eP h4.out h.ofd⟩
theorem aid (i:Int) (CA:∀ j,n.rd j≤1000000000) (h:bB w K d lb rb cb r qb gs gr B m n y):qc 41 #[qp r,.int .i64 i] y (R4 B (Dk.bK n i) (Dk.fC n i) y (bB w K d lb rb cb r qb gs gr B m (Dk.dG n i))):=by
 obtain ⟨T,U,h⟩:=h;refine (jT i y h.rf CA).mono ?_;rintro x z ⟨v,h1,h2,h3,h4⟩;obtain ⟨p,c,rfl,hb,_⟩:=bH h2.out.1 h2.out.2;exact ⟨p,c,h1,hb,qh ⟨_,_,h.mvr h4.out (h3.out.own _)⟩,Kp.eP h4.out h.ofr⟩
theorem oA (i:Int) (L:List Int) (p:Option Addr) (k c:Nat) (hn:L.length=k) (Iu:k≤1000000) (hb:Bs y p c L) (h:bB w K d lb rb cb r qb gs gr B m n y) :
  qc 35 #[qp d,.int .i64 i,.slice p k c] y (C4 B y (bB w K d lb rb cb r qb gs gr B (Dk.iX m i L) n) (.int .i64 (Dk.fault m i L))):=by
 obtain ⟨T,U,h⟩:=h;refine (uF i L p k c hn Iu y h.dk hb).mono ?_;rintro x z ⟨h1,h2,h3⟩;exact ⟨h1,qh ⟨_,_,h.ff h3.out h2.out⟩,Kp.eP h3.out h.ofd⟩
theorem nV (i:Int) (L:List Int) (p:Option Addr) (k c:Nat) (hn:L.length=k) (Iu:k≤1000000) (hb:Bs y p c L) (h:bB w K d lb rb cb r qb gs gr B m n y) :
  qc 40 #[qp r,.int .i64 i,.slice p k c] y (C4 B y (bB w K d lb rb cb r qb gs gr B m (Dk.iX n i L)) (.int .i64 (Dk.fault n i L))):=by
 obtain ⟨T,U,h⟩:=h;obtain ⟨vl,vc,G,hz⟩:=h.rf;refine (rA i L p k c hn Iu y hz hb).mono ?_;rintro x z ⟨h1,h2,h3⟩;exact ⟨h1,qh ⟨_,_,h.mvr h3.out h2.out⟩,Kp.eP h3.out h.ofr⟩
theorem afR (h:bB w K d lb rb cb r qb gs gr B m n y):qc 36 #[qp d] y (C4 B y (bB w K d lb rb cb r qb gs gr B (Dk.nZ m) n) (.int .i64 (Dk.aM m))):=by
 obtain ⟨T,U,h⟩:=h;refine (acq y h.dk).mono ?_;rintro x z ⟨h1,h2,h3⟩;exact ⟨h1,qh ⟨_,_,h.ff h3.out h2.out.own⟩,Kp.eP h3.out h.ofd⟩
theorem afT (h:bB w K d lb rb cb r qb gs gr B m n y):qc 42 #[qp r] y (C4 B y (bB w K d lb rb cb r qb gs gr B m (Dk.nZ n)) (.int .i64 (Dk.aM n))):=by
 obtain ⟨T,U,h⟩:=h;obtain ⟨vl,vc,G,hz⟩:=h.rf;refine (yC y hz).mono ?_;rintro x z ⟨h1,h2,h3⟩;exact ⟨h1,qh ⟨_,_,h.mvr h3.out h2.out⟩,Kp.eP h3.out h.ofr⟩
theorem adS (L:List Int) (p:Option Addr) (k c:Nat) (hn:L.length=k) (CG:m.wr≤1000000000) (hl:∀ z,Mv [d,lb,rb,cb] y z→IAt z p L) (h:bB w K d lb rb cb r qb gs gr B m n y) :
  qc 37 #[qp d,.slice p k c] y (C4 B y (bB w K d lb rb cb r qb gs gr B (Dk.cY m (Dk.cD L)) n) (.tuple #[])):=by
 obtain ⟨T,U,h⟩:=h;refine (x5 L p k c hn y h.dk CG hl).mono ?_;rintro x z ⟨h1,h2,h3⟩;exact ⟨h1,qh ⟨_,_,h.ff h3.out h2.out.own⟩,Kp.eP h3.out h.ofd⟩
theorem adU (L:List Int) (p:Option Addr) (k c:Nat) (hn:L.length=k) (hl:∀ z,Mv [r,qb] y z→IAt z p L) (h:bB w K d lb rb cb r qb gs gr B m n y) :
  qc 43 #[qp r,.slice p k c] y (C4 B y (bB w K d lb rb cb r qb gs gr B m (Dk.cY n (Dk.cD L))) (.tuple #[])):=by
 obtain ⟨T,U,h⟩:=h;obtain ⟨vl,vc,G,hz⟩:=h.rf;subst hn;refine (th L p c y hz hl).mono ?_;rintro x z ⟨h1,h2,h3⟩;exact ⟨h1,qh ⟨_,_,h.mvr h3.out h2.out⟩,Kp.eP h3.out h.ofr⟩
theorem acT (i:Nat) (hn:i<n.n) (h:bB w K d lb rb cb r qb gs gr B m n y):qc 18 #[qp r,.int .i64 (i:Int)] y fun e z=>∃ p c,e = .returned (.slice p (Dk.cG n i).length c)∧Hid (Bs z p c (Dk.cG n i))∧Hid (qw y z):=by
 obtain ⟨T,U,h⟩:=h;obtain ⟨vl,vc,G,hr⟩:=h.rf;refine (kM i hn y hr).mono ?_;rintro x z ⟨v,h1,h2,h3⟩;obtain ⟨p,c,rfl,hb,_⟩:=bH h2.out.1 h2.out.2;exact ⟨p,c,h1,hb,h3⟩
theorem agk (K:List Int) (a:Int) (b:List Int):ai.aY (Rg.bG K a b).2.L:=by
 unfold Rg.bG Sc.gt;split
 ·cases hq:an.op K (Sc.ep (b.take 17)) (Sc.nu (b.take 17)) (Sc.mk 2 a) (b.drop 17) with
  | none=>exact fun x hx=>by cases hx
  | some R=>exact an.af6 hq
 ·exact fun x hx=>by cases hx
theorem ahO (K:List Int) (a:Int) (b:List Int):(Rg.bG K a b).2.L.length≤b.length:=afY K 2 a b
theorem Rg.afJ {m o:Dk.M} (h:Eqv m o) (G:Int→List Int→Int × Sc.S):Rg.al o G=Rg.al m G:=by
 unfold Rg.al;have hk:∀ k,Rg.nz o G k=Rg.nz m G k:=fun k=>by
  induction k with
  | zero=>rfl
  | succ k ih =>
   unfold Rg.nz Rg.pF;rw [ih,Rg.vC _ _ (Rg.rN h.1 h.2.1 h.2.2 _)]
 exact hk 2
theorem bB.pP (h:bB w K d lb rb cb r qb gs gr B m n y) (i:Int):(Dk.bK m i).length≤1024:=by
 obtain ⟨_,_,h⟩:=h;unfold Dk.bK;split
 ·exact h.dk.acA _
 ·exact Nat.zero_le _
end
end
section
open Go.RowKit
theorem afl (x:Rg.O) (h:Rg.Ok x.r) (pd:Option Addr) (cd:Nat) (pf:Option Addr) (cf:Nat):(oc x pd cd pf cf)[0]?=some (.int .i64 x.k)∧(oc x pd cd pf cf)[1]?=some (.int .i64 x.n)∧(oc x pd cd pf cf)[2]?=some (.int .i64 x.m)∧(∀ j,j<136→(oc x pd cd pf cf)[3+j]?=(cv x.r)[j]?)∧(oc x pd cd pf cf)[139]?=some (.slice pd x.D.length cd)∧(oc x pd cd pf cf)[140]?=some (.slice pf x.L.length cf):=by
 have hl:=dr h;unfold oc;refine ⟨rfl,rfl,rfl,fun j hj=>?_,?_,?_⟩
 ·rw [List.getElem?_append_right (by simp),List.getElem?_append_left (by simp [hl];omega)];congr 1;simp
 ·rw [List.getElem?_append_right (by simp),List.getElem?_append_right (by simp [hl])];simp [hl]
 ·rw [List.getElem?_append_right (by simp),List.getElem?_append_right (by simp [hl])];simp [hl]
theorem afS (x:Rg.O) (pd:Option Addr) (cd:Nat) (pf:Option Addr) (cf:Nat):∀ v∈oc x pd cd pf cf,v.oneCell'=true:=fun v hv=>by
 unfold oc at hv;rw [List.mem_append,List.mem_append] at hv;rcases hv with q | q | q
 ·simp only [List.mem_cons,List.not_mem_nil,or_false] at q;rcases q with rfl | rfl | rfl<;>rfl
 ·exact jn x.r v q
 ·simp only [List.mem_cons,List.not_mem_nil,or_false] at q;rcases q with rfl | rfl<;>rfl
structure rq (x:Rg.O) (A:Array Value) (pd:Option Addr) (cd:Nat) (pf:Option Addr) (cf:Nat):Prop where
 size:A.size=141
 one:A.all (·.oneCell')=true
 at_:∀ (y:World) (g:Nat) (t:TypeId),y.heap[g]?=qo A t→y.cell? ⟨g,0,none⟩=some (.int .i64 x.k)∧y.cell? ⟨g,1,none⟩=some (.int .i64 x.n)∧y.cell? ⟨g,2,none⟩=some (.int .i64 x.m)∧y.rangeAt g 3 (br x.r).toList∧y.cell? ⟨g,139,none⟩=some (.slice pd x.D.length cd)∧y.cell? ⟨g,140,none⟩=some (.slice pf x.L.length cf)
theorem opk (x:Rg.O) (h:Rg.Ok x.r) (pd:Option Addr) (cd:Nat) (pf:Option Addr) (cf:Nat):rq x (oc x pd cd pf cf).toArray pd cd pf cf:=by
 obtain ⟨a0,a1,a2,a3,a4,a5⟩:=afl x h pd cd pf cf;refine ⟨by rw [List.size_toArray,ag8 h],all_oneCell_toArray (afS x pd cd pf cf),fun y g t hg=>?_⟩;have hc:∀ j,y.cell? ⟨g,j,none⟩=(oc x pd cd pf cf)[j]?:=fun j=>by rw [cell_of_row y g j _ _ _ hg,List.getElem?_toArray]
 refine ⟨(hc 0).trans a0,(hc 1).trans a1,(hc 2).trans a2,fun j v hv=>?_,(hc 139).trans a4,(hc 140).trans a5⟩;have hj:=(List.getElem?_eq_some_iff.1 hv).1;have hl:(br x.r).toList.length=136:=by rw [Array.length_toList];exact aA h
 rw [hc,a3 j (by omega)];exact hv
theorem Tryz.zZ:(prog.info? 48).map (·.size)=some 141:=by kernel_rfl
def oF (X:List Rg.O) (n:Nat):Prop:=n≤60∧∀ i,i<n→(X.getD i Rg.dF).D.length≤1024∧(X.getD i Rg.dF).L.length≤100
namespace Rg
theorem zG (m:Dk.M) (i:Int) (L:List Int):(Dk.iX m i L).wr=m.wr∧(Dk.iX m i L).rd=m.rd∧(Dk.iX m i L).n=m.n:=by
 unfold Dk.iX;split<;>exact ⟨rfl,rfl,rfl⟩
theorem afF (m:Dk.M) (i:Int) (L:List Int):(Dk.iX m i L).wr≤m.wr+1∧(∀ j,(Dk.iX m i L).rd j≤m.rd j+1)∧(Dk.iX m i L).n=m.n:=by
 obtain ⟨h1,h2,h3⟩:=zG m i L;exact ⟨by omega,fun j=>by rw [h2];omega,h3⟩
theorem ml (m:Dk.M) (i:Int):(Dk.dG m i).wr≤m.wr+1∧(∀ j,(Dk.dG m i).rd j≤m.rd j+1)∧(Dk.dG m i).n=m.n:=by
 unfold Dk.dG;split
 ·refine ⟨Nat.le_succ _,fun j=>?_,rfl⟩;show aZ m.rd i.toNat (m.rd i.toNat+1) j≤_;unfold aZ;split
  ·rename_i h;rw [h];exact Nat.le_refl _
  ·exact Nat.le_succ _
 ·exact ⟨Nat.le_succ _,fun j=>Nat.le_succ _,rfl⟩
end Rg
def adr (X:List Rg.O) (n:Nat) (w:World) (e:Ending) (w':World):Prop:=∃ b,e = .returned (.bool b)∧Hid (qw w w')∧Hid (b=false→oF X n)∧Hid (b=true→¬ oF X n)
theorem rB (X:List Rg.O) (p:Option Addr) (n c:Nat) (hn:X.length=n) (w:World) (hp:Os w p X):qc 5 #[.slice p n c] w (adr X n w):=by
 have HP:=qh hp;have HN:=qh hn;clear hp hn;by_cases h60:(n:Int)>60
 ·go_enter func5,ntmps5;go_wp2;go_ret;exact ⟨true,rfl,Below.refl _ _,(fun h=>by cases h),fun _ h=>by have:=h.1;omega⟩
 ·have hle:Hid (n≤60):=by show _≤_;omega
  go_enter func5,ntmps5;go_wp2;go_loopw [3] (fun v3 wr=>∃ k:Nat,k≤n∧v3 = .int .i64 k∧Hid (∀ i,i<k→(X.getD i Rg.dF).D.length≤1024∧(X.getD i Rg.dF).L.length≤100)∧Hid (qw w wr)) (fun v3 _=>n-(intOf v3).toNat)
  case atStart=>exact ⟨0,by omega,rfl,fun i hi=>by omega,Below.refl _ _⟩
  case round =>
   obtain ⟨k,hk,rfl,HE,HB⟩:=hrel;by_cases Ae:k<n
   ·obtain ⟨ab,ao,CM,hi⟩:=(HP.out.av HB.out) (by rw [HN.out];omega);subst CM;obtain ⟨pd,cd,pf,cf,hr,hop⟩:=hi k (by rw [HN.out];exact Ae);obtain ⟨_,_,_,_,a4,a5⟩:=afl (X.getD k Rg.dF) hop.ok pd cd pf cf;have c4:=hr 139 _ a4;have c5:=hr 140 _ a5;have HS:Hid ((X.getD k Rg.dF).D.length≤1024→(X.getD k Rg.dF).L.length≤100→∀ i,i<k+1→(X.getD i Rg.dF).D.length≤1024∧(X.getD i Rg.dF).L.length≤100):=fun h1 h2 i hi=>by
     by_cases e:i=k
     ·subst e;exact ⟨h1,h2⟩
     ·exact HE.out i (by omega)
    have P7:Hid ((X.getD k Rg.dF).D.length>1024∨(X.getD k Rg.dF).L.length>100→¬ oF X n):=fun h hP=>by have:=hP.2 k Ae;omega
    clear hr hop a4 a5 hi;have Ni:0≤(k:Int):=by omega
    have Gl:(k:Int)<(n:Int):=by omega
    generalize (X.getD k Rg.dF).D.length=nd at *;generalize (X.getD k Rg.dF).L.length=nl at *;by_cases h1:(nd:Int)>1024
    ·go_wp2;go_ret;exact ⟨true,rfl,HB,(fun h=>by cases h),fun _=>P7.out (Or.inl (by omega))⟩
    ·by_cases h2:(nl:Int)>100
     ·go_wp2;go_ret;exact ⟨true,rfl,HB,(fun h=>by cases h),fun _=>P7.out (Or.inr (by omega))⟩
     ·have Ar:=qh (HS.out (by omega) (by omega));clear HS HE;go_wp2;exact ⟨⟨k+1,by omega,by go_num,Ar.out,HB.out⟩,by simp [intOf];omega⟩
   ·have Bc:n≤k:=by omega
    clear Ae;go_wp2;go_ret;exact ⟨false,rfl,HB,fun _=>⟨hle.out,fun i hi=>HE.out i (by omega)⟩,fun h=>by cases h⟩
theorem aav (X:List Rg.O) (p:Option Addr) (n c:Nat) (hn:X.length=n) (w:World) (hp:Os w p X) (h:¬ oF X n):qc 5 #[.slice p n c] w (xB true w) :=
 (rB X p n c hn w hp).mono fun e w' ⟨b,h1,h2,h3,_⟩=>by
  cases b with
  | true=>exact ⟨h1,h2.out⟩
  | false=>exact absurd (h3.out rfl) h
theorem ad7 (X:List Rg.O) (p:Option Addr) (n c:Nat) (hn:X.length=n) (w:World) (hp:Os w p X) (h:oF X n):qc 5 #[.slice p n c] w (xB false w) :=
 (rB X p n c hn w hp).mono fun e w' ⟨b,h1,h2,_,h4⟩=>by
  cases b with
  | false=>exact ⟨h1,h2.out⟩
  | true=>exact absurd h (h4.out rfl)
end
end Go.Proofs.YthgjfjmampmiiaaGreatDoor

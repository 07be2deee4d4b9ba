/-
  DkX8, DkX9 (merged)
-/
import Derived.Test.YthgjfjmampmiiaaGreatDoorDk5
namespace Go.Proofs.YthgjfjmampmiiaaGreatDoor
open Go.Proofs.Tryz
set_option maxHeartbeats 4000000
set_option maxRecDepth 100000
section
open Go.RowKit
section
variable {U:Nat→Prop} {r qb:Nat} {m:Dk.M} {vl vc:Value} {G:Nat→Option (List Int)}
theorem Dk.xA {m:Dk.M} {k:Nat} {x:Dk.S} (h:(Dk.cI m.ca m.n)[k]?=some x):(Dk.dl m)[k]?=some x.1∧m.ca x.1=some x.2∧x.1<m.n:=by
 have h1:=Dk.lO _ _ (List.mem_of_getElem? h);refine ⟨?_,h1.2,h1.1⟩;have h2:=Dk.pW m.ca m.n;have h3:((Dk.cI m.ca m.n).map (·.1))[k]?=some x.1:=by rw [List.getElem?_map,h];rfl
 rw [h2] at h3;exact h3
theorem Dk.abw (m:Dk.M):(Dk.cI m.ca m.n).length=(Dk.dl m).length:=by
 have h:=congrArg List.length (Dk.pW m.ca m.n);rw [List.length_map] at h;exact h
theorem yC (w:World) (hd:eT w U r qb vl vc m G):qc 42 #[qp r] w (kq U r qb (.int .i64 (Dk.aM m)) (Dk.nZ m) w):=by
 have HD:=qh hd;clear hd;cases hg:Dk.gone m with
 | true =>
  have e1:Dk.aM m=12:=by unfold Dk.aM;rw [if_pos hg]
  have e2:Dk.nZ m=Dk.aK m:=by unfold Dk.nZ;rw [if_pos hg]
  go_enter func42,ntmps42;go_wp2_with (go_at_call 85;refine (gI _ HD.out).mono ?_;rw [e1];rintro e w2 ⟨rfl,Cv,AP⟩)
  go_ret;refine ⟨by first | rfl | (rw [e1];rfl),?_,qh (AP.out.more (fun k hk=>by simp at hk ⊢;exact Or.inl hk))⟩;first | rw [e2] | skip
  exact qh (bA.own ⟨vl,vc,G,Cv.out⟩ _)
 | false =>
  have e1:Dk.aM m=0:=by unfold Dk.aM;rw [hg];rfl
  have E2:Hid (Dk.nZ m=Dk.synced (Dk.aK m)):=by show _=_;unfold Dk.nZ;rw [hg];rfl
  obtain ⟨m2,hm2e⟩:∃ m2,Hid (Dk.aK m=m2):=⟨_,rfl⟩;go_enter func42,ntmps42;go_upto_region 5 with (go_at_call 85;refine (gI _ HD.out).mono ?_;rw [e1];rintro e w2 ⟨rfl,Cv,AP⟩;rw [hm2e.out] at Cv;have AX:=qh AP.out;have AL:=qh Cv.out;clear AP Cv)
  clear HD;obtain ⟨l,hl⟩:∃ l,Hid (Dk.cI m2.ca m2.n=l):=⟨_,rfl⟩;have NY:Hid (l.length≤5000):=by show _≤_;rw [← hl.out];have:=Dk.eB m2.ca m2.n;have:=AL.out.ok.n2;omega
  obtain ⟨a,cap,MA,ha⟩:=AL.out.cac.len;rw [hl.out] at MA ha;subst MA;have HA:=qh ha;clear ha;go_loopw [4] (fun v4 wr=>∃ (k:Nat) (vl':Value) (G':Nat→Option (List Int)) (m':Dk.M),k≤l.length∧v4 = .int .i64 k∧Hid (∀ i,m'.ls i=if i∈(Dk.dl m2).take k then Dk.cG m2 i else m2.ls i)∧Hid (m'.n=m2.n∧m'.ca=m2.ca∧m'.rd=m2.rd∧m'.wr=m2.wr∧m'.left=m2.left∧m'.down=m2.down)∧Hid (eT wr (Own U w2 wr) r qb vl' (.slice a l.length cap) m' G')∧Hid (Mv [r,qb] w2 wr)) (fun v4 _=>l.length-(intOf v4).toNat)
  case atStart =>
   refine ⟨0,vl,G,m2,Nat.zero_le _,rfl,qh (fun i=>by simp),qh ⟨rfl,rfl,rfl,rfl,rfl,rfl⟩,qh (AL.out.lift (fun _ h=>Or.inl h) (fun g hg=>?_)),qh (Mv.refl _ _)⟩;rcases hg with hg | hg
   ·exact AL.out.top g hg
   ·exact hg.2
  case round =>
   obtain ⟨k,vl',G',m',hk,rfl,Db,BT,HC,BQ⟩:=hrel;have c5:=HC.out.cells.2.2.2.2.2.1;by_cases Ae:k<l.length
   ·obtain ⟨x,hx⟩:∃ x,l[k]?=some x:=⟨_,List.getElem?_eq_getElem Ae⟩;have Ka:=hx;rw [← hl.out] at Ka;obtain ⟨g1,g2,g3⟩:=Dk.xA Ka;have HG:=qh (show (Dk.dl m2)[k]?=some x.1∧m2.ca x.1=some x.2∧x.1<m2.n from ⟨g1,g2,g3⟩);obtain ⟨gs,rfl⟩:=HA.out (by omega);have Ep:=HC.out.cac;rw [BT.out.1,BT.out.2.1,hl.out] at Ep;obtain ⟨u,c0,c1,hu⟩:=Ep.at hx;obtain ⟨p,c,rfl,_⟩:=hu.bs;have HU:=qh hu;have Dg:=NY.out;have GP:(0:Int)≤(k:Int):=by omega
    have Ec:(k:Int)<(l.length:Int):=by omega
    have c4:=HC.out.cells.2.2.2.2.1;have Dr:=HC.out.las;obtain ⟨al,ql,rfl,_⟩:=Dr.len;have K4:=qh Dr;clear hx Ka g1 g2 g3 Ep hu Dr;have HN:=qh HC.out.ok.n2;obtain ⟨nl,Cr⟩:∃ nl,Hid ((Dk.cI G' m'.n).length=nl):=⟨_,rfl⟩;rw [Cr.out] at c4 K4;go_upto_region 7 with (fail)
    go_region_law (go_simp;go_at_call 83;refine (gJ (Dk.cI G' m'.n) x (Own U w2 wr) (.slice al nl ql) p c _ (K4.out.av ((Below.refl _ wr).drew)) (HU.out.av ((Below.refl _ wr).drew)) (by have:=Dk.eB G' m'.n;have:=HN.out;omega)).mono ?_;rintro e w5 ⟨v5,rfl,Dg,BC⟩;obtain ⟨a5,q5,rfl,_⟩:=Dg.out.len;obtain ⟨l5,hl5e⟩:∃ l5,Hid ((Dk.ins (Dk.cI G' m'.n) x).length=l5):=⟨_,rfl⟩;rw [hl5e.out] at Dg ⊢;have Ei:=qh Dg.out;have B5:Hid (qw wr w5):=qh (((Below.refl _ wr).drew).trans BC.out);have R5:=qh ((B5.out.block r (HC.out.top r HC.out.lt.1)).trans HC.out.row);have k5:w5.cell? ⟨r,4,none⟩=some (.slice al nl ql):=(by rw [cell_of_row w5 r 4 _ _ _ R5.out,← Cr.out];rfl);have f5:=frozen_of_row w5 r 4 _ _ R5.out;clear Dg BC)
    all_goals
     go_wp2;have Bn:=heap_setCell_same w5 r 4 _ _ (.slice a5 l5 q5) R5.out;have C6:bJ r w5 (w5.setCell ⟨r,4,none⟩ (.slice a5 l5 q5)):=bJ.setCell w5 ⟨r,4,none⟩ _;have EP:x.1<m'.n:=by rw [BT.out.1];exact HG.out.2.2
     have Ce:eN wr.heap.size w5 (Own (Own U w2 wr) wr w5) (.slice a5 l5 q5) (Dk.cI (aZ G' x.1 (some x.2)) m'.n):=by
      have h:=Ei.out;rw [show x=(x.1,x.2) from rfl,Dk.lJ _ _ _ _ EP] at h;exact h.lift (fun g hg=>Or.inl hg)
     have hL:x.2.length≤1024:=AL.out.ok.cab _ _ HG.out.2.1;have Bi:=HC.out.lay (m':={ m' with ls:=aZ m'.ls x.1 x.2 }) (vl':=.slice a5 l5 q5) (vc':=.slice (some ⟨gs,0,none⟩) l.length cap) (G':=aZ G' x.1 (some x.2)) B5.out C6 (by rw [Bn];simp [Dk.rl]) Ce.low (HC.out.tK B5.out).1 ⟨jY Ce qn,(HC.out.tK B5.out).2⟩ rfl rfl (fun i=>by
      show aZ m'.ls x.1 x.2 i=_;by_cases e:i=x.1
      ·subst e;rw [az,az];rfl
      ·rw [aq _ _ e,aq _ _ e];exact HC.out.ls i) ⟨HC.out.ok.n1,HC.out.ok.n2,HC.out.ok.out,HC.out.ok.left,(Dk.lr (j:=x.1) HC.out.ok hL).lsb,HC.out.ok.cab⟩
     have S6:=C6.size;have S5:=B5.out.size;have S2:=BQ.out.size;refine ⟨⟨k+1,_,aZ G' x.1 (some x.2),{ m' with ls:=aZ m'.ls x.1 x.2 },by omega,by go_num,qh (fun i=>?_),qh ⟨BT.out.1,BT.out.2.1,BT.out.2.2.1,BT.out.2.2.2.1,BT.out.2.2.2.2.1,BT.out.2.2.2.2.2⟩,qh (Bi.lift (fun g hg=>?_) (fun g hg=>?_)),qh (BQ.out.trans ((Mv.aB B5.out).trans (Mv.only C6.only (by simp))))⟩,by simp [intOf];omega⟩
     ·show aZ m'.ls x.1 x.2 i=_;rw [List.take_add_one,HG.out.1];by_cases e:i=x.1
      ·subst e;rw [az,if_pos (by simp)];unfold Dk.cG;rw [HG.out.2.1]
       rfl
      ·rw [aq _ _ e,Db.out];by_cases h:i∈(Dk.dl m2).take k
       ·rw [if_pos h,if_pos (List.mem_append_left _ h)]
       ·rw [if_neg h,if_neg (fun h'=>by
         rcases List.mem_append.1 h' with h' | h'
         ·exact h h'
         ·simp at h';exact e h')]
     ·rcases hg with (hg | hg) | hg
      ·exact Or.inl hg
      ·exact Or.inr ⟨hg.1,by have:=hg.2;omega⟩
      ·exact Or.inr ⟨by have:=hg.1;omega,hg.2⟩
     ·rcases hg with hg | hg
      ·exact Bi.top g (Or.inl (Or.inl hg))
      ·exact hg.2
   ·obtain rfl:k=l.length:=by omega
    have f5:=frozen_of_row wr r 5 _ _ HC.out.row;go_wp2;go_ret;have Bn:=heap_setCell_same wr r 5 _ _ (.slice none 0 0) HC.out.row;have C6:bJ r wr (wr.setCell ⟨r,5,none⟩ (.slice none 0 0)):=bJ.setCell wr ⟨r,5,none⟩ _;have B0:qw wr wr:=Below.refl _ _;have Bi:=HC.out.lay (m':={ m' with ca:=fun _=>none }) (vl':=vl') (vc':=.slice none 0 0) (G':=G') B0 C6 (by rw [Bn];simp [Dk.rl]) (HC.out.pL B0).1 (by show eN _ _ _ _ (Dk.cI (fun _=>none) m'.n);rw [Dk.ly];exact iK _ _ _) ⟨(HC.out.pL B0).2,(fun g hg=>by cases hg)⟩ rfl rfl HC.out.ls ⟨HC.out.ok.n1,HC.out.ok.n2,(fun _ _=>rfl),HC.out.ok.left,HC.out.ok.lsb,(fun i L hL=>by cases hL)⟩;have hm:({ m' with ca:=fun _=>none }:Dk.M)=Dk.synced m2:=by
     have L9:m'.ls=Dk.cG m2:=by
      funext i
      rw [Db.out,← hl.out,Dk.abw,List.take_length];by_cases h:i∈Dk.dl m2
      ·rw [if_pos h]
      ·rw [if_neg h];unfold Dk.cG;cases e:m2.ca i with
       | none=>rfl
       | some L =>
        exfalso
        apply h
        rw [Dk.mN];refine ⟨?_,by rw [e];rfl⟩;by_cases q:i<m2.n
        ·exact q
        ·rw [AL.out.ok.out i (by omega)] at e;cases e
     obtain ⟨h1,h2,h3,h4,h5,h6⟩:=BT.out;unfold Dk.synced;rw [← L9,← h1,← h3,← h4,← h5,← h6]
    rw [hm] at Bi;have S6:=C6.size;have S2:=BQ.out.size;have S1:=AX.out.size;refine ⟨by first | rfl | (rw [e1];rfl),?_,qh ?_⟩
    ·rw [E2.out,hm2e.out];refine qh (bA.lift ⟨_,_,_,Bi⟩ (fun g hg=>?_) (fun g hg=>?_))
     ·rcases hg with (hg | hg) | hg
      ·exact Or.inl hg
      ·exact Or.inr ⟨by have:=hg.1;omega,by have:=hg.2;omega⟩
      ·exact Or.inr ⟨by have:=hg.1;omega,hg.2⟩
     ·rcases hg with hg | hg
      ·exact Bi.top g (Or.inl (Or.inl hg))
      ·exact hg.2
    ·exact (AX.out.more (fun k hk=>by simp at hk ⊢;exact Or.inl hk)).trans (BQ.out.trans (Mv.only C6.only (by simp)))
end
end
section
open Go.RowKit
section
variable {U:Nat→Prop} {r qb:Nat} {m:Dk.M} {vl vc:Value} {G:Nat→Option (List Int)}
theorem th (L:List Int) (lp:Option Addr) (lc:Nat) (w:World) (hd:eT w U r qb vl vc m G) (QL:∀ y,Mv [r,qb] w y→IAt y lp L):qc 43 #[qp r,.slice lp L.length lc] w (kq U r qb (.tuple #[]) (Dk.cY m (Dk.cD L)) w):=by
 have HD:=qh hd;have Sd:=qh QL;clear hd QL;go_enter func43,ntmps43;go_upto_region 1 with (fail)
 obtain ⟨l,hl⟩:∃ l,Hid (Dk.cI m.ca m.n=l):=⟨_,rfl⟩;have NY:Hid (l.length≤5000):=by show _≤_;rw [← hl.out];have:=Dk.eB m.ca m.n;have:=HD.out.ok.n2;omega
 obtain ⟨a,cap,MA,ha⟩:=HD.out.cac.len;rw [hl.out] at MA ha;subst MA;have HA:=qh ha;clear ha;go_loopw [4] (fun v4 wr=>∃ (k:Nat) (vl':Value) (G':Nat→Option (List Int)) (m':Dk.M),k≤l.length∧v4 = .int .i64 k∧Hid (∀ i,m'.ls i=(Dk.fT m (Dk.cD L) k).ls i)∧Hid (m'.n=m.n∧m'.ca=m.ca∧m'.rd=m.rd∧m'.wr=m.wr∧m'.left=m.left∧m'.down=m.down)∧Hid (eT wr (Own U w wr) r qb vl' (.slice a l.length cap) m' G')∧Hid (Mv [r,qb] w wr)) (fun v4 _=>l.length-(intOf v4).toNat)
 case atStart =>
  refine ⟨0,vl,G,m,Nat.zero_le _,rfl,qh (fun i=>rfl),qh ⟨rfl,rfl,rfl,rfl,rfl,rfl⟩,qh (HD.out.lift (fun _ h=>Or.inl h) (fun g hg=>?_)),qh (Mv.refl _ _)⟩;rcases hg with hg | hg
  ·exact HD.out.top g hg
  ·exact hg.2
 case round =>
   obtain ⟨k,vl',G',m',hk,rfl,Db,BT,HC,BQ⟩:=hrel;have c5:=HC.out.cells.2.2.2.2.2.1;by_cases Ae:k<l.length
   ·obtain ⟨x,hx⟩:∃ x,l[k]?=some x:=⟨_,List.getElem?_eq_getElem Ae⟩;have Ka:=hx;rw [← hl.out] at Ka;obtain ⟨g1,g2,g3⟩:=Dk.xA Ka;have HG:=qh (show (Dk.dl m)[k]?=some x.1∧m.ca x.1=some x.2∧x.1<m.n from ⟨g1,g2,g3⟩);have HT:Hid (Dk.fT m (Dk.cD L) (k+1)=if Dk.cD L k then Dk.settle (Dk.fT m (Dk.cD L) k) x.1 else Dk.drop (Dk.fT m (Dk.cD L) k) x.1):=Dk.na g1;have Rp:Hid ((Dk.fT m (Dk.cD L) k).ca x.1=m.ca x.1):=(Dk.jE m (Dk.cD L) x.1 k (fun q hq e=>by have:=Dk.pG e g1;omega)).1;obtain ⟨gs,rfl⟩:=HA.out (by omega);have Ep:=HC.out.cac;rw [BT.out.1,BT.out.2.1,hl.out] at Ep;obtain ⟨u,c0,c1,hu⟩:=Ep.at hx;obtain ⟨p,c,rfl,_⟩:=hu.bs;have HU:=qh hu;have Dg:=NY.out;have GP:(0:Int)≤(k:Int):=by omega
    have Ec:(k:Int)<(l.length:Int):=by omega
    have c4:=HC.out.cells.2.2.2.2.1;have Dr:=HC.out.las;obtain ⟨al,ql,rfl,_⟩:=Dr.len;have K4:=qh Dr;clear hx Ka g1 g2 g3 Ep hu Dr;have HN:=qh HC.out.ok.n2;obtain ⟨nl,Cr⟩:∃ nl,Hid ((Dk.cI G' m'.n).length=nl):=⟨_,rfl⟩;rw [Cr.out] at c4 K4;by_cases hkL:k<L.length
    ·obtain ⟨ab,ao,rfl,BK⟩:=Sd.out _ BQ.out (by omega);have cj:=BK k hkL;clear BK;have QK:(k:Int)<(L.length:Int):=by omega
     obtain ⟨z,hz⟩:∃ z,L.getD k 0=z:=⟨_,rfl⟩;rw [hz] at cj;by_cases hz0:z=0
     ·subst hz0;have hF:Dk.cD L k=false:=by rw [Dk.cD,hz];simp
      go_wp2;exact ⟨⟨k+1,_,G',m',by omega,by go_num,qh (fun i=>by rw [HT.out,hF,if_neg (by decide)];exact Db.out i),BT,HC,BQ⟩,by simp [intOf];omega⟩
     ·have hF:Dk.cD L k=true:=by rw [Dk.cD,hz];simp [hkL,hz0]
      have UB:(z==0)=false:=by simp [hz0]
      go_upto_region 4 with (fail)
      go_region_law (go_simp;go_at_call 83;refine (gJ (Dk.cI G' m'.n) x (Own U w wr) (.slice al nl ql) p c _ (K4.out.av ((Below.refl _ wr).drew)) (HU.out.av ((Below.refl _ wr).drew)) (by have:=Dk.eB G' m'.n;have:=HN.out;omega)).mono ?_;rintro e w5 ⟨v5,rfl,Dg,BC⟩;obtain ⟨a5,q5,rfl,_⟩:=Dg.out.len;obtain ⟨l5,hl5e⟩:∃ l5,Hid ((Dk.ins (Dk.cI G' m'.n) x).length=l5):=⟨_,rfl⟩;rw [hl5e.out] at Dg ⊢;have Ei:=qh Dg.out;have B5:Hid (qw wr w5):=qh (((Below.refl _ wr).drew).trans BC.out);have R5:=qh ((B5.out.block r (HC.out.top r HC.out.lt.1)).trans HC.out.row);have k5:w5.cell? ⟨r,4,none⟩=some (.slice al nl ql):=(by rw [cell_of_row w5 r 4 _ _ _ R5.out,← Cr.out];rfl);have f5:=frozen_of_row w5 r 4 _ _ R5.out;clear Dg BC)
      all_goals
       go_wp2;have Bn:=heap_setCell_same w5 r 4 _ _ (.slice a5 l5 q5) R5.out;have C6:bJ r w5 (w5.setCell ⟨r,4,none⟩ (.slice a5 l5 q5)):=bJ.setCell w5 ⟨r,4,none⟩ _;have EP:x.1<m'.n:=by rw [BT.out.1];exact HG.out.2.2
       have Ce:eN wr.heap.size w5 (Own (Own U w wr) wr w5) (.slice a5 l5 q5) (Dk.cI (aZ G' x.1 (some x.2)) m'.n):=by
        have h:=Ei.out;rw [show x=(x.1,x.2) from rfl,Dk.lJ _ _ _ _ EP] at h;exact h.lift (fun g hg=>Or.inl hg)
       have hL:x.2.length≤1024:=HD.out.ok.cab _ _ HG.out.2.1;have Bi:=HC.out.lay (m':={ m' with ls:=aZ m'.ls x.1 x.2 }) (vl':=.slice a5 l5 q5) (vc':=.slice (some ⟨gs,0,none⟩) l.length cap) (G':=aZ G' x.1 (some x.2)) B5.out C6 (by rw [Bn];simp [Dk.rl]) Ce.low (HC.out.tK B5.out).1 ⟨jY Ce qn,(HC.out.tK B5.out).2⟩ rfl rfl (fun i=>by
        show aZ m'.ls x.1 x.2 i=_;by_cases e:i=x.1
        ·subst e;rw [az,az];rfl
        ·rw [aq _ _ e,aq _ _ e];exact HC.out.ls i) ⟨HC.out.ok.n1,HC.out.ok.n2,HC.out.ok.out,HC.out.ok.left,(Dk.lr (j:=x.1) HC.out.ok hL).lsb,HC.out.ok.cab⟩
       have S6:=C6.size;have S5:=B5.out.size;have S2:=BQ.out.size;refine ⟨⟨k+1,_,aZ G' x.1 (some x.2),{ m' with ls:=aZ m'.ls x.1 x.2 },by omega,by go_num,qh (fun i=>?_),qh ⟨BT.out.1,BT.out.2.1,BT.out.2.2.1,BT.out.2.2.2.1,BT.out.2.2.2.2.1,BT.out.2.2.2.2.2⟩,qh (Bi.lift (fun g hg=>?_) (fun g hg=>?_)),qh (BQ.out.trans ((Mv.aB B5.out).trans (Mv.only C6.only (by simp))))⟩,by simp [intOf];omega⟩
       ·show aZ m'.ls x.1 x.2 i=_;rw [HT.out,hF,if_pos rfl];show _=aZ (Dk.fT m (Dk.cD L) k).ls x.1 _ i;by_cases e:i=x.1
        ·subst e;rw [az,az,Rp.out,HG.out.2.1]
         rfl
        ·rw [aq _ _ e,aq _ _ e];exact Db.out i
       ·rcases hg with (hg | hg) | hg
        ·exact Or.inl hg
        ·exact Or.inr ⟨hg.1,by have:=hg.2;omega⟩
        ·exact Or.inr ⟨by have:=hg.1;omega,hg.2⟩
       ·rcases hg with hg | hg
        ·exact Bi.top g (Or.inl (Or.inl hg))
        ·exact hg.2
    ·have hF:Dk.cD L k=false:=by rw [Dk.cD];simp [hkL]
     have QK:(L.length:Int)≤(k:Int):=by omega
     go_wp2;exact ⟨⟨k+1,_,G',m',by omega,by go_num,qh (fun i=>by rw [HT.out,hF,if_neg (by decide)];exact Db.out i),BT,HC,BQ⟩,by simp [intOf];omega⟩
   ·obtain rfl:k=l.length:=by omega
    have f5:=frozen_of_row wr r 5 _ _ HC.out.row;have R1:=qh (heap_setCell_same wr r 5 _ _ (.slice none 0 0) HC.out.row);obtain ⟨w1,Fe⟩:∃ y:World,Hid (wr.setCell ⟨r,5,none⟩ (.slice none 0 0)=y):=⟨_,rfl⟩;have C1:Hid (bJ r wr w1):=by show bJ _ _ _;rw [← Fe.out];exact bJ.setCell wr ⟨r,5,none⟩ _
    rw [Fe.out] at R1;have f1:=frozen_of_row w1 r 1 _ _ R1.out;have c1:w1.cell? ⟨r,1,none⟩=some (.int .i64 (Dk.rl m')):=by rw [cell_of_row w1 r 1 _ _ _ R1.out];rfl
    have R2:=qh (heap_setCell_same w1 r 1 _ _ (.int .i64 (-1)) R1.out);obtain ⟨w2,Fs⟩:∃ y:World,Hid (w1.setCell ⟨r,1,none⟩ (.int .i64 (-1))=y):=⟨_,rfl⟩;have C2:Hid (bJ r w1 w2):=by show bJ _ _ _;rw [← Fs.out];exact bJ.setCell w1 ⟨r,1,none⟩ _
    rw [Fs.out] at R2;have f3:=frozen_of_row w2 r 3 _ _ R2.out;have c3:w2.cell? ⟨r,3,none⟩=some (.bool m'.down):=by rw [cell_of_row w2 r 3 _ _ _ R2.out];rfl
    have R3:=qh (heap_setCell_same w2 r 3 _ _ (.bool false) R2.out);go_upto_region 6 with (fail)
    rw [Fe.out];go_upto_region 7 with (fail)
    rw [Fs.out];go_wp2;go_end0
    have C3:bJ r w2 (w2.setCell ⟨r,3,none⟩ (.bool false)):=bJ.setCell w2 ⟨r,3,none⟩ _;have C6:=(C1.out.trans C2.out).trans C3;have B0:qw wr wr:=Below.refl _ _;have hm:({ m' with ca:=fun _=>none,left:=-1,down:=false }:Dk.M)=Dk.cY m (Dk.cD L):=by
     have OH:=Dk.nR m (Dk.cD L) (Dk.dl m).length;have L9:m'.ls=(Dk.fT m (Dk.cD L) (Dk.dl m).length).ls:=by
      funext i
      rw [Db.out,← hl.out,Dk.abw]
     have JW:(fun _=>none:Nat→Option (List Int))=(Dk.fT m (Dk.cD L) (Dk.dl m).length).ca:=by
      funext i
      exact (Dk.uf (f:=Dk.cD L) HD.out.ok.out i).symm
     obtain ⟨h1,h2,h3,h4,h5,h6⟩:=BT.out;unfold Dk.cY;rw [L9,h1,h3,h4,JW,← OH.1,← OH.2.1,← OH.2.2]
    have Bi:=HC.out.lay (m':={ m' with ca:=fun _=>none,left:=-1,down:=false }) (vl':=vl') (vc':=.slice none 0 0) (G':=G') B0 C6 (by rw [R3.out];simp [Dk.rl]) (HC.out.pL B0).1 (by show eN _ _ _ _ (Dk.cI (fun _=>none) m'.n);rw [Dk.ly];exact iK _ _ _) ⟨(HC.out.pL B0).2,(fun g hg=>by cases hg)⟩ rfl rfl HC.out.ls ⟨HC.out.ok.n1,HC.out.ok.n2,(fun _ _=>rfl),by unfold aT;dsimp only;omega,HC.out.ok.lsb,(fun i L hL=>by cases hL)⟩;rw [hm] at Bi;have S6:=C6.size;have S2:=BQ.out.size;refine ⟨rfl,?_,qh ?_⟩
    ·refine qh (bA.lift ⟨_,_,_,Bi⟩ (fun g hg=>?_) (fun g hg=>?_))
     ·rcases hg with (hg | hg) | hg
      ·exact Or.inl hg
      ·exact Or.inr ⟨hg.1,by have:=hg.2;omega⟩
      ·exact Or.inr ⟨by have:=hg.1;omega,hg.2⟩
     ·rcases hg with hg | hg
      ·exact Bi.top g (Or.inl (Or.inl hg))
      ·exact hg.2
    ·exact BQ.out.trans (Mv.only C6.only (by simp))
end
end
end Go.Proofs.YthgjfjmampmiiaaGreatDoor

import Derived.Test.YthgjfjmampmiiaaGreatDoorA5
import Derived.Test.YthgjfjmampmiiaaGreatDoorRows
import Derived.Stop.LaidErr
import Derived.ProofKit
import Derived.Lib.LaidTab
import Derived.SevenTiedAt
namespace Go.Proofs.YthgjfjmampmiiaaGreatDoor
open Go.Proofs.Tryz
set_option maxHeartbeats 4000000
set_option maxRecDepth 100000
section
open Go.RowKit
theorem iH {w:World} {B n g c:Nat} {xs:List Value} (h:w.ownsRow B 5 1 (.slice (some ⟨g,0,none⟩) n c) n xs):B≤g∧∃ cur:Array Value,w.heap[g]?=some (.cells cur 5 (0,0))∧n≤c∧c≤maxLen∧cur.size=c*1∧cur.toList.take (n*1)=xs:=by
 rcases h.2 with ⟨h1,_⟩ | ⟨g',cap,cur,h1,h2,h3,h4,h5,h6,h7⟩
 ·cases h1
 ·cases h1;exact ⟨h2,cur,h3,h4,h5,h6,h7⟩
theorem xx {w:World} {B n g c k:Nat} {l:List Int} {x:Int} (h:w.ownsRow B 5 1 (.slice (some ⟨g,0,none⟩) n c) n (aC l)) (_hk:k<n) :
  (w.setCell ⟨g,k,none⟩ (.int .u8 x)).ownsRow B 5 1 (.slice (some ⟨g,0,none⟩) n c) n (aC (l.set k x)):=by
 obtain ⟨h2,cur,h3,h4,h5,h6,h7⟩:=iH h;have hl:l.length=n:=by
  have:=h.1;unfold aC at this;simpa using this
 refine ⟨by unfold aC;simp [hl],Or.inr ⟨g,c,cur.setIfInBounds k (.int .u8 x),rfl,h2,heap_setCell_same w g k _ _ _ h3,h4,h5,by simpa using h6,?_⟩⟩;unfold aC at h7 ⊢;rw [Array.toList_setIfInBounds,List.take_set,h7,List.map_set]
theorem mw {w:World} {B n g c:Nat} {xs:List Value} (h:w.ownsRow B 5 1 (.slice (some ⟨g,0,none⟩) n c) n xs) (k:Nat):w.frozen? ⟨g,k,none⟩=false:=by
 obtain ⟨_,cur,h3,_⟩:=iH h;exact frozen_of_row w g k _ _ h3
theorem sq {w:World} {B B' n:Nat} {e:TypeId} {v:Value} {xs:List Value} (h:w.ownsRow B e 1 v n xs) (hb:B'≤B):w.ownsRow B' e 1 v n xs:=by
 refine ⟨h.1,?_⟩;rcases h.2 with h1 | ⟨g,cap,cur,h1,h2,h3⟩
 ·exact Or.inl h1
 ·exact Or.inr ⟨g,cap,cur,h1,Nat.le_trans hb h2,h3⟩
theorem og (x:Int) (K:List Int):(xl x (kb K)).length=64:=by rw [pe,gF]
theorem vW (K:List Int) (z:Nat) (h:K.length+z=64):K++List.replicate z 0=rP K:=by
 unfold rP;congr 2;omega
def mh (x:Int) (K:List Int) (w:World) (e:Ending) (w':World):Prop:=∃ v,e = .returned v∧w'.ownsRow w.heap.size 5 1 v 64 (aC (xl x (kb K)))∧qw w w'
theorem rz (x:Int) (K:List Int) (p:Option Addr) (n cap:Nat) (hn:K.length=n) (hk:n≤64) (w:World) (hp:cX w p K) :
  qc 149 #[.slice p n cap,.int .u8 x] w (mh x K w):=by
 subst hn;obtain ⟨i0,hi,hz0,hz1,hz2⟩:=info_parts Tryz.bu;have Hp:=qh hp;clear hp;have EW:Hid (rP K=kb K):=(mL K hk).symm;go_enter func149,ntmps149;go_wp2;go_loopw [5,6] (fun v i wr=>∃ k:Nat,k≤K.length∧i = .int .i64 k∧Hid (wr.ownsRow w.heap.size 5 1 v k (aC (K.take k)))∧Hid (qw w wr)) (fun _ i _=>K.length-(intOf i).toNat)
 case atStart=>exact ⟨0,Nat.zero_le _,rfl,by unfold aC;exact World.ownsRow_nil _ _ _ _,Below.refl _ _⟩
 case round =>
  obtain ⟨k,hk',rfl,HO,HB⟩:=hrel;by_cases Ae:k<K.length
  ·obtain ⟨ab,ao,CM,A7⟩:=(Hp.out.av HB.out).2 (by omega);subst CM;have c0:=A7 k Ae;clear A7;obtain ⟨y,hy⟩:∃ y,K.getD k 0=y:=⟨_,rfl⟩;rw [hy] at c0;go_wp2_with (first
    | (at_builtin;refine wpList_append_own _ rfl _ _ 22 rfl w.heap.size 5 i0 (.int .u8 0) 1 1 underlying22 hi hz0 hz1 hz2 rfl (by decide) _ _ _ rfl (HO.out.alloc _) ⟨wr.heap.size,0,none⟩ 1 1 [.int .u8 y] rfl rfl (dp _ _ _) (ek _) (by unfold maxLen;omega) (by omega) (by have:=HB.out.size;simp;omega) ?_)
    | go_in)
   intro v' w1 Aa Ac _;have Ag:=aF HB.out (HB.out.size) HO.out Ac;rw [aI,← hy,b8 K k Ae] at Aa;clear Ac HO HB;go_wp2;exact ⟨⟨k+1,by omega,by go_num,Aa,Ag⟩,by simp [intOf];omega⟩
  ·have E:k=K.length:=by omega
   have Cc:Hid (wr.ownsRow w.heap.size 5 1 u5 K.length (aC K)):=by
    have:=HO.out;rw [E,List.take_length] at this;exact this
   have Bd:=HB;have Bc:K.length≤k:=by omega
   clear Ae HO E HB;go_wp2;go_loopw [5] (fun v wr=>∃ z:Nat,K.length+z≤64∧lenOf v=K.length+z∧Hid (wr.ownsRow w.heap.size 5 1 v (K.length+z) (aC (K++List.replicate z 0)))∧Hid (qw w wr)) (fun v _=>64-lenOf v)
   case atStart =>
    refine ⟨0,by omega,?_,?_,Bd.out⟩
    ·obtain ⟨p,c,rfl⟩:=dC Cc.out
     rfl
    ·have h:=Cc.out;show World.ownsRow _ _ _ _ _ _ _;simpa using h
   case round =>
    clear Cc Bd;obtain ⟨z,hz,Dr,HO,HB⟩:=hrel;obtain ⟨pv,cv,hv⟩:=dC HO.out;rw [hv] at HO Dr ⊢;clear hv Dr;by_cases T5:K.length+z<64
    ·go_wp2_with (first
      | (at_builtin;refine wpList_append_own _ rfl _ _ 22 rfl w.heap.size 5 i0 (.int .u8 0) 1 1 underlying22 hi hz0 hz1 hz2 rfl (by decide) _ _ _ rfl (HO.out.alloc _) ⟨wr.heap.size,0,none⟩ 1 1 [.int .u8 0] rfl rfl (dp _ _ _) (ek _) (by unfold maxLen;omega) (by omega) (by have:=HB.out.size;simp;omega) ?_)
      | go_in)
     intro v' w1 Aa Ac _;have Ag:=aF HB.out (HB.out.size) HO.out Ac;rw [aI,List.append_assoc,se] at Aa;have Fy:lenOf v'=K.length+z+1:=by
      obtain ⟨p,c,rfl⟩:=dC Aa
      rfl
     clear Ac HO HB;go_wp2;exact ⟨⟨z+1,by omega,Fy,Aa,Ag⟩,by rw [Fy];simp [lenOf];omega⟩
    ·have Gx:K.length+z=64:=by omega
     have Ct:Hid (wr.ownsRow w.heap.size 5 1 (.slice pv (K.length+z) cv) 64 (aC (mx x (kb K) 0))):=by
      have h:=HO.out;rw [vW K z (by omega),EW.out] at h;rw [qA];rw [Gx] at h ⊢;exact h
     clear HO;obtain ⟨g4,Nt⟩:∃ g4,pv=some ⟨g4,0,none⟩:=by
      obtain ⟨g,c,h⟩:=du Ct.out (by decide);injection h with h1 _ _
      exact ⟨g,h1⟩
     subst Nt;have PI:64≤K.length+z:=by omega
     rw [Gx] at Ct ⊢;go_wp2;go_loopw [9] (fun v9 wr=>∃ k:Nat,k≤64∧v9 = .int .i64 k∧Hid (wr.ownsRow w.heap.size 5 1 (.slice (some ⟨g4,0,none⟩) 64 cv) 64 (aC (mx x (kb K) k)))∧Hid (qw w wr)) (fun v9 _=>64-(intOf v9).toNat)
     case atStart=>exact ⟨0,by omega,rfl,Ct.out,HB.out⟩
     case round =>
      clear Ct HB;obtain ⟨k,hk,rfl,HO,HB⟩:=hrel;by_cases DJ:k<64
      ·have c0:=dc HO.out k DJ;rw [vo x (kb K) k (by rw [gF];exact DJ)] at c0;have f0:=mw HO.out k;have hgB:=(iH HO.out).1;have HF:Hid ((mx x (kb K) k).set k (bits .xor .u8 ((kb K).getD k 0) x)=mx x (kb K) (k+1)):=pE x (kb K) k (by rw [gF];exact DJ);generalize (kb K).getD k 0=y at *;go_wp2;refine ⟨⟨k+1,by omega,by go_num,?_,?_⟩,by simp [intOf];omega⟩
       ·have h:=xx (k:=k) (x:=bits .xor .u8 y x) HO.out DJ;rw [HF.out] at h;exact h
       ·exact HB.out.setCell hgB _
      ·have E:k=64:=by omega
       subst E;have h:=HO.out;rw [tJ x (kb K) 64 (by rw [gF];omega)] at h;have HF:=qh h;clear h HO;go_wp2;go_ret;exact ⟨_,rfl,HF.out,HB.out⟩
theorem tU (x:Int) (K:List Int) (p:Option Addr) (n cap:Nat) (hn:K.length=n) (hk:64<n) (OX:n≤1000000) (w:World) (hp:cX w p K) (EO:cT w 1) :
  qc 149 #[.slice p n cap,.int .u8 x] w (mh x K w):=by
 subst hn;obtain ⟨i0,hi,hz0,hz1,hz2⟩:=info_parts Tryz.bu;have Hp:=qh hp;clear hp;have Hk:=qh EO;clear EO;have EW:Hid (rP (ai.dg K)=kb K):=(oP K hk).symm;obtain ⟨D,Dt,AL,Rw⟩:∃ A:Array Value,Hid (A=((ai.dg K).map (Value.int .u8)).toArray)∧Hid (A.size=32)∧Hid (A.all (·.oneCell')=true) :=
  ⟨_,rfl,by show _=_;simp [gD],all_oneCell_toArray (aw _)⟩
 have Ho:Hid ((ai.dg K).length=32):=gD K;have Es:64<(K.length:Int):=by omega
 go_enter func149,ntmps149;go_wp2;go_loopw [5,6] (fun v5 v6 wr=>v5 = .slice none 0 0∧v6 = .int .i64 0∧wr=w) (fun _ _ _=>0)
 case atStart=>exact ⟨rfl,rfl,rfl⟩
 case round =>
  obtain ⟨rfl,rfl,rfl⟩:=hrel;go_upto_region 8 with (first
   | (go_at_call 150;refine (jl K p cap _ (fun g hg=>Hp.out.bytes g hg) OX Hk.out).mono ?_;rintro e w1 ⟨rfl,Ag⟩;rw [← Dt.out];have Ai:=qh Ag;clear Ag)
   | ((with_reducible refine ak _ _ _ _ _ _ _ ?_ ?_ (heap_alloc_new _ _) (ae Tryz.ar AL) ?_ Rw.out ?_);(exact rfl);(exact rfl);(rw [AL.out];rfl);intro w2 g2 BB))
  have CN:wr.heap.size≤w1.heap.size:=Ai.out.size;have GY:Hid (qw wr w2):=BB.below (Ai.out.alloc CN _) CN;have Ex:w1.heap.size<w2.heap.size:=by rw [BB.size];simp
  have G2:Hid (w2.heap[w1.heap.size]?=some (.cells ((ai.dg K).map (Value.int .u8)).toArray 39 (0,0))):=by
   have h:=g2.out;rw [Dt.out] at h;exact h
  clear g2 BB Ai;have Mq:wr.heap.size≤w2.heap.size:=by omega
  generalize w1.heap.size=G1 at *;generalize wr=w at *;go_wp2;go_loopw [5,8] (fun v i wr=>∃ k:Nat,k≤32∧i = .int .i64 k∧Hid (wr.ownsRow w2.heap.size 5 1 v (0+k) (aC ([]++(ai.dg K).take k)))∧Hid (qw w2 wr)) (fun _ i _=>32-(intOf i).toNat)
  case atStart=>exact ⟨0,Nat.zero_le _,rfl,by unfold aC;exact World.ownsRow_nil _ _ _ _,Below.refl _ _⟩
  case round =>
   obtain ⟨k,hk',rfl,HO,HB⟩:=hrel;simp only [Nat.zero_add,List.nil_append] at HO;by_cases Ae:k<32
   ·have c0:=cZ ((HB.out.block _ Ex).trans G2.out) k (by rw [Ho.out];exact Ae);obtain ⟨y,hy⟩:∃ y,(ai.dg K).getD k 0=y:=⟨_,rfl⟩;rw [hy] at c0;go_wp2_with (first
     | (at_builtin;refine wpList_append_own _ rfl _ _ 22 rfl w2.heap.size 5 i0 (.int .u8 0) 1 1 underlying22 hi hz0 hz1 hz2 rfl (by decide) _ _ _ rfl (HO.out.alloc _) ⟨wr.heap.size,0,none⟩ 1 1 [.int .u8 y] rfl rfl (dp _ _ _) (ek _) (by unfold maxLen;omega) (by omega) (by have:=HB.out.size;simp;omega) ?_)
     | go_in)
    intro v' w1 Aa Ac _;have Ag:=aF HB.out (HB.out.size) HO.out Ac;rw [aI,← hy,b8 (ai.dg K) k (by rw [Ho.out];exact Ae)] at Aa;clear Ac HO HB;go_wp2;exact ⟨⟨k+1,by omega,by go_num,by show World.ownsRow _ _ _ _ _ _ _;simpa using Aa,Ag⟩,by simp [intOf];omega⟩
   ·have E:k=32:=by omega
    have Cc:Hid (wr.ownsRow w.heap.size 5 1 u5 32 (aC (ai.dg K))):=by
     have:=HO.out;rw [E,List.take_of_length_le (by rw [Ho.out];omega)] at this;exact sq this Mq
    have Bd:Hid (qw w wr):=GY.out.trans (HB.out.mono Mq);have Bc:32≤k:=by omega
    clear Ae HO E HB;go_wp2;go_loopw [5] (fun v wr=>∃ z:Nat,32+z≤64∧lenOf v=32+z∧Hid (wr.ownsRow w.heap.size 5 1 v (32+z) (aC ((ai.dg K)++List.replicate z 0)))∧Hid (qw w wr)) (fun v _=>64-lenOf v)
    case atStart =>
     refine ⟨0,by omega,?_,?_,Bd.out⟩
     ·obtain ⟨p,c,rfl⟩:=dC Cc.out
      rfl
     ·have h:=Cc.out;show World.ownsRow _ _ _ _ _ _ _;simpa using h
    case round =>
     clear Cc Bd;obtain ⟨z,hz,Dr,HO,HB⟩:=hrel;obtain ⟨pv,cv,hv⟩:=dC HO.out;rw [hv] at HO Dr ⊢;clear hv Dr;by_cases T5:32+z<64
     ·go_wp2_with (first
       | (at_builtin;refine wpList_append_own _ rfl _ _ 22 rfl w.heap.size 5 i0 (.int .u8 0) 1 1 underlying22 hi hz0 hz1 hz2 rfl (by decide) _ _ _ rfl (HO.out.alloc _) ⟨wr.heap.size,0,none⟩ 1 1 [.int .u8 0] rfl rfl (dp _ _ _) (ek _) (by unfold maxLen;omega) (by omega) (by have:=HB.out.size;simp;omega) ?_)
       | go_in)
      intro v' w1 Aa Ac _;have Ag:=aF HB.out (HB.out.size) HO.out Ac;rw [aI,List.append_assoc,se] at Aa;have Fy:lenOf v'=32+z+1:=by
       obtain ⟨p,c,rfl⟩:=dC Aa
       rfl
      clear Ac HO HB;go_wp2;exact ⟨⟨z+1,by omega,Fy,Aa,Ag⟩,by rw [Fy];simp [lenOf];omega⟩
     ·have Gx:32+z=64:=by omega
      have Ct:Hid (wr.ownsRow w.heap.size 5 1 (.slice pv (32+z) cv) 64 (aC (mx x (kb K) 0))):=by
       have h:=HO.out;rw [vW (ai.dg K) z (by rw [Ho.out];omega),EW.out] at h;rw [qA];rw [Gx] at h ⊢;exact h
      clear HO;obtain ⟨g4,Nt⟩:∃ g4,pv=some ⟨g4,0,none⟩:=by
       obtain ⟨g,c,h⟩:=du Ct.out (by decide);injection h with h1 _ _
       exact ⟨g,h1⟩
      subst Nt;have PI:64≤32+z:=by omega
      rw [Gx] at Ct ⊢;go_wp2;go_loopw [9] (fun v9 wr=>∃ k:Nat,k≤64∧v9 = .int .i64 k∧Hid (wr.ownsRow w.heap.size 5 1 (.slice (some ⟨g4,0,none⟩) 64 cv) 64 (aC (mx x (kb K) k)))∧Hid (qw w wr)) (fun v9 _=>64-(intOf v9).toNat)
      case atStart=>exact ⟨0,by omega,rfl,Ct.out,HB.out⟩
      case round =>
       clear Ct HB;obtain ⟨k,hk,rfl,HO,HB⟩:=hrel;by_cases DJ:k<64
       ·have c0:=dc HO.out k DJ;rw [vo x (kb K) k (by rw [gF];exact DJ)] at c0;have f0:=mw HO.out k;have hgB:=(iH HO.out).1;have HF:Hid ((mx x (kb K) k).set k (bits .xor .u8 ((kb K).getD k 0) x)=mx x (kb K) (k+1)):=pE x (kb K) k (by rw [gF];exact DJ);generalize (kb K).getD k 0=y at *;go_wp2;refine ⟨⟨k+1,by omega,by go_num,?_,?_⟩,by simp [intOf];omega⟩
        ·have h:=xx (k:=k) (x:=bits .xor .u8 y x) HO.out DJ;rw [HF.out] at h;exact h
        ·exact HB.out.setCell hgB _
       ·have E:k=64:=by omega
        subst E;have h:=HO.out;rw [tJ x (kb K) 64 (by rw [gF];omega)] at h;have HF:=qh h;clear h HO;go_wp2;go_ret;exact ⟨_,rfl,HF.out,HB.out⟩
theorem nQ (x:Int) (K:List Int) (p:Option Addr) (n cap:Nat) (hn:K.length=n) (OX:n≤1000000) (w:World) (hp:cX w p K) (EO:cT w 1) :
  qc 149 #[.slice p n cap,.int .u8 x] w (mh x K w):=by
 by_cases h:n≤64
 ·exact rz x K p n cap hn h w hp
 ·exact tU x K p n cap hn (by omega) OX w hp EO
end
section
open Go.RowKit
theorem iy (K b:List Int) (p q:Option Addr) (n m c d:Nat) (hn:K.length=n) (Jc:b.length=m) (Cr:n≤100000) (Pe:m≤100000) (w:World) (hp:cX w p K) (hq:cX w q b) (EO:cT w 1) :
  qc 121 #[.slice p n c,.slice q m d] w (fW K b w):=by
 subst hn;subst Jc;obtain ⟨i0,hi,hz0,hz1,hz2⟩:=info_parts Tryz.bu;have Hp:=qh hp;clear hp;have Hq:=qh hq;clear hq;have Hk:=qh EO;clear EO;have Eo:=Hq.out.1;obtain ⟨A,An,Ak,Au⟩:∃ A:Array Value,Hid (A=((hm K b).map (Value.int .u8)).toArray)∧Hid (A.size=32)∧Hid (A.all (·.oneCell')=true) :=
  ⟨_,rfl,by show _=_;simp [dS],all_oneCell_toArray (aw _)⟩
 obtain ⟨IN,Eg⟩:∃ IN,Hid (IN=ai.dg (xl 54 (kb K)++b)):=⟨_,rfl⟩;have Cl:Hid (IN.length=32):=by rw [Eg.out];exact gD _
 have Jr:Hid (ai.aY IN):=by rw [Eg.out];exact qE _
 obtain ⟨IA,FM,FN,Jq⟩:∃ A:Array Value,Hid (A=(IN.map (Value.int .u8)).toArray)∧Hid (A.size=32)∧Hid (A.all (·.oneCell')=true) :=
  ⟨_,rfl,by show _=_;simp [Cl.out],all_oneCell_toArray (aw _)⟩
 have Hy:Hid (hm K b=ai.dg (xl 92 (kb K)++IN)):=by show _=_;rw [ae7,Eg.out]
 have CQ:=qh (og 54 K);have Cm:=qh (og 92 K);have Om:=qh (pR 54 (kb K));have On:=qh (pR 92 (kb K));have MF:Hid (qw w (w.alloc (.cells (List.replicate 32 (Value.int .u8 0)).toArray 39))):=qb w _;go_enter func121,ntmps121;go_upto_region 2 with (go_at_call 149;refine (nQ 54 K p _ _ rfl (by omega) _ (Hp.out.av MF.out) (Hk.out.below MF.out Hk.out.lt)).mono ?_;rintro e w1 ⟨v1,rfl,Cz,Ag⟩;have Ax:=qh Cz;have Ai:=qh Ag;clear Cz Ag)
 have ER:Hid (qw w w1):=MF.out.trans (Ai.out.mono (by simp));have CN:w.heap.size<w1.heap.size:=by have:=Ai.out.size;simp at this;omega
 have RES1:Hid (w1.heap[w.heap.size]?=some (.cells (List.replicate 32 (Value.int .u8 0)).toArray 39 (0,0))):=by
  show _=_;rw [Ai.out.block _ (by simp)];exact heap_alloc_new w _
 have EZ:Hid (w1.ownsRow (w.heap.size+1) 5 1 v1 64 (aC (xl 54 (kb K)))):=sq Ax.out (by simp);clear Ax Ai MF;go_wp2;go_loopw [5,6] (fun v i wr=>∃ k:Nat,k≤b.length∧i = .int .i64 k∧Hid (wr.ownsRow (w.heap.size+1) 5 1 v (64+k) (aC (xl 54 (kb K)++b.take k)))∧Hid (Below (w.heap.size+1) w1 wr)) (fun _ i _=>b.length-(intOf i).toNat)
 case atStart=>exact ⟨0,Nat.zero_le _,rfl,by have h:=EZ.out;show World.ownsRow _ _ _ _ _ _ _;simpa using h,Below.refl _ _⟩
 case round =>
  clear EZ;obtain ⟨k,hk',rfl,HO,HB⟩:=hrel;have HBw:Hid (qw w wr):=ER.out.trans (HB.out.mono (by omega));by_cases Ae:k<b.length
  ·obtain ⟨ab,ao,CM,A7⟩:=(Hq.out.av HBw.out).2 (by omega);subst CM;have c0:=A7 k Ae;clear A7;obtain ⟨y,hy⟩:∃ y,b.getD k 0=y:=⟨_,rfl⟩;rw [hy] at c0;have Py:w.heap.size+1≤wr.heap.size:=by have:=HB.out.size;omega
   go_wp2_with (first
    | (at_builtin;refine wpList_append_own _ rfl _ _ 22 rfl (w.heap.size+1) 5 i0 (.int .u8 0) 1 1 underlying22 hi hz0 hz1 hz2 rfl (by decide) _ _ _ rfl (HO.out.alloc _) ⟨wr.heap.size,0,none⟩ 1 1 [.int .u8 y] rfl rfl (dp _ _ _) (ek _) (by unfold maxLen;omega) (by omega) (by have:=HB.out.size;simp;omega) ?_)
    | go_in)
   intro v' w1 Aa Ac _;have Ag:=aF HB.out Py HO.out Ac;rw [aI,← hy,List.append_assoc,b8 b k Ae] at Aa;clear Ac HO HB HBw;go_wp2;exact ⟨⟨k+1,by omega,by go_num,Aa,Ag⟩,by simp [intOf];omega⟩
  ·have E:k=b.length:=by omega
   have Cc:Hid (wr.ownsRow (w.heap.size+1) 5 1 u5 (64+b.length) (aC (xl 54 (kb K)++b))):=by
    have:=HO.out;rw [E,List.take_length] at this;exact this
   have Bc:b.length≤k:=by omega
   obtain ⟨p5,c5,h5,FJ,OC,OD⟩:=xw Cc.out (ai.aP Om.out Eo);have MZ:Hid ((xl 54 (kb K)++b).length≤1000000):=by show _≤_;rw [List.length_append,CQ.out];omega
   have MK:=qh FJ;have Ik:=qh (jl (xl 54 (kb K)++b) p5 c5);subst h5;have RESw:Hid (wr.heap[w.heap.size]?=some (.cells (List.replicate 32 (Value.int .u8 0)).toArray 39 (0,0))):=(HB.out.block _ (by omega)).trans RES1.out;clear Ae HO E HB Cc FJ RES1 ER;generalize (xl 54 (kb K)++b).length=n5 at *;generalize wr=wa at *;go_upto_region 8 with (first
    | (go_at_call 150;refine (Ik.out _ (fun g hg=>MK.out.bytes g hg) MZ.out (Hk.out.below HBw.out Hk.out.lt)).mono ?_;rintro e w2 ⟨rfl,Al⟩;rw [← Eg.out,← FM.out];have Aj:=qh Al;clear Al)
    | ((with_reducible refine ak _ _ _ _ _ _ _ ?_ ?_ (heap_alloc_new _ _) (ae Tryz.ar FN) ?_ Jq.out ?_);(exact rfl);(exact rfl);(rw [FN.out];rfl);intro w3 g3 Dd;have GC:Hid (qw w w3):=(Dd.below ((HBw.out.trans (Aj.out.mono HBw.out.size)).alloc (Nat.le_trans HBw.out.size Aj.out.size) _) (Nat.le_trans HBw.out.size Aj.out.size)))
    | (go_at_call 149;refine (nQ 92 K p _ _ rfl (by omega) _ (Hp.out.av GC.out) (Hk.out.below GC.out Hk.out.lt)).mono ?_;rintro e w4 ⟨v4,rfl,BM,AJ⟩;have Ct:=qh BM;have Av:=qh AJ;clear BM AJ))
   have TU:w.heap.size<wa.heap.size:=lt_of_block RESw.out;have TJ:wa.heap.size≤w2.heap.size:=Aj.out.size;have Px:w2.heap.size<w3.heap.size:=by rw [Dd.size];simp
   have RES3:Hid (w3.heap[w.heap.size]?=some (.cells (List.replicate 32 (Value.int .u8 0)).toArray 39 (0,0))):=by
    show _=_;rw [Dd.block _ (by omega),heap_alloc_old _ _ (by omega),Aj.out.block _ TU];exact RESw.out
   have I3:Hid (w3.heap[w2.heap.size]?=some (.cells (IN.map (Value.int .u8)).toArray 39 (0,0))):=by
    have h:=g3.out;rw [FM.out] at h;exact h
   clear g3 Dd Aj RESw HBw Ik MZ MK;generalize w2.heap.size=G2 at *;go_wp2;go_loopw [5,8] (fun v i wr=>∃ k:Nat,k≤32∧i = .int .i64 k∧Hid (wr.ownsRow w3.heap.size 5 1 v (64+k) (aC (xl 92 (kb K)++IN.take k)))∧Hid (qw w3 wr)) (fun _ i _=>32-(intOf i).toNat)
   case atStart=>exact ⟨0,Nat.zero_le _,rfl,by have h:=Ct.out;show World.ownsRow _ _ _ _ _ _ _;simpa using h,Av.out⟩
   case round =>
    clear Ct Av;obtain ⟨k,Ed,rfl,HO,HB⟩:=hrel;by_cases Ae:k<32
    ·have c0:=cZ ((HB.out.block _ Px).trans I3.out) k (by rw [Cl.out];exact Ae);obtain ⟨y,hy⟩:∃ y,IN.getD k 0=y:=⟨_,rfl⟩;rw [hy] at c0;go_wp2_with (first
      | (at_builtin;refine wpList_append_own _ rfl _ _ 22 rfl w3.heap.size 5 i0 (.int .u8 0) 1 1 underlying22 hi hz0 hz1 hz2 rfl (by decide) _ _ _ rfl (HO.out.alloc _) ⟨wr.heap.size,0,none⟩ 1 1 [.int .u8 y] rfl rfl (dp _ _ _) (ek _) (by unfold maxLen;omega) (by omega) (by have:=HB.out.size;simp;omega) ?_)
      | go_in)
     intro v' w1 Aa Ac _;have Ag:=aF HB.out (HB.out.size) HO.out Ac;rw [aI,← hy,List.append_assoc,b8 IN k (by rw [Cl.out];exact Ae)] at Aa;clear Ac HO HB;go_wp2;exact ⟨⟨k+1,by omega,by go_num,Aa,Ag⟩,by simp [intOf];omega⟩
    ·have E:k=32:=by omega
     have Cc:Hid (wr.ownsRow w3.heap.size 5 1 u5 96 (aC (xl 92 (kb K)++IN))):=by
      have:=HO.out;rw [E,List.take_of_length_le (by rw [Cl.out];omega)] at this;exact this
     have Bc:32≤k:=by omega
     obtain ⟨p5,c5,h5,FJ,OC,OD⟩:=xw Cc.out (ai.aP On.out Jr.out);have MZ:Hid ((xl 92 (kb K)++IN).length≤1000000):=by show _≤_;rw [List.length_append,Cm.out,Cl.out];omega
     have MK:=qh FJ;have Ik:=qh (jl (xl 92 (kb K)++IN) p5 c5);subst h5;have RESw:Hid (wr.heap[w.heap.size]?=some (.cells (List.replicate 32 (Value.int .u8 0)).toArray 39 (0,0))):=(HB.out.block _ (by omega)).trans RES3.out;have HBw:Hid (qw w wr):=GC.out.trans (HB.out.mono (by omega));clear Ae HO E HB Cc FJ RES3 GC I3;generalize (xl 92 (kb K)++IN).length=n5 at *;go_wp2_with (first
      | (go_at_call 150;refine (Ik.out _ (fun g hg=>MK.out.bytes g hg) MZ.out (Hk.out.below HBw.out Hk.out.lt)).mono ?_;rintro e w6 ⟨rfl,BJ⟩;rw [← Hy.out,← An.out];have Br:=qh BJ;clear BJ;have RES6:Hid (w6.heap[w.heap.size]?=some (.cells (List.replicate 32 (Value.int .u8 0)).toArray 39 (0,0))):=(Br.out.block _ (lt_of_block RESw.out)).trans RESw.out)
      | ((with_reducible refine ak _ _ _ _ _ _ _ ?_ ?_ RES6.out (ae Tryz.ar Ak) ?_ Au.out ?_);(exact rfl);(exact rfl);(rw [Ak.out];rfl);intro w7 G7 JS))
     refine bodyPost_ret (results_cell_row rfl _ _ w.heap.size 39 A (0,0) _ rfl G7.out underlying39 rfl (ae Tryz.ar Ak)) rfl ⟨?_,JS.below (HBw.out.trans (Br.out.mono HBw.out.size)) qn⟩;rw [An.out]
end
section
open Go.RowKit
end
section
open Go.RowKit
def bl (S:ByteArray):List Int:=S.data.toList.map fun b=>(b.toNat:Int)
theorem oN (S:ByteArray):(bl S).length=S.size:=by
 unfold bl;rw [List.length_map,Array.length_toList]
 rfl
theorem aha (S:ByteArray):ai.aY (bl S):=fun x hx=>by
 unfold bl at hx;rw [List.mem_map] at hx;obtain ⟨b,_,rfl⟩:=hx;have:=b.toNat_lt;omega
theorem sU (w:World) (S:ByteArray) (c:Nat) (t:TypeId) (fr:Nat × Nat):cX (w.alloc (.cells (bytesRow S c) t fr)) (some ⟨w.heap.size,0,none⟩) (bl S) :=
 ⟨aha S,fun _=>⟨w.heap.size,0,rfl,fun j hj=>by
  have JZ:j<S.data.size:=by rw [oN] at hj;exact hj
  rw [cell_of_row _ _ (0+j) _ _ _ (heap_alloc_new w _),Nat.zero_add,bytesRow_at S c j JZ];congr 2;unfold bl;rw [List.getD_eq_getElem?_getD,List.getElem?_map,List.getElem?_eq_getElem (by simpa using JZ)];simp⟩⟩
attribute [irreducible] bl
theorem ahc (w:World) (S:ByteArray) (hS:S.size≤100000):grownCap w S.size 0 5≤9223372036854775807:=by
 have h:=grownCap_le_maxLen w S.size 0 5 (by unfold maxLen;omega);unfold maxLen at h;omega
theorem mu (hT:aV) (K:List Int) (S:ByteArray) (p:Option Addr) (n c:Nat) (hn:K.length=n) (Cr:n≤100000) (hS:S.size≤100000) (w:World) (hp:cX w p K) (hc:n≤c) (BI:c≤9223372036854775807) (ht:cT w 0) :
  qc 32 #[.slice p n c,.string S] w (fW K (bl S) w):=by
 subst hn;have Ht:=qh ht;clear ht;have Hp:=qh hp;clear hp;have Hc:=qh (And.intro hc BI);clear hc BI;have kc:=fun w=>run_bytes_of_string (P:=prog) w 9 22 5 S underlying9 underlying22 underlying5;obtain ⟨A,An,Ak,Au⟩:∃ A:Array Value,Hid (A=((hm K (bl S)).map (Value.int .u8)).toArray)∧Hid (A.size=32)∧Hid (A.all (·.oneCell')=true) :=
  ⟨_,rfl,by show _=_;simp [dS],all_oneCell_toArray (aw _)⟩
 have Dz:Hid (∀ C,qw w (((w.alloc (.cells (List.replicate 32 (Value.int .u8 0)).toArray 39)).drew).alloc C)):=fun C=>((qb w _).drew).alloc (by show _≤(w.alloc _).heap.size;simp) C;have JL:Hid (∀ C,(((w.alloc (.cells (List.replicate 32 (Value.int .u8 0)).toArray 39)).drew).alloc C).heap.size=w.heap.size+2):=fun C=>by show (Array.push _ _).size=_;rw [Array.size_push];show (w.alloc _).heap.size+1=_;simp
 have Ob:Hid (∀ C,(((w.alloc (.cells (List.replicate 32 (Value.int .u8 0)).toArray 39)).drew).alloc C).heap[w.heap.size]?=some (.cells (List.replicate 32 (Value.int .u8 0)).toArray 39 (0,0))):=fun C=>by
  rw [heap_alloc_old _ _ (by show _<(w.alloc _).heap.size;simp)];exact heap_alloc_new w _
 go_enter func32,ntmps32;go_wp2_with (first
  | (go_at_call 71;refine (mc hT K (bl S) p (some ⟨w.heap.size+1,0,none⟩) _ _ c _ rfl (oN S) _ (Hp.out.av (Dz.out _)) (by have h:=sU ((w.alloc (.cells (List.replicate 32 (Value.int .u8 0)).toArray 39)).drew) S;have e:((w.alloc (.cells (List.replicate 32 (Value.int .u8 0)).toArray 39)).drew).heap.size=w.heap.size+1:=(by show (w.alloc _).heap.size=_;simp);rw [e] at h;exact h _ _ _) Hc.out.1 Hc.out.2 (grownCap_ge _ _ _ _) (ahc _ S hS) (by omega) (by rw [oN];omega) (Ht.out.below (Dz.out _) Ht.out.lt)).mono ?_;rintro e w1 ⟨rfl,Ag⟩;rw [← An.out];have Ai:Hid (qw w w1):=(Dz.out _).trans (Ag.mono (by rw [JL.out];omega));have Ch:Hid (w1.heap[w.heap.size]?=some (.cells (List.replicate 32 (Value.int .u8 0)).toArray 39 (0,0))):=(Ag.block _ (by rw [JL.out];omega)).trans (Ob.out _);clear Ag)
  | ((with_reducible refine ak _ _ _ _ _ _ _ ?_ ?_ Ch.out (ae Tryz.ar Ak) ?_ Au.out ?_);(exact rfl);(exact rfl);(rw [Ak.out];rfl);intro w6 G6 AE))
 refine bodyPost_ret (results_cell_row rfl _ _ w.heap.size 39 A (0,0) _ rfl G6.out underlying39 rfl (ae Tryz.ar Ak)) rfl ⟨?_,AE.below Ai.out qn⟩;rw [An.out]
theorem gN  (K:List Int) (S:ByteArray) (p:Option Addr) (n c:Nat) (hn:K.length=n) (Cr:n≤100000) (hS:S.size≤100000) (w:World) (hp:cX w p K) (hc:n≤c) (BI:c≤9223372036854775807) (ht:cT w 1) :
  qc 74 #[.slice p n c,.string S] w (fW K (bl S) w):=by
 subst hn;have Ht:=qh ht;clear ht;have Hp:=qh hp;clear hp;have Hc:=qh (And.intro hc BI);clear hc BI;have kc:=fun w=>run_bytes_of_string (P:=prog) w 9 22 5 S underlying9 underlying22 underlying5;obtain ⟨A,An,Ak,Au⟩:∃ A:Array Value,Hid (A=((hm K (bl S)).map (Value.int .u8)).toArray)∧Hid (A.size=32)∧Hid (A.all (·.oneCell')=true) :=
  ⟨_,rfl,by show _=_;simp [dS],all_oneCell_toArray (aw _)⟩
 have Dz:Hid (∀ C,qw w (((w.alloc (.cells (List.replicate 32 (Value.int .u8 0)).toArray 39)).drew).alloc C)):=fun C=>((qb w _).drew).alloc (by show _≤(w.alloc _).heap.size;simp) C;have JL:Hid (∀ C,(((w.alloc (.cells (List.replicate 32 (Value.int .u8 0)).toArray 39)).drew).alloc C).heap.size=w.heap.size+2):=fun C=>by show (Array.push _ _).size=_;rw [Array.size_push];show (w.alloc _).heap.size+1=_;simp
 have Ob:Hid (∀ C,(((w.alloc (.cells (List.replicate 32 (Value.int .u8 0)).toArray 39)).drew).alloc C).heap[w.heap.size]?=some (.cells (List.replicate 32 (Value.int .u8 0)).toArray 39 (0,0))):=fun C=>by
  rw [heap_alloc_old _ _ (by show _<(w.alloc _).heap.size;simp)];exact heap_alloc_new w _
 go_enter func74,ntmps74;go_wp2_with (first
  | (go_at_call 121;refine (iy K (bl S) p (some ⟨w.heap.size+1,0,none⟩) _ _ c _ rfl (oN S) (by omega) (by omega) _ (Hp.out.av (Dz.out _)) (by have h:=sU ((w.alloc (.cells (List.replicate 32 (Value.int .u8 0)).toArray 39)).drew) S;have e:((w.alloc (.cells (List.replicate 32 (Value.int .u8 0)).toArray 39)).drew).heap.size=w.heap.size+1:=(by show (w.alloc _).heap.size=_;simp);rw [e] at h;exact h _ _ _) (Ht.out.below (Dz.out _) Ht.out.lt)).mono ?_;rintro e w1 ⟨rfl,Ag⟩;rw [← An.out];have Ai:Hid (qw w w1):=(Dz.out _).trans (Ag.mono (by rw [JL.out];omega));have Ch:Hid (w1.heap[w.heap.size]?=some (.cells (List.replicate 32 (Value.int .u8 0)).toArray 39 (0,0))):=(Ag.block _ (by rw [JL.out];omega)).trans (Ob.out _);clear Ag)
  | ((with_reducible refine ak _ _ _ _ _ _ _ ?_ ?_ Ch.out (ae Tryz.ar Ak) ?_ Au.out ?_);(exact rfl);(exact rfl);(rw [Ak.out];rfl);intro w6 G6 AE))
 refine bodyPost_ret (results_cell_row rfl _ _ w.heap.size 39 A (0,0) _ rfl G6.out underlying39 rfl (ae Tryz.ar Ak)) rfl ⟨?_,AE.below Ai.out qn⟩;rw [An.out]
end
section
open Go.RowKit
end
section
open Go.ChangeShapes Go.WideShapes Go.RowKit
theorem Tryz.own:ownKnob prog.godebug=none:=by kernel_rfl
theorem Tryz.laidOut:laidOutB prog=true:=by kernel_rfl
theorem Tryz.cells5:prog.cellsOf 5=1:=by kernel_rfl
theorem aeH:(Rows.laid_rill_sha_constants:DataW Unit)=Lib.tabData .u32 ai.kk:=by
 unfold ai.kk
 rfl
theorem aec:(Rows.laid_rill_rillref01_K:DataW Unit)=Lib.tabData .u32 ai.kk:=by
 unfold ai.kk
 rfl
def rJ:List (String × DataW Unit):=[("rill/sha.constants",Rows.laid_rill_sha_constants)]
def fN:List (String × DataW Unit):=[("rill/rillref01.K",Rows.laid_rill_rillref01_K),("rill/sha.constants",Rows.laid_rill_sha_constants)]
theorem qj {W:World} (h:laidMet prog rJ W):cT W 0:=by
 unfold rJ at h;rw [aeH] at h;have hT:=Lib.tabIs_of_head (g:=0) (t:=223) (by kernel_rfl) (by kernel_rfl) underlying223 underlying128 (by kernel_rfl) (by kernel_rfl) h;intro t ht;have:=hT.cell (g:=0) (by kernel_rfl) t (by unfold ai.kk;exact ht);unfold ai.ki;exact this
theorem qd {W:World} (h:laidMet prog fN W):cT W 0∧cT W 1:=by
 refine ⟨qj (laidMet.tail h),?_⟩;unfold fN at h;rw [aec] at h;have hT:=Lib.tabIs_of_head (g:=1) (t:=223) (by kernel_rfl) (by kernel_rfl) underlying223 underlying128 (by kernel_rfl) (by kernel_rfl) h;intro t ht;have:=hT.cell (g:=1) (by kernel_rfl) t (by unfold ai.kk;exact ht);unfold ai.ki;exact this
theorem gO {H:Type} {enc:TypeId × Value→H} {t:TypeId} {W W':World} {v:Value} {d:DataW H} {ps:List MemPlace}
  (h:DataW.Trod enc prog W 0 (fun _=>true) true t v d ps) (hb:qw W W') (Ae:∀ x∈ps,x.block<W.heap.size) (hr:prog.readableRec t=true) (D4:t<prog.types.size) :
  DataW.Trod enc prog W' 0 (fun b=>decide (b<W.heap.size)) true t v d ps :=
 Below.trod Tryz.laidOut hr D4 h hb Ae
def wW:Obj→Obj
 | .cells _ t frozen=>.cells (ai.kk.map fun z=>Value.int .u32 z).toArray t frozen
 | o=>o
noncomputable def laidWorld (os:Os):World :=
 { World.holding prog os ⟨#[],#[],[]⟩ with heap:=((World.holding prog os ⟨#[],#[],[]⟩).heap.modify 0 wW).modify 1 wW }
theorem lU (os:Os) (args:Array Value):laidMet prog fN ((laidWorld os).forCall (fun _ _=>0) ⟨#[],args,[]⟩).memory :=
 laidMet_of_run' 8 (by kernel_rfl) (by kernel_rfl)
end
end Go.Proofs.YthgjfjmampmiiaaGreatDoor

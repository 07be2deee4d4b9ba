import Derived.Test.YthgjfjmampmiiaaGreatDoorA2
import Derived.Deep.RegionHeld3
import Derived.StillTailTactics
import Derived.Deep.WholeRow
import Derived.Lib.SlBytesConst
namespace Go.Proofs.YthgjfjmampmiiaaGreatDoor
open Go.Proofs.Tryz
set_option maxHeartbeats 1000000
set_option maxRecDepth 100000
section
open Go.RowKit
def pB (w:World) (g:Nat) (L R:List Int) (N:Int):Prop :=
 w.heap[g]?=some (.cells (ai.HC (ai.iG L (L.length / 64)) R N).toArray 203 (0,0))
def Holds (w:World) (g:Nat) (L:List Int):Prop:=∃ R,ai.Rest L R∧pB w g L R L.length
def dy (w:World) (g:Nat) (p:Option Addr) (l:List Int):Prop :=
 ai.aY l∧(0<l.length→∃ ab ao,p=some ⟨ab,ao,none⟩∧ab ≠ g∧∀ j,j<l.length→w.cell? ⟨ab,ao+j,none⟩=some (.int .u8 (l.getD j 0)))
theorem yu {P:Program} (w:World) (t e:TypeId) (n g o k:Nat) (hn:P.underlying t=some (.array n e)) (he:(P.info? e).map (·.size)=some 1) (hk:k<n) :
  (Instr.sliceAt t (.pointer (some ⟨g,o,none⟩)) (some (.int .i64 (k:Int))) none none).run P w = .ok (.slice (some ⟨g,o+k,none⟩) (n-k) (n-k)) w:=by
 have Cq:¬ n=k:=by omega
 have ha:(⟨g,o,none⟩:Addr).add k = ⟨g,o+k,none⟩:=Addr.add_mid g o k;have h1:k≤n:=by omega
 cases hq:P.info? e with
 | none=>simp [hq] at he
 | some i =>
  have hs:i.size=1:=by simpa [hq] using he
  simp [Instr.sliceAt,Instr.sureAddr,run_underlying hn,Instr.sliceBounds,run_sliceBound,sizeOf,typeInfo,hq,hs,Cq,ha,h1]
theorem xF (s:ai.St) (R:List Int) (n:Int) (h:R.length=64):(ai.HC s R n).toArray[72]?=some (.int .u64 n):=by
 unfold ai.HC ai.St.l;simp [h]
theorem aaw (s:ai.St) (R:List Int) (n m:Int) (h:R.length=64):(ai.HC s R n).toArray.setIfInBounds 72 (.int .u64 m)=(ai.HC s R m).toArray:=by
 apply Array.ext'
 unfold ai.HC ai.St.l;simp [h]
theorem yJ {w:World} {g:Nat} {s:ai.St} {R:List Int} {n:Int} {t:TypeId} (h:w.heap[g]?=some (.cells (ai.HC s R n).toArray t (0,0))):w.rangeAt g 0 s.l:=fun j v hv=>by
 rw [cell_of_row w g (0+j) _ _ _ h];unfold ai.HC;have hj:j<s.l.length:=(List.getElem?_eq_some_iff.1 hv).1;rw [List.getElem?_toArray,List.getElem?_append,if_pos (by omega),Nat.zero_add];exact hv
theorem ac0 (s:ai.St) (R:List Int) (n:Int):∀ j v,s.l[j]?=some v→(ai.HC s R n).toArray[0+j]?=some v:=fun j v hv=>by
 unfold ai.HC;have hj:j<s.l.length:=(List.getElem?_eq_some_iff.1 hv).1;rw [List.getElem?_toArray,List.getElem?_append,if_pos (by omega),Nat.zero_add];exact hv
theorem acB (s:ai.St) (R:List Int) (n:Int):∀ j v,(R.map (Value.int .u8))[j]?=some v→(ai.HC s R n).toArray[8+j]?=some v:=fun j v hv=>by
 unfold ai.HC;have hj:j<(R.map (Value.int .u8)).length:=(List.getElem?_eq_some_iff.1 hv).1;have e:s.l.length=8:=rfl;rw [List.getElem?_toArray,List.getElem?_append,if_neg (by omega),e,show 8+j-8=j by omega,List.getElem?_append,if_pos hj];exact hv
theorem yY {w:World} {g:Nat} {s:ai.St} {R:List Int} {n:Int} {t:TypeId} (h:w.heap[g]?=some (.cells (ai.HC s R n).toArray t (0,0))):w.rangeAt g 8 (R.map (Value.int .u8)):=fun j v hv=>by
 rw [cell_of_row w g (8+j) _ _ _ h];unfold ai.HC;have hj:j<(R.map (Value.int .u8)).length:=(List.getElem?_eq_some_iff.1 hv).1;have e:s.l.length=8:=rfl;rw [List.getElem?_toArray,List.getElem?_append,if_neg (by omega),e,show 8+j-8=j by omega,List.getElem?_append,if_pos hj];exact hv
def aeG (s:ai.St) (R:List Int) (w:World) (e:Ending) (w':World):Prop :=
 ∃ x:ai.St,e = .returned (.agg x.l.toArray)∧Hid (x=ai.tk s (fun i=>R.getD i 0))∧qw w w'
theorem vR (hT:aV) (s:ai.St) (R:List Int) (rl:List Value) (hr:Hid (rl=R.map (Value.int .u8))) (hl:R.length=64) (hb:ai.aY R) (w:World) (ht:cT w 0) :
  qc 161 #[.agg s.l.toArray,.agg rl.toArray] w (aeG s R w):=by
 rw [hr.out];refine (hT s _ (fun i=>R.getD i 0) (by simp [hl]) (fun i hi=>?_) (fun i _=>ai.aW hb i) w ht).mono fun e w' h=>⟨_,h.1,rfl,h.2⟩;simp [List.getD_eq_getElem?_getD,hl,hi]
theorem ab4 (s:ai.St):s.l.toArray.all (·.oneCell')=true:=aiD _ _ _ _ _ _ _ _ _
theorem oE (L b:List Int) (k n:Nat):L++b.take (k+n)=(L++b.take k)++(b.drop k).take n:=by
 rw [List.take_add,List.append_assoc]
theorem mR {L b:List Int} {k:Nat} (h:k≤b.length):(L++b.take k).length=L.length+k:=by simp;omega
theorem iR {b:List Int} {k n:Nat} (h:n+k≤b.length):((b.drop k).take n).length=n:=by simp;omega
theorem aaC {w2:World} {g:Nat} {L b R:List Int} {k hd n:Nat} {N:Int} (hk:n+k≤b.length) (LY:hd=(L.length+k) % 64) (Gi:ai.aY b) (hR:ai.Rest (L++b.take k) R) (hl:hd+n<64)
  (g2:w2.heap[g]?=some (.cells (splice (ai.HC (ai.iG (L++b.take k) ((L++b.take k).length / 64)) R N) (8+hd) (((b.drop k).take n).map (Value.int .u8))).toArray 203 (0,0))) :
  ai.Rest (L++b.take (k+n)) (splice R hd ((b.drop k).take n))∧hd+n=(L.length+(k+n)) % 64 ∧
   w2.heap[g]?=some (.cells (ai.HC (ai.iG (L++b.take (k+n)) ((L++b.take (k+n)).length / 64)) (splice R hd ((b.drop k).take n)) N).toArray 203 (0,0)):=by
 have e1:=mR (L:=L) (b:=b) (k:=k) (by omega);have e2:=iR hk;have OL:hd=(L++b.take k).length % 64:=by rw [e1];exact LY
 have JU:ai.aY ((b.drop k).take n):=ai.jz (ai.jy Gi _) _;rw [oE L b k n];subst OL;obtain ⟨q1,q2,q3,q4⟩:=ai.xL hR JU (by rw [e2];exact hl);refine ⟨q1,by omega,?_⟩;rw [q4,← ai.nP _ _ _ _ _ (by rw [e2,hR.1];omega)];exact g2
theorem sQ {w2:World} {g:Nat} {L b R:List Int} {k hd n:Nat} {N:Int} (hk:n+k≤b.length) (LY:hd=(L.length+k) % 64) (Gi:ai.aY b) (hR:ai.Rest (L++b.take k) R) (hl:hd+n=64)
  (g2:w2.heap[g]?=some (.cells (ai.HC (ai.tk (ai.iG (L++b.take k) ((L++b.take k).length / 64)) (fun i=>(splice R hd ((b.drop k).take n)).getD i 0)) (splice R hd ((b.drop k).take n)) N).toArray 203 (0,0))) :
  ai.Rest (L++b.take (k+n)) (splice R hd ((b.drop k).take n))∧0=(L.length+(k+n)) % 64 ∧
   w2.heap[g]?=some (.cells (ai.HC (ai.iG (L++b.take (k+n)) ((L++b.take (k+n)).length / 64)) (splice R hd ((b.drop k).take n)) N).toArray 203 (0,0)):=by
 have e1:=mR (L:=L) (b:=b) (k:=k) (by omega);have e2:=iR hk;have OL:hd=(L++b.take k).length % 64:=by rw [e1];exact LY
 have JU:ai.aY ((b.drop k).take n):=ai.jz (ai.jy Gi _) _;rw [oE L b k n];subst OL;obtain ⟨q1,q2,q3⟩:=ai.yo hR JU (by rw [e2];exact hl);refine ⟨q1,by omega,?_⟩;rw [q3];exact g2
theorem sd {w wr:World} {g ab ao k n:Nat} {b:List Int} (hO:aE g w wr) (ha:ab ≠ g) (hk:n+k≤b.length) (h:∀ j,j<b.length→w.cell? ⟨ab,ao+j,none⟩=some (.int .u8 (b.getD j 0))) :
  ∀ j v,(((b.drop k).take n).map (Value.int .u8))[j]?=some v→wr.cell? ((⟨ab,ao+k,none⟩:Addr).add j)=some v:=fun j v hv=>by
 rw [Addr.add_mid];simp only [List.getElem?_map,List.getElem?_take,List.getElem?_drop] at hv;split at hv
 ·have hj:k+j<b.length:=by omega
  rw [List.getElem?_eq_getElem hj] at hv;have:=hO.cell ha (h (k+j) hj);rw [List.getD_eq_getElem?_getD,List.getElem?_eq_getElem hj] at this;simp at hv this;rw [← hv,← this];congr 2;omega
 ·cases hv
theorem aw (l:List Int):∀ v∈l.map (Value.int .u8),v.oneCell'=true:=fun v hv=>by
 obtain ⟨x,_,rfl⟩:=List.mem_map.1 hv;rfl
theorem Tryz.wv:(prog.info? 5).map (·.size)=some 1:=by kernel_rfl
def jL:Value→Nat | .slice _ n _=>n | _=>0
theorem oU (hT:aV) (g:Nat) (L b:List Int) (p:Option Addr) (cap:Nat) (w:World) (hH:Holds w g L) (hb:dy w g p b) (hc:b.length≤cap) (BI:cap≤9223372036854775807) (hL:L.length+b.length≤1152921504606846976) (ht:cT w 0) (hg:g ≠ 0) :
  qc 145 #[qp g,.slice p b.length cap] w fun e w'=>e = .returned (.tuple #[])∧Holds w' g (L++b)∧aE g w w':=by
 have HT:=qh hT;clear hT;obtain ⟨R,hR,hB⟩:=hH;obtain ⟨Gi,hsrc⟩:=hb;have c72:=(cell_of_row w g 72 _ _ _ hB).trans (xF _ R _ hR.1);have f72:=frozen_of_row w g 72 _ _ hB;have HB:=qh hB;clear hB;have HR:=qh hR;clear hR;have Hby:=qh Gi;clear Gi;have Ht:=qh ht;clear ht;obtain ⟨ab,ao,Hs⟩:∃ ab ao,Hid (0<b.length→p=some ⟨ab,ao,none⟩∧ab ≠ g∧∀ j,j<b.length→w.cell? ⟨ab,ao+j,none⟩=some (.int .u8 (b.getD j 0))):=by
  by_cases h0:0<b.length
  ·obtain ⟨ab,ao,h⟩:=hsrc h0;exact ⟨ab,ao,fun _=>h⟩
  ·exact ⟨0,0,fun h=>absurd h h0⟩
 clear hsrc;go_enter func145,ntmps145;go_wp2;go_loopw [1,4] (fun v1 v4 wr=>∃ (k hd rl cl:Nat) (q:Option Addr) (R:List Int),Hid (rl+k=b.length)∧hd<64∧Hid (hd=(L.length+k) % 64)∧v1 = .slice q rl cl∧rl≤cl∧cl≤9223372036854775807∧v4 = .int .i64 hd∧Hid (0<rl→q=some ⟨ab,ao+k,none⟩)∧Hid (ai.Rest (L++b.take k) R) ∧
   Hid (wr.heap[g]?=some (.cells (ai.HC (ai.iG (L++b.take k) ((L++b.take k).length / 64)) R (L.length+b.length)).toArray 203 (0,0)))∧Hid (aE g w wr)) (fun v1 _ _=>jL v1)
 case atStart =>
  refine ⟨0,L.length % 64,b.length,cap,p,R,rfl,by omega,rfl,rfl,hc,BI,by simp,fun h=>(Hs.out h).1,by simpa using HR,?_,?_⟩
  ·have h0:=heap_setCell_same w g 72 _ _ (.int .u64 (L.length+b.length)) HB.out;rw [aaw _ _ _ _ HR.out.1] at h0;show _=_;simpa using h0
  ·exact (bJ.setCell w ⟨g,72,none⟩ _).only
 case round =>
  obtain ⟨k,hd,rl,cl,q,R2,Hrl,LY,Hhd,rfl,Ux,EI,rfl,Hq,BS,Aj,HO⟩:=hrel;clear c72 f72 HB HR;by_cases h0:0<rl
  ·obtain rfl:=Hq.out h0;clear Hq;have hsl:=yu (P:=prog) wr 158 5 64 g 8 hd underlying158 Tryz.wv LY;by_cases hf:64-hd≤rl
   ·obtain ⟨m,Hm⟩:∃ m,Hid (m=64-hd):=⟨_,rfl⟩;have Cf:m+hd≤64:=by rw [Hm.out];omega
    have AP:64≤m+hd:=by rw [Hm.out];omega
    have I9:m+k≤b.length:=by have:=Hrl.out;omega
    obtain ⟨c,Hc⟩:∃ c,Hid (c=(b.drop k).take m):=⟨_,rfl⟩;have Hcl:Hid (c.length=m):=by show _=_;rw [Hc.out,iR I9]
    obtain ⟨CS,D7,Hl⟩:∃ CS:List Value,Hid (CS=c.map (Value.int .u8))∧Hid (CS.length=m):=⟨_,rfl,by show _=_;rw [List.length_map,Hcl.out]⟩;have EM:CS.length≤rl:=by rw [Hl.out];omega
    have Dq:64≤hd+CS.length:=by rw [Hl.out];omega
    have Np:hd+CS.length≤64:=by rw [Hl.out];omega
    have FC:((hd:Int)+(CS.length:Int)==64)=true:=by simp;omega
    have A7:Hid (∀ j v,CS[j]?=some v→wr.cell? ((⟨ab,ao+k,none⟩:Addr).add j)=some v):=by
     rw [D7.out,Hc.out];exact sd HO.out (Hs.out (by omega)).2.1 I9 (Hs.out (by omega)).2.2
    have Fh:Hid (∀ v∈CS,v.oneCell'=true):=by rw [D7.out];exact aw _
    have CZ:Hid (8+hd+CS.length≤(ai.HC (ai.iG (L++b.take k) ((L++b.take k).length / 64)) R2 (L.length+b.length)).length):=by
     show _≤_;rw [ai.me,BS.out.1];omega
    have hn:Hid (CS.length=Nat.min rl (64-hd)):=by
     show _=_;rw [Hl.out,Hm.out];exact (Nat.min_eq_right (by omega)).symm
    go_upto_region 7 with ((with_reducible refine jR _ _ _ _ 5 g (8+hd) (64-hd) (64-hd) ⟨ab,ao+k,none⟩ rl cl _ _ CS ?_ ?_ Aj.out ?_ ?_ hn.out A7.out CZ.out Fh.out ?_);(exact rfl);(exact rfl);(exact underlying22);(exact Tryz.wv);intro w2 g2 ch)
    have Ao:Hid (w2.heap[g]?=some (.cells (ai.HC (ai.iG (L++b.take k) ((L++b.take k).length / 64)) (splice R2 hd c) (L.length+b.length)).toArray 203 (0,0))):=by
     have g3:=g2.out;rw [D7.out,ai.nP _ _ _ _ _ (by rw [Hcl.out,BS.out.1];omega)] at g3;exact g3
    have DU:Hid ((splice R2 hd c).length=64∧ai.aY (splice R2 hd c)):=by
     refine ⟨?_,?_⟩
     ·rw [ai.gK _ _ _ (by rw [Hcl.out,BS.out.1];omega),BS.out.1]
     ·exact ai.jv _ BS.out.2.1 (by rw [Hc.out];exact ai.jz (ai.jy Hby.out _) _)
    have AA:Hid (aE g w w2):=HO.out.trans ch.only;have CK:Hid (cT w2 0):=fun t h=>AA.out.cell (Ne.symm hg) (Ht.out t h);obtain ⟨q2,Hq2⟩:∃ q2:Option Addr,Hid (q2=if cl=CS.length then some ⟨ab,ao+k,none⟩ else some ⟨ab,ao+k+CS.length,none⟩):=⟨_,rfl⟩;rw [← Hq2.out];clear g2 ch Aj HO A7 Fh CZ hn hsl FC D7;generalize hs:ai.iG (L++b.take k) ((L++b.take k).length / 64)=s at Ao;have HS:=qh hs;clear hs;obtain ⟨RR,Cu⟩:∃ RR,Hid (RR=splice R2 hd c):=⟨_,rfl⟩;rw [← Cu.out] at Ao DU;obtain ⟨s9,Hrl8⟩:∃ s9:List Value,Hid (s9=RR.map (Value.int .u8)):=⟨_,rfl⟩;have DK:Hid (∀ j v,s9[j]?=some v→(ai.HC s RR (L.length+b.length)).toArray[8+j]?=some v):=by rw [Hrl8.out];exact acB _ _ _
    have D9:Hid ((prog.info? 158).map (·.size)=some s9.length):=by rw [Hrl8.out,List.length_map,DU.out.1];exact Tryz.aaZ
    have MY:Hid (cT w2.drew 0):=CK.out;have LR0:Hid (w2.drew.rangeAt g 0 s.l):=yJ Ao.out;have LR8:Hid (w2.drew.rangeAt g 8 s9):=by rw [Hrl8.out];exact yY Ao.out
    have EK:Hid (g<w2.drew.heap.size):=lt_of_block Ao.out;refine wp_region_any (by kernel_rfl) ?_;change wpAny _ _ _ _ _ _ _ (World.drew _);refine db 0 40 (qp g) rfl (by kernel_rfl) (by kernel_rfl) (by kernel_rfl) (fun _ _ _ h=>h) (by intro w;go_simp) ?_;simp only [Act.put,aQ,aR,aO];refine db 1 41 (qp g) rfl (by kernel_rfl) (by kernel_rfl) (by kernel_rfl) (fun _ _ _ h=>h) (by intro w;go_simp) ?_;simp only [Act.put,aQ,aR,aO];refine db 2 42 (qp g) rfl (by kernel_rfl) (by kernel_rfl) (by kernel_rfl) (fun _ _ _ h=>h) (by intro w;go_simp) ?_;simp only [Act.put,aQ,aR,aO];refine db 3 43 (qp g) rfl (by kernel_rfl) (by kernel_rfl) (by kernel_rfl) (fun _ _ _ h=>h) (by intro w;go_simp) ?_;simp only [Act.put,aQ,aR,aO];refine db 5 45 (qp g) rfl (by kernel_rfl) (by kernel_rfl) (by kernel_rfl) (fun _ _ _ h=>h) (by intro w;go_simp) ?_;simp only [Act.put,aQ,aR,aO];refine db 6 46 (qp g) rfl (by kernel_rfl) (by kernel_rfl) (by kernel_rfl) (fun _ _ _ h=>h) (by intro w;go_simp) ?_;simp only [Act.put,aQ,aR,aO];refine db 7 47 (.pointer (some ⟨g,8,none⟩)) rfl (by kernel_rfl) (by kernel_rfl) (by kernel_rfl) (fun _ _ _ h=>h) (by intro w;go_simp) ?_;simp only [Act.put,aQ,aR,aO];refine jN 4 8 (by kernel_rfl) ?_ ?_
    ·refine dV 4 201 (.tmp 43) rfl g 0 s.l _ rfl LR0.out underlying201 rfl Tryz.jg ?_;simp only [Act.put,aQ,aR,aO];refine aU 8 (by kernel_rfl) ?_;refine dV 8 158 (.tmp 47) rfl g 8 s9 _ rfl LR8.out underlying158 rfl D9.out ?_;simp only [Act.put,aQ,aR,aO];refine aU 9 (by kernel_rfl) ?_;refine wpOp_step rfl (fun K hK=>?_);go_simp;refine (vR HT.out s RR s9 Hrl8 DU.out.1 DU.out.2 _ MY.out).mono ?_;rintro e w3 ⟨y,rfl,HY,As⟩;have Av:=qh ((As.block g EK.out).trans Ao.out);have Cg:Hid (aE g w w3):=AA.out.drew.trans (cC As);clear As EK LR0 LR8 Ao DK D9 MY CK AA;dsimp only;refine hK _ _ ?_;clear hK K;try simp only [Act.put,aQ,aR,aO]
     refine db 10 50 (qp g) rfl (by kernel_rfl) (by kernel_rfl) (by kernel_rfl) (fun _ _ _ h=>h) (by intro w;go_simp) ?_;simp only [Act.put,aQ,aR,aO];refine db 11 51 (qp g) rfl (by kernel_rfl) (by kernel_rfl) (by kernel_rfl) (fun _ _ _ h=>h) (by intro w;go_simp) ?_;simp only [Act.put,aQ,aR,aO];refine aU 12 (by kernel_rfl) ?_;refine bD 12 201 (.tmp 51) (.tmp 49) rfl g 0 _ _ y.l.toArray rfl rfl Av.out Tryz.jg (by rw [ai.me];show 0+8≤_;omega) (ab4 y) ?_;intro w5 g5 AZ;refine wpAny_done (by kernel_rfl) ?_ _;have g6:Hid (w5.heap[g]?=some (.cells (ai.HC (ai.tk s (fun i=>RR.getD i 0)) RR (L.length+b.length)).toArray 203 (0,0))):=by
      have:=g5.out;rw [show y.l.toArray.toList=y.l from rfl,ai.rY,HY.out] at this;exact this
     have HO5:Hid (aE g w w5):=Cg.out.trans AZ.only;clear g5 AZ Av Cg HY;go_wp2;obtain ⟨r1,r2,r3⟩:=sQ (N:=L.length+b.length) I9 Hhd.out Hby.out BS.out (by omega) (by rw [← Hc.out,← Cu.out,HS.out];exact g6.out);have hlen:=Hl.out;refine ⟨⟨k+m,0,rl-CS.length,cl-CS.length,q2,RR,?_,by omega,r2,rfl,by omega,by omega,rfl,?_,by rw [Cu.out,Hc.out];exact r1,by rw [Cu.out,Hc.out];exact r3,HO5.out⟩,by simp [jL];omega⟩
     ·show _=_;have:=Hrl.out;omega
     ·intro h1;rw [Hq2.out,if_neg (by omega),hlen];simp [Nat.add_assoc]
    ·refine dV 8 158 (.tmp 47) rfl g 8 s9 _ rfl LR8.out underlying158 rfl D9.out ?_;simp only [Act.put,aQ,aR,aO];refine aU 4 (by kernel_rfl) ?_;refine dV 4 201 (.tmp 43) rfl g 0 s.l _ rfl LR0.out underlying201 rfl Tryz.jg ?_;simp only [Act.put,aQ,aR,aO];refine aU 9 (by kernel_rfl) ?_;refine wpOp_step rfl (fun K hK=>?_);go_simp;refine (vR HT.out s RR s9 Hrl8 DU.out.1 DU.out.2 _ MY.out).mono ?_;rintro e w3 ⟨y,rfl,HY,As⟩;have Av:=qh ((As.block g EK.out).trans Ao.out);have Cg:Hid (aE g w w3):=AA.out.drew.trans (cC As);clear As EK LR0 LR8 Ao DK D9 MY CK AA;dsimp only;refine hK _ _ ?_;clear hK K;try simp only [Act.put,aQ,aR,aO]
     refine db 10 50 (qp g) rfl (by kernel_rfl) (by kernel_rfl) (by kernel_rfl) (fun _ _ _ h=>h) (by intro w;go_simp) ?_;simp only [Act.put,aQ,aR,aO];refine db 11 51 (qp g) rfl (by kernel_rfl) (by kernel_rfl) (by kernel_rfl) (fun _ _ _ h=>h) (by intro w;go_simp) ?_;simp only [Act.put,aQ,aR,aO];refine aU 12 (by kernel_rfl) ?_;refine bD 12 201 (.tmp 51) (.tmp 49) rfl g 0 _ _ y.l.toArray rfl rfl Av.out Tryz.jg (by rw [ai.me];show 0+8≤_;omega) (ab4 y) ?_;intro w5 g5 AZ;refine wpAny_done (by kernel_rfl) ?_ _;have g6:Hid (w5.heap[g]?=some (.cells (ai.HC (ai.tk s (fun i=>RR.getD i 0)) RR (L.length+b.length)).toArray 203 (0,0))):=by
      have:=g5.out;rw [show y.l.toArray.toList=y.l from rfl,ai.rY,HY.out] at this;exact this
     have HO5:Hid (aE g w w5):=Cg.out.trans AZ.only;clear g5 AZ Av Cg HY;go_wp2;obtain ⟨r1,r2,r3⟩:=sQ (N:=L.length+b.length) I9 Hhd.out Hby.out BS.out (by omega) (by rw [← Hc.out,← Cu.out,HS.out];exact g6.out);have hlen:=Hl.out;refine ⟨⟨k+m,0,rl-CS.length,cl-CS.length,q2,RR,?_,by omega,r2,rfl,by omega,by omega,rfl,?_,by rw [Cu.out,Hc.out];exact r1,by rw [Cu.out,Hc.out];exact r3,HO5.out⟩,by simp [jL];omega⟩
     ·show _=_;have:=Hrl.out;omega
     ·intro h1;rw [Hq2.out,if_neg (by omega),hlen];simp [Nat.add_assoc]
   ·have I9:rl+k≤b.length:=by rw [Hrl.out];omega
    obtain ⟨CS,D7,Hl⟩:∃ CS:List Value,Hid (CS=((b.drop k).take rl).map (Value.int .u8))∧Hid (CS.length=rl):=⟨_,rfl,by show _=_;rw [List.length_map,iR I9]⟩;have EM:CS.length≤rl:=by rw [Hl.out];omega
    have Dq:rl≤CS.length:=by rw [Hl.out];omega
    have Np:hd+CS.length<64:=by omega
    have FC:((hd:Int)+(CS.length:Int)==64)=false:=by simp;omega
    have A7:Hid (∀ j v,CS[j]?=some v→wr.cell? ((⟨ab,ao+k,none⟩:Addr).add j)=some v):=by
     rw [D7.out];exact sd HO.out (Hs.out (by omega)).2.1 I9 (Hs.out (by omega)).2.2
    have Fh:Hid (∀ v∈CS,v.oneCell'=true):=by rw [D7.out];exact aw _
    have CZ:Hid (8+hd+CS.length≤(ai.HC (ai.iG (L++b.take k) ((L++b.take k).length / 64)) R2 (L.length+b.length)).length):=by
     show _≤_;rw [ai.me,BS.out.1];omega
    have hn:Hid (CS.length=Nat.min rl (64-hd)):=by
     show _=_;rw [Hl.out];exact (Nat.min_eq_left (by omega)).symm
    go_wp2_with ((with_reducible refine jR _ _ _ _ 5 g (8+hd) (64-hd) (64-hd) ⟨ab,ao+k,none⟩ rl cl _ _ CS ?_ ?_ Aj.out ?_ ?_ hn.out A7.out CZ.out Fh.out ?_);(exact rfl);(exact rfl);(exact underlying22);(exact Tryz.wv);intro w2 g2 ch)
    have g3:=g2.out;rw [D7.out] at g3;obtain ⟨r1,r2,r3⟩:=aaC I9 Hhd.out Hby.out BS.out (by omega) g3;refine ⟨⟨k+rl,hd+CS.length,0,cl-CS.length,_,_,by show _=_;have:=Hrl.out;omega,Np,by rw [Hl.out];exact r2,rfl,by omega,by omega,by simp,fun h=>absurd h (by omega),r1,r3,HO.out.trans ch.only⟩,by simp [jL];omega⟩
  ·have hz:rl≤0:=by omega
   have fin:Hid (Holds wr g (L++b)):=by
    have hk:k=b.length:=by have:=Hrl.out;omega
    have q1:=BS.out;have q2:=Aj.out;rw [hk,List.take_length] at q1 q2;refine ⟨R2,q1,?_⟩;unfold pB;rw [q2];simp
   clear Hrl Hhd Hq BS Aj h0;go_wp2;go_end0
   exact ⟨rfl,fin.out,HO.out⟩
end
section
open Go.RowKit
theorem Tryz.aix:(prog.info? 5).map (fun i=>(i.zero,i.size,i.bytes))=some (some (.int .u8 0),1,1):=by kernel_rfl
theorem abJ (z n:Nat):((List.replicate (1+z+8) (Value.int .u8 0)).toArray.setIfInBounds 0 (.int .u8 128))=((ai.jk n z 0).map (Value.int .u8)).toArray:=by
 apply Array.ext'
 unfold ai.jk;rw [show 1+z+8=(z+8)+1 by omega,List.replicate_succ];rw [Array.toList_setIfInBounds];simp only [List.set_cons_zero,List.take_zero,List.nil_append,List.map_append,List.map_cons,List.map_replicate,List.cons_append];rw [List.replicate_append_replicate]
def agX (n:Nat) (w:World) (e:Ending) (w':World):Prop :=
 ∃ B,e = .returned (.slice (some ⟨B,0,none⟩) (ai.pad n).length (ai.pad n).length)∧w.heap.size≤B∧Hid (w'.heap[B]?=some (.cells ((ai.pad n).map (Value.int .u8)).toArray 5 (0,0)))∧qw w w'
theorem uS (n:Nat) (hn:n≤1152921504606846976) (w:World) :
  qc 162 #[.int .u64 (n:Int)] w (agX n w):=by
 go_enter func162,ntmps162;go_upto_region 3 with (fail)
 obtain ⟨z,hz⟩:∃ z:Nat,z=(119-n % 64) % 64:=⟨_,rfl⟩;have hz2:(128-((n:Int) % 64+1+8)) % 64=(z:Int):=by omega
 rw [hz2];have NA:z≤63:=by omega
 have HZ:Hid (z=ai.zs n):=hz;clear hz hz2;go_upto_region 4 with ((with_reducible refine o8 _ 5 _ _ (.int .u8 0) 1 (1+z) (1+z+8) ?_ ?_ ?_ ?_ rfl ?_ ?_ ?_ ?_);(exact rfl);(exact rfl);(exact underlying22);(exact Tryz.aix);omega;omega;omega;intro w1 G1 Ag CN)
 have c0:w1.cell? ⟨w.heap.size,0,none⟩=some (.int .u8 0):=by
  rw [cell_of_row w1 w.heap.size 0 _ _ _ G1.out];simp
 have f0:=frozen_of_row w1 w.heap.size 0 _ _ G1.out;go_wp2;go_loopw [5,23] (fun v5 v23 wr=>∃ k:Nat,k≤8∧v23 = .int .i64 k∧v5 = .slice (some ⟨w.heap.size,0,none⟩) (1+z+k) (1+z+8)∧Hid (wr.heap[w.heap.size]?=some (.cells ((ai.jk n z k).map (Value.int .u8)).toArray 5 (0,0)))∧Hid (qw w wr)) (fun _ v23 _=>8-(intOf v23).toNat)
 case atStart =>
  refine ⟨0,by omega,rfl,rfl,?_,?_⟩
  ·have:=heap_setCell_same w1 w.heap.size 0 _ _ (.int .u8 128) G1.out;rw [abJ z n] at this;exact this
  ·exact Ag.setCell qn _
 case round =>
  obtain ⟨k,hk,rfl,rfl,HG,HB⟩:=hrel;clear c0 f0 G1 Ag CN;have EK:w.heap.size<wr.heap.size:=lt_of_block HG.out;by_cases Ae:k<8
  ·have A8:Hid ((wr.alloc (.cells #[.int .u8 (8*(n:Int) / 2 ^ (56-8*k) % 256)] 5)).heap[w.heap.size]?=some (.cells ((ai.jk n z k).map (Value.int .u8)).toArray 5 (0,0))):=by
    show _=_;rw [heap_alloc_old _ _ EK];exact HG.out
   have CZ:Hid (1+z+k+1≤((ai.jk n z k).map (Value.int .u8)).length):=by
    show _≤_;rw [List.length_map,ai.rK _ _ _ hk];omega
   go_wp2_with ((with_reducible refine xK _ _ _ 5 w.heap.size (1+z+k) (1+z+8) _ ⟨wr.heap.size,0,none⟩ 1 (.int .u8 (8*(n:Int) / 2 ^ (56-8*k) % 256)) ?_ ?_ A8.out ?_ ?_ ?_ ?_ ?_ CZ.out ?_);(exact rfl);(exact rfl);(exact underlying22);(exact Tryz.wv);(exact cell_of_one (heap_alloc_new _ _));(exact rfl);omega;intro w3 g3 Dd)
   have g4:=g3.out;rw [← ai.afp,ai.yS n z k Ae] at g4;have As:=Dd.below (HB.out.alloc (by have:=HB.out.size;omega) (.cells #[.int .u8 (8*(n:Int) / 2 ^ (56-8*k) % 256)] 5)) qn;exact ⟨⟨k+1,by omega,by go_num,rfl,g4,As⟩,by simp [intOf];omega⟩
  ·have E:k=8:=by omega
   have Bc:8≤k:=by omega
   have HE:Hid (1+z+k=(ai.pad n).length∧1+z+8=(ai.pad n).length∧wr.heap[w.heap.size]?=some (.cells ((ai.pad n).map (Value.int .u8)).toArray 5 (0,0))):=by
    have h8:=HG.out;rw [E,HZ.out] at h8;refine ⟨?_,?_,?_⟩
    ·rw [ai.iB,E,HZ.out];omega
    ·rw [ai.iB,HZ.out];omega
    ·rw [ai.zF];exact h8
   clear E Ae HG HZ;go_wp2;go_ret;exact ⟨w.heap.size,by show Ending.returned (.slice (some ⟨w.heap.size,0,none⟩) (1+z+k) (1+z+8))=_;rw [HE.out.1,HE.out.2.1],Nat.le_refl _,HE.out.2.2,HB.out⟩
theorem aej:(ai.HC ai.init (List.replicate 64 0) 0).toArray = #[.int .u32 1779033703,.int .u32 3144134277,.int .u32 1013904242,.int .u32 2773480762,.int .u32 1359893119,.int .u32 2600822924,.int .u32 528734635,.int .u32 1541459225,.int .u8 0,.int .u8 0,.int .u8 0,.int .u8 0,.int .u8 0,.int .u8 0,.int .u8 0,.int .u8 0,.int .u8 0,.int .u8 0,.int .u8 0,.int .u8 0,.int .u8 0,.int .u8 0,.int .u8 0,.int .u8 0,.int .u8 0,.int .u8 0,.int .u8 0,.int .u8 0,.int .u8 0,.int .u8 0,.int .u8 0,.int .u8 0,.int .u8 0,.int .u8 0,.int .u8 0,.int .u8 0,.int .u8 0,.int .u8 0,.int .u8 0,.int .u8 0,.int .u8 0,.int .u8 0,.int .u8 0,.int .u8 0,.int .u8 0,.int .u8 0,.int .u8 0,.int .u8 0,.int .u8 0,.int .u8 0,.int .u8 0,.int .u8 0,.int .u8 0,.int .u8 0,.int .u8 0,.int .u8 0,.int .u8 0,.int .u8 0,.int .u8 0,.int .u8 0,.int .u8 0,.int .u8 0,.int .u8 0,.int .u8 0,.int .u8 0,.int .u8 0,.int .u8 0,.int .u8 0,.int .u8 0,.int .u8 0,.int .u8 0,.int .u8 0,.int .u64 0]:=by
 unfold ai.HC
 rfl
theorem adK (w:World):pB (w.alloc (.cells (ai.HC ai.init (List.replicate 64 0) 0).toArray 203)) w.heap.size [] (List.replicate 64 0) 0:=by
 unfold pB;rw [heap_alloc_new,show ([]:List Int).length / 64=0 from rfl,ai.iG]
theorem Tryz.sv:(prog.info? 203).map (fun i=>(i.zero,i.size))=some (some (.agg #[.int .u32 0,.int .u32 0,.int .u32 0,.int .u32 0,.int .u32 0,.int .u32 0,.int .u32 0,.int .u32 0,.int .u8 0,.int .u8 0,.int .u8 0,.int .u8 0,.int .u8 0,.int .u8 0,.int .u8 0,.int .u8 0,.int .u8 0,.int .u8 0,.int .u8 0,.int .u8 0,.int .u8 0,.int .u8 0,.int .u8 0,.int .u8 0,.int .u8 0,.int .u8 0,.int .u8 0,.int .u8 0,.int .u8 0,.int .u8 0,.int .u8 0,.int .u8 0,.int .u8 0,.int .u8 0,.int .u8 0,.int .u8 0,.int .u8 0,.int .u8 0,.int .u8 0,.int .u8 0,.int .u8 0,.int .u8 0,.int .u8 0,.int .u8 0,.int .u8 0,.int .u8 0,.int .u8 0,.int .u8 0,.int .u8 0,.int .u8 0,.int .u8 0,.int .u8 0,.int .u8 0,.int .u8 0,.int .u8 0,.int .u8 0,.int .u8 0,.int .u8 0,.int .u8 0,.int .u8 0,.int .u8 0,.int .u8 0,.int .u8 0,.int .u8 0,.int .u8 0,.int .u8 0,.int .u8 0,.int .u8 0,.int .u8 0,.int .u8 0,.int .u8 0,.int .u8 0,.int .u64 0]),73):=by kernel_rfl
def afH (w:World) (e:Ending) (w':World):Prop :=
 e = .returned (qp w.heap.size)∧Holds w' w.heap.size []∧qw w w'∧w'.heap.size=w.heap.size+1
theorem xq (w:World):qc 144 #[] w (afH w):=by
 have hz:=(zero_of_info Tryz.sv).1;go_enter func144,ntmps144;go_wp2;go_ret;refine ⟨rfl,?_,qb w _,by simp⟩;refine ⟨List.replicate 64 0,ai.ab2 _ (by simp) (fun x hx=>by rw [List.mem_replicate] at hx;omega),?_⟩;have h:=adK w;rw [aej] at h;exact h
end
section
open Go.RowKit
theorem Tryz.sK:(prog.info? 203).map (·.size)=some 73:=by kernel_rfl
theorem Tryz.ar:(prog.info? 39).map (·.size)=some 32:=by kernel_rfl
theorem oC {P:Program} (w:World) (t e:TypeId) (n k:Nat) (cs:Array Value) (v:Value) (i:TypeInfo) (hu:P.underlying t=some (.array n e)) (hi:P.info? e=some i) (hs:i.size=1)
  (he:∀ w,(isAgg e).run P w = .ok false w) (hk:k<n) (hv:cs[k]?=some v) :
  (Instr.index t (.agg cs) (.int .i64 (k:Int))).run P w = .ok v w:=by
 simp [Instr.index,asIntOf,run_underlying hu,sizeOf,typeInfo,hi,hs,part,he,hv];omega
theorem Tryz.agG:(prog.info? 128).map (·.size)=some 1:=by kernel_rfl
theorem afL (s:ai.St) (R:List Int) (n:Int):(ai.HC s R n).toArray.all (·.oneCell')=true:=by
 refine all_oneCell_toArray (fun v hv=>?_);unfold ai.HC at hv;rcases List.mem_append.1 hv with h | h
 ·simp only [ai.St.l,List.mem_cons,List.not_mem_nil,or_false] at h;rcases h with rfl | rfl | rfl | rfl | rfl | rfl | rfl | rfl<;>rfl
 ·rcases List.mem_append.1 h with h | h
  ·exact aw _ v h
  ·simp at h;subst h;rfl
theorem aco {w:World} {g B:Nat} {l:List Int} {t:TypeId} (hl:ai.aY l) (hg:B ≠ g) (h:w.heap[B]?=some (.cells (l.map (Value.int .u8)).toArray t (0,0))):dy w g (some ⟨B,0,none⟩) l :=
 ⟨hl,fun _=>⟨B,0,rfl,hg,fun j hj=>by
  rw [cell_of_row w B (0+j) _ _ _ h];simp [List.getD_eq_getElem?_getD,hj]⟩⟩
theorem acV {w w2 w3:World} {X Y:Obj} {L R:List Int} {B:Nat} (ht:cT w 0) (hR:ai.Rest L R) (G2:pB w2 (w.heap.size+1) L R L.length) (ch:bJ (w.heap.size+1) ((w.alloc X).alloc Y) w2)
  (hB:w2.heap.size≤B) (GB:w3.heap[B]?=some (.cells ((ai.pad L.length).map (Value.int .u8)).toArray 5 (0,0))) (hb:qw w2 w3) :
  Holds w3 (w.heap.size+1) L∧dy w3 (w.heap.size+1) (some ⟨B,0,none⟩) (ai.pad L.length)∧cT w3 0∧w.heap.size+1 ≠ 0∧qw w w3∧w3.heap[w.heap.size]?=some X∧w.heap.size+1<w3.heap.size:=by
 have hs:w2.heap.size=w.heap.size+2:=by rw [ch.size];simp
 have Al:qw w w2:=ch.below (((Below.refl _ w).alloc qn X).alloc (by simp) Y) (by omega);have As:qw w w3:=Al.trans (hb.mono (by omega));have hl:=ht.lt;have h3:=hb.size;refine ⟨⟨R,hR,?_⟩,aco (ai.wu _) (by omega) GB,ht.below As hl,by omega,As,?_,by omega⟩
 ·unfold pB;rw [hb.block _ (by omega)];exact G2
 ·rw [hb.block _ (by omega),ch.block _ (by omega)];exact heap_alloc2_old w X Y
theorem lA {w:World} {G:Nat} {s:ai.St} {k:Nat} {t:TypeId} (h:w.heap[G]?=some (.cells ((ai.rX s k).map (Value.int .u8)).toArray t (0,0))) (hk:k≤8) (j:Nat) (hj:j<32):w.cell? ⟨G,j,none⟩=some (.int .u8 ((ai.rX s k).getD j 0)):=by
 rw [cell_of_row w G j _ _ _ h];simp [List.getD_eq_getElem?_getD,ai.qD s k hk,hj]
theorem nr {w:World} {G i:Nat} {l:List Int} {x:Int} {t:TypeId} (h:w.heap[G]?=some (.cells (l.map (Value.int .u8)).toArray t (0,0))):(w.setCell ⟨G,i,none⟩ (.int .u8 x)).heap[G]?=some (.cells ((l.set i x).map (Value.int .u8)).toArray t (0,0)):=by
 rw [heap_setCell_same w G i _ t _ h];congr 2;apply Array.ext'
 simp
def pV (L:List Int) (w:World) (e:Ending) (w':World):Prop:=e = .returned (.agg ((ai.dg L).map (Value.int .u8)).toArray)∧qw w w'
theorem wO (hT:aV) (g:Nat) (L:List Int) (w:World) (hH:Holds w g L) (hL:L.length≤1152921504606846000) (ht:cT w 0) :
  qc 146 #[qp g] w (pV L w):=by
 have HT:=qh hT;clear hT;obtain ⟨R,hR,hB⟩:=hH;have EK:Hid (g<w.heap.size):=lt_of_block hB;have c72:=(cell_of_row w g 72 _ _ _ hB).trans (xF _ R _ hR.1);have HB:=qh hB;clear hB;have HR:=qh hR;clear hR;have Ht:=qh ht;clear ht;have hz:=(zero_of_info Tryz.sv).1;obtain ⟨C,HC⟩:∃ C,Hid (C=(ai.HC (ai.iG L (L.length / 64)) R L.length).toArray):=⟨_,rfl⟩;have HCs:Hid (C.size=73):=by show _=_;rw [HC.out];simp [ai.me,HR.out.1]
 have Ai:Hid (w.heap[g]?=some (.cells C 203 (0,0))):=by rw [HC.out];exact HB.out
 go_enter func146,ntmps146;have HB1a:∀ o:Obj,Hid ((w.alloc o).heap[g]?=some (.cells C 203 (0,0))):=fun o=>(heap_alloc_old w o EK.out).trans Ai.out;have Kh:Hid (C.all (·.oneCell')=true):=by show _=_;rw [HC.out];exact afL _ _ _
 have HCs2:Hid (C.size=73):=HCs.out;go_upto_region 2 with (first
  | ((with_reducible refine ay _ _ _ _ _ _ _ ?_ (HB1a _).out underlying203 ?_ (ae Tryz.sK HCs) ?_);(exact rfl);(exact rfl))
  | ((with_reducible refine ak _ _ _ _ _ _ _ ?_ ?_ (heap_alloc2_new w _ _) (ae Tryz.sK HCs) ?_ Kh.out ?_);(exact rfl);(exact rfl);(rw [HCs.out];rfl);intro w2 G2 ch))
 have G2':Hid (pB w2 (w.heap.size+1) L R L.length):=by
  have h:=G2.out;rw [HC.out] at h;exact h
 have CH:=qh ch;have Ex:Hid (w2.heap.size=w.heap.size+2):=by show _=_;rw [CH.out.size];simp
 have Gh:Hid (qw w w2):=CH.out.below ((qb w _).alloc (by simp) _) (by omega);have d72:w2.cell? ⟨g,72,none⟩=some (.int .u64 L.length):=by rw [Gh.out.cell (p:=⟨g,72,none⟩) EK.out];exact c72
 clear c72 ch G2 HB1a Kh HCs2 HCs Ai HB hz HC;go_upto_region 3 with (first
  | (go_at_call 162;refine (uS L.length (by omega) _).mono ?_;rintro e w3 ⟨B,rfl,hB,GB,As⟩;have PRE:=qh (acV Ht.out HR.out G2'.out CH.out hB GB.out As);have PL:=qh (ai.iB L.length))
  | (go_at_call 145;refine (oU HT.out (w.heap.size+1) L (ai.pad L.length) _ _ _ PRE.out.1 PRE.out.2.1 qn ?_ ?_ PRE.out.2.2.1 PRE.out.2.2.2.1).mono ?_;(rw [PL.out];unfold ai.zs;omega);(rw [PL.out];unfold ai.zs;omega);rintro e w4 ⟨rfl,HH,IJ⟩))
 obtain ⟨R4,SE,Ou⟩:=HH;have Nw:Hid (w.heap.size+1<w4.heap.size):=lt_of_block Ou;have LP:Hid (qw w w4):=IJ.below PRE.out.2.2.2.2.1 (by omega) (by have:=PRE.out.2.2.2.2.1.size;omega);have Mn:Hid (w4.heap[w.heap.size]?=some (.cells (List.replicate 32 (Value.int .u8 0)).toArray 39 (0,0))):=by
  show _=_;rw [IJ.block _ (by have:=PRE.out.2.2.2.2.2.2;omega) (by omega)];exact PRE.out.2.2.2.2.2.1
 have Av:=qh Ou;unfold pB at Av;generalize hs:ai.iG (L++ai.pad L.length) ((L++ai.pad L.length).length / 64)=s at Av;have HD:Hid (ai.dg L=ai.rX s 8):=by show _=_;rw [← hs,ai.ae9]
 clear hs Ou SE IJ PRE PL As GB hB Ex Gh d72 G2' CH HT Ht HR;have Ay:∀ o:Obj,Hid ((w4.alloc o).heap[w.heap.size+1]?=some (.cells (ai.HC s R4 ((L++ai.pad L.length).length:Nat)).toArray 203 (0,0))):=fun o=>(heap_alloc_old w4 o Nw.out).trans Av.out;go_wp2_with ((with_reducible refine abH _ _ (w.heap.size+1) 0 _ _ s.l _ _ ?_ (Ay _).out (ac0 _ _ _) underlying201 ?_ ?_ ?_);(exact rfl);(exact rfl);(exact Tryz.jg))
 obtain ⟨i39,Gm,Gw⟩:∃ i,prog.info? 128=some i∧i.size=1:=by
  have:=Tryz.agG;cases hq:prog.info? 128 with
  | none=>rw [hq] at this;cases this
  | some i=>rw [hq] at this;exact ⟨i,rfl,by simpa using this⟩
 have HI:=qh (And.intro Gm Gw);clear Gm Gw;have HA:Hid (∀ w,(isAgg 128).run prog w = .ok false w):=fun w=>by
  unfold isAgg;rw [Sem.run_bind,run_underlying underlying128 w]
  rfl
 go_loopw [18] (fun v18 wr=>∃ k:Nat,k≤8∧v18 = .int .i64 k∧Hid (wr.heap[w4.heap.size]?=some (.cells ((ai.rX s k).map (Value.int .u8)).toArray 39 (0,0)))∧Hid (wr.heap[w.heap.size]?=some (.cells (List.replicate 32 (Value.int .u8 0)).toArray 39 (0,0)))∧Hid (qw w wr)) (fun v18 _=>8-(intOf v18).toNat)
 case atStart =>
  refine ⟨0,by omega,rfl,?_,?_,?_⟩
  ·show _=_;rw [heap_alloc_new,ai.acr];rfl
  ·show _=_;rw [heap_alloc_old _ _ (by have:=Nw.out;omega)];exact Mn.out
  ·exact LP.out.alloc LP.out.size _
 case round =>
  obtain ⟨k,hk,rfl,HG,Cd,Dz⟩:=hrel;by_cases Ae:k<8
  ·have QJ:=oC (P:=prog) wr 201 128 8 k s.l.toArray (.int .u32 (s.ints.getD k 0)) i39 underlying201 HI.out.1 HI.out.2 HA.out Ae (by simpa using ai.St.ah7 s k Ae);obtain ⟨x,HX⟩:∃ x,Hid (x=s.ints.getD k 0):=⟨_,rfl⟩;rw [← HX.out] at QJ;have c0:=lA HG.out hk (4*k) (by omega);have c1:=lA HG.out hk (4*k+1) (by omega);have c2:=lA HG.out hk (4*k+2) (by omega);have c3:=lA HG.out hk (4*k+3) (by omega);have f0:=frozen_of_row wr w4.heap.size (4*k) _ _ HG.out;have f1:=frozen_of_row wr w4.heap.size (4*k+1) _ _ HG.out;have f2:=frozen_of_row wr w4.heap.size (4*k+2) _ _ HG.out;have f3:=frozen_of_row wr w4.heap.size (4*k+3) _ _ HG.out;have LG:Hid (w.heap.size<w4.heap.size):=by show _<_;have:=Nw.out;omega
   go_wp2;refine ⟨⟨k+1,by omega,by go_num,?_,?_,?_⟩,by simp [intOf];omega⟩
   ·have h:=nr (x:=x % 256) (i:=4*k+3) (nr (x:=x / 256 % 256) (i:=4*k+2) (nr (x:=x / 65536 % 256) (i:=4*k+1) (nr (x:=x / 16777216 % 256) (i:=4*k) HG.out)));have hx:=HX.out;subst hx;rw [ai.aaF s k Ae] at h;exact h
   ·show _=_;rw [heap_setCell_other _ _ _ _ (by have:=LG.out;simp;omega),heap_setCell_other _ _ _ _ (by have:=LG.out;simp;omega),heap_setCell_other _ _ _ _ (by have:=LG.out;simp;omega),heap_setCell_other _ _ _ _ (by have:=LG.out;simp;omega)];exact Cd.out
   ·have h:=LG.out;exact (((Dz.out.setCell (by simp;omega) _).setCell (by simp;omega) _).setCell (by simp;omega) _).setCell (by simp;omega) _
  ·have E:k=8:=by omega
   have Bc:8≤k:=by omega
   obtain ⟨A,An,Ak,Au⟩:∃ A:Array Value,Hid (A=((ai.rX s 8).map (Value.int .u8)).toArray)∧Hid (A.size=32)∧Hid (A.all (·.oneCell')=true) :=
    ⟨_,rfl,by show _=_;simp [ai.qD s 8 (by omega)],all_oneCell_toArray (aw _)⟩
   have DK:Hid (wr.heap[w4.heap.size]?=some (.cells A 39 (0,0))):=by
    have h:=HG.out;rw [E,← An.out] at h;exact h
   clear E Ae HG;go_wp2_with (first
    | ((with_reducible refine ay _ _ _ _ _ _ _ ?_ DK.out underlying39 ?_ (ae Tryz.ar Ak) ?_);(exact rfl);(exact rfl))
    | ((with_reducible refine ak _ _ _ _ _ _ _ ?_ ?_ Cd.out (ae Tryz.ar Ak) ?_ Au.out ?_);(exact rfl);(exact rfl);(rw [Ak.out];rfl);intro w6 G6 AE))
   refine bodyPost_ret (results_cell_row rfl _ _ w.heap.size 39 A (0,0) _ rfl G6.out underlying39 rfl (ae Tryz.ar Ak)) rfl ⟨?_,AE.below Dz.out qn⟩;rw [HD.out,An.out]
end
section
open Go.RowKit
def sb (l:List Int) (i:Nat):Int:=l.getD (i / 4) 0 / 2 ^ (24-8*(i % 4)) % 256
def sI (l:List Int) (k:Nat):List Int:=(List.range k).map (sb l)++List.replicate (32-k) 0
theorem vz (l:List Int) (k:Nat) (h:k≤32):(sI l k).length=32:=by simp [sI];omega
theorem ack (l:List Int) (k:Nat) (h:k<32):(sI l k).set k (sb l k)=sI l (k+1):=by
 unfold sI;rw [List.set_append_right _ _ (by simp),List.range_succ,List.map_append,List.length_map,List.length_range,Nat.sub_self,show 32-k=(32-(k+1))+1 by omega,List.replicate_succ];simp
theorem zn (l:List Int):sI l 0=List.replicate 32 0:=by simp [sI]
theorem aht (l:List Int) (i:Nat):l[i / 4]?.getD 0 / 2 ^ (24-8*(i % 4)) % 256=sb l i:=by rw [← List.getD_eq_getElem?_getD];rfl
theorem ae4 (l:List Int) (i:Nat):sb l i=l.getD (i / 4) 0 / 2 ^ (24-8*(i % 4)) % 256:=rfl
theorem acL {w:World} {G:Nat} {l:List Int} {k:Nat} {t:TypeId} (h:w.heap[G]?=some (.cells ((sI l k).map (Value.int .u8)).toArray t (0,0))) (hk:k≤32) (j:Nat) (hj:j<32):w.cell? ⟨G,j,none⟩=some (.int .u8 ((sI l k).getD j 0)):=by
 rw [cell_of_row w G j _ _ _ h];simp [List.getD_eq_getElem?_getD,vz l k hk,hj]
attribute [irreducible] sb sI
theorem dy.below {w w':World} {g B:Nat} {p:Option Addr} {l:List Int} (h:dy w g p l) (hb:Below B w w') (hB:w.heap.size≤B):dy w' g p l :=
 ⟨h.1,fun h0=>by
  obtain ⟨ab,ao,h1,h2,h3⟩:=h.2 h0;refine ⟨ab,ao,h1,h2,fun j hj=>?_⟩;have h4:=World.block_lt_of_cell? w _ (h3 j hj);rw [hb.cell (p:=⟨ab,ao+j,none⟩) (Nat.lt_of_lt_of_le h4 hB)];exact h3 j hj⟩
theorem Holds.below {w w':World} {g B:Nat} {L:List Int} (h:Holds w g L) (hb:Below B w w') (hB:w.heap.size≤B):Holds w' g L:=by
 obtain ⟨R,h1,h2⟩:=h;refine ⟨R,h1,?_⟩;unfold pB at h2 ⊢;rw [hb.block _ (Nat.lt_of_lt_of_le (lt_of_block h2) hB)];exact h2
theorem ag0 {w w1 w2:World} {b:List Int} {X:Obj} (hP:Holds w1 (w.heap.size+1) []∧qw w w1∧w1.heap[w.heap.size]?=some X∧w1.heap.size=w.heap.size+2∧cT w1 0) (ht:cT w 0)
  (HH:Holds w2 (w.heap.size+1) ([]++b)) (HO:aE (w.heap.size+1) w1 w2):Holds w2 (w.heap.size+1) b∧qw w w2∧w2.heap[w.heap.size]?=some X∧cT w2 0:=by
 have hb:qw w w2:=HO.below hP.2.1 (by omega) (by have:=hP.2.2.2.1;omega);refine ⟨by simpa using HH,hb,?_,ht.below hb ht.lt⟩;rw [HO.block _ (by have:=hP.2.2.2.1;omega) (by omega)];exact hP.2.2.1
theorem aei {w w2 w3:World} {X:Obj} (hb:qw w w2) (h:w2.heap[w.heap.size]?=some X) (As:qw w2 w3):qw w w3∧w3.heap[w.heap.size]?=some X :=
 ⟨hb.trans (As.mono hb.size),by rw [As.block _ (lt_of_block h)];exact h⟩
theorem gD (L:List Int):(ai.dg L).length=32:=by unfold ai.dg;exact ai.qD _ 8 (by omega)
theorem adL (hT:aV) (b:List Int) (p:Option Addr) (cap:Nat) (w:World) (hb:∀ g,w.heap.size≤g→dy w g p b) (hc:b.length≤cap) (BI:cap≤9223372036854775807) (I0:b.length≤1152921504606846000) (ht:cT w 0) :
  qc 143 #[.slice p b.length cap] w (pV b w):=by
 have HT:=qh hT;clear hT;have Ht:=qh ht;clear ht;have Hb:=qh hb;clear hb;go_enter func143,ntmps143;go_wp2_with (fail)
 refine (xq _).mono ?_;rintro e w1 ⟨rfl,LX,Ag,CN⟩;have P1:Hid (Holds w1 (w.heap.size+1) []∧qw w w1∧w1.heap[w.heap.size]?=some (.cells (List.replicate 32 (Value.int .u8 0)).toArray 39 (0,0))∧w1.heap.size=w.heap.size+2∧cT w1 0):=by
  have I1:qw w w1:=(qb w _).trans (Ag.mono (by simp));refine ⟨by simpa using LX,I1,?_,by simpa using CN,Ht.out.below I1 Ht.out.lt⟩;rw [Ag.block _ (by simp)];exact heap_alloc_new w _
 clear LX Ag CN;have Hc:=qh (And.intro hc (And.intro BI I0));have PB:Hid (dy w1 (w.heap.size+1) p b):=(Hb.out (w.heap.size+1) (by omega)).below P1.out.2.1 qn;have PN:Hid (w.heap.size+1 ≠ 0):=by have:=Ht.out.lt;show _ ≠ _;omega
 obtain ⟨A,An,Ak,Au⟩:∃ A:Array Value,Hid (A=((ai.dg b).map (Value.int .u8)).toArray)∧Hid (A.size=32)∧Hid (A.all (·.oneCell')=true) :=
  ⟨_,rfl,by show _=_;simp [gD],all_oneCell_toArray (aw _)⟩
 go_wp2_with (first
  | (go_at_call 145;refine (oU HT.out (w.heap.size+1) [] b _ _ _ P1.out.1 PB.out Hc.out.1 ?_ ?_ P1.out.2.2.2.2 PN.out).mono ?_;(have:=Hc.out;omega);(have:=Hc.out;simp;omega);rintro e w2 ⟨rfl,HH,HO⟩;have P2:=qh (ag0 P1.out Ht.out HH HO);clear HH HO)
  | (go_at_call 146;refine (wO HT.out (w.heap.size+1) b _ P2.out.1 ?_ P2.out.2.2.2).mono ?_;(have:=Hc.out;omega);rintro e w3 ⟨rfl,As⟩;have P3:=qh (aei P2.out.2.1 P2.out.2.2.1 As);clear As;rw [← An.out])
  | ((with_reducible refine ak _ _ _ _ _ _ _ ?_ ?_ P3.out.2 (ae Tryz.ar Ak) ?_ Au.out ?_);(exact rfl);(exact rfl);(rw [Ak.out];rfl);intro w6 G6 AE))
 refine bodyPost_ret (results_cell_row rfl _ _ w.heap.size 39 A (0,0) _ rfl G6.out underlying39 rfl (ae Tryz.ar Ak)) rfl ⟨?_,AE.below P3.out.1 qn⟩;rw [An.out]
end
section
open Go.RowKit
theorem Tryz.aiN (w:World):(isAgg 5).run prog w = .ok false w:=by
 unfold isAgg;rw [Sem.run_bind,run_underlying underlying5 w]
 rfl
theorem Tryz.adk:prog.eqGuardType prog.depth 39=false:=by kernel_rfl
end
section
open Go.RowKit
def St (w wi:World) (G:Nat) (L:List Int):Prop:=Holds wi G L∧qw w wi∧cT wi 0∧w.heap.size≤G∧G ≠ 0∧w.heap.size≤wi.heap.size
theorem St.new {w w':World} (ht:cT w 0) (h1:Holds w' w.heap.size []) (h2:qw w w'):St w w' w.heap.size [] :=
 ⟨h1,h2,ht.below h2 ht.lt,Nat.le_refl _,by have:=ht.lt;omega,h2.size⟩
theorem St.add {w wi w':World} {G:Nat} {L c:List Int} (h:St w wi G L) (h1:Holds w' G (L++c)) (h2:aE G wi w'):St w w' G (L++c):=by
 obtain ⟨a1,a2,a3,a4,a5,a6⟩:=h;refine ⟨h1,h2.below a2 a4 a6,fun t ht=>h2.cell (Ne.symm a5) (a3 t ht),a4,a5,Nat.le_trans a6 h2.size⟩
theorem St.below {w wi w':World} {G:Nat} {L:List Int} (h:St w wi G L) (hb:qw wi w'):St w w' G L:=by
 obtain ⟨a1,a2,a3,a4,a5,a6⟩:=h;exact ⟨a1.below hb qn,a2.trans (hb.mono a6),a3.below hb a3.lt,a4,a5,Nat.le_trans a6 hb.size⟩
def agc (w wi:World) (G:Nat) (L c:List Int) (e:Ending) (w':World):Prop:=e = .returned (.tuple #[])∧St w w' G (L++c)∧aE G wi w'
theorem aaO (hT:aV) {w wi:World} {G:Nat} {L:List Int} (c:List Int) (p:Option Addr) (n cap:Nat) (hn:c.length=n) (hs:St w wi G L) (hb:dy wi G p c) (hc:n≤cap) (BI:cap≤9223372036854775807) (hL:L.length+n≤1152921504606846000) :
  qc 145 #[qp G,.slice p n cap] wi (agc w wi G L c):=by
 subst hn;exact (oU hT G L c p cap wi hs.1 hb hc (by omega) (by omega) hs.2.2.1 hs.2.2.2.2.1).mono fun _ _ h=>⟨h.1,hs.add h.2.1 h.2.2,h.2.2⟩
def ahR (w wi:World) (G:Nat) (L:List Int) (e:Ending) (w':World):Prop:=e = .returned (.agg ((ai.dg L).map (Value.int .u8)).toArray)∧St w w' G L∧qw wi w'
theorem af2 (hT:aV) {w wi:World} {G:Nat} {L:List Int} (hs:St w wi G L) (hL:L.length≤1152921504606846000) :
  qc 146 #[qp G] wi (ahR w wi G L) :=
 (wO hT G L wi hs.1 hL hs.2.2.1).mono fun _ _ h=>⟨h.1,hs.below h.2,h.2⟩
section
variable {P:Program} {md:Region.Mode} {ops:Array Oper} {Q:Exit→Act→World→Prop} {fuel:Nat} {listed:Array Bool} {a:Act} {w:World}
theorem au (i D:Nat) (v:Value) {op:Op} {T:TypeId} {ps:String} {af:Array Edge} {gd:Option (Nat × Bool)} (ho:ops[i]?=some { dst:=some D,op:=op,type:=T,pos:=ps,after:=af,guard:=gd })
  (hs:Region.noSelect ops=true) (hf:Region.free md ops listed i=true) (hr:(Region.ready md ops listed).contains i=true)
  (hQ:∀ c a w,Q (.panic c) (a.put (some D) v) w→Q (.panic c) a w) (hw:Region.wanted { dst:=some D,op:=op,type:=T,pos:=ps,after:=af,guard:=gd } (yielded ops a.tmps)=true)
  (hy:∀ w,(execOp a.eval { dst:=some D,op:=op,type:=T,pos:=ps,after:=af,guard:=gd }).run P w = .ok (.value v) w)
  (h:wpAny P md ops Q fuel (listed.setIfInBounds i true) (a.put (some D) v) w):wpAny P md ops Q (fuel+1) listed a w :=
 wpAny_take (oi:={ dst:=some D,op:=op,type:=T,pos:=ps,after:=af,guard:=gd }) ho hs hf hr hQ (Or.inl ⟨hw,hy⟩) h
end
end
end Go.Proofs.YthgjfjmampmiiaaGreatDoor

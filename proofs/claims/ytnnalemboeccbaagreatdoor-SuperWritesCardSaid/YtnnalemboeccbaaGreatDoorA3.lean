import Derived.Test.YtnnalemboeccbaaGreatDoorA2
import Derived.Test.YtnnalemboeccbaaGreatDoorA1
import Derived.Deep.RegionHeld3
import Derived.OneCell
import Derived.StillTailTactics
import Derived.Deep.WholeRow
import Derived.ChangeKeysEq
import Derived.Lib.SlBytesConst
import Derived.Laws.StructEq
import Derived.Deep.Cut
namespace Go.Proofs.YtnnalemboeccbaaGreatDoor
section
open Go.RowKit
def HBlk (w:World) (g:Nat) (L R:List Int) (N:Int):Prop :=
 w.heap[g]?=some (.cells (Sha.HC (Sha.stN L (L.length / 64)) R N).toArray 231 (0,0))
def Holds (w:World) (g:Nat) (L:List Int):Prop:=∃ R,Sha.Rest L R∧HBlk w g L R L.length
def BytesAt (w:World) (g:Nat) (p:Option Addr) (l:List Int):Prop :=
 Sha.Byt l∧(0<l.length→∃ ab ao,p=some ⟨ab,ao,none⟩∧ab ≠ g∧∀ j,j<l.length→w.cell? ⟨ab,ao+j,none⟩=some (.int .u8 (l.getD j 0)))
theorem arr_slice {P:Program} (w:World) (t e:TypeId) (n g o k:Nat) (hn:P.underlying t=some (.array n e)) (he:(P.info? e).map (·.size)=some 1) (hk:k<n) :
  (Instr.sliceAt t (.pointer (some ⟨g,o,none⟩)) (some (.int .i64 (k:Int))) none none).run P w = .ok (.slice (some ⟨g,o+k,none⟩) (n-k) (n-k)) w:=by
 have hne:¬ n=k:=by omega
 have ha:(⟨g,o,none⟩:Addr).add k = ⟨g,o+k,none⟩:=Addr.add_mid g o k
 have h1:k≤n:=by omega
 cases hq:P.info? e with
 | none=>simp [hq] at he
 | some i =>
  have hs:i.size=1:=by simpa [hq] using he
  simp [Instr.sliceAt,Instr.sureAddr,run_underlying hn,Instr.sliceBounds,run_sliceBound,sizeOf,typeInfo,hq,hs,hne,ha,h1]
theorem HC_at72 (s:Sha.St) (R:List Int) (n:Int) (h:R.length=64):(Sha.HC s R n).toArray[72]?=some (.int .u64 n):=by
 unfold Sha.HC Sha.St.l
 simp [h]
theorem HC_set72 (s:Sha.St) (R:List Int) (n m:Int) (h:R.length=64):(Sha.HC s R n).toArray.setIfInBounds 72 (.int .u64 m)=(Sha.HC s R m).toArray:=by
 apply Array.ext'
 unfold Sha.HC Sha.St.l
 simp [h]
theorem HC_range0 {w:World} {g:Nat} {s:Sha.St} {R:List Int} {n:Int} {t:TypeId} (h:w.heap[g]?=some (.cells (Sha.HC s R n).toArray t (0,0))):w.rangeAt g 0 s.l:=fun j v hv=>by
 rw [cell_of_row w g (0+j) _ _ _ h]
 unfold Sha.HC
 have hj:j<s.l.length:=(List.getElem?_eq_some_iff.1 hv).1
 rw [List.getElem?_toArray,List.getElem?_append,if_pos (by omega),Nat.zero_add]
 exact hv
theorem HC_get0 (s:Sha.St) (R:List Int) (n:Int):∀ j v,s.l[j]?=some v→(Sha.HC s R n).toArray[0+j]?=some v:=fun j v hv=>by
 unfold Sha.HC
 have hj:j<s.l.length:=(List.getElem?_eq_some_iff.1 hv).1
 rw [List.getElem?_toArray,List.getElem?_append,if_pos (by omega),Nat.zero_add]
 exact hv
theorem HC_get8 (s:Sha.St) (R:List Int) (n:Int):∀ j v,(R.map (Value.int .u8))[j]?=some v→(Sha.HC s R n).toArray[8+j]?=some v:=fun j v hv=>by
 unfold Sha.HC
 have hj:j<(R.map (Value.int .u8)).length:=(List.getElem?_eq_some_iff.1 hv).1
 have e:s.l.length=8:=rfl
 rw [List.getElem?_toArray,List.getElem?_append,if_neg (by omega),e,show 8+j-8=j by omega,List.getElem?_append,if_pos hj]
 exact hv
theorem HC_range8 {w:World} {g:Nat} {s:Sha.St} {R:List Int} {n:Int} {t:TypeId} (h:w.heap[g]?=some (.cells (Sha.HC s R n).toArray t (0,0))):w.rangeAt g 8 (R.map (Value.int .u8)):=fun j v hv=>by
 rw [cell_of_row w g (8+j) _ _ _ h]
 unfold Sha.HC
 have hj:j<(R.map (Value.int .u8)).length:=(List.getElem?_eq_some_iff.1 hv).1
 have e:s.l.length=8:=rfl
 rw [List.getElem?_toArray,List.getElem?_append,if_neg (by omega),e,show 8+j-8=j by omega,List.getElem?_append,if_pos hj]
 exact hv
def TookSay (s:Sha.St) (R:List Int) (w:World) (e:Ending) (w':World):Prop :=
 ∃ x:Sha.St,e = .returned (.agg x.l.toArray)∧Hid (x=Sha.tk s (fun i=>R.getD i 0))∧Below w.heap.size w w'
theorem take_of (hT:TakeSaid) (s:Sha.St) (R:List Int) (rl:List Value) (hr:Hid (rl=R.map (Value.int .u8))) (hl:R.length=64) (hb:Sha.Byt R) (w:World) (ht:Tab w 1) :
  Calls Tryz.prog 191 #[.agg s.l.toArray,.agg rl.toArray] w (TookSay s R w):=by
 rw [hr.out]
 refine (hT s _ (fun i=>R.getD i 0) (by simp [hl]) (fun i hi=>?_) (fun i _=>Sha.byt_getD hb i) w ht).mono fun e w' h=>⟨_,h.1,rfl,h.2⟩
 simp [List.getD_eq_getElem?_getD,hl,hi]
theorem st_one (s:Sha.St):s.l.toArray.all (·.oneCell')=true:=one8 _ _ _ _ _ _ _ _ _
theorem take_more (L b:List Int) (k n:Nat):L++b.take (k+n)=(L++b.take k)++(b.drop k).take n:=by
 rw [List.take_add,List.append_assoc]
theorem len_before {L b:List Int} {k:Nat} (h:k≤b.length):(L++b.take k).length=L.length+k:=by simp;omega
theorem len_piece {b:List Int} {k n:Nat} (h:n+k≤b.length):((b.drop k).take n).length=n:=by simp;omega
theorem add_some {w2:World} {g:Nat} {L b R:List Int} {k hd n:Nat} {N:Int} (hk:n+k≤b.length) (hhd:hd=(L.length+k) % 64) (hby:Sha.Byt b) (hR:Sha.Rest (L++b.take k) R) (hl:hd+n<64)
  (g2:w2.heap[g]?=some (.cells (splice (Sha.HC (Sha.stN (L++b.take k) ((L++b.take k).length / 64)) R N) (8+hd) (((b.drop k).take n).map (Value.int .u8))).toArray 231 (0,0))) :
  Sha.Rest (L++b.take (k+n)) (splice R hd ((b.drop k).take n))∧hd+n=(L.length+(k+n)) % 64 ∧
   w2.heap[g]?=some (.cells (Sha.HC (Sha.stN (L++b.take (k+n)) ((L++b.take (k+n)).length / 64)) (splice R hd ((b.drop k).take n)) N).toArray 231 (0,0)):=by
 have e1:=len_before (L:=L) (b:=b) (k:=k) (by omega)
 have e2:=len_piece hk
 have hd':hd=(L++b.take k).length % 64:=by rw [e1];exact hhd
 have hby2:Sha.Byt ((b.drop k).take n):=Sha.byt_take (Sha.byt_drop hby _) _
 rw [take_more L b k n]
 subst hd'
 obtain ⟨q1,q2,q3,q4⟩:=Sha.rest_some hR hby2 (by rw [e2];exact hl)
 refine ⟨q1,by omega,?_⟩
 rw [q4,← Sha.HC_splice _ _ _ _ _ (by rw [e2,hR.1];omega)]
 exact g2
theorem add_full {w2:World} {g:Nat} {L b R:List Int} {k hd n:Nat} {N:Int} (hk:n+k≤b.length) (hhd:hd=(L.length+k) % 64) (hby:Sha.Byt b) (hR:Sha.Rest (L++b.take k) R) (hl:hd+n=64)
  (g2:w2.heap[g]?=some (.cells (Sha.HC (Sha.tk (Sha.stN (L++b.take k) ((L++b.take k).length / 64)) (fun i=>(splice R hd ((b.drop k).take n)).getD i 0)) (splice R hd ((b.drop k).take n)) N).toArray 231 (0,0))) :
  Sha.Rest (L++b.take (k+n)) (splice R hd ((b.drop k).take n))∧0=(L.length+(k+n)) % 64 ∧
   w2.heap[g]?=some (.cells (Sha.HC (Sha.stN (L++b.take (k+n)) ((L++b.take (k+n)).length / 64)) (splice R hd ((b.drop k).take n)) N).toArray 231 (0,0)):=by
 have e1:=len_before (L:=L) (b:=b) (k:=k) (by omega)
 have e2:=len_piece hk
 have hd':hd=(L++b.take k).length % 64:=by rw [e1];exact hhd
 have hby2:Sha.Byt ((b.drop k).take n):=Sha.byt_take (Sha.byt_drop hby _) _
 rw [take_more L b k n]
 subst hd'
 obtain ⟨q1,q2,q3⟩:=Sha.rest_full hR hby2 (by rw [e2];exact hl)
 refine ⟨q1,by omega,?_⟩
 rw [q3]
 exact g2
theorem cells_at {w wr:World} {g ab ao k n:Nat} {b:List Int} (hO:Only g w wr) (ha:ab ≠ g) (hk:n+k≤b.length) (h:∀ j,j<b.length→w.cell? ⟨ab,ao+j,none⟩=some (.int .u8 (b.getD j 0))) :
  ∀ j v,(((b.drop k).take n).map (Value.int .u8))[j]?=some v→wr.cell? ((⟨ab,ao+k,none⟩:Addr).add j)=some v:=fun j v hv=>by
 rw [Addr.add_mid]
 simp only [List.getElem?_map,List.getElem?_take,List.getElem?_drop] at hv
 split at hv
 ·have hj:k+j<b.length:=by omega
  rw [List.getElem?_eq_getElem hj] at hv
  have:=hO.cell ha (h (k+j) hj)
  rw [List.getD_eq_getElem?_getD,List.getElem?_eq_getElem hj] at this
  simp at hv this
  rw [← hv,← this]
  congr 2
  omega
 ·cases hv
theorem bytes_one (l:List Int):∀ v∈l.map (Value.int .u8),v.oneCell'=true:=fun v hv=>by
 obtain ⟨x,_,rfl⟩:=List.mem_map.1 hv;rfl
theorem Tryz.size5:(Tryz.prog.info? 5).map (·.size)=some 1:=by kernel_rfl
def sliceLen:Value→Nat | .slice _ n _=>n | _=>0
set_option maxRecDepth 100000 in
set_option maxHeartbeats 1000000 in
theorem add_any (hT:TakeSaid) (g:Nat) (L b:List Int) (p:Option Addr) (cap:Nat) (w:World) (hH:Holds w g L) (hb:BytesAt w g p b) (hc:b.length≤cap) (hcm:cap≤9223372036854775807) (hL:L.length+b.length≤1152921504606846976) (ht:Tab w 1) (hg:g ≠ 1) :
  Calls Tryz.prog 172 #[.pointer (some ⟨g,0,none⟩),.slice p b.length cap] w fun e w'=>e = .returned (.tuple #[])∧Holds w' g (L++b)∧Only g w w':=by
 have HT:=Lib.hid hT;clear hT
 obtain ⟨R,hR,hB⟩:=hH
 obtain ⟨hby,hsrc⟩:=hb
 have c72:=(cell_of_row w g 72 _ _ _ hB).trans (HC_at72 _ R _ hR.1)
 have f72:=frozen_of_row w g 72 _ _ hB
 have HB:=Lib.hid hB;clear hB
 have HR:=Lib.hid hR;clear hR
 have Hby:=Lib.hid hby;clear hby
 have Ht:=Lib.hid ht;clear ht
 obtain ⟨ab,ao,Hs⟩:∃ ab ao,Hid (0<b.length→p=some ⟨ab,ao,none⟩∧ab ≠ g∧∀ j,j<b.length→w.cell? ⟨ab,ao+j,none⟩=some (.int .u8 (b.getD j 0))):=by
  by_cases h0:0<b.length
  ·obtain ⟨ab,ao,h⟩:=hsrc h0;exact ⟨ab,ao,fun _=>h⟩
  ·exact ⟨0,0,fun h=>absurd h h0⟩
 clear hsrc
 go_enter Tryz.func172,Tryz.ntmps172
 go_wp2
 go_loopw [1,4] (fun v1 v4 wr=>∃ (k hd rl cl:Nat) (q:Option Addr) (R:List Int),Hid (rl+k=b.length)∧hd<64∧Hid (hd=(L.length+k) % 64)∧v1 = .slice q rl cl∧rl≤cl∧cl≤9223372036854775807∧v4 = .int .i64 hd∧Hid (0<rl→q=some ⟨ab,ao+k,none⟩)∧Hid (Sha.Rest (L++b.take k) R) ∧
   Hid (wr.heap[g]?=some (.cells (Sha.HC (Sha.stN (L++b.take k) ((L++b.take k).length / 64)) R (L.length+b.length)).toArray 231 (0,0)))∧Hid (Only g w wr)) (fun v1 _ _=>sliceLen v1)
 case atStart =>
  refine ⟨0,L.length % 64,b.length,cap,p,R,rfl,by omega,rfl,rfl,hc,hcm,by simp,fun h=>(Hs.out h).1,by simpa using HR,?_,?_⟩
  ·have h0:=heap_setCell_same w g 72 _ _ (.int .u64 (L.length+b.length)) HB.out
   rw [HC_set72 _ _ _ _ HR.out.1] at h0
   show _=_
   simpa using h0
  ·exact (Chg.setCell w ⟨g,72,none⟩ _).only
 case round =>
  obtain ⟨k,hd,rl,cl,q,R2,Hrl,hhd,Hhd,rfl,hrc,hcl,rfl,Hq,HR2,HB2,HO⟩:=hrel
  clear c72 f72 HB HR
  by_cases h0:0<rl
  ·obtain rfl:=Hq.out h0
   clear Hq
   have hsl:=arr_slice (P:=Tryz.prog) wr 177 5 64 g 8 hd Tryz.underlying177 Tryz.size5 hhd
   by_cases hf:64-hd≤rl
   ·obtain ⟨m,Hm⟩:∃ m,Hid (m=64-hd):=⟨_,rfl⟩
    have hm1:m+hd≤64:=by rw [Hm.out];omega
    have hm2:64≤m+hd:=by rw [Hm.out];omega
    have hkr:m+k≤b.length:=by have:=Hrl.out;omega
    obtain ⟨c,Hc⟩:∃ c,Hid (c=(b.drop k).take m):=⟨_,rfl⟩
    have Hcl:Hid (c.length=m):=by show _=_;rw [Hc.out,len_piece hkr]
    obtain ⟨CS,HCS,Hl⟩:∃ CS:List Value,Hid (CS=c.map (Value.int .u8))∧Hid (CS.length=m):=⟨_,rfl,by show _=_;rw [List.length_map,Hcl.out]⟩
    have hl1:CS.length≤rl:=by rw [Hl.out];omega
    have hl2:64≤hd+CS.length:=by rw [Hl.out];omega
    have hl3:hd+CS.length≤64:=by rw [Hl.out];omega
    have ht1:((hd:Int)+(CS.length:Int)==64)=true:=by simp;omega
    have hcs:Hid (∀ j v,CS[j]?=some v→wr.cell? ((⟨ab,ao+k,none⟩:Addr).add j)=some v):=by
     rw [HCS.out,Hc.out];exact cells_at HO.out (Hs.out (by omega)).2.1 hkr (Hs.out (by omega)).2.2
    have hone:Hid (∀ v∈CS,v.oneCell'=true):=by rw [HCS.out];exact bytes_one _
    have hfit:Hid (8+hd+CS.length≤(Sha.HC (Sha.stN (L++b.take k) ((L++b.take k).length / 64)) R2 (L.length+b.length)).length):=by
     show _≤_;rw [Sha.HC_len,HR2.out.1];omega
    have hn:Hid (CS.length=Nat.min rl (64-hd)):=by
     show _=_;rw [Hl.out,Hm.out];exact (Nat.min_eq_right (by omega)).symm
    go_upto_region 7 with ((with_reducible refine row_copy _ _ _ _ 5 g (8+hd) (64-hd) (64-hd) ⟨ab,ao+k,none⟩ rl cl _ _ CS ?_ ?_ HB2.out ?_ ?_ hn.out hcs.out hfit.out hone.out ?_);(exact rfl);(exact rfl);(exact Tryz.underlying22);(exact Tryz.size5);intro w2 g2 ch)
    have HB3:Hid (w2.heap[g]?=some (.cells (Sha.HC (Sha.stN (L++b.take k) ((L++b.take k).length / 64)) (splice R2 hd c) (L.length+b.length)).toArray 231 (0,0))):=by
     have g3:=g2.out
     rw [HCS.out,Sha.HC_splice _ _ _ _ _ (by rw [Hcl.out,HR2.out.1];omega)] at g3
     exact g3
    have HR3:Hid ((splice R2 hd c).length=64∧Sha.Byt (splice R2 hd c)):=by
     refine ⟨?_,?_⟩
     ·rw [Sha.splice_len _ _ _ (by rw [Hcl.out,HR2.out.1];omega),HR2.out.1]
     ·exact Sha.splice_byt _ HR2.out.2.1 (by rw [Hc.out];exact Sha.byt_take (Sha.byt_drop Hby.out _) _)
    have HO2:Hid (Only g w w2):=HO.out.trans ch.only
    have HT2:Hid (Tab w2 1):=fun t h=>HO2.out.cell (Ne.symm hg) (Ht.out t h)
    obtain ⟨q2,Hq2⟩:∃ q2:Option Addr,Hid (q2=if cl=CS.length then some ⟨ab,ao+k,none⟩ else some ⟨ab,ao+k+CS.length,none⟩):=⟨_,rfl⟩
    rw [← Hq2.out]
    clear g2 ch HB2 HO hcs hone hfit hn hsl ht1 HCS
    generalize hs:Sha.stN (L++b.take k) ((L++b.take k).length / 64)=s at HB3
    have HS:=Lib.hid hs;clear hs
    obtain ⟨RR,HRR⟩:∃ RR,Hid (RR=splice R2 hd c):=⟨_,rfl⟩
    rw [← HRR.out] at HB3 HR3
    obtain ⟨rl8,Hrl8⟩:∃ rl8:List Value,Hid (rl8=RR.map (Value.int .u8)):=⟨_,rfl⟩
    have HG8:Hid (∀ j v,rl8[j]?=some v→(Sha.HC s RR (L.length+b.length)).toArray[8+j]?=some v):=by rw [Hrl8.out];exact HC_get8 _ _ _
    have HL8:Hid ((Tryz.prog.info? 177).map (·.size)=some rl8.length):=by rw [Hrl8.out,List.length_map,HR3.out.1];exact Tryz.size45
    have HT3:Hid (Tab w2.drew 1):=HT2.out
    have LR0:Hid (w2.drew.rangeAt g 0 s.l):=HC_range0 HB3.out
    have LR8:Hid (w2.drew.rangeAt g 8 rl8):=by rw [Hrl8.out];exact HC_range8 HB3.out
    have hgl:Hid (g<w2.drew.heap.size):=lt_of_block HB3.out
    refine wp_region_any (by kernel_rfl) ?_
    change wpAny _ _ _ _ _ _ _ (World.drew _)
    refine any_take 0 40 (.pointer (some ⟨g,0,none⟩)) rfl (by kernel_rfl) (by kernel_rfl) (by kernel_rfl) (fun _ _ _ h=>h) (by intro w;go_simp) ?_
    simp only [Act.put,zq1,zq2,zq3]
    refine any_take 1 41 (.pointer (some ⟨g,0,none⟩)) rfl (by kernel_rfl) (by kernel_rfl) (by kernel_rfl) (fun _ _ _ h=>h) (by intro w;go_simp) ?_
    simp only [Act.put,zq1,zq2,zq3]
    refine any_take 2 42 (.pointer (some ⟨g,0,none⟩)) rfl (by kernel_rfl) (by kernel_rfl) (by kernel_rfl) (fun _ _ _ h=>h) (by intro w;go_simp) ?_
    simp only [Act.put,zq1,zq2,zq3]
    refine any_take 3 43 (.pointer (some ⟨g,0,none⟩)) rfl (by kernel_rfl) (by kernel_rfl) (by kernel_rfl) (fun _ _ _ h=>h) (by intro w;go_simp) ?_
    simp only [Act.put,zq1,zq2,zq3]
    refine any_take 5 45 (.pointer (some ⟨g,0,none⟩)) rfl (by kernel_rfl) (by kernel_rfl) (by kernel_rfl) (fun _ _ _ h=>h) (by intro w;go_simp) ?_
    simp only [Act.put,zq1,zq2,zq3]
    refine any_take 6 46 (.pointer (some ⟨g,0,none⟩)) rfl (by kernel_rfl) (by kernel_rfl) (by kernel_rfl) (fun _ _ _ h=>h) (by intro w;go_simp) ?_
    simp only [Act.put,zq1,zq2,zq3]
    refine any_take 7 47 (.pointer (some ⟨g,8,none⟩)) rfl (by kernel_rfl) (by kernel_rfl) (by kernel_rfl) (fun _ _ _ h=>h) (by intro w;go_simp) ?_
    simp only [Act.put,zq1,zq2,zq3]
    refine any_two 4 8 (by kernel_rfl) ?_ ?_
    ·refine op_load 4 229 (.tmp 43) rfl g 0 s.l _ rfl LR0.out Tryz.underlying229 rfl Tryz.size44 ?_
     simp only [Act.put,zq1,zq2,zq3]
     refine any_one 8 (by kernel_rfl) ?_
     refine op_load 8 177 (.tmp 47) rfl g 8 rl8 _ rfl LR8.out Tryz.underlying177 rfl HL8.out ?_
     simp only [Act.put,zq1,zq2,zq3]
     refine any_one 9 (by kernel_rfl) ?_
     refine wpOp_step rfl (fun K hK=>?_)
     go_simp
     refine (take_of HT.out s RR rl8 Hrl8 HR3.out.1 HR3.out.2 _ HT3.out).mono ?_
     rintro e w3 ⟨y,rfl,HY,hb3⟩
     have HB4:=Lib.hid ((hb3.block g hgl.out).trans HB3.out)
     have HO3:Hid (Only g w w3):=HO2.out.drew.trans (only_of_below hb3)
     clear hb3 hgl LR0 LR8 HB3 HG8 HL8 HT3 HT2 HO2
     dsimp only
     refine hK _ _ ?_
     clear hK K
     try simp only [Act.put,zq1,zq2,zq3]
     refine any_take 10 50 (.pointer (some ⟨g,0,none⟩)) rfl (by kernel_rfl) (by kernel_rfl) (by kernel_rfl) (fun _ _ _ h=>h) (by intro w;go_simp) ?_
     simp only [Act.put,zq1,zq2,zq3]
     refine any_take 11 51 (.pointer (some ⟨g,0,none⟩)) rfl (by kernel_rfl) (by kernel_rfl) (by kernel_rfl) (fun _ _ _ h=>h) (by intro w;go_simp) ?_
     simp only [Act.put,zq1,zq2,zq3]
     refine any_one 12 (by kernel_rfl) ?_
     refine op_store 12 229 (.tmp 51) (.tmp 49) rfl g 0 _ _ y.l.toArray rfl rfl HB4.out Tryz.size44 (by rw [Sha.HC_len];show 0+8≤_;omega) (st_one y) ?_
     intro w5 g5 ch5
     refine wpAny_done (by kernel_rfl) ?_ _
     have g6:Hid (w5.heap[g]?=some (.cells (Sha.HC (Sha.tk s (fun i=>RR.getD i 0)) RR (L.length+b.length)).toArray 231 (0,0))):=by
      have:=g5.out
      rw [show y.l.toArray.toList=y.l from rfl,Sha.HC_state,HY.out] at this
      exact this
     have HO5:Hid (Only g w w5):=HO3.out.trans ch5.only
     clear g5 ch5 HB4 HO3 HY
     go_wp2
     obtain ⟨r1,r2,r3⟩:=add_full (N:=L.length+b.length) hkr Hhd.out Hby.out HR2.out (by omega) (by rw [← Hc.out,← HRR.out,HS.out];exact g6.out)
     have hlen:=Hl.out
     refine ⟨⟨k+m,0,rl-CS.length,cl-CS.length,q2,RR,?_,by omega,r2,rfl,by omega,by omega,rfl,?_,by rw [HRR.out,Hc.out];exact r1,by rw [HRR.out,Hc.out];exact r3,HO5.out⟩,by simp [sliceLen];omega⟩
     ·show _=_
      have:=Hrl.out
      omega
     ·intro h1
      rw [Hq2.out,if_neg (by omega),hlen]
      simp [Nat.add_assoc]
    ·refine op_load 8 177 (.tmp 47) rfl g 8 rl8 _ rfl LR8.out Tryz.underlying177 rfl HL8.out ?_
     simp only [Act.put,zq1,zq2,zq3]
     refine any_one 4 (by kernel_rfl) ?_
     refine op_load 4 229 (.tmp 43) rfl g 0 s.l _ rfl LR0.out Tryz.underlying229 rfl Tryz.size44 ?_
     simp only [Act.put,zq1,zq2,zq3]
     refine any_one 9 (by kernel_rfl) ?_
     refine wpOp_step rfl (fun K hK=>?_)
     go_simp
     refine (take_of HT.out s RR rl8 Hrl8 HR3.out.1 HR3.out.2 _ HT3.out).mono ?_
     rintro e w3 ⟨y,rfl,HY,hb3⟩
     have HB4:=Lib.hid ((hb3.block g hgl.out).trans HB3.out)
     have HO3:Hid (Only g w w3):=HO2.out.drew.trans (only_of_below hb3)
     clear hb3 hgl LR0 LR8 HB3 HG8 HL8 HT3 HT2 HO2
     dsimp only
     refine hK _ _ ?_
     clear hK K
     try simp only [Act.put,zq1,zq2,zq3]
     refine any_take 10 50 (.pointer (some ⟨g,0,none⟩)) rfl (by kernel_rfl) (by kernel_rfl) (by kernel_rfl) (fun _ _ _ h=>h) (by intro w;go_simp) ?_
     simp only [Act.put,zq1,zq2,zq3]
     refine any_take 11 51 (.pointer (some ⟨g,0,none⟩)) rfl (by kernel_rfl) (by kernel_rfl) (by kernel_rfl) (fun _ _ _ h=>h) (by intro w;go_simp) ?_
     simp only [Act.put,zq1,zq2,zq3]
     refine any_one 12 (by kernel_rfl) ?_
     refine op_store 12 229 (.tmp 51) (.tmp 49) rfl g 0 _ _ y.l.toArray rfl rfl HB4.out Tryz.size44 (by rw [Sha.HC_len];show 0+8≤_;omega) (st_one y) ?_
     intro w5 g5 ch5
     refine wpAny_done (by kernel_rfl) ?_ _
     have g6:Hid (w5.heap[g]?=some (.cells (Sha.HC (Sha.tk s (fun i=>RR.getD i 0)) RR (L.length+b.length)).toArray 231 (0,0))):=by
      have:=g5.out
      rw [show y.l.toArray.toList=y.l from rfl,Sha.HC_state,HY.out] at this
      exact this
     have HO5:Hid (Only g w w5):=HO3.out.trans ch5.only
     clear g5 ch5 HB4 HO3 HY
     go_wp2
     obtain ⟨r1,r2,r3⟩:=add_full (N:=L.length+b.length) hkr Hhd.out Hby.out HR2.out (by omega) (by rw [← Hc.out,← HRR.out,HS.out];exact g6.out)
     have hlen:=Hl.out
     refine ⟨⟨k+m,0,rl-CS.length,cl-CS.length,q2,RR,?_,by omega,r2,rfl,by omega,by omega,rfl,?_,by rw [HRR.out,Hc.out];exact r1,by rw [HRR.out,Hc.out];exact r3,HO5.out⟩,by simp [sliceLen];omega⟩
     ·show _=_
      have:=Hrl.out
      omega
     ·intro h1
      rw [Hq2.out,if_neg (by omega),hlen]
      simp [Nat.add_assoc]
   ·have hkr:rl+k≤b.length:=by rw [Hrl.out];omega
    obtain ⟨CS,HCS,Hl⟩:∃ CS:List Value,Hid (CS=((b.drop k).take rl).map (Value.int .u8))∧Hid (CS.length=rl):=⟨_,rfl,by show _=_;rw [List.length_map,len_piece hkr]⟩
    have hl1:CS.length≤rl:=by rw [Hl.out];omega
    have hl2:rl≤CS.length:=by rw [Hl.out];omega
    have hl3:hd+CS.length<64:=by omega
    have ht1:((hd:Int)+(CS.length:Int)==64)=false:=by simp;omega
    have hcs:Hid (∀ j v,CS[j]?=some v→wr.cell? ((⟨ab,ao+k,none⟩:Addr).add j)=some v):=by
     rw [HCS.out];exact cells_at HO.out (Hs.out (by omega)).2.1 hkr (Hs.out (by omega)).2.2
    have hone:Hid (∀ v∈CS,v.oneCell'=true):=by rw [HCS.out];exact bytes_one _
    have hfit:Hid (8+hd+CS.length≤(Sha.HC (Sha.stN (L++b.take k) ((L++b.take k).length / 64)) R2 (L.length+b.length)).length):=by
     show _≤_;rw [Sha.HC_len,HR2.out.1];omega
    have hn:Hid (CS.length=Nat.min rl (64-hd)):=by
     show _=_;rw [Hl.out];exact (Nat.min_eq_left (by omega)).symm
    go_wp2_with ((with_reducible refine row_copy _ _ _ _ 5 g (8+hd) (64-hd) (64-hd) ⟨ab,ao+k,none⟩ rl cl _ _ CS ?_ ?_ HB2.out ?_ ?_ hn.out hcs.out hfit.out hone.out ?_);(exact rfl);(exact rfl);(exact Tryz.underlying22);(exact Tryz.size5);intro w2 g2 ch)
    have g3:=g2.out
    rw [HCS.out] at g3
    obtain ⟨r1,r2,r3⟩:=add_some hkr Hhd.out Hby.out HR2.out (by omega) g3
    refine ⟨⟨k+rl,hd+CS.length,0,cl-CS.length,_,_,by show _=_;have:=Hrl.out;omega,hl3,by rw [Hl.out];exact r2,rfl,by omega,by omega,by simp,fun h=>absurd h (by omega),r1,r3,HO.out.trans ch.only⟩,by simp [sliceLen];omega⟩
  ·have hz:rl≤0:=by omega
   have fin:Hid (Holds wr g (L++b)):=by
    have hk:k=b.length:=by have:=Hrl.out;omega
    have q1:=HR2.out
    have q2:=HB2.out
    rw [hk,List.take_length] at q1 q2
    refine ⟨R2,q1,?_⟩
    unfold HBlk
    rw [q2]
    simp
   clear Hrl Hhd Hq HR2 HB2 h0
   go_wp2
   go_end0
   exact ⟨rfl,fin.out,HO.out⟩
end
section
open Go.RowKit
theorem Tryz.zero5:(Tryz.prog.info? 5).map (fun i=>(i.zero,i.size,i.bytes))=some (some (.int .u8 0),1,1):=by kernel_rfl
theorem mk_start (z n:Nat):((List.replicate (1+z+8) (Value.int .u8 0)).toArray.setIfInBounds 0 (.int .u8 128))=((Sha.padK n z 0).map (Value.int .u8)).toArray:=by
 apply Array.ext'
 unfold Sha.padK
 rw [show 1+z+8=(z+8)+1 by omega,List.replicate_succ]
 rw [Array.toList_setIfInBounds]
 simp only [List.set_cons_zero,List.take_zero,List.nil_append,List.map_append,List.map_cons,List.map_replicate,List.cons_append]
 rw [List.replicate_append_replicate]
def EndSay (n:Nat) (w:World) (e:Ending) (w':World):Prop :=
 ∃ B,e = .returned (.slice (some ⟨B,0,none⟩) (Sha.pad n).length (Sha.pad n).length)∧w.heap.size≤B∧Hid (w'.heap[B]?=some (.cells ((Sha.pad n).map (Value.int .u8)).toArray 5 (0,0)))∧Below w.heap.size w w'
set_option maxRecDepth 100000 in
set_option maxHeartbeats 1000000 in
theorem ending_any (n:Nat) (hn:n≤1152921504606846976) (w:World) :
  Calls Tryz.prog 192 #[.int .u64 (n:Int)] w (EndSay n w):=by
 go_enter Tryz.func192,Tryz.ntmps192
 go_upto_region 3 with (fail)
 obtain ⟨z,hz⟩:∃ z:Nat,z=(119-n % 64) % 64:=⟨_,rfl⟩
 have hz2:(128-((n:Int) % 64+1+8)) % 64=(z:Int):=by omega
 rw [hz2]
 have hz3:z≤63:=by omega
 have HZ:Hid (z=Sha.zs n):=hz
 clear hz hz2
 go_upto_region 4 with ((with_reducible refine make_at _ 5 _ _ (.int .u8 0) 1 (1+z) (1+z+8) ?_ ?_ ?_ ?_ rfl ?_ ?_ ?_ ?_);(exact rfl);(exact rfl);(exact Tryz.underlying22);(exact Tryz.zero5);omega;omega;omega;intro w1 G1 hb1 hs1)
 have c0:w1.cell? ⟨w.heap.size,0,none⟩=some (.int .u8 0):=by
  rw [cell_of_row w1 w.heap.size 0 _ _ _ G1.out];simp
 have f0:=frozen_of_row w1 w.heap.size 0 _ _ G1.out
 go_wp2
 go_loopw [5,23] (fun v5 v23 wr=>∃ k:Nat,k≤8∧v23 = .int .i64 k∧v5 = .slice (some ⟨w.heap.size,0,none⟩) (1+z+k) (1+z+8)∧Hid (wr.heap[w.heap.size]?=some (.cells ((Sha.padK n z k).map (Value.int .u8)).toArray 5 (0,0)))∧Hid (Below w.heap.size w wr)) (fun _ v23 _=>8-(intOf v23).toNat)
 case atStart =>
  refine ⟨0,by omega,rfl,rfl,?_,?_⟩
  ·have:=heap_setCell_same w1 w.heap.size 0 _ _ (.int .u8 128) G1.out
   rw [mk_start z n] at this
   exact this
  ·exact hb1.setCell (Nat.le_refl _) _
 case round =>
  obtain ⟨k,hk,rfl,rfl,HG,HB⟩:=hrel
  clear c0 f0 G1 hb1 hs1
  have hgl:w.heap.size<wr.heap.size:=lt_of_block HG.out
  by_cases hlt:k<8
  ·have HG2:Hid ((wr.alloc (.cells #[.int .u8 (8*(n:Int) / 2 ^ (56-8*k) % 256)] 5)).heap[w.heap.size]?=some (.cells ((Sha.padK n z k).map (Value.int .u8)).toArray 5 (0,0))):=by
    show _=_;rw [heap_alloc_old _ _ hgl];exact HG.out
   have hfit:Hid (1+z+k+1≤((Sha.padK n z k).map (Value.int .u8)).length):=by
    show _≤_;rw [List.length_map,Sha.padK_len _ _ _ hk];omega
   go_wp2_with ((with_reducible refine append_at _ _ _ 5 w.heap.size (1+z+k) (1+z+8) _ ⟨wr.heap.size,0,none⟩ 1 (.int .u8 (8*(n:Int) / 2 ^ (56-8*k) % 256)) ?_ ?_ HG2.out ?_ ?_ ?_ ?_ ?_ hfit.out ?_);(exact rfl);(exact rfl);(exact Tryz.underlying22);(exact Tryz.size5);(exact cell_of_one (heap_alloc_new _ _));(exact rfl);omega;intro w3 g3 ch3)
   have g4:=g3.out
   rw [← Sha.lb_eq,Sha.padK_step n z k hlt] at g4
   have hb3:=ch3.below (HB.out.alloc (by have:=HB.out.size;omega) (.cells #[.int .u8 (8*(n:Int) / 2 ^ (56-8*k) % 256)] 5)) (Nat.le_refl _)
   exact ⟨⟨k+1,by omega,by go_num,rfl,g4,hb3⟩,by simp [intOf];omega⟩
  ·have E:k=8:=by omega
   have hge:8≤k:=by omega
   have HE:Hid (1+z+k=(Sha.pad n).length∧1+z+8=(Sha.pad n).length∧wr.heap[w.heap.size]?=some (.cells ((Sha.pad n).map (Value.int .u8)).toArray 5 (0,0))):=by
    have h8:=HG.out
    rw [E,HZ.out] at h8
    refine ⟨?_,?_,?_⟩
    ·rw [Sha.pad_len,E,HZ.out];omega
    ·rw [Sha.pad_len,HZ.out];omega
    ·rw [Sha.pad_eq];exact h8
   clear E hlt HG HZ
   go_wp2
   go_ret
   exact ⟨w.heap.size,by show Ending.returned (.slice (some ⟨w.heap.size,0,none⟩) (1+z+k) (1+z+8))=_;rw [HE.out.1,HE.out.2.1],Nat.le_refl _,HE.out.2.2,HB.out⟩
theorem hc_init:(Sha.HC Sha.init (List.replicate 64 0) 0).toArray = #[.int .u32 1779033703,.int .u32 3144134277,.int .u32 1013904242,.int .u32 2773480762,.int .u32 1359893119,.int .u32 2600822924,.int .u32 528734635,.int .u32 1541459225,.int .u8 0,.int .u8 0,.int .u8 0,.int .u8 0,.int .u8 0,.int .u8 0,.int .u8 0,.int .u8 0,.int .u8 0,.int .u8 0,.int .u8 0,.int .u8 0,.int .u8 0,.int .u8 0,.int .u8 0,.int .u8 0,.int .u8 0,.int .u8 0,.int .u8 0,.int .u8 0,.int .u8 0,.int .u8 0,.int .u8 0,.int .u8 0,.int .u8 0,.int .u8 0,.int .u8 0,.int .u8 0,.int .u8 0,.int .u8 0,.int .u8 0,.int .u8 0,.int .u8 0,.int .u8 0,.int .u8 0,.int .u8 0,.int .u8 0,.int .u8 0,.int .u8 0,.int .u8 0,.int .u8 0,.int .u8 0,.int .u8 0,.int .u8 0,.int .u8 0,.int .u8 0,.int .u8 0,.int .u8 0,.int .u8 0,.int .u8 0,.int .u8 0,.int .u8 0,.int .u8 0,.int .u8 0,.int .u8 0,.int .u8 0,.int .u8 0,.int .u8 0,.int .u8 0,.int .u8 0,.int .u8 0,.int .u8 0,.int .u8 0,.int .u8 0,.int .u64 0]:=by
 unfold Sha.HC
 rfl
theorem new_blk (w:World):HBlk (w.alloc (.cells (Sha.HC Sha.init (List.replicate 64 0) 0).toArray 231)) w.heap.size [] (List.replicate 64 0) 0:=by
 unfold HBlk
 rw [heap_alloc_new,show ([]:List Int).length / 64=0 from rfl,Sha.stN]
theorem Tryz.zeroHash:(Tryz.prog.info? 231).map (fun i=>(i.zero,i.size))=some (some (.agg #[.int .u32 0,.int .u32 0,.int .u32 0,.int .u32 0,.int .u32 0,.int .u32 0,.int .u32 0,.int .u32 0,.int .u8 0,.int .u8 0,.int .u8 0,.int .u8 0,.int .u8 0,.int .u8 0,.int .u8 0,.int .u8 0,.int .u8 0,.int .u8 0,.int .u8 0,.int .u8 0,.int .u8 0,.int .u8 0,.int .u8 0,.int .u8 0,.int .u8 0,.int .u8 0,.int .u8 0,.int .u8 0,.int .u8 0,.int .u8 0,.int .u8 0,.int .u8 0,.int .u8 0,.int .u8 0,.int .u8 0,.int .u8 0,.int .u8 0,.int .u8 0,.int .u8 0,.int .u8 0,.int .u8 0,.int .u8 0,.int .u8 0,.int .u8 0,.int .u8 0,.int .u8 0,.int .u8 0,.int .u8 0,.int .u8 0,.int .u8 0,.int .u8 0,.int .u8 0,.int .u8 0,.int .u8 0,.int .u8 0,.int .u8 0,.int .u8 0,.int .u8 0,.int .u8 0,.int .u8 0,.int .u8 0,.int .u8 0,.int .u8 0,.int .u8 0,.int .u8 0,.int .u8 0,.int .u8 0,.int .u8 0,.int .u8 0,.int .u8 0,.int .u8 0,.int .u8 0,.int .u64 0]),73):=by kernel_rfl
def NewSay (w:World) (e:Ending) (w':World):Prop :=
 e = .returned (.pointer (some ⟨w.heap.size,0,none⟩))∧Holds w' w.heap.size []∧Below w.heap.size w w'∧w'.heap.size=w.heap.size+1
set_option maxRecDepth 100000 in
theorem new_any (w:World):Calls Tryz.prog 171 #[] w (NewSay w):=by
 have hz:=(zero_of_info Tryz.zeroHash).1
 go_enter Tryz.func171,Tryz.ntmps171
 go_wp2
 go_ret
 refine ⟨rfl,?_,(Below.refl _ w).alloc (Nat.le_refl _) _,by simp⟩
 refine ⟨List.replicate 64 0,Sha.rest_nil _ (by simp) (fun x hx=>by rw [List.mem_replicate] at hx;omega),?_⟩
 have h:=new_blk w
 rw [hc_init] at h
 exact h
end
section
open Go.RowKit
theorem Tryz.sizeHash:(Tryz.prog.info? 231).map (·.size)=some 73:=by kernel_rfl
theorem Tryz.sizeSum:(Tryz.prog.info? 39).map (·.size)=some 32:=by kernel_rfl
theorem agg_index {P:Program} (w:World) (t e:TypeId) (n k:Nat) (cs:Array Value) (v:Value) (i:TypeInfo) (hu:P.underlying t=some (.array n e)) (hi:P.info? e=some i) (hs:i.size=1)
  (he:∀ w,(isAgg e).run P w = .ok false w) (hk:k<n) (hv:cs[k]?=some v) :
  (Instr.index t (.agg cs) (.int .i64 (k:Int))).run P w = .ok v w:=by
 simp [Instr.index,asIntOf,run_underlying hu,sizeOf,typeInfo,hi,hs,part,he,hv]
 omega
theorem Tryz.info39:(Tryz.prog.info? 152).map (·.size)=some 1:=by kernel_rfl
theorem HC_one (s:Sha.St) (R:List Int) (n:Int):(Sha.HC s R n).toArray.all (·.oneCell')=true:=by
 refine all_oneCell_toArray (fun v hv=>?_)
 unfold Sha.HC at hv
 rcases List.mem_append.1 hv with h | h
 ·simp only [Sha.St.l,List.mem_cons,List.not_mem_nil,or_false] at h
  rcases h with rfl | rfl | rfl | rfl | rfl | rfl | rfl | rfl<;>rfl
 ·rcases List.mem_append.1 h with h | h
  ·exact bytes_one _ v h
  ·simp at h;subst h;rfl
theorem bytes_at {w:World} {g B:Nat} {l:List Int} {t:TypeId} (hl:Sha.Byt l) (hg:B ≠ g) (h:w.heap[B]?=some (.cells (l.map (Value.int .u8)).toArray t (0,0))):BytesAt w g (some ⟨B,0,none⟩) l :=
 ⟨hl,fun _=>⟨B,0,rfl,hg,fun j hj=>by
  rw [cell_of_row w B (0+j) _ _ _ h]
  simp [List.getD_eq_getElem?_getD,hj]⟩⟩
theorem sum_pre {w w2 w3:World} {X Y:Obj} {L R:List Int} {B:Nat} (ht:Tab w 1) (hR:Sha.Rest L R) (G2:HBlk w2 (w.heap.size+1) L R L.length) (ch:Chg (w.heap.size+1) ((w.alloc X).alloc Y) w2)
  (hB:w2.heap.size≤B) (GB:w3.heap[B]?=some (.cells ((Sha.pad L.length).map (Value.int .u8)).toArray 5 (0,0))) (hb:Below w2.heap.size w2 w3) :
  Holds w3 (w.heap.size+1) L∧BytesAt w3 (w.heap.size+1) (some ⟨B,0,none⟩) (Sha.pad L.length)∧Tab w3 1∧w.heap.size+1 ≠ 1∧Below w.heap.size w w3∧w3.heap[w.heap.size]?=some X∧w.heap.size+1<w3.heap.size:=by
 have hs:w2.heap.size=w.heap.size+2:=by rw [ch.size];simp
 have hb2:Below w.heap.size w w2:=ch.below (((Below.refl _ w).alloc (Nat.le_refl _) X).alloc (by simp) Y) (by omega)
 have hb3:Below w.heap.size w w3:=hb2.trans (hb.mono (by omega))
 have hl:=ht.lt
 have h3:=hb.size
 refine ⟨⟨R,hR,?_⟩,bytes_at (Sha.pad_byt _) (by omega) GB,ht.below hb3 hl,by omega,hb3,?_,by omega⟩
 ·unfold HBlk;rw [hb.block _ (by omega)];exact G2
 ·rw [hb.block _ (by omega),ch.block _ (by omega)];exact heap_alloc2_old w X Y
theorem dg_cell {w:World} {G:Nat} {s:Sha.St} {k:Nat} {t:TypeId} (h:w.heap[G]?=some (.cells ((Sha.dgK s k).map (Value.int .u8)).toArray t (0,0))) (hk:k≤8) (j:Nat) (hj:j<32):w.cell? ⟨G,j,none⟩=some (.int .u8 ((Sha.dgK s k).getD j 0)):=by
 rw [cell_of_row w G j _ _ _ h]
 simp [List.getD_eq_getElem?_getD,Sha.dgK_len s k hk,hj]
theorem set_u8 {w:World} {G i:Nat} {l:List Int} {x:Int} {t:TypeId} (h:w.heap[G]?=some (.cells (l.map (Value.int .u8)).toArray t (0,0))):(w.setCell ⟨G,i,none⟩ (.int .u8 x)).heap[G]?=some (.cells ((l.set i x).map (Value.int .u8)).toArray t (0,0)):=by
 rw [heap_setCell_same w G i _ t _ h]
 congr 2
 apply Array.ext'
 simp
def SumSay (L:List Int) (w:World) (e:Ending) (w':World):Prop:=e = .returned (.agg ((Sha.dg L).map (Value.int .u8)).toArray)∧Below w.heap.size w w'
set_option maxRecDepth 100000 in
set_option maxHeartbeats 1000000 in
theorem sum_any (hT:TakeSaid) (g:Nat) (L:List Int) (w:World) (hH:Holds w g L) (hL:L.length≤1152921504606846000) (ht:Tab w 1) :
  Calls Tryz.prog 173 #[.pointer (some ⟨g,0,none⟩)] w (SumSay L w):=by
 have HT:=Lib.hid hT;clear hT
 obtain ⟨R,hR,hB⟩:=hH
 have hgl:Hid (g<w.heap.size):=lt_of_block hB
 have c72:=(cell_of_row w g 72 _ _ _ hB).trans (HC_at72 _ R _ hR.1)
 have HB:=Lib.hid hB;clear hB
 have HR:=Lib.hid hR;clear hR
 have Ht:=Lib.hid ht;clear ht
 have hz:=(zero_of_info Tryz.zeroHash).1
 obtain ⟨C,HC⟩:∃ C,Hid (C=(Sha.HC (Sha.stN L (L.length / 64)) R L.length).toArray):=⟨_,rfl⟩
 have HCs:Hid (C.size=73):=by show _=_;rw [HC.out];simp [Sha.HC_len,HR.out.1]
 have HB1:Hid (w.heap[g]?=some (.cells C 231 (0,0))):=by rw [HC.out];exact HB.out
 go_enter Tryz.func173,Tryz.ntmps173
 have HB1a:∀ o:Obj,Hid ((w.alloc o).heap[g]?=some (.cells C 231 (0,0))):=fun o=>(heap_alloc_old w o hgl.out).trans HB1.out
 have HC1:Hid (C.all (·.oneCell')=true):=by show _=_;rw [HC.out];exact HC_one _ _ _
 have HCs2:Hid (C.size=73):=HCs.out
 go_upto_region 2 with (first
  | ((with_reducible refine row_load _ _ _ _ _ _ _ ?_ (HB1a _).out Tryz.underlying231 ?_ (row_size Tryz.sizeHash HCs) ?_);(exact rfl);(exact rfl))
  | ((with_reducible refine row_store _ _ _ _ _ _ _ ?_ ?_ (heap_alloc2_new w _ _) (row_size Tryz.sizeHash HCs) ?_ HC1.out ?_);(exact rfl);(exact rfl);(rw [HCs.out];rfl);intro w2 G2 ch))
 have G2':Hid (HBlk w2 (w.heap.size+1) L R L.length):=by
  have h:=G2.out
  rw [HC.out] at h
  exact h
 have CH:=Lib.hid ch
 have hs2:Hid (w2.heap.size=w.heap.size+2):=by show _=_;rw [CH.out.size];simp
 have hbw2:Hid (Below w.heap.size w w2):=CH.out.below (((Below.refl _ w).alloc (Nat.le_refl _) _).alloc (by simp) _) (by omega)
 have d72:w2.cell? ⟨g,72,none⟩=some (.int .u64 L.length):=by rw [hbw2.out.cell (p:=⟨g,72,none⟩) hgl.out];exact c72
 clear c72 ch G2 HB1a HC1 HCs2 HCs HB1 HB hz HC
 go_upto_region 3 with (first
  | (go_at_call 192;refine (ending_any L.length (by omega) _).mono ?_;rintro e w3 ⟨B,rfl,hB,GB,hb3⟩;have PRE:=Lib.hid (sum_pre Ht.out HR.out G2'.out CH.out hB GB.out hb3);have PL:=Lib.hid (Sha.pad_len L.length))
  | (go_at_call 172;refine (add_any HT.out (w.heap.size+1) L (Sha.pad L.length) _ _ _ PRE.out.1 PRE.out.2.1 (Nat.le_refl _) ?_ ?_ PRE.out.2.2.1 PRE.out.2.2.2.1).mono ?_;(rw [PL.out];unfold Sha.zs;omega);(rw [PL.out];unfold Sha.zs;omega);rintro e w4 ⟨rfl,HH,HOO⟩))
 obtain ⟨R4,hR4,hB4⟩:=HH
 have hs4:Hid (w.heap.size+1<w4.heap.size):=lt_of_block hB4
 have hbw4:Hid (Below w.heap.size w w4):=HOO.below PRE.out.2.2.2.2.1 (by omega) (by have:=PRE.out.2.2.2.2.1.size;omega)
 have hres4:Hid (w4.heap[w.heap.size]?=some (.cells (List.replicate 32 (Value.int .u8 0)).toArray 39 (0,0))):=by
  show _=_;rw [HOO.block _ (by have:=PRE.out.2.2.2.2.2.2;omega) (by omega)];exact PRE.out.2.2.2.2.2.1
 have HB4:=Lib.hid hB4
 unfold HBlk at HB4
 generalize hs:Sha.stN (L++Sha.pad L.length) ((L++Sha.pad L.length).length / 64)=s at HB4
 have HD:Hid (Sha.dg L=Sha.dgK s 8):=by show _=_;rw [← hs,Sha.dg_eq]
 clear hs hB4 hR4 HOO PRE PL hb3 GB hB hs2 hbw2 d72 G2' CH HT Ht HR
 have HB5:∀ o:Obj,Hid ((w4.alloc o).heap[w.heap.size+1]?=some (.cells (Sha.HC s R4 ((L++Sha.pad L.length).length:Nat)).toArray 231 (0,0))):=fun o=>(heap_alloc_old w4 o hs4.out).trans HB4.out
 go_wp2_with ((with_reducible refine mid_load _ _ (w.heap.size+1) 0 _ _ s.l _ _ ?_ (HB5 _).out (HC_get0 _ _ _) Tryz.underlying229 ?_ ?_ ?_);(exact rfl);(exact rfl);(exact Tryz.size44))
 obtain ⟨i39,hi39,hz39⟩:∃ i,Tryz.prog.info? 152=some i∧i.size=1:=by
  have:=Tryz.info39
  cases hq:Tryz.prog.info? 152 with
  | none=>rw [hq] at this;cases this
  | some i=>rw [hq] at this;exact ⟨i,rfl,by simpa using this⟩
 have HI:=Lib.hid (And.intro hi39 hz39);clear hi39 hz39
 have HA:Hid (∀ w,(isAgg 152).run Tryz.prog w = .ok false w):=fun w=>by
  unfold isAgg
  rw [Sem.run_bind,run_underlying Tryz.underlying152 w]
  rfl
 go_loopw [18] (fun v18 wr=>∃ k:Nat,k≤8∧v18 = .int .i64 k∧Hid (wr.heap[w4.heap.size]?=some (.cells ((Sha.dgK s k).map (Value.int .u8)).toArray 39 (0,0)))∧Hid (wr.heap[w.heap.size]?=some (.cells (List.replicate 32 (Value.int .u8 0)).toArray 39 (0,0)))∧Hid (Below w.heap.size w wr)) (fun v18 _=>8-(intOf v18).toNat)
 case atStart =>
  refine ⟨0,by omega,rfl,?_,?_,?_⟩
  ·show _=_;rw [heap_alloc_new,Sha.dgK_zero];rfl
  ·show _=_;rw [heap_alloc_old _ _ (by have:=hs4.out;omega)];exact hres4.out
  ·exact hbw4.out.alloc hbw4.out.size _
 case round =>
  obtain ⟨k,hk,rfl,HG,HRES,HBW⟩:=hrel
  by_cases hlt:k<8
  ·have hix:=agg_index (P:=Tryz.prog) wr 229 152 8 k s.l.toArray (.int .u32 (s.ints.getD k 0)) i39 Tryz.underlying229 HI.out.1 HI.out.2 HA.out hlt (by simpa using Sha.St.l_get s k hlt)
   obtain ⟨x,HX⟩:∃ x,Hid (x=s.ints.getD k 0):=⟨_,rfl⟩
   rw [← HX.out] at hix
   have c0:=dg_cell HG.out hk (4*k) (by omega)
   have c1:=dg_cell HG.out hk (4*k+1) (by omega)
   have c2:=dg_cell HG.out hk (4*k+2) (by omega)
   have c3:=dg_cell HG.out hk (4*k+3) (by omega)
   have f0:=frozen_of_row wr w4.heap.size (4*k) _ _ HG.out
   have f1:=frozen_of_row wr w4.heap.size (4*k+1) _ _ HG.out
   have f2:=frozen_of_row wr w4.heap.size (4*k+2) _ _ HG.out
   have f3:=frozen_of_row wr w4.heap.size (4*k+3) _ _ HG.out
   have hGw:Hid (w.heap.size<w4.heap.size):=by show _<_;have:=hs4.out;omega
   go_wp2
   refine ⟨⟨k+1,by omega,by go_num,?_,?_,?_⟩,by simp [intOf];omega⟩
   ·have h:=set_u8 (x:=x % 256) (i:=4*k+3) (set_u8 (x:=x / 256 % 256) (i:=4*k+2) (set_u8 (x:=x / 65536 % 256) (i:=4*k+1) (set_u8 (x:=x / 16777216 % 256) (i:=4*k) HG.out)))
    have hx:=HX.out
    subst hx
    rw [Sha.dgK_step s k hlt] at h
    exact h
   ·show _=_
    rw [heap_setCell_other _ _ _ _ (by have:=hGw.out;simp;omega),heap_setCell_other _ _ _ _ (by have:=hGw.out;simp;omega),heap_setCell_other _ _ _ _ (by have:=hGw.out;simp;omega),heap_setCell_other _ _ _ _ (by have:=hGw.out;simp;omega)]
    exact HRES.out
   ·have h:=hGw.out
    exact (((HBW.out.setCell (by simp;omega) _).setCell (by simp;omega) _).setCell (by simp;omega) _).setCell (by simp;omega) _
  ·have E:k=8:=by omega
   have hge:8≤k:=by omega
   obtain ⟨A,HA1,HA2,HA3⟩:∃ A:Array Value,Hid (A=((Sha.dgK s 8).map (Value.int .u8)).toArray)∧Hid (A.size=32)∧Hid (A.all (·.oneCell')=true) :=
    ⟨_,rfl,by show _=_;simp [Sha.dgK_len s 8 (by omega)],all_oneCell_toArray (bytes_one _)⟩
   have HG8:Hid (wr.heap[w4.heap.size]?=some (.cells A 39 (0,0))):=by
    have h:=HG.out
    rw [E,← HA1.out] at h
    exact h
   clear E hlt HG
   go_wp2_with (first
    | ((with_reducible refine row_load _ _ _ _ _ _ _ ?_ HG8.out Tryz.underlying39 ?_ (row_size Tryz.sizeSum HA2) ?_);(exact rfl);(exact rfl))
    | ((with_reducible refine row_store _ _ _ _ _ _ _ ?_ ?_ HRES.out (row_size Tryz.sizeSum HA2) ?_ HA3.out ?_);(exact rfl);(exact rfl);(rw [HA2.out];rfl);intro w6 G6 ch6))
   refine bodyPost_ret (results_cell_row rfl _ _ w.heap.size 39 A (0,0) _ rfl G6.out Tryz.underlying39 rfl (row_size Tryz.sizeSum HA2)) rfl ⟨?_,ch6.below HBW.out (Nat.le_refl _)⟩
   rw [HD.out,HA1.out]
end
section
open Go.RowKit
def sb (l:List Int) (i:Nat):Int:=l.getD (i / 4) 0 / 2 ^ (24-8*(i % 4)) % 256
def sbK (l:List Int) (k:Nat):List Int:=(List.range k).map (sb l)++List.replicate (32-k) 0
theorem sbK_len (l:List Int) (k:Nat) (h:k≤32):(sbK l k).length=32:=by simp [sbK];omega
theorem sbK_step (l:List Int) (k:Nat) (h:k<32):(sbK l k).set k (sb l k)=sbK l (k+1):=by
 unfold sbK
 rw [List.set_append_right _ _ (by simp),List.range_succ,List.map_append,List.length_map,List.length_range,Nat.sub_self,show 32-k=(32-(k+1))+1 by omega,List.replicate_succ]
 simp
theorem sbK_zero (l:List Int):sbK l 0=List.replicate 32 0:=by simp [sbK]
theorem sb_eq' (l:List Int) (i:Nat):l[i / 4]?.getD 0 / 2 ^ (24-8*(i % 4)) % 256=sb l i:=by rw [← List.getD_eq_getElem?_getD];rfl
theorem sb_eq (l:List Int) (i:Nat):sb l i=l.getD (i / 4) 0 / 2 ^ (24-8*(i % 4)) % 256:=rfl
theorem sb_cell {w:World} {G:Nat} {l:List Int} {k:Nat} {t:TypeId} (h:w.heap[G]?=some (.cells ((sbK l k).map (Value.int .u8)).toArray t (0,0))) (hk:k≤32) (j:Nat) (hj:j<32):w.cell? ⟨G,j,none⟩=some (.int .u8 ((sbK l k).getD j 0)):=by
 rw [cell_of_row w G j _ _ _ h]
 simp [List.getD_eq_getElem?_getD,sbK_len l k hk,hj]
attribute [irreducible] sb sbK
theorem BytesAt.below {w w':World} {g B:Nat} {p:Option Addr} {l:List Int} (h:BytesAt w g p l) (hb:Below B w w') (hB:w.heap.size≤B):BytesAt w' g p l :=
 ⟨h.1,fun h0=>by
  obtain ⟨ab,ao,h1,h2,h3⟩:=h.2 h0
  refine ⟨ab,ao,h1,h2,fun j hj=>?_⟩
  have h4:=World.block_lt_of_cell? w _ (h3 j hj)
  rw [hb.cell (p:=⟨ab,ao+j,none⟩) (Nat.lt_of_lt_of_le h4 hB)]
  exact h3 j hj⟩
theorem Holds.below {w w':World} {g B:Nat} {L:List Int} (h:Holds w g L) (hb:Below B w w') (hB:w.heap.size≤B):Holds w' g L:=by
 obtain ⟨R,h1,h2⟩:=h
 refine ⟨R,h1,?_⟩
 unfold HBlk at h2 ⊢
 rw [hb.block _ (Nat.lt_of_lt_of_le (lt_of_block h2) hB)]
 exact h2
theorem of_mid {w w1 w2:World} {b:List Int} {X:Obj} (hP:Holds w1 (w.heap.size+1) []∧Below w.heap.size w w1∧w1.heap[w.heap.size]?=some X∧w1.heap.size=w.heap.size+2∧Tab w1 1) (ht:Tab w 1)
  (HH:Holds w2 (w.heap.size+1) ([]++b)) (HO:Only (w.heap.size+1) w1 w2):Holds w2 (w.heap.size+1) b∧Below w.heap.size w w2∧w2.heap[w.heap.size]?=some X∧Tab w2 1:=by
 have hb:Below w.heap.size w w2:=HO.below hP.2.1 (by omega) (by have:=hP.2.2.2.1;omega)
 refine ⟨by simpa using HH,hb,?_,ht.below hb ht.lt⟩
 rw [HO.block _ (by have:=hP.2.2.2.1;omega) (by omega)]
 exact hP.2.2.1
theorem of_last {w w2 w3:World} {X:Obj} (hb:Below w.heap.size w w2) (h:w2.heap[w.heap.size]?=some X) (hb3:Below w2.heap.size w2 w3):Below w.heap.size w w3∧w3.heap[w.heap.size]?=some X :=
 ⟨hb.trans (hb3.mono hb.size),by rw [hb3.block _ (lt_of_block h)];exact h⟩
theorem dg_len (L:List Int):(Sha.dg L).length=32:=by unfold Sha.dg;exact Sha.dgK_len _ 8 (by omega)
set_option maxRecDepth 100000 in
set_option maxHeartbeats 1000000 in
theorem of_any' (hT:TakeSaid) (b:List Int) (p:Option Addr) (cap:Nat) (w:World) (hb:∀ g,w.heap.size≤g→BytesAt w g p b) (hc:b.length≤cap) (hcm:cap≤9223372036854775807) (hbl:b.length≤1152921504606846000) (ht:Tab w 1) :
  Calls Tryz.prog 170 #[.slice p b.length cap] w (SumSay b w):=by
 have HT:=Lib.hid hT;clear hT
 have Ht:=Lib.hid ht;clear ht
 have Hb:=Lib.hid hb;clear hb
 go_enter Tryz.func170,Tryz.ntmps170
 go_wp2_with (fail)
 refine (new_any _).mono ?_
 rintro e w1 ⟨rfl,hh1,hb1,hs1⟩
 have P1:Hid (Holds w1 (w.heap.size+1) []∧Below w.heap.size w w1∧w1.heap[w.heap.size]?=some (.cells (List.replicate 32 (Value.int .u8 0)).toArray 39 (0,0))∧w1.heap.size=w.heap.size+2∧Tab w1 1):=by
  have hbw:Below w.heap.size w w1:=((Below.refl _ w).alloc (Nat.le_refl _) _).trans (hb1.mono (by simp))
  refine ⟨by simpa using hh1,hbw,?_,by simpa using hs1,Ht.out.below hbw Ht.out.lt⟩
  rw [hb1.block _ (by simp)]
  exact heap_alloc_new w _
 clear hh1 hb1 hs1
 have Hc:=Lib.hid (And.intro hc (And.intro hcm hbl))
 have PB:Hid (BytesAt w1 (w.heap.size+1) p b):=(Hb.out (w.heap.size+1) (by omega)).below P1.out.2.1 (Nat.le_refl _)
 have PN:Hid (w.heap.size+1 ≠ 1):=by have:=Ht.out.lt;show _ ≠ _;omega
 obtain ⟨A,HA1,HA2,HA3⟩:∃ A:Array Value,Hid (A=((Sha.dg b).map (Value.int .u8)).toArray)∧Hid (A.size=32)∧Hid (A.all (·.oneCell')=true) :=
  ⟨_,rfl,by show _=_;simp [dg_len],all_oneCell_toArray (bytes_one _)⟩
 go_wp2_with (first
  | (go_at_call 172;refine (add_any HT.out (w.heap.size+1) [] b _ _ _ P1.out.1 PB.out Hc.out.1 ?_ ?_ P1.out.2.2.2.2 PN.out).mono ?_;(have:=Hc.out;omega);(have:=Hc.out;simp;omega);rintro e w2 ⟨rfl,HH,HO⟩;have P2:=Lib.hid (of_mid P1.out Ht.out HH HO);clear HH HO)
  | (go_at_call 173;refine (sum_any HT.out (w.heap.size+1) b _ P2.out.1 ?_ P2.out.2.2.2).mono ?_;(have:=Hc.out;omega);rintro e w3 ⟨rfl,hb3⟩;have P3:=Lib.hid (of_last P2.out.2.1 P2.out.2.2.1 hb3);clear hb3;rw [← HA1.out])
  | ((with_reducible refine row_store _ _ _ _ _ _ _ ?_ ?_ P3.out.2 (row_size Tryz.sizeSum HA2) ?_ HA3.out ?_);(exact rfl);(exact rfl);(rw [HA2.out];rfl);intro w6 G6 ch6))
 refine bodyPost_ret (results_cell_row rfl _ _ w.heap.size 39 A (0,0) _ rfl G6.out Tryz.underlying39 rfl (row_size Tryz.sizeSum HA2)) rfl ⟨?_,ch6.below P3.out.1 (Nat.le_refl _)⟩
 rw [HA1.out]
theorem of_any'' (hT:TakeSaid) (b:List Int) (p:Option Addr) (n cap:Nat) (hn:b.length=n) (w:World) (hb:∀ g,w.heap.size≤g→BytesAt w g p b) (hc:n≤cap) (hcm:cap≤9223372036854775807) (hbl:n≤1152921504606846000) (ht:Tab w 1) :
  Calls Tryz.prog 170 #[.slice p n cap] w (SumSay b w):=by
 subst hn
 exact of_any' hT b p cap w hb hc hcm hbl ht
end
section
open Go.RowKit
theorem Tryz.agg5 (w:World):(isAgg 5).run Tryz.prog w = .ok false w:=by
 unfold isAgg
 rw [Sem.run_bind,run_underlying Tryz.underlying5 w]
 rfl
theorem Tryz.noGuard:Tryz.prog.eqGuardType Tryz.prog.depth 39=false:=by kernel_rfl
end
section
open Go.RowKit
def St (w wi:World) (G:Nat) (L:List Int):Prop:=Holds wi G L∧Below w.heap.size w wi∧Tab wi 1∧w.heap.size≤G∧G ≠ 1∧w.heap.size≤wi.heap.size
theorem St.new {w w':World} (ht:Tab w 1) (h1:Holds w' w.heap.size []) (h2:Below w.heap.size w w'):St w w' w.heap.size [] :=
 ⟨h1,h2,ht.below h2 ht.lt,Nat.le_refl _,by have:=ht.lt;omega,h2.size⟩
theorem St.add {w wi w':World} {G:Nat} {L c:List Int} (h:St w wi G L) (h1:Holds w' G (L++c)) (h2:Only G wi w'):St w w' G (L++c):=by
 obtain ⟨a1,a2,a3,a4,a5,a6⟩:=h
 refine ⟨h1,h2.below a2 a4 a6,fun t ht=>h2.cell (Ne.symm a5) (a3 t ht),a4,a5,Nat.le_trans a6 h2.size⟩
theorem St.below {w wi w':World} {G:Nat} {L:List Int} (h:St w wi G L) (hb:Below wi.heap.size wi w'):St w w' G L:=by
 obtain ⟨a1,a2,a3,a4,a5,a6⟩:=h
 exact ⟨a1.below hb (Nat.le_refl _),a2.trans (hb.mono a6),a3.below hb a3.lt,a4,a5,Nat.le_trans a6 hb.size⟩
def AddSay (w wi:World) (G:Nat) (L c:List Int) (e:Ending) (w':World):Prop:=e = .returned (.tuple #[])∧St w w' G (L++c)∧Only G wi w'
theorem add_st (hT:TakeSaid) {w wi:World} {G:Nat} {L:List Int} (c:List Int) (p:Option Addr) (n cap:Nat) (hn:c.length=n) (hs:St w wi G L) (hb:BytesAt wi G p c) (hc:n≤cap) (hcm:cap≤9223372036854775807) (hL:L.length+n≤1152921504606846000) :
  Calls Tryz.prog 172 #[.pointer (some ⟨G,0,none⟩),.slice p n cap] wi (AddSay w wi G L c):=by
 subst hn
 exact (add_any hT G L c p cap wi hs.1 hb hc (by omega) (by omega) hs.2.2.1 hs.2.2.2.2.1).mono fun _ _ h=>⟨h.1,hs.add h.2.1 h.2.2,h.2.2⟩
def SumSt (w wi:World) (G:Nat) (L:List Int) (e:Ending) (w':World):Prop:=e = .returned (.agg ((Sha.dg L).map (Value.int .u8)).toArray)∧St w w' G L∧Below wi.heap.size wi w'
theorem sum_st (hT:TakeSaid) {w wi:World} {G:Nat} {L:List Int} (hs:St w wi G L) (hL:L.length≤1152921504606846000) :
  Calls Tryz.prog 173 #[.pointer (some ⟨G,0,none⟩)] wi (SumSt w wi G L) :=
 (sum_any hT G L wi hs.1 hL hs.2.2.1).mono fun _ _ h=>⟨h.1,hs.below h.2,h.2⟩
section
variable {P:Program} {md:Region.Mode} {ops:Array Oper} {Q:Exit→Act→World→Prop} {fuel:Nat} {listed:Array Bool} {a:Act} {w:World}
theorem any_take_g (i D:Nat) (v:Value) {op:Op} {T:TypeId} {ps:String} {af:Array Edge} {gd:Option (Nat × Bool)} (ho:ops[i]?=some { dst:=some D,op:=op,type:=T,pos:=ps,after:=af,guard:=gd })
  (hs:Region.noSelect ops=true) (hf:Region.free md ops listed i=true) (hr:(Region.ready md ops listed).contains i=true)
  (hQ:∀ c a w,Q (.panic c) (a.put (some D) v) w→Q (.panic c) a w) (hw:Region.wanted { dst:=some D,op:=op,type:=T,pos:=ps,after:=af,guard:=gd } (yielded ops a.tmps)=true)
  (hy:∀ w,(execOp a.eval { dst:=some D,op:=op,type:=T,pos:=ps,after:=af,guard:=gd }).run P w = .ok (.value v) w)
  (h:wpAny P md ops Q fuel (listed.setIfInBounds i true) (a.put (some D) v) w):wpAny P md ops Q (fuel+1) listed a w :=
 wpAny_take (oi:={ dst:=some D,op:=op,type:=T,pos:=ps,after:=af,guard:=gd }) ho hs hf hr hQ (Or.inl ⟨hw,hy⟩) h
end
end
end Go.Proofs.YtnnalemboeccbaaGreatDoor

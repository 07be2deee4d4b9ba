import Derived.Test.YthgjfjmampmiiaaGreatDoorB8
import Derived.RangeFuncNested
import Derived.RangeFuncBound
import Derived.Shelf.RegionOpen
import Derived.OwnWalkIn
import Derived.LoopNIn
import Derived.LoopIn
import Derived.Laws.EntriesVeiled
namespace Go.Proofs.YthgjfjmampmiiaaGreatDoor
open Go.Proofs.Tryz
set_option maxHeartbeats 8000000
set_option maxRecDepth 100000
section
open Go.RowKit
namespace bg
def cb (e n i:Int):List Int:=[e / 1099511627776 % 256,e / 4294967296 % 256,e / 16777216 % 256,e / 65536 % 256,e / 256 % 256,e % 256,
 n / 1099511627776 % 256,n / 4294967296 % 256,n / 16777216 % 256,n / 65536 % 256,n / 256 % 256,n % 256,i / 16777216 % 256,i / 65536 % 256,i / 256 % 256,i % 256]
theorem qe (e n i:Int):(cb e n i).length=16:=rfl
theorem aao (e n i:Int):ai.aY (cb e n i):=fun x hx=>by
 unfold cb at hx;simp only [List.mem_cons,List.not_mem_nil,or_false] at hx;rcases hx with rfl | rfl | rfl | rfl | rfl | rfl | rfl | rfl | rfl | rfl | rfl | rfl | rfl | rfl | rfl | rfl<;>omega
def pt (l:List Int) (o m:Nat) (v:Int):Nat→List Int
 | 0=>l
 | k+1=>(pt l o m v k).set (o+(m-1-k)) (v / 256 ^ k % 256)
theorem kt (l:List Int) (o m:Nat) (v:Int) (k:Nat):(pt l o m v k).length=l.length:=by
 induction k with
 | zero=>rfl
 | succ k ih=>rw [pt,List.length_set,ih]
theorem abI (e n z i:Int):pt (cb e n z) 12 4 i 4=cb e n i:=by
 unfold cb;simp [pt]
theorem aaV (e n:Int):pt (pt (List.replicate 16 0) 0 6 e 6) 6 6 n 6=cb e n 0:=by
 unfold cb;simp [pt]
end bg
def age (l:List Int) (g o m:Nat) (v:Int) (w:World) (e:Ending) (w':World):Prop:=e = .returned (.tuple #[])∧Hid (w'.heap[g]?=some (.cells ((bg.pt l o m v m).map (Value.int .u8)).toArray 221 (0,0)))∧bJ g w w'
theorem oS (l:List Int) (g o m c:Nat) (v:Int) (hl:l.length=16) (hm:o+m≤16) (hv:0≤v∧v<18446744073709551616) (w:World) (hg:w.heap[g]?=some (.cells (l.map (Value.int .u8)).toArray 221 (0,0))) :
  qc 226 #[.slice (some ⟨g,o,none⟩) m c,.int .u64 v] w (age l g o m v w):=by
 have Hg:=qh hg;clear hg;have Hl:=qh hl;clear hl;go_enter func226,ntmps226;go_wp2;go_loopw [1,7] (fun v1 v7 wr=>∃ (k:Nat) (z:Int),k≤m∧v7 = .int .i64 k∧v1 = .int .u64 z∧0≤z∧z<18446744073709551616∧Hid (z=v / 256 ^ k)∧Hid (wr.heap[g]?=some (.cells ((bg.pt l o m v k).map (Value.int .u8)).toArray 221 (0,0)))∧Hid (bJ g w wr)) (fun _ v7 _=>m-(intOf v7).toNat)
 case atStart=>exact ⟨0,v,Nat.zero_le _,rfl,rfl,hv.1,hv.2,by show _=_;simp,Hg.out,bJ.refl _ _⟩
 case round =>
  clear Hg;obtain ⟨k,z,hk,rfl,rfl,hz1,hz2,HZ,HG,HC⟩:=hrel;by_cases Ae:k<m
  ·have Aq:IntKind.i64.wrap ((m:Int)-1)=(m:Int)-1:=IntWalk.i64_in _ ⟨by omega,by omega⟩;have Ba:IntKind.i64.wrap ((m:Int)-1-k)=(m:Int)-1-k:=IntWalk.i64_in _ ⟨by omega,by omega⟩;have Jj:0≤(m:Int)-1-k:=by omega
   have Jk:(m:Int)-1-k<(m:Int):=by omega
   have EP:((m:Int)-1-k).toNat=m-1-k:=by omega
   have c0:=cJ HG.out (o+(m-1-k)) (by rw [bg.kt,Hl.out];omega);have f0:=frozen_of_row wr g (o+(m-1-k)) _ _ HG.out;generalize (bg.pt l o m v k).getD (o+(m-1-k)) 0=y0 at c0;go_wp2;refine ⟨⟨k+1,z / 256,by omega,by go_num,?_,by omega,by omega,?_,?_,?_⟩,by simp [intOf];omega⟩
   ·rfl
   ·show _=_;rw [HZ.out,Int.ediv_ediv_of_nonneg (Int.le_of_lt (Int.pow_pos (by decide)))]
    rfl
   ·have h2:=gM (i:=o+(m-1-k)) (x:=z % 256) HG.out;rw [HZ.out] at h2;rw [HZ.out];exact h2
   ·exact HC.out.trans (bJ.setCell wr ⟨g,o+(m-1-k),none⟩ _)
  ·obtain rfl:k=m:=by omega
   have Bc:(k:Int)≤(k:Int):=Int.le_refl _;clear Ae;go_wp2;go_end0
   exact ⟨rfl,HG,HC.out⟩
end
section
open Go.RowKit
structure ef (a b:Nat) (w w':World):Prop where
 os:w'.os=w.os
 tape:w'.tape=w.tape
 output:w'.output=w.output
 size:w.heap.size≤w'.heap.size
 block:∀ k,k<w.heap.size→k ≠ a→k ≠ b→w'.heap[k]?=w.heap[k]?
theorem ef.trans {a b:Nat} {x y z:World} (h:ef a b x y) (k:ef a b y z):ef a b x z :=
 ⟨k.os.trans h.os,k.tape.trans h.tape,k.output.trans h.output,Nat.le_trans h.size k.size,fun i hi ha hb=>(k.block i (Nat.lt_of_lt_of_le hi h.size) ha hb).trans (h.block i hi ha hb)⟩
theorem fo {a b:Nat} {w w':World} (h:qw w w'):ef a b w w':=⟨h.os,h.tape,h.output,h.size,fun k hk _ _=>h.block k hk⟩
theorem uQ {a b:Nat} {w w':World} (h:bJ a w w'):ef a b w w':=⟨h.os,h.tape,h.output,by rw [h.size];exact Nat.le_refl _,fun k _ hk _=>h.block k hk⟩
theorem qR {a b:Nat} {w w':World} (h:bJ b w w'):ef a b w w':=⟨h.os,h.tape,h.output,by rw [h.size];exact Nat.le_refl _,fun k _ _ hk=>h.block k hk⟩
theorem ef.below {a b B:Nat} {w0 w w':World} (h:ef a b w w') (hb:Below B w0 w) (ha:B≤a) (Al:B≤b) (hB:B≤w.heap.size):Below B w0 w' :=
 hb.trans ⟨h.os,h.tape,h.output,h.size,fun k hk=>h.block k (by omega) (by omega) (by omega)⟩
structure fh (w:World) (gb gi gc c:Nat) (ks:List Int) (e n:Int) (i:Nat):Prop where
 nv:∃ z,w.heap[gb]?=some (.cells ((bg.cb e n z).map (Value.int .u8)).toArray 221 (0,0))
 ctr:w.heap[gi]?=some (.cells #[.int .u64 (i:Int)] 176 (0,0))
 box:w.heap[gc]?=some (.cells #[qp c] 79 (0,0))
 cip:fx w c ag.TB ks
 ne:gb ≠ gi∧gb ≠ gc∧gi ≠ gc
theorem fh.aG {w x:World} {gb gi gc c:Nat} {ks:List Int} {e n:Int} {i:Nat} (h:fh w gb gi gc c ks e n i) (hb:qw w x):fh x gb gi gc c ks e n i:=by
 obtain ⟨z,hz⟩:=h.nv;exact ⟨⟨z,(hb.block _ (lt_of_block hz)).trans hz⟩,(hb.block _ (lt_of_block h.ctr)).trans h.ctr,(hb.block _ (lt_of_block h.box)).trans h.box,h.cip.below hb qn,h.ne⟩
theorem fx.chg {w w':World} {c g:Nat} {T ks:List Int} {A:Array Value} {t:TypeId} {fr:Nat × Nat} (h:fx w c T ks) (hg:w.heap[g]?=some (.cells A t fr)) (h1:t ≠ 125) (h2:t ≠ 130) (ho:bJ g w w'):fx w' c T ks:=by
 obtain ⟨kb,n,cap,base,hc,hlen,Ap⟩:=h;have Ng:c ≠ g:=fun e=>by
  subst e;rw [hc] at hg;simp only [Option.some.injEq,Obj.cells.injEq] at hg;exact h1 hg.2.1.symm
 refine ⟨kb,n,cap,base,(ho.block _ Ng).trans hc,hlen,Ap.1,?_⟩;rcases Ap.2 with ⟨h',_⟩ | ⟨g',AO,cur,hv,q0,q1,q2⟩
 ·cases h'
 ·refine Or.inr ⟨g',AO,cur,hv,q0,(ho.block _ (fun e=>?_)).trans q1,q2⟩;subst e;rw [q1] at hg;simp only [Option.some.injEq,Obj.cells.injEq] at hg;exact h2 hg.2.1.symm
theorem fh.turn {w x:World} {gb gi gc c:Nat} {ks:List Int} {e n z:Int} {i:Nat} (h:fh w gb gi gc c ks e n i) (hg:x.heap[gb]?=some (.cells ((bg.cb e n z).map (Value.int .u8)).toArray 221 (0,0))) (ho:bJ gb w x):fh x gb gi gc c ks e n i:=by
 obtain ⟨z',hz⟩:=h.nv;exact ⟨⟨z,hg⟩,(ho.block _ h.ne.1.symm).trans h.ctr,(ho.block _ h.ne.2.1.symm).trans h.box,h.cip.chg hz (by decide) (by decide) ho,h.ne⟩
theorem fh.count {w x:World} {gb gi gc c:Nat} {ks:List Int} {e n:Int} {i j:Nat} (h:fh w gb gi gc c ks e n i) (hg:x.heap[gi]?=some (.cells #[.int .u64 (j:Int)] 176 (0,0))) (ho:bJ gi w x):fh x gb gi gc c ks e n j:=by
 obtain ⟨z',hz⟩:=h.nv;exact ⟨⟨z',(ho.block _ h.ne.1).trans hz⟩,hg,(ho.block _ h.ne.2.2.symm).trans h.box,h.cip.chg h.ctr (by decide) (by decide) ho,h.ne⟩
def bg.eV (ks:List Int) (N:Nat) (e n:Int) (i:Nat):List Int:=ag.nv ag.TB ks N (bg.cb e n (i:Int))
theorem jH (ks:List Int) (N:Nat) (e n:Int) (i:Nat):(bg.eV ks N e n i).length=16:=ag.jC _ _ _ _
def vQ (gb gi gc c:Nat) (ks:List Int) (N:Nat) (e n:Int) (i:Nat) (w:World) (r:Ending) (w':World):Prop :=
 r = .returned (Bk (bg.eV ks N e n i))∧fh w' gb gi gc c ks e n (i+1)∧ef gb gi w w'
theorem acb (gb gi gc c:Nat) (ks:List Int) (N:Nat) (e n:Int) (i:Nat) (hn:ks.length=4*(N+2)) (hN:N≤100) (hi:i<4294967296) (w:World) (hS:fh w gb gi gc c ks e n i) :
  qc 227 #[qp gb,qp gi,qp gc] w (vQ gb gi gc c ks N e n i w):=by
 have HS:=qh hS;clear hS;have HN:=qh (And.intro hn hN);clear hn hN;go_enter func227,ntmps227;go_upto_region 1 with fail
 have Ch:Hid ((w.alloc (.cells qz 221)).heap[w.heap.size]?=some (.cells (List.replicate 16 (Value.int .u8 0)).toArray 221 (0,0))):=heap_alloc_new w _;have Ax:Hid (ef gb gi w (w.alloc (.cells qz 221))):=fo (qb w _);have AM:Hid (fh (w.alloc (.cells qz 221)) gb gi gc c ks e n i):=HS.out.aG (qb w _);have HL:Hid (gb<w.heap.size∧gi<w.heap.size∧gc<w.heap.size):=⟨lt_of_block HS.out.nv.choose_spec,lt_of_block HS.out.ctr,lt_of_block HS.out.box⟩;clear HS;generalize w.alloc (.cells qz 221)=w1 at *;refine wp_region_any (by kernel_rfl) ?_;change wpAny _ _ _ _ _ _ _ (World.drew _);have BS:Hid (w1.drew.heap[w.heap.size]?=some (.cells (List.replicate 16 (Value.int .u8 0)).toArray 221 (0,0))):=Ch.out;have AA:Hid (ef gb gi w w1.drew):=Ax.out.trans (fo (Below.refl _ _).drew);have Ar:Hid (fh w1.drew gb gi gc c ks e n i):=AM.out.aG (Below.refl _ _).drew;clear Ch Ax AM;generalize w1.drew=w2 at *;have AR:Hid (w2.cell? ⟨gi,0,none⟩=some (.int .u64 (i:Int))):=by show _=_;rw [cell_of_row w2 gi 0 _ _ _ Ar.out.ctr];rfl
 refine wpAny_of_held (S:=fun x:World=>x.cell? ⟨gi,0,none⟩=some (.int .u64 (i:Int))) _ _ _ _ ?_;refine aS 0 4 (.slice (some ⟨gb,12,none⟩) 4 4) AR.out rfl (by intro x hx;go_simp;try (intro h;omega)) ?_;refine aS 1 5 (.int .u64 (i:Int)) AR.out rfl (by intro x hx;go_simp;try (intro h;omega)) ?_;obtain ⟨z,hz⟩:=Ar.out.nv;have OT:0≤(i:Int)∧(i:Int)<18446744073709551616:=by omega
 refine aD 2 (by kernel_rfl) ?_;refine wpOp_step rfl (fun Kc Af=>?_);go_simp;refine (oS (bg.cb e n z) gb 12 4 4 (i:Int) (bg.qe _ _ _) (by omega) OT _ hz).mono ?_;rintro r w3 ⟨rfl,G3,Dd⟩;have FL:Hid (w3.heap[gb]?=some (.cells ((bg.cb e n (i:Int)).map (Value.int .u8)).toArray 221 (0,0))):=by
  have h:=G3.out;rw [bg.abI] at h;exact h
 have AY:=qh (Ar.out.turn FL.out Dd);have Cg:Hid (ef gb gi w w3):=AA.out.trans (uQ Dd);have DU:Hid (w3.heap[w.heap.size]?=some (.cells (List.replicate 16 (Value.int .u8 0)).toArray 221 (0,0))):=(Dd.block _ (by have:=HL.out;omega)).trans BS.out;have Ci:Hid (w3.cell? ⟨gi,0,none⟩=some (.int .u64 (i:Int))):=by show _=_;rw [cell_of_row w3 gi 0 _ _ _ AY.out.ctr];rfl
 clear G3 Dd hz AA BS AR Ar;dsimp only;refine Af _ _ ⟨Ci.out,?_⟩;clear Af Kc;try simp only [Act.put,aQ,aR,aO]
 refine kJ (by kernel_rfl) ?_ _;have f3:=frozen_of_row w3 gi 0 _ _ AY.out.ctr;have c3:=Ci.out;have AH:(i:Int)+1<18446744073709551616:=by omega
 go_upto_region 3 with fail
 have DM:bJ gi w3 (w3.setCell ⟨gi,0,none⟩ (.int .u64 ((i:Int)+1))):=bJ.setCell w3 ⟨gi,0,none⟩ _;have MN:Hid ((w3.setCell ⟨gi,0,none⟩ (.int .u64 ((i:Int)+1))).heap[gi]?=some (.cells #[.int .u64 (((i+1:Nat)):Int)] 176 (0,0))):=by
  show _=_;rw [heap_setCell_same w3 gi 0 _ _ _ AY.out.ctr]
  rfl
 have F2:Hid (fh (w3.setCell ⟨gi,0,none⟩ (.int .u64 ((i:Int)+1))) gb gi gc c ks e n (i+1)):=AY.out.count MN.out DM;have KX:Hid ((w3.setCell ⟨gi,0,none⟩ (.int .u64 ((i:Int)+1))).heap[gb]?=some (.cells ((bg.cb e n (i:Int)).map (Value.int .u8)).toArray 221 (0,0))):=(DM.block _ AY.out.ne.1).trans FL.out;have F1:Hid ((w3.setCell ⟨gi,0,none⟩ (.int .u64 ((i:Int)+1))).heap[w.heap.size]?=some (.cells (List.replicate 16 (Value.int .u8 0)).toArray 221 (0,0))):=(DM.block _ (by have:=HL.out;omega)).trans DU.out;have Ct:Hid (ef gb gi w (w3.setCell ⟨gi,0,none⟩ (.int .u64 ((i:Int)+1)))):=Cg.out.trans (qR DM);clear DM MN c3 f3 AH Ci AY DU Cg FL;generalize w3.setCell ⟨gi,0,none⟩ (.int .u64 ((i:Int)+1))=w4 at *;have c4:w4.cell? ⟨gc,0,none⟩=some (qp c):=by rw [cell_of_row w4 gc 0 _ _ _ F2.out.box];rfl
 obtain ⟨A,An,Ak⟩:∃ A:Array Value,Hid (A=((bg.cb e n (i:Int)).map (Value.int .u8)).toArray)∧Hid (A.size=16):=⟨_,rfl,by show _=_;simp [bg.qe]⟩;rw [← An.out] at KX;obtain ⟨X,CQ,Cm,Eb⟩:∃ X:Array Value,Hid (X=((bg.eV ks N e n i).map (Value.int .u8)).toArray)∧Hid (X.size=16)∧Hid (X.all (·.oneCell')=true):=⟨_,rfl,by show _=_;simp [jH],fe _⟩;have KN:Hid (qc 228 #[qp c,.agg A] w4 fun r w'=>r = .returned (.agg X)∧qw w4 w'):=by
  have h:=tO ks (bg.cb e n (i:Int)) N c w4 F2.out.cip HN.out.1 HN.out.2 (bg.qe _ _ _) (bg.aao _ _ _);unfold Bk at h;rw [← An.out] at h;rw [CQ.out];exact h.mono fun r w' hh=>⟨hh.1,hh.2⟩
 go_wp2_with (first
  | ((with_reducible refine ay _ _ _ _ _ _ _ ?_ KX.out underlying221 ?_ (ae Tryz.cE Ak) ?_);(exact rfl);(exact rfl))
  | (go_at_call 228;refine KN.out.mono ?_;rintro r w5 ⟨rfl,BC⟩;have DE:=qh (F2.out.aG BC);have HO5:Hid (ef gb gi w w5):=Ct.out.trans (fo BC);have IK:Hid (w5.heap[w.heap.size]?=some (.cells (List.replicate 16 (Value.int .u8 0)).toArray 221 (0,0))):=(BC.block _ (lt_of_block F1.out)).trans F1.out;clear BC)
  | ((with_reducible refine ak _ _ _ _ _ _ _ ?_ ?_ IK.out (ae Tryz.cE Cm) ?_ Eb.out ?_);(exact rfl);(exact rfl);(rw [Cm.out];rfl);intro w6 G6 AE))
 refine bodyPost_ret (results_cell_row rfl _ _ w.heap.size 221 X (0,0) _ rfl G6.out underlying221 rfl (ae Tryz.cE Cm)) rfl ⟨?_,?_,?_⟩
 ·rw [CQ.out,Bk]
 ·have hb:=HL.out;obtain ⟨z',Nz⟩:=DE.out.nv;exact ⟨⟨z',(AE.block _ (by omega)).trans Nz⟩,(AE.block _ (by omega)).trans DE.out.ctr,(AE.block _ (by omega)).trans DE.out.box,DE.out.cip.chg IK.out (by decide) (by decide) AE,DE.out.ne⟩
 ·have ho:=HO5.out;exact ⟨AE.os.trans ho.os,AE.tape.trans ho.tape,AE.output.trans ho.output,by rw [AE.size];exact ho.size,fun k hk ha hb=>(AE.block k (by omega)).trans (ho.block k hk ha hb)⟩
def acK (c:Nat) (ks:List Int) (e n:Int) (w:World) (r:Ending) (w':World):Prop :=
 ∃ gb gi gc,r = .returned (.func (.func 227) #[] #[qp gb,qp gi,qp gc])∧w.heap.size≤gb∧w.heap.size≤gi∧w.heap.size≤gc∧fh w' gb gi gc c ks e n 0∧qw w w'
theorem tZ (c:Nat) (ks:List Int) (e n:Int) (w:World) (hC:fx w c ag.TB ks) :
  qc 224 #[qp c,.int .i64 e,.int .i64 n] w (acK c ks (e % 18446744073709551616) (n % 18446744073709551616) w):=by
 have HC:=qh hC;clear hC;go_enter func224,ntmps224;go_upto_region 2 with fail
 have Cw:Hid (((w.alloc (.cells #[qp c] 79)).alloc (.cells qz 221)).heap[w.heap.size+1]?=some (.cells ((List.replicate 16 (0:Int)).map (Value.int .u8)).toArray 221 (0,0))):=heap_alloc2_new w _ _;have CQ:Hid (((w.alloc (.cells #[qp c] 79)).alloc (.cells qz 221)).heap[w.heap.size]?=some (.cells #[qp c] 79 (0,0))):=heap_alloc2_old w _ _;have Ai:Hid (qw w ((w.alloc (.cells #[qp c] 79)).alloc (.cells qz 221))):=(qb w _).alloc (by simp) _;have Cn:Hid (((w.alloc (.cells #[qp c] 79)).alloc (.cells qz 221)).heap.size=w.heap.size+2):=by show _=_;simp
 generalize (w.alloc (.cells #[qp c] 79)).alloc (.cells qz 221)=w1 at *;have he:0≤e % 18446744073709551616∧e % 18446744073709551616<18446744073709551616:=⟨by omega,by omega⟩;have hn:0≤n % 18446744073709551616∧n % 18446744073709551616<18446744073709551616:=⟨by omega,by omega⟩;have tok1:Hid (1=1):=rfl;have Fi:Hid ((bg.pt (List.replicate 16 0) 0 6 (e % 18446744073709551616) 6).length=16):=by show _=_;rw [bg.kt];rfl
 go_upto_region 4 with (first
  | (go_at_call 226;have _t:=tok1.out;refine (oS (List.replicate 16 0) (w.heap.size+1) 0 6 6 (e % 18446744073709551616) rfl (by omega) he _ Cw.out).mono ?_;clear tok1;rintro r w2 ⟨rfl,A8,BB⟩)
  | (go_at_call 226;refine (oS (bg.pt (List.replicate 16 0) 0 6 (e % 18446744073709551616) 6) (w.heap.size+1) 6 6 6 (n % 18446744073709551616) Fi.out (by omega) hn _ A8.out).mono ?_;rintro r w3 ⟨rfl,FL,Dd⟩))
 have KW:Hid (w3.heap[w.heap.size+1]?=some (.cells ((bg.cb (e % 18446744073709551616) (n % 18446744073709551616) 0).map (Value.int .u8)).toArray 221 (0,0))):=by
  have h:=FL.out;rw [bg.aaV] at h;exact h
 have ch:=BB.trans Dd;have Eb:Hid (w3.heap[w.heap.size]?=some (.cells #[qp c] 79 (0,0))):=(ch.block _ (by omega)).trans CQ.out;have Ao:Hid (qw w w3):=ch.below Ai.out (by omega);have Na:Hid (w3.heap.size=w.heap.size+2):=ch.size.trans Cn.out;clear ch BB Dd Cw A8 FL CQ Ai Cn;go_wp2;go_ret;have Bj:=Na.out;rw [Bj];refine ⟨w.heap.size+1,w.heap.size+2,w.heap.size,rfl,by omega,by omega,Nat.le_refl _,?_,?_⟩
 ·have hb:qw w3 (w3.alloc (.cells #[.int .u64 0] 176)):=qb w3 _;refine ⟨⟨0,(hb.block _ (lt_of_block KW.out)).trans KW.out⟩,?_,(hb.block _ (lt_of_block Eb.out)).trans Eb.out,(HC.out.below Ao.out qn).below hb qn,by omega,by omega,by omega⟩;rw [← Bj];exact heap_alloc_new w3 _
 ·exact Ao.out.alloc Ao.out.size _
def ahs (L:List Int) (w:World) (r:Ending) (w':World):Prop :=
 ∃ v,r = .returned v∧w'.ownsRow w.heap.size 5 1 v L.length (aC L)∧qw w w'
theorem yh (L:List Int) (p:Option Addr) (cap:Nat) (hL:L.length≤1000000000) (Fi:p=none→L = []∧cap=0) (w:World) (hp:cX w p L) :
  qc 50 #[.slice p L.length cap] w (ahs L w):=by
 have hq:=@Lib.run_eql_slice_nil prog;cases p with
 | none =>
  obtain ⟨rfl,rfl⟩:=Fi rfl;go_enter func50,ntmps50;go_wp2;go_ret;exact ⟨_,rfl,by unfold aC;exact World.ownsRow_nil _ _ _ _,Below.refl _ _⟩
 | some ad =>
  have Hp:=qh hp;clear hp Fi;have HC:Hid (∀ j u,(L.map (Value.int .u8))[j]?=some u→(w.alloc (.cells #[] 5)).cell? (ad.add j)=some u):=fun j u hj=>by
   have Cp:j<L.length:=by have:=(List.getElem?_eq_some_iff.1 hj).1;simpa using this
   obtain ⟨ab,ao,h1,h2⟩:=Hp.out.2 (by omega);cases h1
   rw [Addr.add_mid,bO _ (h2 j Cp)];rw [List.getElem?_map,List.getElem?_eq_getElem Cp] at hj;rw [List.getD_eq_getElem?_getD,List.getElem?_eq_getElem Cp];simpa using hj
  have HE:Hid ((w.alloc (.cells #[] 5)).ownsRow w.heap.size 5 1 (.slice (some ⟨w.heap.size,0,none⟩) 0 0) 0 []):=by
   have h:=eY w w.heap.size qn
   rwa [ac1] at h
  obtain ⟨i0,hi,hz0,hz1,hz2⟩:=info_parts Tryz.bu;go_enter func50,ntmps50;go_wp2_with (at_builtin;refine wpList_append_own _ rfl _ _ 22 rfl w.heap.size 5 i0 (.int .u8 0) 1 1 underlying22 hi hz0 hz1 hz2 rfl (by decide) _ 0 [] rfl HE.out ad L.length cap (L.map (Value.int .u8)) rfl (by simp) HC.out (by intro u hu;rw [List.mem_map] at hu;obtain ⟨x,_,rfl⟩:=hu;rfl) (by unfold maxLen;omega) (by omega) (by simp) ?_;intro v' w1 Ap Ac _)
  go_ret;have hl:0+L.length=L.length:=Nat.zero_add _;rw [hl,List.nil_append] at Ap;exact ⟨_,rfl,by unfold aC;exact Ap,(qb w _).grown Ac (by simp) (fun j e=>by cases e;exact Nat.le_refl _)⟩
end
section
open Go.RowKit Go.Shelf
theorem y7 (p:Option Addr) (len cap:Nat) (w:World) :
  qc 225 #[.slice p len cap,.int .i64 16] w fun e w'=>e = .returned (.func (.func 229) #[] #[qp w.heap.size,.pointer (some ⟨w.heap.size+1,0,none⟩)]) ∧
   w'=(w.alloc (.cells #[.slice p len cap] 22)).alloc (.cells #[.int .i64 16] 3):=by
 go_enter func225,ntmps225;go_wp2;go_ret;exact ⟨rfl,rfl⟩
def bg.ads (g len:Nat) (x:Nat):Array Value:=#[.slice (some ⟨g,16*x,none⟩) (min 16 (len-16*x)) (min 16 (len-16*x))]
def bg.xe (len:Nat):Nat:=(len+15) / 16
theorem xY (l bs bn g len cap:Nat) (p:Option Addr) (hp:0<len→p=some ⟨g,0,none⟩) (hlen:len≤1000000000) (Az:len≤cap) (BI:cap≤9223372036854775807) (J Jx:List Nat→World→Prop)
  (hY:∀ pre x W,J pre W→pre.length<bg.xe len→YieldAt Fence.wide 1 prog l (bg.ads g len x) W fun e W' =>
   (e = .returned (.bool true)∧J (pre++[x]) W'∧W'.heap[bs]?=W.heap[bs]?∧W'.heap[bn]?=W.heap[bn]?)∨(e = .returned (.bool false)∧Jx (pre++[x]) W'))
  (W:World) (hbs:W.heap[bs]?=some (.cells #[.slice p len cap] 22 (0,0))) (LO:W.heap[bn]?=some (.cells #[.int .i64 16] 3 (0,0))) (h0:J [] W) (SB:∀ pre x,J pre x→J pre x.drew) :
  CallsIn Fence.wide 2 prog 229 #[.func (.yield l) #[] #[],qp bs,qp bn] W fun e W'=>(∃ v,e = .returned v) ∧
   ((∃ ys,ys=List.range (bg.xe len)∧J ys W')∨(∃ pre,True∧Jx pre W')):=by
 refine callsIn_of_wp func229 rfl trivial ?_ rfl;simp only [ntmps229,List.size_toArray,List.length_cons,List.length_nil,Nat.reduceAdd,Nat.reduceSub,Array.replicate_succ,Array.replicate_zero,List.push_toArray,List.append_toArray,List.nil_append,List.cons_append];have Bl:=qh hbs;have GF:=qh LO;have P4:=qh h0;clear hbs LO h0
 gi_wp2
 gi_loopw [4] (fun v4 wr=>∃ k:Nat,k≤bg.xe len∧v4 = .int .i64 (16*(k:Int))∧Hid (J (List.range k) wr)∧Hid (wr.heap[bs]?=some (.cells #[.slice p len cap] 22 (0,0)))∧Hid (wr.heap[bn]?=some (.cells #[.int .i64 16] 3 (0,0))))
  (fun v4 _=>16*bg.xe len-(intOf v4).toNat)
 case atStart=>exact ⟨0,Nat.zero_le _,rfl,P4.out,Bl.out,GF.out⟩
 case round =>
  clear Bl GF P4;obtain ⟨k,hk,rfl,HJ,Bl,GF⟩:=hrel;have cs:wr.cell? ⟨bs,0,none⟩=some (.slice p len cap):=by rw [cell_of_row wr bs 0 _ _ _ Bl.out];rfl
  have cn:wr.cell? ⟨bn,0,none⟩=some (.int .i64 16):=by rw [cell_of_row wr bn 0 _ _ _ GF.out];rfl
  by_cases Ae:16*k<len
  ·obtain rfl:=hp (by omega);have Ur:16*(k:Int)<(len:Int):=by omega
   have Es:k<bg.xe len:=by unfold bg.xe;omega
   have ht:(16*(k:Int)).toNat=16*k:=by omega
   have h0:0≤16*(k:Int):=by omega
   have hle:16*(k:Int)≤(len:Int):=by omega
   have Tj:16*k≤len:=by omega
   have TI:((len-16*k:Nat):Int)=(len:Int)-16*k:=by omega
   gi_wp2
   have csd:wr.drew.cell? ⟨bs,0,none⟩=some (.slice (some ⟨g,0,none⟩) len cap):=cs;have cnd:wr.drew.cell? ⟨bn,0,none⟩=some (.int .i64 16):=cn
   gi_region
   obtain ⟨E,hE⟩:∃ E,E=min 16 (len-16*k):=⟨_,rfl⟩;have HE:(if (len:Int)-16*(k:Int)<16 then (len:Int)-16*(k:Int) else 16)=(E:Int):=by split<;>omega
   rw [HE];obtain ⟨fn,tmps,assign,body,hy,hR⟩:=hY (List.range k) k wr.drew (SB _ _ HJ.out) (by rw [List.length_range];exact Es);unfold bg.ads at hy;rw [← hE] at hy;have e0:¬ E=0:=by omega
   have e00:0<E:=by omega
   have e1:E≤16:=by omega
   have e2:16*k+E≤len:=by omega
   have e3:16*k+E≤cap:=by omega
   have e4:(16*(k:Int)+(E:Int)).toNat=16*k+E:=by omega
   have e5:0≤16*(k:Int)+(E:Int):=by omega
   have e6:16*(k:Int)+(E:Int)≤(cap:Int):=by omega
   have e7:16*(k:Int)≤16*(k:Int)+(E:Int):=by omega
   have BT:=qh hE;have HBSd:Hid (wr.drew.heap[bs]?=some (.cells #[.slice (some ⟨g,0,none⟩) len cap] 22 (0,0))):=Bl.out;have HBNd:Hid (wr.drew.heap[bn]?=some (.cells #[.int .i64 16] 3 (0,0))):=GF.out;clear HE hE cs cn Bl GF HJ;generalize wr.drew=wd at *
   gi_wp2
   refine hR.mono ?_;rintro e W3 (⟨rfl,Qq,Nv,Mf⟩ | ⟨rfl,Ox⟩)
   ·have NM:Hid (W3.heap[bs]?=some (.cells #[.slice (some ⟨g,0,none⟩) len cap] 22 (0,0))):=Nv.trans HBSd.out;have KP:Hid (W3.heap[bn]?=some (.cells #[.int .i64 16] 3 (0,0))):=Mf.trans HBNd.out;have Sa:=qh Qq;have cn3:W3.cell? ⟨bn,0,none⟩=some (.int .i64 16):=by rw [cell_of_row W3 bn 0 _ _ _ KP.out];rfl
    clear Nv Mf Qq hR hy
    gi_wp2
    go_roundw
    case rel=>exact ⟨k+1,by omega,by congr 1,by show J _ _;rw [List.range_succ];exact Sa.out,NM.out,KP.out⟩
    case measure=>simp [intOf];omega
   ·gi_wp2
    refine bodyPost_ret (results_none rfl _ _ _) rfl ?_;exact ⟨⟨_,rfl⟩,.inr ⟨_,trivial,Ox⟩⟩
  ·obtain rfl:k=bg.xe len:=by unfold bg.xe at *;omega
   have Bc:(len:Int)≤16*((bg.xe len:Nat):Int):=by omega
   gi_wp2
   go_end0
   exact ⟨⟨_,rfl⟩,.inl ⟨_,rfl,HJ.out⟩⟩
end
section
open Go.RowKit
namespace bg
def xr (L B:List Int) (o:Nat):Nat→List Int
 | 0=>L
 | k+1=>(xr L B o k).set (o+k) (bits .xor .u8 ((xr L B o k).getD (o+k) 0) (B.getD k 0))
theorem aa6 (L B:List Int) (o k:Nat):(xr L B o k).length=L.length:=by
 induction k with
 | zero=>rfl
 | succ k ih=>rw [xr,List.length_set,ih]
theorem abg (l:List Int) (i j:Nat) (x:Int) (hi:i<l.length):(l.set i x).getD j 0=if i=j then x else l.getD j 0:=by
 rw [List.getD_eq_getElem?_getD,List.getElem?_set];by_cases h:i=j
 ·subst h;simp [hi]
 ·simp [h,List.getD_eq_getElem?_getD]
theorem vw (L B:List Int) (o:Nat):∀ k,o+k≤L.length→∀ j,(xr L B o k).getD j 0=if o≤j∧j<o+k then bits .xor .u8 (L.getD j 0) (B.getD (j-o) 0) else L.getD j 0
 | 0,_,j=>by rw [xr,if_neg (by omega)]
 | k+1,h,j=>by
  rw [xr,abg _ _ _ _ (by rw [aa6];omega)];by_cases e:o+k=j
  ·subst e;rw [if_pos rfl,if_pos (by omega),vw L B o k (by omega),if_neg (by omega),show o+k-o=k by omega]
  ·rw [if_neg e,vw L B o k (by omega)];by_cases c:o≤j∧j<o+k
   ·rw [if_pos c,if_pos (by omega)]
   ·rw [if_neg c,if_neg (by omega)]
def step (S:Nat→List Int) (len:Nat) (s:List Int × Nat) (x:Nat):List Int × Nat:=(xr s.1 (S s.2) (16*x) (min 16 (len-16*x)),s.2+1)
def st (S:Nat→List Int) (L:List Int) (pre:List Nat):List Int × Nat:=pre.foldl (step S L.length) (L,0)
theorem abY (S:Nat→List Int) (L:List Int):st S L []=(L,0):=rfl
theorem xE (S:Nat→List Int) (L:List Int) (pre:List Nat) (x:Nat):st S L (pre++[x])=step S L.length (st S L pre) x:=by
 unfold st;rw [List.foldl_append]
 rfl
theorem rU (S:Nat→List Int) (len:Nat):∀ (pre:List Nat) (s:List Int × Nat),(pre.foldl (step S len) s).2=s.2+pre.length
 | [],s=>rfl
 | x :: r,s=>by
  rw [List.foldl_cons,rU S len r];simp only [step,List.length_cons];omega
theorem sk (S:Nat→List Int) (len:Nat):∀ (pre:List Nat) (s:List Int × Nat),(pre.foldl (step S len) s).1.length=s.1.length
 | [],s=>rfl
 | x :: r,s=>by
  rw [List.foldl_cons,sk S len r];simp only [step,aa6]
theorem zH (S:Nat→List Int) (L:List Int) (pre:List Nat):(st S L pre).2=pre.length:=by
 unfold st;rw [rU];simp
theorem pZ (S:Nat→List Int) (L:List Int) (pre:List Nat):(st S L pre).1.length=L.length:=by
 unfold st;rw [sk]
theorem mW (S:Nat→List Int) (L:List Int):∀ k,∀ j,(st S L (List.range k)).1.getD j 0=if j<16*k∧j<L.length then bits .xor .u8 (L.getD j 0) ((S (j / 16)).getD (j % 16) 0) else L.getD j 0
 | 0,j=>by rw [List.range_zero,abY,if_neg (by omega)]
 | k+1,j=>by
  rw [List.range_succ,xE,step,zH,List.length_range];by_cases hk:16*k≤L.length
  ·rw [vw _ _ _ _ (by rw [pZ];omega),mW S L k j];by_cases c:16*k≤j∧j<16*k+min 16 (L.length-16*k)
   ·rw [if_pos c,if_neg (show ¬ (j<16*k∧j<L.length) by omega),if_pos (show j<16*(k+1)∧j<L.length by omega),show j / 16=k by omega,show j % 16=j-16*k by omega]
   ·rw [if_neg c];by_cases d:j<16*k∧j<L.length
    ·rw [if_pos d,if_pos (by omega)]
    ·rw [if_neg d,if_neg (by omega)]
  ·rw [show min 16 (L.length-16*k)=0 by omega,xr,mW S L k j];by_cases d:j<16*k∧j<L.length
   ·rw [if_pos d,if_pos (by omega)]
   ·rw [if_neg d,if_neg (by omega)]
def xs (S:Nat→List Int) (L:List Int):List Int:=(List.range L.length).map fun j=>bits .xor .u8 (L.getD j 0) ((S (j / 16)).getD (j % 16) 0)
theorem oV (S:Nat→List Int) (L:List Int):(xs S L).length=L.length:=by simp [xs]
theorem zQ (S:Nat→List Int) (L:List Int) (j:Nat) (hj:j<L.length):(xs S L).getD j 0=bits .xor .u8 (L.getD j 0) ((S (j / 16)).getD (j % 16) 0):=by
 rw [List.getD_eq_getElem?_getD,List.getElem?_eq_getElem (by rw [oV];exact hj)];simp [xs]
theorem zU (a b:List Int) (hl:a.length=b.length) (h:∀ j,j<a.length→a.getD j 0=b.getD j 0):a=b:=by
 apply List.ext_getElem hl
 intro i h1 h2;have:=h i h1;rw [List.getD_eq_getElem?_getD,List.getElem?_eq_getElem h1,List.getD_eq_getElem?_getD,List.getElem?_eq_getElem h2] at this;simpa using this
theorem ahl (S:Nat→List Int) (L:List Int):(st S L (List.range (xe L.length))).1=xs S L:=by
 apply zU
 ·rw [pZ,oV]
 ·intro j hj;rw [pZ] at hj;rw [mW,zQ _ _ _ hj,if_pos (by unfold xe;omega)]
theorem uN (S:Nat→List Int) (L:List Int):ai.aY (xs S L):=fun x hx=>by
 unfold xs at hx;rw [List.mem_map] at hx;obtain ⟨j,_,rfl⟩:=hx;exact ag.qX _ _
attribute [irreducible] xr st xs
end bg
end
section
open Go.RowKit
section
variable {F:Fence} {n:Nat} {P:Program} {md:Region.Mode} {ops:Array Oper} {Q:Exit→Act→World→Prop} {S:World→Prop}
def opC (P:Program) (o:Oper) (a:Act) (w:World) (K:Act→World→Prop):Prop :=
 (∃ v w',(execOp a.eval o).run P w = .ok (.value v) w'∧K (a.put o.dst v) w')∨(∃ w',(execOp a.eval o).run P w = .ok .skip w'∧K (a.put o.dst undef) w')
theorem zj {o:Oper} {a:Act} {w:World} {K K':Act→World→Prop} (h:∀ a w,K a w→K' a w) (hh:opC P o a w K):opC P o a w K':=by
 rcases hh with ⟨v,w',h1,h2⟩ | ⟨w',h1,h2⟩
 ·exact Or.inl ⟨v,w',h1,h _ _ h2⟩
 ·exact Or.inr ⟨w',h1,h _ _ h2⟩
def pK (P:Program) (md:Region.Mode) (ops:Array Oper) (Q:Exit→Act→World→Prop) (S:World→Prop) (k:Nat):Nat→Array Bool→Act→World→Prop
 | 0,listed,a,w=>Region.ready md ops listed = []∧Q .normal a w
 | fuel+1,listed,a,w =>
  (Region.ready md ops listed = []→Q .normal a w) ∧
  ∀ i∈Region.ready md ops listed,∀ o,ops[i]?=some o→opC P o a w (fun a' w'=>(i ≠ k→S w')∧pK P md ops Q S k fuel (listed.setIfInBounds i true) a' w')
def lk (ops:Array Oper):Bool:=ops.toList.all fun o=>o.guard.isNone&&(match o.op with | .call _ | .defer _ | .select _ _ | .go _=>false | _=>true)
theorem kG (h:lk ops=true) {i:Nat} {o:Oper} (ho:ops[i]?=some o):o.guard=none∧(∀ c,o.op ≠ .call c)∧(∀ c,o.op ≠ .defer c)∧∀ cs b,o.op ≠ .select cs b:=by
 have hm:o∈ops.toList:=by
  rw [Array.getElem?_eq_some_iff] at ho;obtain ⟨hi,rfl⟩:=ho;simp
 have h2:=List.all_eq_true.1 h o hm;simp only [Bool.and_eq_true] at h2;refine ⟨by simpa using h2.1,fun c e=>?_,fun c e=>?_,fun cs b e=>?_⟩<;>(have h3:=h2.2;rw [e] at h3;cases h3)
theorem oW (hc:lk ops=true) {k:Nat}:∀ (fuel:Nat) (listed:Array Bool) (a:Act) (w:World),pK P md ops Q S k fuel listed a w→wpAnyIn F n P md ops Q fuel listed a w
 | 0,_,_,_,h=>h
 | fuel+1,listed,a,w,h=>⟨h.1,fun i hi=>by
  unfold wpOpIn;split
  ·rename_i Mg
   obtain ⟨_,o,ho,_⟩:=mem_ready.1 hi;rw [Mg] at ho;cases ho
  ·rename_i o ho
   obtain ⟨hg,LQ,ON,_⟩:=kG hc ho;have hw:Region.wanted o (yielded ops a.tmps)=true:=by simp [Region.wanted,hg]
   rw [if_pos hw];unfold Oper.wpIn;refine ⟨fun f hf=>?_,?_⟩
   ·unfold Oper.about at hf;split at hf
    ·rename_i c SN;exact absurd SN (LQ c)
    ·cases hf
   ·rw [Oper.semAt_plain F _ _ ON];rcases h.2 i hi o ho with ⟨v,w',h1,h2⟩ | ⟨w',h1,h2⟩
    ·rw [h1];exact oW hc fuel _ _ _ h2.2
    ·rw [h1];exact oW hc fuel _ _ _ h2.2⟩
theorem ad2 {oi oj:Oper} {v:Value} (SI:oi.apart ops oj=true) (Pt:∀ cs b,oi.op ≠ .select cs b) (TH:∀ cs b,oj.op ≠ .select cs b) {K:Act→World→Prop} {a:Act} {w:World}
  (hy:∀ w,S w→(execOp a.eval oi).run P w = .ok (.value v) w) (h:opC P oj (a.put oi.dst v) w K) :
  opC P oj a w (fun a' w'=>(∀ w,S w→(execOp a'.eval oi).run P w = .ok (.value v) w)∧K (a'.put oi.dst v) w'):=by
 obtain ⟨h1,h2,h3⟩:=Oper.apart_spec SI;have aG:∀ u,∀ w,S w→(execOp (a.put oj.dst u).eval oi).run P w = .ok (.value v) w:=fun u w hw=>by
  rw [execOp_put oi Pt a oj.dst u h3];exact hy w hw
 unfold opC at *;rw [execOp_put oj TH a oi.dst v h1] at h;rcases h with ⟨u,w',q1,q2⟩ | ⟨w',q1,q2⟩
 ·exact Or.inl ⟨u,w',q1,aG u,by rw [← Act.put_comm a v u h2];exact q2⟩
 ·exact Or.inr ⟨w',q1,aG _,by rw [← Act.put_comm a v undef h2];exact q2⟩
theorem uy (hc:lk ops=true) {k i:Nat} {oi:Oper} {v:Value} (hi:ops[i]?=some oi) (hk:Region.waitsFor md ops k i=true) :
  ∀ (fuel:Nat) (listed:Array Bool) (a:Act) (w:World),
   (∀ j oj,ops[j]?=some oj→j ≠ i→listed.getD j true=false→(∀ e∈oj.after,Region.binds md e=true→e.on ≠ i)→oi.apart ops oj=true) →
   i∈Region.ready md ops listed→(∀ w,S w→(execOp a.eval oi).run P w = .ok (.value v) w)→S w →
   pK P md ops Q S k fuel (listed.setIfInBounds i true) (a.put oi.dst v) w→pK P md ops Q S k (fuel+1) listed a w:=by
 intro fuel
 induction fuel with
 | zero =>
  intro listed a w _ hr hy hS H;refine ⟨fun h=>(by rw [h] at hr;cases hr),fun j hj o ho=>?_⟩;by_cases AK:j=i
  ·subst AK;rw [hi] at ho;cases ho
   exact Or.inl ⟨v,w,hy w hS,fun _=>hS,H⟩
  ·have:=ready_mono hj AK;rw [H.1] at this;cases this
 | succ fuel ih =>
  intro listed a w DX hr hy hS H;refine ⟨fun h=>(by rw [h] at hr;cases hr),fun j hj oj Ev=>?_⟩;by_cases AK:j=i
  ·subst AK;rw [hi] at Ev;cases Ev
   exact Or.inl ⟨v,w,hy w hS,fun _=>hS,H⟩
  ·have h1:=H.2 j (ready_mono hj AK) oj Ev;obtain ⟨Gn,oj',Mj,En⟩:=mem_ready.1 hj;rw [Ev] at Mj;cases Mj
   have Gs:∀ e∈oj.after,Region.binds md e=true→e.on ≠ i:=fun e he hb heq=>by
    have q1:=En e he hb;have q0:=(mem_ready.1 hr).1;rw [heq] at q1;rcases Nat.lt_or_ge i listed.size with h' | h'
    ·simp [h'] at q0 q1;rw [q0] at q1;cases q1
    ·simp [Array.getElem?_eq_none h'] at q1
   have GO:j ≠ k:=fun e=>by
    subst e;obtain ⟨oj',Iv,e,he,hb,Mk⟩:=Region.waitsFor_spec hk;rw [Ev] at Iv;cases Iv
    exact Gs e he hb Mk
   have h2:=ad2 (DX j oj Ev AK Gn Gs) (kG hc hi).2.2.2 (kG hc Ev).2.2.2 hy h1;refine zj (fun a' w' h3=>⟨fun _=>h3.2.1 GO,ih (listed.setIfInBounds j true) a' w' (fun m om hm Pd Mx Mg=>?_) (ready_mono hr (Ne.symm AK)) h3.1 (h3.2.1 GO) ?_⟩) h2
   ·refine DX m om hm Pd ?_ Mg;by_cases L6:j=m
    ·subst L6;exact Gn
    ·rw [getD_set_ne true L6] at Mx;exact Mx
   ·rw [Array.setIfInBounds_comm _ _ AK];exact h3.2.2
theorem dh (hc:lk ops=true) (k i D:Nat) (v:Value) {fuel:Nat} {listed:Array Bool} {a:Act} {w:World} {op:Op} {T:TypeId} {ps:String} {af:Array Edge} (hS:S w) (ho:ops[i]?=some { dst:=some D,op:=op,type:=T,pos:=ps,after:=af,guard:=none })
  (hf:Region.free md ops listed i=true) (hr:(Region.ready md ops listed).contains i=true) (hk:Region.waitsFor md ops k i=true)
  (hy:∀ w,S w→(execOp a.eval { dst:=some D,op:=op,type:=T,pos:=ps,after:=af,guard:=none }).run P w = .ok (.value v) w)
  (h:pK P md ops Q S k fuel (listed.setIfInBounds i true) (a.put (some D) v) w):pK P md ops Q S k (fuel+1) listed a w :=
 uy hc ho hk fuel listed a w (Region.free_spec ho hf) (by simpa using hr) hy hS h
theorem zi (k i:Nat) {fuel:Nat} {listed:Array Bool} {a:Act} {w:World} {oi:Oper} (ho:ops[i]?=some oi) (hr:Region.ready md ops listed = [i])
  (h:opC P oi a w (fun a' w'=>(i ≠ k→S w')∧pK P md ops Q S k fuel (listed.setIfInBounds i true) a' w')):pK P md ops Q S k (fuel+1) listed a w :=
 ⟨fun h0=>absurd (hr ▸ h0) (by simp),fun j hj o Ev=>by
  rw [hr] at hj;simp at hj;subst hj;rw [ho] at Ev;cases Ev
  exact h⟩
theorem xI {k:Nat} {listed:Array Bool} {a:Act} {w:World} (hr:Region.ready md ops listed = []) (h:Q .normal a w):∀ fuel,pK P md ops Q S k fuel listed a w
 | 0=>⟨hr,h⟩
 | _+1=>⟨fun _=>h,by rw [hr];simp⟩
theorem yQ {o:Oper} {a:Act} {w w':World} {K:Act→World→Prop} (h:(execOp a.eval o).run P w = .ok .skip w') (hk:K (a.put o.dst undef) w'):opC P o a w K:=Or.inr ⟨w',h,hk⟩
end
end
section
open Go.RowKit Go.Shelf
attribute [local go_sem] Oper.semAt_some
theorem qT (bs bn g len cap:Nat) (p:Option Addr) (hp:0<len→p=some ⟨g,0,none⟩) (hlen:len≤1000000000) (Az:len≤cap) (BI:cap≤9223372036854775807) (w:World)
  (hbs:w.heap[bs]?=some (.cells #[.slice p len cap] 22 (0,0))) (LO:w.heap[bn]?=some (.cells #[.int .i64 16] 3 (0,0))) :
  SeqStopsK Fence.wide 2 prog 229 #[qp bs,qp bn] (bg.ads g len) (fun W W'=>W'.heap[bs]?=W.heap[bs]?∧W'.heap[bn]?=W.heap[bn]?) (fun ys=>ys=List.range (bg.xe len)) (fun _=>True) (bg.xe len) w :=
 fun l J Jx W hW hJ _ hY h0 =>
  xY l bs bn g len cap p hp hlen Az BI J Jx hY W ((hW.block _ (lt_of_block hbs)).trans hbs) ((hW.block _ (lt_of_block LO)).trans LO) h0
   (fun pre x hx=>hJ pre x x.drew none hx ⟨rfl,rfl,rfl,Nat.le_refl _,fun _ _ _=>rfl⟩ (fun r e=>by cases e))
theorem ey {W W':World} {row:Option Nat} (hg:W.grownBy W' row) (hr:∀ r,row=some r→∃ o:Obj,W.heap[r]?=some o∧o.isCells=false) {k:Nat} {A:Array Value} {t:TypeId} {fr:Nat × Nat} (h:W.heap[k]?=some (.cells A t fr)):W'.heap[k]?=some (.cells A t fr) :=
 (grownBy_keeps_cells hg hr h rfl).trans h
theorem mZ {W W':World} {row:Option Nat} (hg:W.grownBy W' row) (hr:∀ r,row=some r→∃ o:Obj,W.heap[r]?=some o∧o.isCells=false) {B n s:Nat} {v:Value} {xs:List Value} {e:TypeId} (h:W.ownsRow B e s v n xs):W'.ownsRow B e s v n xs:=by
 refine ⟨h.1,?_⟩;rcases h.2 with h' | ⟨g',cap,cur,hv,q0,q1,q2⟩
 ·exact Or.inl h'
 ·exact Or.inr ⟨g',cap,cur,hv,q0,ey hg hr q1,q2⟩
theorem fx.kept {W W':World} {row:Option Nat} (hg:W.grownBy W' row) (hr:∀ r,row=some r→∃ o:Obj,W.heap[r]?=some o∧o.isCells=false) {c:Nat} {T ks:List Int} (h:fx W c T ks):fx W' c T ks:=by
 obtain ⟨kb,n,cap,base,hc,hlen,Ap⟩:=h;exact ⟨kb,n,cap,base,ey hg hr hc,hlen,mZ hg hr Ap⟩
theorem fh.kept {W W':World} {row:Option Nat} (hg:W.grownBy W' row) (hr:∀ r,row=some r→∃ o:Obj,W.heap[r]?=some o∧o.isCells=false) {gb gi gc c:Nat} {ks:List Int} {e n:Int} {i:Nat} (h:fh W gb gi gc c ks e n i):fh W' gb gi gc c ks e n i:=by
 obtain ⟨z,hz⟩:=h.nv;exact ⟨⟨z,ey hg hr hz⟩,ey hg hr h.ctr,ey hg hr h.box,h.cip.kept hg hr,h.ne⟩
theorem py {a b:Nat} {w w':World} (h:ef a b w w') (ha:∃ A t f,w.heap[a]?=some (.cells A t f)) (hb:∃ A t f,w.heap[b]?=some (.cells A t f)):KeepsOthers w w' :=
 ⟨h.size,fun k o hk ho=>by
  obtain ⟨A,t,f,ha⟩:=ha;obtain ⟨A',t',f',hb⟩:=hb;refine (h.block k (lt_of_block hk) (fun e=>?_) (fun e=>?_)).trans hk
  ·subst e;rw [ha] at hk;cases hk;cases ho
  ·subst e;rw [hb] at hk;cases hk;cases ho⟩
theorem vy {g:Nat} {w w':World} (h:bJ g w w') (hg:∃ A t f,w.heap[g]?=some (.cells A t f)):KeepsOthers w w' :=
 ⟨by rw [h.size];exact Nat.le_refl _,fun k o hk ho=>by
  obtain ⟨A,t,f,hg⟩:=hg;refine (h.block k (fun e=>?_)).trans hk;subst e;rw [hg] at hk;cases hk;cases ho⟩
theorem ym {w w':World} {B n a b:Nat} {v:Value} {xs:List Value} {A A':Array Value} {ta tb:TypeId} {fa fb:Nat × Nat} (h:w.ownsRow B 5 1 v n xs) (ho:ef a b w w') (ha:w.heap[a]?=some (.cells A ta fa)) (TM:ta ≠ 5) (hb:w.heap[b]?=some (.cells A' tb fb)) (J8:tb ≠ 5):w'.ownsRow B 5 1 v n xs:=by
 refine ⟨h.1,?_⟩;rcases h.2 with h' | ⟨g',cap,cur,hv,q0,q1,q2⟩
 ·exact Or.inl h'
 ·refine Or.inr ⟨g',cap,cur,hv,q0,(ho.block _ (lt_of_block q1) (fun e=>?_) (fun e=>?_)).trans q1,q2⟩
  ·subst e;rw [ha] at q1;simp only [Option.some.injEq,Obj.cells.injEq] at q1;exact TM q1.2.1
  ·subst e;rw [hb] at q1;simp only [Option.some.injEq,Obj.cells.injEq] at q1;exact J8 q1.2.1
theorem fh.only {w x:World} {g gb gi gc c:Nat} {ks:List Int} {e n:Int} {i:Nat} {A:Array Value} {fr:Nat × Nat} (h:fh w gb gi gc c ks e n i) (hg:w.heap[g]?=some (.cells A 5 fr)) (ho:aE g w x):fh x gb gi gc c ks e n i:=by
 obtain ⟨z,hz⟩:=h.nv;have ne:∀ (k:Nat) (A':Array Value) (t:TypeId) (f:Nat × Nat),w.heap[k]?=some (.cells A' t f)→t ≠ 5→k ≠ g:=fun k A' t f hk ht e=>by
  subst e;rw [hk] at hg;simp only [Option.some.injEq,Obj.cells.injEq] at hg;exact ht hg.2.1
 exact ⟨⟨z,(ho.block _ (lt_of_block hz) (ne _ _ _ _ hz (by decide))).trans hz⟩,(ho.block _ (lt_of_block h.ctr) (ne _ _ _ _ h.ctr (by decide))).trans h.ctr,(ho.block _ (lt_of_block h.box) (ne _ _ _ _ h.box (by decide))).trans h.box,h.cip.only hg ho,h.ne⟩
theorem rC {g:Nat} {w w':World} (h:aE g w w') (hg:∃ A t f,w.heap[g]?=some (.cells A t f)):KeepsOthers w w' :=
 ⟨h.size,fun k o hk ho=>by
  obtain ⟨A,t,f,hg⟩:=hg;refine (h.block k (lt_of_block hk) (fun e=>?_)).trans hk;subst e;rw [hg] at hk;cases hk;cases ho⟩
theorem qQ {F:Fence} {n:Nat} {P:Program} {ops:Array Oper} {rest:List Oper} {a:Act} {w:World} {Q:Exit→Act→World→Prop} {T:TypeId} {ps:String} {af:Array Edge} (ty:TypeId) (x y:Operand) (g:Nat) (t:TypeId) (av cells:Array Value) (hx:a.eval x = qp g) (hy:a.eval y = .agg cells) (hg:w.heap[g]?=some (.cells av t (0,0)))
  (hi:(P.info? ty).map (·.size)=some cells.size) (hs:cells.size=av.size) (h1:cells.all (·.oneCell')=true)
  (h:∀ w',Hid (w'.heap[g]?=some (.cells cells t (0,0)))→bJ g w w'→wpListIn F n P ops Q rest a w') :
  wpListIn F n P ops Q ({ dst:=none,op:=.store ty x y,type:=T,pos:=ps,after:=af,guard:=none } :: rest) a w :=
 wpListIn_plain rfl fun _ hK=>by
  have DO:=run_storeCells_at P g 0 t cells.toList 0 av w hg (by simp;omega) (fun v hv=>(Array.all_eq_true_iff_forall_mem.1 h1) v (by simpa using hv));have Pu:(storeVar ty ⟨g,0,none⟩ (.agg cells)).run P w = .ok () (w.setRow g (av.toList.take 0++cells.toList++av.toList.drop (0+cells.size)).toArray):=by
   cases hq:P.info? ty with
   | none=>simp [hq] at hi
   | some i =>
    have hs:cells.size=i.size:=by simp [hq] at hi;omega
    simp only [Nat.add_zero,Array.length_toList] at DO;simp [storeVar,sizeOf,typeInfo,hq,Value.cells,hs] at DO ⊢;rw [DO]
  have he:(av.toList.take 0++cells.toList++av.toList.drop (0+cells.size)).toArray=cells:=by
   rw [hs];apply Array.ext'
   simp
  unfold Oper.wpIn;refine ⟨fun f hf=>by simp [Oper.about] at hf,?_⟩;rw [Oper.semAt_plain F _ _ (by intro c hc;cases hc)];unfold execOp;simp only [hx,hy,Instr.storeAt,Instr.sureAddr,Sem.run_bind,Sem.run_pure,Result.andThen_ok,Pu];refine hK _ _ (h _ ?_ (bJ.setRow w g _));show _=_;rw [he];exact setRow_heap w g av cells t (0,0) hg
theorem tv {w:World} {B n s:Nat} {v:Value} {e:TypeId} {xs:List Value} (h:w.ownsRow B e s v n xs):∃ (p:Option Addr) (g c:Nat),v = .slice p n c∧(0<n→p=some ⟨g,0,none⟩)∧n≤c∧c≤9223372036854775807:=by
 rcases h.2 with ⟨rfl,rfl⟩ | ⟨g,cap,cur,rfl,_,_,h1,h2,_⟩
 ·exact ⟨none,0,0,rfl,fun h0=>by omega,Nat.le_refl _,by omega⟩
 ·exact ⟨_,g,cap,rfl,fun _=>rfl,h1,by unfold maxLen at h2;omega⟩
def XI (w0:World) (gn gb gi gc c:Nat) (ks:List Int) (S:Nat→List Int) (e n:Int) (L:List Int) (v FV:Value) (pre:List Nat) (W:World):Prop :=
 fh W gb gi gc c ks e n pre.length∧W.heap[gn]?=some (.cells #[FV] 254 (0,0))∧W.ownsRow w0.heap.size 5 1 v L.length (aC (bg.st S L pre).1)∧qw w0 W∧gn+1+1<W.heap.size
theorem acG {w0:World} {gn gb gi gc c:Nat} {ks:List Int} {S:Nat→List Int} {e n:Int} {L:List Int} {v FV:Value} {B:Nat} (hB:w0.heap.size≤B):OwnFrom B (XI w0 gn gb gi gc c ks S e n L v FV):=fun pre A A' row hs hg hr=>by
 obtain ⟨h1,h2,h3,h4,h5⟩:=hs;have KE:=fun r e=>(hr r e).2;exact ⟨h1.kept hg KE,ey hg KE h2,mZ hg KE h3,h4.grown hg h4.size (fun k e=>Nat.le_trans hB (hr k e).1),Nat.lt_of_lt_of_le h5 hg.size⟩
theorem acW (l:List Int) (i:Nat) (x:Int):aC (l.set i x)=(aC l).set i (.int .u8 x):=by unfold aC;rw [List.map_set]
def ahk (L X:List Int) (w:World) (r:Ending) (w':World):Prop :=
 ∃ v,r = .returned v∧w'.ownsRow w.heap.size 5 1 v L.length (aC X)∧qw w w'
theorem acY (c:Nat) (ks:List Int) (N:Nat) (e n:Int) (L:List Int) (p:Option Addr) (cap:Nat) (hL:L.length≤1000000000) (Fi:p=none→L = []∧cap=0) (hn:ks.length=4*(N+2)) (hN:N≤100) (w:World) (hp:cX w p L) (hC:fx w c ag.TB ks) :
  qc 221 #[qp c,.int .i64 e,.int .i64 n,.slice p L.length cap] w (ahk L (bg.xs (bg.eV ks N (e % 18446744073709551616) (n % 18446744073709551616)) L) w):=by
 have Hp:=qh hp;clear hp;have Hp0:=qh Fi;clear Fi;have HC:=qh hC;clear hC;have FU:=qh (And.intro hn hN);clear hn hN;refine (callsIn_wide (n:=3)).1 ?_;refine callsIn_of_wp_marks func221 rfl trivial ?_ rfl;simp only [ntmps221,List.size_toArray,List.length_cons,List.length_nil,Nat.reduceAdd,Nat.reduceSub,Array.replicate_succ,Array.replicate_zero,List.push_toArray,List.append_toArray,List.nil_append,List.cons_append]
 gi_wp2_with (first
  | (refine ⟨trivial,?_⟩;gi_at_call 50;refine (callsIn_wide.2 (yh L p cap hL Hp0.out _ Hp.out)).mono ?_;rintro r w1 ⟨v,rfl,Cz,Ag⟩;obtain ⟨pv,g,cv,rfl,QT,LS,LU⟩:=tv Cz;have Lk:=qh (And.intro QT (And.intro LS LU));have Ax:=qh Cz;have Ai:=qh Ag;clear Cz Ag QT LS LU)
  | (refine ⟨trivial,?_⟩;gi_at_call 224;refine (callsIn_wide.2 (tZ c ks e n _ (HC.out.below Ai.out qn))).mono ?_;rintro r w2 ⟨gb,gi,gc,rfl,QF,QG,Ta,Ex,Al⟩;have Ar:=qh Ex;have Aj:Hid (qw w w2):=Ai.out.trans (Al.mono Ai.out.size);have AA:Hid (w2.ownsRow w.heap.size 5 1 (.slice pv L.length cv) L.length (aC L)):=aN Ax.out Al;clear Ex Al Ax)
  | (refine ⟨trivial,?_⟩;gi_at_call 225;refine (callsIn_wide.2 (y7 _ _ _ _)).mono ?_;rintro r w4 ⟨rfl,rfl⟩))
 obtain ⟨FV,Ov⟩:∃ FV,FV=Value.func (.func 227) #[] #[qp gb,qp gi,qp gc]:=⟨_,rfl⟩;rw [← Ov];have RI:Hid ((((w2.alloc (.cells #[FV] 254)).alloc (.cells #[.slice pv L.length cv] 22)).alloc (.cells #[.int .i64 16] 3)).heap[w2.heap.size]?=some (.cells #[FV] 254 (0,0))):=lh w2 _ _ _;have Bl:Hid ((((w2.alloc (.cells #[FV] 254)).alloc (.cells #[.slice pv L.length cv] 22)).alloc (.cells #[.int .i64 16] 3)).heap[w2.heap.size+1]?=some (.cells #[.slice pv L.length cv] 22 (0,0))):=jX w2 _ _ _;have GF:Hid ((((w2.alloc (.cells #[FV] 254)).alloc (.cells #[.slice pv L.length cv] 22)).alloc (.cells #[.int .i64 16] 3)).heap[w2.heap.size+2]?=some (.cells #[.int .i64 16] 3 (0,0))):=iD w2 _ _ _;have Ao:Hid (qw w2 (((w2.alloc (.cells #[FV] 254)).alloc (.cells #[.slice pv L.length cv] 22)).alloc (.cells #[.int .i64 16] 3))):=((qb w2 _).alloc (by simp) _).alloc (by simp;omega) _;have HSl:=qh (Ar.out.aG Ao.out);have HOl:=qh (aN AA.out Ao.out);have HBl:Hid (qw w (((w2.alloc (.cells #[FV] 254)).alloc (.cells #[.slice pv L.length cv] 22)).alloc (.cells #[.int .i64 16] 3))):=Aj.out.trans (Ao.out.mono Aj.out.size);have DR:Hid (gb<w2.heap.size∧gi<w2.heap.size∧gc<w2.heap.size∧w.heap.size≤gb∧w.heap.size≤gi):=⟨lt_of_block Ar.out.nv.choose_spec,lt_of_block Ar.out.ctr,lt_of_block Ar.out.box,Nat.le_trans Ai.out.size QF,Nat.le_trans Ai.out.size QG⟩;have RN:Hid (∀ j,w2.heap.size≤j→j≤w2.heap.size+1+1→Value.ownBlock (.slice pv L.length cv) ≠ some j):=fun j h1 _ e=>by have:=(AA.out.lt j e).2;omega
 have RK:=qh Ov;clear Ov Ar AA Aj Ao Ai QF QG Ta HC Hp Hp0;generalize ((w2.alloc (.cells #[FV] 254)).alloc (.cells #[.slice pv L.length cv] 22)).alloc (.cells #[.int .i64 16] 3)=wl at *;generalize w2.heap.size=gn at *;have Ni:0≤e % 18446744073709551616:=by omega
 generalize e % 18446744073709551616=e2 at *;generalize n % 18446744073709551616=n2 at *;refine wpIn_rangeFunc_ownG (F:=Fence.wide) (n:=3) rfl (by omega) (gf:=229) (lb:=#[.pointer (some ⟨gn+1,0,none⟩),.pointer (some ⟨gn+1+1,0,none⟩)]) rfl trivial (enters_of func229 (by kernel_rfl) rfl)
  (qT (gn+1) (gn+1+1) g L.length cv pv Lk.out.1 hL Lk.out.2.1 Lk.out.2.2 wl Bl.out GF.out)
  (fun h k=>⟨k.1.trans h.1,k.2.trans h.2⟩)
  (fun W l o o' hl ho hc _=>⟨World.putObj_heap_other (by have:=lt_of_block Bl.out;omega),World.putObj_heap_other (by have:=lt_of_block GF.out;omega)⟩) (Below.refl _ _) (fun _=>rfl)
  (XI w gn gb gi gc c ks (bg.eV ks N e2 n2) e2 n2 L (.slice pv L.length cv) FV) (fun _ _ _=>False) (acG (HBl.out.size)) (fun _ _ _ _ _ hs _ _=>hs)
  ⟨HSl.out,RI.out,by rw [bg.abY];exact HOl.out,HBl.out,lt_of_block GF.out⟩
  (fun x=>{ tmps:=#[qp c,.int .i64 e,.int .i64 n,.slice p L.length cap,undef,undef,undef,undef,.slice none 0 0,.slice pv L.length cv,qp gn,.slice (some ⟨g,16*x,none⟩) (min 16 (L.length-16*x)) (min 16 (L.length-16*x)),undef,undef,.slice p L.length cap,.slice pv L.length cv,qp c,.int .i64 e,.int .i64 n,FV,.slice pv L.length cv,.func (.func 229) #[] #[.pointer (some ⟨gn+1,0,none⟩),.pointer (some ⟨gn+1+1,0,none⟩)],.slice (some ⟨g,16*x,none⟩) (min 16 (L.length-16*x)) (min 16 (L.length-16*x)),undef,undef,undef,undef,undef,undef,undef,undef,undef,undef,undef,undef,undef,undef,undef,undef,undef,undef],defers:=[] }) ?assign ?body ?done ?stop
 case assign =>
  intro l x W K hK;unfold bg.ads
  gi_wp2
  exact hK
 case body =>
  rintro l pre x W ⟨hS,hF,hO,hB,hG⟩ hlen;have HS:=qh hS;have HF:=qh hF;have HO:=qh hO;have HB:=qh hB;have HG:=qh hG;clear hS hF hO hB hG;obtain ⟨m,hm⟩:∃ m,m=min 16 (L.length-16*x):=⟨_,rfl⟩;rw [← hm];have Pa:m≤16:=by omega
  have hmL:0<m→16*x+m≤L.length:=by omega
  have Ad:Hid ((bg.st (bg.eV ks N e2 n2) L (pre++[x])).1=bg.xr (bg.st (bg.eV ks N e2 n2) L pre).1 (bg.eV ks N e2 n2 pre.length) (16*x) m):=by
   show _=_;rw [bg.xE,bg.step,bg.zH,hm]
  have Po:pre.length<4294967296:=by unfold bg.xe at hlen;omega
  have FP:Hid ((bg.st (bg.eV ks N e2 n2) L pre).1.length=L.length):=bg.pZ _ _ _;generalize (bg.st (bg.eV ks N e2 n2) L pre).1=L1 at *;have HM:=qh hm;clear hm;have Sb:=qh hlen;clear hlen;have cF:W.cell? ⟨gn,0,none⟩=some FV:=by rw [cell_of_row W gn 0 _ _ _ HF.out];rfl
  rw [RK.out] at cF;obtain ⟨X,CQ,Cm,Eb⟩:∃ X:Array Value,Hid (X=((bg.eV ks N e2 n2 pre.length).map (Value.int .u8)).toArray)∧Hid (X.size=16)∧Hid (X.all (·.oneCell')=true):=⟨_,rfl,by show _=_;simp [jH],fe _⟩;have Ko:Hid (qc 227 #[qp gb,qp gi,qp gc] W fun r w'=>r = .returned (.agg X)∧fh w' gb gi gc c ks e2 n2 (pre.length+1)∧ef gb gi W w'):=by
   have h:=acb gb gi gc c ks N e2 n2 pre.length FU.out.1 FU.out.2 Po W HS.out;unfold vQ Bk at h;rw [← CQ.out] at h;exact h
  gi_wp2_with (first
   | (refine ⟨trivial,?_⟩;gi_at_call 227;refine (CallsIn.inRound l (callsIn_wide.2 Ko.out)).mono ?_;rintro r W1 ⟨rfl,CN,Cz⟩;have AM:=qh CN;have Ax:=qh Cz;clear CN Cz;have Cn:Hid ((W1.alloc (.cells qz 221)).heap[W1.heap.size]?=some (.cells qz 221 (0,0))):=heap_alloc_new _ _)
   | ((with_reducible refine qQ _ _ _ _ _ _ _ ?_ ?_ Cn.out (ae Tryz.cE Cm) ?_ Eb.out ?_);(exact rfl);(exact rfl);(rw [Cm.out];rfl);intro W2 G2 BB))
  obtain ⟨z0,hz0⟩:=HS.out.nv;have EZ:=qh (ym HO.out Ax.out hz0 (by decide) HS.out.ctr (by decide));have Ai:Hid (qw w W1):=Ax.out.below HB.out DR.out.2.2.2.1 DR.out.2.2.2.2 HB.out.size;have Hx:Hid (W1.heap[gn]?=some (.cells #[FV] 254 (0,0))):=(Ax.out.block _ (lt_of_block HF.out) (by have:=DR.out;omega) (by have:=DR.out;omega)).trans HF.out;have D8:Hid (KeepsOthers W W1):=py Ax.out ⟨_,_,_,hz0⟩ ⟨_,_,_,HS.out.ctr⟩;have Lj:Hid (W1.heap[gn+1]?=W.heap[gn+1]?∧W1.heap[gn+1+1]?=W.heap[gn+1+1]?):=⟨Ax.out.block _ (by have:=HG.out;omega) (by have:=DR.out;omega) (by have:=DR.out;omega),Ax.out.block _ HG.out (by have:=DR.out;omega) (by have:=DR.out;omega)⟩;have Cw:Hid (gn+1+1<W1.heap.size):=Nat.lt_of_lt_of_le HG.out Ax.out.size;have DQ:Hid (qw W1 W2):=BB.below (qb W1 _) qn;have A9:Hid (KeepsOthers W W2):=D8.out.trans ((KeepsOthers.alloc W1 _).trans (vy BB ⟨_,_,_,Cn.out⟩));have Ar:=qh (AM.out.aG DQ.out);have AA:=qh (aN EZ.out DQ.out);have NR:Hid (W2.heap[gn]?=some (.cells #[FV] 254 (0,0))):=(DQ.out.block _ (lt_of_block Hx.out)).trans Hx.out;have Aj:Hid (qw w W2):=Ai.out.trans (DQ.out.mono Ai.out.size);have N8:Hid (W2.heap[gn+1]?=W.heap[gn+1]?∧W2.heap[gn+1+1]?=W.heap[gn+1+1]?):=⟨(DQ.out.block _ (by have:=Cw.out;omega)).trans Lj.out.1,(DQ.out.block _ Cw.out).trans Lj.out.2⟩;have A8:Hid (gn+1+1<W2.heap.size):=Nat.lt_of_lt_of_le Cw.out DQ.out.size;have RQ:Hid (∀ j,j<16→W2.cell? ⟨W1.heap.size,j,none⟩=some (.int .u8 ((bg.eV ks N e2 n2 pre.length).getD j 0))):=fun j hj=>by
   have h:=G2.out;rw [CQ.out] at h;exact cJ h j (by rw [jH];exact hj)
  have Ea:Hid (∀ k,Value.ownBlock (.slice pv L.length cv)=some k→k<W1.heap.size):=fun k hk=>(EZ.out.lt k hk).2;clear HS HF HO HB HG AM Ax EZ Ai Hx D8 Lj Cw DQ Cn BB G2 Ko CQ Cm Eb cF hz0;generalize W1.heap.size=gx at *
  gi_loopw [27] (fun v27 wr=>∃ k:Nat,k≤m∧v27 = .int .i64 k∧Hid (wr.ownsRow w.heap.size 5 1 (.slice pv L.length cv) L.length (aC (bg.xr L1 (bg.eV ks N e2 n2 pre.length) (16*x) k)))∧Hid (aE g W2 wr)∧Hid (m=0→wr=W2)) (fun v27 _=>m-(intOf v27).toNat)
  case atStart=>exact ⟨0,Nat.zero_le _,rfl,by rw [bg.xr];exact AA.out,aE.refl _ _,fun _=>rfl⟩
  case round =>
   obtain ⟨k,hk,rfl,HO,HC,P5⟩:=hrel;by_cases Ae:k<m
   ·have AF:=hmL (by omega);obtain rfl:=Lk.out.1 (by omega);have Un:g<gx:=Ea.out g rfl;have c0:=dc HO.out (16*x+k) (by omega);have f0:=HO.out.frozenAt (16*x+k);have c1:=HC.out.cell (by omega) (RQ.out k (by omega));have CC:Hid (bg.xr L1 (bg.eV ks N e2 n2 pre.length) (16*x) (k+1)=(bg.xr L1 (bg.eV ks N e2 n2 pre.length) (16*x) k).set (16*x+k) (bits .xor .u8 ((bg.xr L1 (bg.eV ks N e2 n2 pre.length) (16*x) k).getD (16*x+k) 0) ((bg.eV ks N e2 n2 pre.length).getD k 0))):=by
     show _=_;rw [bg.xr]
    generalize (bg.eV ks N e2 n2 pre.length).getD k 0=y1 at *;generalize (bg.xr L1 (bg.eV ks N e2 n2 pre.length) (16*x) k).getD (16*x+k) 0=y0 at *;have GP:(0:Int)≤(k:Int):=by omega
    have Ec:(k:Int)<(m:Int):=by omega
    have Ed:(k:Int)<16:=by omega
    have Uo:k<16:=by omega
    gi_wp2
    refine wpIn_region_any (by kernel_rfl) ?_;change wpAnyIn _ _ _ _ _ _ _ _ _ (World.drew _);have HSd:Hid (wr.drew.cell? ⟨g,16*x+k,none⟩=some (.int .u8 y0)∧wr.drew.cell? ⟨gx,k,none⟩=some (.int .u8 y1)∧wr.drew.frozen? ⟨g,16*x+k,none⟩=false):=⟨c0,c1,f0⟩;have HOd:Hid (wr.drew.ownsRow w.heap.size 5 1 (.slice (some ⟨g,0,none⟩) L.length cv) L.length (aC (bg.xr L1 (bg.eV ks N e2 n2 pre.length) (16*x) k))):=HO.out.drew;have HCd:Hid (aE g W2 wr.drew):=HC.out.drew;clear c0 c1 f0 HO HC P5;generalize wr.drew=wd at *;refine oW (S:=fun z:World=>z.cell? ⟨g,16*x+k,none⟩=some (.int .u8 y0)∧z.cell? ⟨gx,k,none⟩=some (.int .u8 y1)∧z.frozen? ⟨g,16*x+k,none⟩=false) (k:=9) (by kernel_rfl) _ _ _ _ ?_;refine dh (by kernel_rfl) 9 0 30 (.slice (some ⟨g,16*x,none⟩) m m) HSd.out rfl (by kernel_rfl) (by kernel_rfl) (by kernel_rfl) (by intro z hz;obtain ⟨s0,s1,s2⟩:=hz;go_simp;try (intro h;omega)) ?_;try simp only [Act.put,aQ,aR,aO]
    refine dh (by kernel_rfl) 9 1 31 (.int .i64 (k:Int)) HSd.out rfl (by kernel_rfl) (by kernel_rfl) (by kernel_rfl) (by intro z hz;obtain ⟨s0,s1,s2⟩:=hz;go_simp;try (intro h;omega)) ?_;try simp only [Act.put,aQ,aR,aO]
    refine dh (by kernel_rfl) 9 2 32 (.pointer (some ⟨g,16*x+k,none⟩)) HSd.out rfl (by kernel_rfl) (by kernel_rfl) (by kernel_rfl) (by intro z hz;obtain ⟨s0,s1,s2⟩:=hz;go_simp;try (intro h;omega)) ?_;try simp only [Act.put,aQ,aR,aO]
    refine dh (by kernel_rfl) 9 3 33 (.int .u8 y0) HSd.out rfl (by kernel_rfl) (by kernel_rfl) (by kernel_rfl) (by intro z hz;obtain ⟨s0,s1,s2⟩:=hz;go_simp;try (intro h;omega)) ?_;try simp only [Act.put,aQ,aR,aO]
    refine dh (by kernel_rfl) 9 4 34 (.int .i64 (k:Int)) HSd.out rfl (by kernel_rfl) (by kernel_rfl) (by kernel_rfl) (by intro z hz;obtain ⟨s0,s1,s2⟩:=hz;go_simp;try (intro h;omega)) ?_;try simp only [Act.put,aQ,aR,aO]
    refine dh (by kernel_rfl) 9 5 35 (.pointer (some ⟨gx,k,none⟩)) HSd.out rfl (by kernel_rfl) (by kernel_rfl) (by kernel_rfl) (by intro z hz;obtain ⟨s0,s1,s2⟩:=hz;go_simp;try (intro h;omega)) ?_;try simp only [Act.put,aQ,aR,aO]
    refine dh (by kernel_rfl) 9 6 36 (.int .u8 y1) HSd.out rfl (by kernel_rfl) (by kernel_rfl) (by kernel_rfl) (by intro z hz;obtain ⟨s0,s1,s2⟩:=hz;go_simp;try (intro h;omega)) ?_;try simp only [Act.put,aQ,aR,aO]
    refine dh (by kernel_rfl) 9 7 37 (.int .u8 (bits .xor .u8 y0 y1)) HSd.out rfl (by kernel_rfl) (by kernel_rfl) (by kernel_rfl) (by intro z hz;obtain ⟨s0,s1,s2⟩:=hz;go_simp;try (intro h;omega)) ?_;try simp only [Act.put,aQ,aR,aO]
    refine dh (by kernel_rfl) 9 8 38 (.pointer (some ⟨g,16*x+k,none⟩)) HSd.out rfl (by kernel_rfl) (by kernel_rfl) (by kernel_rfl) (by intro z hz;obtain ⟨s0,s1,s2⟩:=hz;go_simp;try (intro h;omega)) ?_;try simp only [Act.put,aQ,aR,aO]
    obtain ⟨s0,s1,s2⟩:=HSd.out;refine zi 9 9 rfl (by kernel_rfl) ?_;refine yQ (w':=wd.setCell ⟨g,16*x+k,none⟩ (.int .u8 (bits .xor .u8 y0 y1))) (by go_simp) ⟨fun h=>absurd rfl h,?_⟩;try simp only [Act.put]
    refine xI (by kernel_rfl) ?_ _;have Cg:Hid ((wd.setCell ⟨g,16*x+k,none⟩ (.int .u8 (bits .xor .u8 y0 y1))).ownsRow w.heap.size 5 1 (.slice (some ⟨g,0,none⟩) L.length cv) L.length (aC (bg.xr L1 (bg.eV ks N e2 n2 pre.length) (16*x) (k+1)))):=by
     have h:=(HOd.out.stored (16*x+k) (.int .u8 (bits .xor .u8 y0 y1))).1;rw [CC.out,acW];exact h
    have KR:Hid (aE g W2 (wd.setCell ⟨g,16*x+k,none⟩ (.int .u8 (bits .xor .u8 y0 y1)))):=HCd.out.trans (bJ.setCell wd ⟨g,16*x+k,none⟩ _).only;clear s0 s1 s2 HSd HOd HCd CC;generalize wd.setCell ⟨g,16*x+k,none⟩ (.int .u8 (bits .xor .u8 y0 y1))=w5 at *
    gi_wp2
    go_roundw
    case rel=>exact ⟨k+1,by omega,by go_num,Cg.out,KR.out,fun h=>by omega⟩
    case measure=>simp [intOf];omega
   ·obtain rfl:k=m:=by omega
    have Bc:(k:Int)≤(k:Int):=Int.le_refl _
    gi_wp2
    have Jb:(pre++[x]).length=pre.length+1:=by simp
    by_cases h0:k=0
    ·obtain rfl:=P5.out h0;refine ⟨A9.out.from _,N8.out,?_,NR.out,?_,Aj.out,A8.out⟩
     ·rw [Jb];exact Ar.out
     ·rw [Ad.out];exact HO.out
    ·obtain rfl:=Lk.out.1 (by have:=hmL (by omega);omega);obtain ⟨A,hA⟩:∃ A,W2.heap[g]?=some (.cells A 5 (0,0)):=by
      rcases AA.out.2 with ⟨h',_⟩ | ⟨g',AO,cur',hv,_,EJ,_⟩
      ·cases h'
      ·simp only [Value.slice.injEq,Option.some.injEq,Addr.mk.injEq,and_true,true_and] at hv;obtain ⟨rfl,rfl⟩:=hv;exact ⟨_,EJ⟩
     have EK:=AA.out.lt g rfl;have OS:∀ j,gn≤j→j≤gn+1+1→j ≠ g:=fun j h1 h2 e=>RN.out j h1 h2 (by rw [e];rfl);have hc:=HC.out;refine ⟨(A9.out.trans (rC hc ⟨_,_,_,hA⟩)).from _,⟨(hc.block _ (by have:=A8.out;omega) (OS _ (by omega) (by omega))).trans N8.out.1,(hc.block _ A8.out (OS _ (by omega) (by omega))).trans N8.out.2⟩,?_,(hc.block _ (lt_of_block NR.out) (OS _ (by omega) (by omega))).trans NR.out,?_,hc.below Aj.out EK.1 Aj.out.size,Nat.lt_of_lt_of_le A8.out hc.size⟩
     ·rw [Jb];exact Ar.out.only hA hc
     ·rw [Ad.out];exact HO.out
 case done =>
  rintro D ys W hD rfl ⟨hS,hF,hO,hB,_⟩ hK
  gi_wp2
  refine ⟨by simp,.inl ⟨_,_,rfl,run_takeDeferred hK,?_⟩⟩;refine ⟨_,results_tmp rfl _ _ _,_,rfl,?_,?_⟩
  ·rw [← bg.ahl];exact mZ (grownBy_putObj' W D _) (fun r e=>by cases e;exact ⟨_,hK,rfl⟩) hO
  ·exact hB.grown (grownBy_putObj' W D _) hB.size (fun k e=>by cases e;exact Nat.le_trans HBl.out.size hD)
 case stop =>
  rintro D c pre W _ _ h _;exact h.elim
end
end Go.Proofs.YthgjfjmampmiiaaGreatDoor

/-
  SeI, SeJ (merged)
-/
import Derived.Test.YthgjfjmampmiiaaGreatDoorSe2
namespace Go.Proofs.YthgjfjmampmiiaaGreatDoor
open Go.Proofs.Tryz
set_option maxHeartbeats 4000000
set_option maxRecDepth 100000
section
open Go.RowKit
theorem dL {K:List Int} {e n:Int} {X:List Int} {w x w':World} {q:Option Addr} {cq k:Nat} (hX:X.length=k) (hb:qw w x) (h:fI X (an.ct K e n X) x q cq w'):bC (some (an.ct K e n X)) w (.returned (.tuple #[.slice q k cq,.bool true])) w':=by
 subst hX;refine ⟨q,cq,X.length,rfl,an.m9 _ _ _ _,?_,ug h,hb.trans (h.below.mono hb.size)⟩;show World.ownsRow _ _ _ _ _ _ _;have ho:=h.own;refine ⟨ho.1,?_⟩;rcases ho.2 with h1 | ⟨g,cap,cur,h1,h2,h3⟩
 ·exact Or.inl h1
 ·exact Or.inr ⟨g,cap,cur,h1,Nat.le_trans hb.size h2,h3⟩
theorem xH (hT:aV) (K h S:List Int) (g:Nat) (e n:Int) (ph:Option Addr) (ab ao nh nS ch cS k:Nat) (BL:h.length=nh) (hnS:S.length=nS) (hk:nS=k+32) (he:bj e=true) (hn:bj n=true)
  (w:World) (hg:dX w g K) (hh:Bs w ph ch h) (hS:Bs w (some ⟨ab,ao,none⟩) cS S) (hs:nh+nS≤200000) (ht:cT w 0) :
  qc 215 #[qp g,.int .i64 e,.int .i64 n,.slice ph nh ch,.slice (some ⟨ab,ao,none⟩) nS cS] w (bC (an.op K e n h S) w):=by
 subst BL;obtain ⟨c,I4,DI⟩:=hg;have HT:=qh hT;clear hT;have Ht:=qh ht;clear ht;have Cw:=qh I4;clear I4;have A8:=qh DI;clear DI;have Hh:=qh hh;clear hh;have Dc:=qh hS;clear hS;have Hs:=qh hs;clear hs;have HnS:=qh hnS;clear hnS;have DW:0≤e∧e≤1099511627776:=by unfold bj at he;simpa using he
 have C0:0≤n∧n≤1099511627776:=by unfold bj at hn;simpa using hn
 have HE:Hid (∀ x,qc 218 #[.int .i64 e] x fun r x'=>r = .returned (.bool true)∧x=x'):=fun x=>by have h:=dE e x;rw [he] at h;exact h.mono fun _ _ q=>⟨q.1,q.2.symm⟩
 have HN:Hid (∀ x,qc 218 #[.int .i64 n] x fun r x'=>r = .returned (.bool true)∧x=x'):=fun x=>by have h:=dE n x;rw [hn] at h;exact h.mono fun _ _ q=>⟨q.1,q.2.symm⟩
 obtain ⟨X,HX⟩:∃ X,Hid (X=S.take k):=⟨_,rfl⟩;have Bx:Hid (X.length=k):=by show _=_;rw [HX.out,List.length_take];have:=HnS.out;omega
 obtain ⟨G,EU⟩:∃ G,Hid (G=S.drop k):=⟨_,rfl⟩;have Bo:Hid (G.length=32):=by show _=_;rw [EU.out,List.length_drop];have:=HnS.out;omega
 have Kk:Hid (ai.aY G):=by show ai.aY G;rw [EU.out];exact fun x hx=>Dc.out.tf x (List.mem_of_mem_drop hx)
 have JO:Hid (ai.aY X):=by show ai.aY X;rw [HX.out];exact fun x hx=>Dc.out.tf x (List.mem_of_mem_take hx)
 have Ez:Hid (Bs w (some ⟨ab,ao,none⟩) cS X):=⟨by rw [HX.out];exact Dc.out.bat.take k,⟨by have:=Dc.out.cap;have:=Bx.out;have:=HnS.out;omega,Dc.out.cap.2⟩,fun h=>by cases h⟩;have CC:Hid (∀ x,qw w x→qc 221 #[qp c,.int .i64 e,.int .i64 n,.slice (some ⟨ab,ao,none⟩) k cS] x fun r x'=>∃ q cq,r = .returned (.slice q k cq)∧Hid (fI X (an.ct K e n X) x q cq x')):=fun x hx=>by
  unfold an.ct;exact vJ (an.abx K) (by omega) c e n X k Bx.out (some ⟨ab,ao,none⟩) cS (by have:=Hs.out;omega) (fun h=>by cases h) x (Ez.out.av hx).bat (A8.out.below hx qn)
 obtain ⟨T,DF⟩:∃ T,Hid (T=an.tg K e n h X):=⟨_,rfl⟩;have Bq:Hid (T.length=32):=by show _=_;rw [DF.out,an.dq]
 have Dn:Hid (ai.aY T):=by show ai.aY T;rw [DF.out];exact an.gT _ _ _ _ _
 have Fc:Hid (∀ x,qw w x→qc 220 #[qp g,.int .i64 e,.int .i64 n,.slice ph h.length ch,.slice (some ⟨ab,ao,none⟩) k cS] x (fj T x)):=fun x hx=>by
  have h1:=wh HT.out (an.k2 K) (an.ik K) (an.uk K) g c e n (by omega) (by omega) h X ph (some ⟨ab,ao,none⟩) h.length k ch cS rfl Bx.out x (Cw.out.av hx) (Hh.out.av hx) (Ez.out.av hx) (by have:=Hs.out;omega) (Ht.out.below hx Ht.out.lt);rw [DF.out];unfold an.tg;exact h1
 have Bp:Hid (an.op K e n h S=if decide (G=T) then some (an.ct K e n X) else none):=by
  show _=_;unfold an.op;rw [HnS.out,show nS-32=k by omega,← HX.out,← EU.out,← DF.out,he,hn,show decide (32≤nS)=true by simp;omega];simp
 rw [Bp.out];obtain ⟨AG,FI,BF,Hi⟩:∃ A:Array Value,Hid (A=(G.map (Value.int .u8)).toArray)∧Hid (A.size=32)∧Hid (A.all (·.oneCell')=true) :=
  ⟨_,rfl,by show _=_;simp [Bo.out],all_oneCell_toArray (aw _)⟩
 obtain ⟨AT,CO⟩:∃ A:Array Value,Hid (A=(T.map (Value.int .u8)).toArray):=⟨_,rfl⟩;have Ks:Hid (∀ x,qc 219 #[.agg AG,.agg AT] x fun r x'=>r = .returned (.bool (decide (G=T)))∧qw x x'):=fun x=>by
  rw [FI.out,CO.out];exact aiu.yM G T Bo.out Bq.out Kk.out Dn.out x
 have JD:Hid (∀ x,qw w x→x.rangeAt ab (ao+k) AG.toList):=fun x hx j v hv=>by
  obtain ⟨ab',ao',h1,h2⟩:=(Dc.out.av hx).bat.2 (by have:=HnS.out;omega);cases h1
  rw [FI.out,EU.out] at hv;have hj:j<32:=by
   have:=(List.getElem?_eq_some_iff.1 hv).1;simp at this;have:=HnS.out;omega
  rw [Nat.add_assoc,h2 (k+j) (by have:=HnS.out;omega)];have DP:(S.drop k)[j]?.map (Value.int .u8)=some v:=by simpa using hv
  rw [List.getElem?_drop] at DP;rw [List.getD_eq_getElem?_getD];cases hq:S[k+j]? with
  | none=>rw [hq] at DP;cases DP
  | some y=>rw [hq] at DP;simpa using DP
 have CY:w.cell? ⟨g,0,none⟩=some (qp c):=Cw.out.first;have Bd:Hid (∀ x,qw w x→x.cell? ⟨g,0,none⟩=some (qp c)):=fun x hx=>(Cw.out.av hx).first;have Az:=Dc.out.cap;have J1:k≤200000:=by have:=Hs.out;omega
 rw [HnS.out] at Az;generalize decide (G=T)=b at *;clear he hn DW C0 Bp;have Ah:IntKind.i64.wrap ((nS:Int)-32)=(nS:Int)-32:=IntWalk.i64_in _ ⟨by omega,by omega⟩;have Aq:(nS:Int)-32=(k:Int):=by omega
 have Ba:¬ ((k:Int)<0):=by omega
 go_enter func215,ntmps215;go_upto_region 4 with (first
  | (go_at_call 218;refine (HE.out _).mono ?_;rintro e1 w1 ⟨rfl,rfl⟩;clear HE)
  | (go_at_call 218;refine (HN.out _).mono ?_;rintro e2 w2 ⟨rfl,rfl⟩;clear HN))
 refine wp_region_any (by kernel_rfl) ?_;change wpAny _ _ _ _ _ _ _ (World.drew _);have B1:Hid (qw w w.drew):=(Below.refl _ w).drew;obtain ⟨w1,hw1e⟩:∃ x,x=w.drew:=⟨_,rfl⟩;rw [← hw1e] at B1 ⊢;clear hw1e;have QN:k+32-k=32:=by omega
 have KD:k≤cS:=by omega
 have Qy:¬ (cS-k=0):=by omega
 have LR:¬ (cS=k):=by omega
 have hle:(k:Int)≤(k:Int)+32:=by omega
 have hat:∀ w,(Instr.arrayAt 39 (.slice (some ⟨ab,ao+k,none⟩) 32 (cS-k))).run prog w = .ok (.pointer (some ⟨ab,ao+k,none⟩)) w:=fun w=>run_arrayAt _ _ _ 32 _ 32 _ underlying39 qn;refine au 0 30 (.slice (some ⟨ab,ao,none⟩) (k+32) cS) rfl (by kernel_rfl) (by kernel_rfl) (by kernel_rfl) (fun _ _ _ h=>h) (by rfl) (by intro w;go_simp) ?_;try simp only [Act.put,aQ,aR,aO]
 refine au 1 31 (.int .i64 (k:Int)) rfl (by kernel_rfl) (by kernel_rfl) (by kernel_rfl) (fun _ _ _ h=>h) (by rfl) (by intro w;go_simp) ?_;try simp only [Act.put,aQ,aR,aO]
 refine au 2 32 (.slice (some ⟨ab,ao,none⟩) k cS) rfl (by kernel_rfl) (by kernel_rfl) (by kernel_rfl) (fun _ _ _ h=>h) (by rfl) (by intro w;go_simp) ?_;try simp only [Act.put,aQ,aR,aO]
 refine au 3 33 (.slice (some ⟨ab,ao,none⟩) (k+32) cS) rfl (by kernel_rfl) (by kernel_rfl) (by kernel_rfl) (fun _ _ _ h=>h) (by rfl) (by intro w;go_simp) ?_;try simp only [Act.put,aQ,aR,aO]
 refine au 4 34 (.int .i64 (k:Int)) rfl (by kernel_rfl) (by kernel_rfl) (by kernel_rfl) (fun _ _ _ h=>h) (by rfl) (by intro w;go_simp) ?_;try simp only [Act.put,aQ,aR,aO]
 refine au 5 35 (.slice (some ⟨ab,ao+k,none⟩) 32 (cS-k)) rfl (by kernel_rfl) (by kernel_rfl) (by kernel_rfl) (fun _ _ _ h=>h) (by rfl) (by intro w;go_simp) ?_;try simp only [Act.put,aQ,aR,aO]
 refine au 6 36 (.pointer (some ⟨ab,ao+k,none⟩)) rfl (by kernel_rfl) (by kernel_rfl) (by kernel_rfl) (fun _ _ _ h=>h) (by rfl) (by intro w;go_simp) ?_;try simp only [Act.put,aQ,aR,aO]
 have GA:Hid (∀ C,qw w (w1.alloc C)):=fun C=>B1.out.alloc B1.out.size C;refine jN 7 8 (by kernel_rfl) ?_ ?_
 ·refine dV 7 39 (.tmp 36) rfl ab (ao+k) AG.toList _ rfl (JD.out _ B1.out) underlying39 rfl (by rw [Array.length_toList];exact ae Tryz.ar BF) ?_;try simp only [Act.put,aQ,aR,aO]
  rw [Array.toArray_toList];refine aU 8 (by kernel_rfl) ?_;refine wpOp_step rfl (fun Kc Af=>?_);go_simp;refine Af _ _ ?_;clear Af Kc;try simp only [Act.put,aQ,aR,aO]
  refine au 9 13 (.slice (some ⟨ab,ao,none⟩) k cS) rfl (by kernel_rfl) (by kernel_rfl) (by kernel_rfl) (fun _ _ _ h=>h) (by rfl) (by intro w;go_simp) ?_;try simp only [Act.put,aQ,aR,aO]
  refine aU 10 (by kernel_rfl) ?_;refine bD 10 39 (.tmp 14) (.tmp 37) rfl w1.heap.size 0 39 (List.replicate 32 (Value.int .u8 0)) AG rfl rfl (heap_alloc_new w1 _) (ae Tryz.ar BF) (by rw [BF.out];simp) Hi.out ?_;intro w5 g5 AZ;try simp only [Act.put,aQ,aR,aO]
  refine wpAny_done (by kernel_rfl) ?_ _
  skip
  have B5:Hid (qw w w5):=AZ.below (GA.out _) B1.out.size;have G5:Hid (w5.heap[w1.heap.size]?=qo AG 39):=by
   have h:=g5.out;have e:splice (List.replicate 32 (Value.int .u8 0)) 0 AG.toList=AG.toList:=by
    unfold splice;rw [List.take_zero,List.nil_append,Array.length_toList,BF.out,List.drop_of_length_le (by simp),List.append_nil]
   rw [e,Array.toArray_toList] at h;exact h
  clear g5 AZ GA B1;generalize w1.heap.size=g1 at *;go_upto_region 5 with (fail)
  refine wp_region_any (by kernel_rfl) ?_;change wpAny _ _ _ _ _ _ _ (World.drew _)
  replace B5:Hid (qw w w5.drew):=B5.out.drew
  replace G5:Hid (w5.drew.heap[g1]?=qo AG 39):=G5.out
  generalize w5.drew=w6 at *;refine au 1 39 (qp g) rfl (by kernel_rfl) (by kernel_rfl) (by kernel_rfl) (fun _ _ _ h=>h) (by rfl) (by intro w;go_simp) ?_;try simp only [Act.put,aQ,aR,aO]
  refine au 2 40 (.int .i64 e) rfl (by kernel_rfl) (by kernel_rfl) (by kernel_rfl) (fun _ _ _ h=>h) (by rfl) (by intro w;go_simp) ?_;try simp only [Act.put,aQ,aR,aO]
  refine au 3 41 (.int .i64 n) rfl (by kernel_rfl) (by kernel_rfl) (by kernel_rfl) (fun _ _ _ h=>h) (by rfl) (by intro w;go_simp) ?_;try simp only [Act.put,aQ,aR,aO]
  refine au 4 42 (.slice ph h.length ch) rfl (by kernel_rfl) (by kernel_rfl) (by kernel_rfl) (fun _ _ _ h=>h) (by rfl) (by intro w;go_simp) ?_;try simp only [Act.put,aQ,aR,aO]
  refine au 5 43 (.slice (some ⟨ab,ao,none⟩) k cS) rfl (by kernel_rfl) (by kernel_rfl) (by kernel_rfl) (fun _ _ _ h=>h) (by rfl) (by intro w;go_simp) ?_;try simp only [Act.put,aQ,aR,aO]
  refine jN 0 6 (by kernel_rfl) ?_ ?_
  ·refine dV 0 39 (.tmp 14) rfl g1 0 AG.toList _ rfl (fi G5.out) underlying39 rfl (by rw [Array.length_toList];exact ae Tryz.ar BF) ?_;try simp only [Act.put,aQ,aR,aO]
   rw [Array.toArray_toList];refine aU 6 (by kernel_rfl) ?_;refine wpOp_step rfl (fun Kc Af=>?_);go_simp;refine (Fc.out _ B5.out).mono ?_;rintro e7 w7 ⟨rfl,Bh⟩;rw [← CO.out];have B7:Hid (qw w w7):=B5.out.trans (Bh.mono B5.out.size);have G7:Hid (w7.heap[g1]?=qo AG 39):=(Bh.block _ (lt_of_block G5.out)).trans G5.out;clear Bh;dsimp only;refine Af _ _ ?_;clear Af Kc;try simp only [Act.put,aQ,aR,aO]
   refine aU 7 (by kernel_rfl) ?_;refine wpOp_step rfl (fun Kc Af=>?_);go_simp;refine (Ks.out _).mono ?_;rintro e8 w8 ⟨rfl,BV⟩;have B8:Hid (qw w w8):=B7.out.trans (BV.mono B7.out.size);clear BV;dsimp only;refine Af _ _ ?_;clear Af Kc;try simp only [Act.put,aQ,aR,aO]
   refine au 8 46 (.bool (!b)) rfl (by kernel_rfl) (by kernel_rfl) (by kernel_rfl) (fun _ _ _ h=>h) (by rfl) (by intro w;go_simp) ?_;try simp only [Act.put,aQ,aR,aO]
   refine wpAny_done (by kernel_rfl) ?_ _;have hb8c:=Bd.out _ B8.out;cases b with
   | false =>
    go_wp2;go_ret2;exact cO B8.out
   | true =>
    go_wp2_with (go_at_call 221;refine (CC.out _ B8.out).mono ?_;rintro e9 w9 ⟨q9,c9,rfl,Bv⟩)
    go_ret2;exact dL Bx.out B8.out Bv.out
  ·refine wpOp_step rfl (fun Kc Af=>?_);go_simp;refine (Fc.out _ B5.out).mono ?_;rintro e7 w7 ⟨rfl,Bh⟩;rw [← CO.out];have B7:Hid (qw w w7):=B5.out.trans (Bh.mono B5.out.size);have G7:Hid (w7.heap[g1]?=qo AG 39):=(Bh.block _ (lt_of_block G5.out)).trans G5.out;clear Bh;dsimp only;refine Af _ _ ?_;clear Af Kc;try simp only [Act.put,aQ,aR,aO]
   refine aU 0 (by kernel_rfl) ?_;refine dV 0 39 (.tmp 14) rfl g1 0 AG.toList _ rfl (fi G7.out) underlying39 rfl (by rw [Array.length_toList];exact ae Tryz.ar BF) ?_;try simp only [Act.put,aQ,aR,aO]
   rw [Array.toArray_toList];refine aU 7 (by kernel_rfl) ?_;refine wpOp_step rfl (fun Kc Af=>?_);go_simp;refine (Ks.out _).mono ?_;rintro e8 w8 ⟨rfl,BV⟩;have B8:Hid (qw w w8):=B7.out.trans (BV.mono B7.out.size);clear BV;dsimp only;refine Af _ _ ?_;clear Af Kc;try simp only [Act.put,aQ,aR,aO]
   refine au 8 46 (.bool (!b)) rfl (by kernel_rfl) (by kernel_rfl) (by kernel_rfl) (fun _ _ _ h=>h) (by rfl) (by intro w;go_simp) ?_;try simp only [Act.put,aQ,aR,aO]
   refine wpAny_done (by kernel_rfl) ?_ _;have hb8c:=Bd.out _ B8.out;cases b with
   | false =>
    go_wp2;go_ret2;exact cO B8.out
   | true =>
    go_wp2_with (go_at_call 221;refine (CC.out _ B8.out).mono ?_;rintro e9 w9 ⟨q9,c9,rfl,Bv⟩)
    go_ret2;exact dL Bx.out B8.out Bv.out
 ·refine wpOp_step rfl (fun Kc Af=>?_);go_simp;refine Af _ _ ?_;clear Af Kc;try simp only [Act.put,aQ,aR,aO]
  refine au 9 13 (.slice (some ⟨ab,ao,none⟩) k cS) rfl (by kernel_rfl) (by kernel_rfl) (by kernel_rfl) (fun _ _ _ h=>h) (by rfl) (by intro w;go_simp) ?_;try simp only [Act.put,aQ,aR,aO]
  refine aU 7 (by kernel_rfl) ?_;refine dV 7 39 (.tmp 36) rfl ab (ao+k) AG.toList _ rfl (JD.out _ (GA.out _)) underlying39 rfl (by rw [Array.length_toList];exact ae Tryz.ar BF) ?_;try simp only [Act.put,aQ,aR,aO]
  rw [Array.toArray_toList];refine aU 10 (by kernel_rfl) ?_;refine bD 10 39 (.tmp 14) (.tmp 37) rfl w1.heap.size 0 39 (List.replicate 32 (Value.int .u8 0)) AG rfl rfl (heap_alloc_new w1 _) (ae Tryz.ar BF) (by rw [BF.out];simp) Hi.out ?_;intro w5 g5 AZ;try simp only [Act.put,aQ,aR,aO]
  refine wpAny_done (by kernel_rfl) ?_ _;have B5:Hid (qw w w5):=AZ.below (GA.out _) B1.out.size;have G5:Hid (w5.heap[w1.heap.size]?=qo AG 39):=by
   have h:=g5.out;have e:splice (List.replicate 32 (Value.int .u8 0)) 0 AG.toList=AG.toList:=by
    unfold splice;rw [List.take_zero,List.nil_append,Array.length_toList,BF.out,List.drop_of_length_le (by simp),List.append_nil]
   rw [e,Array.toArray_toList] at h;exact h
  clear g5 AZ GA B1;generalize w1.heap.size=g1 at *;go_upto_region 5 with (fail)
  refine wp_region_any (by kernel_rfl) ?_;change wpAny _ _ _ _ _ _ _ (World.drew _)
  replace B5:Hid (qw w w5.drew):=B5.out.drew
  replace G5:Hid (w5.drew.heap[g1]?=qo AG 39):=G5.out
  generalize w5.drew=w6 at *;refine au 1 39 (qp g) rfl (by kernel_rfl) (by kernel_rfl) (by kernel_rfl) (fun _ _ _ h=>h) (by rfl) (by intro w;go_simp) ?_;try simp only [Act.put,aQ,aR,aO]
  refine au 2 40 (.int .i64 e) rfl (by kernel_rfl) (by kernel_rfl) (by kernel_rfl) (fun _ _ _ h=>h) (by rfl) (by intro w;go_simp) ?_;try simp only [Act.put,aQ,aR,aO]
  refine au 3 41 (.int .i64 n) rfl (by kernel_rfl) (by kernel_rfl) (by kernel_rfl) (fun _ _ _ h=>h) (by rfl) (by intro w;go_simp) ?_;try simp only [Act.put,aQ,aR,aO]
  refine au 4 42 (.slice ph h.length ch) rfl (by kernel_rfl) (by kernel_rfl) (by kernel_rfl) (fun _ _ _ h=>h) (by rfl) (by intro w;go_simp) ?_;try simp only [Act.put,aQ,aR,aO]
  refine au 5 43 (.slice (some ⟨ab,ao,none⟩) k cS) rfl (by kernel_rfl) (by kernel_rfl) (by kernel_rfl) (fun _ _ _ h=>h) (by rfl) (by intro w;go_simp) ?_;try simp only [Act.put,aQ,aR,aO]
  refine jN 0 6 (by kernel_rfl) ?_ ?_
  ·refine dV 0 39 (.tmp 14) rfl g1 0 AG.toList _ rfl (fi G5.out) underlying39 rfl (by rw [Array.length_toList];exact ae Tryz.ar BF) ?_;try simp only [Act.put,aQ,aR,aO]
   rw [Array.toArray_toList];refine aU 6 (by kernel_rfl) ?_;refine wpOp_step rfl (fun Kc Af=>?_);go_simp;refine (Fc.out _ B5.out).mono ?_;rintro e7 w7 ⟨rfl,Bh⟩;rw [← CO.out];have B7:Hid (qw w w7):=B5.out.trans (Bh.mono B5.out.size);have G7:Hid (w7.heap[g1]?=qo AG 39):=(Bh.block _ (lt_of_block G5.out)).trans G5.out;clear Bh;dsimp only;refine Af _ _ ?_;clear Af Kc;try simp only [Act.put,aQ,aR,aO]
   refine aU 7 (by kernel_rfl) ?_;refine wpOp_step rfl (fun Kc Af=>?_);go_simp;refine (Ks.out _).mono ?_;rintro e8 w8 ⟨rfl,BV⟩;have B8:Hid (qw w w8):=B7.out.trans (BV.mono B7.out.size);clear BV;dsimp only;refine Af _ _ ?_;clear Af Kc;try simp only [Act.put,aQ,aR,aO]
   refine au 8 46 (.bool (!b)) rfl (by kernel_rfl) (by kernel_rfl) (by kernel_rfl) (fun _ _ _ h=>h) (by rfl) (by intro w;go_simp) ?_;try simp only [Act.put,aQ,aR,aO]
   refine wpAny_done (by kernel_rfl) ?_ _;have hb8c:=Bd.out _ B8.out;cases b with
   | false =>
    go_wp2;go_ret2;exact cO B8.out
   | true =>
    go_wp2_with (go_at_call 221;refine (CC.out _ B8.out).mono ?_;rintro e9 w9 ⟨q9,c9,rfl,Bv⟩)
    go_ret2;exact dL Bx.out B8.out Bv.out
  ·refine wpOp_step rfl (fun Kc Af=>?_);go_simp;refine (Fc.out _ B5.out).mono ?_;rintro e7 w7 ⟨rfl,Bh⟩;rw [← CO.out];have B7:Hid (qw w w7):=B5.out.trans (Bh.mono B5.out.size);have G7:Hid (w7.heap[g1]?=qo AG 39):=(Bh.block _ (lt_of_block G5.out)).trans G5.out;clear Bh;dsimp only;refine Af _ _ ?_;clear Af Kc;try simp only [Act.put,aQ,aR,aO]
   refine aU 0 (by kernel_rfl) ?_;refine dV 0 39 (.tmp 14) rfl g1 0 AG.toList _ rfl (fi G7.out) underlying39 rfl (by rw [Array.length_toList];exact ae Tryz.ar BF) ?_;try simp only [Act.put,aQ,aR,aO]
   rw [Array.toArray_toList];refine aU 7 (by kernel_rfl) ?_;refine wpOp_step rfl (fun Kc Af=>?_);go_simp;refine (Ks.out _).mono ?_;rintro e8 w8 ⟨rfl,BV⟩;have B8:Hid (qw w w8):=B7.out.trans (BV.mono B7.out.size);clear BV;dsimp only;refine Af _ _ ?_;clear Af Kc;try simp only [Act.put,aQ,aR,aO]
   refine au 8 46 (.bool (!b)) rfl (by kernel_rfl) (by kernel_rfl) (by kernel_rfl) (fun _ _ _ h=>h) (by rfl) (by intro w;go_simp) ?_;try simp only [Act.put,aQ,aR,aO]
   refine wpAny_done (by kernel_rfl) ?_ _;have hb8c:=Bd.out _ B8.out;cases b with
   | false =>
    go_wp2;go_ret2;exact cO B8.out
   | true =>
    go_wp2_with (go_at_call 221;refine (CC.out _ B8.out).mono ?_;rintro e9 w9 ⟨q9,c9,rfl,Bv⟩)
    go_ret2;exact dL Bx.out B8.out Bv.out
end
section
open Go.RowKit
theorem abu (hT:aV) (K h S:List Int) (g:Nat) (e n:Int) (ph pS:Option Addr) (nh nS ch cS:Nat) (BL:h.length=nh) (hnS:S.length=nS)
  (w:World) (hg:dX w g K) (hh:Bs w ph ch h) (hS:Bs w pS cS S) (hs:nh+nS≤200000) (ht:cT w 0) :
  qc 215 #[qp g,.int .i64 e,.int .i64 n,.slice ph nh ch,.slice pS nS cS] w (bC (an.op K e n h S) w):=by
 by_cases hl:nS<32
 ·exact rS K h S g e n _ pS nS cS hnS (by omega) (Or.inr hl) w
 ·cases h0:(bj e&&bj n) with
  | false=>exact rS K h S g e n _ pS nS cS hnS (by omega) (Or.inl h0) w
  | true =>
   simp only [Bool.and_eq_true] at h0;obtain ⟨ab,ao,rfl,_⟩:=hS.bat.2 (by omega);exact xH hT K h S g e n ph ab ao nh nS ch cS (nS-32) BL hnS (by omega) h0.1 h0.2 w hg hh hS hs ht
theorem oI (x:World) (l:List Int) (n:Nat) (fr:Nat × Nat) (hl:l.length=n) (hn:n≤1000) (hb:ai.aY l):Bs (x.alloc (.cells (l.map (Value.int .u8)).toArray 5 fr)) (some ⟨x.heap.size,0,none⟩) n l :=
 eK (cU (heap_alloc_new x _) hb) ⟨by omega,by omega⟩
theorem yA (x:World) (O O':Obj):qw x ((x.alloc O).alloc O'):=(qb x _).alloc (by simp) _
end
end Go.Proofs.YthgjfjmampmiiaaGreatDoor

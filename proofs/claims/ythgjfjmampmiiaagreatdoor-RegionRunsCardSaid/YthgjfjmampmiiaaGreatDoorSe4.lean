/-
  SeU, SeV (merged)
-/
import Derived.Test.YthgjfjmampmiiaaGreatDoorSe3
namespace Go.Proofs.YthgjfjmampmiiaaGreatDoor
open Go.Proofs.Tryz
set_option maxHeartbeats 4000000
set_option maxRecDepth 100000
section
open Go.RowKit
theorem rk {B:Nat} {w:World} {g:Nat} {K:List Int} (h:jr B w g K):∃ q cq,w.cell? ⟨g,1,none⟩=some (.slice (some ⟨q,0,none⟩) 32 cq)∧Bs w (some ⟨q,0,none⟩) cq (an.k2 K):=by
 obtain ⟨d,q,cq,h0,h1,h2,h3,h4,h5,h6⟩:=h;refine ⟨q,cq,by rw [cell_of_row w g 1 _ _ _ h4];rfl,eK ⟨an.uk K,fun _=>⟨q,0,rfl,fun j hj=>?_⟩⟩ ⟨by rw [an.ik];exact h2,h3⟩⟩;rw [Nat.zero_add];exact h5 j (by rw [an.ik] at hj;exact hj)
theorem ac7 {B:Nat} {w:World} {g:Nat} {K:List Int} (h:jr B w g K):g<w.heap.size:=by
 obtain ⟨d,q,cq,h0,h1,h2,h3,h4,h5,h6⟩:=h;exact lt_of_block h4
theorem dO {w:World} {B B' n s:Nat} {e:TypeId} {v:Value} {xs:List Value} (h:w.ownsRow B' e s v n xs) (hb:B≤B'):w.ownsRow B e s v n xs:=by
 refine ⟨h.1,?_⟩;rcases h.2 with h1 | ⟨g,cap,cur,h1,h2,h3⟩
 ·exact Or.inl h1
 ·exact Or.inr ⟨g,cap,cur,h1,Nat.le_trans hb h2,h3⟩
theorem l9 (K h t:List Int) (B g:Nat) (e n:Int) (he:0≤e∧e≤9223372036854775807) (hn:0≤n∧n≤9223372036854775807) (ph pt:Option Addr) (nh nt ch ct:Nat) (BL:h.length=nh) (Mi:t.length=nt)
  (w:World) (hg:jr B w g K) (hh:Bs w ph ch h) (Mt:Bs w pt ct t) (hl:nh+nt≤90000) (J8:cT w 1) :
  qc 158 #[qp g,.int .i64 e,.int .i64 n,.slice ph nh ch,.slice pt nt ct] w (fj (an.tg K e n h t) w):=by
 have Ht:=qh J8;clear J8;have Hg:=qh hg;clear hg;have Hh:=qh hh;clear hh;have Htt:=qh Mt;clear Mt;have Hnh:=qh (And.intro BL Mi);clear BL Mi;have Hl:=qh hl;clear hl;have He:=qh he;clear he;have Hn:=qh hn;clear hn;have F4:Hid (∀ x,qc 181 #[.int .i64 (nh:Nat)] x (jI (nh:Nat) x)):=fun x=>kj _ ⟨by omega,by have:=Hl.out;omega⟩ x;have Dm:Hid (∀ x,qc 181 #[.int .i64 e] x (jI e x)):=fun x=>kj _ He.out x;have CK:Hid (∀ x,qc 181 #[.int .i64 n] x (jI n x)):=fun x=>kj _ Hn.out x;obtain ⟨R,HR⟩:∃ R,Hid (R=an.zA h e n t):=⟨_,rfl⟩;have IM:Hid (ai.aY R):=by show ai.aY R;rw [HR.out];exact an.aeR Hh.out.tf Htt.out.tf
 obtain ⟨N,HN⟩:∃ N,Hid (R.length=N):=⟨_,rfl⟩;have Oy:N≤100000:=by
  have h1:=HN.out;rw [HR.out,an.aeB] at h1;have:=Hl.out;have:=Hnh.out;omega
 obtain ⟨A,An,Ak,Au⟩:∃ A:Array Value,Hid (A=((hm (an.k2 K) R).map (Value.int .u8)).toArray)∧Hid (A.size=32)∧Hid (A.all (·.oneCell')=true) :=
  ⟨_,rfl,by show _=_;simp [dS],all_oneCell_toArray (aw _)⟩
 have Cu:Hid (((an.j5 (nh:Nat)++h++an.j5 e)++an.j5 n)++t=R):=by show _=_;rw [HR.out,← Hnh.out.1];unfold an.zA;simp only [List.append_assoc]
 have B0:Hid (qw w (w.alloc (.cells (List.replicate 32 (Value.int .u8 0)).toArray 39))):=qb w _;have R0:Hid ((w.alloc (.cells (List.replicate 32 (Value.int .u8 0)).toArray 39)).heap[w.heap.size]?=qo (List.replicate 32 (Value.int .u8 0)).toArray 39):=heap_alloc_new w _;have Oc:Hid (w.heap.size<(w.alloc (.cells (List.replicate 32 (Value.int .u8 0)).toArray 39)).heap.size):=lt_of_block R0.out;rw [show fj (an.tg K e n h t) w=fj (hm (an.k2 K) R) w by unfold an.tg;rw [HR.out]];have Tr:nh≤90000:=by have:=Hl.out;omega
 go_enter func158,ntmps158;go_upto_region 3 with (first
  | (go_at_call 181;refine (F4.out _).mono ?_;rintro e1 w1 ⟨g1,c1,rfl,O1',Ag⟩;have B1:Hid (qw w w1):=B0.out.trans (Ag.mono B0.out.size);have R1:=qh ((Ag.block _ (lt_of_block R0.out)).trans R0.out);have AM:Hid (w.heap.size+1≤w1.heap.size):=Nat.le_trans Oc.out Ag.size;have O1:=qh (dO O1'.out Oc.out);clear Ag F4 O1')
  | (at_builtin;refine bV _ _ h (w.heap.size+1) _ _ _ ph nh ch rfl rfl Hnh.out.1 (Hh.out.av B1.out) O1.out (by omega) AM.out ?_;intro v2 w2 QP DI;have O2:=qh QP;have B2:Hid (qw w w2):=B1.out.grown DI B1.out.size (fun q hq=>by have:=(O1.out.lt q hq).1;omega);have R2:=qh ((DI.block _ (lt_of_block R1.out) (fun e=>by have:=(O1.out.lt _ e.symm).1;omega)).trans R1.out);have Ar:Hid (w.heap.size+1≤w2.heap.size):=Nat.le_trans AM.out DI.size;clear QP DI O1)
  | (go_at_call 181;refine (Dm.out _).mono ?_;rintro e3 w3 ⟨g3,c3,rfl,O3,As⟩;have B3:Hid (qw w w3):=B2.out.trans (As.mono B2.out.size);have R3:=qh ((As.block _ (lt_of_block R2.out)).trans R2.out);have Nd:=qh (aN O2.out As);have X3:=qh (zS O3.out (an.iE e));have AY:Hid (w.heap.size+1≤w3.heap.size):=Nat.le_trans Ar.out As.size;clear As Dm O3 O2)
  | (at_builtin;refine bV _ _ (an.j5 e) (w.heap.size+1) _ _ _ _ 8 c3 rfl rfl (an.eS e) X3.out Nd.out (by omega) AY.out ?_;intro v4 w4 BM KA;have O4:=qh BM;have B4:Hid (qw w w4):=B3.out.grown KA B3.out.size (fun q hq=>by have:=(Nd.out.lt q hq).1;omega);have R4:=qh ((KA.block _ (lt_of_block R3.out) (fun e=>by have:=(Nd.out.lt _ e.symm).1;omega)).trans R3.out);have F2:Hid (w.heap.size+1≤w4.heap.size):=Nat.le_trans AY.out KA.size;clear BM KA Nd X3)
  | (go_at_call 181;refine (CK.out _).mono ?_;rintro e5 w5 ⟨g5,c5,rfl,O5,BC⟩;have B5:Hid (qw w w5):=B4.out.trans (BC.mono B4.out.size);have R5:=qh ((BC.block _ (lt_of_block R4.out)).trans R4.out);have Nf:=qh (aN O4.out BC);have X5:=qh (zS O5.out (an.iE n));have DE:Hid (w.heap.size+1≤w5.heap.size):=Nat.le_trans F2.out BC.size;clear BC CK O5 O4)
  | (at_builtin;refine bV _ _ (an.j5 n) (w.heap.size+1) _ _ _ _ 8 c5 rfl rfl (an.eS n) X5.out Nf.out (by omega) DE.out ?_;intro v6 w6 Dy Er;have O6:=qh Dy;have B6:Hid (qw w w6):=B5.out.grown Er B5.out.size (fun q hq=>by have:=(Nf.out.lt q hq).1;omega);have R6:=qh ((Er.block _ (lt_of_block R5.out) (fun e=>by have:=(Nf.out.lt _ e.symm).1;omega)).trans R5.out);have Kr:Hid (w.heap.size+1≤w6.heap.size):=Nat.le_trans DE.out Er.size;clear Dy Er Nf X5))
 clear R0 R1 R2 R3 R4 R5 B0 B1 B2 B3 B4 B5 Oc AM Ar AY F2 DE;refine wp_region_any (by kernel_rfl) ?_;change wpAny _ _ _ _ _ _ _ (World.drew _)
 replace B6:Hid (qw w w6.drew):=B6.out.drew
 replace R6:Hid (w6.drew.heap[w.heap.size]?=qo (List.replicate 32 (Value.int .u8 0)).toArray 39):=R6.out
 replace O6:=qh (aN O6.out (Below.refl _ w6).drew)
 replace Kr:Hid (w.heap.size+1≤w6.drew.heap.size):=Kr.out
 generalize w6.drew=z at *;obtain ⟨q,cq,Ew,Gu⟩:=rk (Hg.out.aG B6.out);have HQ:=qh Gu;clear Gu;refine au 0 24 (qp g) rfl (by kernel_rfl) (by kernel_rfl) (by kernel_rfl) (fun _ _ _ h=>h) (by rfl) (by intro w;go_simp) ?_;try simp only [Act.put,aQ,aR,aO]
 refine au 1 25 (qp g) rfl (by kernel_rfl) (by kernel_rfl) (by kernel_rfl) (fun _ _ _ h=>h) (by rfl) (by intro w;go_simp) ?_;try simp only [Act.put,aQ,aR,aO]
 refine au 2 26 (.pointer (some ⟨g,1,none⟩)) rfl (by kernel_rfl) (by kernel_rfl) (by kernel_rfl) (fun _ _ _ h=>h) (by rfl) (by intro w;go_simp) ?_;try simp only [Act.put,aQ,aR,aO]
 refine au 4 28 v6 rfl (by kernel_rfl) (by kernel_rfl) (by kernel_rfl) (fun _ _ _ h=>h) (by rfl) (by intro w;go_simp) ?_;try simp only [Act.put,aQ,aR,aO]
 refine au 5 29 (.slice pt nt ct) rfl (by kernel_rfl) (by kernel_rfl) (by kernel_rfl) (fun _ _ _ h=>h) (by rfl) (by intro w;go_simp) ?_;try simp only [Act.put,aQ,aR,aO]
 have Qa:Hid (∀ x,z.grownBy x v6.ownBlock→Bs x (some ⟨q,0,none⟩) cq (an.k2 K)∧x.cell? ⟨g,1,none⟩=some (.slice (some ⟨q,0,none⟩) 32 cq)):=fun x hx=>by
  have Ae:=ac7 Hg.out;have SM:qw w x:=B6.out.grown hx B6.out.size (fun q hq=>by have:=(O6.out.lt q hq).1;omega);obtain ⟨q',cq',EH,Gj⟩:=rk (Hg.out.aG SM);have DG:=hx.cell Ew (fun e=>by have h8:w.heap.size+1≤g:=(O6.out.lt g e.symm).1;have h9:g<w.heap.size:=Ae;omega);rw [EH] at DG;cases DG
  exact ⟨Gj,EH⟩
 refine jN 3 6 (by kernel_rfl) ?_ ?_
 ·refine wpOp_step rfl (fun Kc Af=>?_);have Tw:=Ew;go_simp;refine Af _ _ ?_;clear Af Kc;try simp only [Act.put,aQ,aR,aO]
  refine aU 6 (by kernel_rfl) ?_;refine dt 6 (.tmp 28) (.tmp 29) t (w.heap.size+1) v6 _ _ pt nt ct rfl rfl rfl Hnh.out.2 (Htt.out.av B6.out) O6.out (by have:=Hl.out;omega) Kr.out ?_;intro v7 w7 EN Co;rw [Cu.out] at EN;have B7:Hid (qw w w7):=B6.out.grown Co B6.out.size (fun q hq=>by have:=(O6.out.lt q hq).1;omega);have R7:=qh ((Co.block _ (lt_of_block R6.out) (fun e=>by have:=(O6.out.lt _ e.symm).1;omega)).trans R6.out);obtain ⟨p7,c7,rfl,X7',_⟩:=bH EN IM.out;have X7:=qh X7';rw [HN.out];have MV:=qh (Qa.out w7 Co);clear EN Co X7';try simp only [Act.put,aQ,aR,aO]
  refine aU 7 (by kernel_rfl) ?_;refine wpOp_step rfl (fun Kc Af=>?_);go_simp;refine (iy (an.k2 K) R (some ⟨q,0,none⟩) p7 32 N cq c7 (an.ik K) HN.out (by omega) (by omega) _ MV.out.1.bat X7.out.bat (Ht.out.below B7.out Ht.out.lt)).mono ?_;rintro e8 w8 ⟨rfl,BV⟩;rw [← An.out];have B8:Hid (qw w w8):=B7.out.trans (BV.mono B7.out.size);have R8:=qh ((BV.block _ (lt_of_block R7.out)).trans R7.out);clear BV;dsimp only;refine Af _ _ ?_;clear Af Kc;try simp only [Act.put,aQ,aR,aO]
  refine aU 8 (by kernel_rfl) ?_;refine bD 8 39 (.tmp 10) (.tmp 31) rfl w.heap.size 0 39 (List.replicate 32 (Value.int .u8 0)) A rfl rfl R8.out (ae Tryz.ar Ak) (by rw [Ak.out];simp) Au.out ?_;intro w9 g9 AW;try simp only [Act.put,aQ,aR,aO]
  refine wpAny_done (by kernel_rfl) ?_ _;have G9:Hid (w9.heap[w.heap.size]?=qo A 39):=by
   have h:=g9.out;have e:splice (List.replicate 32 (Value.int .u8 0)) 0 A.toList=A.toList:=by
    unfold splice;rw [List.take_zero,List.nil_append,Array.length_toList,Ak.out,List.drop_of_length_le (by simp),List.append_nil]
   rw [e,Array.toArray_toList] at h;exact h
  clear g9;go_wp2;refine bodyPost_ret (results_cell_row rfl _ _ w.heap.size 39 A (0,0) _ rfl G9.out underlying39 rfl (ae Tryz.ar Ak)) rfl ⟨?_,AW.below B8.out qn⟩;rw [An.out]
 ·refine dt 6 (.tmp 28) (.tmp 29) t (w.heap.size+1) v6 _ _ pt nt ct rfl rfl rfl Hnh.out.2 (Htt.out.av B6.out) O6.out (by have:=Hl.out;omega) Kr.out ?_;intro v7 w7 EN Co;rw [Cu.out] at EN;have B7:Hid (qw w w7):=B6.out.grown Co B6.out.size (fun q hq=>by have:=(O6.out.lt q hq).1;omega);have R7:=qh ((Co.block _ (lt_of_block R6.out) (fun e=>by have:=(O6.out.lt _ e.symm).1;omega)).trans R6.out);obtain ⟨p7,c7,rfl,X7',_⟩:=bH EN IM.out;have X7:=qh X7';rw [HN.out];have MV:=qh (Qa.out w7 Co);clear EN Co X7';try simp only [Act.put,aQ,aR,aO]
  refine aU 3 (by kernel_rfl) ?_;refine wpOp_step rfl (fun Kc Af=>?_);have Tw:=MV.out.2;go_simp;refine Af _ _ ?_;clear Af Kc;try simp only [Act.put,aQ,aR,aO]
  refine aU 7 (by kernel_rfl) ?_;refine wpOp_step rfl (fun Kc Af=>?_);go_simp;refine (iy (an.k2 K) R (some ⟨q,0,none⟩) p7 32 N cq c7 (an.ik K) HN.out (by omega) (by omega) _ MV.out.1.bat X7.out.bat (Ht.out.below B7.out Ht.out.lt)).mono ?_;rintro e8 w8 ⟨rfl,BV⟩;rw [← An.out];have B8:Hid (qw w w8):=B7.out.trans (BV.mono B7.out.size);have R8:=qh ((BV.block _ (lt_of_block R7.out)).trans R7.out);clear BV;dsimp only;refine Af _ _ ?_;clear Af Kc;try simp only [Act.put,aQ,aR,aO]
  refine aU 8 (by kernel_rfl) ?_;refine bD 8 39 (.tmp 10) (.tmp 31) rfl w.heap.size 0 39 (List.replicate 32 (Value.int .u8 0)) A rfl rfl R8.out (ae Tryz.ar Ak) (by rw [Ak.out];simp) Au.out ?_;intro w9 g9 AW;try simp only [Act.put,aQ,aR,aO]
  refine wpAny_done (by kernel_rfl) ?_ _;have G9:Hid (w9.heap[w.heap.size]?=qo A 39):=by
   have h:=g9.out;have e:splice (List.replicate 32 (Value.int .u8 0)) 0 A.toList=A.toList:=by
    unfold splice;rw [List.take_zero,List.nil_append,Array.length_toList,Ak.out,List.drop_of_length_le (by simp),List.append_nil]
   rw [e,Array.toArray_toList] at h;exact h
  clear g9;go_wp2;refine bodyPost_ret (results_cell_row rfl _ _ w.heap.size 39 A (0,0) _ rfl G9.out underlying39 rfl (ae Tryz.ar Ak)) rfl ⟨?_,AW.below B8.out qn⟩;rw [An.out]
end
section
open Go.RowKit
theorem nX {B:Nat} {w:World} {g:Nat} {K:List Int} (h:jr B w g K):∃ d,w.cell? ⟨g,0,none⟩=some (qp d)∧bY B w d (4*(4+7)) (ag.up (ag.rb (ag.nC (an.k1 K) 4)) (16*(4+7))):=by
 obtain ⟨d,q,cq,h0,h1,h2,h3,h4,h5,h6⟩:=h;exact ⟨d,by rw [cell_of_row w g 0 _ _ _ h4];rfl,h6⟩
theorem mg (K L:List Int) (B d:Nat) (e n:Int) (p:Option Addr) (k c:Nat) (hk:L.length=k) (hL:k≤8192) (w:World) (hp:cX w p L) (hc:bY B w d (4*(4+7)) (ag.up (ag.rb (ag.nC (an.k1 K) 4)) (16*(4+7)))) :
  qc 159 #[qp d,.int .i64 e,.int .i64 n,.slice p k c] w fun r w'=>∃ q cq,r = .returned (.slice q k cq)∧Hid (fI L (an.ct K e n L) w q cq w'):=by
 subst hk;unfold an.ct an.ks;exact zW (an.k1 K) (agY K) 4 (by omega) (an.qg K) B d e n L p c hL w hp hc
theorem aaL {z x:World} {g c:Nat} {T:List Int} {O:Obj} (h:Bs z (some ⟨g,0,none⟩) c T) (_hT:T.length=32) (hg:(z.alloc O).grownBy x (some z.heap.size)):Bs x (some ⟨g,0,none⟩) c T:=by
 refine ⟨⟨h.bat.1,fun h0=>?_⟩,h.cap,fun e=>by cases e⟩;obtain ⟨ab,ao,h1,h2⟩:=h.bat.2 h0;cases h1
 refine ⟨g,0,rfl,fun j hj=>?_⟩;have hc:=h2 j hj;have Ae:g<z.heap.size:=World.block_lt_of_cell? z _ hc;have Gj:(z.alloc O).cell? ⟨g,0+j,none⟩=some (.int .u8 (T.getD j 0)):=(World.cell?_of_block (heap_alloc_old _ _ Ae)).trans hc;exact hg.cell Gj (fun e=>by have e2:g=z.heap.size:=Option.some.inj e;omega)
theorem ra (K h L:List Int) (B g:Nat) (e n:Int) (ph pl:Option Addr) (nh nl ch cl:Nat) (BL:h.length=nh) (Cr:L.length=nl)
  (w:World) (hg:jr B w g K) (hh:Bs w ph ch h) (hl:Bs w pl cl L) (hs:nh≤4096∧nl≤4096) (ht:cT w 1) :
  qc 154 #[qp g,.int .i64 e,.int .i64 n,.slice ph nh ch,.slice pl nl cl] w (ix (an.sl K e n h L) w):=by
 have Fb:Hid (∀ x,qc 157 #[.int .i64 e,.int .i64 n] x fun r x'=>r = .returned (.bool (bj e&&bj n))∧x=x'):=fun x=>(jm e n x).mono fun _ _ q=>⟨q.1,q.2.symm⟩;cases AF:(bj e&&bj n) with
 | false =>
  rw [an.zX AF];rw [AF] at Fb;go_enter func154,ntmps154;go_wp2_with (go_at_call 157;refine (Fb.out _).mono ?_;rintro e1 w1 ⟨rfl,rfl⟩)
  go_ret;exact ⟨none,0,0,rfl,rfl,(by unfold aC;exact World.ownsRow_nil _ _ _ _),dx _,Below.refl _ _⟩
 | true =>
  rw [AF] at Fb;simp only [Bool.and_eq_true] at AF;obtain ⟨he,hn⟩:=AF;obtain ⟨d,I2,LV⟩:=nX hg;have Ht:=qh ht;clear ht;have HG:=qh hg;clear hg;have Iz:=qh LV;clear LV;have Hh:=qh hh;clear hh;have Hl:=qh hl;clear hl;have Hs:=qh hs;clear hs;have Hnn:=qh (And.intro BL Cr);clear BL Cr;have DW:0≤e∧e≤1099511627776:=by unfold bj at he;simpa using he
  have C0:0≤n∧n≤1099511627776:=by unfold bj at hn;simpa using hn
  obtain ⟨X,HX⟩:∃ X,Hid (X=an.ct K e n L):=⟨_,rfl⟩;have Bx:Hid (X.length=nl):=by show _=_;rw [HX.out,an.m9];exact Hnn.out.2
  have CC:Hid (qc 159 #[qp d,.int .i64 e,.int .i64 n,.slice pl nl cl] w fun r x'=>∃ q cq,r = .returned (.slice q nl cq)∧Hid (fI L X w q cq x')):=by
   rw [HX.out];exact mg K L B d e n pl nl cl Hnn.out.2 (by have:=Hs.out;omega) w Hl.out.bat Iz.out
  obtain ⟨T,DF⟩:∃ T,Hid (T=an.tg K e n h X):=⟨_,rfl⟩;have Bq:Hid (T.length=32):=by show _=_;rw [DF.out,an.dq]
  have Dn:Hid (ai.aY T):=by show ai.aY T;rw [DF.out];exact an.gT _ _ _ _ _
  have JO:Hid (ai.aY X):=by show ai.aY X;rw [HX.out];exact an.po _ _ _ _
  have Fc:Hid (∀ x q cq,qw w x→Bs x q cq X→qc 158 #[qp g,.int .i64 e,.int .i64 n,.slice ph nh ch,.slice q nl cq] x (fj T x)):=fun x q cq hx hq=>by
   rw [DF.out];exact l9 K h X B g e n (by omega) (by omega) ph q nh nl ch cq Hnn.out.1 Bx.out x (HG.out.aG hx) (Hh.out.av hx) hq (by have:=Hs.out;omega) (Ht.out.below hx Ht.out.lt)
  have Cd:Hid (an.sl K e n h L=X++T):=by show _=_;rw [an.oK he hn,← HX.out,← DF.out]
  rw [Cd.out];have IM:Hid (ai.aY (X++T)):=ai.aP JO.out Dn.out;obtain ⟨A,An,Ak,Au⟩:∃ A:Array Value,Hid (A=(T.map (Value.int .u8)).toArray)∧Hid (A.size=32)∧Hid (A.all (·.oneCell')=true) :=
   ⟨_,rfl,by show _=_;simp [Bq.out],all_oneCell_toArray (aw _)⟩
  clear he hn DW C0;go_enter func154,ntmps154;go_upto_region 5 with (first
   | (go_at_call 157;refine (Fb.out _).mono ?_;rintro e1 w1 ⟨rfl,rfl⟩;clear Fb)
   | (go_at_call 159;refine CC.out.mono ?_;rintro e3 w3 ⟨q3,c3,rfl,Bv⟩;have B3:=qh Bv.out.below;have KI:=qh (ug Bv.out);clear Bv CC)
   | (go_at_call 158;refine (Fc.out _ q3 c3 B3.out KI.out).mono ?_;rintro e4 w4 ⟨rfl,AJ⟩;rw [← An.out];have GW:=qh AJ;clear AJ Fc)
   | ((with_reducible refine ak _ _ _ _ _ _ _ ?_ ?_ (heap_alloc_new _ _) (ae Tryz.ar Ak) ?_ Au.out ?_);(exact rfl);(exact rfl);(rw [Ak.out];rfl);intro w5 G5 AZ;rw [An.out] at G5;have ME:=qh (AZ.below (qb w4 _) qn);have Kf:Hid (qw w3 w5):=GW.out.trans (ME.out.mono GW.out.size);have NH:=qh (KI.out.av Kf.out);have GX:=qh (eK (c:=32) (cU G5.out Dn.out) ⟨by rw [Bq.out];exact Nat.le_refl _,by omega⟩);have B5:Hid (qw w w5):=B3.out.trans (Kf.out.mono B3.out.size);clear AZ G5))
  clear GW Kf ME KI B3;generalize w4.heap.size=g4 at *;refine wp_region_any (by kernel_rfl) ?_;change wpAny _ _ _ _ _ _ _ (World.drew _)
  replace B5:Hid (qw w w5.drew):=B5.out.drew
  replace NH:=qh (NH.out.av (Below.refl _ w5).drew)
  replace GX:=qh (GX.out.av (Below.refl _ w5).drew)
  generalize w5.drew=z at *;refine au 1 32 (.slice q3 nl c3) rfl (by kernel_rfl) (by kernel_rfl) (by kernel_rfl) (fun _ _ _ h=>h) (by rfl) (by intro w;go_simp) ?_;try simp only [Act.put,aQ,aR,aO]
  refine au 3 34 (.slice (some ⟨g4,0,none⟩) 32 32) rfl (by kernel_rfl) (by kernel_rfl) (by kernel_rfl) (fun _ _ _ h=>h) (by rfl) (by intro w;go_simp) ?_;try simp only [Act.put,aQ,aR,aO]
  refine aU 0 (by kernel_rfl) ?_;refine wpOp_step rfl (fun Kc Af=>?_);go_simp;refine Af _ _ ?_;clear Af Kc;try simp only [Act.put,aQ,aR,aO]
  have BE:Hid (qw z (z.alloc (.cells #[] 5))):=qb z _;have BZ:=qh (B5.out.trans (BE.out.mono B5.out.size));have OE:=qh (eY z w.heap.size B5.out.size);refine aU 2 (by kernel_rfl) ?_;refine dt 2 (.tmp 31) (.tmp 32) X w.heap.size _ 0 [] q3 nl c3 rfl rfl rfl Bx.out (NH.out.av BE.out) OE.out (by have:=Hs.out;omega) BZ.out.size ?_;intro v6 w6 Dy Er;rw [List.nil_append] at Dy;have O6:=qh Dy;have B6:Hid (qw w w6):=BZ.out.grown Er BZ.out.size (fun q hq=>(OE.out.lt q hq).1);have Rk:Hid (Bs w6 (some ⟨g4,0,none⟩) 32 T):=aaL GX.out Bq.out Er;clear Dy Er;try simp only [Act.put,aQ,aR,aO]
  refine aU 4 (by kernel_rfl) ?_;refine dt 4 (.tmp 33) (.tmp 34) T w.heap.size v6 _ X (some ⟨g4,0,none⟩) 32 32 rfl rfl rfl Bq.out Rk.out O6.out (by have:=Hs.out;omega) B6.out.size ?_;intro v7 w7 EN Co;have O7:=qh EN;have B7:Hid (qw w w7):=B6.out.grown Co B6.out.size (fun q hq=>(O6.out.lt q hq).1);clear EN Co;try simp only [Act.put,aQ,aR,aO]
  refine au 5 10 v7 rfl (by kernel_rfl) (by kernel_rfl) (by kernel_rfl) (fun _ _ _ h=>h) (by rfl) (by intro w;go_simp) ?_;try simp only [Act.put,aQ,aR,aO]
  refine wpAny_done (by kernel_rfl) ?_ _;go_wp2;go_ret;exact n9 O7.out IM.out B7.out
theorem kT (K h S:List Int) (e n:Int) (vg vh:Value) (pS:Option Addr) (nS cS:Nat) (hnS:S.length=nS) (hs:nS≤200000) (h0:(bj e&&bj n)=false∨nS<32) (w:World) :
  qc 129 #[vg,.int .i64 e,.int .i64 n,vh,.slice pS nS cS] w (bC (an.op K e n h S) w):=by
 rw [show an.op K e n h S=none by
  rcases h0 with h1 | h1
  ·exact an.aa8 h1 _ _ _
  ·exact an.sx _ _ _ _ _ (by omega)]
 have Fb:Hid (∀ x,qc 157 #[.int .i64 e,.int .i64 n] x fun r x'=>r = .returned (.bool (bj e&&bj n))∧x=x'):=fun x=>(jm e n x).mono fun _ _ q=>⟨q.1,q.2.symm⟩;have fin:bC none w (.returned (.tuple #[.slice none 0 0,.bool false])) w:=cO (Below.refl _ _);have hw:IntKind.i64.wrap ((nS:Int)-32)=(nS:Int)-32:=IntWalk.i64_in _ ⟨by omega,by omega⟩;cases AF:(bj e&&bj n) with
 | false =>
  rw [AF] at Fb;go_enter func129,ntmps129;go_wp2_with (go_at_call 157;refine (Fb.out _).mono ?_;rintro e1 w1 ⟨rfl,rfl⟩)
  go_ret2;exact fin
 | true =>
  rw [AF] at Fb;have Ae:(nS:Int)-32<0:=by
   rcases h0 with h1 | h1
   ·rw [AF] at h1;cases h1
   ·omega
  go_enter func129,ntmps129;go_wp2_with (go_at_call 157;refine (Fb.out _).mono ?_;rintro e1 w1 ⟨rfl,rfl⟩)
  go_ret2;exact fin
theorem oX (K h S:List Int) (B g:Nat) (e n:Int) (ph:Option Addr) (ab ao nh nS ch cS k:Nat) (BL:h.length=nh) (hnS:S.length=nS) (hk:nS=k+32) (he:bj e=true) (hn:bj n=true)
  (w:World) (hg:jr B w g K) (hh:Bs w ph ch h) (hS:Bs w (some ⟨ab,ao,none⟩) cS S) (hs:nh≤4096∧nS≤4096) (ht:cT w 1) :
  qc 129 #[qp g,.int .i64 e,.int .i64 n,.slice ph nh ch,.slice (some ⟨ab,ao,none⟩) nS cS] w (bC (an.op K e n h S) w):=by
 have Fb:Hid (∀ x,qc 157 #[.int .i64 e,.int .i64 n] x fun r x'=>r = .returned (.bool true)∧x=x'):=fun x=>by
  have h1:=jm e n x;rw [he,hn] at h1;exact h1.mono fun _ _ q=>⟨q.1,q.2.symm⟩
 obtain ⟨d,I2,LV⟩:=nX hg;have Ht:=qh ht;clear ht;have HG:=qh hg;clear hg;have Iz:=qh LV;clear LV;have Jo:Hid (∀ x,qw w x→x.cell? ⟨g,0,none⟩=some (qp d)):=fun x hx=>(hx.cell (World.block_lt_of_cell? w _ I2)).trans I2;clear I2;have Hh:=qh hh;clear hh;have Dc:=qh hS;clear hS;have Hs:=qh hs;clear hs;have HnS:=qh (And.intro BL hnS);clear BL hnS;have DW:0≤e∧e≤1099511627776:=by unfold bj at he;simpa using he
 have C0:0≤n∧n≤1099511627776:=by unfold bj at hn;simpa using hn
 obtain ⟨X,HX⟩:∃ X,Hid (X=S.take k):=⟨_,rfl⟩;have Bx:Hid (X.length=k):=by show _=_;rw [HX.out,List.length_take];have:=HnS.out;omega
 obtain ⟨G,EU⟩:∃ G,Hid (G=S.drop k):=⟨_,rfl⟩;have Bo:Hid (G.length=32):=by show _=_;rw [EU.out,List.length_drop];have:=HnS.out;omega
 have Kk:Hid (ai.aY G):=by show ai.aY G;rw [EU.out];exact fun x hx=>Dc.out.tf x (List.mem_of_mem_drop hx)
 have Ez:Hid (Bs w (some ⟨ab,ao,none⟩) cS X):=⟨by rw [HX.out];exact Dc.out.bat.take k,⟨by have:=Dc.out.cap;have:=Bx.out;have:=HnS.out;omega,Dc.out.cap.2⟩,fun h=>by cases h⟩;have PO:Hid (cX w (some ⟨ab,ao+k,none⟩) G):=⟨Kk.out,fun _=>⟨ab,ao+k,rfl,fun j hj=>by
  obtain ⟨ab',ao',h1,h2⟩:=Dc.out.bat.2 (by have:=HnS.out;omega);cases h1
  rw [Bo.out] at hj;rw [Nat.add_assoc,h2 (k+j) (by have:=HnS.out;omega),EU.out];congr 2;simp [List.getD_eq_getElem?_getD]⟩⟩
 have CC:Hid (∀ x,qw w x→qc 159 #[qp d,.int .i64 e,.int .i64 n,.slice (some ⟨ab,ao,none⟩) k cS] x fun r x'=>∃ q cq,r = .returned (.slice q k cq)∧Hid (fI X (an.ct K e n X) x q cq x')):=fun x hx =>
  mg K X B d e n (some ⟨ab,ao,none⟩) k cS Bx.out (by have:=Hs.out;omega) x (Ez.out.av hx).bat (Iz.out.aG hx)
 obtain ⟨T,DF⟩:∃ T,Hid (T=an.tg K e n h X):=⟨_,rfl⟩;have Bq:Hid (T.length=32):=by show _=_;rw [DF.out,an.dq]
 have Dn:Hid (ai.aY T):=by show ai.aY T;rw [DF.out];exact an.gT _ _ _ _ _
 have Fc:Hid (∀ x,qw w x→qc 158 #[qp g,.int .i64 e,.int .i64 n,.slice ph nh ch,.slice (some ⟨ab,ao,none⟩) k cS] x (fj T x)):=fun x hx=>by
  rw [DF.out];exact l9 K h X B g e n (by omega) (by omega) ph (some ⟨ab,ao,none⟩) nh k ch cS HnS.out.1 Bx.out x (HG.out.aG hx) (Hh.out.av hx) (Ez.out.av hx) (by have:=Hs.out;omega) (Ht.out.below hx Ht.out.lt)
 have Bp:Hid (an.op K e n h S=if decide (T=G) then some (an.ct K e n X) else none):=by
  show _=_;unfold an.op;rw [HnS.out.2,show nS-32=k by omega,← HX.out,← EU.out,← DF.out,he,hn,show decide (32≤nS)=true by simp;omega];simp [eq_comm]
 rw [Bp.out];obtain ⟨A,An,Ak,Au⟩:∃ A:Array Value,Hid (A=(T.map (Value.int .u8)).toArray)∧Hid (A.size=32)∧Hid (A.all (·.oneCell')=true) :=
  ⟨_,rfl,by show _=_;simp [Bq.out],all_oneCell_toArray (aw _)⟩
 have Az:=Dc.out.cap;have J1:k≤4096:=by have:=Hs.out;omega
 rw [HnS.out.2] at Az;have Ks:Hid (∀ x gt,qw w x→cX x (some ⟨gt,0,none⟩) T→qc 17 #[.slice (some ⟨gt,0,none⟩) 32 32,.slice (some ⟨ab,ao+k,none⟩) 32 (cS-k)] x fun r x'=>r = .returned (.bool (decide (T=G)))∧qw x x'):=fun x gt hx hT =>
  abP T G _ _ 32 32 (cS-k) Bq.out Bo.out x hT (PO.out.av hx) (by omega)
 generalize decide (T=G)=b at *;clear he hn DW C0 Bp;have Ah:IntKind.i64.wrap ((nS:Int)-32)=(nS:Int)-32:=IntWalk.i64_in _ ⟨by omega,by omega⟩;have Aq:(nS:Int)-32=(k:Int):=by omega
 have Ba:¬ ((k:Int)<0):=by omega
 go_enter func129,ntmps129;have KD:k≤cS:=by omega
 have hle:(k:Int)≤(k:Int)+32:=by omega
 go_upto_region 5 with (first
  | (go_at_call 157;refine (Fb.out _).mono ?_;rintro e1 w1 ⟨rfl,rfl⟩;clear Fb)
  | (go_at_call 158;refine (Fc.out _ (Below.refl _ _)).mono ?_;rintro e4 w4 ⟨rfl,AJ⟩;rw [← An.out];have B4:=qh AJ;clear AJ Fc)
  | ((with_reducible refine ak _ _ _ _ _ _ _ ?_ ?_ (heap_alloc_new _ _) (ae Tryz.ar Ak) ?_ Au.out ?_);(exact rfl);(exact rfl);(rw [Ak.out];rfl);intro w5 G5 AZ;rw [An.out] at G5;have B5:Hid (qw w w5):=AZ.below (B4.out.alloc B4.out.size _) B4.out.size;have GX:=qh (cU G5.out Dn.out);clear AZ G5))
 generalize w4.heap.size=g4 at *;refine wp_region_any (by kernel_rfl) ?_;change wpAny _ _ _ _ _ _ _ (World.drew _)
 replace B5:Hid (qw w w5.drew):=B5.out.drew
 replace GX:=qh (GX.out.av (Below.refl _ w5).drew)
 generalize w5.drew=z at *;have QN:k+32-k=32:=by omega
 have Qy:¬ (cS-k=0):=by omega
 have LR:¬ (cS=k):=by omega
 refine au 0 33 (.slice (some ⟨g4,0,none⟩) 32 32) rfl (by kernel_rfl) (by kernel_rfl) (by kernel_rfl) (fun _ _ _ h=>h) (by rfl) (by intro w;go_simp) ?_;try simp only [Act.put,aQ,aR,aO]
 refine au 1 34 (.slice (some ⟨ab,ao,none⟩) (k+32) cS) rfl (by kernel_rfl) (by kernel_rfl) (by kernel_rfl) (fun _ _ _ h=>h) (by rfl) (by intro w;go_simp) ?_;try simp only [Act.put,aQ,aR,aO]
 refine au 2 35 (.int .i64 (k:Int)) rfl (by kernel_rfl) (by kernel_rfl) (by kernel_rfl) (fun _ _ _ h=>h) (by rfl) (by intro w;go_simp) ?_;try simp only [Act.put,aQ,aR,aO]
 refine au 3 36 (.slice (some ⟨ab,ao+k,none⟩) 32 (cS-k)) rfl (by kernel_rfl) (by kernel_rfl) (by kernel_rfl) (fun _ _ _ h=>h) (by rfl) (by intro w;go_simp) ?_;try simp only [Act.put,aQ,aR,aO]
 refine aU 4 (by kernel_rfl) ?_;refine wpOp_step rfl (fun Kc Af=>?_);go_simp;refine (Ks.out _ _ B5.out GX.out).mono ?_;rintro e8 w8 ⟨rfl,BV⟩;have B8:Hid (qw w w8):=B5.out.trans (BV.mono B5.out.size);clear BV;dsimp only;refine Af _ _ ?_;clear Af Kc;try simp only [Act.put,aQ,aR,aO]
 refine au 5 38 (.bool (!b)) rfl (by kernel_rfl) (by kernel_rfl) (by kernel_rfl) (fun _ _ _ h=>h) (by rfl) (by intro w;go_simp) ?_;try simp only [Act.put,aQ,aR,aO]
 refine wpAny_done (by kernel_rfl) ?_ _;cases b with
 | false =>
  go_wp2;go_ret2;exact cO B8.out
 | true =>
  go_upto_region 7 with (fail)
  refine wp_region_any (by kernel_rfl) ?_;change wpAny _ _ _ _ _ _ _ (World.drew _);have BD:Hid (qw w w8.drew):=B8.out.drew;generalize w8.drew=y at *;have TD:=Jo.out _ BD.out;refine wpAny_of_held (S:=fun x=>x.cell? ⟨g,0,none⟩=some (qp d)) _ _ _ _ ?_;refine aS 0 39 (qp g) TD rfl (by intro x hx;go_simp;try (intro h;omega)) ?_;refine aS 1 40 (qp g) TD rfl (by intro x hx;go_simp;try (intro h;omega)) ?_;refine aS 2 41 (qp g) TD rfl (by intro x hx;go_simp;try (intro h;omega)) ?_;refine aS 3 42 (qp d) TD rfl (by intro x hx;go_simp;try (intro h;omega)) ?_;refine aS 4 43 (.int .i64 e) TD rfl (by intro x hx;go_simp;try (intro h;omega)) ?_;refine aS 5 44 (.int .i64 n) TD rfl (by intro x hx;go_simp;try (intro h;omega)) ?_;refine aS 6 45 (.slice (some ⟨ab,ao,none⟩) (k+32) cS) TD rfl (by intro x hx;go_simp;try (intro h;omega)) ?_;refine aS 7 46 (.int .i64 (k:Int)) TD rfl (by intro x hx;go_simp;try (intro h;omega)) ?_;refine aS 8 47 (.slice (some ⟨ab,ao,none⟩) k cS) TD rfl (by intro x hx;go_simp;try (intro h;omega)) ?_;refine aD 9 (by kernel_rfl) ?_;refine wpOp_step rfl (fun Kc Af=>?_);go_simp;refine (CC.out _ BD.out).mono ?_;rintro e9 w9 ⟨q9,c9,rfl,Bv⟩;have TE:=Jo.out _ (BD.out.trans (Bv.out.below.mono BD.out.size));dsimp only;refine Af _ _ ⟨TE,?_⟩;clear Af Kc;try simp only [Act.put,aQ,aR,aO]
  refine aS 10 10 (.slice q9 k c9) TE rfl (by intro x hx;go_simp;try (intro h;omega)) ?_;refine aS 11 11 (.bool true) TE rfl (by intro x hx;go_simp;try (intro h;omega)) ?_;refine kJ (by kernel_rfl) ?_ _;go_wp2;go_ret2;exact dL Bx.out BD.out Bv.out
theorem sF (K h S:List Int) (B g:Nat) (e n:Int) (ph pS:Option Addr) (nh nS ch cS:Nat) (BL:h.length=nh) (hnS:S.length=nS)
  (w:World) (hg:jr B w g K) (hh:Bs w ph ch h) (hS:Bs w pS cS S) (hs:nh≤4096∧nS≤4096) (ht:cT w 1) :
  qc 129 #[qp g,.int .i64 e,.int .i64 n,.slice ph nh ch,.slice pS nS cS] w (bC (an.op K e n h S) w):=by
 by_cases hl:nS<32
 ·exact kT K h S e n _ _ pS nS cS hnS (by omega) (Or.inr hl) w
 ·cases h0:(bj e&&bj n) with
  | false=>exact kT K h S e n _ _ pS nS cS hnS (by omega) (Or.inl h0) w
  | true =>
   simp only [Bool.and_eq_true] at h0;obtain ⟨ab,ao,rfl,_⟩:=hS.bat.2 (by omega);exact oX K h S B g e n ph ab ao nh nS ch cS (nS-32) BL hnS (by omega) h0.1 h0.2 w hg hh hS hs ht
end
end Go.Proofs.YthgjfjmampmiiaaGreatDoor

/-
  SeU, SeV (merged)
-/
import Derived.Test.YtnnalemboeccbaaGreatDoorSe3
namespace Go.Proofs.YtnnalemboeccbaaGreatDoor

/-! SeU:  -/
section
open Go.RowKit
theorem rbox_key {B:Nat} {w:World} {g:Nat} {K:List Int} (h:RBox B w g K):∃ q cq,w.cell? ⟨g,1,none⟩=some (.slice (some ⟨q,0,none⟩) 32 cq)∧Bs w (some ⟨q,0,none⟩) cq (Seal.k2 K):=by
 obtain ⟨d,q,cq,h0,h1,h2,h3,h4,h5,h6⟩:=h
 refine ⟨q,cq,by rw [cell_of_row w g 1 _ _ _ h4];rfl,bs_row ⟨Seal.k2_byt K,fun _=>⟨q,0,rfl,fun j hj=>?_⟩⟩ ⟨by rw [Seal.k2_len];exact h2,h3⟩⟩
 rw [Nat.zero_add]
 exact h5 j (by rw [Seal.k2_len] at hj;exact hj)
theorem rbox_lt {B:Nat} {w:World} {g:Nat} {K:List Int} (h:RBox B w g K):g<w.heap.size:=by
 obtain ⟨d,q,cq,h0,h1,h2,h3,h4,h5,h6⟩:=h
 exact lt_of_block h4
theorem own_base {w:World} {B B' n s:Nat} {e:TypeId} {v:Value} {xs:List Value} (h:w.ownsRow B' e s v n xs) (hb:B≤B'):w.ownsRow B e s v n xs:=by
 refine ⟨h.1,?_⟩
 rcases h.2 with h1 | ⟨g,cap,cur,h1,h2,h3⟩
 ·exact Or.inl h1
 ·exact Or.inr ⟨g,cap,cur,h1,Nat.le_trans hb h2,h3⟩
set_option maxHeartbeats 4000000 in
set_option maxRecDepth 100000 in
theorem reftag_any (K h t:List Int) (B g:Nat) (e n:Int) (he:0≤e∧e≤9223372036854775807) (hn:0≤n∧n≤9223372036854775807) (ph pt:Option Addr) (nh nt ch ct:Nat) (hnh:h.length=nh) (hnt:t.length=nt)
  (w:World) (hg:RBox B w g K) (hh:Bs w ph ch h) (htt:Bs w pt ct t) (hl:nh+nt≤90000) (htb:Tab w 0) :
  Calls Tryz.prog 182 #[.pointer (some ⟨g,0,none⟩),.int .i64 e,.int .i64 n,.slice ph nh ch,.slice pt nt ct] w (RowSay (Seal.tg K e n h t) w):=by
 have Ht:=Lib.hid htb;clear htb
 have Hg:=Lib.hid hg;clear hg
 have Hh:=Lib.hid hh;clear hh
 have Htt:=Lib.hid htt;clear htt
 have Hnh:=Lib.hid (And.intro hnh hnt);clear hnh hnt
 have Hl:=Lib.hid hl;clear hl
 have He:=Lib.hid he;clear he
 have Hn:=Lib.hid hn;clear hn
 have HT0:Hid (∀ x,Calls Tryz.prog 207 #[.int .i64 (nh:Nat)] x (EightSay (nh:Nat) x)):=fun x=>eight_any _ ⟨by omega,by have:=Hl.out;omega⟩ x
 have HT1:Hid (∀ x,Calls Tryz.prog 207 #[.int .i64 e] x (EightSay e x)):=fun x=>eight_any _ He.out x
 have HT2:Hid (∀ x,Calls Tryz.prog 207 #[.int .i64 n] x (EightSay n x)):=fun x=>eight_any _ Hn.out x
 obtain ⟨R,HR⟩:∃ R,Hid (R=Seal.tin h e n t):=⟨_,rfl⟩
 have HRB:Hid (Sha.Byt R):=by show Sha.Byt R;rw [HR.out];exact Seal.tin_byt Hh.out.byt Htt.out.byt
 obtain ⟨N,HN⟩:∃ N,Hid (R.length=N):=⟨_,rfl⟩
 have hN1:N≤100000:=by
  have h1:=HN.out
  rw [HR.out,Seal.tin_len] at h1
  have:=Hl.out
  have:=Hnh.out
  omega
 obtain ⟨A,HA1,HA2,HA3⟩:∃ A:Array Value,Hid (A=((hm (Seal.k2 K) R).map (Value.int .u8)).toArray)∧Hid (A.size=32)∧Hid (A.all (·.oneCell')=true) :=
  ⟨_,rfl,by show _=_;simp [hm_len],all_oneCell_toArray (bytes_one _)⟩
 have HRR:Hid (((Seal.be8 (nh:Nat)++h++Seal.be8 e)++Seal.be8 n)++t=R):=by show _=_;rw [HR.out,← Hnh.out.1];unfold Seal.tin;simp only [List.append_assoc]
 have B0:Hid (Below w.heap.size w (w.alloc (.cells (List.replicate 32 (Value.int .u8 0)).toArray 39))):=(Below.refl _ w).alloc (Nat.le_refl _) _
 have R0:Hid ((w.alloc (.cells (List.replicate 32 (Value.int .u8 0)).toArray 39)).heap[w.heap.size]?=some (.cells (List.replicate 32 (Value.int .u8 0)).toArray 39 (0,0))):=heap_alloc_new w _
 have HS0:Hid (w.heap.size<(w.alloc (.cells (List.replicate 32 (Value.int .u8 0)).toArray 39)).heap.size):=lt_of_block R0.out
 rw [show RowSay (Seal.tg K e n h t) w=RowSay (hm (Seal.k2 K) R) w by unfold Seal.tg;rw [HR.out]]
 have hnh9:nh≤90000:=by have:=Hl.out;omega
 go_enter Tryz.func182,Tryz.ntmps182
 go_upto_region 3 with (first
  | (go_at_call 207;refine (HT0.out _).mono ?_;rintro e1 w1 ⟨g1,c1,rfl,O1',hb1⟩;have B1:Hid (Below w.heap.size w w1):=B0.out.trans (hb1.mono B0.out.size);have R1:=Lib.hid ((hb1.block _ (lt_of_block R0.out)).trans R0.out);have HS1:Hid (w.heap.size+1≤w1.heap.size):=Nat.le_trans HS0.out hb1.size;have O1:=Lib.hid (own_base O1'.out HS0.out);clear hb1 HT0 O1')
  | (at_builtin;refine append_bts _ _ h (w.heap.size+1) _ _ _ ph nh ch rfl rfl Hnh.out.1 (Hh.out.old B1.out) O1.out (by omega) HS1.out ?_;intro v2 w2 ho2 hg2;have O2:=Lib.hid ho2;have B2:Hid (Below w.heap.size w w2):=B1.out.grown hg2 B1.out.size (fun q hq=>by have:=(O1.out.lt q hq).1;omega);have R2:=Lib.hid ((hg2.block _ (lt_of_block R1.out) (fun e=>by have:=(O1.out.lt _ e.symm).1;omega)).trans R1.out);have HS2:Hid (w.heap.size+1≤w2.heap.size):=Nat.le_trans HS1.out hg2.size;clear ho2 hg2 O1)
  | (go_at_call 207;refine (HT1.out _).mono ?_;rintro e3 w3 ⟨g3,c3,rfl,O3,hb3⟩;have B3:Hid (Below w.heap.size w w3):=B2.out.trans (hb3.mono B2.out.size);have R3:=Lib.hid ((hb3.block _ (lt_of_block R2.out)).trans R2.out);have O23:=Lib.hid (own_keepX O2.out hb3);have X3:=Lib.hid (bs_own O3.out (Seal.be8_byt e));have HS3:Hid (w.heap.size+1≤w3.heap.size):=Nat.le_trans HS2.out hb3.size;clear hb3 HT1 O3 O2)
  | (at_builtin;refine append_bts _ _ (Seal.be8 e) (w.heap.size+1) _ _ _ _ 8 c3 rfl rfl (Seal.be8_len e) X3.out O23.out (by omega) HS3.out ?_;intro v4 w4 ho4 hg4;have O4:=Lib.hid ho4;have B4:Hid (Below w.heap.size w w4):=B3.out.grown hg4 B3.out.size (fun q hq=>by have:=(O23.out.lt q hq).1;omega);have R4:=Lib.hid ((hg4.block _ (lt_of_block R3.out) (fun e=>by have:=(O23.out.lt _ e.symm).1;omega)).trans R3.out);have HS4:Hid (w.heap.size+1≤w4.heap.size):=Nat.le_trans HS3.out hg4.size;clear ho4 hg4 O23 X3)
  | (go_at_call 207;refine (HT2.out _).mono ?_;rintro e5 w5 ⟨g5,c5,rfl,O5,hb5⟩;have B5:Hid (Below w.heap.size w w5):=B4.out.trans (hb5.mono B4.out.size);have R5:=Lib.hid ((hb5.block _ (lt_of_block R4.out)).trans R4.out);have O45:=Lib.hid (own_keepX O4.out hb5);have X5:=Lib.hid (bs_own O5.out (Seal.be8_byt n));have HS5:Hid (w.heap.size+1≤w5.heap.size):=Nat.le_trans HS4.out hb5.size;clear hb5 HT2 O5 O4)
  | (at_builtin;refine append_bts _ _ (Seal.be8 n) (w.heap.size+1) _ _ _ _ 8 c5 rfl rfl (Seal.be8_len n) X5.out O45.out (by omega) HS5.out ?_;intro v6 w6 ho6 hg6;have O6:=Lib.hid ho6;have B6:Hid (Below w.heap.size w w6):=B5.out.grown hg6 B5.out.size (fun q hq=>by have:=(O45.out.lt q hq).1;omega);have R6:=Lib.hid ((hg6.block _ (lt_of_block R5.out) (fun e=>by have:=(O45.out.lt _ e.symm).1;omega)).trans R5.out);have HS6:Hid (w.heap.size+1≤w6.heap.size):=Nat.le_trans HS5.out hg6.size;clear ho6 hg6 O45 X5))
 clear R0 R1 R2 R3 R4 R5 B0 B1 B2 B3 B4 B5 HS0 HS1 HS2 HS3 HS4 HS5
 refine wp_region_any (by kernel_rfl) ?_
 change wpAny _ _ _ _ _ _ _ (World.drew _)
 replace B6:Hid (Below w.heap.size w w6.drew):=B6.out.drew
 replace R6:Hid (w6.drew.heap[w.heap.size]?=some (.cells (List.replicate 32 (Value.int .u8 0)).toArray 39 (0,0))):=R6.out
 replace O6:=Lib.hid (own_keepX O6.out (Below.refl _ w6).drew)
 replace HS6:Hid (w.heap.size+1≤w6.drew.heap.size):=HS6.out
 generalize w6.drew=z at *
 obtain ⟨q,cq,hq1,hq2⟩:=rbox_key (Hg.out.keep B6.out)
 have HQ:=Lib.hid hq2;clear hq2
 refine any_take_g 0 24 (.pointer (some ⟨g,0,none⟩)) rfl (by kernel_rfl) (by kernel_rfl) (by kernel_rfl) (fun _ _ _ h=>h) (by rfl) (by intro w;go_simp) ?_
 try simp only [Act.put,zq1,zq2,zq3]
 refine any_take_g 1 25 (.pointer (some ⟨g,0,none⟩)) rfl (by kernel_rfl) (by kernel_rfl) (by kernel_rfl) (fun _ _ _ h=>h) (by rfl) (by intro w;go_simp) ?_
 try simp only [Act.put,zq1,zq2,zq3]
 refine any_take_g 2 26 (.pointer (some ⟨g,1,none⟩)) rfl (by kernel_rfl) (by kernel_rfl) (by kernel_rfl) (fun _ _ _ h=>h) (by rfl) (by intro w;go_simp) ?_
 try simp only [Act.put,zq1,zq2,zq3]
 refine any_take_g 4 28 v6 rfl (by kernel_rfl) (by kernel_rfl) (by kernel_rfl) (fun _ _ _ h=>h) (by rfl) (by intro w;go_simp) ?_
 try simp only [Act.put,zq1,zq2,zq3]
 refine any_take_g 5 29 (.slice pt nt ct) rfl (by kernel_rfl) (by kernel_rfl) (by kernel_rfl) (fun _ _ _ h=>h) (by rfl) (by intro w;go_simp) ?_
 try simp only [Act.put,zq1,zq2,zq3]
 have HQ':Hid (∀ x,z.grownBy x v6.ownBlock→Bs x (some ⟨q,0,none⟩) cq (Seal.k2 K)∧x.cell? ⟨g,1,none⟩=some (.slice (some ⟨q,0,none⟩) 32 cq)):=fun x hx=>by
  have hlt:=rbox_lt Hg.out
  have hbx:Below w.heap.size w x:=B6.out.grown hx B6.out.size (fun q hq=>by have:=(O6.out.lt q hq).1;omega)
  obtain ⟨q',cq',hc1,hc2⟩:=rbox_key (Hg.out.keep hbx)
  have hcc:=hx.cell hq1 (fun e=>by have h8:w.heap.size+1≤g:=(O6.out.lt g e.symm).1;have h9:g<w.heap.size:=hlt;omega)
  rw [hc1] at hcc
  cases hcc
  exact ⟨hc2,hc1⟩
 refine any_two 3 6 (by kernel_rfl) ?_ ?_
 ·refine wpOp_step rfl (fun Kc hKc=>?_)
  have hq9:=hq1
  go_simp
  refine hKc _ _ ?_
  clear hKc Kc
  try simp only [Act.put,zq1,zq2,zq3]
  refine any_one 6 (by kernel_rfl) ?_
  refine op_append_bts 6 (.tmp 28) (.tmp 29) t (w.heap.size+1) v6 _ _ pt nt ct rfl rfl rfl Hnh.out.2 (Htt.out.old B6.out) O6.out (by have:=Hl.out;omega) HS6.out ?_
  intro v7 w7 ho7 hg7
  rw [HRR.out] at ho7
  have B7:Hid (Below w.heap.size w w7):=B6.out.grown hg7 B6.out.size (fun q hq=>by have:=(O6.out.lt q hq).1;omega)
  have R7:=Lib.hid ((hg7.block _ (lt_of_block R6.out) (fun e=>by have:=(O6.out.lt _ e.symm).1;omega)).trans R6.out)
  obtain ⟨p7,c7,rfl,X7',_⟩:=own_bs ho7 HRB.out
  have X7:=Lib.hid X7'
  rw [HN.out]
  have HQ7:=Lib.hid (HQ'.out w7 hg7)
  clear ho7 hg7 X7'
  try simp only [Act.put,zq1,zq2,zq3]
  refine any_one 7 (by kernel_rfl) ?_
  refine wpOp_step rfl (fun Kc hKc=>?_)
  go_simp
  refine (ref2_of_any (Seal.k2 K) R (some ⟨q,0,none⟩) p7 32 N cq c7 (Seal.k2_len K) HN.out (by omega) (by omega) _ HQ7.out.1.bat X7.out.bat (Ht.out.below B7.out Ht.out.lt)).mono ?_
  rintro e8 w8 ⟨rfl,hb8⟩
  rw [← HA1.out]
  have B8:Hid (Below w.heap.size w w8):=B7.out.trans (hb8.mono B7.out.size)
  have R8:=Lib.hid ((hb8.block _ (lt_of_block R7.out)).trans R7.out)
  clear hb8
  dsimp only
  refine hKc _ _ ?_
  clear hKc Kc
  try simp only [Act.put,zq1,zq2,zq3]
  refine any_one 8 (by kernel_rfl) ?_
  refine op_store 8 39 (.tmp 10) (.tmp 31) rfl w.heap.size 0 39 (List.replicate 32 (Value.int .u8 0)) A rfl rfl R8.out (row_size Tryz.sizeSum HA2) (by rw [HA2.out];simp) HA3.out ?_
  intro w9 g9 ch9
  try simp only [Act.put,zq1,zq2,zq3]
  refine wpAny_done (by kernel_rfl) ?_ _
  have G9:Hid (w9.heap[w.heap.size]?=some (.cells A 39 (0,0))):=by
   have h:=g9.out
   have e:splice (List.replicate 32 (Value.int .u8 0)) 0 A.toList=A.toList:=by
    unfold splice
    rw [List.take_zero,List.nil_append,Array.length_toList,HA2.out,List.drop_of_length_le (by simp),List.append_nil]
   rw [e,Array.toArray_toList] at h
   exact h
  clear g9
  go_wp2
  refine bodyPost_ret (results_cell_row rfl _ _ w.heap.size 39 A (0,0) _ rfl G9.out Tryz.underlying39 rfl (row_size Tryz.sizeSum HA2)) rfl ⟨?_,ch9.below B8.out (Nat.le_refl _)⟩
  rw [HA1.out]
 ·refine op_append_bts 6 (.tmp 28) (.tmp 29) t (w.heap.size+1) v6 _ _ pt nt ct rfl rfl rfl Hnh.out.2 (Htt.out.old B6.out) O6.out (by have:=Hl.out;omega) HS6.out ?_
  intro v7 w7 ho7 hg7
  rw [HRR.out] at ho7
  have B7:Hid (Below w.heap.size w w7):=B6.out.grown hg7 B6.out.size (fun q hq=>by have:=(O6.out.lt q hq).1;omega)
  have R7:=Lib.hid ((hg7.block _ (lt_of_block R6.out) (fun e=>by have:=(O6.out.lt _ e.symm).1;omega)).trans R6.out)
  obtain ⟨p7,c7,rfl,X7',_⟩:=own_bs ho7 HRB.out
  have X7:=Lib.hid X7'
  rw [HN.out]
  have HQ7:=Lib.hid (HQ'.out w7 hg7)
  clear ho7 hg7 X7'
  try simp only [Act.put,zq1,zq2,zq3]
  refine any_one 3 (by kernel_rfl) ?_
  refine wpOp_step rfl (fun Kc hKc=>?_)
  have hq9:=HQ7.out.2
  go_simp
  refine hKc _ _ ?_
  clear hKc Kc
  try simp only [Act.put,zq1,zq2,zq3]
  refine any_one 7 (by kernel_rfl) ?_
  refine wpOp_step rfl (fun Kc hKc=>?_)
  go_simp
  refine (ref2_of_any (Seal.k2 K) R (some ⟨q,0,none⟩) p7 32 N cq c7 (Seal.k2_len K) HN.out (by omega) (by omega) _ HQ7.out.1.bat X7.out.bat (Ht.out.below B7.out Ht.out.lt)).mono ?_
  rintro e8 w8 ⟨rfl,hb8⟩
  rw [← HA1.out]
  have B8:Hid (Below w.heap.size w w8):=B7.out.trans (hb8.mono B7.out.size)
  have R8:=Lib.hid ((hb8.block _ (lt_of_block R7.out)).trans R7.out)
  clear hb8
  dsimp only
  refine hKc _ _ ?_
  clear hKc Kc
  try simp only [Act.put,zq1,zq2,zq3]
  refine any_one 8 (by kernel_rfl) ?_
  refine op_store 8 39 (.tmp 10) (.tmp 31) rfl w.heap.size 0 39 (List.replicate 32 (Value.int .u8 0)) A rfl rfl R8.out (row_size Tryz.sizeSum HA2) (by rw [HA2.out];simp) HA3.out ?_
  intro w9 g9 ch9
  try simp only [Act.put,zq1,zq2,zq3]
  refine wpAny_done (by kernel_rfl) ?_ _
  have G9:Hid (w9.heap[w.heap.size]?=some (.cells A 39 (0,0))):=by
   have h:=g9.out
   have e:splice (List.replicate 32 (Value.int .u8 0)) 0 A.toList=A.toList:=by
    unfold splice
    rw [List.take_zero,List.nil_append,Array.length_toList,HA2.out,List.drop_of_length_le (by simp),List.append_nil]
   rw [e,Array.toArray_toList] at h
   exact h
  clear g9
  go_wp2
  refine bodyPost_ret (results_cell_row rfl _ _ w.heap.size 39 A (0,0) _ rfl G9.out Tryz.underlying39 rfl (row_size Tryz.sizeSum HA2)) rfl ⟨?_,ch9.below B8.out (Nat.le_refl _)⟩
  rw [HA1.out]
end

/-! SeV:  -/
section
open Go.RowKit
theorem rbox_ciph {B:Nat} {w:World} {g:Nat} {K:List Int} (h:RBox B w g K):∃ d,w.cell? ⟨g,0,none⟩=some (.pointer (some ⟨d,0,none⟩))∧RCiphB B w d (4*(4+7)) (Aes.up (Aes.rb (Aes.kyl (Seal.k1 K) 4)) (16*(4+7))):=by
 obtain ⟨d,q,cq,h0,h1,h2,h3,h4,h5,h6⟩:=h
 exact ⟨d,by rw [cell_of_row w g 0 _ _ _ h4];rfl,h6⟩
theorem refxor_any (K L:List Int) (B d:Nat) (e n:Int) (p:Option Addr) (k c:Nat) (hk:L.length=k) (hL:k≤8192) (w:World) (hp:BAt w p L) (hc:RCiphB B w d (4*(4+7)) (Aes.up (Aes.rb (Aes.kyl (Seal.k1 K) 4)) (16*(4+7)))) :
  Calls Tryz.prog 183 #[.pointer (some ⟨d,0,none⟩),.int .i64 e,.int .i64 n,.slice p k c] w fun r w'=>∃ q cq,r = .returned (.slice q k cq)∧Hid (XorGot L (Seal.ct K e n L) w q cq w'):=by
 subst hk
 unfold Seal.ct Seal.ks
 exact rxor_key (Seal.k1 K) (k1_byt K) 4 (by omega) (Seal.k1_len K) B d e n L p c hL w hp hc
theorem bs_grown {z x:World} {g c:Nat} {T:List Int} {O:Obj} (h:Bs z (some ⟨g,0,none⟩) c T) (_hT:T.length=32) (hg:(z.alloc O).grownBy x (some z.heap.size)):Bs x (some ⟨g,0,none⟩) c T:=by
 refine ⟨⟨h.bat.1,fun h0=>?_⟩,h.cap,fun e=>by cases e⟩
 obtain ⟨ab,ao,h1,h2⟩:=h.bat.2 h0
 cases h1
 refine ⟨g,0,rfl,fun j hj=>?_⟩
 have hc:=h2 j hj
 have hlt:g<z.heap.size:=World.block_lt_of_cell? z _ hc
 have hc2:(z.alloc O).cell? ⟨g,0+j,none⟩=some (.int .u8 (T.getD j 0)):=(World.cell?_of_block (heap_alloc_old _ _ hlt)).trans hc
 exact hg.cell hc2 (fun e=>by have e2:g=z.heap.size:=Option.some.inj e;omega)
set_option maxHeartbeats 2000000 in
set_option maxRecDepth 100000 in
theorem refseal_any (K h L:List Int) (B g:Nat) (e n:Int) (ph pl:Option Addr) (nh nl ch cl:Nat) (hnh:h.length=nh) (hnl:L.length=nl)
  (w:World) (hg:RBox B w g K) (hh:Bs w ph ch h) (hl:Bs w pl cl L) (hs:nh≤4096∧nl≤4096) (ht:Tab w 0) :
  Calls Tryz.prog 166 #[.pointer (some ⟨g,0,none⟩),.int .i64 e,.int .i64 n,.slice ph nh ch,.slice pl nl cl] w (OwnSay (Seal.sl K e n h L) w):=by
 have HRI:Hid (∀ x,Calls Tryz.prog 181 #[.int .i64 e,.int .i64 n] x fun r x'=>r = .returned (.bool (inR e&&inR n))∧x=x'):=fun x=>(seal_right e n x).mono fun _ _ q=>⟨q.1,q.2.symm⟩
 cases hin:(inR e&&inR n) with
 | false =>
  rw [Seal.sl_bad hin]
  rw [hin] at HRI
  go_enter Tryz.func166,Tryz.ntmps166
  go_wp2_with (go_at_call 181;refine (HRI.out _).mono ?_;rintro e1 w1 ⟨rfl,rfl⟩)
  go_ret
  exact ⟨none,0,0,rfl,rfl,(by unfold U8s;exact World.ownsRow_nil _ _ _ _),bs_none _,Below.refl _ _⟩
 | true =>
  rw [hin] at HRI
  simp only [Bool.and_eq_true] at hin
  obtain ⟨he,hn⟩:=hin
  obtain ⟨d,hd0,hdc⟩:=rbox_ciph hg
  have Ht:=Lib.hid ht;clear ht
  have HG:=Lib.hid hg;clear hg
  have HDC:=Lib.hid hdc;clear hdc
  have Hh:=Lib.hid hh;clear hh
  have Hl:=Lib.hid hl;clear hl
  have Hs:=Lib.hid hs;clear hs
  have Hnn:=Lib.hid (And.intro hnh hnl);clear hnh hnl
  have he2:0≤e∧e≤1099511627776:=by unfold inR at he;simpa using he
  have hn2:0≤n∧n≤1099511627776:=by unfold inR at hn;simpa using hn
  obtain ⟨X,HX⟩:∃ X,Hid (X=Seal.ct K e n L):=⟨_,rfl⟩
  have HXL:Hid (X.length=nl):=by show _=_;rw [HX.out,Seal.ct_len];exact Hnn.out.2
  have HXR:Hid (Calls Tryz.prog 183 #[.pointer (some ⟨d,0,none⟩),.int .i64 e,.int .i64 n,.slice pl nl cl] w fun r x'=>∃ q cq,r = .returned (.slice q nl cq)∧Hid (XorGot L X w q cq x')):=by
   rw [HX.out]
   exact refxor_any K L B d e n pl nl cl Hnn.out.2 (by have:=Hs.out;omega) w Hl.out.bat HDC.out
  obtain ⟨T,HTT⟩:∃ T,Hid (T=Seal.tg K e n h X):=⟨_,rfl⟩
  have HTL:Hid (T.length=32):=by show _=_;rw [HTT.out,Seal.tg_len]
  have HTB:Hid (Sha.Byt T):=by show Sha.Byt T;rw [HTT.out];exact Seal.tg_byt _ _ _ _ _
  have HXB:Hid (Sha.Byt X):=by show Sha.Byt X;rw [HX.out];exact Seal.ct_byt _ _ _ _
  have HTG:Hid (∀ x q cq,Below w.heap.size w x→Bs x q cq X→Calls Tryz.prog 182 #[.pointer (some ⟨g,0,none⟩),.int .i64 e,.int .i64 n,.slice ph nh ch,.slice q nl cq] x (RowSay T x)):=fun x q cq hx hq=>by
   rw [HTT.out]
   exact reftag_any K h X B g e n (by omega) (by omega) ph q nh nl ch cq Hnn.out.1 HXL.out x (HG.out.keep hx) (Hh.out.old hx) hq (by have:=Hs.out;omega) (Ht.out.below hx Ht.out.lt)
  have HRES:Hid (Seal.sl K e n h L=X++T):=by show _=_;rw [Seal.sl_good he hn,← HX.out,← HTT.out]
  rw [HRES.out]
  have HRB:Hid (Sha.Byt (X++T)):=Sha.byt_append HXB.out HTB.out
  obtain ⟨A,HA1,HA2,HA3⟩:∃ A:Array Value,Hid (A=(T.map (Value.int .u8)).toArray)∧Hid (A.size=32)∧Hid (A.all (·.oneCell')=true) :=
   ⟨_,rfl,by show _=_;simp [HTL.out],all_oneCell_toArray (bytes_one _)⟩
  clear he hn he2 hn2
  go_enter Tryz.func166,Tryz.ntmps166
  go_upto_region 5 with (first
   | (go_at_call 181;refine (HRI.out _).mono ?_;rintro e1 w1 ⟨rfl,rfl⟩;clear HRI)
   | (go_at_call 183;refine HXR.out.mono ?_;rintro e3 w3 ⟨q3,c3,rfl,HGOT⟩;have B3:=Lib.hid HGOT.out.below;have BX3:=Lib.hid (bs_xor HGOT.out);clear HGOT HXR)
   | (go_at_call 182;refine (HTG.out _ q3 c3 B3.out BX3.out).mono ?_;rintro e4 w4 ⟨rfl,hb4⟩;rw [← HA1.out];have B34:=Lib.hid hb4;clear hb4 HTG)
   | ((with_reducible refine row_store _ _ _ _ _ _ _ ?_ ?_ (heap_alloc_new _ _) (row_size Tryz.sizeSum HA2) ?_ HA3.out ?_);(exact rfl);(exact rfl);(rw [HA2.out];rfl);intro w5 G5 ch5;rw [HA1.out] at G5;have B45:=Lib.hid (ch5.below ((Below.refl _ w4).alloc (Nat.le_refl _) _) (Nat.le_refl _));have B35:Hid (Below w3.heap.size w3 w5):=B34.out.trans (B45.out.mono B34.out.size);have BX5:=Lib.hid (BX3.out.old B35.out);have BT5:=Lib.hid (bs_row (c:=32) (bat_row G5.out HTB.out) ⟨by rw [HTL.out];exact Nat.le_refl _,by omega⟩);have B5:Hid (Below w.heap.size w w5):=B3.out.trans (B35.out.mono B3.out.size);clear ch5 G5))
  clear B34 B35 B45 BX3 B3
  generalize w4.heap.size=g4 at *
  refine wp_region_any (by kernel_rfl) ?_
  change wpAny _ _ _ _ _ _ _ (World.drew _)
  replace B5:Hid (Below w.heap.size w w5.drew):=B5.out.drew
  replace BX5:=Lib.hid (BX5.out.old (Below.refl _ w5).drew)
  replace BT5:=Lib.hid (BT5.out.old (Below.refl _ w5).drew)
  generalize w5.drew=z at *
  refine any_take_g 1 32 (.slice q3 nl c3) rfl (by kernel_rfl) (by kernel_rfl) (by kernel_rfl) (fun _ _ _ h=>h) (by rfl) (by intro w;go_simp) ?_
  try simp only [Act.put,zq1,zq2,zq3]
  refine any_take_g 3 34 (.slice (some ⟨g4,0,none⟩) 32 32) rfl (by kernel_rfl) (by kernel_rfl) (by kernel_rfl) (fun _ _ _ h=>h) (by rfl) (by intro w;go_simp) ?_
  try simp only [Act.put,zq1,zq2,zq3]
  refine any_one 0 (by kernel_rfl) ?_
  refine wpOp_step rfl (fun Kc hKc=>?_)
  go_simp
  refine hKc _ _ ?_
  clear hKc Kc
  try simp only [Act.put,zq1,zq2,zq3]
  have BE:Hid (Below z.heap.size z (z.alloc (.cells #[] 5))):=(Below.refl _ z).alloc (Nat.le_refl _) _
  have BZ:=Lib.hid (B5.out.trans (BE.out.mono B5.out.size))
  have OE:=Lib.hid (own_empty z w.heap.size B5.out.size)
  refine any_one 2 (by kernel_rfl) ?_
  refine op_append_bts 2 (.tmp 31) (.tmp 32) X w.heap.size _ 0 [] q3 nl c3 rfl rfl rfl HXL.out (BX5.out.old BE.out) OE.out (by have:=Hs.out;omega) BZ.out.size ?_
  intro v6 w6 ho6 hg6
  rw [List.nil_append] at ho6
  have O6:=Lib.hid ho6
  have B6:Hid (Below w.heap.size w w6):=BZ.out.grown hg6 BZ.out.size (fun q hq=>(OE.out.lt q hq).1)
  have BT6:Hid (Bs w6 (some ⟨g4,0,none⟩) 32 T):=bs_grown BT5.out HTL.out hg6
  clear ho6 hg6
  try simp only [Act.put,zq1,zq2,zq3]
  refine any_one 4 (by kernel_rfl) ?_
  refine op_append_bts 4 (.tmp 33) (.tmp 34) T w.heap.size v6 _ X (some ⟨g4,0,none⟩) 32 32 rfl rfl rfl HTL.out BT6.out O6.out (by have:=Hs.out;omega) B6.out.size ?_
  intro v7 w7 ho7 hg7
  have O7:=Lib.hid ho7
  have B7:Hid (Below w.heap.size w w7):=B6.out.grown hg7 B6.out.size (fun q hq=>(O6.out.lt q hq).1)
  clear ho7 hg7
  try simp only [Act.put,zq1,zq2,zq3]
  refine any_take_g 5 10 v7 rfl (by kernel_rfl) (by kernel_rfl) (by kernel_rfl) (fun _ _ _ h=>h) (by rfl) (by intro w;go_simp) ?_
  try simp only [Act.put,zq1,zq2,zq3]
  refine wpAny_done (by kernel_rfl) ?_ _
  go_wp2
  go_ret
  exact ownsay_of O7.out HRB.out B7.out
set_option maxRecDepth 100000 in
theorem refopen_bad (K h S:List Int) (e n:Int) (vg vh:Value) (pS:Option Addr) (nS cS:Nat) (hnS:S.length=nS) (hs:nS≤200000) (h0:(inR e&&inR n)=false∨nS<32) (w:World) :
  Calls Tryz.prog 148 #[vg,.int .i64 e,.int .i64 n,vh,.slice pS nS cS] w (OpenSay (Seal.op K e n h S) w):=by
 rw [show Seal.op K e n h S=none by
  rcases h0 with h1 | h1
  ·exact Seal.op_bad h1 _ _ _
  ·exact Seal.op_short _ _ _ _ _ (by omega)]
 have HRI:Hid (∀ x,Calls Tryz.prog 181 #[.int .i64 e,.int .i64 n] x fun r x'=>r = .returned (.bool (inR e&&inR n))∧x=x'):=fun x=>(seal_right e n x).mono fun _ _ q=>⟨q.1,q.2.symm⟩
 have fin:OpenSay none w (.returned (.tuple #[.slice none 0 0,.bool false])) w:=opensay_none (Below.refl _ _)
 have hw:IntKind.i64.wrap ((nS:Int)-32)=(nS:Int)-32:=IntWalk.i64_in _ ⟨by omega,by omega⟩
 cases hin:(inR e&&inR n) with
 | false =>
  rw [hin] at HRI
  go_enter Tryz.func148,Tryz.ntmps148
  go_wp2_with (go_at_call 181;refine (HRI.out _).mono ?_;rintro e1 w1 ⟨rfl,rfl⟩)
  go_ret2
  exact fin
 | true =>
  rw [hin] at HRI
  have hlt:(nS:Int)-32<0:=by
   rcases h0 with h1 | h1
   ·rw [hin] at h1;cases h1
   ·omega
  go_enter Tryz.func148,Tryz.ntmps148
  go_wp2_with (go_at_call 181;refine (HRI.out _).mono ?_;rintro e1 w1 ⟨rfl,rfl⟩)
  go_ret2
  exact fin
set_option maxHeartbeats 4000000 in
set_option maxRecDepth 100000 in
theorem refopen_good (K h S:List Int) (B g:Nat) (e n:Int) (ph:Option Addr) (ab ao nh nS ch cS k:Nat) (hnh:h.length=nh) (hnS:S.length=nS) (hk:nS=k+32) (he:inR e=true) (hn:inR n=true)
  (w:World) (hg:RBox B w g K) (hh:Bs w ph ch h) (hS:Bs w (some ⟨ab,ao,none⟩) cS S) (hs:nh≤4096∧nS≤4096) (ht:Tab w 0) :
  Calls Tryz.prog 148 #[.pointer (some ⟨g,0,none⟩),.int .i64 e,.int .i64 n,.slice ph nh ch,.slice (some ⟨ab,ao,none⟩) nS cS] w (OpenSay (Seal.op K e n h S) w):=by
 have HRI:Hid (∀ x,Calls Tryz.prog 181 #[.int .i64 e,.int .i64 n] x fun r x'=>r = .returned (.bool true)∧x=x'):=fun x=>by
  have h1:=seal_right e n x
  rw [he,hn] at h1
  exact h1.mono fun _ _ q=>⟨q.1,q.2.symm⟩
 obtain ⟨d,hd0,hdc⟩:=rbox_ciph hg
 have Ht:=Lib.hid ht;clear ht
 have HG:=Lib.hid hg;clear hg
 have HDC:=Lib.hid hdc;clear hdc
 have HD0:Hid (∀ x,Below w.heap.size w x→x.cell? ⟨g,0,none⟩=some (.pointer (some ⟨d,0,none⟩))):=fun x hx=>(hx.cell (World.block_lt_of_cell? w _ hd0)).trans hd0
 clear hd0
 have Hh:=Lib.hid hh;clear hh
 have HSS:=Lib.hid hS;clear hS
 have Hs:=Lib.hid hs;clear hs
 have HnS:=Lib.hid (And.intro hnh hnS);clear hnh hnS
 have he2:0≤e∧e≤1099511627776:=by unfold inR at he;simpa using he
 have hn2:0≤n∧n≤1099511627776:=by unfold inR at hn;simpa using hn
 obtain ⟨X,HX⟩:∃ X,Hid (X=S.take k):=⟨_,rfl⟩
 have HXL:Hid (X.length=k):=by show _=_;rw [HX.out,List.length_take];have:=HnS.out;omega
 obtain ⟨G,HGT⟩:∃ G,Hid (G=S.drop k):=⟨_,rfl⟩
 have HGL:Hid (G.length=32):=by show _=_;rw [HGT.out,List.length_drop];have:=HnS.out;omega
 have HGB:Hid (Sha.Byt G):=by show Sha.Byt G;rw [HGT.out];exact fun x hx=>HSS.out.byt x (List.mem_of_mem_drop hx)
 have HBX:Hid (Bs w (some ⟨ab,ao,none⟩) cS X):=⟨by rw [HX.out];exact HSS.out.bat.take k,⟨by have:=HSS.out.cap;have:=HXL.out;have:=HnS.out;omega,HSS.out.cap.2⟩,fun h=>by cases h⟩
 have HBG:Hid (BAt w (some ⟨ab,ao+k,none⟩) G):=⟨HGB.out,fun _=>⟨ab,ao+k,rfl,fun j hj=>by
  obtain ⟨ab',ao',h1,h2⟩:=HSS.out.bat.2 (by have:=HnS.out;omega)
  cases h1
  rw [HGL.out] at hj
  rw [Nat.add_assoc,h2 (k+j) (by have:=HnS.out;omega),HGT.out]
  congr 2
  simp [List.getD_eq_getElem?_getD]⟩⟩
 have HXR:Hid (∀ x,Below w.heap.size w x→Calls Tryz.prog 183 #[.pointer (some ⟨d,0,none⟩),.int .i64 e,.int .i64 n,.slice (some ⟨ab,ao,none⟩) k cS] x fun r x'=>∃ q cq,r = .returned (.slice q k cq)∧Hid (XorGot X (Seal.ct K e n X) x q cq x')):=fun x hx =>
  refxor_any K X B d e n (some ⟨ab,ao,none⟩) k cS HXL.out (by have:=Hs.out;omega) x (HBX.out.old hx).bat (HDC.out.keep hx)
 obtain ⟨T,HTT⟩:∃ T,Hid (T=Seal.tg K e n h X):=⟨_,rfl⟩
 have HTL:Hid (T.length=32):=by show _=_;rw [HTT.out,Seal.tg_len]
 have HTB:Hid (Sha.Byt T):=by show Sha.Byt T;rw [HTT.out];exact Seal.tg_byt _ _ _ _ _
 have HTG:Hid (∀ x,Below w.heap.size w x→Calls Tryz.prog 182 #[.pointer (some ⟨g,0,none⟩),.int .i64 e,.int .i64 n,.slice ph nh ch,.slice (some ⟨ab,ao,none⟩) k cS] x (RowSay T x)):=fun x hx=>by
  rw [HTT.out]
  exact reftag_any K h X B g e n (by omega) (by omega) ph (some ⟨ab,ao,none⟩) nh k ch cS HnS.out.1 HXL.out x (HG.out.keep hx) (Hh.out.old hx) (HBX.out.old hx) (by have:=Hs.out;omega) (Ht.out.below hx Ht.out.lt)
 have HOP:Hid (Seal.op K e n h S=if decide (T=G) then some (Seal.ct K e n X) else none):=by
  show _=_
  unfold Seal.op
  rw [HnS.out.2,show nS-32=k by omega,← HX.out,← HGT.out,← HTT.out,he,hn,show decide (32≤nS)=true by simp;omega]
  simp [eq_comm]
 rw [HOP.out]
 obtain ⟨A,HA1,HA2,HA3⟩:∃ A:Array Value,Hid (A=(T.map (Value.int .u8)).toArray)∧Hid (A.size=32)∧Hid (A.all (·.oneCell')=true) :=
  ⟨_,rfl,by show _=_;simp [HTL.out],all_oneCell_toArray (bytes_one _)⟩
 have hcap:=HSS.out.cap
 have hkk:k≤4096:=by have:=Hs.out;omega
 rw [HnS.out.2] at hcap
 have HSM:Hid (∀ x gt,Below w.heap.size w x→BAt x (some ⟨gt,0,none⟩) T→Calls Tryz.prog 18 #[.slice (some ⟨gt,0,none⟩) 32 32,.slice (some ⟨ab,ao+k,none⟩) 32 (cS-k)] x fun r x'=>r = .returned (.bool (decide (T=G)))∧Below x.heap.size x x'):=fun x gt hx hT =>
  same_gen T G _ _ 32 32 (cS-k) HTL.out HGL.out x hT (HBG.out.old hx) (by omega)
 generalize decide (T=G)=b at *
 clear he hn he2 hn2 HOP
 have hw0:IntKind.i64.wrap ((nS:Int)-32)=(nS:Int)-32:=IntWalk.i64_in _ ⟨by omega,by omega⟩
 have hw1:(nS:Int)-32=(k:Int):=by omega
 have hw2:¬ ((k:Int)<0):=by omega
 go_enter Tryz.func148,Tryz.ntmps148
 have hkc:k≤cS:=by omega
 have hle:(k:Int)≤(k:Int)+32:=by omega
 go_upto_region 5 with (first
  | (go_at_call 181;refine (HRI.out _).mono ?_;rintro e1 w1 ⟨rfl,rfl⟩;clear HRI)
  | (go_at_call 182;refine (HTG.out _ (Below.refl _ _)).mono ?_;rintro e4 w4 ⟨rfl,hb4⟩;rw [← HA1.out];have B4:=Lib.hid hb4;clear hb4 HTG)
  | ((with_reducible refine row_store _ _ _ _ _ _ _ ?_ ?_ (heap_alloc_new _ _) (row_size Tryz.sizeSum HA2) ?_ HA3.out ?_);(exact rfl);(exact rfl);(rw [HA2.out];rfl);intro w5 G5 ch5;rw [HA1.out] at G5;have B5:Hid (Below w.heap.size w w5):=ch5.below (B4.out.alloc B4.out.size _) B4.out.size;have BT5:=Lib.hid (bat_row G5.out HTB.out);clear ch5 G5))
 generalize w4.heap.size=g4 at *
 refine wp_region_any (by kernel_rfl) ?_
 change wpAny _ _ _ _ _ _ _ (World.drew _)
 replace B5:Hid (Below w.heap.size w w5.drew):=B5.out.drew
 replace BT5:=Lib.hid (BT5.out.old (Below.refl _ w5).drew)
 generalize w5.drew=z at *
 have hnk:k+32-k=32:=by omega
 have hck:¬ (cS-k=0):=by omega
 have hck2:¬ (cS=k):=by omega
 refine any_take_g 0 33 (.slice (some ⟨g4,0,none⟩) 32 32) rfl (by kernel_rfl) (by kernel_rfl) (by kernel_rfl) (fun _ _ _ h=>h) (by rfl) (by intro w;go_simp) ?_
 try simp only [Act.put,zq1,zq2,zq3]
 refine any_take_g 1 34 (.slice (some ⟨ab,ao,none⟩) (k+32) cS) rfl (by kernel_rfl) (by kernel_rfl) (by kernel_rfl) (fun _ _ _ h=>h) (by rfl) (by intro w;go_simp) ?_
 try simp only [Act.put,zq1,zq2,zq3]
 refine any_take_g 2 35 (.int .i64 (k:Int)) rfl (by kernel_rfl) (by kernel_rfl) (by kernel_rfl) (fun _ _ _ h=>h) (by rfl) (by intro w;go_simp) ?_
 try simp only [Act.put,zq1,zq2,zq3]
 refine any_take_g 3 36 (.slice (some ⟨ab,ao+k,none⟩) 32 (cS-k)) rfl (by kernel_rfl) (by kernel_rfl) (by kernel_rfl) (fun _ _ _ h=>h) (by rfl) (by intro w;go_simp) ?_
 try simp only [Act.put,zq1,zq2,zq3]
 refine any_one 4 (by kernel_rfl) ?_
 refine wpOp_step rfl (fun Kc hKc=>?_)
 go_simp
 refine (HSM.out _ _ B5.out BT5.out).mono ?_
 rintro e8 w8 ⟨rfl,hb8⟩
 have B8:Hid (Below w.heap.size w w8):=B5.out.trans (hb8.mono B5.out.size)
 clear hb8
 dsimp only
 refine hKc _ _ ?_
 clear hKc Kc
 try simp only [Act.put,zq1,zq2,zq3]
 refine any_take_g 5 38 (.bool (!b)) rfl (by kernel_rfl) (by kernel_rfl) (by kernel_rfl) (fun _ _ _ h=>h) (by rfl) (by intro w;go_simp) ?_
 try simp only [Act.put,zq1,zq2,zq3]
 refine wpAny_done (by kernel_rfl) ?_ _
 cases b with
 | false =>
  go_wp2
  go_ret2
  exact opensay_none B8.out
 | true =>
  go_upto_region 7 with (fail)
  refine wp_region_any (by kernel_rfl) ?_
  change wpAny _ _ _ _ _ _ _ (World.drew _)
  have BD:Hid (Below w.heap.size w w8.drew):=B8.out.drew
  generalize w8.drew=y at *
  have TD:=HD0.out _ BD.out
  refine wpAny_of_held (S:=fun x=>x.cell? ⟨g,0,none⟩=some (.pointer (some ⟨d,0,none⟩))) _ _ _ _ ?_
  refine aH 0 39 (.pointer (some ⟨g,0,none⟩)) TD rfl (by intro x hx;go_simp;try (intro h;omega)) ?_
  try simp only [Act.put,zq1,zq2,zq3]
  refine aH 1 40 (.pointer (some ⟨g,0,none⟩)) TD rfl (by intro x hx;go_simp;try (intro h;omega)) ?_
  try simp only [Act.put,zq1,zq2,zq3]
  refine aH 2 41 (.pointer (some ⟨g,0,none⟩)) TD rfl (by intro x hx;go_simp;try (intro h;omega)) ?_
  try simp only [Act.put,zq1,zq2,zq3]
  refine aH 3 42 (.pointer (some ⟨d,0,none⟩)) TD rfl (by intro x hx;go_simp;try (intro h;omega)) ?_
  try simp only [Act.put,zq1,zq2,zq3]
  refine aH 4 43 (.int .i64 e) TD rfl (by intro x hx;go_simp;try (intro h;omega)) ?_
  try simp only [Act.put,zq1,zq2,zq3]
  refine aH 5 44 (.int .i64 n) TD rfl (by intro x hx;go_simp;try (intro h;omega)) ?_
  try simp only [Act.put,zq1,zq2,zq3]
  refine aH 6 45 (.slice (some ⟨ab,ao,none⟩) (k+32) cS) TD rfl (by intro x hx;go_simp;try (intro h;omega)) ?_
  try simp only [Act.put,zq1,zq2,zq3]
  refine aH 7 46 (.int .i64 (k:Int)) TD rfl (by intro x hx;go_simp;try (intro h;omega)) ?_
  try simp only [Act.put,zq1,zq2,zq3]
  refine aH 8 47 (.slice (some ⟨ab,ao,none⟩) k cS) TD rfl (by intro x hx;go_simp;try (intro h;omega)) ?_
  try simp only [Act.put,zq1,zq2,zq3]
  refine anyH_one 9 (by kernel_rfl) ?_
  refine wpOp_step rfl (fun Kc hKc=>?_)
  go_simp
  refine (HXR.out _ BD.out).mono ?_
  rintro e9 w9 ⟨q9,c9,rfl,HGOT⟩
  have TE:=HD0.out _ (BD.out.trans (HGOT.out.below.mono BD.out.size))
  dsimp only
  refine hKc _ _ ⟨TE,?_⟩
  clear hKc Kc
  try simp only [Act.put,zq1,zq2,zq3]
  refine aH 10 10 (.slice q9 k c9) TE rfl (by intro x hx;go_simp;try (intro h;omega)) ?_
  try simp only [Act.put,zq1,zq2,zq3]
  refine aH 11 11 (.bool true) TE rfl (by intro x hx;go_simp;try (intro h;omega)) ?_
  try simp only [Act.put,zq1,zq2,zq3]
  refine anyH_done (by kernel_rfl) ?_ _
  go_wp2
  go_ret2
  exact opensay_some HXL.out BD.out HGOT.out
theorem refopen_any (K h S:List Int) (B g:Nat) (e n:Int) (ph pS:Option Addr) (nh nS ch cS:Nat) (hnh:h.length=nh) (hnS:S.length=nS)
  (w:World) (hg:RBox B w g K) (hh:Bs w ph ch h) (hS:Bs w pS cS S) (hs:nh≤4096∧nS≤4096) (ht:Tab w 0) :
  Calls Tryz.prog 148 #[.pointer (some ⟨g,0,none⟩),.int .i64 e,.int .i64 n,.slice ph nh ch,.slice pS nS cS] w (OpenSay (Seal.op K e n h S) w):=by
 by_cases hl:nS<32
 ·exact refopen_bad K h S e n _ _ pS nS cS hnS (by omega) (Or.inr hl) w
 ·cases h0:(inR e&&inR n) with
  | false=>exact refopen_bad K h S e n _ _ pS nS cS hnS (by omega) (Or.inl h0) w
  | true =>
   simp only [Bool.and_eq_true] at h0
   obtain ⟨ab,ao,rfl,_⟩:=hS.bat.2 (by omega)
   exact refopen_good K h S B g e n ph ab ao nh nS ch cS (nS-32) hnh hnS (by omega) h0.1 h0.2 w hg hh hS hs ht
end
end Go.Proofs.YtnnalemboeccbaaGreatDoor

import Derived.Test.YtnnalemboeccbaaGreatDoorB3
namespace Go.Proofs.YtnnalemboeccbaaGreatDoor
section
open Go.RowKit
theorem splice_full (cur cs:List Value) (h:cs.length=cur.length):splice cur 0 cs=cs:=by
 unfold splice
 rw [List.take_zero,List.drop_of_length_le (by omega)]
 simp
set_option maxHeartbeats 8000000 in
set_option maxRecDepth 100000 in
theorem block_core (T ks l:List Int) (N c kb cap:Nat) (hl:l.length=16) (hlb:Sha.Byt l) (hN:N≤100) (w:World) (hT:Tbl w c T)
  (hc:w.cell? ⟨c,256,none⟩=some (.slice (some ⟨kb,0,none⟩) (N+2) cap)) (hcap:N+2≤cap) (hcm:cap≤9223372036854775807) (hks:∀ j,j<4*(N+2)→w.cell? ⟨kb,j,none⟩=some (.int .u32 (ks.getD j 0))) :
  Calls Tryz.prog 253 #[.pointer (some ⟨c,0,none⟩),Bk l] w (BkSay (Aes.blk T ks N l) w):=by
 unfold Bk
 have Hl:=Lib.hid hl;clear hl
 have Hlb:=Lib.hid hlb;clear hlb
 have HT:=Lib.hid hT;clear hT
 have hcl:c<w.heap.size:=World.block_lt_of_cell? w _ hc
 have hkl:kb<w.heap.size:=World.block_lt_of_cell? w _ (hks 0 (by omega))
 have HCW:Hid (∀ x,Below w.heap.size w x→x.cell? ⟨c,256,none⟩=some (.slice (some ⟨kb,0,none⟩) (N+2) cap)):=fun x hx=>(hx.cell hcl).trans hc
 have HKW:Hid (∀ x,Below w.heap.size w x→∀ j,j<4*(N+2)→x.cell? ⟨kb,j,none⟩=some (.int .u32 (ks.getD j 0))):=fun x hx j hj=>(hx.cell hkl).trans (hks j hj)
 have HTW:Hid (∀ x,Below w.heap.size w x→Tbl x c T):=fun x hx=>HT.out.below hx hcl
 clear hc hks HT
 obtain ⟨A,HA0,HA1⟩:∃ A:Array Value,Hid (A=(l.map (Value.int .u8)).toArray)∧Hid (A.size=16):=⟨_,rfl,by show _=_;simp [Hl.out]⟩
 rw [← HA0.out]
 have HTS:Hid (∀ x,Calls Tryz.prog 256 #[.agg A] x fun e w'=>e = .returned (.agg #[.int .u32 (Aes.wk l 0),.int .u32 (Aes.wk l 4),.int .u32 (Aes.wk l 8),.int .u32 (Aes.wk l 12)])∧Below x.heap.size x w'):=fun x=>by
  have h:=tostate_any l Hl.out Hlb.out x
  unfold Bk StSay St4 at h
  rw [← HA0.out] at h
  exact h
 have HLD:Hid (∀ x,Calls Tryz.prog 255 #[.agg #[.int .u32 (Aes.wk l 0),.int .u32 (Aes.wk l 4),.int .u32 (Aes.wk l 8),.int .u32 (Aes.wk l 12)],.agg #[.int .u32 (ks.getD 0 0),.int .u32 (ks.getD 1 0),.int .u32 (ks.getD 2 0),.int .u32 (ks.getD 3 0)]] x fun e w'=>e = .returned (.agg (stc (Aes.rounds T ks (Aes.toW l) 0)))∧Below x.heap.size x w'):=fun x=>by
  have h:=laid_any (Aes.wk l 0) (Aes.wk l 4) (Aes.wk l 8) (Aes.wk l 12) (ks.getD 0 0) (ks.getD 1 0) (ks.getD 2 0) (ks.getD 3 0) x
  unfold StSay St4 at h
  rw [Aes.rounds_zero]
  exact h
 have HMVW:Hid (∀ (s:Aes.W) (x:World),Below w.heap.size w x→Calls Tryz.prog 258 #[.pointer (some ⟨c,0,none⟩),.agg (stc s)] x fun e w'=>e = .returned (.agg (stc (Aes.mvd T s)))∧Below x.heap.size x w'):=fun s x hx=>by
  have h:=moved_any T c s.a s.b s.c s.d x (HTW.out x hx) (Nat.lt_of_lt_of_le hcl hx.size)
  unfold StSay St4 at h
  exact h
 have HMX:Hid (∀ (s:Aes.W) (x:World),Calls Tryz.prog 257 #[.agg (stc s)] x fun e w'=>e = .returned (.agg (stc (Aes.mxd s)))∧Below x.heap.size x w'):=fun s x=>by
  have h:=mixed_any s.a s.b s.c s.d x
  unfold StSay St4 at h
  exact h
 clear HA0 Hl Hlb
 go_enter Tryz.func253,Tryz.ntmps253
 go_upto_region 1 with fail
 have HX:Hid (((w.alloc (.cells A 246)).alloc (.cells #[.int .u8 0,.int .u8 0,.int .u8 0,.int .u8 0,.int .u8 0,.int .u8 0,.int .u8 0,.int .u8 0,.int .u8 0,.int .u8 0,.int .u8 0,.int .u8 0,.int .u8 0,.int .u8 0,.int .u8 0,.int .u8 0] 246)).heap[w.heap.size]?=some (.cells A 246 (0,0))):=heap_alloc2_old w _ _
 have HR:Hid (((w.alloc (.cells A 246)).alloc (.cells #[.int .u8 0,.int .u8 0,.int .u8 0,.int .u8 0,.int .u8 0,.int .u8 0,.int .u8 0,.int .u8 0,.int .u8 0,.int .u8 0,.int .u8 0,.int .u8 0,.int .u8 0,.int .u8 0,.int .u8 0,.int .u8 0] 246)).heap[w.heap.size+1]?=some (.cells #[.int .u8 0,.int .u8 0,.int .u8 0,.int .u8 0,.int .u8 0,.int .u8 0,.int .u8 0,.int .u8 0,.int .u8 0,.int .u8 0,.int .u8 0,.int .u8 0,.int .u8 0,.int .u8 0,.int .u8 0,.int .u8 0] 246 (0,0))):=heap_alloc2_new w _ _
 have HB:Hid (Below w.heap.size w ((w.alloc (.cells A 246)).alloc (.cells #[.int .u8 0,.int .u8 0,.int .u8 0,.int .u8 0,.int .u8 0,.int .u8 0,.int .u8 0,.int .u8 0,.int .u8 0,.int .u8 0,.int .u8 0,.int .u8 0,.int .u8 0,.int .u8 0,.int .u8 0,.int .u8 0] 246))):=((Below.refl _ w).alloc (Nat.le_refl _) _).alloc (by simp) _
 generalize (w.alloc (.cells A 246)).alloc (.cells #[.int .u8 0,.int .u8 0,.int .u8 0,.int .u8 0,.int .u8 0,.int .u8 0,.int .u8 0,.int .u8 0,.int .u8 0,.int .u8 0,.int .u8 0,.int .u8 0,.int .u8 0,.int .u8 0,.int .u8 0,.int .u8 0] 246)=w1 at *
 have c256:=HCW.out w1 HB.out
 go_upto_region 2 with fail
 rw [show ((N:Int)+2-1)=((N+1:Nat):Int) by omega]
 refine wp_region_any (by kernel_rfl) ?_
 change wpAny _ _ _ _ _ _ _ (World.drew _)
 have Sx0:Hid (Below w.heap.size w w1.drew∧w1.drew.heap[w.heap.size]?=some (.cells A 246 (0,0))):=⟨HB.out.drew,HX.out⟩
 have Rx0:Hid (w1.drew.heap[w.heap.size+1]?=some (.cells #[.int .u8 0,.int .u8 0,.int .u8 0,.int .u8 0,.int .u8 0,.int .u8 0,.int .u8 0,.int .u8 0,.int .u8 0,.int .u8 0,.int .u8 0,.int .u8 0,.int .u8 0,.int .u8 0,.int .u8 0,.int .u8 0] 246 (0,0))):=HR.out
 clear HX HR HB c256
 generalize w1.drew=x0 at *
 refine wpAny_of_L (S:=fun x:World=>Below w.heap.size w x∧x.heap[w.heap.size]?=some (.cells A 246 (0,0))) (k:=10) _ _ _ _ ?_
 refine aL 10 0 15 (.agg A) Sx0.out rfl (fun x hx=>exec_row _ _ w.heap.size _ A _ _ rfl hx.2 Tryz.underlying246 rfl (row_size Tryz.size16 HA1)) ?_
 try simp only [Act.put,zq1,zq2,zq3]
 refine aL 10 2 17 (.pointer (some ⟨c,0,none⟩)) Sx0.out rfl (by intro x hx;go_simp) ?_
 try simp only [Act.put,zq1,zq2,zq3]
 refine aL 10 3 18 (.pointer (some ⟨c,0,none⟩)) Sx0.out rfl (by intro x hx;go_simp) ?_
 try simp only [Act.put,zq1,zq2,zq3]
 refine aL 10 4 19 (.pointer (some ⟨c,256,none⟩)) Sx0.out rfl (by intro x hx;go_simp) ?_
 try simp only [Act.put,zq1,zq2,zq3]
 refine aL 10 5 20 (.slice (some ⟨kb,0,none⟩) (N+2) cap) Sx0.out rfl (by intro x hx;have h256:=HCW.out x hx.1;go_simp) ?_
 try simp only [Act.put,zq1,zq2,zq3]
 refine aL 10 6 21 (.pointer (some ⟨kb,0,none⟩)) Sx0.out rfl (by intro x hx;go_simp;try (intro h;omega)) ?_
 try simp only [Act.put,zq1,zq2,zq3]
 refine aL 10 7 22 (.agg #[.int .u32 (ks.getD 0 0),.int .u32 (ks.getD 1 0),.int .u32 (ks.getD 2 0),.int .u32 (ks.getD 3 0)]) Sx0.out rfl (by intro x hx;have k0:=HKW.out x hx.1 0 (by omega);have k1:=HKW.out x hx.1 1 (by omega);have k2:=HKW.out x hx.1 2 (by omega);have k3:=HKW.out x hx.1 3 (by omega);go_simp) ?_
 try simp only [Act.put,zq1,zq2,zq3]
 refine anyL_two 10 1 9 (by kernel_rfl) ?_ ?_
 ·refine wpOp_step rfl (fun Kc hKc=>?_)
  go_simp
  refine (HTS.out _).mono ?_
  rintro e x1 ⟨rfl,hb⟩
  have Sx1:Hid (Below w.heap.size w x1∧x1.heap[w.heap.size]?=some (.cells A 246 (0,0))):=⟨Sx0.out.1.trans (hb.mono Sx0.out.1.size),(hb.block _ (lt_of_block Sx0.out.2)).trans Sx0.out.2⟩
  have Bx1:=Lib.hid hb;clear hb
  dsimp only
  refine hKc _ _ ⟨fun _=>Sx1.out,?_⟩
  clear hKc Kc
  try simp only [Act.put,zq1,zq2,zq3]
  have Rx1:Hid (x1.heap[w.heap.size+1]?=some (.cells #[.int .u8 0,.int .u8 0,.int .u8 0,.int .u8 0,.int .u8 0,.int .u8 0,.int .u8 0,.int .u8 0,.int .u8 0,.int .u8 0,.int .u8 0,.int .u8 0,.int .u8 0,.int .u8 0,.int .u8 0,.int .u8 0] 246 (0,0))):=(Bx1.out.block _ (lt_of_block Rx0.out)).trans Rx0.out
  refine anyL_two 10 8 9 (by kernel_rfl) ?_ ?_
  ·refine wpOp_step rfl (fun Kc hKc=>?_)
   go_simp
   refine (HLD.out _).mono ?_
   rintro e x2 ⟨rfl,hb⟩
   have Sx2:Hid (Below w.heap.size w x2∧x2.heap[w.heap.size]?=some (.cells A 246 (0,0))):=⟨Sx1.out.1.trans (hb.mono Sx1.out.1.size),(hb.block _ (lt_of_block Sx1.out.2)).trans Sx1.out.2⟩
   have Bx2:=Lib.hid hb;clear hb
   dsimp only
   refine hKc _ _ ⟨fun _=>Sx2.out,?_⟩
   clear hKc Kc
   try simp only [Act.put,zq1,zq2,zq3]
   have Rx2:Hid (x2.heap[w.heap.size+1]?=some (.cells #[.int .u8 0,.int .u8 0,.int .u8 0,.int .u8 0,.int .u8 0,.int .u8 0,.int .u8 0,.int .u8 0,.int .u8 0,.int .u8 0,.int .u8 0,.int .u8 0,.int .u8 0,.int .u8 0,.int .u8 0,.int .u8 0] 246 (0,0))):=(Bx2.out.block _ (lt_of_block Rx1.out)).trans Rx1.out
   refine anyL_one 10 9 (by kernel_rfl) ?_
   refine wpOp_step rfl (fun Kc hKc=>?_)
   go_simp
   have Sx3:Hid (Below w.heap.size w (x2.alloc (.cells #[.int .u32 0,.int .u32 0,.int .u32 0,.int .u32 0] 154))∧(x2.alloc (.cells #[.int .u32 0,.int .u32 0,.int .u32 0,.int .u32 0] 154)).heap[w.heap.size]?=some (.cells A 246 (0,0))):=⟨Sx2.out.1.alloc Sx2.out.1.size _,(heap_alloc_old _ _ (lt_of_block Sx2.out.2)).trans Sx2.out.2⟩
   have Zx3:Hid ((x2.alloc (.cells #[.int .u32 0,.int .u32 0,.int .u32 0,.int .u32 0] 154)).heap[x2.heap.size]?=some (.cells #[.int .u32 0,.int .u32 0,.int .u32 0,.int .u32 0] 154 (0,0))):=heap_alloc_new _ _
   have Rx3:Hid ((x2.alloc (.cells #[.int .u32 0,.int .u32 0,.int .u32 0,.int .u32 0] 154)).heap[w.heap.size+1]?=some (.cells #[.int .u8 0,.int .u8 0,.int .u8 0,.int .u8 0,.int .u8 0,.int .u8 0,.int .u8 0,.int .u8 0,.int .u8 0,.int .u8 0,.int .u8 0,.int .u8 0,.int .u8 0,.int .u8 0,.int .u8 0,.int .u8 0] 246 (0,0))):=(heap_alloc_old _ _ (lt_of_block Rx2.out)).trans Rx2.out
   have G6:Hid (w.heap.size+2≤x2.heap.size):=lt_of_block Rx2.out
   refine hKc _ _ ⟨fun _=>Sx3.out,?_⟩
   clear hKc Kc
   generalize x2.alloc (.cells #[.int .u32 0,.int .u32 0,.int .u32 0,.int .u32 0] 154)=x3 at *
   generalize x2.heap.size=g6 at *
   try simp only [Act.put,zq1,zq2,zq3]
   refine anyL_one 10 10 (by kernel_rfl) ?_
   refine op_store 10 154 (.tmp 6) (.tmp 23) rfl g6 0 _ [.int .u32 0,.int .u32 0,.int .u32 0,.int .u32 0] (stc (Aes.rounds T ks (Aes.toW l) 0)) rfl rfl Zx3.out Tryz.size_st (by show 0+4≤4;omega) (stc_one _) ?_
   intro x9 G9 ch9
   refine ⟨fun h=>absurd rfl h,?_⟩
   refine anyL_done (by kernel_rfl) ?_ _
   have F9:Hid (x9.heap[g6]?=some (.cells (stc (Aes.rounds T ks (Aes.toW l) 0)) 154 (0,0))):=G9.out
   have R9:Hid (x9.heap[w.heap.size+1]?=some (.cells #[.int .u8 0,.int .u8 0,.int .u8 0,.int .u8 0,.int .u8 0,.int .u8 0,.int .u8 0,.int .u8 0,.int .u8 0,.int .u8 0,.int .u8 0,.int .u8 0,.int .u8 0,.int .u8 0,.int .u8 0,.int .u8 0] 246 (0,0))):=(ch9.block _ (by have:=G6.out;omega)).trans Rx3.out
   have B9:Hid (Below w.heap.size w x9):=ch9.below Sx3.out.1 (by have:=G6.out;omega)
   have c256:=HCW.out x9 B9.out
   go_upto_region 3 with fail
   go_wp2
   go_loopw [31] (fun v wr=>∃ j:Nat,j≤N∧v = .int .i64 j∧Hid (wr.heap[g6]?=some (.cells (stc (Aes.rounds T ks (Aes.toW l) j)) 154 (0,0)))∧Hid (wr.heap[w.heap.size+1]?=some (.cells #[.int .u8 0,.int .u8 0,.int .u8 0,.int .u8 0,.int .u8 0,.int .u8 0,.int .u8 0,.int .u8 0,.int .u8 0,.int .u8 0,.int .u8 0,.int .u8 0,.int .u8 0,.int .u8 0,.int .u8 0,.int .u8 0] 246 (0,0)))∧Hid (Below w.heap.size w wr)) (fun v _=>N-(intOf v).toNat)
   case atStart=>exact ⟨0,by omega,rfl,F9.out,R9.out,B9.out⟩
   case round =>
    clear F9 R9 B9 c256
    obtain ⟨j,hj,rfl,HF,HR,HB⟩:=hrel
    have HMV:=HMVW
    by_cases hlt:j<N
    ·have hji:(j:Int)<(N:Int):=by omega
     have q0:=HKW.out wr HB.out (4*(j+1)) (by omega)
     have q1:=HKW.out wr HB.out (4*(j+1)+1) (by omega)
     have q2:=HKW.out wr HB.out (4*(j+1)+2) (by omega)
     have q3:=HKW.out wr HB.out (4*(j+1)+3) (by omega)
     have e0:wr.cell? ⟨kb,4+j*4,none⟩=some (.int .u32 (ks.getD (4*(j+1)) 0)):=by rw [show 4+j*4=4*(j+1) by omega];exact q0
     have e1:wr.cell? ⟨kb,4+j*4+1,none⟩=some (.int .u32 (ks.getD (4*(j+1)+1) 0)):=by rw [show 4+j*4+1=4*(j+1)+1 by omega];exact q1
     have e2:wr.cell? ⟨kb,4+j*4+2,none⟩=some (.int .u32 (ks.getD (4*(j+1)+2) 0)):=by rw [show 4+j*4+2=4*(j+1)+2 by omega];exact q2
     have e3:wr.cell? ⟨kb,4+j*4+3,none⟩=some (.int .u32 (ks.getD (4*(j+1)+3) 0)):=by rw [show 4+j*4+3=4*(j+1)+3 by omega];exact q3
     clear q0 q1 q2 q3
     have HLY:Hid (∀ x,Calls Tryz.prog 255 #[.agg (stc (Aes.mxd (Aes.mvd T (Aes.rounds T ks (Aes.toW l) j)))),.agg #[.int .u32 (ks.getD (4*(j+1)) 0),.int .u32 (ks.getD (4*(j+1)+1) 0),.int .u32 (ks.getD (4*(j+1)+2) 0),.int .u32 (ks.getD (4*(j+1)+3) 0)]] x fun e w'=>e = .returned (.agg (stc (Aes.rounds T ks (Aes.toW l) (j+1))))∧Below x.heap.size x w'):=fun x=>by
      have h:=laid_any (Aes.mxd (Aes.mvd T (Aes.rounds T ks (Aes.toW l) j))).a (Aes.mxd (Aes.mvd T (Aes.rounds T ks (Aes.toW l) j))).b (Aes.mxd (Aes.mvd T (Aes.rounds T ks (Aes.toW l) j))).c (Aes.mxd (Aes.mvd T (Aes.rounds T ks (Aes.toW l) j))).d (ks.getD (4*(j+1)) 0) (ks.getD (4*(j+1)+1) 0) (ks.getD (4*(j+1)+2) 0) (ks.getD (4*(j+1)+3) 0) x
      unfold StSay St4 at h
      rw [Aes.rounds_succ]
      exact h
     generalize Aes.rounds T ks (Aes.toW l) j=s at *
     generalize ks.getD (4*(j+1)) 0=y0 at *
     generalize ks.getD (4*(j+1)+1) 0=y1 at *
     generalize ks.getD (4*(j+1)+2) 0=y2 at *
     generalize ks.getD (4*(j+1)+3) 0=y3 at *
     go_upto_region 6 with fail
     have HF7:Hid ((wr.alloc (.cells #[.int .u32 y0,.int .u32 y1,.int .u32 y2,.int .u32 y3] 154)).heap[g6]?=some (.cells (stc s) 154 (0,0))):=(heap_alloc_old _ _ (lt_of_block HF.out)).trans HF.out
     have HR7:Hid ((wr.alloc (.cells #[.int .u32 y0,.int .u32 y1,.int .u32 y2,.int .u32 y3] 154)).heap[w.heap.size+1]?=some (.cells #[.int .u8 0,.int .u8 0,.int .u8 0,.int .u8 0,.int .u8 0,.int .u8 0,.int .u8 0,.int .u8 0,.int .u8 0,.int .u8 0,.int .u8 0,.int .u8 0,.int .u8 0,.int .u8 0,.int .u8 0,.int .u8 0] 246 (0,0))):=(heap_alloc_old _ _ (lt_of_block HR.out)).trans HR.out
     have HB7:Hid (Below w.heap.size w (wr.alloc (.cells #[.int .u32 y0,.int .u32 y1,.int .u32 y2,.int .u32 y3] 154))):=HB.out.alloc HB.out.size _
     have HY7:Hid ((wr.alloc (.cells #[.int .u32 y0,.int .u32 y1,.int .u32 y2,.int .u32 y3] 154)).heap[wr.heap.size]?=some (.cells #[.int .u32 y0,.int .u32 y1,.int .u32 y2,.int .u32 y3] 154 (0,0))):=heap_alloc_new _ _
     clear HF HR HB e0 e1 e2 e3
     generalize wr.alloc (.cells #[.int .u32 y0,.int .u32 y1,.int .u32 y2,.int .u32 y3] 154)=w7 at *
     generalize wr.heap.size=g8 at *
     refine wp_region_any (by kernel_rfl) ?_
     change wpAny _ _ _ _ _ _ _ (World.drew _)
     have HF8:Hid (w7.drew.heap[g6]?=some (.cells (stc s) 154 (0,0))):=HF7.out
     have HR8:Hid (w7.drew.heap[w.heap.size+1]?=some (.cells #[.int .u8 0,.int .u8 0,.int .u8 0,.int .u8 0,.int .u8 0,.int .u8 0,.int .u8 0,.int .u8 0,.int .u8 0,.int .u8 0,.int .u8 0,.int .u8 0,.int .u8 0,.int .u8 0,.int .u8 0,.int .u8 0] 246 (0,0))):=HR7.out
     have HB8:Hid (Below w.heap.size w w7.drew):=HB7.out.drew
     have HY8:Hid (w7.drew.heap[g8]?=some (.cells #[.int .u32 y0,.int .u32 y1,.int .u32 y2,.int .u32 y3] 154 (0,0))):=HY7.out
     clear HF7 HR7 HB7 HY7
     generalize w7.drew=w8 at *
     have Sz0:Hid (Below w8.heap.size w8 w8):=Below.refl _ _
     refine wpAny_of_L (S:=fun x:World=>Below w8.heap.size w8 x) (k:=6) _ _ _ _ ?_
     refine aL 6 0 35 (.pointer (some ⟨c,0,none⟩)) Sz0.out rfl (by intro x hx;go_simp) ?_
     try simp only [Act.put,zq1,zq2,zq3]
     refine aL 6 1 36 (.agg (stc s)) Sz0.out rfl (fun x hx=>exec_row _ _ g6 _ (stc s) _ _ rfl ((hx.block _ (lt_of_block HF8.out)).trans HF8.out) Tryz.underlying154 rfl Tryz.size_st) ?_
     try simp only [Act.put,zq1,zq2,zq3]
     refine aL 6 4 39 (.agg #[.int .u32 y0,.int .u32 y1,.int .u32 y2,.int .u32 y3]) Sz0.out rfl (fun x hx=>exec_row _ _ g8 _ #[.int .u32 y0,.int .u32 y1,.int .u32 y2,.int .u32 y3] _ _ rfl ((hx.block _ (lt_of_block HY8.out)).trans HY8.out) Tryz.underlying154 rfl Tryz.size_st) ?_
     try simp only [Act.put,zq1,zq2,zq3]
     refine anyL_one 6 2 (by kernel_rfl) ?_
     refine wpOp_step rfl (fun Kc hKc=>?_)
     go_simp
     refine (HMV.out s _ (HB8.out.trans (Sz0.out.mono HB8.out.size))).mono ?_
     rintro e z1 ⟨rfl,hb⟩
     have Sz1:Hid (Below w8.heap.size w8 z1):=Sz0.out.trans (hb.mono Sz0.out.size)
     clear hb
     dsimp only
     refine hKc _ _ ⟨fun _=>Sz1.out,?_⟩
     clear hKc Kc
     try simp only [Act.put,zq1,zq2,zq3]
     refine anyL_one 6 3 (by kernel_rfl) ?_
     refine wpOp_step rfl (fun Kc hKc=>?_)
     go_simp
     refine (HMX.out (Aes.mvd T s) _).mono ?_
     rintro e z2 ⟨rfl,hb⟩
     have Sz2:Hid (Below w8.heap.size w8 z2):=Sz1.out.trans (hb.mono Sz1.out.size)
     clear hb
     dsimp only
     refine hKc _ _ ⟨fun _=>Sz2.out,?_⟩
     clear hKc Kc
     try simp only [Act.put,zq1,zq2,zq3]
     refine anyL_one 6 5 (by kernel_rfl) ?_
     refine wpOp_step rfl (fun Kc hKc=>?_)
     go_simp
     refine (HLY.out _).mono ?_
     rintro e z3 ⟨rfl,hb⟩
     have Sz3:Hid (Below w8.heap.size w8 z3):=Sz2.out.trans (hb.mono Sz2.out.size)
     clear hb
     dsimp only
     refine hKc _ _ ⟨fun _=>Sz3.out,?_⟩
     clear hKc Kc
     try simp only [Act.put,zq1,zq2,zq3]
     refine anyL_one 6 6 (by kernel_rfl) ?_
     refine op_store 6 154 (.tmp 6) (.tmp 40) rfl g6 0 _ [.int .u32 s.a,.int .u32 s.b,.int .u32 s.c,.int .u32 s.d] (stc (Aes.rounds T ks (Aes.toW l) (j+1))) rfl rfl ((Sz3.out.block _ (lt_of_block HF8.out)).trans HF8.out) Tryz.size_st (by show 0+4≤4;omega) (stc_one _) ?_
     intro x9 G9 ch9
     refine ⟨fun h=>absurd rfl h,?_⟩
     refine anyL_done (by kernel_rfl) ?_ _
     have F10:Hid (x9.heap[g6]?=some (.cells (stc (Aes.rounds T ks (Aes.toW l) (j+1))) 154 (0,0))):=G9.out
     have R10:Hid (x9.heap[w.heap.size+1]?=some (.cells #[.int .u8 0,.int .u8 0,.int .u8 0,.int .u8 0,.int .u8 0,.int .u8 0,.int .u8 0,.int .u8 0,.int .u8 0,.int .u8 0,.int .u8 0,.int .u8 0,.int .u8 0,.int .u8 0,.int .u8 0,.int .u8 0] 246 (0,0))):=(ch9.block _ (by have:=G6.out;omega)).trans ((Sz3.out.block _ (lt_of_block HR8.out)).trans HR8.out)
     have B10:Hid (Below w.heap.size w x9):=ch9.below (HB8.out.trans (Sz3.out.mono HB8.out.size)) (by have:=G6.out;omega)
     clear G9 ch9 HF8 HR8 HB8 HY8 HMV HMX HLY
     go_wp2
     exact ⟨⟨j+1,by omega,by go_num,F10,R10,B10⟩,by simp [intOf];omega⟩
    ·have hge:N≤j:=by omega
     have hji:(N:Int)≤(j:Int):=by omega
     obtain rfl:j=N:=by omega
     have HZW:Hid (∀ x,Below w.heap.size w x→x.cell? ⟨kb,(j+1)*4,none⟩=some (.int .u32 (ks.getD (4*(j+1)) 0))∧x.cell? ⟨kb,(j+1)*4+1,none⟩=some (.int .u32 (ks.getD (4*(j+1)+1) 0))∧x.cell? ⟨kb,(j+1)*4+2,none⟩=some (.int .u32 (ks.getD (4*(j+1)+2) 0))∧x.cell? ⟨kb,(j+1)*4+3,none⟩=some (.int .u32 (ks.getD (4*(j+1)+3) 0))):=fun x hx=>by
      rw [show (j+1)*4=4*(j+1) by omega]
      exact ⟨HKW.out x hx _ (by omega),HKW.out x hx _ (by omega),HKW.out x hx _ (by omega),HKW.out x hx _ (by omega)⟩
     have HLZ:Hid (∀ x,Calls Tryz.prog 255 #[.agg (stc (Aes.mvd T (Aes.rounds T ks (Aes.toW l) j))),.agg #[.int .u32 (ks.getD (4*(j+1)) 0),.int .u32 (ks.getD (4*(j+1)+1) 0),.int .u32 (ks.getD (4*(j+1)+2) 0),.int .u32 (ks.getD (4*(j+1)+3) 0)]] x fun e w'=>e = .returned (.agg (stc (Aes.last T ks j (Aes.toW l))))∧Below x.heap.size x w'):=fun x=>by
      have h:=laid_any (Aes.mvd T (Aes.rounds T ks (Aes.toW l) j)).a (Aes.mvd T (Aes.rounds T ks (Aes.toW l) j)).b (Aes.mvd T (Aes.rounds T ks (Aes.toW l) j)).c (Aes.mvd T (Aes.rounds T ks (Aes.toW l) j)).d (ks.getD (4*(j+1)) 0) (ks.getD (4*(j+1)+1) 0) (ks.getD (4*(j+1)+2) 0) (ks.getD (4*(j+1)+3) 0) x
      unfold StSay St4 at h
      exact h
     obtain ⟨FB,HFB,HFS,HFO⟩:∃ FB:Array Value,Hid (FB=((Aes.blk T ks j l).map (Value.int .u8)).toArray)∧Hid (FB.size=16)∧Hid (FB.all (·.oneCell')=true):=⟨_,rfl,by show _=_;simp [Aes.blk_len],u8_all _⟩
     have HTO:Hid (∀ x,Calls Tryz.prog 259 #[.agg (stc (Aes.last T ks j (Aes.toW l)))] x fun e w'=>e = .returned (.agg FB)∧Below x.heap.size x w'):=fun x=>by
      have h:=toblock_any (Aes.last T ks j (Aes.toW l)).a (Aes.last T ks j (Aes.toW l)).b (Aes.last T ks j (Aes.toW l)).c (Aes.last T ks j (Aes.toW l)).d x
      unfold BkSay Bk St4 at h
      rw [HFB.out]
      exact h
     generalize Aes.last T ks j (Aes.toW l)=sl at *
     generalize Aes.rounds T ks (Aes.toW l) j=s at *
     generalize ks.getD (4*(j+1)) 0=z0 at *
     generalize ks.getD (4*(j+1)+1) 0=z1 at *
     generalize ks.getD (4*(j+1)+2) 0=z2 at *
     generalize ks.getD (4*(j+1)+3) 0=z3 at *
     go_upto_region 8 with fail
     refine wp_region_any (by kernel_rfl) ?_
     change wpAny _ _ _ _ _ _ _ (World.drew _)
     have HF8:Hid (wr.drew.heap[g6]?=some (.cells (stc s) 154 (0,0))):=HF.out
     have HR8:Hid (wr.drew.heap[w.heap.size+1]?=some (.cells #[.int .u8 0,.int .u8 0,.int .u8 0,.int .u8 0,.int .u8 0,.int .u8 0,.int .u8 0,.int .u8 0,.int .u8 0,.int .u8 0,.int .u8 0,.int .u8 0,.int .u8 0,.int .u8 0,.int .u8 0,.int .u8 0] 246 (0,0))):=HR.out
     have HB8:Hid (Below w.heap.size w wr.drew):=HB.out.drew
     clear HF HR HB
     generalize wr.drew=w8 at *
     have Sz0:Hid (Below w8.heap.size w8 w8):=Below.refl _ _
     refine wpAny_of_L (S:=fun x:World=>Below w8.heap.size w8 x) (k:=12) _ _ _ _ ?_
     refine aL 12 0 42 (.pointer (some ⟨c,0,none⟩)) Sz0.out rfl (by intro x hx;go_simp) ?_
     try simp only [Act.put,zq1,zq2,zq3]
     refine aL 12 1 43 (.agg (stc s)) Sz0.out rfl (fun x hx=>exec_row _ _ g6 _ (stc s) _ _ rfl ((hx.block _ (lt_of_block HF8.out)).trans HF8.out) Tryz.underlying154 rfl Tryz.size_st) ?_
     try simp only [Act.put,zq1,zq2,zq3]
     refine aL 12 3 45 (.pointer (some ⟨c,0,none⟩)) Sz0.out rfl (by intro x hx;go_simp) ?_
     try simp only [Act.put,zq1,zq2,zq3]
     refine aL 12 4 46 (.pointer (some ⟨c,0,none⟩)) Sz0.out rfl (by intro x hx;go_simp) ?_
     try simp only [Act.put,zq1,zq2,zq3]
     refine aL 12 5 47 (.pointer (some ⟨c,256,none⟩)) Sz0.out rfl (by intro x hx;go_simp) ?_
     try simp only [Act.put,zq1,zq2,zq3]
     refine aL 12 6 48 (.slice (some ⟨kb,0,none⟩) (j+2) cap) Sz0.out rfl (by intro x hx;have h256:=HCW.out x (HB8.out.trans (hx.mono HB8.out.size));go_simp) ?_
     try simp only [Act.put,zq1,zq2,zq3]
     refine aL 12 7 49 (.int .i64 ((j:Int)+1)) Sz0.out rfl (by intro x hx;go_simp) ?_
     try simp only [Act.put,zq1,zq2,zq3]
     refine aL 12 8 50 (.pointer (some ⟨kb,(j+1)*4,none⟩)) Sz0.out rfl (by intro x hx;go_simp;try (intro h;omega)) ?_
     try simp only [Act.put,zq1,zq2,zq3]
     refine aL 12 9 51 (.agg #[.int .u32 z0,.int .u32 z1,.int .u32 z2,.int .u32 z3]) Sz0.out rfl (by intro x hx;obtain ⟨k0,k1,k2,k3⟩:=HZW.out x (HB8.out.trans (hx.mono HB8.out.size));go_simp) ?_
     try simp only [Act.put,zq1,zq2,zq3]
     refine anyL_one 12 2 (by kernel_rfl) ?_
     refine wpOp_step rfl (fun Kc hKc=>?_)
     go_simp
     refine (HMV.out s _ (HB8.out.trans (Sz0.out.mono HB8.out.size))).mono ?_
     rintro e z1 ⟨rfl,hb⟩
     have Sz1:Hid (Below w8.heap.size w8 z1):=Sz0.out.trans (hb.mono Sz0.out.size)
     clear hb
     dsimp only
     refine hKc _ _ ⟨fun _=>Sz1.out,?_⟩
     clear hKc Kc
     try simp only [Act.put,zq1,zq2,zq3]
     refine anyL_one 12 10 (by kernel_rfl) ?_
     refine wpOp_step rfl (fun Kc hKc=>?_)
     go_simp
     refine (HLZ.out _).mono ?_
     rintro e z2 ⟨rfl,hb⟩
     have Sz2:Hid (Below w8.heap.size w8 z2):=Sz1.out.trans (hb.mono Sz1.out.size)
     clear hb
     dsimp only
     refine hKc _ _ ⟨fun _=>Sz2.out,?_⟩
     clear hKc Kc
     try simp only [Act.put,zq1,zq2,zq3]
     refine anyL_one 12 11 (by kernel_rfl) ?_
     refine wpOp_step rfl (fun Kc hKc=>?_)
     go_simp
     refine (HTO.out _).mono ?_
     rintro e z3 ⟨rfl,hb⟩
     have Sz3:Hid (Below w8.heap.size w8 z3):=Sz2.out.trans (hb.mono Sz2.out.size)
     clear hb
     dsimp only
     refine hKc _ _ ⟨fun _=>Sz3.out,?_⟩
     clear hKc Kc
     try simp only [Act.put,zq1,zq2,zq3]
     refine anyL_one 12 12 (by kernel_rfl) ?_
     refine op_store 12 246 (.tmp 4) (.tmp 53) rfl (w.heap.size+1) 0 _ [.int .u8 0,.int .u8 0,.int .u8 0,.int .u8 0,.int .u8 0,.int .u8 0,.int .u8 0,.int .u8 0,.int .u8 0,.int .u8 0,.int .u8 0,.int .u8 0,.int .u8 0,.int .u8 0,.int .u8 0,.int .u8 0] FB rfl rfl ((Sz3.out.block _ (lt_of_block HR8.out)).trans HR8.out) (row_size Tryz.size16 HFS) (by rw [HFS.out];show 0+16≤16;omega) HFO.out ?_
     intro x9 G9 ch9
     refine ⟨fun h=>absurd rfl h,?_⟩
     refine anyL_done (by kernel_rfl) ?_ _
     have F10:Hid (x9.heap[w.heap.size+1]?=some (.cells FB 246 (0,0))):=by
      have h:=G9.out
      rw [splice_full _ _ (by rw [Array.length_toList,HFS.out];rfl)] at h
      exact h
     have B10:Hid (Below w.heap.size w x9):=ch9.below (HB8.out.trans (Sz3.out.mono HB8.out.size)) (by omega)
     clear G9 ch9 HF8 HR8 HB8 HMV HLZ HTO
     go_wp2
     refine bodyPost_ret (results_cell_row rfl _ _ (w.heap.size+1) 246 FB (0,0) _ rfl F10.out Tryz.underlying246 rfl (row_size Tryz.size16 HFS)) rfl ⟨?_,B10.out⟩
     rw [HFB.out]
     rfl
  ·refine wpOp_step rfl (fun Kc hKc=>?_)
   go_simp
   have Sx3:Hid (Below w.heap.size w (x1.alloc (.cells #[.int .u32 0,.int .u32 0,.int .u32 0,.int .u32 0] 154))∧(x1.alloc (.cells #[.int .u32 0,.int .u32 0,.int .u32 0,.int .u32 0] 154)).heap[w.heap.size]?=some (.cells A 246 (0,0))):=⟨Sx1.out.1.alloc Sx1.out.1.size _,(heap_alloc_old _ _ (lt_of_block Sx1.out.2)).trans Sx1.out.2⟩
   have Zx3:Hid ((x1.alloc (.cells #[.int .u32 0,.int .u32 0,.int .u32 0,.int .u32 0] 154)).heap[x1.heap.size]?=some (.cells #[.int .u32 0,.int .u32 0,.int .u32 0,.int .u32 0] 154 (0,0))):=heap_alloc_new _ _
   have Rx3:Hid ((x1.alloc (.cells #[.int .u32 0,.int .u32 0,.int .u32 0,.int .u32 0] 154)).heap[w.heap.size+1]?=some (.cells #[.int .u8 0,.int .u8 0,.int .u8 0,.int .u8 0,.int .u8 0,.int .u8 0,.int .u8 0,.int .u8 0,.int .u8 0,.int .u8 0,.int .u8 0,.int .u8 0,.int .u8 0,.int .u8 0,.int .u8 0,.int .u8 0] 246 (0,0))):=(heap_alloc_old _ _ (lt_of_block Rx1.out)).trans Rx1.out
   have G6:Hid (w.heap.size+2≤x1.heap.size):=lt_of_block Rx1.out
   refine hKc _ _ ⟨fun _=>Sx3.out,?_⟩
   clear hKc Kc
   generalize x1.alloc (.cells #[.int .u32 0,.int .u32 0,.int .u32 0,.int .u32 0] 154)=x3 at *
   generalize x1.heap.size=g6 at *
   try simp only [Act.put,zq1,zq2,zq3]
   refine anyL_one 10 8 (by kernel_rfl) ?_
   refine wpOp_step rfl (fun Kc hKc=>?_)
   go_simp
   refine (HLD.out _).mono ?_
   rintro e x4 ⟨rfl,hb⟩
   have Sx4:Hid (Below w.heap.size w x4∧x4.heap[w.heap.size]?=some (.cells A 246 (0,0))):=⟨Sx3.out.1.trans (hb.mono Sx3.out.1.size),(hb.block _ (lt_of_block Sx3.out.2)).trans Sx3.out.2⟩
   have Bx4:=Lib.hid hb;clear hb
   dsimp only
   refine hKc _ _ ⟨fun _=>Sx4.out,?_⟩
   clear hKc Kc
   try simp only [Act.put,zq1,zq2,zq3]
   have Rx4:Hid (x4.heap[w.heap.size+1]?=some (.cells #[.int .u8 0,.int .u8 0,.int .u8 0,.int .u8 0,.int .u8 0,.int .u8 0,.int .u8 0,.int .u8 0,.int .u8 0,.int .u8 0,.int .u8 0,.int .u8 0,.int .u8 0,.int .u8 0,.int .u8 0,.int .u8 0] 246 (0,0))):=(Bx4.out.block _ (lt_of_block Rx3.out)).trans Rx3.out
   have Zx4:Hid (x4.heap[g6]?=some (.cells #[.int .u32 0,.int .u32 0,.int .u32 0,.int .u32 0] 154 (0,0))):=(Bx4.out.block _ (lt_of_block Zx3.out)).trans Zx3.out
   refine anyL_one 10 10 (by kernel_rfl) ?_
   refine op_store 10 154 (.tmp 6) (.tmp 23) rfl g6 0 _ [.int .u32 0,.int .u32 0,.int .u32 0,.int .u32 0] (stc (Aes.rounds T ks (Aes.toW l) 0)) rfl rfl Zx4.out Tryz.size_st (by show 0+4≤4;omega) (stc_one _) ?_
   intro x9 G9 ch9
   refine ⟨fun h=>absurd rfl h,?_⟩
   refine anyL_done (by kernel_rfl) ?_ _
   have F9:Hid (x9.heap[g6]?=some (.cells (stc (Aes.rounds T ks (Aes.toW l) 0)) 154 (0,0))):=G9.out
   have R9:Hid (x9.heap[w.heap.size+1]?=some (.cells #[.int .u8 0,.int .u8 0,.int .u8 0,.int .u8 0,.int .u8 0,.int .u8 0,.int .u8 0,.int .u8 0,.int .u8 0,.int .u8 0,.int .u8 0,.int .u8 0,.int .u8 0,.int .u8 0,.int .u8 0,.int .u8 0] 246 (0,0))):=(ch9.block _ (by have:=G6.out;omega)).trans Rx4.out
   have B9:Hid (Below w.heap.size w x9):=ch9.below Sx4.out.1 (by have:=G6.out;omega)
   have c256:=HCW.out x9 B9.out
   go_upto_region 3 with fail
   go_wp2
   go_loopw [31] (fun v wr=>∃ j:Nat,j≤N∧v = .int .i64 j∧Hid (wr.heap[g6]?=some (.cells (stc (Aes.rounds T ks (Aes.toW l) j)) 154 (0,0)))∧Hid (wr.heap[w.heap.size+1]?=some (.cells #[.int .u8 0,.int .u8 0,.int .u8 0,.int .u8 0,.int .u8 0,.int .u8 0,.int .u8 0,.int .u8 0,.int .u8 0,.int .u8 0,.int .u8 0,.int .u8 0,.int .u8 0,.int .u8 0,.int .u8 0,.int .u8 0] 246 (0,0)))∧Hid (Below w.heap.size w wr)) (fun v _=>N-(intOf v).toNat)
   case atStart=>exact ⟨0,by omega,rfl,F9.out,R9.out,B9.out⟩
   case round =>
    clear F9 R9 B9 c256
    obtain ⟨j,hj,rfl,HF,HR,HB⟩:=hrel
    have HMV:=HMVW
    by_cases hlt:j<N
    ·have hji:(j:Int)<(N:Int):=by omega
     have q0:=HKW.out wr HB.out (4*(j+1)) (by omega)
     have q1:=HKW.out wr HB.out (4*(j+1)+1) (by omega)
     have q2:=HKW.out wr HB.out (4*(j+1)+2) (by omega)
     have q3:=HKW.out wr HB.out (4*(j+1)+3) (by omega)
     have e0:wr.cell? ⟨kb,4+j*4,none⟩=some (.int .u32 (ks.getD (4*(j+1)) 0)):=by rw [show 4+j*4=4*(j+1) by omega];exact q0
     have e1:wr.cell? ⟨kb,4+j*4+1,none⟩=some (.int .u32 (ks.getD (4*(j+1)+1) 0)):=by rw [show 4+j*4+1=4*(j+1)+1 by omega];exact q1
     have e2:wr.cell? ⟨kb,4+j*4+2,none⟩=some (.int .u32 (ks.getD (4*(j+1)+2) 0)):=by rw [show 4+j*4+2=4*(j+1)+2 by omega];exact q2
     have e3:wr.cell? ⟨kb,4+j*4+3,none⟩=some (.int .u32 (ks.getD (4*(j+1)+3) 0)):=by rw [show 4+j*4+3=4*(j+1)+3 by omega];exact q3
     clear q0 q1 q2 q3
     have HLY:Hid (∀ x,Calls Tryz.prog 255 #[.agg (stc (Aes.mxd (Aes.mvd T (Aes.rounds T ks (Aes.toW l) j)))),.agg #[.int .u32 (ks.getD (4*(j+1)) 0),.int .u32 (ks.getD (4*(j+1)+1) 0),.int .u32 (ks.getD (4*(j+1)+2) 0),.int .u32 (ks.getD (4*(j+1)+3) 0)]] x fun e w'=>e = .returned (.agg (stc (Aes.rounds T ks (Aes.toW l) (j+1))))∧Below x.heap.size x w'):=fun x=>by
      have h:=laid_any (Aes.mxd (Aes.mvd T (Aes.rounds T ks (Aes.toW l) j))).a (Aes.mxd (Aes.mvd T (Aes.rounds T ks (Aes.toW l) j))).b (Aes.mxd (Aes.mvd T (Aes.rounds T ks (Aes.toW l) j))).c (Aes.mxd (Aes.mvd T (Aes.rounds T ks (Aes.toW l) j))).d (ks.getD (4*(j+1)) 0) (ks.getD (4*(j+1)+1) 0) (ks.getD (4*(j+1)+2) 0) (ks.getD (4*(j+1)+3) 0) x
      unfold StSay St4 at h
      rw [Aes.rounds_succ]
      exact h
     generalize Aes.rounds T ks (Aes.toW l) j=s at *
     generalize ks.getD (4*(j+1)) 0=y0 at *
     generalize ks.getD (4*(j+1)+1) 0=y1 at *
     generalize ks.getD (4*(j+1)+2) 0=y2 at *
     generalize ks.getD (4*(j+1)+3) 0=y3 at *
     go_upto_region 6 with fail
     have HF7:Hid ((wr.alloc (.cells #[.int .u32 y0,.int .u32 y1,.int .u32 y2,.int .u32 y3] 154)).heap[g6]?=some (.cells (stc s) 154 (0,0))):=(heap_alloc_old _ _ (lt_of_block HF.out)).trans HF.out
     have HR7:Hid ((wr.alloc (.cells #[.int .u32 y0,.int .u32 y1,.int .u32 y2,.int .u32 y3] 154)).heap[w.heap.size+1]?=some (.cells #[.int .u8 0,.int .u8 0,.int .u8 0,.int .u8 0,.int .u8 0,.int .u8 0,.int .u8 0,.int .u8 0,.int .u8 0,.int .u8 0,.int .u8 0,.int .u8 0,.int .u8 0,.int .u8 0,.int .u8 0,.int .u8 0] 246 (0,0))):=(heap_alloc_old _ _ (lt_of_block HR.out)).trans HR.out
     have HB7:Hid (Below w.heap.size w (wr.alloc (.cells #[.int .u32 y0,.int .u32 y1,.int .u32 y2,.int .u32 y3] 154))):=HB.out.alloc HB.out.size _
     have HY7:Hid ((wr.alloc (.cells #[.int .u32 y0,.int .u32 y1,.int .u32 y2,.int .u32 y3] 154)).heap[wr.heap.size]?=some (.cells #[.int .u32 y0,.int .u32 y1,.int .u32 y2,.int .u32 y3] 154 (0,0))):=heap_alloc_new _ _
     clear HF HR HB e0 e1 e2 e3
     generalize wr.alloc (.cells #[.int .u32 y0,.int .u32 y1,.int .u32 y2,.int .u32 y3] 154)=w7 at *
     generalize wr.heap.size=g8 at *
     refine wp_region_any (by kernel_rfl) ?_
     change wpAny _ _ _ _ _ _ _ (World.drew _)
     have HF8:Hid (w7.drew.heap[g6]?=some (.cells (stc s) 154 (0,0))):=HF7.out
     have HR8:Hid (w7.drew.heap[w.heap.size+1]?=some (.cells #[.int .u8 0,.int .u8 0,.int .u8 0,.int .u8 0,.int .u8 0,.int .u8 0,.int .u8 0,.int .u8 0,.int .u8 0,.int .u8 0,.int .u8 0,.int .u8 0,.int .u8 0,.int .u8 0,.int .u8 0,.int .u8 0] 246 (0,0))):=HR7.out
     have HB8:Hid (Below w.heap.size w w7.drew):=HB7.out.drew
     have HY8:Hid (w7.drew.heap[g8]?=some (.cells #[.int .u32 y0,.int .u32 y1,.int .u32 y2,.int .u32 y3] 154 (0,0))):=HY7.out
     clear HF7 HR7 HB7 HY7
     generalize w7.drew=w8 at *
     have Sz0:Hid (Below w8.heap.size w8 w8):=Below.refl _ _
     refine wpAny_of_L (S:=fun x:World=>Below w8.heap.size w8 x) (k:=6) _ _ _ _ ?_
     refine aL 6 0 35 (.pointer (some ⟨c,0,none⟩)) Sz0.out rfl (by intro x hx;go_simp) ?_
     try simp only [Act.put,zq1,zq2,zq3]
     refine aL 6 1 36 (.agg (stc s)) Sz0.out rfl (fun x hx=>exec_row _ _ g6 _ (stc s) _ _ rfl ((hx.block _ (lt_of_block HF8.out)).trans HF8.out) Tryz.underlying154 rfl Tryz.size_st) ?_
     try simp only [Act.put,zq1,zq2,zq3]
     refine aL 6 4 39 (.agg #[.int .u32 y0,.int .u32 y1,.int .u32 y2,.int .u32 y3]) Sz0.out rfl (fun x hx=>exec_row _ _ g8 _ #[.int .u32 y0,.int .u32 y1,.int .u32 y2,.int .u32 y3] _ _ rfl ((hx.block _ (lt_of_block HY8.out)).trans HY8.out) Tryz.underlying154 rfl Tryz.size_st) ?_
     try simp only [Act.put,zq1,zq2,zq3]
     refine anyL_one 6 2 (by kernel_rfl) ?_
     refine wpOp_step rfl (fun Kc hKc=>?_)
     go_simp
     refine (HMV.out s _ (HB8.out.trans (Sz0.out.mono HB8.out.size))).mono ?_
     rintro e z1 ⟨rfl,hb⟩
     have Sz1:Hid (Below w8.heap.size w8 z1):=Sz0.out.trans (hb.mono Sz0.out.size)
     clear hb
     dsimp only
     refine hKc _ _ ⟨fun _=>Sz1.out,?_⟩
     clear hKc Kc
     try simp only [Act.put,zq1,zq2,zq3]
     refine anyL_one 6 3 (by kernel_rfl) ?_
     refine wpOp_step rfl (fun Kc hKc=>?_)
     go_simp
     refine (HMX.out (Aes.mvd T s) _).mono ?_
     rintro e z2 ⟨rfl,hb⟩
     have Sz2:Hid (Below w8.heap.size w8 z2):=Sz1.out.trans (hb.mono Sz1.out.size)
     clear hb
     dsimp only
     refine hKc _ _ ⟨fun _=>Sz2.out,?_⟩
     clear hKc Kc
     try simp only [Act.put,zq1,zq2,zq3]
     refine anyL_one 6 5 (by kernel_rfl) ?_
     refine wpOp_step rfl (fun Kc hKc=>?_)
     go_simp
     refine (HLY.out _).mono ?_
     rintro e z3 ⟨rfl,hb⟩
     have Sz3:Hid (Below w8.heap.size w8 z3):=Sz2.out.trans (hb.mono Sz2.out.size)
     clear hb
     dsimp only
     refine hKc _ _ ⟨fun _=>Sz3.out,?_⟩
     clear hKc Kc
     try simp only [Act.put,zq1,zq2,zq3]
     refine anyL_one 6 6 (by kernel_rfl) ?_
     refine op_store 6 154 (.tmp 6) (.tmp 40) rfl g6 0 _ [.int .u32 s.a,.int .u32 s.b,.int .u32 s.c,.int .u32 s.d] (stc (Aes.rounds T ks (Aes.toW l) (j+1))) rfl rfl ((Sz3.out.block _ (lt_of_block HF8.out)).trans HF8.out) Tryz.size_st (by show 0+4≤4;omega) (stc_one _) ?_
     intro x9 G9 ch9
     refine ⟨fun h=>absurd rfl h,?_⟩
     refine anyL_done (by kernel_rfl) ?_ _
     have F10:Hid (x9.heap[g6]?=some (.cells (stc (Aes.rounds T ks (Aes.toW l) (j+1))) 154 (0,0))):=G9.out
     have R10:Hid (x9.heap[w.heap.size+1]?=some (.cells #[.int .u8 0,.int .u8 0,.int .u8 0,.int .u8 0,.int .u8 0,.int .u8 0,.int .u8 0,.int .u8 0,.int .u8 0,.int .u8 0,.int .u8 0,.int .u8 0,.int .u8 0,.int .u8 0,.int .u8 0,.int .u8 0] 246 (0,0))):=(ch9.block _ (by have:=G6.out;omega)).trans ((Sz3.out.block _ (lt_of_block HR8.out)).trans HR8.out)
     have B10:Hid (Below w.heap.size w x9):=ch9.below (HB8.out.trans (Sz3.out.mono HB8.out.size)) (by have:=G6.out;omega)
     clear G9 ch9 HF8 HR8 HB8 HY8 HMV HMX HLY
     go_wp2
     exact ⟨⟨j+1,by omega,by go_num,F10,R10,B10⟩,by simp [intOf];omega⟩
    ·have hge:N≤j:=by omega
     have hji:(N:Int)≤(j:Int):=by omega
     obtain rfl:j=N:=by omega
     have HZW:Hid (∀ x,Below w.heap.size w x→x.cell? ⟨kb,(j+1)*4,none⟩=some (.int .u32 (ks.getD (4*(j+1)) 0))∧x.cell? ⟨kb,(j+1)*4+1,none⟩=some (.int .u32 (ks.getD (4*(j+1)+1) 0))∧x.cell? ⟨kb,(j+1)*4+2,none⟩=some (.int .u32 (ks.getD (4*(j+1)+2) 0))∧x.cell? ⟨kb,(j+1)*4+3,none⟩=some (.int .u32 (ks.getD (4*(j+1)+3) 0))):=fun x hx=>by
      rw [show (j+1)*4=4*(j+1) by omega]
      exact ⟨HKW.out x hx _ (by omega),HKW.out x hx _ (by omega),HKW.out x hx _ (by omega),HKW.out x hx _ (by omega)⟩
     have HLZ:Hid (∀ x,Calls Tryz.prog 255 #[.agg (stc (Aes.mvd T (Aes.rounds T ks (Aes.toW l) j))),.agg #[.int .u32 (ks.getD (4*(j+1)) 0),.int .u32 (ks.getD (4*(j+1)+1) 0),.int .u32 (ks.getD (4*(j+1)+2) 0),.int .u32 (ks.getD (4*(j+1)+3) 0)]] x fun e w'=>e = .returned (.agg (stc (Aes.last T ks j (Aes.toW l))))∧Below x.heap.size x w'):=fun x=>by
      have h:=laid_any (Aes.mvd T (Aes.rounds T ks (Aes.toW l) j)).a (Aes.mvd T (Aes.rounds T ks (Aes.toW l) j)).b (Aes.mvd T (Aes.rounds T ks (Aes.toW l) j)).c (Aes.mvd T (Aes.rounds T ks (Aes.toW l) j)).d (ks.getD (4*(j+1)) 0) (ks.getD (4*(j+1)+1) 0) (ks.getD (4*(j+1)+2) 0) (ks.getD (4*(j+1)+3) 0) x
      unfold StSay St4 at h
      exact h
     obtain ⟨FB,HFB,HFS,HFO⟩:∃ FB:Array Value,Hid (FB=((Aes.blk T ks j l).map (Value.int .u8)).toArray)∧Hid (FB.size=16)∧Hid (FB.all (·.oneCell')=true):=⟨_,rfl,by show _=_;simp [Aes.blk_len],u8_all _⟩
     have HTO:Hid (∀ x,Calls Tryz.prog 259 #[.agg (stc (Aes.last T ks j (Aes.toW l)))] x fun e w'=>e = .returned (.agg FB)∧Below x.heap.size x w'):=fun x=>by
      have h:=toblock_any (Aes.last T ks j (Aes.toW l)).a (Aes.last T ks j (Aes.toW l)).b (Aes.last T ks j (Aes.toW l)).c (Aes.last T ks j (Aes.toW l)).d x
      unfold BkSay Bk St4 at h
      rw [HFB.out]
      exact h
     generalize Aes.last T ks j (Aes.toW l)=sl at *
     generalize Aes.rounds T ks (Aes.toW l) j=s at *
     generalize ks.getD (4*(j+1)) 0=z0 at *
     generalize ks.getD (4*(j+1)+1) 0=z1 at *
     generalize ks.getD (4*(j+1)+2) 0=z2 at *
     generalize ks.getD (4*(j+1)+3) 0=z3 at *
     go_upto_region 8 with fail
     refine wp_region_any (by kernel_rfl) ?_
     change wpAny _ _ _ _ _ _ _ (World.drew _)
     have HF8:Hid (wr.drew.heap[g6]?=some (.cells (stc s) 154 (0,0))):=HF.out
     have HR8:Hid (wr.drew.heap[w.heap.size+1]?=some (.cells #[.int .u8 0,.int .u8 0,.int .u8 0,.int .u8 0,.int .u8 0,.int .u8 0,.int .u8 0,.int .u8 0,.int .u8 0,.int .u8 0,.int .u8 0,.int .u8 0,.int .u8 0,.int .u8 0,.int .u8 0,.int .u8 0] 246 (0,0))):=HR.out
     have HB8:Hid (Below w.heap.size w wr.drew):=HB.out.drew
     clear HF HR HB
     generalize wr.drew=w8 at *
     have Sz0:Hid (Below w8.heap.size w8 w8):=Below.refl _ _
     refine wpAny_of_L (S:=fun x:World=>Below w8.heap.size w8 x) (k:=12) _ _ _ _ ?_
     refine aL 12 0 42 (.pointer (some ⟨c,0,none⟩)) Sz0.out rfl (by intro x hx;go_simp) ?_
     try simp only [Act.put,zq1,zq2,zq3]
     refine aL 12 1 43 (.agg (stc s)) Sz0.out rfl (fun x hx=>exec_row _ _ g6 _ (stc s) _ _ rfl ((hx.block _ (lt_of_block HF8.out)).trans HF8.out) Tryz.underlying154 rfl Tryz.size_st) ?_
     try simp only [Act.put,zq1,zq2,zq3]
     refine aL 12 3 45 (.pointer (some ⟨c,0,none⟩)) Sz0.out rfl (by intro x hx;go_simp) ?_
     try simp only [Act.put,zq1,zq2,zq3]
     refine aL 12 4 46 (.pointer (some ⟨c,0,none⟩)) Sz0.out rfl (by intro x hx;go_simp) ?_
     try simp only [Act.put,zq1,zq2,zq3]
     refine aL 12 5 47 (.pointer (some ⟨c,256,none⟩)) Sz0.out rfl (by intro x hx;go_simp) ?_
     try simp only [Act.put,zq1,zq2,zq3]
     refine aL 12 6 48 (.slice (some ⟨kb,0,none⟩) (j+2) cap) Sz0.out rfl (by intro x hx;have h256:=HCW.out x (HB8.out.trans (hx.mono HB8.out.size));go_simp) ?_
     try simp only [Act.put,zq1,zq2,zq3]
     refine aL 12 7 49 (.int .i64 ((j:Int)+1)) Sz0.out rfl (by intro x hx;go_simp) ?_
     try simp only [Act.put,zq1,zq2,zq3]
     refine aL 12 8 50 (.pointer (some ⟨kb,(j+1)*4,none⟩)) Sz0.out rfl (by intro x hx;go_simp;try (intro h;omega)) ?_
     try simp only [Act.put,zq1,zq2,zq3]
     refine aL 12 9 51 (.agg #[.int .u32 z0,.int .u32 z1,.int .u32 z2,.int .u32 z3]) Sz0.out rfl (by intro x hx;obtain ⟨k0,k1,k2,k3⟩:=HZW.out x (HB8.out.trans (hx.mono HB8.out.size));go_simp) ?_
     try simp only [Act.put,zq1,zq2,zq3]
     refine anyL_one 12 2 (by kernel_rfl) ?_
     refine wpOp_step rfl (fun Kc hKc=>?_)
     go_simp
     refine (HMV.out s _ (HB8.out.trans (Sz0.out.mono HB8.out.size))).mono ?_
     rintro e z1 ⟨rfl,hb⟩
     have Sz1:Hid (Below w8.heap.size w8 z1):=Sz0.out.trans (hb.mono Sz0.out.size)
     clear hb
     dsimp only
     refine hKc _ _ ⟨fun _=>Sz1.out,?_⟩
     clear hKc Kc
     try simp only [Act.put,zq1,zq2,zq3]
     refine anyL_one 12 10 (by kernel_rfl) ?_
     refine wpOp_step rfl (fun Kc hKc=>?_)
     go_simp
     refine (HLZ.out _).mono ?_
     rintro e z2 ⟨rfl,hb⟩
     have Sz2:Hid (Below w8.heap.size w8 z2):=Sz1.out.trans (hb.mono Sz1.out.size)
     clear hb
     dsimp only
     refine hKc _ _ ⟨fun _=>Sz2.out,?_⟩
     clear hKc Kc
     try simp only [Act.put,zq1,zq2,zq3]
     refine anyL_one 12 11 (by kernel_rfl) ?_
     refine wpOp_step rfl (fun Kc hKc=>?_)
     go_simp
     refine (HTO.out _).mono ?_
     rintro e z3 ⟨rfl,hb⟩
     have Sz3:Hid (Below w8.heap.size w8 z3):=Sz2.out.trans (hb.mono Sz2.out.size)
     clear hb
     dsimp only
     refine hKc _ _ ⟨fun _=>Sz3.out,?_⟩
     clear hKc Kc
     try simp only [Act.put,zq1,zq2,zq3]
     refine anyL_one 12 12 (by kernel_rfl) ?_
     refine op_store 12 246 (.tmp 4) (.tmp 53) rfl (w.heap.size+1) 0 _ [.int .u8 0,.int .u8 0,.int .u8 0,.int .u8 0,.int .u8 0,.int .u8 0,.int .u8 0,.int .u8 0,.int .u8 0,.int .u8 0,.int .u8 0,.int .u8 0,.int .u8 0,.int .u8 0,.int .u8 0,.int .u8 0] FB rfl rfl ((Sz3.out.block _ (lt_of_block HR8.out)).trans HR8.out) (row_size Tryz.size16 HFS) (by rw [HFS.out];show 0+16≤16;omega) HFO.out ?_
     intro x9 G9 ch9
     refine ⟨fun h=>absurd rfl h,?_⟩
     refine anyL_done (by kernel_rfl) ?_ _
     have F10:Hid (x9.heap[w.heap.size+1]?=some (.cells FB 246 (0,0))):=by
      have h:=G9.out
      rw [splice_full _ _ (by rw [Array.length_toList,HFS.out];rfl)] at h
      exact h
     have B10:Hid (Below w.heap.size w x9):=ch9.below (HB8.out.trans (Sz3.out.mono HB8.out.size)) (by omega)
     clear G9 ch9 HF8 HR8 HB8 HMV HLZ HTO
     go_wp2
     refine bodyPost_ret (results_cell_row rfl _ _ (w.heap.size+1) 246 FB (0,0) _ rfl F10.out Tryz.underlying246 rfl (row_size Tryz.size16 HFS)) rfl ⟨?_,B10.out⟩
     rw [HFB.out]
     rfl
 ·refine wpOp_step rfl (fun Kc hKc=>?_)
  go_simp
  have Sx1:Hid (Below w.heap.size w (x0.alloc (.cells #[.int .u32 0,.int .u32 0,.int .u32 0,.int .u32 0] 154))∧(x0.alloc (.cells #[.int .u32 0,.int .u32 0,.int .u32 0,.int .u32 0] 154)).heap[w.heap.size]?=some (.cells A 246 (0,0))):=⟨Sx0.out.1.alloc Sx0.out.1.size _,(heap_alloc_old _ _ (lt_of_block Sx0.out.2)).trans Sx0.out.2⟩
  have Zx1:Hid ((x0.alloc (.cells #[.int .u32 0,.int .u32 0,.int .u32 0,.int .u32 0] 154)).heap[x0.heap.size]?=some (.cells #[.int .u32 0,.int .u32 0,.int .u32 0,.int .u32 0] 154 (0,0))):=heap_alloc_new _ _
  have Rx1:Hid ((x0.alloc (.cells #[.int .u32 0,.int .u32 0,.int .u32 0,.int .u32 0] 154)).heap[w.heap.size+1]?=some (.cells #[.int .u8 0,.int .u8 0,.int .u8 0,.int .u8 0,.int .u8 0,.int .u8 0,.int .u8 0,.int .u8 0,.int .u8 0,.int .u8 0,.int .u8 0,.int .u8 0,.int .u8 0,.int .u8 0,.int .u8 0,.int .u8 0] 246 (0,0))):=(heap_alloc_old _ _ (lt_of_block Rx0.out)).trans Rx0.out
  have G6:Hid (w.heap.size+2≤x0.heap.size):=lt_of_block Rx0.out
  refine hKc _ _ ⟨fun _=>Sx1.out,?_⟩
  clear hKc Kc
  generalize x0.alloc (.cells #[.int .u32 0,.int .u32 0,.int .u32 0,.int .u32 0] 154)=x1 at *
  generalize x0.heap.size=g6 at *
  try simp only [Act.put,zq1,zq2,zq3]
  refine anyL_one 10 1 (by kernel_rfl) ?_
  refine wpOp_step rfl (fun Kc hKc=>?_)
  go_simp
  refine (HTS.out _).mono ?_
  rintro e x2 ⟨rfl,hb⟩
  have Sx2:Hid (Below w.heap.size w x2∧x2.heap[w.heap.size]?=some (.cells A 246 (0,0))):=⟨Sx1.out.1.trans (hb.mono Sx1.out.1.size),(hb.block _ (lt_of_block Sx1.out.2)).trans Sx1.out.2⟩
  have Bx2:=Lib.hid hb;clear hb
  dsimp only
  refine hKc _ _ ⟨fun _=>Sx2.out,?_⟩
  clear hKc Kc
  try simp only [Act.put,zq1,zq2,zq3]
  have Rx2:Hid (x2.heap[w.heap.size+1]?=some (.cells #[.int .u8 0,.int .u8 0,.int .u8 0,.int .u8 0,.int .u8 0,.int .u8 0,.int .u8 0,.int .u8 0,.int .u8 0,.int .u8 0,.int .u8 0,.int .u8 0,.int .u8 0,.int .u8 0,.int .u8 0,.int .u8 0] 246 (0,0))):=(Bx2.out.block _ (lt_of_block Rx1.out)).trans Rx1.out
  have Zx2:Hid (x2.heap[g6]?=some (.cells #[.int .u32 0,.int .u32 0,.int .u32 0,.int .u32 0] 154 (0,0))):=(Bx2.out.block _ (lt_of_block Zx1.out)).trans Zx1.out
  refine anyL_one 10 8 (by kernel_rfl) ?_
  refine wpOp_step rfl (fun Kc hKc=>?_)
  go_simp
  refine (HLD.out _).mono ?_
  rintro e x4 ⟨rfl,hb⟩
  have Sx4:Hid (Below w.heap.size w x4∧x4.heap[w.heap.size]?=some (.cells A 246 (0,0))):=⟨Sx2.out.1.trans (hb.mono Sx2.out.1.size),(hb.block _ (lt_of_block Sx2.out.2)).trans Sx2.out.2⟩
  have Bx4:=Lib.hid hb;clear hb
  dsimp only
  refine hKc _ _ ⟨fun _=>Sx4.out,?_⟩
  clear hKc Kc
  try simp only [Act.put,zq1,zq2,zq3]
  have Rx4:Hid (x4.heap[w.heap.size+1]?=some (.cells #[.int .u8 0,.int .u8 0,.int .u8 0,.int .u8 0,.int .u8 0,.int .u8 0,.int .u8 0,.int .u8 0,.int .u8 0,.int .u8 0,.int .u8 0,.int .u8 0,.int .u8 0,.int .u8 0,.int .u8 0,.int .u8 0] 246 (0,0))):=(Bx4.out.block _ (lt_of_block Rx2.out)).trans Rx2.out
  have Zx4:Hid (x4.heap[g6]?=some (.cells #[.int .u32 0,.int .u32 0,.int .u32 0,.int .u32 0] 154 (0,0))):=(Bx4.out.block _ (lt_of_block Zx2.out)).trans Zx2.out
  refine anyL_one 10 10 (by kernel_rfl) ?_
  refine op_store 10 154 (.tmp 6) (.tmp 23) rfl g6 0 _ [.int .u32 0,.int .u32 0,.int .u32 0,.int .u32 0] (stc (Aes.rounds T ks (Aes.toW l) 0)) rfl rfl Zx4.out Tryz.size_st (by show 0+4≤4;omega) (stc_one _) ?_
  intro x9 G9 ch9
  refine ⟨fun h=>absurd rfl h,?_⟩
  refine anyL_done (by kernel_rfl) ?_ _
  have F9:Hid (x9.heap[g6]?=some (.cells (stc (Aes.rounds T ks (Aes.toW l) 0)) 154 (0,0))):=G9.out
  have R9:Hid (x9.heap[w.heap.size+1]?=some (.cells #[.int .u8 0,.int .u8 0,.int .u8 0,.int .u8 0,.int .u8 0,.int .u8 0,.int .u8 0,.int .u8 0,.int .u8 0,.int .u8 0,.int .u8 0,.int .u8 0,.int .u8 0,.int .u8 0,.int .u8 0,.int .u8 0] 246 (0,0))):=(ch9.block _ (by have:=G6.out;omega)).trans Rx4.out
  have B9:Hid (Below w.heap.size w x9):=ch9.below Sx4.out.1 (by have:=G6.out;omega)
  have c256:=HCW.out x9 B9.out
  go_upto_region 3 with fail
  go_wp2
  go_loopw [31] (fun v wr=>∃ j:Nat,j≤N∧v = .int .i64 j∧Hid (wr.heap[g6]?=some (.cells (stc (Aes.rounds T ks (Aes.toW l) j)) 154 (0,0)))∧Hid (wr.heap[w.heap.size+1]?=some (.cells #[.int .u8 0,.int .u8 0,.int .u8 0,.int .u8 0,.int .u8 0,.int .u8 0,.int .u8 0,.int .u8 0,.int .u8 0,.int .u8 0,.int .u8 0,.int .u8 0,.int .u8 0,.int .u8 0,.int .u8 0,.int .u8 0] 246 (0,0)))∧Hid (Below w.heap.size w wr)) (fun v _=>N-(intOf v).toNat)
  case atStart=>exact ⟨0,by omega,rfl,F9.out,R9.out,B9.out⟩
  case round =>
   clear F9 R9 B9 c256
   obtain ⟨j,hj,rfl,HF,HR,HB⟩:=hrel
   have HMV:=HMVW
   by_cases hlt:j<N
   ·have hji:(j:Int)<(N:Int):=by omega
    have q0:=HKW.out wr HB.out (4*(j+1)) (by omega)
    have q1:=HKW.out wr HB.out (4*(j+1)+1) (by omega)
    have q2:=HKW.out wr HB.out (4*(j+1)+2) (by omega)
    have q3:=HKW.out wr HB.out (4*(j+1)+3) (by omega)
    have e0:wr.cell? ⟨kb,4+j*4,none⟩=some (.int .u32 (ks.getD (4*(j+1)) 0)):=by rw [show 4+j*4=4*(j+1) by omega];exact q0
    have e1:wr.cell? ⟨kb,4+j*4+1,none⟩=some (.int .u32 (ks.getD (4*(j+1)+1) 0)):=by rw [show 4+j*4+1=4*(j+1)+1 by omega];exact q1
    have e2:wr.cell? ⟨kb,4+j*4+2,none⟩=some (.int .u32 (ks.getD (4*(j+1)+2) 0)):=by rw [show 4+j*4+2=4*(j+1)+2 by omega];exact q2
    have e3:wr.cell? ⟨kb,4+j*4+3,none⟩=some (.int .u32 (ks.getD (4*(j+1)+3) 0)):=by rw [show 4+j*4+3=4*(j+1)+3 by omega];exact q3
    clear q0 q1 q2 q3
    have HLY:Hid (∀ x,Calls Tryz.prog 255 #[.agg (stc (Aes.mxd (Aes.mvd T (Aes.rounds T ks (Aes.toW l) j)))),.agg #[.int .u32 (ks.getD (4*(j+1)) 0),.int .u32 (ks.getD (4*(j+1)+1) 0),.int .u32 (ks.getD (4*(j+1)+2) 0),.int .u32 (ks.getD (4*(j+1)+3) 0)]] x fun e w'=>e = .returned (.agg (stc (Aes.rounds T ks (Aes.toW l) (j+1))))∧Below x.heap.size x w'):=fun x=>by
     have h:=laid_any (Aes.mxd (Aes.mvd T (Aes.rounds T ks (Aes.toW l) j))).a (Aes.mxd (Aes.mvd T (Aes.rounds T ks (Aes.toW l) j))).b (Aes.mxd (Aes.mvd T (Aes.rounds T ks (Aes.toW l) j))).c (Aes.mxd (Aes.mvd T (Aes.rounds T ks (Aes.toW l) j))).d (ks.getD (4*(j+1)) 0) (ks.getD (4*(j+1)+1) 0) (ks.getD (4*(j+1)+2) 0) (ks.getD (4*(j+1)+3) 0) x
     unfold StSay St4 at h
     rw [Aes.rounds_succ]
     exact h
    generalize Aes.rounds T ks (Aes.toW l) j=s at *
    generalize ks.getD (4*(j+1)) 0=y0 at *
    generalize ks.getD (4*(j+1)+1) 0=y1 at *
    generalize ks.getD (4*(j+1)+2) 0=y2 at *
    generalize ks.getD (4*(j+1)+3) 0=y3 at *
    go_upto_region 6 with fail
    have HF7:Hid ((wr.alloc (.cells #[.int .u32 y0,.int .u32 y1,.int .u32 y2,.int .u32 y3] 154)).heap[g6]?=some (.cells (stc s) 154 (0,0))):=(heap_alloc_old _ _ (lt_of_block HF.out)).trans HF.out
    have HR7:Hid ((wr.alloc (.cells #[.int .u32 y0,.int .u32 y1,.int .u32 y2,.int .u32 y3] 154)).heap[w.heap.size+1]?=some (.cells #[.int .u8 0,.int .u8 0,.int .u8 0,.int .u8 0,.int .u8 0,.int .u8 0,.int .u8 0,.int .u8 0,.int .u8 0,.int .u8 0,.int .u8 0,.int .u8 0,.int .u8 0,.int .u8 0,.int .u8 0,.int .u8 0] 246 (0,0))):=(heap_alloc_old _ _ (lt_of_block HR.out)).trans HR.out
    have HB7:Hid (Below w.heap.size w (wr.alloc (.cells #[.int .u32 y0,.int .u32 y1,.int .u32 y2,.int .u32 y3] 154))):=HB.out.alloc HB.out.size _
    have HY7:Hid ((wr.alloc (.cells #[.int .u32 y0,.int .u32 y1,.int .u32 y2,.int .u32 y3] 154)).heap[wr.heap.size]?=some (.cells #[.int .u32 y0,.int .u32 y1,.int .u32 y2,.int .u32 y3] 154 (0,0))):=heap_alloc_new _ _
    clear HF HR HB e0 e1 e2 e3
    generalize wr.alloc (.cells #[.int .u32 y0,.int .u32 y1,.int .u32 y2,.int .u32 y3] 154)=w7 at *
    generalize wr.heap.size=g8 at *
    refine wp_region_any (by kernel_rfl) ?_
    change wpAny _ _ _ _ _ _ _ (World.drew _)
    have HF8:Hid (w7.drew.heap[g6]?=some (.cells (stc s) 154 (0,0))):=HF7.out
    have HR8:Hid (w7.drew.heap[w.heap.size+1]?=some (.cells #[.int .u8 0,.int .u8 0,.int .u8 0,.int .u8 0,.int .u8 0,.int .u8 0,.int .u8 0,.int .u8 0,.int .u8 0,.int .u8 0,.int .u8 0,.int .u8 0,.int .u8 0,.int .u8 0,.int .u8 0,.int .u8 0] 246 (0,0))):=HR7.out
    have HB8:Hid (Below w.heap.size w w7.drew):=HB7.out.drew
    have HY8:Hid (w7.drew.heap[g8]?=some (.cells #[.int .u32 y0,.int .u32 y1,.int .u32 y2,.int .u32 y3] 154 (0,0))):=HY7.out
    clear HF7 HR7 HB7 HY7
    generalize w7.drew=w8 at *
    have Sz0:Hid (Below w8.heap.size w8 w8):=Below.refl _ _
    refine wpAny_of_L (S:=fun x:World=>Below w8.heap.size w8 x) (k:=6) _ _ _ _ ?_
    refine aL 6 0 35 (.pointer (some ⟨c,0,none⟩)) Sz0.out rfl (by intro x hx;go_simp) ?_
    try simp only [Act.put,zq1,zq2,zq3]
    refine aL 6 1 36 (.agg (stc s)) Sz0.out rfl (fun x hx=>exec_row _ _ g6 _ (stc s) _ _ rfl ((hx.block _ (lt_of_block HF8.out)).trans HF8.out) Tryz.underlying154 rfl Tryz.size_st) ?_
    try simp only [Act.put,zq1,zq2,zq3]
    refine aL 6 4 39 (.agg #[.int .u32 y0,.int .u32 y1,.int .u32 y2,.int .u32 y3]) Sz0.out rfl (fun x hx=>exec_row _ _ g8 _ #[.int .u32 y0,.int .u32 y1,.int .u32 y2,.int .u32 y3] _ _ rfl ((hx.block _ (lt_of_block HY8.out)).trans HY8.out) Tryz.underlying154 rfl Tryz.size_st) ?_
    try simp only [Act.put,zq1,zq2,zq3]
    refine anyL_one 6 2 (by kernel_rfl) ?_
    refine wpOp_step rfl (fun Kc hKc=>?_)
    go_simp
    refine (HMV.out s _ (HB8.out.trans (Sz0.out.mono HB8.out.size))).mono ?_
    rintro e z1 ⟨rfl,hb⟩
    have Sz1:Hid (Below w8.heap.size w8 z1):=Sz0.out.trans (hb.mono Sz0.out.size)
    clear hb
    dsimp only
    refine hKc _ _ ⟨fun _=>Sz1.out,?_⟩
    clear hKc Kc
    try simp only [Act.put,zq1,zq2,zq3]
    refine anyL_one 6 3 (by kernel_rfl) ?_
    refine wpOp_step rfl (fun Kc hKc=>?_)
    go_simp
    refine (HMX.out (Aes.mvd T s) _).mono ?_
    rintro e z2 ⟨rfl,hb⟩
    have Sz2:Hid (Below w8.heap.size w8 z2):=Sz1.out.trans (hb.mono Sz1.out.size)
    clear hb
    dsimp only
    refine hKc _ _ ⟨fun _=>Sz2.out,?_⟩
    clear hKc Kc
    try simp only [Act.put,zq1,zq2,zq3]
    refine anyL_one 6 5 (by kernel_rfl) ?_
    refine wpOp_step rfl (fun Kc hKc=>?_)
    go_simp
    refine (HLY.out _).mono ?_
    rintro e z3 ⟨rfl,hb⟩
    have Sz3:Hid (Below w8.heap.size w8 z3):=Sz2.out.trans (hb.mono Sz2.out.size)
    clear hb
    dsimp only
    refine hKc _ _ ⟨fun _=>Sz3.out,?_⟩
    clear hKc Kc
    try simp only [Act.put,zq1,zq2,zq3]
    refine anyL_one 6 6 (by kernel_rfl) ?_
    refine op_store 6 154 (.tmp 6) (.tmp 40) rfl g6 0 _ [.int .u32 s.a,.int .u32 s.b,.int .u32 s.c,.int .u32 s.d] (stc (Aes.rounds T ks (Aes.toW l) (j+1))) rfl rfl ((Sz3.out.block _ (lt_of_block HF8.out)).trans HF8.out) Tryz.size_st (by show 0+4≤4;omega) (stc_one _) ?_
    intro x9 G9 ch9
    refine ⟨fun h=>absurd rfl h,?_⟩
    refine anyL_done (by kernel_rfl) ?_ _
    have F10:Hid (x9.heap[g6]?=some (.cells (stc (Aes.rounds T ks (Aes.toW l) (j+1))) 154 (0,0))):=G9.out
    have R10:Hid (x9.heap[w.heap.size+1]?=some (.cells #[.int .u8 0,.int .u8 0,.int .u8 0,.int .u8 0,.int .u8 0,.int .u8 0,.int .u8 0,.int .u8 0,.int .u8 0,.int .u8 0,.int .u8 0,.int .u8 0,.int .u8 0,.int .u8 0,.int .u8 0,.int .u8 0] 246 (0,0))):=(ch9.block _ (by have:=G6.out;omega)).trans ((Sz3.out.block _ (lt_of_block HR8.out)).trans HR8.out)
    have B10:Hid (Below w.heap.size w x9):=ch9.below (HB8.out.trans (Sz3.out.mono HB8.out.size)) (by have:=G6.out;omega)
    clear G9 ch9 HF8 HR8 HB8 HY8 HMV HMX HLY
    go_wp2
    exact ⟨⟨j+1,by omega,by go_num,F10,R10,B10⟩,by simp [intOf];omega⟩
   ·have hge:N≤j:=by omega
    have hji:(N:Int)≤(j:Int):=by omega
    obtain rfl:j=N:=by omega
    have HZW:Hid (∀ x,Below w.heap.size w x→x.cell? ⟨kb,(j+1)*4,none⟩=some (.int .u32 (ks.getD (4*(j+1)) 0))∧x.cell? ⟨kb,(j+1)*4+1,none⟩=some (.int .u32 (ks.getD (4*(j+1)+1) 0))∧x.cell? ⟨kb,(j+1)*4+2,none⟩=some (.int .u32 (ks.getD (4*(j+1)+2) 0))∧x.cell? ⟨kb,(j+1)*4+3,none⟩=some (.int .u32 (ks.getD (4*(j+1)+3) 0))):=fun x hx=>by
     rw [show (j+1)*4=4*(j+1) by omega]
     exact ⟨HKW.out x hx _ (by omega),HKW.out x hx _ (by omega),HKW.out x hx _ (by omega),HKW.out x hx _ (by omega)⟩
    have HLZ:Hid (∀ x,Calls Tryz.prog 255 #[.agg (stc (Aes.mvd T (Aes.rounds T ks (Aes.toW l) j))),.agg #[.int .u32 (ks.getD (4*(j+1)) 0),.int .u32 (ks.getD (4*(j+1)+1) 0),.int .u32 (ks.getD (4*(j+1)+2) 0),.int .u32 (ks.getD (4*(j+1)+3) 0)]] x fun e w'=>e = .returned (.agg (stc (Aes.last T ks j (Aes.toW l))))∧Below x.heap.size x w'):=fun x=>by
     have h:=laid_any (Aes.mvd T (Aes.rounds T ks (Aes.toW l) j)).a (Aes.mvd T (Aes.rounds T ks (Aes.toW l) j)).b (Aes.mvd T (Aes.rounds T ks (Aes.toW l) j)).c (Aes.mvd T (Aes.rounds T ks (Aes.toW l) j)).d (ks.getD (4*(j+1)) 0) (ks.getD (4*(j+1)+1) 0) (ks.getD (4*(j+1)+2) 0) (ks.getD (4*(j+1)+3) 0) x
     unfold StSay St4 at h
     exact h
    obtain ⟨FB,HFB,HFS,HFO⟩:∃ FB:Array Value,Hid (FB=((Aes.blk T ks j l).map (Value.int .u8)).toArray)∧Hid (FB.size=16)∧Hid (FB.all (·.oneCell')=true):=⟨_,rfl,by show _=_;simp [Aes.blk_len],u8_all _⟩
    have HTO:Hid (∀ x,Calls Tryz.prog 259 #[.agg (stc (Aes.last T ks j (Aes.toW l)))] x fun e w'=>e = .returned (.agg FB)∧Below x.heap.size x w'):=fun x=>by
     have h:=toblock_any (Aes.last T ks j (Aes.toW l)).a (Aes.last T ks j (Aes.toW l)).b (Aes.last T ks j (Aes.toW l)).c (Aes.last T ks j (Aes.toW l)).d x
     unfold BkSay Bk St4 at h
     rw [HFB.out]
     exact h
    generalize Aes.last T ks j (Aes.toW l)=sl at *
    generalize Aes.rounds T ks (Aes.toW l) j=s at *
    generalize ks.getD (4*(j+1)) 0=z0 at *
    generalize ks.getD (4*(j+1)+1) 0=z1 at *
    generalize ks.getD (4*(j+1)+2) 0=z2 at *
    generalize ks.getD (4*(j+1)+3) 0=z3 at *
    go_upto_region 8 with fail
    refine wp_region_any (by kernel_rfl) ?_
    change wpAny _ _ _ _ _ _ _ (World.drew _)
    have HF8:Hid (wr.drew.heap[g6]?=some (.cells (stc s) 154 (0,0))):=HF.out
    have HR8:Hid (wr.drew.heap[w.heap.size+1]?=some (.cells #[.int .u8 0,.int .u8 0,.int .u8 0,.int .u8 0,.int .u8 0,.int .u8 0,.int .u8 0,.int .u8 0,.int .u8 0,.int .u8 0,.int .u8 0,.int .u8 0,.int .u8 0,.int .u8 0,.int .u8 0,.int .u8 0] 246 (0,0))):=HR.out
    have HB8:Hid (Below w.heap.size w wr.drew):=HB.out.drew
    clear HF HR HB
    generalize wr.drew=w8 at *
    have Sz0:Hid (Below w8.heap.size w8 w8):=Below.refl _ _
    refine wpAny_of_L (S:=fun x:World=>Below w8.heap.size w8 x) (k:=12) _ _ _ _ ?_
    refine aL 12 0 42 (.pointer (some ⟨c,0,none⟩)) Sz0.out rfl (by intro x hx;go_simp) ?_
    try simp only [Act.put,zq1,zq2,zq3]
    refine aL 12 1 43 (.agg (stc s)) Sz0.out rfl (fun x hx=>exec_row _ _ g6 _ (stc s) _ _ rfl ((hx.block _ (lt_of_block HF8.out)).trans HF8.out) Tryz.underlying154 rfl Tryz.size_st) ?_
    try simp only [Act.put,zq1,zq2,zq3]
    refine aL 12 3 45 (.pointer (some ⟨c,0,none⟩)) Sz0.out rfl (by intro x hx;go_simp) ?_
    try simp only [Act.put,zq1,zq2,zq3]
    refine aL 12 4 46 (.pointer (some ⟨c,0,none⟩)) Sz0.out rfl (by intro x hx;go_simp) ?_
    try simp only [Act.put,zq1,zq2,zq3]
    refine aL 12 5 47 (.pointer (some ⟨c,256,none⟩)) Sz0.out rfl (by intro x hx;go_simp) ?_
    try simp only [Act.put,zq1,zq2,zq3]
    refine aL 12 6 48 (.slice (some ⟨kb,0,none⟩) (j+2) cap) Sz0.out rfl (by intro x hx;have h256:=HCW.out x (HB8.out.trans (hx.mono HB8.out.size));go_simp) ?_
    try simp only [Act.put,zq1,zq2,zq3]
    refine aL 12 7 49 (.int .i64 ((j:Int)+1)) Sz0.out rfl (by intro x hx;go_simp) ?_
    try simp only [Act.put,zq1,zq2,zq3]
    refine aL 12 8 50 (.pointer (some ⟨kb,(j+1)*4,none⟩)) Sz0.out rfl (by intro x hx;go_simp;try (intro h;omega)) ?_
    try simp only [Act.put,zq1,zq2,zq3]
    refine aL 12 9 51 (.agg #[.int .u32 z0,.int .u32 z1,.int .u32 z2,.int .u32 z3]) Sz0.out rfl (by intro x hx;obtain ⟨k0,k1,k2,k3⟩:=HZW.out x (HB8.out.trans (hx.mono HB8.out.size));go_simp) ?_
    try simp only [Act.put,zq1,zq2,zq3]
    refine anyL_one 12 2 (by kernel_rfl) ?_
    refine wpOp_step rfl (fun Kc hKc=>?_)
    go_simp
    refine (HMV.out s _ (HB8.out.trans (Sz0.out.mono HB8.out.size))).mono ?_
    rintro e z1 ⟨rfl,hb⟩
    have Sz1:Hid (Below w8.heap.size w8 z1):=Sz0.out.trans (hb.mono Sz0.out.size)
    clear hb
    dsimp only
    refine hKc _ _ ⟨fun _=>Sz1.out,?_⟩
    clear hKc Kc
    try simp only [Act.put,zq1,zq2,zq3]
    refine anyL_one 12 10 (by kernel_rfl) ?_
    refine wpOp_step rfl (fun Kc hKc=>?_)
    go_simp
    refine (HLZ.out _).mono ?_
    rintro e z2 ⟨rfl,hb⟩
    have Sz2:Hid (Below w8.heap.size w8 z2):=Sz1.out.trans (hb.mono Sz1.out.size)
    clear hb
    dsimp only
    refine hKc _ _ ⟨fun _=>Sz2.out,?_⟩
    clear hKc Kc
    try simp only [Act.put,zq1,zq2,zq3]
    refine anyL_one 12 11 (by kernel_rfl) ?_
    refine wpOp_step rfl (fun Kc hKc=>?_)
    go_simp
    refine (HTO.out _).mono ?_
    rintro e z3 ⟨rfl,hb⟩
    have Sz3:Hid (Below w8.heap.size w8 z3):=Sz2.out.trans (hb.mono Sz2.out.size)
    clear hb
    dsimp only
    refine hKc _ _ ⟨fun _=>Sz3.out,?_⟩
    clear hKc Kc
    try simp only [Act.put,zq1,zq2,zq3]
    refine anyL_one 12 12 (by kernel_rfl) ?_
    refine op_store 12 246 (.tmp 4) (.tmp 53) rfl (w.heap.size+1) 0 _ [.int .u8 0,.int .u8 0,.int .u8 0,.int .u8 0,.int .u8 0,.int .u8 0,.int .u8 0,.int .u8 0,.int .u8 0,.int .u8 0,.int .u8 0,.int .u8 0,.int .u8 0,.int .u8 0,.int .u8 0,.int .u8 0] FB rfl rfl ((Sz3.out.block _ (lt_of_block HR8.out)).trans HR8.out) (row_size Tryz.size16 HFS) (by rw [HFS.out];show 0+16≤16;omega) HFO.out ?_
    intro x9 G9 ch9
    refine ⟨fun h=>absurd rfl h,?_⟩
    refine anyL_done (by kernel_rfl) ?_ _
    have F10:Hid (x9.heap[w.heap.size+1]?=some (.cells FB 246 (0,0))):=by
     have h:=G9.out
     rw [splice_full _ _ (by rw [Array.length_toList,HFS.out];rfl)] at h
     exact h
    have B10:Hid (Below w.heap.size w x9):=ch9.below (HB8.out.trans (Sz3.out.mono HB8.out.size)) (by omega)
    clear G9 ch9 HF8 HR8 HB8 HMV HLZ HTO
    go_wp2
    refine bodyPost_ret (results_cell_row rfl _ _ (w.heap.size+1) 246 FB (0,0) _ rfl F10.out Tryz.underlying246 rfl (row_size Tryz.size16 HFS)) rfl ⟨?_,B10.out⟩
    rw [HFB.out]
    rfl
end
end Go.Proofs.YtnnalemboeccbaaGreatDoor

import Derived.Test.YtnnalemboeccbaaGreatDoorA1
import Derived.Deep.QuietTactic
import Derived.BigQuiet
namespace Go.Proofs.YtnnalemboeccbaaGreatDoor
section
open Go.RowKit
def Tab (w:World) (g:Nat):Prop:=∀ t,t<64→w.cell? ⟨g,t,none⟩=some (.int .u32 (Sha.ki t))
theorem Tab.lt {w:World} {g:Nat} (h:Tab w g):g<w.heap.size:=World.block_lt_of_cell? w _ (h 0 (by omega))
theorem Tab.below {B:Nat} {w w':World} {g:Nat} (h:Tab w g) (hb:Below B w w') (hB:g<B):Tab w' g:=fun t ht=>by
 rw [hb.cell (p:=⟨g,t,none⟩) hB];exact h t ht
def TakeSaid:Prop:=∀ (s:Sha.St) (cs:Array Value) (r:Nat→Int) (_:cs.size=64) (_:∀ i,i<64→cs[i]?=some (.int .u8 (r i))) (_:∀ i,i<64→0≤r i∧r i≤255) (w:World) (_:Tab w 1),
  Calls Tryz.prog 191 #[.agg s.l.toArray,.agg cs] w fun e w'=>e = .returned (.agg (Sha.tk s r).l.toArray)∧Below w.heap.size w w'
end
section
open Go.RowKit
def TakeOk (w wr:World) (G:Nat) (st Z W:Array Value):Prop :=
 wr.heap[w.heap.size]?=some (.cells st 229 (0,0))∧wr.heap[w.heap.size+2]?=some (.cells Z 229 (0,0))∧wr.heap[G]?=some (.cells W 249 (0,0))∧Below w.heap.size w wr∧w.heap.size+2<wr.heap.size∧Tab wr 1
theorem TakeOk.drew {w wr:World} {G:Nat} {st Z W:Array Value} (h:TakeOk w wr G st Z W):TakeOk w wr.drew G st Z W :=
 ⟨h.1,h.2.1,h.2.2.1,h.2.2.2.1.drew,h.2.2.2.2.1,fun t ht=>h.2.2.2.2.2 t ht⟩
theorem TakeOk.start {w w1 w2:World} {st Z W Z2:Array Value} {row:Obj} (ht:Tab w 1)
  (hb:Below (((w.alloc (.cells st 229)).alloc row).alloc (.cells Z 229)).heap.size (((w.alloc (.cells st 229)).alloc row).alloc (.cells Z 229)) w1)
  (g2:w2.heap[w1.heap.size]?=some (.cells W 249 (0,0))) (ch:Chg w1.heap.size (w1.alloc (.cells Z2 249)) w2):TakeOk w w2 w1.heap.size st Z W:=by
 have hs:w.heap.size+3≤w1.heap.size:=by have:=hb.size;simpa using this
 have old:∀ k,k<w1.heap.size→w2.heap[k]?=w1.heap[k]?:=fun k hk=>by rw [ch.block k (by omega),heap_alloc_old _ _ hk]
 have hbw:Below w.heap.size w w1:=((((Below.refl _ w).alloc (Nat.le_refl _) (.cells st 229)).alloc (by simp) row).alloc (by simp;omega) (.cells Z 229)).trans (hb.mono (by simp;omega))
 have hbw2:Below w.heap.size w w2:=ch.below (hbw.alloc (by omega) _) (by omega)
 refine ⟨?_,?_,g2,hbw2,?_,ht.below hbw2 ht.lt⟩
 ·rw [old _ (by omega),hb.block _ (by simp;omega)];exact heap3_0 w _ _ _
 ·rw [old _ (by omega),hb.block _ (by simp)];exact heap3_2 w _ _ _
 ·rw [ch.size];simp;omega
theorem Tryz.size45:(Tryz.prog.info? 177).map (·.size)=some 64:=by kernel_rfl
theorem Tryz.size44:(Tryz.prog.info? 229).map (·.size)=some 8:=by kernel_rfl
set_option maxRecDepth 100000 in
set_option maxHeartbeats 2000000 in
theorem take_any:TakeSaid:=by
 intro s cs r hn hcs hr w ht
 have Hn:=Lib.hid hn;clear hn
 have Hcs:=Lib.hid hcs;clear hcs
 have Hr:=Lib.hid hr;clear hr
 have Ht:=Lib.hid ht;clear ht
 obtain ⟨a,b,c,d,e,f,g,h8⟩:=s
 simp only [Sha.St.l]
 go_enter Tryz.func191,Tryz.ntmps191
 go_upto_region 1 with (fail)
 refine wp_region_lit ?_
 refine row_load _ _ _ _ _ _ _ rfl (heap3_1 _ _ _ _) Tryz.underlying177 rfl (by rw [Hn.out];exact Tryz.size45) ?_
 go_upto_region 2 with (first
  | (go_at_call 211;refine (words_row cs r Hcs.out Hr.out _).mono ?_;rintro e w1 ⟨A,rfl,HA1,HA2,HA3,hb1⟩)
  | ((with_reducible refine row_store _ _ _ _ _ _ _ ?_ ?_ (heap_alloc_new _ _) (row_size Tryz.size53 HA1) ?_ HA2.out ?_);(exact rfl);(exact rfl);(rw [HA1.out];rfl);intro w2 g2 ch))
 have ok:=TakeOk.start Ht.out hb1 g2.out ch
 generalize w1.heap.size=G at *
 clear hb1 g2 ch Ht Hn
 have c0:=cell_of_row w2 w.heap.size 0 _ _ _ ok.1
 have c1:=cell_of_row w2 w.heap.size 1 _ _ _ ok.1
 have c2:=cell_of_row w2 w.heap.size 2 _ _ _ ok.1
 have c3:=cell_of_row w2 w.heap.size 3 _ _ _ ok.1
 have c4:=cell_of_row w2 w.heap.size 4 _ _ _ ok.1
 have c5:=cell_of_row w2 w.heap.size 5 _ _ _ ok.1
 have c6:=cell_of_row w2 w.heap.size 6 _ _ _ ok.1
 have c7:=cell_of_row w2 w.heap.size 7 _ _ _ ok.1
 have OK:=Lib.hid ok;clear ok
 simp at c0 c1 c2 c3 c4 c5 c6 c7
 go_region
 go_wp2
 go_region
 go_wp2
 go_loopw [6,7,8,9,10,11,12,13,39] (fun va vb vc vd ve vf vg vh vt wr=>∃ t:Nat,t≤64∧vt = .int .i64 t∧∃ x:Sha.St,Hid (x=Sha.rs ⟨a,b,c,d,e,f,g,h8⟩ r t)∧va = .int .u32 x.a∧vb = .int .u32 x.b∧vc = .int .u32 x.c∧vd = .int .u32 x.d∧ve = .int .u32 x.e∧vf = .int .u32 x.f∧vg = .int .u32 x.g∧vh = .int .u32 x.h∧TakeOk w wr G #[.int .u32 a,.int .u32 b,.int .u32 c,.int .u32 d,.int .u32 e,.int .u32 f,.int .u32 g,.int .u32 h8] #[.int .u32 0,.int .u32 0,.int .u32 0,.int .u32 0,.int .u32 0,.int .u32 0,.int .u32 0,.int .u32 0] A) (fun _ _ _ _ _ _ _ _ vt _=>64-(intOf vt).toNat)
 case atStart=>exact ⟨0,by omega,rfl,_,Sha.rs_zero _ _ |>.symm,rfl,rfl,rfl,rfl,rfl,rfl,rfl,rfl,OK.out.drew.drew⟩
 case round =>
  clear OK c0 c1 c2 c3 c4 c5 c6 c7
  obtain ⟨t,ht,rfl,x,HX,rfl,rfl,rfl,rfl,rfl,rfl,rfl,rfl,ok⟩:=hrel
  by_cases hlt:t<64
  ·as_aux_lemma =>
   have ck:=ok.2.2.2.2.2 t hlt
   have cw:=(cell_of_row wr G t _ _ _ ok.2.2.1).trans (HA3.out t hlt)
   have OK:=Lib.hid ok;clear ok
   go_upto_region 8 with (go_at_call 212;refine (right_any _ _ (by decide) _).mono ?_;rintro e w' ⟨rfl,rfl⟩)
   generalize h1:bits .xor .u32 (bits .xor .u32 (Sha.rr 6 x.e) (Sha.rr 11 x.e)) (Sha.rr 25 x.e)=S1
   have H1:=Lib.hid h1;clear h1
   go_upto_region 9 with (fail)
   generalize h2:bits .xor .u32 (bits .and .u32 x.e x.f) (bits .and .u32 (bits .xor .u32 (if IntKind.u32.signed=true then -1 else IntKind.u32.max) x.e) x.g)=CH
   have H2:Hid (bits .xor .u32 (bits .and .u32 x.e x.f) (bits .and .u32 (bits .xor .u32 IntKind.u32.max x.e) x.g)=CH):=h2
   clear h2
   go_region
   generalize h3:((x.h+S1+CH+Sha.ki t) % 4294967296+Sha.wd r t) % 4294967296=T1
   have H3:=Lib.hid h3;clear h3
   go_upto_region 11 with (go_at_call 212;refine (right_any _ _ (by decide) _).mono ?_;rintro e w' ⟨rfl,rfl⟩)
   generalize h4:bits .xor .u32 (bits .xor .u32 (Sha.rr 2 x.a) (Sha.rr 13 x.a)) (Sha.rr 22 x.a)=S0
   have H4:=Lib.hid h4;clear h4
   go_upto_region 12 with (fail)
   generalize h5:bits .xor .u32 (bits .xor .u32 (bits .and .u32 x.a x.b) (bits .and .u32 x.a x.c)) (bits .and .u32 x.b x.c)=MJ
   have H5:=Lib.hid h5;clear h5
   go_upto_region 13 with (fail)
   generalize h6:(S0+MJ) % 4294967296=T2
   have H6:=Lib.hid h6;clear h6
   go_wp2
   have h0:=Sha.rnd_eq (Sha.ki t) (Sha.wd r t) x S1 CH T1 S0 MJ T2 H1.out H2.out H3.out H4.out H5.out H6.out
   have h7:Sha.rs ⟨a,b,c,d,e,f,g,h8⟩ r (t+1) = ⟨(T1+T2) % 4294967296,x.a,x.b,x.c,(x.d+T1) % 4294967296,x.e,x.f,x.g⟩:=by rw [Sha.rs_succ,← HX.out,h0]
   exact ⟨⟨t+1,by omega,by go_num,_,h7.symm,rfl,rfl,rfl,rfl,rfl,rfl,rfl,rfl,OK.out.drew⟩,by simp [intOf];omega⟩
  ·have E:t=64:=by omega
   have hge:64≤t:=by omega
   have c0:=cell_of_row wr w.heap.size 0 _ _ _ ok.1
   have c1:=cell_of_row wr w.heap.size 1 _ _ _ ok.1
   have c2:=cell_of_row wr w.heap.size 2 _ _ _ ok.1
   have c3:=cell_of_row wr w.heap.size 3 _ _ _ ok.1
   have c4:=cell_of_row wr w.heap.size 4 _ _ _ ok.1
   have c5:=cell_of_row wr w.heap.size 5 _ _ _ ok.1
   have c6:=cell_of_row wr w.heap.size 6 _ _ _ ok.1
   have c7:=cell_of_row wr w.heap.size 7 _ _ _ ok.1
   have R2:=Lib.hid ok.2.1
   have OK4:=Lib.hid ok.2.2.2.1
   have OK5:=Lib.hid ok.2.2.2.2.1
   have HX2:Hid (x=Sha.rs ⟨a,b,c,d,e,f,g,h8⟩ r 64):=by rw [← E];exact HX
   clear E hlt HX ok
   simp at c0 c1 c2 c3 c4 c5 c6 c7
   go_wp2_with ((with_reducible refine row_store _ _ _ _ _ _ (Sha.plus ⟨a,b,c,d,e,f,g,h8⟩ x).l.toArray ?_ ?_ R2.out ?_ ?_ ?_ ?_);(exact rfl);(exact rfl);(exact Tryz.size44);(exact rfl);(exact one8 _ _ _ _ _ _ _ _ _);intro w3 g3 ch3)
   refine bodyPost_ret (results_cell_row rfl _ _ (w.heap.size+2) 229 _ (0,0) _ rfl g3.out Tryz.underlying229 rfl Tryz.size44) rfl ⟨?_,ch3.below OK4.out (by omega)⟩
   have h0:Sha.tk ⟨a,b,c,d,e,f,g,h8⟩ r=Sha.plus ⟨a,b,c,d,e,f,g,h8⟩ x:=by rw [Sha.tk_eq,← HX2.out]
   rw [h0]
   rfl
end
end Go.Proofs.YtnnalemboeccbaaGreatDoor

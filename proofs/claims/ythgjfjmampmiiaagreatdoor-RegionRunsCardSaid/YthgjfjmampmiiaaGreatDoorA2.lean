import Derived.Test.YthgjfjmampmiiaaGreatDoorA1
import Derived.BigQuiet
namespace Go.Proofs.YthgjfjmampmiiaaGreatDoor
open Go.Proofs.Tryz
set_option maxHeartbeats 2000000
set_option maxRecDepth 100000
section
open Go.RowKit
def cT (w:World) (g:Nat):Prop:=∀ t,t<64→w.cell? ⟨g,t,none⟩=some (.int .u32 (ai.ki t))
theorem cT.lt {w:World} {g:Nat} (h:cT w g):g<w.heap.size:=World.block_lt_of_cell? w _ (h 0 (by omega))
theorem cT.below {B:Nat} {w w':World} {g:Nat} (h:cT w g) (hb:Below B w w') (hB:g<B):cT w' g:=fun t ht=>by
 rw [hb.cell (p:=⟨g,t,none⟩) hB];exact h t ht
def aV:Prop:=∀ (s:ai.St) (cs:Array Value) (r:Nat→Int) (_:cs.size=64) (_:∀ i,i<64→cs[i]?=some (.int .u8 (r i))) (_:∀ i,i<64→0≤r i∧r i≤255) (w:World) (_:cT w 0),
  qc 161 #[.agg s.l.toArray,.agg cs] w fun e w'=>e = .returned (.agg (ai.tk s r).l.toArray)∧qw w w'
end
section
open Go.RowKit
def je (w wr:World) (G:Nat) (st Z W:Array Value):Prop :=
 wr.heap[w.heap.size]?=some (.cells st 201 (0,0))∧wr.heap[w.heap.size+2]?=some (.cells Z 201 (0,0))∧wr.heap[G]?=some (.cells W 223 (0,0))∧qw w wr∧w.heap.size+2<wr.heap.size∧cT wr 0
theorem je.drew {w wr:World} {G:Nat} {st Z W:Array Value} (h:je w wr G st Z W):je w wr.drew G st Z W :=
 ⟨h.1,h.2.1,h.2.2.1,h.2.2.2.1.drew,h.2.2.2.2.1,fun t ht=>h.2.2.2.2.2 t ht⟩
theorem je.start {w w1 w2:World} {st Z W Z2:Array Value} {row:Obj} (ht:cT w 0)
  (hb:Below (((w.alloc (.cells st 201)).alloc row).alloc (.cells Z 201)).heap.size (((w.alloc (.cells st 201)).alloc row).alloc (.cells Z 201)) w1)
  (g2:w2.heap[w1.heap.size]?=some (.cells W 223 (0,0))) (ch:bJ w1.heap.size (w1.alloc (.cells Z2 223)) w2):je w w2 w1.heap.size st Z W:=by
 have hs:w.heap.size+3≤w1.heap.size:=by have:=hb.size;simpa using this
 have av:∀ k,k<w1.heap.size→w2.heap[k]?=w1.heap[k]?:=fun k hk=>by rw [ch.block k (by omega),heap_alloc_old _ _ hk]
 have I1:qw w w1:=((((Below.refl _ w).alloc qn (.cells st 201)).alloc (by simp) row).alloc (by simp;omega) (.cells Z 201)).trans (hb.mono (by simp;omega));have Gh:qw w w2:=ch.below (I1.alloc (by omega) _) (by omega);refine ⟨?_,?_,g2,Gh,?_,ht.below Gh ht.lt⟩
 ·rw [av _ (by omega),hb.block _ (by simp;omega)];exact lh w _ _ _
 ·rw [av _ (by omega),hb.block _ (by simp)];exact iD w _ _ _
 ·rw [ch.size];simp;omega
theorem Tryz.aaZ:(prog.info? 158).map (·.size)=some 64:=by kernel_rfl
theorem Tryz.jg:(prog.info? 201).map (·.size)=some 8:=by kernel_rfl
theorem abr:aV:=by
 intro s cs r hn A7 hr w ht;have Hn:=qh hn;clear hn;have Hcs:=qh A7;clear A7;have Hr:=qh hr;clear hr;have Ht:=qh ht;clear ht;obtain ⟨a,b,c,d,e,f,g,h8⟩:=s;simp only [ai.St.l];go_enter func161,ntmps161;go_upto_region 1 with (fail)
 refine wp_region_lit ?_;refine ay _ _ _ _ _ _ _ rfl (jX _ _ _ _) underlying158 rfl (by rw [Hn.out];exact Tryz.aaZ) ?_;go_upto_region 2 with (first
  | (go_at_call 184;refine (yF cs r Hcs.out Hr.out _).mono ?_;rintro e w1 ⟨A,rfl,An,Ak,Au,Ag⟩)
  | ((with_reducible refine ak _ _ _ _ _ _ _ ?_ ?_ (heap_alloc_new _ _) (ae Tryz.qM An) ?_ Ak.out ?_);(exact rfl);(exact rfl);(rw [An.out];rfl);intro w2 g2 ch))
 have ok:=je.start Ht.out Ag g2.out ch;generalize w1.heap.size=G at *;clear Ag g2 ch Ht Hn;have c0:=cell_of_row w2 w.heap.size 0 _ _ _ ok.1;have c1:=cell_of_row w2 w.heap.size 1 _ _ _ ok.1;have c2:=cell_of_row w2 w.heap.size 2 _ _ _ ok.1;have c3:=cell_of_row w2 w.heap.size 3 _ _ _ ok.1;have c4:=cell_of_row w2 w.heap.size 4 _ _ _ ok.1;have c5:=cell_of_row w2 w.heap.size 5 _ _ _ ok.1;have c6:=cell_of_row w2 w.heap.size 6 _ _ _ ok.1;have c7:=cell_of_row w2 w.heap.size 7 _ _ _ ok.1;have OK:=qh ok;clear ok;simp at c0 c1 c2 c3 c4 c5 c6 c7;go_region
 go_wp2;go_region
 go_wp2;go_loopw [6,7,8,9,10,11,12,13,39] (fun va vb vc vd ve vf vg vh vt wr=>∃ t:Nat,t≤64∧vt = .int .i64 t∧∃ x:ai.St,Hid (x=ai.rs ⟨a,b,c,d,e,f,g,h8⟩ r t)∧va = .int .u32 x.a∧vb = .int .u32 x.b∧vc = .int .u32 x.c∧vd = .int .u32 x.d∧ve = .int .u32 x.e∧vf = .int .u32 x.f∧vg = .int .u32 x.g∧vh = .int .u32 x.h∧je w wr G #[.int .u32 a,.int .u32 b,.int .u32 c,.int .u32 d,.int .u32 e,.int .u32 f,.int .u32 g,.int .u32 h8] #[.int .u32 0,.int .u32 0,.int .u32 0,.int .u32 0,.int .u32 0,.int .u32 0,.int .u32 0,.int .u32 0] A) (fun _ _ _ _ _ _ _ _ vt _=>64-(intOf vt).toNat)
 case atStart=>exact ⟨0,by omega,rfl,_,ai.lg _ _ |>.symm,rfl,rfl,rfl,rfl,rfl,rfl,rfl,rfl,OK.out.drew.drew⟩
 case round =>
  clear OK c0 c1 c2 c3 c4 c5 c6 c7;obtain ⟨t,ht,rfl,x,HX,rfl,rfl,rfl,rfl,rfl,rfl,rfl,rfl,ok⟩:=hrel;by_cases Ae:t<64
  ·as_aux_lemma =>
   have ck:=ok.2.2.2.2.2 t Ae;have cw:=(cell_of_row wr G t _ _ _ ok.2.2.1).trans (Au.out t Ae);have OK:=qh ok;clear ok;go_upto_region 8 with (go_at_call 185;refine (ku _ _ (by decide) _).mono ?_;rintro e w' ⟨rfl,rfl⟩)
   generalize h1:bits .xor .u32 (bits .xor .u32 (ai.rr 6 x.e) (ai.rr 11 x.e)) (ai.rr 25 x.e)=S1;have H1:=qh h1;clear h1;go_upto_region 9 with (fail)
   generalize h2:bits .xor .u32 (bits .and .u32 x.e x.f) (bits .and .u32 (bits .xor .u32 (if IntKind.u32.signed=true then -1 else IntKind.u32.max) x.e) x.g)=CH;have H2:Hid (bits .xor .u32 (bits .and .u32 x.e x.f) (bits .and .u32 (bits .xor .u32 IntKind.u32.max x.e) x.g)=CH):=h2;clear h2;go_region
   generalize h3:((x.h+S1+CH+ai.ki t) % 4294967296+ai.wd r t) % 4294967296=T1;have H3:=qh h3;clear h3;go_upto_region 11 with (go_at_call 185;refine (ku _ _ (by decide) _).mono ?_;rintro e w' ⟨rfl,rfl⟩)
   generalize h4:bits .xor .u32 (bits .xor .u32 (ai.rr 2 x.a) (ai.rr 13 x.a)) (ai.rr 22 x.a)=S0;have H4:=qh h4;clear h4;go_upto_region 12 with (fail)
   generalize h5:bits .xor .u32 (bits .xor .u32 (bits .and .u32 x.a x.b) (bits .and .u32 x.a x.c)) (bits .and .u32 x.b x.c)=MJ;have H5:=qh h5;clear h5;go_upto_region 13 with (fail)
   generalize h6:(S0+MJ) % 4294967296=T2;have H6:=qh h6;clear h6;go_wp2;have h0:=ai.ach (ai.ki t) (ai.wd r t) x S1 CH T1 S0 MJ T2 H1.out H2.out H3.out H4.out H5.out H6.out;have h7:ai.rs ⟨a,b,c,d,e,f,g,h8⟩ r (t+1) = ⟨(T1+T2) % 4294967296,x.a,x.b,x.c,(x.d+T1) % 4294967296,x.e,x.f,x.g⟩:=by rw [ai.lL,← HX.out,h0]
   exact ⟨⟨t+1,by omega,by go_num,_,h7.symm,rfl,rfl,rfl,rfl,rfl,rfl,rfl,rfl,OK.out.drew⟩,by simp [intOf];omega⟩
  ·have E:t=64:=by omega
   have Bc:64≤t:=by omega
   have c0:=cell_of_row wr w.heap.size 0 _ _ _ ok.1;have c1:=cell_of_row wr w.heap.size 1 _ _ _ ok.1;have c2:=cell_of_row wr w.heap.size 2 _ _ _ ok.1;have c3:=cell_of_row wr w.heap.size 3 _ _ _ ok.1;have c4:=cell_of_row wr w.heap.size 4 _ _ _ ok.1;have c5:=cell_of_row wr w.heap.size 5 _ _ _ ok.1;have c6:=cell_of_row wr w.heap.size 6 _ _ _ ok.1;have c7:=cell_of_row wr w.heap.size 7 _ _ _ ok.1;have R2:=qh ok.2.1;have OK4:=qh ok.2.2.2.1;have OK5:=qh ok.2.2.2.2.1;have Cm:Hid (x=ai.rs ⟨a,b,c,d,e,f,g,h8⟩ r 64):=by rw [← E];exact HX
   clear E Ae HX ok;simp at c0 c1 c2 c3 c4 c5 c6 c7;go_wp2_with ((with_reducible refine ak _ _ _ _ _ _ (ai.plus ⟨a,b,c,d,e,f,g,h8⟩ x).l.toArray ?_ ?_ R2.out ?_ ?_ ?_ ?_);(exact rfl);(exact rfl);(exact Tryz.jg);(exact rfl);(exact aiD _ _ _ _ _ _ _ _ _);intro w3 g3 Dd)
   refine bodyPost_ret (results_cell_row rfl _ _ (w.heap.size+2) 201 _ (0,0) _ rfl g3.out underlying201 rfl Tryz.jg) rfl ⟨?_,Dd.below OK4.out (by omega)⟩;have h0:ai.tk ⟨a,b,c,d,e,f,g,h8⟩ r=ai.plus ⟨a,b,c,d,e,f,g,h8⟩ x:=by rw [ai.wg,← Cm.out]
   rw [h0]
   rfl
end
end Go.Proofs.YthgjfjmampmiiaaGreatDoor

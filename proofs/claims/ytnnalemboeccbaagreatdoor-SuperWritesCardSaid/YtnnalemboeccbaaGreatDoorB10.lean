import Derived.Test.YtnnalemboeccbaaGreatDoorBd1
import Derived.Test.YtnnalemboeccbaaGreatDoorB7
import Derived.Test.YtnnalemboeccbaaGreatDoorB8
import Derived.Test.YtnnalemboeccbaaGreatDoorB3
import Derived.Deep.QuietTactic
import Derived.BigQuiet
import Derived.RangeFuncNested
import Derived.RangeFuncBound
import Derived.RangeFuncCalls
import Derived.RangeFuncLeaves
import Derived.Shelf.Abstract
import Derived.Shelf.RegionOpen
import Derived.WalkKit
import Derived.OwnWalkIn
import Derived.TacticsInMore
import Derived.LoopNIn
import Derived.LoopIn
import Derived.OrdersIn
import Derived.RangeFuncWrites
import Derived.Laws.EntriesVeiled
namespace Go.Proofs.YtnnalemboeccbaaGreatDoor
section
open Go.RowKit
namespace Ctr
def cb (e n i:Int):List Int:=[e / 1099511627776 % 256,e / 4294967296 % 256,e / 16777216 % 256,e / 65536 % 256,e / 256 % 256,e % 256,
 n / 1099511627776 % 256,n / 4294967296 % 256,n / 16777216 % 256,n / 65536 % 256,n / 256 % 256,n % 256,i / 16777216 % 256,i / 65536 % 256,i / 256 % 256,i % 256]
theorem cb_len (e n i:Int):(cb e n i).length=16:=rfl
theorem cb_byt (e n i:Int):Sha.Byt (cb e n i):=fun x hx=>by
 unfold cb at hx
 simp only [List.mem_cons,List.not_mem_nil,or_false] at hx
 rcases hx with rfl | rfl | rfl | rfl | rfl | rfl | rfl | rfl | rfl | rfl | rfl | rfl | rfl | rfl | rfl | rfl<;>omega
def pt (l:List Int) (o m:Nat) (v:Int):Nat→List Int
 | 0=>l
 | k+1=>(pt l o m v k).set (o+(m-1-k)) (v / 256 ^ k % 256)
theorem pt_len (l:List Int) (o m:Nat) (v:Int) (k:Nat):(pt l o m v k).length=l.length:=by
 induction k with
 | zero=>rfl
 | succ k ih=>rw [pt,List.length_set,ih]
theorem pt_place (e n z i:Int):pt (cb e n z) 12 4 i 4=cb e n i:=by
 unfold cb
 simp [pt]
theorem pt_start (e n:Int):pt (pt (List.replicate 16 0) 0 6 e 6) 6 6 n 6=cb e n 0:=by
 unfold cb
 simp [pt]
end Ctr
def PutSay (l:List Int) (g o m:Nat) (v:Int) (w:World) (e:Ending) (w':World):Prop:=e = .returned (.tuple #[])∧Hid (w'.heap[g]?=some (.cells ((Ctr.pt l o m v m).map (Value.int .u8)).toArray 246 (0,0)))∧Chg g w w'
set_option maxHeartbeats 1000000 in
set_option maxRecDepth 100000 in
theorem put_any (l:List Int) (g o m c:Nat) (v:Int) (hl:l.length=16) (hm:o+m≤16) (hv:0≤v∧v<18446744073709551616) (w:World) (hg:w.heap[g]?=some (.cells (l.map (Value.int .u8)).toArray 246 (0,0))) :
  Calls Tryz.prog 251 #[.slice (some ⟨g,o,none⟩) m c,.int .u64 v] w (PutSay l g o m v w):=by
 have Hg:=Lib.hid hg;clear hg
 have Hl:=Lib.hid hl;clear hl
 go_enter Tryz.func251,Tryz.ntmps251
 go_wp2
 go_loopw [1,7] (fun v1 v7 wr=>∃ (k:Nat) (z:Int),k≤m∧v7 = .int .i64 k∧v1 = .int .u64 z∧0≤z∧z<18446744073709551616∧Hid (z=v / 256 ^ k)∧Hid (wr.heap[g]?=some (.cells ((Ctr.pt l o m v k).map (Value.int .u8)).toArray 246 (0,0)))∧Hid (Chg g w wr)) (fun _ v7 _=>m-(intOf v7).toNat)
 case atStart=>exact ⟨0,v,Nat.zero_le _,rfl,rfl,hv.1,hv.2,by show _=_;simp,Hg.out,Chg.refl _ _⟩
 case round =>
  clear Hg
  obtain ⟨k,z,hk,rfl,rfl,hz1,hz2,HZ,HG,HC⟩:=hrel
  by_cases hlt:k<m
  ·have hw1:IntKind.i64.wrap ((m:Int)-1)=(m:Int)-1:=IntWalk.i64_in _ ⟨by omega,by omega⟩
   have hw2:IntKind.i64.wrap ((m:Int)-1-k)=(m:Int)-1-k:=IntWalk.i64_in _ ⟨by omega,by omega⟩
   have hx1:0≤(m:Int)-1-k:=by omega
   have hx2:(m:Int)-1-k<(m:Int):=by omega
   have hx3:((m:Int)-1-k).toNat=m-1-k:=by omega
   have c0:=u8_cellB HG.out (o+(m-1-k)) (by rw [Ctr.pt_len,Hl.out];omega)
   have f0:=frozen_of_row wr g (o+(m-1-k)) _ _ HG.out
   generalize (Ctr.pt l o m v k).getD (o+(m-1-k)) 0=y0 at c0
   go_wp2
   refine ⟨⟨k+1,z / 256,by omega,by go_num,?_,by omega,by omega,?_,?_,?_⟩,by simp [intOf];omega⟩
   ·rfl
   ·show _=_
    rw [HZ.out,Int.ediv_ediv_of_nonneg (Int.le_of_lt (Int.pow_pos (by decide)))]
    rfl
   ·have h2:=u8_set (i:=o+(m-1-k)) (x:=z % 256) HG.out
    rw [HZ.out] at h2
    rw [HZ.out]
    exact h2
   ·exact HC.out.trans (Chg.setCell wr ⟨g,o+(m-1-k),none⟩ _)
  ·obtain rfl:k=m:=by omega
   have hge:(k:Int)≤(k:Int):=Int.le_refl _
   clear hlt
   go_wp2
   go_end0
   exact ⟨rfl,HG,HC.out⟩
end
section
open Go.RowKit
structure Only2 (a b:Nat) (w w':World):Prop where
 os:w'.os=w.os
 tape:w'.tape=w.tape
 output:w'.output=w.output
 size:w.heap.size≤w'.heap.size
 block:∀ k,k<w.heap.size→k ≠ a→k ≠ b→w'.heap[k]?=w.heap[k]?
theorem Only2.trans {a b:Nat} {x y z:World} (h:Only2 a b x y) (k:Only2 a b y z):Only2 a b x z :=
 ⟨k.os.trans h.os,k.tape.trans h.tape,k.output.trans h.output,Nat.le_trans h.size k.size,fun i hi ha hb=>(k.block i (Nat.lt_of_lt_of_le hi h.size) ha hb).trans (h.block i hi ha hb)⟩
theorem only2_of_below {a b:Nat} {w w':World} (h:Below w.heap.size w w'):Only2 a b w w':=⟨h.os,h.tape,h.output,h.size,fun k hk _ _=>h.block k hk⟩
theorem only2_left {a b:Nat} {w w':World} (h:Chg a w w'):Only2 a b w w':=⟨h.os,h.tape,h.output,by rw [h.size];exact Nat.le_refl _,fun k _ hk _=>h.block k hk⟩
theorem only2_right {a b:Nat} {w w':World} (h:Chg b w w'):Only2 a b w w':=⟨h.os,h.tape,h.output,by rw [h.size];exact Nat.le_refl _,fun k _ _ hk=>h.block k hk⟩
theorem Only2.below {a b B:Nat} {w0 w w':World} (h:Only2 a b w w') (hb:Below B w0 w) (ha:B≤a) (hb2:B≤b) (hB:B≤w.heap.size):Below B w0 w' :=
 hb.trans ⟨h.os,h.tape,h.output,h.size,fun k hk=>h.block k (by omega) (by omega) (by omega)⟩
structure Strm (w:World) (gb gi gc c:Nat) (ks:List Int) (e n:Int) (i:Nat):Prop where
 blk:∃ z,w.heap[gb]?=some (.cells ((Ctr.cb e n z).map (Value.int .u8)).toArray 246 (0,0))
 ctr:w.heap[gi]?=some (.cells #[.int .u64 (i:Int)] 195 (0,0))
 box:w.heap[gc]?=some (.cells #[.pointer (some ⟨c,0,none⟩)] 93 (0,0))
 cip:Ciph w c Aes.TB ks
 ne:gb ≠ gi∧gb ≠ gc∧gi ≠ gc
theorem Strm.keep {w x:World} {gb gi gc c:Nat} {ks:List Int} {e n:Int} {i:Nat} (h:Strm w gb gi gc c ks e n i) (hb:Below w.heap.size w x):Strm x gb gi gc c ks e n i:=by
 obtain ⟨z,hz⟩:=h.blk
 exact ⟨⟨z,(hb.block _ (lt_of_block hz)).trans hz⟩,(hb.block _ (lt_of_block h.ctr)).trans h.ctr,(hb.block _ (lt_of_block h.box)).trans h.box,h.cip.below hb (Nat.le_refl _),h.ne⟩
theorem Ciph.chg {w w':World} {c g:Nat} {T ks:List Int} {A:Array Value} {t:TypeId} {fr:Nat × Nat} (h:Ciph w c T ks) (hg:w.heap[g]?=some (.cells A t fr)) (h1:t ≠ 149) (h2:t ≠ 154) (ho:Chg g w w'):Ciph w' c T ks:=by
 obtain ⟨kb,n,cap,base,hc,hlen,hown⟩:=h
 have hcg:c ≠ g:=fun e=>by
  subst e
  rw [hc] at hg
  simp only [Option.some.injEq,Obj.cells.injEq] at hg
  exact h1 hg.2.1.symm
 refine ⟨kb,n,cap,base,(ho.block _ hcg).trans hc,hlen,hown.1,?_⟩
 rcases hown.2 with ⟨h',_⟩ | ⟨g',cap',cur,hv,q0,q1,q2⟩
 ·cases h'
 ·refine Or.inr ⟨g',cap',cur,hv,q0,(ho.block _ (fun e=>?_)).trans q1,q2⟩
  subst e
  rw [q1] at hg
  simp only [Option.some.injEq,Obj.cells.injEq] at hg
  exact h2 hg.2.1.symm
theorem Strm.turn {w x:World} {gb gi gc c:Nat} {ks:List Int} {e n z:Int} {i:Nat} (h:Strm w gb gi gc c ks e n i) (hg:x.heap[gb]?=some (.cells ((Ctr.cb e n z).map (Value.int .u8)).toArray 246 (0,0))) (ho:Chg gb w x):Strm x gb gi gc c ks e n i:=by
 obtain ⟨z',hz⟩:=h.blk
 exact ⟨⟨z,hg⟩,(ho.block _ h.ne.1.symm).trans h.ctr,(ho.block _ h.ne.2.1.symm).trans h.box,h.cip.chg hz (by decide) (by decide) ho,h.ne⟩
theorem Strm.count {w x:World} {gb gi gc c:Nat} {ks:List Int} {e n:Int} {i j:Nat} (h:Strm w gb gi gc c ks e n i) (hg:x.heap[gi]?=some (.cells #[.int .u64 (j:Int)] 195 (0,0))) (ho:Chg gi w x):Strm x gb gi gc c ks e n j:=by
 obtain ⟨z',hz⟩:=h.blk
 exact ⟨⟨z',(ho.block _ h.ne.1).trans hz⟩,hg,(ho.block _ h.ne.2.2.symm).trans h.box,h.cip.chg h.ctr (by decide) (by decide) ho,h.ne⟩
def Ctr.sblk (ks:List Int) (N:Nat) (e n:Int) (i:Nat):List Int:=Aes.blk Aes.TB ks N (Ctr.cb e n (i:Int))
theorem sblk_len (ks:List Int) (N:Nat) (e n:Int) (i:Nat):(Ctr.sblk ks N e n i).length=16:=Aes.blk_len _ _ _ _
def NextSay (gb gi gc c:Nat) (ks:List Int) (N:Nat) (e n:Int) (i:Nat) (w:World) (r:Ending) (w':World):Prop :=
 r = .returned (Bk (Ctr.sblk ks N e n i))∧Strm w' gb gi gc c ks e n (i+1)∧Only2 gb gi w w'
set_option maxHeartbeats 4000000 in
set_option maxRecDepth 100000 in
theorem next_any (gb gi gc c:Nat) (ks:List Int) (N:Nat) (e n:Int) (i:Nat) (hn:ks.length=4*(N+2)) (hN:N≤100) (hi:i<4294967296) (w:World) (hS:Strm w gb gi gc c ks e n i) :
  Calls Tryz.prog 252 #[.pointer (some ⟨gb,0,none⟩),.pointer (some ⟨gi,0,none⟩),.pointer (some ⟨gc,0,none⟩)] w (NextSay gb gi gc c ks N e n i w):=by
 have HS:=Lib.hid hS;clear hS
 have HN:=Lib.hid (And.intro hn hN);clear hn hN
 go_enter Tryz.func252,Tryz.ntmps252
 go_upto_region 1 with fail
 have HR1:Hid ((w.alloc (.cells #[.int .u8 0,.int .u8 0,.int .u8 0,.int .u8 0,.int .u8 0,.int .u8 0,.int .u8 0,.int .u8 0,.int .u8 0,.int .u8 0,.int .u8 0,.int .u8 0,.int .u8 0,.int .u8 0,.int .u8 0,.int .u8 0] 246)).heap[w.heap.size]?=some (.cells (List.replicate 16 (Value.int .u8 0)).toArray 246 (0,0))):=heap_alloc_new w _
 have HO1:Hid (Only2 gb gi w (w.alloc (.cells #[.int .u8 0,.int .u8 0,.int .u8 0,.int .u8 0,.int .u8 0,.int .u8 0,.int .u8 0,.int .u8 0,.int .u8 0,.int .u8 0,.int .u8 0,.int .u8 0,.int .u8 0,.int .u8 0,.int .u8 0,.int .u8 0] 246))):=only2_of_below ((Below.refl _ w).alloc (Nat.le_refl _) _)
 have HS1:Hid (Strm (w.alloc (.cells #[.int .u8 0,.int .u8 0,.int .u8 0,.int .u8 0,.int .u8 0,.int .u8 0,.int .u8 0,.int .u8 0,.int .u8 0,.int .u8 0,.int .u8 0,.int .u8 0,.int .u8 0,.int .u8 0,.int .u8 0,.int .u8 0] 246)) gb gi gc c ks e n i):=HS.out.keep ((Below.refl _ w).alloc (Nat.le_refl _) _)
 have HL:Hid (gb<w.heap.size∧gi<w.heap.size∧gc<w.heap.size):=⟨lt_of_block HS.out.blk.choose_spec,lt_of_block HS.out.ctr,lt_of_block HS.out.box⟩
 clear HS
 generalize w.alloc (.cells #[.int .u8 0,.int .u8 0,.int .u8 0,.int .u8 0,.int .u8 0,.int .u8 0,.int .u8 0,.int .u8 0,.int .u8 0,.int .u8 0,.int .u8 0,.int .u8 0,.int .u8 0,.int .u8 0,.int .u8 0,.int .u8 0] 246)=w1 at *
 refine wp_region_any (by kernel_rfl) ?_
 change wpAny _ _ _ _ _ _ _ (World.drew _)
 have HR2:Hid (w1.drew.heap[w.heap.size]?=some (.cells (List.replicate 16 (Value.int .u8 0)).toArray 246 (0,0))):=HR1.out
 have HO2:Hid (Only2 gb gi w w1.drew):=HO1.out.trans (only2_of_below (Below.refl _ _).drew)
 have HS2:Hid (Strm w1.drew gb gi gc c ks e n i):=HS1.out.keep (Below.refl _ _).drew
 clear HR1 HO1 HS1
 generalize w1.drew=w2 at *
 have Sz0:Hid (w2.cell? ⟨gi,0,none⟩=some (.int .u64 (i:Int))):=by show _=_;rw [cell_of_row w2 gi 0 _ _ _ HS2.out.ctr];rfl
 refine wpAny_of_held (S:=fun x:World=>x.cell? ⟨gi,0,none⟩=some (.int .u64 (i:Int))) _ _ _ _ ?_
 refine aH 0 4 (.slice (some ⟨gb,12,none⟩) 4 4) Sz0.out rfl (by intro x hx;go_simp;try (intro h;omega)) ?_
 try simp only [Act.put,zq1,zq2,zq3]
 refine aH 1 5 (.int .u64 (i:Int)) Sz0.out rfl (by intro x hx;go_simp;try (intro h;omega)) ?_
 try simp only [Act.put,zq1,zq2,zq3]
 obtain ⟨z,hz⟩:=HS2.out.blk
 have hi64:0≤(i:Int)∧(i:Int)<18446744073709551616:=by omega
 refine anyH_one 2 (by kernel_rfl) ?_
 refine wpOp_step rfl (fun Kc hKc=>?_)
 go_simp
 refine (put_any (Ctr.cb e n z) gb 12 4 4 (i:Int) (Ctr.cb_len _ _ _) (by omega) hi64 _ hz).mono ?_
 rintro r w3 ⟨rfl,G3,ch3⟩
 have HG3:Hid (w3.heap[gb]?=some (.cells ((Ctr.cb e n (i:Int)).map (Value.int .u8)).toArray 246 (0,0))):=by
  have h:=G3.out
  rw [Ctr.pt_place] at h
  exact h
 have HS3:=Lib.hid (HS2.out.turn HG3.out ch3)
 have HO3:Hid (Only2 gb gi w w3):=HO2.out.trans (only2_left ch3)
 have HR3:Hid (w3.heap[w.heap.size]?=some (.cells (List.replicate 16 (Value.int .u8 0)).toArray 246 (0,0))):=(ch3.block _ (by have:=HL.out;omega)).trans HR2.out
 have Sz3:Hid (w3.cell? ⟨gi,0,none⟩=some (.int .u64 (i:Int))):=by show _=_;rw [cell_of_row w3 gi 0 _ _ _ HS3.out.ctr];rfl
 clear G3 ch3 hz HO2 HR2 Sz0 HS2
 dsimp only
 refine hKc _ _ ⟨Sz3.out,?_⟩
 clear hKc Kc
 try simp only [Act.put,zq1,zq2,zq3]
 refine anyH_done (by kernel_rfl) ?_ _
 have f3:=frozen_of_row w3 gi 0 _ _ HS3.out.ctr
 have c3:=Sz3.out
 have hw3:(i:Int)+1<18446744073709551616:=by omega
 go_upto_region 3 with fail
 have ch4:Chg gi w3 (w3.setCell ⟨gi,0,none⟩ (.int .u64 ((i:Int)+1))):=Chg.setCell w3 ⟨gi,0,none⟩ _
 have HC4:Hid ((w3.setCell ⟨gi,0,none⟩ (.int .u64 ((i:Int)+1))).heap[gi]?=some (.cells #[.int .u64 (((i+1:Nat)):Int)] 195 (0,0))):=by
  show _=_
  rw [heap_setCell_same w3 gi 0 _ _ _ HS3.out.ctr]
  rfl
 have HS4:Hid (Strm (w3.setCell ⟨gi,0,none⟩ (.int .u64 ((i:Int)+1))) gb gi gc c ks e n (i+1)):=HS3.out.count HC4.out ch4
 have HG4:Hid ((w3.setCell ⟨gi,0,none⟩ (.int .u64 ((i:Int)+1))).heap[gb]?=some (.cells ((Ctr.cb e n (i:Int)).map (Value.int .u8)).toArray 246 (0,0))):=(ch4.block _ HS3.out.ne.1).trans HG3.out
 have HR4:Hid ((w3.setCell ⟨gi,0,none⟩ (.int .u64 ((i:Int)+1))).heap[w.heap.size]?=some (.cells (List.replicate 16 (Value.int .u8 0)).toArray 246 (0,0))):=(ch4.block _ (by have:=HL.out;omega)).trans HR3.out
 have HO4:Hid (Only2 gb gi w (w3.setCell ⟨gi,0,none⟩ (.int .u64 ((i:Int)+1)))):=HO3.out.trans (only2_right ch4)
 clear ch4 HC4 c3 f3 hw3 Sz3 HS3 HR3 HO3 HG3
 generalize w3.setCell ⟨gi,0,none⟩ (.int .u64 ((i:Int)+1))=w4 at *
 have c4:w4.cell? ⟨gc,0,none⟩=some (.pointer (some ⟨c,0,none⟩)):=by rw [cell_of_row w4 gc 0 _ _ _ HS4.out.box];rfl
 obtain ⟨A,HA1,HA2⟩:∃ A:Array Value,Hid (A=((Ctr.cb e n (i:Int)).map (Value.int .u8)).toArray)∧Hid (A.size=16):=⟨_,rfl,by show _=_;simp [Ctr.cb_len]⟩
 rw [← HA1.out] at HG4
 obtain ⟨X,HX1,HX2,HX3⟩:∃ X:Array Value,Hid (X=((Ctr.sblk ks N e n i).map (Value.int .u8)).toArray)∧Hid (X.size=16)∧Hid (X.all (·.oneCell')=true):=⟨_,rfl,by show _=_;simp [sblk_len],u8_all _⟩
 have HBK:Hid (Calls Tryz.prog 253 #[.pointer (some ⟨c,0,none⟩),.agg A] w4 fun r w'=>r = .returned (.agg X)∧Below w4.heap.size w4 w'):=by
  have h:=block_anyB ks (Ctr.cb e n (i:Int)) N c w4 HS4.out.cip HN.out.1 HN.out.2 (Ctr.cb_len _ _ _) (Ctr.cb_byt _ _ _)
  unfold Bk at h
  rw [← HA1.out] at h
  rw [HX1.out]
  exact h.mono fun r w' hh=>⟨hh.1,hh.2⟩
 go_wp2_with (first
  | ((with_reducible refine row_load _ _ _ _ _ _ _ ?_ HG4.out Tryz.underlying246 ?_ (row_size Tryz.size16 HA2) ?_);(exact rfl);(exact rfl))
  | (go_at_call 253;refine HBK.out.mono ?_;rintro r w5 ⟨rfl,hb5⟩;have HS5:=Lib.hid (HS4.out.keep hb5);have HO5:Hid (Only2 gb gi w w5):=HO4.out.trans (only2_of_below hb5);have HR5:Hid (w5.heap[w.heap.size]?=some (.cells (List.replicate 16 (Value.int .u8 0)).toArray 246 (0,0))):=(hb5.block _ (lt_of_block HR4.out)).trans HR4.out;clear hb5)
  | ((with_reducible refine row_store _ _ _ _ _ _ _ ?_ ?_ HR5.out (row_size Tryz.size16 HX2) ?_ HX3.out ?_);(exact rfl);(exact rfl);(rw [HX2.out];rfl);intro w6 G6 ch6))
 refine bodyPost_ret (results_cell_row rfl _ _ w.heap.size 246 X (0,0) _ rfl G6.out Tryz.underlying246 rfl (row_size Tryz.size16 HX2)) rfl ⟨?_,?_,?_⟩
 ·rw [HX1.out,Bk]
 ·have hb:=HL.out
  obtain ⟨z',hz'⟩:=HS5.out.blk
  exact ⟨⟨z',(ch6.block _ (by omega)).trans hz'⟩,(ch6.block _ (by omega)).trans HS5.out.ctr,(ch6.block _ (by omega)).trans HS5.out.box,HS5.out.cip.chg HR5.out (by decide) (by decide) ch6,HS5.out.ne⟩
 ·have ho:=HO5.out
  exact ⟨ch6.os.trans ho.os,ch6.tape.trans ho.tape,ch6.output.trans ho.output,by rw [ch6.size];exact ho.size,fun k hk ha hb=>(ch6.block k (by omega)).trans (ho.block k hk ha hb)⟩
def StrmSay (c:Nat) (ks:List Int) (e n:Int) (w:World) (r:Ending) (w':World):Prop :=
 ∃ gb gi gc,r = .returned (.func (.func 252) #[] #[.pointer (some ⟨gb,0,none⟩),.pointer (some ⟨gi,0,none⟩),.pointer (some ⟨gc,0,none⟩)])∧w.heap.size≤gb∧w.heap.size≤gi∧w.heap.size≤gc∧Strm w' gb gi gc c ks e n 0∧Below w.heap.size w w'
set_option maxHeartbeats 4000000 in
set_option maxRecDepth 100000 in
theorem stream_any (c:Nat) (ks:List Int) (e n:Int) (w:World) (hC:Ciph w c Aes.TB ks) :
  Calls Tryz.prog 249 #[.pointer (some ⟨c,0,none⟩),.int .i64 e,.int .i64 n] w (StrmSay c ks (e % 18446744073709551616) (n % 18446744073709551616) w):=by
 have HC:=Lib.hid hC;clear hC
 go_enter Tryz.func249,Tryz.ntmps249
 go_upto_region 2 with fail
 have HG1:Hid (((w.alloc (.cells #[.pointer (some ⟨c,0,none⟩)] 93)).alloc (.cells #[.int .u8 0,.int .u8 0,.int .u8 0,.int .u8 0,.int .u8 0,.int .u8 0,.int .u8 0,.int .u8 0,.int .u8 0,.int .u8 0,.int .u8 0,.int .u8 0,.int .u8 0,.int .u8 0,.int .u8 0,.int .u8 0] 246)).heap[w.heap.size+1]?=some (.cells ((List.replicate 16 (0:Int)).map (Value.int .u8)).toArray 246 (0,0))):=heap_alloc2_new w _ _
 have HX1:Hid (((w.alloc (.cells #[.pointer (some ⟨c,0,none⟩)] 93)).alloc (.cells #[.int .u8 0,.int .u8 0,.int .u8 0,.int .u8 0,.int .u8 0,.int .u8 0,.int .u8 0,.int .u8 0,.int .u8 0,.int .u8 0,.int .u8 0,.int .u8 0,.int .u8 0,.int .u8 0,.int .u8 0,.int .u8 0] 246)).heap[w.heap.size]?=some (.cells #[.pointer (some ⟨c,0,none⟩)] 93 (0,0))):=heap_alloc2_old w _ _
 have HB1:Hid (Below w.heap.size w ((w.alloc (.cells #[.pointer (some ⟨c,0,none⟩)] 93)).alloc (.cells #[.int .u8 0,.int .u8 0,.int .u8 0,.int .u8 0,.int .u8 0,.int .u8 0,.int .u8 0,.int .u8 0,.int .u8 0,.int .u8 0,.int .u8 0,.int .u8 0,.int .u8 0,.int .u8 0,.int .u8 0,.int .u8 0] 246))):=((Below.refl _ w).alloc (Nat.le_refl _) _).alloc (by simp) _
 have HZ1:Hid (((w.alloc (.cells #[.pointer (some ⟨c,0,none⟩)] 93)).alloc (.cells #[.int .u8 0,.int .u8 0,.int .u8 0,.int .u8 0,.int .u8 0,.int .u8 0,.int .u8 0,.int .u8 0,.int .u8 0,.int .u8 0,.int .u8 0,.int .u8 0,.int .u8 0,.int .u8 0,.int .u8 0,.int .u8 0] 246)).heap.size=w.heap.size+2):=by show _=_;simp
 generalize (w.alloc (.cells #[.pointer (some ⟨c,0,none⟩)] 93)).alloc (.cells #[.int .u8 0,.int .u8 0,.int .u8 0,.int .u8 0,.int .u8 0,.int .u8 0,.int .u8 0,.int .u8 0,.int .u8 0,.int .u8 0,.int .u8 0,.int .u8 0,.int .u8 0,.int .u8 0,.int .u8 0,.int .u8 0] 246)=w1 at *
 have he:0≤e % 18446744073709551616∧e % 18446744073709551616<18446744073709551616:=⟨by omega,by omega⟩
 have hn:0≤n % 18446744073709551616∧n % 18446744073709551616<18446744073709551616:=⟨by omega,by omega⟩
 have tok1:Hid (1=1):=rfl
 have hp0:Hid ((Ctr.pt (List.replicate 16 0) 0 6 (e % 18446744073709551616) 6).length=16):=by show _=_;rw [Ctr.pt_len];rfl
 go_upto_region 4 with (first
  | (go_at_call 251;have _t:=tok1.out;refine (put_any (List.replicate 16 0) (w.heap.size+1) 0 6 6 (e % 18446744073709551616) rfl (by omega) he _ HG1.out).mono ?_;clear tok1;rintro r w2 ⟨rfl,HG2,ch2⟩)
  | (go_at_call 251;refine (put_any (Ctr.pt (List.replicate 16 0) 0 6 (e % 18446744073709551616) 6) (w.heap.size+1) 6 6 6 (n % 18446744073709551616) hp0.out (by omega) hn _ HG2.out).mono ?_;rintro r w3 ⟨rfl,HG3,ch3⟩))
 have HG3':Hid (w3.heap[w.heap.size+1]?=some (.cells ((Ctr.cb (e % 18446744073709551616) (n % 18446744073709551616) 0).map (Value.int .u8)).toArray 246 (0,0))):=by
  have h:=HG3.out
  rw [Ctr.pt_start] at h
  exact h
 have ch:=ch2.trans ch3
 have HX3:Hid (w3.heap[w.heap.size]?=some (.cells #[.pointer (some ⟨c,0,none⟩)] 93 (0,0))):=(ch.block _ (by omega)).trans HX1.out
 have HB3:Hid (Below w.heap.size w w3):=ch.below HB1.out (by omega)
 have HZ3:Hid (w3.heap.size=w.heap.size+2):=ch.size.trans HZ1.out
 clear ch ch2 ch3 HG1 HG2 HG3 HX1 HB1 HZ1
 go_wp2
 go_ret
 have hsz:=HZ3.out
 rw [hsz]
 refine ⟨w.heap.size+1,w.heap.size+2,w.heap.size,rfl,by omega,by omega,Nat.le_refl _,?_,?_⟩
 ·have hb:Below w3.heap.size w3 (w3.alloc (.cells #[.int .u64 0] 195)):=(Below.refl _ w3).alloc (Nat.le_refl _) _
  refine ⟨⟨0,(hb.block _ (lt_of_block HG3'.out)).trans HG3'.out⟩,?_,(hb.block _ (lt_of_block HX3.out)).trans HX3.out,(HC.out.below HB3.out (Nat.le_refl _)).below hb (Nat.le_refl _),by omega,by omega,by omega⟩
  rw [← hsz]
  exact heap_alloc_new w3 _
 ·exact HB3.out.alloc HB3.out.size _
def ClnSay (L:List Int) (w:World) (r:Ending) (w':World):Prop :=
 ∃ v,r = .returned v∧w'.ownsRow w.heap.size 5 1 v L.length (U8s L)∧Below w.heap.size w w'
set_option maxHeartbeats 1000000 in
set_option maxRecDepth 100000 in
theorem clone_any (L:List Int) (p:Option Addr) (cap:Nat) (hL:L.length≤1000000000) (hp0:p=none→L = []∧cap=0) (w:World) (hp:BAt w p L) :
  Calls Tryz.prog 58 #[.slice p L.length cap] w (ClnSay L w):=by
 have hq:=@Lib.run_eql_slice_nil Tryz.prog
 cases p with
 | none =>
  obtain ⟨rfl,rfl⟩:=hp0 rfl
  go_enter Tryz.func58,Tryz.ntmps58
  go_wp2
  go_ret
  exact ⟨_,rfl,by unfold U8s;exact World.ownsRow_nil _ _ _ _,Below.refl _ _⟩
 | some ad =>
  have Hp:=Lib.hid hp;clear hp hp0
  have HC:Hid (∀ j u,(L.map (Value.int .u8))[j]?=some u→(w.alloc (.cells #[] 5)).cell? (ad.add j)=some u):=fun j u hj=>by
   have hjl:j<L.length:=by have:=(List.getElem?_eq_some_iff.1 hj).1;simpa using this
   obtain ⟨ab,ao,h1,h2⟩:=Hp.out.2 (by omega)
   cases h1
   rw [Addr.add_mid,cell_alloc_old _ (h2 j hjl)]
   rw [List.getElem?_map,List.getElem?_eq_getElem hjl] at hj
   rw [List.getD_eq_getElem?_getD,List.getElem?_eq_getElem hjl]
   simpa using hj
  have HE:Hid ((w.alloc (.cells #[] 5)).ownsRow w.heap.size 5 1 (.slice (some ⟨w.heap.size,0,none⟩) 0 0) 0 []):=by
   have h:=own_empty w w.heap.size (Nat.le_refl _)
   rwa [U8s_nil] at h
  obtain ⟨i0,hi,hz0,hz1,hz2⟩:=info_parts Tryz.info_u8
  go_enter Tryz.func58,Tryz.ntmps58
  go_wp2_with (at_builtin;refine wpList_append_own _ rfl _ _ 22 rfl w.heap.size 5 i0 (.int .u8 0) 1 1 Tryz.underlying22 hi hz0 hz1 hz2 rfl (by decide) _ 0 [] rfl HE.out ad L.length cap (L.map (Value.int .u8)) rfl (by simp) HC.out (by intro u hu;rw [List.mem_map] at hu;obtain ⟨x,_,rfl⟩:=hu;rfl) (by unfold maxLen;omega) (by omega) (by simp) ?_;intro v' w1 hown hgrow _)
  go_ret
  have hl:0+L.length=L.length:=Nat.zero_add _
  rw [hl,List.nil_append] at hown
  exact ⟨_,rfl,by unfold U8s;exact hown,((Below.refl _ w).alloc (Nat.le_refl _) _).grown hgrow (by simp) (fun j e=>by cases e;exact Nat.le_refl _)⟩
end
section
open Go.RowKit Go.Shelf
set_option maxHeartbeats 1000000 in
theorem chunk_any (p:Option Addr) (len cap:Nat) (w:World) :
  Calls Tryz.prog 250 #[.slice p len cap,.int .i64 16] w fun e w'=>e = .returned (.func (.func 254) #[] #[.pointer (some ⟨w.heap.size,0,none⟩),.pointer (some ⟨w.heap.size+1,0,none⟩)]) ∧
   w'=(w.alloc (.cells #[.slice p len cap] 22)).alloc (.cells #[.int .i64 16] 3):=by
 go_enter Tryz.func250,Tryz.ntmps250
 go_wp2
 go_ret
 exact ⟨rfl,rfl⟩
def Ctr.encs (g len:Nat) (x:Nat):Array Value:=#[.slice (some ⟨g,16*x,none⟩) (min 16 (len-16*x)) (min 16 (len-16*x))]
def Ctr.nch (len:Nat):Nat:=(len+15) / 16
set_option maxRecDepth 100000 in
set_option maxHeartbeats 4000000 in
theorem chunk1_in (l bs bn g len cap:Nat) (p:Option Addr) (hp:0<len→p=some ⟨g,0,none⟩) (hlen:len≤1000000000) (hcap:len≤cap) (hcm:cap≤9223372036854775807) (J Jx:List Nat→World→Prop)
  (hY:∀ pre x W,J pre W→pre.length<Ctr.nch len→YieldAt Fence.wide 1 Tryz.prog l (Ctr.encs g len x) W fun e W' =>
   (e = .returned (.bool true)∧J (pre++[x]) W'∧W'.heap[bs]?=W.heap[bs]?∧W'.heap[bn]?=W.heap[bn]?)∨(e = .returned (.bool false)∧Jx (pre++[x]) W'))
  (W:World) (hbs:W.heap[bs]?=some (.cells #[.slice p len cap] 22 (0,0))) (hbn:W.heap[bn]?=some (.cells #[.int .i64 16] 3 (0,0))) (h0:J [] W) (hJd:∀ pre x,J pre x→J pre x.drew) :
  CallsIn Fence.wide 2 Tryz.prog 254 #[.func (.yield l) #[] #[],.pointer (some ⟨bs,0,none⟩),.pointer (some ⟨bn,0,none⟩)] W fun e W'=>(∃ v,e = .returned v) ∧
   ((∃ ys,ys=List.range (Ctr.nch len)∧J ys W')∨(∃ pre,True∧Jx pre W')):=by
 refine callsIn_of_wp Tryz.func254 rfl trivial ?_ rfl
 simp only [Tryz.ntmps254,List.size_toArray,List.length_cons,List.length_nil,Nat.reduceAdd,Nat.reduceSub,Array.replicate_succ,Array.replicate_zero,List.push_toArray,List.append_toArray,List.nil_append,List.cons_append]
 have HBS:=Lib.hid hbs;have HBN:=Lib.hid hbn;have HJ0:=Lib.hid h0;clear hbs hbn h0
 gi_wp2
 gi_loopw [4] (fun v4 wr=>∃ k:Nat,k≤Ctr.nch len∧v4 = .int .i64 (16*(k:Int))∧Hid (J (List.range k) wr)∧Hid (wr.heap[bs]?=some (.cells #[.slice p len cap] 22 (0,0)))∧Hid (wr.heap[bn]?=some (.cells #[.int .i64 16] 3 (0,0))))
  (fun v4 _=>16*Ctr.nch len-(intOf v4).toNat)
 case atStart=>exact ⟨0,Nat.zero_le _,rfl,HJ0.out,HBS.out,HBN.out⟩
 case round =>
  clear HBS HBN HJ0
  obtain ⟨k,hk,rfl,HJ,HBS,HBN⟩:=hrel
  have cs:wr.cell? ⟨bs,0,none⟩=some (.slice p len cap):=by rw [cell_of_row wr bs 0 _ _ _ HBS.out];rfl
  have cn:wr.cell? ⟨bn,0,none⟩=some (.int .i64 16):=by rw [cell_of_row wr bn 0 _ _ _ HBN.out];rfl
  by_cases hlt:16*k<len
  ·obtain rfl:=hp (by omega)
   have hlz:16*(k:Int)<(len:Int):=by omega
   have hkn:k<Ctr.nch len:=by unfold Ctr.nch;omega
   have ht:(16*(k:Int)).toNat=16*k:=by omega
   have h0:0≤16*(k:Int):=by omega
   have hle:16*(k:Int)≤(len:Int):=by omega
   have hle2:16*k≤len:=by omega
   have hsub:((len-16*k:Nat):Int)=(len:Int)-16*k:=by omega
   gi_wp2
   have csd:wr.drew.cell? ⟨bs,0,none⟩=some (.slice (some ⟨g,0,none⟩) len cap):=cs
   have cnd:wr.drew.cell? ⟨bn,0,none⟩=some (.int .i64 16):=cn
   gi_region
   obtain ⟨E,hE⟩:∃ E,E=min 16 (len-16*k):=⟨_,rfl⟩
   have HE:(if (len:Int)-16*(k:Int)<16 then (len:Int)-16*(k:Int) else 16)=(E:Int):=by split<;>omega
   rw [HE]
   obtain ⟨fn,tmps,assign,body,hy,hR⟩:=hY (List.range k) k wr.drew (hJd _ _ HJ.out) (by rw [List.length_range];exact hkn)
   unfold Ctr.encs at hy
   rw [← hE] at hy
   have e0:¬ E=0:=by omega
   have e00:0<E:=by omega
   have e1:E≤16:=by omega
   have e2:16*k+E≤len:=by omega
   have e3:16*k+E≤cap:=by omega
   have e4:(16*(k:Int)+(E:Int)).toNat=16*k+E:=by omega
   have e5:0≤16*(k:Int)+(E:Int):=by omega
   have e6:16*(k:Int)+(E:Int)≤(cap:Int):=by omega
   have e7:16*(k:Int)≤16*(k:Int)+(E:Int):=by omega
   have HEQ:=Lib.hid hE
   have HBSd:Hid (wr.drew.heap[bs]?=some (.cells #[.slice (some ⟨g,0,none⟩) len cap] 22 (0,0))):=HBS.out
   have HBNd:Hid (wr.drew.heap[bn]?=some (.cells #[.int .i64 16] 3 (0,0))):=HBN.out
   clear HE hE cs cn HBS HBN HJ
   generalize wr.drew=wd at *
   gi_wp2
   refine hR.mono ?_
   rintro e W3 (⟨rfl,hJ3,hs3,hn3⟩ | ⟨rfl,hJx3⟩)
   ·have HBS3:Hid (W3.heap[bs]?=some (.cells #[.slice (some ⟨g,0,none⟩) len cap] 22 (0,0))):=hs3.trans HBSd.out
    have HBN3:Hid (W3.heap[bn]?=some (.cells #[.int .i64 16] 3 (0,0))):=hn3.trans HBNd.out
    have HJ3:=Lib.hid hJ3
    have cn3:W3.cell? ⟨bn,0,none⟩=some (.int .i64 16):=by rw [cell_of_row W3 bn 0 _ _ _ HBN3.out];rfl
    clear hs3 hn3 hJ3 hR hy
    gi_wp2
    go_roundw
    case rel=>exact ⟨k+1,by omega,by congr 1,by show J _ _;rw [List.range_succ];exact HJ3.out,HBS3.out,HBN3.out⟩
    case measure=>simp [intOf];omega
   ·gi_wp2
    refine bodyPost_ret (results_none rfl _ _ _) rfl ?_
    exact ⟨⟨_,rfl⟩,.inr ⟨_,trivial,hJx3⟩⟩
  ·obtain rfl:k=Ctr.nch len:=by unfold Ctr.nch at *;omega
   have hge:(len:Int)≤16*((Ctr.nch len:Nat):Int):=by omega
   gi_wp2
   go_end0
   exact ⟨⟨_,rfl⟩,.inl ⟨_,rfl,HJ.out⟩⟩
end
section
open Go.RowKit
namespace Ctr
def xr (L B:List Int) (o:Nat):Nat→List Int
 | 0=>L
 | k+1=>(xr L B o k).set (o+k) (bits .xor .u8 ((xr L B o k).getD (o+k) 0) (B.getD k 0))
theorem xr_len (L B:List Int) (o k:Nat):(xr L B o k).length=L.length:=by
 induction k with
 | zero=>rfl
 | succ k ih=>rw [xr,List.length_set,ih]
theorem getD_set (l:List Int) (i j:Nat) (x:Int) (hi:i<l.length):(l.set i x).getD j 0=if i=j then x else l.getD j 0:=by
 rw [List.getD_eq_getElem?_getD,List.getElem?_set]
 by_cases h:i=j
 ·subst h;simp [hi]
 ·simp [h,List.getD_eq_getElem?_getD]
theorem xr_get (L B:List Int) (o:Nat):∀ k,o+k≤L.length→∀ j,(xr L B o k).getD j 0=if o≤j∧j<o+k then bits .xor .u8 (L.getD j 0) (B.getD (j-o) 0) else L.getD j 0
 | 0,_,j=>by rw [xr,if_neg (by omega)]
 | k+1,h,j=>by
  rw [xr,getD_set _ _ _ _ (by rw [xr_len];omega)]
  by_cases e:o+k=j
  ·subst e
   rw [if_pos rfl,if_pos (by omega),xr_get L B o k (by omega),if_neg (by omega),show o+k-o=k by omega]
  ·rw [if_neg e,xr_get L B o k (by omega)]
   by_cases c:o≤j∧j<o+k
   ·rw [if_pos c,if_pos (by omega)]
   ·rw [if_neg c,if_neg (by omega)]
def step (S:Nat→List Int) (len:Nat) (s:List Int × Nat) (x:Nat):List Int × Nat:=(xr s.1 (S s.2) (16*x) (min 16 (len-16*x)),s.2+1)
def st (S:Nat→List Int) (L:List Int) (pre:List Nat):List Int × Nat:=pre.foldl (step S L.length) (L,0)
theorem st_nil (S:Nat→List Int) (L:List Int):st S L []=(L,0):=rfl
theorem st_snoc (S:Nat→List Int) (L:List Int) (pre:List Nat) (x:Nat):st S L (pre++[x])=step S L.length (st S L pre) x:=by
 unfold st
 rw [List.foldl_append]
 rfl
theorem fold_two (S:Nat→List Int) (len:Nat):∀ (pre:List Nat) (s:List Int × Nat),(pre.foldl (step S len) s).2=s.2+pre.length
 | [],s=>rfl
 | x :: r,s=>by
  rw [List.foldl_cons,fold_two S len r]
  simp only [step,List.length_cons]
  omega
theorem fold_len (S:Nat→List Int) (len:Nat):∀ (pre:List Nat) (s:List Int × Nat),(pre.foldl (step S len) s).1.length=s.1.length
 | [],s=>rfl
 | x :: r,s=>by
  rw [List.foldl_cons,fold_len S len r]
  simp only [step,xr_len]
theorem st_two (S:Nat→List Int) (L:List Int) (pre:List Nat):(st S L pre).2=pre.length:=by
 unfold st
 rw [fold_two]
 simp
theorem st_len (S:Nat→List Int) (L:List Int) (pre:List Nat):(st S L pre).1.length=L.length:=by
 unfold st
 rw [fold_len]
theorem st_range (S:Nat→List Int) (L:List Int):∀ k,∀ j,(st S L (List.range k)).1.getD j 0=if j<16*k∧j<L.length then bits .xor .u8 (L.getD j 0) ((S (j / 16)).getD (j % 16) 0) else L.getD j 0
 | 0,j=>by rw [List.range_zero,st_nil,if_neg (by omega)]
 | k+1,j=>by
  rw [List.range_succ,st_snoc,step,st_two,List.length_range]
  by_cases hk:16*k≤L.length
  ·rw [xr_get _ _ _ _ (by rw [st_len];omega),st_range S L k j]
   by_cases c:16*k≤j∧j<16*k+min 16 (L.length-16*k)
   ·rw [if_pos c,if_neg (show ¬ (j<16*k∧j<L.length) by omega),if_pos (show j<16*(k+1)∧j<L.length by omega),show j / 16=k by omega,show j % 16=j-16*k by omega]
   ·rw [if_neg c]
    by_cases d:j<16*k∧j<L.length
    ·rw [if_pos d,if_pos (by omega)]
    ·rw [if_neg d,if_neg (by omega)]
  ·rw [show min 16 (L.length-16*k)=0 by omega,xr,st_range S L k j]
   by_cases d:j<16*k∧j<L.length
   ·rw [if_pos d,if_pos (by omega)]
   ·rw [if_neg d,if_neg (by omega)]
def xs (S:Nat→List Int) (L:List Int):List Int:=(List.range L.length).map fun j=>bits .xor .u8 (L.getD j 0) ((S (j / 16)).getD (j % 16) 0)
theorem xs_len (S:Nat→List Int) (L:List Int):(xs S L).length=L.length:=by simp [xs]
theorem xs_get (S:Nat→List Int) (L:List Int) (j:Nat) (hj:j<L.length):(xs S L).getD j 0=bits .xor .u8 (L.getD j 0) ((S (j / 16)).getD (j % 16) 0):=by
 rw [List.getD_eq_getElem?_getD,List.getElem?_eq_getElem (by rw [xs_len];exact hj)]
 simp [xs]
theorem ext_getD (a b:List Int) (hl:a.length=b.length) (h:∀ j,j<a.length→a.getD j 0=b.getD j 0):a=b:=by
 apply List.ext_getElem hl
 intro i h1 h2
 have:=h i h1
 rw [List.getD_eq_getElem?_getD,List.getElem?_eq_getElem h1,List.getD_eq_getElem?_getD,List.getElem?_eq_getElem h2] at this
 simpa using this
theorem st_all (S:Nat→List Int) (L:List Int):(st S L (List.range (nch L.length))).1=xs S L:=by
 apply ext_getD
 ·rw [st_len,xs_len]
 ·intro j hj
  rw [st_len] at hj
  rw [st_range,xs_get _ _ _ hj,if_pos (by unfold nch;omega)]
theorem xs_byt (S:Nat→List Int) (L:List Int):Sha.Byt (xs S L):=fun x hx=>by
 unfold xs at hx
 rw [List.mem_map] at hx
 obtain ⟨j,_,rfl⟩:=hx
 exact Aes.xor8_byt _ _
attribute [irreducible] xr st xs
end Ctr
end
section
open Go.RowKit
section
variable {F:Fence} {n:Nat} {P:Program} {md:Region.Mode} {ops:Array Oper} {Q:Exit→Act→World→Prop} {S:World→Prop}
def opC (P:Program) (o:Oper) (a:Act) (w:World) (K:Act→World→Prop):Prop :=
 (∃ v w',(execOp a.eval o).run P w = .ok (.value v) w'∧K (a.put o.dst v) w')∨(∃ w',(execOp a.eval o).run P w = .ok .skip w'∧K (a.put o.dst undef) w')
theorem opC_mono {o:Oper} {a:Act} {w:World} {K K':Act→World→Prop} (h:∀ a w,K a w→K' a w) (hh:opC P o a w K):opC P o a w K':=by
 rcases hh with ⟨v,w',h1,h2⟩ | ⟨w',h1,h2⟩
 ·exact Or.inl ⟨v,w',h1,h _ _ h2⟩
 ·exact Or.inr ⟨w',h1,h _ _ h2⟩
def anyC (P:Program) (md:Region.Mode) (ops:Array Oper) (Q:Exit→Act→World→Prop) (S:World→Prop) (k:Nat):Nat→Array Bool→Act→World→Prop
 | 0,listed,a,w=>Region.ready md ops listed = []∧Q .normal a w
 | fuel+1,listed,a,w =>
  (Region.ready md ops listed = []→Q .normal a w) ∧
  ∀ i∈Region.ready md ops listed,∀ o,ops[i]?=some o→opC P o a w (fun a' w'=>(i ≠ k→S w')∧anyC P md ops Q S k fuel (listed.setIfInBounds i true) a' w')
def calmOps (ops:Array Oper):Bool:=ops.toList.all fun o=>o.guard.isNone&&(match o.op with | .call _ | .defer _ | .select _ _ | .go _=>false | _=>true)
theorem calm_spec (h:calmOps ops=true) {i:Nat} {o:Oper} (ho:ops[i]?=some o):o.guard=none∧(∀ c,o.op ≠ .call c)∧(∀ c,o.op ≠ .defer c)∧∀ cs b,o.op ≠ .select cs b:=by
 have hm:o∈ops.toList:=by
  rw [Array.getElem?_eq_some_iff] at ho
  obtain ⟨hi,rfl⟩:=ho
  simp
 have h2:=List.all_eq_true.1 h o hm
 simp only [Bool.and_eq_true] at h2
 refine ⟨by simpa using h2.1,fun c e=>?_,fun c e=>?_,fun cs b e=>?_⟩<;>(have h3:=h2.2;rw [e] at h3;cases h3)
theorem anyC_in (hc:calmOps ops=true) {k:Nat}:∀ (fuel:Nat) (listed:Array Bool) (a:Act) (w:World),anyC P md ops Q S k fuel listed a w→wpAnyIn F n P md ops Q fuel listed a w
 | 0,_,_,_,h=>h
 | fuel+1,listed,a,w,h=>⟨h.1,fun i hi=>by
  unfold wpOpIn
  split
  ·rename_i hno
   obtain ⟨_,o,ho,_⟩:=mem_ready.1 hi
   rw [hno] at ho
   cases ho
  ·rename_i o ho
   obtain ⟨hg,hcall,hdef,_⟩:=calm_spec hc ho
   have hw:Region.wanted o (yielded ops a.tmps)=true:=by simp [Region.wanted,hg]
   rw [if_pos hw]
   unfold Oper.wpIn
   refine ⟨fun f hf=>?_,?_⟩
   ·unfold Oper.about at hf
    split at hf
    ·rename_i c hc';exact absurd hc' (hcall c)
    ·cases hf
   ·rw [Oper.semAt_plain F _ _ hdef]
    rcases h.2 i hi o ho with ⟨v,w',h1,h2⟩ | ⟨w',h1,h2⟩
    ·rw [h1];exact anyC_in hc fuel _ _ _ h2.2
    ·rw [h1];exact anyC_in hc fuel _ _ _ h2.2⟩
theorem opC_put {oi oj:Oper} {v:Value} (hap:oi.apart ops oj=true) (hsi:∀ cs b,oi.op ≠ .select cs b) (hsj:∀ cs b,oj.op ≠ .select cs b) {K:Act→World→Prop} {a:Act} {w:World}
  (hy:∀ w,S w→(execOp a.eval oi).run P w = .ok (.value v) w) (h:opC P oj (a.put oi.dst v) w K) :
  opC P oj a w (fun a' w'=>(∀ w,S w→(execOp a'.eval oi).run P w = .ok (.value v) w)∧K (a'.put oi.dst v) w'):=by
 obtain ⟨h1,h2,h3⟩:=Oper.apart_spec hap
 have keep:∀ u,∀ w,S w→(execOp (a.put oj.dst u).eval oi).run P w = .ok (.value v) w:=fun u w hw=>by
  rw [execOp_put oi hsi a oj.dst u h3]
  exact hy w hw
 unfold opC at *
 rw [execOp_put oj hsj a oi.dst v h1] at h
 rcases h with ⟨u,w',q1,q2⟩ | ⟨w',q1,q2⟩
 ·exact Or.inl ⟨u,w',q1,keep u,by rw [← Act.put_comm a v u h2];exact q2⟩
 ·exact Or.inr ⟨w',q1,keep _,by rw [← Act.put_comm a v undef h2];exact q2⟩
theorem anyC_first (hc:calmOps ops=true) {k i:Nat} {oi:Oper} {v:Value} (hi:ops[i]?=some oi) (hk:Region.waitsFor md ops k i=true) :
  ∀ (fuel:Nat) (listed:Array Bool) (a:Act) (w:World),
   (∀ j oj,ops[j]?=some oj→j ≠ i→listed.getD j true=false→(∀ e∈oj.after,Region.binds md e=true→e.on ≠ i)→oi.apart ops oj=true) →
   i∈Region.ready md ops listed→(∀ w,S w→(execOp a.eval oi).run P w = .ok (.value v) w)→S w →
   anyC P md ops Q S k fuel (listed.setIfInBounds i true) (a.put oi.dst v) w→anyC P md ops Q S k (fuel+1) listed a w:=by
 intro fuel
 induction fuel with
 | zero =>
  intro listed a w _ hr hy hS H
  refine ⟨fun h=>(by rw [h] at hr;cases hr),fun j hj o ho=>?_⟩
  by_cases hji:j=i
  ·subst hji
   rw [hi] at ho
   cases ho
   exact Or.inl ⟨v,w,hy w hS,fun _=>hS,H⟩
  ·have:=ready_mono hj hji
   rw [H.1] at this
   cases this
 | succ fuel ih =>
  intro listed a w hfree hr hy hS H
  refine ⟨fun h=>(by rw [h] at hr;cases hr),fun j hj oj hoj=>?_⟩
  by_cases hji:j=i
  ·subst hji
   rw [hi] at hoj
   cases hoj
   exact Or.inl ⟨v,w,hy w hS,fun _=>hS,H⟩
  ·have h1:=H.2 j (ready_mono hj hji) oj hoj
   obtain ⟨hjun,oj',hoj',hall⟩:=mem_ready.1 hj
   rw [hoj] at hoj'
   cases hoj'
   have hnot:∀ e∈oj.after,Region.binds md e=true→e.on ≠ i:=fun e he hb heq=>by
    have q1:=hall e he hb
    have q0:=(mem_ready.1 hr).1
    rw [heq] at q1
    rcases Nat.lt_or_ge i listed.size with h' | h'
    ·simp [h'] at q0 q1;rw [q0] at q1;cases q1
    ·simp [Array.getElem?_eq_none h'] at q1
   have hjk:j ≠ k:=fun e=>by
    subst e
    obtain ⟨oj',ho',e,he,hb,hon⟩:=Region.waitsFor_spec hk
    rw [hoj] at ho'
    cases ho'
    exact hnot e he hb hon
   have h2:=opC_put (hfree j oj hoj hji hjun hnot) (calm_spec hc hi).2.2.2 (calm_spec hc hoj).2.2.2 hy h1
   refine opC_mono (fun a' w' h3=>⟨fun _=>h3.2.1 hjk,ih (listed.setIfInBounds j true) a' w' (fun m om hm hmi hun hno=>?_) (ready_mono hr (Ne.symm hji)) h3.1 (h3.2.1 hjk) ?_⟩) h2
   ·refine hfree m om hm hmi ?_ hno
    by_cases hjm:j=m
    ·subst hjm;exact hjun
    ·rw [getD_set_ne true hjm] at hun;exact hun
   ·rw [Array.setIfInBounds_comm _ _ hji]
    exact h3.2.2
theorem anyC_take (hc:calmOps ops=true) (k i D:Nat) (v:Value) {fuel:Nat} {listed:Array Bool} {a:Act} {w:World} {op:Op} {T:TypeId} {ps:String} {af:Array Edge} (hS:S w) (ho:ops[i]?=some { dst:=some D,op:=op,type:=T,pos:=ps,after:=af,guard:=none })
  (hf:Region.free md ops listed i=true) (hr:(Region.ready md ops listed).contains i=true) (hk:Region.waitsFor md ops k i=true)
  (hy:∀ w,S w→(execOp a.eval { dst:=some D,op:=op,type:=T,pos:=ps,after:=af,guard:=none }).run P w = .ok (.value v) w)
  (h:anyC P md ops Q S k fuel (listed.setIfInBounds i true) (a.put (some D) v) w):anyC P md ops Q S k (fuel+1) listed a w :=
 anyC_first hc ho hk fuel listed a w (Region.free_spec ho hf) (by simpa using hr) hy hS h
theorem anyC_one (k i:Nat) {fuel:Nat} {listed:Array Bool} {a:Act} {w:World} {oi:Oper} (ho:ops[i]?=some oi) (hr:Region.ready md ops listed = [i])
  (h:opC P oi a w (fun a' w'=>(i ≠ k→S w')∧anyC P md ops Q S k fuel (listed.setIfInBounds i true) a' w')):anyC P md ops Q S k (fuel+1) listed a w :=
 ⟨fun h0=>absurd (hr ▸ h0) (by simp),fun j hj o hoj=>by
  rw [hr] at hj
  simp at hj
  subst hj
  rw [ho] at hoj
  cases hoj
  exact h⟩
theorem anyC_done {k:Nat} {listed:Array Bool} {a:Act} {w:World} (hr:Region.ready md ops listed = []) (h:Q .normal a w):∀ fuel,anyC P md ops Q S k fuel listed a w
 | 0=>⟨hr,h⟩
 | _+1=>⟨fun _=>h,by rw [hr];simp⟩
theorem opC_store {o:Oper} {a:Act} {w w':World} {K:Act→World→Prop} (h:(execOp a.eval o).run P w = .ok .skip w') (hk:K (a.put o.dst undef) w'):opC P o a w K:=Or.inr ⟨w',h,hk⟩
end
end
section
open Go.RowKit Go.Shelf
attribute [local go_sem] Oper.semAt_some
theorem chunk_stops (bs bn g len cap:Nat) (p:Option Addr) (hp:0<len→p=some ⟨g,0,none⟩) (hlen:len≤1000000000) (hcap:len≤cap) (hcm:cap≤9223372036854775807) (w:World)
  (hbs:w.heap[bs]?=some (.cells #[.slice p len cap] 22 (0,0))) (hbn:w.heap[bn]?=some (.cells #[.int .i64 16] 3 (0,0))) :
  SeqStopsK Fence.wide 2 Tryz.prog 254 #[.pointer (some ⟨bs,0,none⟩),.pointer (some ⟨bn,0,none⟩)] (Ctr.encs g len) (fun W W'=>W'.heap[bs]?=W.heap[bs]?∧W'.heap[bn]?=W.heap[bn]?) (fun ys=>ys=List.range (Ctr.nch len)) (fun _=>True) (Ctr.nch len) w :=
 fun l J Jx W hW hJ _ hY h0 =>
  chunk1_in l bs bn g len cap p hp hlen hcap hcm J Jx hY W ((hW.block _ (lt_of_block hbs)).trans hbs) ((hW.block _ (lt_of_block hbn)).trans hbn) h0
   (fun pre x hx=>hJ pre x x.drew none hx ⟨rfl,rfl,rfl,Nat.le_refl _,fun _ _ _=>rfl⟩ (fun r e=>by cases e))
theorem cells_kept {W W':World} {row:Option Nat} (hg:W.grownBy W' row) (hr:∀ r,row=some r→∃ o:Obj,W.heap[r]?=some o∧o.isCells=false) {k:Nat} {A:Array Value} {t:TypeId} {fr:Nat × Nat} (h:W.heap[k]?=some (.cells A t fr)):W'.heap[k]?=some (.cells A t fr) :=
 (grownBy_keeps_cells hg hr h rfl).trans h
theorem own_kept {W W':World} {row:Option Nat} (hg:W.grownBy W' row) (hr:∀ r,row=some r→∃ o:Obj,W.heap[r]?=some o∧o.isCells=false) {B n s:Nat} {v:Value} {xs:List Value} {e:TypeId} (h:W.ownsRow B e s v n xs):W'.ownsRow B e s v n xs:=by
 refine ⟨h.1,?_⟩
 rcases h.2 with h' | ⟨g',cap,cur,hv,q0,q1,q2⟩
 ·exact Or.inl h'
 ·exact Or.inr ⟨g',cap,cur,hv,q0,cells_kept hg hr q1,q2⟩
theorem Ciph.kept {W W':World} {row:Option Nat} (hg:W.grownBy W' row) (hr:∀ r,row=some r→∃ o:Obj,W.heap[r]?=some o∧o.isCells=false) {c:Nat} {T ks:List Int} (h:Ciph W c T ks):Ciph W' c T ks:=by
 obtain ⟨kb,n,cap,base,hc,hlen,hown⟩:=h
 exact ⟨kb,n,cap,base,cells_kept hg hr hc,hlen,own_kept hg hr hown⟩
theorem Strm.kept {W W':World} {row:Option Nat} (hg:W.grownBy W' row) (hr:∀ r,row=some r→∃ o:Obj,W.heap[r]?=some o∧o.isCells=false) {gb gi gc c:Nat} {ks:List Int} {e n:Int} {i:Nat} (h:Strm W gb gi gc c ks e n i):Strm W' gb gi gc c ks e n i:=by
 obtain ⟨z,hz⟩:=h.blk
 exact ⟨⟨z,cells_kept hg hr hz⟩,cells_kept hg hr h.ctr,cells_kept hg hr h.box,h.cip.kept hg hr,h.ne⟩
theorem others_only2 {a b:Nat} {w w':World} (h:Only2 a b w w') (ha:∃ A t f,w.heap[a]?=some (.cells A t f)) (hb:∃ A t f,w.heap[b]?=some (.cells A t f)):KeepsOthers w w' :=
 ⟨h.size,fun k o hk ho=>by
  obtain ⟨A,t,f,ha⟩:=ha
  obtain ⟨A',t',f',hb⟩:=hb
  refine (h.block k (lt_of_block hk) (fun e=>?_) (fun e=>?_)).trans hk
  ·subst e;rw [ha] at hk;cases hk;cases ho
  ·subst e;rw [hb] at hk;cases hk;cases ho⟩
theorem others_chg {g:Nat} {w w':World} (h:Chg g w w') (hg:∃ A t f,w.heap[g]?=some (.cells A t f)):KeepsOthers w w' :=
 ⟨by rw [h.size];exact Nat.le_refl _,fun k o hk ho=>by
  obtain ⟨A,t,f,hg⟩:=hg
  refine (h.block k (fun e=>?_)).trans hk
  subst e;rw [hg] at hk;cases hk;cases ho⟩
theorem own_only2 {w w':World} {B n a b:Nat} {v:Value} {xs:List Value} {A A':Array Value} {ta tb:TypeId} {fa fb:Nat × Nat} (h:w.ownsRow B 5 1 v n xs) (ho:Only2 a b w w') (ha:w.heap[a]?=some (.cells A ta fa)) (hta:ta ≠ 5) (hb:w.heap[b]?=some (.cells A' tb fb)) (htb:tb ≠ 5):w'.ownsRow B 5 1 v n xs:=by
 refine ⟨h.1,?_⟩
 rcases h.2 with h' | ⟨g',cap,cur,hv,q0,q1,q2⟩
 ·exact Or.inl h'
 ·refine Or.inr ⟨g',cap,cur,hv,q0,(ho.block _ (lt_of_block q1) (fun e=>?_) (fun e=>?_)).trans q1,q2⟩
  ·subst e
   rw [ha] at q1
   simp only [Option.some.injEq,Obj.cells.injEq] at q1
   exact hta q1.2.1
  ·subst e
   rw [hb] at q1
   simp only [Option.some.injEq,Obj.cells.injEq] at q1
   exact htb q1.2.1
theorem Strm.only {w x:World} {g gb gi gc c:Nat} {ks:List Int} {e n:Int} {i:Nat} {A:Array Value} {fr:Nat × Nat} (h:Strm w gb gi gc c ks e n i) (hg:w.heap[g]?=some (.cells A 5 fr)) (ho:Only g w x):Strm x gb gi gc c ks e n i:=by
 obtain ⟨z,hz⟩:=h.blk
 have ne:∀ (k:Nat) (A':Array Value) (t:TypeId) (f:Nat × Nat),w.heap[k]?=some (.cells A' t f)→t ≠ 5→k ≠ g:=fun k A' t f hk ht e=>by
  subst e
  rw [hk] at hg
  simp only [Option.some.injEq,Obj.cells.injEq] at hg
  exact ht hg.2.1
 exact ⟨⟨z,(ho.block _ (lt_of_block hz) (ne _ _ _ _ hz (by decide))).trans hz⟩,(ho.block _ (lt_of_block h.ctr) (ne _ _ _ _ h.ctr (by decide))).trans h.ctr,(ho.block _ (lt_of_block h.box) (ne _ _ _ _ h.box (by decide))).trans h.box,h.cip.only hg ho,h.ne⟩
theorem others_only {g:Nat} {w w':World} (h:Only g w w') (hg:∃ A t f,w.heap[g]?=some (.cells A t f)):KeepsOthers w w' :=
 ⟨h.size,fun k o hk ho=>by
  obtain ⟨A,t,f,hg⟩:=hg
  refine (h.block k (lt_of_block hk) (fun e=>?_)).trans hk
  subst e;rw [hg] at hk;cases hk;cases ho⟩
theorem row_storeIn {F:Fence} {n:Nat} {P:Program} {ops:Array Oper} {rest:List Oper} {a:Act} {w:World} {Q:Exit→Act→World→Prop} {T:TypeId} {ps:String} {af:Array Edge} (ty:TypeId) (x y:Operand) (g:Nat) (t:TypeId) (old cells:Array Value) (hx:a.eval x = .pointer (some ⟨g,0,none⟩)) (hy:a.eval y = .agg cells) (hg:w.heap[g]?=some (.cells old t (0,0)))
  (hi:(P.info? ty).map (·.size)=some cells.size) (hs:cells.size=old.size) (h1:cells.all (·.oneCell')=true)
  (h:∀ w',Hid (w'.heap[g]?=some (.cells cells t (0,0)))→Chg g w w'→wpListIn F n P ops Q rest a w') :
  wpListIn F n P ops Q ({ dst:=none,op:=.store ty x y,type:=T,pos:=ps,after:=af,guard:=none } :: rest) a w :=
 wpListIn_plain rfl fun _ hK=>by
  have hst:=run_storeCells_at P g 0 t cells.toList 0 old w hg (by simp;omega) (fun v hv=>(Array.all_eq_true_iff_forall_mem.1 h1) v (by simpa using hv))
  have hsv:(storeVar ty ⟨g,0,none⟩ (.agg cells)).run P w = .ok () (w.setRow g (old.toList.take 0++cells.toList++old.toList.drop (0+cells.size)).toArray):=by
   cases hq:P.info? ty with
   | none=>simp [hq] at hi
   | some i =>
    have hs:cells.size=i.size:=by simp [hq] at hi;omega
    simp only [Nat.add_zero,Array.length_toList] at hst
    simp [storeVar,sizeOf,typeInfo,hq,Value.cells,hs] at hst ⊢
    rw [hst]
  have he:(old.toList.take 0++cells.toList++old.toList.drop (0+cells.size)).toArray=cells:=by
   rw [hs]
   apply Array.ext'
   simp
  unfold Oper.wpIn
  refine ⟨fun f hf=>by simp [Oper.about] at hf,?_⟩
  rw [Oper.semAt_plain F _ _ (by intro c hc;cases hc)]
  unfold execOp
  simp only [hx,hy,Instr.storeAt,Instr.sureAddr,Sem.run_bind,Sem.run_pure,Result.andThen_ok,hsv]
  refine hK _ _ (h _ ?_ (Chg.setRow w g _))
  show _=_
  rw [he]
  exact setRow_heap w g old cells t (0,0) hg
theorem own_sliceB {w:World} {B n s:Nat} {v:Value} {e:TypeId} {xs:List Value} (h:w.ownsRow B e s v n xs):∃ (p:Option Addr) (g c:Nat),v = .slice p n c∧(0<n→p=some ⟨g,0,none⟩)∧n≤c∧c≤9223372036854775807:=by
 rcases h.2 with ⟨rfl,rfl⟩ | ⟨g,cap,cur,rfl,_,_,h1,h2,_⟩
 ·exact ⟨none,0,0,rfl,fun h0=>by omega,Nat.le_refl _,by omega⟩
 ·exact ⟨_,g,cap,rfl,fun _=>rfl,h1,by unfold maxLen at h2;omega⟩
def XI (w0:World) (gn gb gi gc c:Nat) (ks:List Int) (S:Nat→List Int) (e n:Int) (L:List Int) (v FV:Value) (pre:List Nat) (W:World):Prop :=
 Strm W gb gi gc c ks e n pre.length∧W.heap[gn]?=some (.cells #[FV] 279 (0,0))∧W.ownsRow w0.heap.size 5 1 v L.length (U8s (Ctr.st S L pre).1)∧Below w0.heap.size w0 W∧gn+1+1<W.heap.size
theorem xi_from {w0:World} {gn gb gi gc c:Nat} {ks:List Int} {S:Nat→List Int} {e n:Int} {L:List Int} {v FV:Value} {B:Nat} (hB:w0.heap.size≤B):OwnFrom B (XI w0 gn gb gi gc c ks S e n L v FV):=fun pre A A' row hs hg hr=>by
 obtain ⟨h1,h2,h3,h4,h5⟩:=hs
 have hr':=fun r e=>(hr r e).2
 exact ⟨h1.kept hg hr',cells_kept hg hr' h2,own_kept hg hr' h3,h4.grown hg h4.size (fun k e=>Nat.le_trans hB (hr k e).1),Nat.lt_of_lt_of_le h5 hg.size⟩
theorem U8s_set (l:List Int) (i:Nat) (x:Int):U8s (l.set i x)=(U8s l).set i (.int .u8 x):=by unfold U8s;rw [List.map_set]
def XorSay (L X:List Int) (w:World) (r:Ending) (w':World):Prop :=
 ∃ v,r = .returned v∧w'.ownsRow w.heap.size 5 1 v L.length (U8s X)∧Below w.heap.size w w'
set_option maxRecDepth 100000 in
set_option maxHeartbeats 8000000 in
theorem xor_any (c:Nat) (ks:List Int) (N:Nat) (e n:Int) (L:List Int) (p:Option Addr) (cap:Nat) (hL:L.length≤1000000000) (hp0:p=none→L = []∧cap=0) (hn:ks.length=4*(N+2)) (hN:N≤100) (w:World) (hp:BAt w p L) (hC:Ciph w c Aes.TB ks) :
  Calls Tryz.prog 246 #[.pointer (some ⟨c,0,none⟩),.int .i64 e,.int .i64 n,.slice p L.length cap] w (XorSay L (Ctr.xs (Ctr.sblk ks N (e % 18446744073709551616) (n % 18446744073709551616)) L) w):=by
 have Hp:=Lib.hid hp;clear hp
 have Hp0:=Lib.hid hp0;clear hp0
 have HC:=Lib.hid hC;clear hC
 have HNN:=Lib.hid (And.intro hn hN);clear hn hN
 refine (callsIn_wide (n:=3)).1 ?_
 refine callsIn_of_wp_marks Tryz.func246 rfl trivial ?_ rfl
 simp only [Tryz.ntmps246,List.size_toArray,List.length_cons,List.length_nil,Nat.reduceAdd,Nat.reduceSub,Array.replicate_succ,Array.replicate_zero,List.push_toArray,List.append_toArray,List.nil_append,List.cons_append]
 gi_wp2_with (first
  | (refine ⟨trivial,?_⟩;gi_at_call 58;refine (callsIn_wide.2 (clone_any L p cap hL Hp0.out _ Hp.out)).mono ?_;rintro r w1 ⟨v,rfl,ho1,hb1⟩;obtain ⟨pv,g,cv,rfl,hpv,hcv1,hcv2⟩:=own_sliceB ho1;have HPV:=Lib.hid (And.intro hpv (And.intro hcv1 hcv2));have HO1:=Lib.hid ho1;have HB1:=Lib.hid hb1;clear ho1 hb1 hpv hcv1 hcv2)
  | (refine ⟨trivial,?_⟩;gi_at_call 249;refine (callsIn_wide.2 (stream_any c ks e n _ (HC.out.below HB1.out (Nat.le_refl _)))).mono ?_;rintro r w2 ⟨gb,gi,gc,rfl,hgb,hgi,hgc,hs2,hb2⟩;have HS2:=Lib.hid hs2;have HB2:Hid (Below w.heap.size w w2):=HB1.out.trans (hb2.mono HB1.out.size);have HO2:Hid (w2.ownsRow w.heap.size 5 1 (.slice pv L.length cv) L.length (U8s L)):=own_keepX HO1.out hb2;clear hs2 hb2 HO1)
  | (refine ⟨trivial,?_⟩;gi_at_call 250;refine (callsIn_wide.2 (chunk_any _ _ _ _)).mono ?_;rintro r w4 ⟨rfl,rfl⟩))
 obtain ⟨FV,hFV⟩:∃ FV,FV=Value.func (.func 252) #[] #[.pointer (some ⟨gb,0,none⟩),.pointer (some ⟨gi,0,none⟩),.pointer (some ⟨gc,0,none⟩)]:=⟨_,rfl⟩
 rw [← hFV]
 have HFN:Hid ((((w2.alloc (.cells #[FV] 279)).alloc (.cells #[.slice pv L.length cv] 22)).alloc (.cells #[.int .i64 16] 3)).heap[w2.heap.size]?=some (.cells #[FV] 279 (0,0))):=heap3_0 w2 _ _ _
 have HBS:Hid ((((w2.alloc (.cells #[FV] 279)).alloc (.cells #[.slice pv L.length cv] 22)).alloc (.cells #[.int .i64 16] 3)).heap[w2.heap.size+1]?=some (.cells #[.slice pv L.length cv] 22 (0,0))):=heap3_1 w2 _ _ _
 have HBN:Hid ((((w2.alloc (.cells #[FV] 279)).alloc (.cells #[.slice pv L.length cv] 22)).alloc (.cells #[.int .i64 16] 3)).heap[w2.heap.size+2]?=some (.cells #[.int .i64 16] 3 (0,0))):=heap3_2 w2 _ _ _
 have HB3:Hid (Below w2.heap.size w2 (((w2.alloc (.cells #[FV] 279)).alloc (.cells #[.slice pv L.length cv] 22)).alloc (.cells #[.int .i64 16] 3))):=(((Below.refl _ w2).alloc (Nat.le_refl _) _).alloc (by simp) _).alloc (by simp;omega) _
 have HSl:=Lib.hid (HS2.out.keep HB3.out)
 have HOl:=Lib.hid (own_keepX HO2.out HB3.out)
 have HBl:Hid (Below w.heap.size w (((w2.alloc (.cells #[FV] 279)).alloc (.cells #[.slice pv L.length cv] 22)).alloc (.cells #[.int .i64 16] 3))):=HB2.out.trans (HB3.out.mono HB2.out.size)
 have HNUM:Hid (gb<w2.heap.size∧gi<w2.heap.size∧gc<w2.heap.size∧w.heap.size≤gb∧w.heap.size≤gi):=⟨lt_of_block HS2.out.blk.choose_spec,lt_of_block HS2.out.ctr,lt_of_block HS2.out.box,Nat.le_trans HB1.out.size hgb,Nat.le_trans HB1.out.size hgi⟩
 have HGN:Hid (∀ j,w2.heap.size≤j→j≤w2.heap.size+1+1→Value.ownBlock (.slice pv L.length cv) ≠ some j):=fun j h1 _ e=>by have:=(HO2.out.lt j e).2;omega
 have HFV:=Lib.hid hFV
 clear hFV HS2 HO2 HB2 HB3 HB1 hgb hgi hgc HC Hp Hp0
 generalize ((w2.alloc (.cells #[FV] 279)).alloc (.cells #[.slice pv L.length cv] 22)).alloc (.cells #[.int .i64 16] 3)=wl at *
 generalize w2.heap.size=gn at *
 have hi0:0≤e % 18446744073709551616:=by omega
 generalize e % 18446744073709551616=e2 at *
 generalize n % 18446744073709551616=n2 at *
 refine wpIn_rangeFunc_ownG (F:=Fence.wide) (n:=3) rfl (by omega) (gf:=254) (lb:=#[.pointer (some ⟨gn+1,0,none⟩),.pointer (some ⟨gn+1+1,0,none⟩)]) rfl trivial (enters_of Tryz.func254 (by kernel_rfl) rfl)
  (chunk_stops (gn+1) (gn+1+1) g L.length cv pv HPV.out.1 hL HPV.out.2.1 HPV.out.2.2 wl HBS.out HBN.out)
  (fun h k=>⟨k.1.trans h.1,k.2.trans h.2⟩)
  (fun W l o o' hl ho hc _=>⟨World.putObj_heap_other (by have:=lt_of_block HBS.out;omega),World.putObj_heap_other (by have:=lt_of_block HBN.out;omega)⟩) (Below.refl _ _) (fun _=>rfl)
  (XI w gn gb gi gc c ks (Ctr.sblk ks N e2 n2) e2 n2 L (.slice pv L.length cv) FV) (fun _ _ _=>False) (xi_from (HBl.out.size)) (fun _ _ _ _ _ hs _ _=>hs)
  ⟨HSl.out,HFN.out,by rw [Ctr.st_nil];exact HOl.out,HBl.out,lt_of_block HBN.out⟩
  (fun x=>{ tmps:=#[.pointer (some ⟨c,0,none⟩),.int .i64 e,.int .i64 n,.slice p L.length cap,undef,undef,undef,undef,.slice none 0 0,.slice pv L.length cv,.pointer (some ⟨gn,0,none⟩),.slice (some ⟨g,16*x,none⟩) (min 16 (L.length-16*x)) (min 16 (L.length-16*x)),undef,undef,.slice p L.length cap,.slice pv L.length cv,.pointer (some ⟨c,0,none⟩),.int .i64 e,.int .i64 n,FV,.slice pv L.length cv,.func (.func 254) #[] #[.pointer (some ⟨gn+1,0,none⟩),.pointer (some ⟨gn+1+1,0,none⟩)],.slice (some ⟨g,16*x,none⟩) (min 16 (L.length-16*x)) (min 16 (L.length-16*x)),undef,undef,undef,undef,undef,undef,undef,undef,undef,undef,undef,undef,undef,undef,undef,undef,undef,undef],defers:=[] }) ?assign ?body ?done ?stop
 case assign =>
  intro l x W K hK
  unfold Ctr.encs
  gi_wp2
  exact hK
 case body =>
  rintro l pre x W ⟨hS,hF,hO,hB,hG⟩ hlen
  have HS:=Lib.hid hS;have HF:=Lib.hid hF;have HO:=Lib.hid hO;have HB:=Lib.hid hB;have HG:=Lib.hid hG
  clear hS hF hO hB hG
  obtain ⟨m,hm⟩:∃ m,m=min 16 (L.length-16*x):=⟨_,rfl⟩
  rw [← hm]
  have hm16:m≤16:=by omega
  have hmL:0<m→16*x+m≤L.length:=by omega
  have HST:Hid ((Ctr.st (Ctr.sblk ks N e2 n2) L (pre++[x])).1=Ctr.xr (Ctr.st (Ctr.sblk ks N e2 n2) L pre).1 (Ctr.sblk ks N e2 n2 pre.length) (16*x) m):=by
   show _=_
   rw [Ctr.st_snoc,Ctr.step,Ctr.st_two,hm]
  have hpre:pre.length<4294967296:=by unfold Ctr.nch at hlen;omega
  have HLL:Hid ((Ctr.st (Ctr.sblk ks N e2 n2) L pre).1.length=L.length):=Ctr.st_len _ _ _
  generalize (Ctr.st (Ctr.sblk ks N e2 n2) L pre).1=L1 at *
  have HM:=Lib.hid hm;clear hm
  have HLEN:=Lib.hid hlen;clear hlen
  have cF:W.cell? ⟨gn,0,none⟩=some FV:=by rw [cell_of_row W gn 0 _ _ _ HF.out];rfl
  rw [HFV.out] at cF
  obtain ⟨X,HX1,HX2,HX3⟩:∃ X:Array Value,Hid (X=((Ctr.sblk ks N e2 n2 pre.length).map (Value.int .u8)).toArray)∧Hid (X.size=16)∧Hid (X.all (·.oneCell')=true):=⟨_,rfl,by show _=_;simp [sblk_len],u8_all _⟩
  have HNX:Hid (Calls Tryz.prog 252 #[.pointer (some ⟨gb,0,none⟩),.pointer (some ⟨gi,0,none⟩),.pointer (some ⟨gc,0,none⟩)] W fun r w'=>r = .returned (.agg X)∧Strm w' gb gi gc c ks e2 n2 (pre.length+1)∧Only2 gb gi W w'):=by
   have h:=next_any gb gi gc c ks N e2 n2 pre.length HNN.out.1 HNN.out.2 hpre W HS.out
   unfold NextSay Bk at h
   rw [← HX1.out] at h
   exact h
  gi_wp2_with (first
   | (refine ⟨trivial,?_⟩;gi_at_call 252;refine (CallsIn.inRound l (callsIn_wide.2 HNX.out)).mono ?_;rintro r W1 ⟨rfl,hs1,ho1⟩;have HS1:=Lib.hid hs1;have HO1:=Lib.hid ho1;clear hs1 ho1;have HZ1:Hid ((W1.alloc (.cells #[.int .u8 0,.int .u8 0,.int .u8 0,.int .u8 0,.int .u8 0,.int .u8 0,.int .u8 0,.int .u8 0,.int .u8 0,.int .u8 0,.int .u8 0,.int .u8 0,.int .u8 0,.int .u8 0,.int .u8 0,.int .u8 0] 246)).heap[W1.heap.size]?=some (.cells #[.int .u8 0,.int .u8 0,.int .u8 0,.int .u8 0,.int .u8 0,.int .u8 0,.int .u8 0,.int .u8 0,.int .u8 0,.int .u8 0,.int .u8 0,.int .u8 0,.int .u8 0,.int .u8 0,.int .u8 0,.int .u8 0] 246 (0,0))):=heap_alloc_new _ _)
   | ((with_reducible refine row_storeIn _ _ _ _ _ _ _ ?_ ?_ HZ1.out (row_size Tryz.size16 HX2) ?_ HX3.out ?_);(exact rfl);(exact rfl);(rw [HX2.out];rfl);intro W2 G2 ch2))
  obtain ⟨z0,hz0⟩:=HS.out.blk
  have HO1':=Lib.hid (own_only2 HO.out HO1.out hz0 (by decide) HS.out.ctr (by decide))
  have HB1:Hid (Below w.heap.size w W1):=HO1.out.below HB.out HNUM.out.2.2.2.1 HNUM.out.2.2.2.2 HB.out.size
  have HF1:Hid (W1.heap[gn]?=some (.cells #[FV] 279 (0,0))):=(HO1.out.block _ (lt_of_block HF.out) (by have:=HNUM.out;omega) (by have:=HNUM.out;omega)).trans HF.out
  have HK1:Hid (KeepsOthers W W1):=others_only2 HO1.out ⟨_,_,_,hz0⟩ ⟨_,_,_,HS.out.ctr⟩
  have HP1:Hid (W1.heap[gn+1]?=W.heap[gn+1]?∧W1.heap[gn+1+1]?=W.heap[gn+1+1]?):=⟨HO1.out.block _ (by have:=HG.out;omega) (by have:=HNUM.out;omega) (by have:=HNUM.out;omega),HO1.out.block _ HG.out (by have:=HNUM.out;omega) (by have:=HNUM.out;omega)⟩
  have HG1:Hid (gn+1+1<W1.heap.size):=Nat.lt_of_lt_of_le HG.out HO1.out.size
  have HB12:Hid (Below W1.heap.size W1 W2):=ch2.below ((Below.refl _ W1).alloc (Nat.le_refl _) _) (Nat.le_refl _)
  have HK2:Hid (KeepsOthers W W2):=HK1.out.trans ((KeepsOthers.alloc W1 _).trans (others_chg ch2 ⟨_,_,_,HZ1.out⟩))
  have HS2:=Lib.hid (HS1.out.keep HB12.out)
  have HO2:=Lib.hid (own_keepX HO1'.out HB12.out)
  have HF2:Hid (W2.heap[gn]?=some (.cells #[FV] 279 (0,0))):=(HB12.out.block _ (lt_of_block HF1.out)).trans HF1.out
  have HB2:Hid (Below w.heap.size w W2):=HB1.out.trans (HB12.out.mono HB1.out.size)
  have HP2:Hid (W2.heap[gn+1]?=W.heap[gn+1]?∧W2.heap[gn+1+1]?=W.heap[gn+1+1]?):=⟨(HB12.out.block _ (by have:=HG1.out;omega)).trans HP1.out.1,(HB12.out.block _ HG1.out).trans HP1.out.2⟩
  have HG2:Hid (gn+1+1<W2.heap.size):=Nat.lt_of_lt_of_le HG1.out HB12.out.size
  have HGX:Hid (∀ j,j<16→W2.cell? ⟨W1.heap.size,j,none⟩=some (.int .u8 ((Ctr.sblk ks N e2 n2 pre.length).getD j 0))):=fun j hj=>by
   have h:=G2.out
   rw [HX1.out] at h
   exact u8_cellB h j (by rw [sblk_len];exact hj)
  have HNE:Hid (∀ k,Value.ownBlock (.slice pv L.length cv)=some k→k<W1.heap.size):=fun k hk=>(HO1'.out.lt k hk).2
  clear HS HF HO HB HG HS1 HO1 HO1' HB1 HF1 HK1 HP1 HG1 HB12 HZ1 ch2 G2 HNX HX1 HX2 HX3 cF hz0
  generalize W1.heap.size=gx at *
  gi_loopw [27] (fun v27 wr=>∃ k:Nat,k≤m∧v27 = .int .i64 k∧Hid (wr.ownsRow w.heap.size 5 1 (.slice pv L.length cv) L.length (U8s (Ctr.xr L1 (Ctr.sblk ks N e2 n2 pre.length) (16*x) k)))∧Hid (Only g W2 wr)∧Hid (m=0→wr=W2)) (fun v27 _=>m-(intOf v27).toNat)
  case atStart=>exact ⟨0,Nat.zero_le _,rfl,by rw [Ctr.xr];exact HO2.out,Only.refl _ _,fun _=>rfl⟩
  case round =>
   obtain ⟨k,hk,rfl,HO,HC,HKM⟩:=hrel
   by_cases hlt:k<m
   ·have hin:=hmL (by omega)
    obtain rfl:=HPV.out.1 (by omega)
    have hgx:g<gx:=HNE.out g rfl
    have c0:=u8_at HO.out (16*x+k) (by omega)
    have f0:=HO.out.frozenAt (16*x+k)
    have c1:=HC.out.cell (by omega) (HGX.out k (by omega))
    have HXR:Hid (Ctr.xr L1 (Ctr.sblk ks N e2 n2 pre.length) (16*x) (k+1)=(Ctr.xr L1 (Ctr.sblk ks N e2 n2 pre.length) (16*x) k).set (16*x+k) (bits .xor .u8 ((Ctr.xr L1 (Ctr.sblk ks N e2 n2 pre.length) (16*x) k).getD (16*x+k) 0) ((Ctr.sblk ks N e2 n2 pre.length).getD k 0))):=by
     show _=_
     rw [Ctr.xr]
    generalize (Ctr.sblk ks N e2 n2 pre.length).getD k 0=y1 at *
    generalize (Ctr.xr L1 (Ctr.sblk ks N e2 n2 pre.length) (16*x) k).getD (16*x+k) 0=y0 at *
    have hk0:(0:Int)≤(k:Int):=by omega
    have hk1:(k:Int)<(m:Int):=by omega
    have hk2:(k:Int)<16:=by omega
    have hk3:k<16:=by omega
    gi_wp2
    refine wpIn_region_any (by kernel_rfl) ?_
    change wpAnyIn _ _ _ _ _ _ _ _ _ (World.drew _)
    have HSd:Hid (wr.drew.cell? ⟨g,16*x+k,none⟩=some (.int .u8 y0)∧wr.drew.cell? ⟨gx,k,none⟩=some (.int .u8 y1)∧wr.drew.frozen? ⟨g,16*x+k,none⟩=false):=⟨c0,c1,f0⟩
    have HOd:Hid (wr.drew.ownsRow w.heap.size 5 1 (.slice (some ⟨g,0,none⟩) L.length cv) L.length (U8s (Ctr.xr L1 (Ctr.sblk ks N e2 n2 pre.length) (16*x) k))):=HO.out.drew
    have HCd:Hid (Only g W2 wr.drew):=HC.out.drew
    clear c0 c1 f0 HO HC HKM
    generalize wr.drew=wd at *
    refine anyC_in (S:=fun z:World=>z.cell? ⟨g,16*x+k,none⟩=some (.int .u8 y0)∧z.cell? ⟨gx,k,none⟩=some (.int .u8 y1)∧z.frozen? ⟨g,16*x+k,none⟩=false) (k:=9) (by kernel_rfl) _ _ _ _ ?_
    refine anyC_take (by kernel_rfl) 9 0 30 (.slice (some ⟨g,16*x,none⟩) m m) HSd.out rfl (by kernel_rfl) (by kernel_rfl) (by kernel_rfl) (by intro z hz;obtain ⟨s0,s1,s2⟩:=hz;go_simp;try (intro h;omega)) ?_
    try simp only [Act.put,zq1,zq2,zq3]
    refine anyC_take (by kernel_rfl) 9 1 31 (.int .i64 (k:Int)) HSd.out rfl (by kernel_rfl) (by kernel_rfl) (by kernel_rfl) (by intro z hz;obtain ⟨s0,s1,s2⟩:=hz;go_simp;try (intro h;omega)) ?_
    try simp only [Act.put,zq1,zq2,zq3]
    refine anyC_take (by kernel_rfl) 9 2 32 (.pointer (some ⟨g,16*x+k,none⟩)) HSd.out rfl (by kernel_rfl) (by kernel_rfl) (by kernel_rfl) (by intro z hz;obtain ⟨s0,s1,s2⟩:=hz;go_simp;try (intro h;omega)) ?_
    try simp only [Act.put,zq1,zq2,zq3]
    refine anyC_take (by kernel_rfl) 9 3 33 (.int .u8 y0) HSd.out rfl (by kernel_rfl) (by kernel_rfl) (by kernel_rfl) (by intro z hz;obtain ⟨s0,s1,s2⟩:=hz;go_simp;try (intro h;omega)) ?_
    try simp only [Act.put,zq1,zq2,zq3]
    refine anyC_take (by kernel_rfl) 9 4 34 (.int .i64 (k:Int)) HSd.out rfl (by kernel_rfl) (by kernel_rfl) (by kernel_rfl) (by intro z hz;obtain ⟨s0,s1,s2⟩:=hz;go_simp;try (intro h;omega)) ?_
    try simp only [Act.put,zq1,zq2,zq3]
    refine anyC_take (by kernel_rfl) 9 5 35 (.pointer (some ⟨gx,k,none⟩)) HSd.out rfl (by kernel_rfl) (by kernel_rfl) (by kernel_rfl) (by intro z hz;obtain ⟨s0,s1,s2⟩:=hz;go_simp;try (intro h;omega)) ?_
    try simp only [Act.put,zq1,zq2,zq3]
    refine anyC_take (by kernel_rfl) 9 6 36 (.int .u8 y1) HSd.out rfl (by kernel_rfl) (by kernel_rfl) (by kernel_rfl) (by intro z hz;obtain ⟨s0,s1,s2⟩:=hz;go_simp;try (intro h;omega)) ?_
    try simp only [Act.put,zq1,zq2,zq3]
    refine anyC_take (by kernel_rfl) 9 7 37 (.int .u8 (bits .xor .u8 y0 y1)) HSd.out rfl (by kernel_rfl) (by kernel_rfl) (by kernel_rfl) (by intro z hz;obtain ⟨s0,s1,s2⟩:=hz;go_simp;try (intro h;omega)) ?_
    try simp only [Act.put,zq1,zq2,zq3]
    refine anyC_take (by kernel_rfl) 9 8 38 (.pointer (some ⟨g,16*x+k,none⟩)) HSd.out rfl (by kernel_rfl) (by kernel_rfl) (by kernel_rfl) (by intro z hz;obtain ⟨s0,s1,s2⟩:=hz;go_simp;try (intro h;omega)) ?_
    try simp only [Act.put,zq1,zq2,zq3]
    obtain ⟨s0,s1,s2⟩:=HSd.out
    refine anyC_one 9 9 rfl (by kernel_rfl) ?_
    refine opC_store (w':=wd.setCell ⟨g,16*x+k,none⟩ (.int .u8 (bits .xor .u8 y0 y1))) (by go_simp) ⟨fun h=>absurd rfl h,?_⟩
    try simp only [Act.put]
    refine anyC_done (by kernel_rfl) ?_ _
    have HO3:Hid ((wd.setCell ⟨g,16*x+k,none⟩ (.int .u8 (bits .xor .u8 y0 y1))).ownsRow w.heap.size 5 1 (.slice (some ⟨g,0,none⟩) L.length cv) L.length (U8s (Ctr.xr L1 (Ctr.sblk ks N e2 n2 pre.length) (16*x) (k+1)))):=by
     have h:=(HOd.out.stored (16*x+k) (.int .u8 (bits .xor .u8 y0 y1))).1
     rw [HXR.out,U8s_set]
     exact h
    have HC3:Hid (Only g W2 (wd.setCell ⟨g,16*x+k,none⟩ (.int .u8 (bits .xor .u8 y0 y1)))):=HCd.out.trans (Chg.setCell wd ⟨g,16*x+k,none⟩ _).only
    clear s0 s1 s2 HSd HOd HCd HXR
    generalize wd.setCell ⟨g,16*x+k,none⟩ (.int .u8 (bits .xor .u8 y0 y1))=w5 at *
    gi_wp2
    go_roundw
    case rel=>exact ⟨k+1,by omega,by go_num,HO3.out,HC3.out,fun h=>by omega⟩
    case measure=>simp [intOf];omega
   ·obtain rfl:k=m:=by omega
    have hge:(k:Int)≤(k:Int):=Int.le_refl _
    gi_wp2
    have hlen2:(pre++[x]).length=pre.length+1:=by simp
    by_cases h0:k=0
    ·obtain rfl:=HKM.out h0
     refine ⟨HK2.out.from _,HP2.out,?_,HF2.out,?_,HB2.out,HG2.out⟩
     ·rw [hlen2];exact HS2.out
     ·rw [HST.out];exact HO.out
    ·obtain rfl:=HPV.out.1 (by have:=hmL (by omega);omega)
     obtain ⟨A,hA⟩:∃ A,W2.heap[g]?=some (.cells A 5 (0,0)):=by
      rcases HO2.out.2 with ⟨h',_⟩ | ⟨g',cap',cur',hv,_,hg',_⟩
      ·cases h'
      ·simp only [Value.slice.injEq,Option.some.injEq,Addr.mk.injEq,and_true,true_and] at hv
       obtain ⟨rfl,rfl⟩:=hv
       exact ⟨_,hg'⟩
     have hgl:=HO2.out.lt g rfl
     have hgn:∀ j,gn≤j→j≤gn+1+1→j ≠ g:=fun j h1 h2 e=>HGN.out j h1 h2 (by rw [e];rfl)
     have hc:=HC.out
     refine ⟨(HK2.out.trans (others_only hc ⟨_,_,_,hA⟩)).from _,⟨(hc.block _ (by have:=HG2.out;omega) (hgn _ (by omega) (by omega))).trans HP2.out.1,(hc.block _ HG2.out (hgn _ (by omega) (by omega))).trans HP2.out.2⟩,?_,(hc.block _ (lt_of_block HF2.out) (hgn _ (by omega) (by omega))).trans HF2.out,?_,hc.below HB2.out hgl.1 HB2.out.size,Nat.lt_of_lt_of_le HG2.out hc.size⟩
     ·rw [hlen2];exact HS2.out.only hA hc
     ·rw [HST.out];exact HO.out
 case done =>
  rintro D ys W hD rfl ⟨hS,hF,hO,hB,_⟩ hK
  gi_wp2
  refine ⟨by simp,.inl ⟨_,_,rfl,run_takeDeferred hK,?_⟩⟩
  refine ⟨_,results_tmp rfl _ _ _,_,rfl,?_,?_⟩
  ·rw [← Ctr.st_all]
   exact own_kept (grownBy_putObj' W D _) (fun r e=>by cases e;exact ⟨_,hK,rfl⟩) hO
  ·exact hB.grown (grownBy_putObj' W D _) hB.size (fun k e=>by cases e;exact Nat.le_trans HBl.out.size hD)
 case stop =>
  rintro D c pre W _ _ h _
  exact h.elim
end
end Go.Proofs.YtnnalemboeccbaaGreatDoor

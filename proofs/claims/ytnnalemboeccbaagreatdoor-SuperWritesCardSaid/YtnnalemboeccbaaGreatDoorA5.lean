import Derived.Test.YtnnalemboeccbaaGreatDoorA4
import Derived.Test.YtnnalemboeccbaaGreatDoorA1
import Derived.Test.YtnnalemboeccbaaGreatDoorA3
import Derived.BigQuiet
namespace Go.Proofs.YtnnalemboeccbaaGreatDoor
section
open Go.RowKit
def BAt (w:World) (p:Option Addr) (l:List Int):Prop :=
 Sha.Byt l∧(0<l.length→∃ ab ao,p=some ⟨ab,ao,none⟩∧∀ j,j<l.length→w.cell? ⟨ab,ao+j,none⟩=some (.int .u8 (l.getD j 0)))
theorem BAt.bytes {w:World} {p:Option Addr} {l:List Int} (h:BAt w p l) (g:Nat) (hg:w.heap.size≤g):BytesAt w g p l :=
 ⟨h.1,fun h0=>by
  obtain ⟨ab,ao,h1,h2⟩:=h.2 h0
  have hlt:ab<w.heap.size:=World.block_lt_of_cell? w _ (h2 0 h0)
  exact ⟨ab,ao,h1,by omega,h2⟩⟩
theorem BAt.below {w w':World} {B:Nat} {p:Option Addr} {l:List Int} (h:BAt w p l) (hb:Below B w w') (hB:w.heap.size≤B):BAt w' p l :=
 ⟨h.1,fun h0=>by
  obtain ⟨ab,ao,h1,h2⟩:=h.2 h0
  have hlt:ab<w.heap.size:=World.block_lt_of_cell? w _ (h2 0 h0)
  exact ⟨ab,ao,h1,fun j hj=>(hb.cell (Nat.lt_of_lt_of_le hlt hB)).trans (h2 j hj)⟩⟩
theorem BAt.old {w w1:World} {p:Option Addr} {l:List Int} (h:BAt w p l) (hb:Below w.heap.size w w1):BAt w1 p l:=h.below hb (Nat.le_refl _)
theorem BAt.drewN {w:World} {p:Option Addr} {l:List Int} (h:BAt w p l) (n:Nat):BAt (w.drewN n) p l:=h
theorem byt_rep (n:Nat) (x:Int) (h:0≤x∧x≤255):Sha.Byt (List.replicate n x):=fun y hy=>by
 rw [List.mem_replicate] at hy
 omega
theorem bat_row {w:World} {g:Nat} {l:List Int} {t:TypeId} {fr:Nat × Nat} (h:w.heap[g]?=some (.cells (l.map (Value.int .u8)).toArray t fr)) (hb:Sha.Byt l):BAt w (some ⟨g,0,none⟩) l :=
 ⟨hb,fun _=>⟨g,0,rfl,fun j hj=>by
  rw [cell_of_row w g (0+j) _ _ _ h]
  simp [List.getD_eq_getElem?_getD,hj]⟩⟩
theorem getD_append_left' (l m:List Int) (j:Nat) (hj:j<l.length):(l++m).getD j 0=l.getD j 0:=by
 rw [List.getD_eq_getElem?_getD,List.getD_eq_getElem?_getD,List.getElem?_append_left hj]
theorem BAt.pre {w:World} {p:Option Addr} {l m:List Int} (h:BAt w p (l++m)):BAt w p l :=
 ⟨fun x hx=>h.1 x (List.mem_append_left _ hx),fun h0=>by
  obtain ⟨ab,ao,h1,h2⟩:=h.2 (by rw [List.length_append];omega)
  refine ⟨ab,ao,h1,fun j hj=>?_⟩
  rw [h2 j (by rw [List.length_append];omega),getD_append_left' l m j hj]⟩
theorem set_u8' {w:World} {g i:Nat} {l:List Int} {x:Int} {t:TypeId} (h:w.heap[g]?=some (.cells (l.map (Value.int .u8)).toArray t (0,0))) :
  (w.setCell ⟨g,i,none⟩ (.int .u8 x)).heap[g]?=some (.cells ((l.set i x).map (Value.int .u8)).toArray t (0,0)):=by
 rw [heap_setCell_same w g i _ _ _ h]
 congr 2
 apply Array.ext'
 simp
theorem below_dn {B:Nat} {w w':World} (h:Below B w w') (n:Nat):Below B w (w'.drewN n):=⟨h.os,h.tape,h.output,h.size,h.block⟩
def YesSay (w:World) (e:Ending) (w':World):Prop:=e = .returned (.bool true)∧Below w.heap.size w w'
set_option maxHeartbeats 1000000 in
set_option maxRecDepth 100000 in
theorem same_any (L:List Int) (p q:Option Addr) (n m c d:Nat) (hn:L.length=n) (hm:L.length=m) (w:World) (hp:BAt w p L) (hq:BAt w q L) (hL:L.length≤10000000) :
  Calls Tryz.prog 18 #[.slice p n c,.slice q m d] w (YesSay w):=by
 subst hn
 subst hm
 have Hp:=Lib.hid hp;clear hp
 have Hq:=Lib.hid hq;clear hq
 go_enter Tryz.func18,Tryz.ntmps18
 go_wp2
 go_loopw [5] (fun v5 wr=>∃ k:Nat,k≤L.length∧v5 = .int .i64 k∧Hid (Below w.heap.size w wr)) (fun v5 _=>L.length-(intOf v5).toNat)
 case atStart=>exact ⟨0,by omega,rfl,Below.refl _ _⟩
 case round =>
  obtain ⟨k,hk,rfl,HB⟩:=hrel
  by_cases hlt:k<L.length
  ·obtain ⟨ab,ao,hpp,hcs⟩:=(Hp.out.old HB.out).2 (by omega)
   obtain ⟨bb,bo,hqq,hds⟩:=(Hq.out.old HB.out).2 (by omega)
   subst hpp
   subst hqq
   have c0:=hcs k hlt
   have c1:=hds k hlt
   have hn:0≤(k:Int):=by omega
   have hm:(k:Int)<(L.length:Int):=by omega
   generalize L.getD k 0=x at *
   go_wp2
   go_quiet (fail)
   go_wp2
   exact ⟨⟨k+1,by omega,by go_num,below_dn HB.out _⟩,by simp [intOf];omega⟩
  ·have E:k=L.length:=by omega
   have hge:L.length≤k:=by omega
   clear hlt E
   go_wp2
   go_ret
   exact ⟨rfl,HB.out⟩
end
section
open Go.RowKit
def xl (x:Int) (l:List Int):List Int:=l.map fun b=>bits .xor .u8 b x
theorem xl_len (x:Int) (l:List Int):(xl x l).length=l.length:=by simp [xl]
def mx (x:Int) (l:List Int) (k:Nat):List Int:=xl x (l.take k)++l.drop k
theorem mx_zero (x:Int) (l:List Int):mx x l 0=l:=by simp [mx,xl]
theorem mx_all (x:Int) (l:List Int) (k:Nat) (h:l.length≤k):mx x l k=xl x l:=by
 unfold mx
 rw [List.take_of_length_le h,List.drop_eq_nil_of_le h]
 simp
theorem mx_len (x:Int) (l:List Int) (k:Nat):(mx x l k).length=l.length:=by simp [mx,xl];omega
theorem mx_get (x:Int) (l:List Int) (k:Nat) (h:k<l.length):(mx x l k).getD k 0=l.getD k 0:=by
 unfold mx
 have hl:(xl x (l.take k)).length=k:=by simp [xl];omega
 rw [List.getD_eq_getElem?_getD,List.getElem?_append_right (by omega),hl,Nat.sub_self,List.getElem?_drop,Nat.add_zero,List.getD_eq_getElem?_getD]
theorem mx_step (x:Int) (l:List Int) (k:Nat) (h:k<l.length):(mx x l k).set k (bits .xor .u8 (l.getD k 0) x)=mx x l (k+1):=by
 unfold mx
 have hl:(xl x (l.take k)).length=k:=by simp [xl];omega
 have hd:l.drop k=l.getD k 0 :: l.drop (k+1):=by
  rw [List.drop_eq_getElem_cons h,List.getD_eq_getElem?_getD,List.getElem?_eq_getElem h];rfl
 rw [List.set_append_right _ _ (by omega),hl,Nat.sub_self,hd,List.set_cons_zero,← take_snoc l k h]
 simp [xl]
theorem xor_byt (a b:Int):0≤bits .xor .u8 a b∧bits .xor .u8 a b≤255:=by
 have h:∀ x:Int,0≤IntKind.u8.wrap x∧IntKind.u8.wrap x≤255:=fun x=>by
  simp [IntKind.wrap,IntKind.signed,IntKind.bits]
  omega
 exact h _
theorem xl_byt (x:Int) (l:List Int):Sha.Byt (xl x l):=fun y hy=>by
 unfold xl at hy
 rw [List.mem_map] at hy
 obtain ⟨a,_,rfl⟩:=hy
 exact xor_byt _ _
theorem row_cell {w:World} {g:Nat} {l:List Int} {t:TypeId} {fr:Nat × Nat} (h:w.heap[g]?=some (.cells (l.map (Value.int .u8)).toArray t fr)) (j:Nat) (hj:j<l.length):w.cell? ⟨g,j,none⟩=some (.int .u8 (l.getD j 0)):=by
 rw [cell_of_row w g j _ _ _ h]
 simp [List.getD_eq_getElem?_getD,hj]
attribute [irreducible] mx xl
def RowSay (l:List Int) (w:World) (e:Ending) (w':World):Prop:=e = .returned (.agg (l.map (Value.int .u8)).toArray)∧Below w.heap.size w w'
theorem Tryz.size64:(Tryz.prog.info? 177).map (·.size)=some 64:=by kernel_rfl
set_option maxHeartbeats 1000000 in
set_option maxRecDepth 100000 in
theorem xored_any (x:Int) (l:List Int) (hl:l.length=64) (w:World) :
  Calls Tryz.prog 135 #[.agg (l.map (Value.int .u8)).toArray,.int .u8 x] w (RowSay (xl x l) w):=by
 have Hl:=Lib.hid hl;clear hl
 have h0:Hid ((w.alloc (.cells (l.map (Value.int .u8)).toArray 177)).heap[w.heap.size]?=some (.cells ((mx x l 0).map (Value.int .u8)).toArray 177 (0,0))):=by
  show _=_;rw [mx_zero];exact heap_alloc_new w _
 go_enter Tryz.func135,Tryz.ntmps135
 go_wp2

 go_loopw [6] (fun v6 wr=>∃ k:Nat,k≤64∧v6 = .int .i64 k∧Hid (wr.heap[w.heap.size]?=some (.cells ((mx x l k).map (Value.int .u8)).toArray 177 (0,0))) ∧
   Hid (wr.heap[w.heap.size+1]?=some (.cells (List.replicate 64 (Value.int .u8 0)).toArray 177 (0,0)))∧Hid (Below w.heap.size w wr)) (fun v6 _=>64-(intOf v6).toNat)
 case atStart =>
  refine ⟨0,by omega,rfl,?_,?_,?_⟩
  ·show _=_;rw [heap_alloc_old _ _ (by simp)];exact h0.out
  ·exact heap_alloc2_new w _ _
  ·exact ((Below.refl _ _).alloc (Nat.le_refl _) _).alloc (by simp) _
 case round =>
  clear h0
  obtain ⟨k,hk,rfl,HG,HRES,HB⟩:=hrel
  by_cases hlt:k<64
  ·have c0:=row_cell HG.out k (by rw [mx_len,Hl.out];exact hlt)
   rw [mx_get x l k (by rw [Hl.out];exact hlt)] at c0
   have f0:=frozen_of_row wr w.heap.size k _ _ HG.out
   have HF:Hid ((mx x l k).set k (bits .xor .u8 (l.getD k 0) x)=mx x l (k+1)):=mx_step x l k (by rw [Hl.out];exact hlt)
   generalize l.getD k 0=y at *
   go_wp2

   refine ⟨⟨k+1,by omega,by go_num,?_,?_,?_⟩,by simp [intOf];omega⟩
   ·have h:=set_u8' (i:=k) (x:=bits .xor .u8 y x) HG.out
    rw [HF.out] at h
    exact h
   ·show _=_;rw [heap_setCell_other _ _ _ _ (by simp)];exact HRES.out
   ·exact HB.out.setCell (by simp) _
  ·have E:k=64:=by omega
   have hge:64≤k:=by omega
   obtain ⟨A,HA1,HA2,HA3⟩:∃ A:Array Value,Hid (A=((xl x l).map (Value.int .u8)).toArray)∧Hid (A.size=64)∧Hid (A.all (·.oneCell')=true) :=
    ⟨_,rfl,by show _=_;simp [xl_len,Hl.out],all_oneCell_toArray (bytes_one _)⟩
   have HG8:Hid (wr.heap[w.heap.size]?=some (.cells A 177 (0,0))):=by
    have h:=HG.out
    rw [mx_all x l k (by rw [Hl.out];omega),← HA1.out] at h
    exact h
   clear E hlt HG
   go_wp2_with (first
    | ((with_reducible refine row_load _ _ _ _ _ _ _ ?_ HG8.out Tryz.underlying177 ?_ (row_size Tryz.size64 HA2) ?_);(exact rfl);(exact rfl))
    | ((with_reducible refine row_store _ _ _ _ _ _ _ ?_ ?_ HRES.out (row_size Tryz.size64 HA2) ?_ HA3.out ?_);(exact rfl);(exact rfl);(rw [HA2.out];rfl);intro w6 G6 ch6))
   refine bodyPost_ret (results_cell_row rfl _ _ (w.heap.size+1) 177 A (0,0) _ rfl G6.out Tryz.underlying177 rfl (row_size Tryz.size64 HA2)) rfl ⟨?_,ch6.below HB.out (by omega)⟩
   rw [HA1.out]
end
section
open Go.RowKit
def kb (K:List Int):List Int:=(if 64<K.length then Sha.dg K else K)++List.replicate (64-(if 64<K.length then Sha.dg K else K).length) 0
def k64 (K:List Int):List Int:=K++List.replicate (64-K.length) 0
theorem kb_short (K:List Int) (h:K.length≤64):kb K=k64 K:=by
 unfold kb k64
 rw [if_neg (by omega)]
theorem kb_long (K:List Int) (h:64<K.length):kb K=k64 (Sha.dg K):=by
 unfold kb k64
 rw [if_pos h]
theorem k64_len (K:List Int) (h:K.length≤64):(k64 K).length=64:=by simp [k64];omega
theorem kb_len (K:List Int):(kb K).length=64:=by
 by_cases h:64<K.length
 ·rw [kb_long K h];exact k64_len _ (by rw [dg_len];omega)
 ·rw [kb_short K (by omega)];exact k64_len _ (by omega)
theorem k64_splice (K:List Int):splice (List.replicate 64 (Value.int .u8 0)) 0 (K.map (Value.int .u8))=(k64 K).map (Value.int .u8):=by
 unfold splice k64
 rw [List.take_zero,List.nil_append,List.drop_replicate,List.map_append,List.map_replicate]
 simp only [List.length_map,Nat.zero_add]
def hm (K b:List Int):List Int:=Sha.dg (xl 92 (kb K)++Sha.dg (xl 54 (kb K)++b))
theorem hm_len (K b:List Int):(hm K b).length=32:=dg_len _
theorem dg_byt (L:List Int):Sha.Byt (Sha.dg L):=by
 intro x hx
 rw [← tx_dg] at hx
 unfold sbK at hx
 simp only [List.mem_append,List.mem_map,List.mem_range,List.mem_replicate] at hx
 rcases hx with ⟨i,_,rfl⟩ | ⟨_,rfl⟩
 ·rw [sb_eq];omega
 ·omega
attribute [irreducible] hm kb k64
theorem copy_bat {ops:Array Oper} {rest:List Oper} {a:Act} {w:World} {Q:Exit→Act→World→Prop} {D:Option Tmp} {T:TypeId} {ps:String} {af:Array Edge}
  (d s:Operand) (g dLen dCap:Nat) (p:Option Addr) (sLen sCap:Nat) (t:TypeId) (cur:List Value) (L:List Int)
  (hd:a.eval d = .slice (some ⟨g,0,none⟩) dLen dCap) (hs:a.eval s = .slice p sLen sCap) (hn:L.length=sLen) (hg:w.heap[g]?=some (.cells cur.toArray t (0,0)))
  (hb:BAt w p L) (hle:L.length≤dLen) (hfit:L.length≤cur.length)
  (h:∀ w',Hid (w'.heap[g]?=some (.cells (splice cur 0 (L.map (Value.int .u8))).toArray t (0,0)))→Chg g w w'→∀ z,wpList Tryz.prog ops Q rest (a.put D z) w') :
  wpList Tryz.prog ops Q ({ dst:=D,op:=.call { callee:=.builtin .copy,args:=#[d,s],argTypes:=#[22,22] },type:=T,pos:=ps,after:=af,guard:=none } :: rest) a w:=by
 subst hn
 by_cases h0:0<L.length
 ·obtain ⟨ab,ao,rfl,hc⟩:=hb.2 h0
  refine row_copy d s 22 22 5 g 0 dLen dCap ⟨ab,ao,none⟩ L.length sCap t cur (L.map (Value.int .u8)) hd hs hg Tryz.underlying22 (by kernel_rfl) ?_ ?_ ?_ (bytes_one _) ?_
  ·simp only [List.length_map];exact (Nat.min_eq_left hle).symm
  ·intro j v hj
   have hjl:j<L.length:=by have:=(List.getElem?_eq_some_iff.1 hj).1;simpa using this
   rw [Addr.add_mid,hc j hjl]
   rw [List.getElem?_map,List.getElem?_eq_getElem hjl] at hj
   rw [List.getD_eq_getElem?_getD,List.getElem?_eq_getElem hjl]
   simpa using hj
  ·simpa using hfit
  ·exact fun w' h1 h2=>h w' h1 h2 _
 ·obtain rfl:L = []:=List.eq_nil_of_length_eq_zero (by omega)
  refine wpList_copy_nothing rfl d s 22 22 rfl 5 Tryz.underlying22 (by kernel_rfl) (some ⟨g,0,none⟩) p dLen dCap 0 sCap hd hs (Nat.zero_min _) ?_
  exact h w (by show _=_;rw [hg];simp [splice]) (Chg.refl g w) _
set_option maxHeartbeats 1000000 in
set_option maxRecDepth 100000 in
theorem keyblock_short (K:List Int) (hk:K.length≤64) (p:Option Addr) (cap:Nat) (w:World) (hp:BAt w p K) :
  Calls Tryz.prog 133 #[.slice p K.length cap] w (RowSay (k64 K) w):=by
 have Hp:=Lib.hid hp;clear hp
 have HS:=Lib.hid (k64_splice K)
 obtain ⟨A,HA1,HA2,HA3⟩:∃ A:Array Value,Hid (A=((k64 K).map (Value.int .u8)).toArray)∧Hid (A.size=64)∧Hid (A.all (·.oneCell')=true) :=
  ⟨_,rfl,by show _=_;simp [k64_len K hk],all_oneCell_toArray (bytes_one _)⟩
 go_enter Tryz.func133,Tryz.ntmps133
 go_upto_region 6 with ((with_reducible refine copy_bat _ _ (w.heap.size+1) 64 64 p K.length cap 177 (List.replicate 64 (Value.int .u8 0)) K ?_ ?_ ?_ ?_ ?_ ?_ ?_ ?_);(exact rfl);(exact rfl);(exact rfl);(exact heap_alloc2_new w _ _);(exact Hp.out.old (((Below.refl _ w).alloc (Nat.le_refl _) _).alloc (by simp) _));omega;(simp;omega);intro w5 G5 C5 z)
 have HG8:Hid (w5.heap[w.heap.size+1]?=some (.cells A 177 (0,0))):=by
  have h:=G5.out
  rw [HS.out,← HA1.out] at h
  exact h
 have RES:Hid (w5.heap[w.heap.size]?=some (.cells (List.replicate 64 (Value.int .u8 0)).toArray 177 (0,0))):=by
  show _=_
  rw [C5.block _ (by omega)]
  exact heap_alloc2_old w _ _
 have HB:Hid (Below w.heap.size w w5):=C5.below (((Below.refl _ w).alloc (Nat.le_refl _) _).alloc (by simp) _) (by omega)
 clear G5 C5
 go_wp2_with (first
  | ((with_reducible refine row_load _ _ _ _ _ _ _ ?_ HG8.out Tryz.underlying177 ?_ (row_size Tryz.size64 HA2) ?_);(exact rfl);(exact rfl))
  | ((with_reducible refine row_store _ _ _ _ _ _ _ ?_ ?_ RES.out (row_size Tryz.size64 HA2) ?_ HA3.out ?_);(exact rfl);(exact rfl);(rw [HA2.out];rfl);intro w6 G6 ch6))
 refine bodyPost_ret (results_cell_row rfl _ _ w.heap.size 177 A (0,0) _ rfl G6.out Tryz.underlying177 rfl (row_size Tryz.size64 HA2)) rfl ⟨?_,ch6.below HB.out (Nat.le_refl _)⟩
 rw [HA1.out]
set_option maxHeartbeats 1000000 in
set_option maxRecDepth 100000 in
theorem keyblock_long (hT:TakeSaid) (K:List Int) (hk:64<K.length) (p:Option Addr) (cap:Nat) (w:World) (hp:BAt w p K) (hc:K.length≤cap) (hcm:cap≤9223372036854775807) (hl:K.length≤1000000000) (ht:Tab w 1) :
  Calls Tryz.prog 133 #[.slice p K.length cap] w (RowSay (k64 (Sha.dg K)) w):=by
 have HT:=Lib.hid hT;clear hT
 have Ht:=Lib.hid ht;clear ht
 have Hp:=Lib.hid hp;clear hp
 have HD:=dg_len K
 have hDB:=dg_byt K
 have HS:=Lib.hid (k64_splice (Sha.dg K))
 obtain ⟨A,HA1,HA2,HA3⟩:∃ A:Array Value,Hid (A=((k64 (Sha.dg K)).map (Value.int .u8)).toArray)∧Hid (A.size=64)∧Hid (A.all (·.oneCell')=true) :=
  ⟨_,rfl,by show _=_;simp [k64_len (Sha.dg K) (by omega)],all_oneCell_toArray (bytes_one _)⟩
 have HOF:=Lib.hid (fun w' hb h1=>of_any' HT.out K p cap w' hb hc hcm (by omega) h1)
 have H32:Hid (((Sha.dg K).map (Value.int .u8)).toArray.size=32):=by show _=_;simp [HD]
 have HONE:Hid (((Sha.dg K).map (Value.int .u8)).toArray.all (·.oneCell')=true):=all_oneCell_toArray (bytes_one _)
 go_enter Tryz.func133,Tryz.ntmps133
 go_upto_region 3 with (first
  | (go_at_call 170;refine (HOF.out _ (fun g hg=>(Hp.out.old ((Below.refl _ w).alloc (Nat.le_refl _) _)).bytes g hg) (Ht.out.below ((Below.refl _ w).alloc (Nat.le_refl _) _) Ht.out.lt)).mono ?_;rintro e w1 ⟨rfl,hb1⟩;have HB1:=Lib.hid hb1;clear hb1)
  | ((with_reducible refine row_store _ _ _ _ _ _ _ ?_ ?_ (heap_alloc_new _ _) (row_size Tryz.sizeSum H32) ?_ HONE.out ?_);(exact rfl);(exact rfl);(rw [H32.out];rfl);intro w2 g2 ch2))
 have BW1:Hid (Below w.heap.size w w1):=((Below.refl _ w).alloc (Nat.le_refl _) _).trans (HB1.out.mono (by simp))
 have hs1:w.heap.size<w1.heap.size:=by have:=HB1.out.size;simp at this;omega
 have RES1:Hid (w1.heap[w.heap.size]?=some (.cells (List.replicate 64 (Value.int .u8 0)).toArray 177 (0,0))):=by
  show _=_
  rw [HB1.out.block _ (by simp)]
  exact heap_alloc_new w _
 have BW2:Hid (Below w.heap.size w w2):=ch2.below (BW1.out.alloc (by omega) _) (by omega)
 have RES2:Hid (w2.heap[w.heap.size]?=some (.cells (List.replicate 64 (Value.int .u8 0)).toArray 177 (0,0))):=by
  show _=_
  rw [ch2.block _ (by omega),heap_alloc_old _ _ hs1]
  exact RES1.out
 have hs2:w1.heap.size<w2.heap.size:=by rw [ch2.size];simp
 have BD:Hid (BAt w2 (some ⟨w1.heap.size,0,none⟩) (Sha.dg K)):=bat_row g2.out hDB
 clear BW1 RES1 ch2 g2 HB1 HOF
 generalize w1.heap.size=G1 at *
 go_upto_region 6 with ((with_reducible refine copy_bat _ _ w2.heap.size 64 64 (some ⟨G1,0,none⟩) 32 32 177 (List.replicate 64 (Value.int .u8 0)) (Sha.dg K) ?_ ?_ ?_ ?_ ?_ ?_ ?_ ?_);(exact rfl);(exact rfl);(exact HD);(exact heap_alloc_new w2 _);(exact BD.out.old ((Below.refl _ w2).alloc (Nat.le_refl _) _));omega;(simp;omega);intro w5 G5 C5 z)
 have HG8:Hid (w5.heap[w2.heap.size]?=some (.cells A 177 (0,0))):=by
  have h:=G5.out
  rw [HS.out,← HA1.out] at h
  exact h
 have RES:Hid (w5.heap[w.heap.size]?=some (.cells (List.replicate 64 (Value.int .u8 0)).toArray 177 (0,0))):=by
  show _=_
  rw [C5.block _ (by omega),heap_alloc_old _ _ (by omega)]
  exact RES2.out
 have HB:Hid (Below w.heap.size w w5):=C5.below (BW2.out.alloc (by omega) _) (by omega)
 clear G5 C5
 go_wp2_with (first
  | ((with_reducible refine row_load _ _ _ _ _ _ _ ?_ HG8.out Tryz.underlying177 ?_ (row_size Tryz.size64 HA2) ?_);(exact rfl);(exact rfl))
  | ((with_reducible refine row_store _ _ _ _ _ _ _ ?_ ?_ RES.out (row_size Tryz.size64 HA2) ?_ HA3.out ?_);(exact rfl);(exact rfl);(rw [HA2.out];rfl);intro w6 G6 ch6))
 refine bodyPost_ret (results_cell_row rfl _ _ w.heap.size 177 A (0,0) _ rfl G6.out Tryz.underlying177 rfl (row_size Tryz.size64 HA2)) rfl ⟨?_,ch6.below HB.out (Nat.le_refl _)⟩
 rw [HA1.out]
theorem keyblock_any (hT:TakeSaid) (K:List Int) (p:Option Addr) (cap:Nat) (w:World) (hp:BAt w p K) (hc:K.length≤cap) (hcm:cap≤9223372036854775807) (hl:K.length≤1000000000) (ht:Tab w 1) :
  Calls Tryz.prog 133 #[.slice p K.length cap] w (RowSay (kb K) w):=by
 by_cases h:64<K.length
 ·rw [kb_long K h];exact keyblock_long hT K h p cap w hp hc hcm hl ht
 ·rw [kb_short K (by omega)];exact keyblock_short K (by omega) p cap w hp
end
section
open Go.RowKit
theorem bytes_of {w w':World} {g:Nat} {p:Option Addr} {l:List Int} (h:BAt w p l) (hb:Below w.heap.size w w') (hg:w.heap.size≤g):BytesAt w' g p l :=
 ⟨h.1,fun h0=>by
  obtain ⟨ab,ao,h1,h2⟩:=h.2 h0
  have hlt:ab<w.heap.size:=World.block_lt_of_cell? w _ (h2 0 h0)
  exact ⟨ab,ao,h1,by omega,fun j hj=>(hb.cell hlt).trans (h2 j hj)⟩⟩
set_option maxHeartbeats 2000000 in
set_option maxRecDepth 100000 in
theorem digest_any (hT:TakeSaid) (l b:List Int) (hl:l.length=64) (hlb:Sha.Byt l) (p:Option Addr) (n cap:Nat) (hn:b.length=n) (w:World) (hb:BAt w p b) (hc:n≤cap) (hcm:cap≤9223372036854775807) (hbl:b.length≤1000000000) (ht:Tab w 1) :
  Calls Tryz.prog 134 #[.agg (l.map (Value.int .u8)).toArray,.slice p n cap] w (SumSay (l++b) w):=by
 subst hn
 have HT:=Lib.hid hT;clear hT
 have Ht:=Lib.hid ht;clear ht
 have Hb:=Lib.hid hb;clear hb
 have Hl:=Lib.hid hl;clear hl
 have Hc:=Lib.hid (And.intro hc (And.intro hcm hbl));clear hc hcm hbl
 obtain ⟨o1,ho1⟩:∃ o,o=Obj.cells (l.map (Value.int .u8)).toArray 177 (0,0):=⟨_,rfl⟩
 obtain ⟨A,HA1,HA2,HA3⟩:∃ A:Array Value,Hid (A=((Sha.dg (l++b)).map (Value.int .u8)).toArray)∧Hid (A.size=32)∧Hid (A.all (·.oneCell')=true) :=
  ⟨_,rfl,by show _=_;simp [dg_len],all_oneCell_toArray (bytes_one _)⟩
 go_enter Tryz.func134,Tryz.ntmps134
 go_upto_region 1 with (fail)
 have L0:=heap_alloc2_old w (.cells (l.map (Value.int .u8)).toArray 177) (.cells (List.replicate 32 (Value.int .u8 0)).toArray 39)
 have R0:=heap_alloc2_new w (.cells (l.map (Value.int .u8)).toArray 177) (.cells (List.replicate 32 (Value.int .u8 0)).toArray 39)
 have B0:Below w.heap.size w ((w.alloc (.cells (l.map (Value.int .u8)).toArray 177)).alloc (.cells (List.replicate 32 (Value.int .u8 0)).toArray 39)):=((Below.refl _ w).alloc (Nat.le_refl _) _).alloc (by simp) _
 have S0:((w.alloc (.cells (l.map (Value.int .u8)).toArray 177)).alloc (.cells (List.replicate 32 (Value.int .u8 0)).toArray 39)).heap.size=w.heap.size+2:=by simp
 change Code.wp _ _ _ _ ((w.alloc (.cells (l.map (Value.int .u8)).toArray 177)).alloc (.cells (List.replicate 32 (Value.int .u8 0)).toArray 39))
 generalize (w.alloc (.cells (l.map (Value.int .u8)).toArray 177)).alloc (.cells (List.replicate 32 (Value.int .u8 0)).toArray 39)=wB at *
 have HL0:Hid (BAt wB (some ⟨w.heap.size,0,none⟩) l):=bat_row L0 hlb
 have HR0:=Lib.hid R0
 have HB0:=Lib.hid B0
 have HTB:Hid (Tab wB 1):=Ht.out.below B0 Ht.out.lt
 clear L0 R0 B0 ho1 Ht
 have hG:Hid (wB.heap.size≤w.heap.size+2):=by show _≤_;omega
 go_wp2_with (first
  | (go_at_call 171;refine (new_any _).mono ?_;rintro e w1 ⟨rfl,hh1,hb1,hs1⟩;have ST1:Hid (St wB w1 (w.heap.size+2) []):=(by have h:=St.new HTB.out hh1 hb1;rw [S0] at h;exact h);clear hh1 hb1 hs1)
  | (go_at_call 172;refine (add_st HT.out b _ _ _ rfl ST2.out (bytes_of Hb.out (HB0.out.trans (ST2.out.2.1.mono (by omega))) (by omega)) Hc.out.1 (by have:=Hc.out;omega) (by have:=Hc.out;have:=Hl.out;simp;omega)).mono ?_;rintro e w3 ⟨rfl,st3,_⟩;have ST3:=Lib.hid st3;clear st3)
  | (go_at_call 172;refine (add_st HT.out l _ 64 64 Hl.out ST1.out (bytes_of HL0.out ST1.out.2.1 hG.out) (by omega) (by omega) (by simp)).mono ?_;rintro e w2 ⟨rfl,st2,_⟩;have ST2:=Lib.hid st2;clear st2)
  | (go_at_call 173;refine (sum_st HT.out ST3.out (by have:=Hc.out;have:=Hl.out;simp;omega)).mono ?_;rintro e w4 ⟨rfl,st4,_⟩;simp only [List.nil_append] at st4 ⊢;rw [← HA1.out];have ST4:=Lib.hid st4;clear st4;have HR4:Hid (w4.heap[w.heap.size+1]?=some (.cells (List.replicate 32 (Value.int .u8 0)).toArray 39 (0,0))):=(ST4.out.2.1.block _ (by omega)).trans HR0.out)
  | ((with_reducible refine row_store _ _ _ _ _ _ _ ?_ ?_ HR4.out (row_size Tryz.sizeSum HA2) ?_ HA3.out ?_);(exact rfl);(exact rfl);(rw [HA2.out];rfl);intro w6 G6 ch6))
 refine bodyPost_ret (results_cell_row rfl _ _ (w.heap.size+1) 39 A (0,0) _ rfl G6.out Tryz.underlying39 rfl (row_size Tryz.sizeSum HA2)) rfl ⟨?_,ch6.below (HB0.out.trans (ST4.out.2.1.mono (by omega))) (by omega)⟩
 rw [HA1.out]
end
section
open Go.RowKit
theorem hm_eq (K b:List Int):hm K b=Sha.dg (xl 92 (kb K)++Sha.dg (xl 54 (kb K)++b)):=by unfold hm;rfl
def HmSay (K b:List Int) (w:World) (e:Ending) (w':World):Prop:=e = .returned (.agg ((hm K b).map (Value.int .u8)).toArray)∧Below w.heap.size w w'
theorem row_range' {w:World} {g:Nat} {A:Array Value} {t:TypeId} {fr:Nat × Nat} (h:w.heap[g]?=some (.cells A t fr)):w.rangeAt g 0 A.toList:=fun j v hv=>by
 rw [cell_of_row w g (0+j) _ _ _ h,Nat.zero_add]
 simpa using hv
set_option maxHeartbeats 2000000 in
set_option maxRecDepth 100000 in
theorem mac_of_any (hT:TakeSaid) (K b:List Int) (p q:Option Addr) (n m c d:Nat) (hn:K.length=n) (hm':b.length=m) (w:World) (hp:BAt w p K) (hq:BAt w q b) (hc:n≤c) (hcm:c≤9223372036854775807) (hd:m≤d) (hdm:d≤9223372036854775807) (hkl:K.length≤1000000000) (hbl:b.length≤1000000000) (ht:Tab w 1) :
  Calls Tryz.prog 91 #[.slice p n c,.slice q m d] w (HmSay K b w):=by
 subst hn
 subst hm'
 have HT:=Lib.hid hT;clear hT
 have Ht:=Lib.hid ht;clear ht
 have Hp:=Lib.hid hp;clear hp
 have Hq:=Lib.hid hq;clear hq
 have Hc:=Lib.hid (And.intro hc (And.intro hcm (And.intro hd (And.intro hdm (And.intro hkl hbl)))));clear hc hcm hd hdm hkl hbl
 have HK64:=Lib.hid (kb_len K)
 obtain ⟨A,HA1,HA2,HA3⟩:∃ A:Array Value,Hid (A=((hm K b).map (Value.int .u8)).toArray)∧Hid (A.size=32)∧Hid (A.all (·.oneCell')=true) :=
  ⟨_,rfl,by show _=_;simp [hm_len],all_oneCell_toArray (bytes_one _)⟩
 obtain ⟨KB,HKB1,HKB2,HKB3⟩:∃ A:Array Value,Hid (A=((kb K).map (Value.int .u8)).toArray)∧Hid (A.size=64)∧Hid (A.all (·.oneCell')=true) :=
  ⟨_,rfl,by show _=_;simp [kb_len],all_oneCell_toArray (bytes_one _)⟩
 obtain ⟨IN,HIN⟩:∃ IN,Hid (IN=Sha.dg (xl 54 (kb K)++b)):=⟨_,rfl⟩
 have HIN32:Hid (IN.length=32):=by rw [HIN.out];exact dg_len _
 have HINB:Hid (Sha.Byt IN):=by rw [HIN.out];exact dg_byt _
 obtain ⟨IA,HIA1,HIA2,HIA3⟩:∃ A:Array Value,Hid (A=(IN.map (Value.int .u8)).toArray)∧Hid (A.size=32)∧Hid (A.all (·.oneCell')=true) :=
  ⟨_,rfl,by show _=_;simp [HIN32.out],all_oneCell_toArray (bytes_one _)⟩
 have HHM:Hid (hm K b=Sha.dg (xl 92 (kb K)++IN)):=by show _=_;rw [hm_eq,HIN.out]
 go_enter Tryz.func91,Tryz.ntmps91
 go_upto_region 2 with (first
  | (go_at_call 133;refine (keyblock_any HT.out K p _ _ (Hp.out.old ((Below.refl _ w).alloc (Nat.le_refl _) _)) (by have:=Hc.out;omega) (by have:=Hc.out;omega) (by have:=Hc.out;omega) (Ht.out.below ((Below.refl _ w).alloc (Nat.le_refl _) _) Ht.out.lt)).mono ?_;rintro e w1 ⟨rfl,hb1⟩;have HB1:=Lib.hid hb1;clear hb1;rw [← HKB1.out])
  | ((with_reducible refine row_store _ _ _ _ _ _ _ ?_ ?_ (heap_alloc_new _ _) (row_size Tryz.size64 HKB2) ?_ HKB3.out ?_);(exact rfl);(exact rfl);(rw [HKB2.out];rfl);intro w2 g2 ch2))
 have BW1:Hid (Below w.heap.size w w1):=((Below.refl _ w).alloc (Nat.le_refl _) _).trans (HB1.out.mono (by simp))
 have hs1:w.heap.size<w1.heap.size:=by have:=HB1.out.size;simp at this;omega
 have RES1:w1.heap[w.heap.size]?=some (.cells (List.replicate 32 (Value.int .u8 0)).toArray 39 (0,0)):=by
  rw [HB1.out.block _ (by simp)]
  exact heap_alloc_new w _
 have BW2:Hid (Below w.heap.size w w2):=ch2.below (BW1.out.alloc (by omega) _) (by omega)
 have RES2:Hid (w2.heap[w.heap.size]?=some (.cells (List.replicate 32 (Value.int .u8 0)).toArray 39 (0,0))):=by
  show _=_
  rw [ch2.block _ (by omega),heap_alloc_old _ _ hs1]
  exact RES1
 have hs2:w1.heap.size<w2.heap.size:=by rw [ch2.size];simp
 clear BW1 RES1 ch2 HB1
 generalize w1.heap.size=G1 at *
 go_upto_region 3 with (first
  | ((with_reducible refine row_load _ _ _ _ _ _ _ ?_ g2.out Tryz.underlying177 ?_ (row_size Tryz.size64 HKB2) ?_);(exact rfl);(exact rfl);rw [HKB1.out])
  | (go_at_call 135;refine (xored_any 54 (kb K) HK64.out _).mono ?_;rintro e w3 ⟨rfl,hb3⟩;have BW3:Hid (Below w.heap.size w w3):=BW2.out.trans (hb3.mono BW2.out.size);have B23:=Lib.hid hb3;clear hb3)
  | (go_at_call 134;refine (digest_any HT.out (xl 54 (kb K)) b (by rw [xl_len,HK64.out]) (xl_byt _ _) q b.length _ rfl _ (Hq.out.old BW3.out) (by have:=Hc.out;omega) (by have:=Hc.out;omega) (by have:=Hc.out;omega) (Ht.out.below BW3.out Ht.out.lt)).mono ?_;rintro e w4 ⟨rfl,hb4⟩;rw [← HIN.out,← HIA1.out];have BW4:Hid (Below w.heap.size w w4):=BW3.out.trans (hb4.mono BW3.out.size);have B24:Hid (Below w2.heap.size w2 w4):=B23.out.trans (hb4.mono B23.out.size);clear hb4)
  | ((with_reducible refine row_store _ _ _ _ _ _ _ ?_ ?_ (heap_alloc_new _ _) (row_size Tryz.sizeSum HIA2) ?_ HIA3.out ?_);(exact rfl);(exact rfl);(rw [HIA2.out];rfl);intro w5 g5 ch5))
 have hs4:w2.heap.size≤w4.heap.size:=B24.out.size
 have BW5:Hid (Below w.heap.size w w5):=ch5.below (BW4.out.alloc (by omega) _) (by omega)
 have old5:∀ k,k<w2.heap.size→w5.heap[k]?=w2.heap[k]?:=fun k hk=>by
  rw [ch5.block _ (by omega),heap_alloc_old _ _ (by omega),B24.out.block _ hk]
 have RES5:Hid (w5.heap[w.heap.size]?=some (.cells (List.replicate 32 (Value.int .u8 0)).toArray 39 (0,0))):=by
  show _=_;rw [old5 _ (by omega)];exact RES2.out
 have K5:Hid (w5.heap[G1]?=some (.cells KB 177 (0,0))):=by
  show _=_;rw [old5 _ (by omega)];exact g2.out
 have I5:Hid (BAt w5 (some ⟨w4.heap.size,0,none⟩) IN):=by
  have h:=g5.out
  rw [HIA1.out] at h
  exact bat_row h HINB.out
 clear old5 RES2 g2 g5 ch5 B23 B24 BW2 BW3 BW4
 generalize w4.heap.size=G4 at *
 refine wp_region_any (by kernel_rfl) ?_
 change wpAny _ _ _ _ _ _ _ (World.drew _)
 replace BW5:Hid (Below w.heap.size w w5.drew):=BW5.out.drew
 replace RES5:Hid (w5.drew.heap[w.heap.size]?=some (.cells (List.replicate 32 (Value.int .u8 0)).toArray 39 (0,0))):=RES5.out
 replace K5:Hid (w5.drew.heap[G1]?=some (.cells KB 177 (0,0))):=K5.out
 replace I5:Hid (BAt w5.drew (some ⟨G4,0,none⟩) IN):=I5.out
 generalize w5.drew=w6 at *
 refine any_take_g 2 15 ?_ rfl (by kernel_rfl) (by kernel_rfl) (by kernel_rfl) (fun _ _ _ h=>h) (by rfl) ?_ ?_
 rotate_left
 ·(intro w;go_simp;try (with_reducible rfl))
 try simp only [Act.put,zq1,zq2,zq3]
 refine any_one 0 (by kernel_rfl) ?_
 refine op_load 0 177 (.tmp 5) rfl G1 0 KB.toList _ rfl (row_range' K5.out) Tryz.underlying177 rfl (by rw [Array.length_toList];exact row_size Tryz.size64 HKB2) ?_
 try simp only [Act.put,zq1,zq2,zq3]
 rw [Array.toArray_toList,HKB1.out]
 refine any_one 1 (by kernel_rfl) ?_
 refine wpOp_step rfl (fun Kc hKc=>?_)
 go_simp
 refine (xored_any 92 (kb K) HK64.out _).mono ?_
 rintro e w7 ⟨rfl,hb7⟩
 have BW7:Hid (Below w.heap.size w w7):=BW5.out.trans (hb7.mono BW5.out.size)
 have I7:Hid (BAt w7 (some ⟨G4,0,none⟩) IN):=I5.out.old hb7
 have RES7:Hid (w7.heap[w.heap.size]?=some (.cells (List.replicate 32 (Value.int .u8 0)).toArray 39 (0,0))):=(hb7.block _ (lt_of_block RES5.out)).trans RES5.out
 clear hb7
 dsimp only
 refine hKc _ _ ?_
 clear hKc Kc
 try simp only [Act.put,zq1,zq2,zq3]
 refine any_one 3 (by kernel_rfl) ?_
 refine wpOp_step rfl (fun Kc hKc=>?_)
 go_simp
 refine (digest_any HT.out (xl 92 (kb K)) IN (by rw [xl_len,HK64.out]) (xl_byt _ _) (some ⟨G4,0,none⟩) 32 32 HIN32.out _ I7.out (by omega) (by omega) (by have:=HIN32.out;omega) (Ht.out.below BW7.out Ht.out.lt)).mono ?_
 rintro e w8 ⟨rfl,hb8⟩
 rw [← HHM.out,← HA1.out]
 have BW8:Hid (Below w.heap.size w w8):=BW7.out.trans (hb8.mono BW7.out.size)
 have RES8:Hid (w8.heap[w.heap.size]?=some (.cells (List.replicate 32 (Value.int .u8 0)).toArray 39 (0,0))):=(hb8.block _ (lt_of_block RES7.out)).trans RES7.out
 clear hb8
 dsimp only
 refine hKc _ _ ?_
 clear hKc Kc
 try simp only [Act.put,zq1,zq2,zq3]
 refine any_one 4 (by kernel_rfl) ?_
 refine op_store 4 39 (.tmp 4) (.tmp 16) rfl w.heap.size 0 39 (List.replicate 32 (Value.int .u8 0)) A rfl rfl RES8.out (row_size Tryz.sizeSum HA2) (by rw [HA2.out];simp) HA3.out ?_
 intro w9 g9 ch9
 try simp only [Act.put,zq1,zq2,zq3]
 refine wpAny_done (by kernel_rfl) ?_ _
 have G9:Hid (w9.heap[w.heap.size]?=some (.cells A 39 (0,0))):=by
  have h:=g9.out
  have e:splice (List.replicate 32 (Value.int .u8 0)) 0 A.toList=A.toList:=by
   unfold splice
   rw [List.take_zero,List.nil_append,Array.length_toList,HA2.out,List.drop_of_length_le (by simp),List.append_nil]
  rw [e,Array.toArray_toList] at h
  exact h
 clear g9
 go_wp2
 refine bodyPost_ret (results_cell_row rfl _ _ w.heap.size 39 A (0,0) _ rfl G9.out Tryz.underlying39 rfl (row_size Tryz.sizeSum HA2)) rfl ⟨?_,ch9.below BW8.out (Nat.le_refl _)⟩
 rw [HA1.out]
end
section
open Go.RowKit
theorem bat_own {w:World} {B n:Nat} {v:Value} {l:List Int} (h:w.ownsRow B 5 1 v n (U8s l)) (hb:Sha.Byt l):∃ p c,v = .slice p l.length c∧BAt w p l∧l.length≤c∧c≤9223372036854775807:=by
 have hl:l.length=n:=by
  have:=h.1
  unfold U8s at this
  simpa using this
 by_cases h0:0<n
 ·obtain ⟨g,c,rfl⟩:=own_some h h0
  obtain ⟨h1,h2⟩:=own_cap h
  refine ⟨some ⟨g,0,none⟩,c,by rw [hl],⟨hb,fun _=>⟨g,0,rfl,fun j hj=>?_⟩⟩,by omega,by unfold maxLen at h2;omega⟩
  rw [Nat.zero_add]
  exact u8_at h j (by omega)
 ·rcases h.2 with ⟨rfl,_⟩ | ⟨g,cap,cur,rfl,_,_,h1,h2,_⟩
  ·exact ⟨none,0,by rw [hl];congr 1;omega,⟨hb,fun h3=>by omega⟩,by omega,by omega⟩
  ·exact ⟨some ⟨g,0,none⟩,cap,by rw [hl],⟨hb,fun h3=>by omega⟩,by omega,by unfold maxLen at h2;omega⟩
end
end Go.Proofs.YtnnalemboeccbaaGreatDoor

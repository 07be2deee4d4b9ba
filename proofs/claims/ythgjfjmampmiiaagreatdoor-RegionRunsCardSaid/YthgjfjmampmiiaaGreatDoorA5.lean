import Derived.Test.YthgjfjmampmiiaaGreatDoorA4
namespace Go.Proofs.YthgjfjmampmiiaaGreatDoor
open Go.Proofs.Tryz
set_option maxHeartbeats 2000000
set_option maxRecDepth 100000
section
open Go.RowKit
def cX (w:World) (p:Option Addr) (l:List Int):Prop :=
 ai.aY l∧(0<l.length→∃ ab ao,p=some ⟨ab,ao,none⟩∧∀ j,j<l.length→w.cell? ⟨ab,ao+j,none⟩=some (.int .u8 (l.getD j 0)))
theorem cX.bytes {w:World} {p:Option Addr} {l:List Int} (h:cX w p l) (g:Nat) (hg:w.heap.size≤g):dy w g p l :=
 ⟨h.1,fun h0=>by
  obtain ⟨ab,ao,h1,h2⟩:=h.2 h0;have Ae:ab<w.heap.size:=World.block_lt_of_cell? w _ (h2 0 h0);exact ⟨ab,ao,h1,by omega,h2⟩⟩
theorem cX.below {w w':World} {B:Nat} {p:Option Addr} {l:List Int} (h:cX w p l) (hb:Below B w w') (hB:w.heap.size≤B):cX w' p l :=
 ⟨h.1,fun h0=>by
  obtain ⟨ab,ao,h1,h2⟩:=h.2 h0;have Ae:ab<w.heap.size:=World.block_lt_of_cell? w _ (h2 0 h0);exact ⟨ab,ao,h1,fun j hj=>(hb.cell (Nat.lt_of_lt_of_le Ae hB)).trans (h2 j hj)⟩⟩
theorem cX.av {w w1:World} {p:Option Addr} {l:List Int} (h:cX w p l) (hb:qw w w1):cX w1 p l:=h.below hb qn
theorem cX.drewN {w:World} {p:Option Addr} {l:List Int} (h:cX w p l) (n:Nat):cX (w.drewN n) p l:=h
theorem pU (n:Nat) (x:Int) (h:0≤x∧x≤255):ai.aY (List.replicate n x):=fun y hy=>by
 rw [List.mem_replicate] at hy;omega
theorem cU {w:World} {g:Nat} {l:List Int} {t:TypeId} {fr:Nat × Nat} (h:w.heap[g]?=some (.cells (l.map (Value.int .u8)).toArray t fr)) (hb:ai.aY l):cX w (some ⟨g,0,none⟩) l :=
 ⟨hb,fun _=>⟨g,0,rfl,fun j hj=>by
  rw [cell_of_row w g (0+j) _ _ _ h];simp [List.getD_eq_getElem?_getD,hj]⟩⟩
theorem jJ (l m:List Int) (j:Nat) (hj:j<l.length):(l++m).getD j 0=l.getD j 0:=by
 rw [List.getD_eq_getElem?_getD,List.getD_eq_getElem?_getD,List.getElem?_append_left hj]
theorem cX.pre {w:World} {p:Option Addr} {l m:List Int} (h:cX w p (l++m)):cX w p l :=
 ⟨fun x hx=>h.1 x (List.mem_append_left _ hx),fun h0=>by
  obtain ⟨ab,ao,h1,h2⟩:=h.2 (by rw [List.length_append];omega);refine ⟨ab,ao,h1,fun j hj=>?_⟩;rw [h2 j (by rw [List.length_append];omega),jJ l m j hj]⟩
theorem iN {w:World} {g i:Nat} {l:List Int} {x:Int} {t:TypeId} (h:w.heap[g]?=some (.cells (l.map (Value.int .u8)).toArray t (0,0))) :
  (w.setCell ⟨g,i,none⟩ (.int .u8 x)).heap[g]?=some (.cells ((l.set i x).map (Value.int .u8)).toArray t (0,0)):=by
 rw [heap_setCell_same w g i _ _ _ h];congr 2;apply Array.ext'
 simp
theorem bI {B:Nat} {w w':World} (h:Below B w w') (n:Nat):Below B w (w'.drewN n):=⟨h.os,h.tape,h.output,h.size,h.block⟩
def lY (w:World) (e:Ending) (w':World):Prop:=e = .returned (.bool true)∧qw w w'
theorem acs (L:List Int) (p q:Option Addr) (n m c d:Nat) (hn:L.length=n) (hm:L.length=m) (w:World) (hp:cX w p L) (hq:cX w q L) (hL:L.length≤10000000) :
  qc 17 #[.slice p n c,.slice q m d] w (lY w):=by
 subst hn;subst hm;have Hp:=qh hp;clear hp;have Hq:=qh hq;clear hq;go_enter func17,ntmps17;go_wp2;go_loopw [5] (fun v5 wr=>∃ k:Nat,k≤L.length∧v5 = .int .i64 k∧Hid (qw w wr)) (fun v5 _=>L.length-(intOf v5).toNat)
 case atStart=>exact ⟨0,by omega,rfl,Below.refl _ _⟩
 case round =>
  obtain ⟨k,hk,rfl,HB⟩:=hrel;by_cases Ae:k<L.length
  ·obtain ⟨ab,ao,CM,A7⟩:=(Hp.out.av HB.out).2 (by omega);obtain ⟨bb,bo,Ml,LW⟩:=(Hq.out.av HB.out).2 (by omega);subst CM;subst Ml;have c0:=A7 k Ae;have c1:=LW k Ae;have hn:0≤(k:Int):=by omega
   have hm:(k:Int)<(L.length:Int):=by omega
   generalize L.getD k 0=x at *;go_wp2;go_quiet (fail)
   go_wp2;exact ⟨⟨k+1,by omega,by go_num,bI HB.out _⟩,by simp [intOf];omega⟩
  ·have E:k=L.length:=by omega
   have Bc:L.length≤k:=by omega
   clear Ae E;go_wp2;go_ret;exact ⟨rfl,HB.out⟩
end
section
open Go.RowKit
def xl (x:Int) (l:List Int):List Int:=l.map fun b=>bits .xor .u8 b x
theorem pe (x:Int) (l:List Int):(xl x l).length=l.length:=by simp [xl]
def mx (x:Int) (l:List Int) (k:Nat):List Int:=xl x (l.take k)++l.drop k
theorem qA (x:Int) (l:List Int):mx x l 0=l:=by simp [mx,xl]
theorem tJ (x:Int) (l:List Int) (k:Nat) (h:l.length≤k):mx x l k=xl x l:=by
 unfold mx;rw [List.take_of_length_le h,List.drop_eq_nil_of_le h];simp
theorem ags (x:Int) (l:List Int) (k:Nat):(mx x l k).length=l.length:=by simp [mx,xl];omega
theorem vo (x:Int) (l:List Int) (k:Nat) (h:k<l.length):(mx x l k).getD k 0=l.getD k 0:=by
 unfold mx;have hl:(xl x (l.take k)).length=k:=by simp [xl];omega
 rw [List.getD_eq_getElem?_getD,List.getElem?_append_right (by omega),hl,Nat.sub_self,List.getElem?_drop,Nat.add_zero,List.getD_eq_getElem?_getD]
theorem pE (x:Int) (l:List Int) (k:Nat) (h:k<l.length):(mx x l k).set k (bits .xor .u8 (l.getD k 0) x)=mx x l (k+1):=by
 unfold mx;have hl:(xl x (l.take k)).length=k:=by simp [xl];omega
 have hd:l.drop k=l.getD k 0 :: l.drop (k+1):=by
  rw [List.drop_eq_getElem_cons h,List.getD_eq_getElem?_getD,List.getElem?_eq_getElem h];rfl
 rw [List.set_append_right _ _ (by omega),hl,Nat.sub_self,hd,List.set_cons_zero,← b8 l k h];simp [xl]
theorem xt (a b:Int):0≤bits .xor .u8 a b∧bits .xor .u8 a b≤255:=by
 have h:∀ x:Int,0≤IntKind.u8.wrap x∧IntKind.u8.wrap x≤255:=fun x=>by
  simp [IntKind.wrap,IntKind.signed,IntKind.bits];omega
 exact h _
theorem pR (x:Int) (l:List Int):ai.aY (xl x l):=fun y hy=>by
 unfold xl at hy;rw [List.mem_map] at hy;obtain ⟨a,_,rfl⟩:=hy;exact xt _ _
theorem cZ {w:World} {g:Nat} {l:List Int} {t:TypeId} {fr:Nat × Nat} (h:w.heap[g]?=some (.cells (l.map (Value.int .u8)).toArray t fr)) (j:Nat) (hj:j<l.length):w.cell? ⟨g,j,none⟩=some (.int .u8 (l.getD j 0)):=by
 rw [cell_of_row w g j _ _ _ h];simp [List.getD_eq_getElem?_getD,hj]
attribute [irreducible] mx xl
def fj (l:List Int) (w:World) (e:Ending) (w':World):Prop:=e = .returned (.agg (l.map (Value.int .u8)).toArray)∧qw w w'
theorem Tryz.eI:(prog.info? 158).map (·.size)=some 64:=by kernel_rfl
theorem ot (x:Int) (l:List Int) (hl:l.length=64) (w:World) :
  qc 115 #[.agg (l.map (Value.int .u8)).toArray,.int .u8 x] w (fj (xl x l) w):=by
 have Hl:=qh hl;clear hl;have h0:Hid ((w.alloc (.cells (l.map (Value.int .u8)).toArray 158)).heap[w.heap.size]?=some (.cells ((mx x l 0).map (Value.int .u8)).toArray 158 (0,0))):=by
  show _=_;rw [qA];exact heap_alloc_new w _
 go_enter func115,ntmps115;go_wp2;go_loopw [6] (fun v6 wr=>∃ k:Nat,k≤64∧v6 = .int .i64 k∧Hid (wr.heap[w.heap.size]?=some (.cells ((mx x l k).map (Value.int .u8)).toArray 158 (0,0))) ∧
   Hid (wr.heap[w.heap.size+1]?=some (.cells (List.replicate 64 (Value.int .u8 0)).toArray 158 (0,0)))∧Hid (qw w wr)) (fun v6 _=>64-(intOf v6).toNat)
 case atStart =>
  refine ⟨0,by omega,rfl,?_,?_,?_⟩
  ·show _=_;rw [heap_alloc_old _ _ (by simp)];exact h0.out
  ·exact heap_alloc2_new w _ _
  ·exact (qb _ _).alloc (by simp) _
 case round =>
  clear h0;obtain ⟨k,hk,rfl,HG,Cd,HB⟩:=hrel;by_cases Ae:k<64
  ·have c0:=cZ HG.out k (by rw [ags,Hl.out];exact Ae);rw [vo x l k (by rw [Hl.out];exact Ae)] at c0;have f0:=frozen_of_row wr w.heap.size k _ _ HG.out;have HF:Hid ((mx x l k).set k (bits .xor .u8 (l.getD k 0) x)=mx x l (k+1)):=pE x l k (by rw [Hl.out];exact Ae);generalize l.getD k 0=y at *;go_wp2;refine ⟨⟨k+1,by omega,by go_num,?_,?_,?_⟩,by simp [intOf];omega⟩
   ·have h:=iN (i:=k) (x:=bits .xor .u8 y x) HG.out;rw [HF.out] at h;exact h
   ·show _=_;rw [heap_setCell_other _ _ _ _ (by simp)];exact Cd.out
   ·exact HB.out.setCell (by simp) _
  ·have E:k=64:=by omega
   have Bc:64≤k:=by omega
   obtain ⟨A,An,Ak,Au⟩:∃ A:Array Value,Hid (A=((xl x l).map (Value.int .u8)).toArray)∧Hid (A.size=64)∧Hid (A.all (·.oneCell')=true) :=
    ⟨_,rfl,by show _=_;simp [pe,Hl.out],all_oneCell_toArray (aw _)⟩
   have DK:Hid (wr.heap[w.heap.size]?=some (.cells A 158 (0,0))):=by
    have h:=HG.out;rw [tJ x l k (by rw [Hl.out];omega),← An.out] at h;exact h
   clear E Ae HG;go_wp2_with (first
    | ((with_reducible refine ay _ _ _ _ _ _ _ ?_ DK.out underlying158 ?_ (ae Tryz.eI Ak) ?_);(exact rfl);(exact rfl))
    | ((with_reducible refine ak _ _ _ _ _ _ _ ?_ ?_ Cd.out (ae Tryz.eI Ak) ?_ Au.out ?_);(exact rfl);(exact rfl);(rw [Ak.out];rfl);intro w6 G6 AE))
   refine bodyPost_ret (results_cell_row rfl _ _ (w.heap.size+1) 158 A (0,0) _ rfl G6.out underlying158 rfl (ae Tryz.eI Ak)) rfl ⟨?_,AE.below HB.out (by omega)⟩;rw [An.out]
end
section
open Go.RowKit
def kb (K:List Int):List Int:=(if 64<K.length then ai.dg K else K)++List.replicate (64-(if 64<K.length then ai.dg K else K).length) 0
def rP (K:List Int):List Int:=K++List.replicate (64-K.length) 0
theorem mL (K:List Int) (h:K.length≤64):kb K=rP K:=by
 unfold kb rP;rw [if_neg (by omega)]
theorem oP (K:List Int) (h:64<K.length):kb K=rP (ai.dg K):=by
 unfold kb rP;rw [if_pos h]
theorem lE (K:List Int) (h:K.length≤64):(rP K).length=64:=by simp [rP];omega
theorem gF (K:List Int):(kb K).length=64:=by
 by_cases h:64<K.length
 ·rw [oP K h];exact lE _ (by rw [gD];omega)
 ·rw [mL K (by omega)];exact lE _ (by omega)
theorem mC (K:List Int):splice (List.replicate 64 (Value.int .u8 0)) 0 (K.map (Value.int .u8))=(rP K).map (Value.int .u8):=by
 unfold splice rP;rw [List.take_zero,List.nil_append,List.drop_replicate,List.map_append,List.map_replicate];simp only [List.length_map,Nat.zero_add]
def hm (K b:List Int):List Int:=ai.dg (xl 92 (kb K)++ai.dg (xl 54 (kb K)++b))
theorem dS (K b:List Int):(hm K b).length=32:=gD _
theorem qE (L:List Int):ai.aY (ai.dg L):=by
 intro x hx;rw [← afa] at hx;unfold sI at hx;simp only [List.mem_append,List.mem_map,List.mem_range,List.mem_replicate] at hx;rcases hx with ⟨i,_,rfl⟩ | ⟨_,rfl⟩
 ·rw [ae4];omega
 ·omega
attribute [irreducible] hm kb rP
theorem sL {ops:Array Oper} {rest:List Oper} {a:Act} {w:World} {Q:Exit→Act→World→Prop} {D:Option Tmp} {T:TypeId} {ps:String} {af:Array Edge}
  (d s:Operand) (g dLen dCap:Nat) (p:Option Addr) (sLen sCap:Nat) (t:TypeId) (cur:List Value) (L:List Int)
  (hd:a.eval d = .slice (some ⟨g,0,none⟩) dLen dCap) (hs:a.eval s = .slice p sLen sCap) (hn:L.length=sLen) (hg:w.heap[g]?=some (.cells cur.toArray t (0,0)))
  (hb:cX w p L) (hle:L.length≤dLen) (CZ:L.length≤cur.length)
  (h:∀ w',Hid (w'.heap[g]?=some (.cells (splice cur 0 (L.map (Value.int .u8))).toArray t (0,0)))→bJ g w w'→∀ z,wpList prog ops Q rest (a.put D z) w') :
  wpList prog ops Q ({ dst:=D,op:=.call { callee:=.builtin .copy,args:=#[d,s],argTypes:=#[22,22] },type:=T,pos:=ps,after:=af,guard:=none } :: rest) a w:=by
 subst hn;by_cases h0:0<L.length
 ·obtain ⟨ab,ao,rfl,hc⟩:=hb.2 h0;refine jR d s 22 22 5 g 0 dLen dCap ⟨ab,ao,none⟩ L.length sCap t cur (L.map (Value.int .u8)) hd hs hg underlying22 (by kernel_rfl) ?_ ?_ ?_ (aw _) ?_
  ·simp only [List.length_map];exact (Nat.min_eq_left hle).symm
  ·intro j v hj;have Cp:j<L.length:=by have:=(List.getElem?_eq_some_iff.1 hj).1;simpa using this
   rw [Addr.add_mid,hc j Cp];rw [List.getElem?_map,List.getElem?_eq_getElem Cp] at hj;rw [List.getD_eq_getElem?_getD,List.getElem?_eq_getElem Cp];simpa using hj
  ·simpa using CZ
  ·exact fun w' h1 h2=>h w' h1 h2 _
 ·obtain rfl:L = []:=List.eq_nil_of_length_eq_zero (by omega);refine wpList_copy_nothing rfl d s 22 22 rfl 5 underlying22 (by kernel_rfl) (some ⟨g,0,none⟩) p dLen dCap 0 sCap hd hs (Nat.zero_min _) ?_;exact h w (by show _=_;rw [hg];simp [splice]) (bJ.refl g w) _
theorem mz (K:List Int) (hk:K.length≤64) (p:Option Addr) (cap:Nat) (w:World) (hp:cX w p K) :
  qc 113 #[.slice p K.length cap] w (fj (rP K) w):=by
 have Hp:=qh hp;clear hp;have HS:=qh (mC K);obtain ⟨A,An,Ak,Au⟩:∃ A:Array Value,Hid (A=((rP K).map (Value.int .u8)).toArray)∧Hid (A.size=64)∧Hid (A.all (·.oneCell')=true) :=
  ⟨_,rfl,by show _=_;simp [lE K hk],all_oneCell_toArray (aw _)⟩
 go_enter func113,ntmps113;go_upto_region 6 with ((with_reducible refine sL _ _ (w.heap.size+1) 64 64 p K.length cap 158 (List.replicate 64 (Value.int .u8 0)) K ?_ ?_ ?_ ?_ ?_ ?_ ?_ ?_);(exact rfl);(exact rfl);(exact rfl);(exact heap_alloc2_new w _ _);(exact Hp.out.av ((qb w _).alloc (by simp) _));omega;(simp;omega);intro w5 G5 C5 z)
 have DK:Hid (w5.heap[w.heap.size+1]?=some (.cells A 158 (0,0))):=by
  have h:=G5.out;rw [HS.out,← An.out] at h;exact h
 have RES:Hid (w5.heap[w.heap.size]?=some (.cells (List.replicate 64 (Value.int .u8 0)).toArray 158 (0,0))):=by
  show _=_;rw [C5.block _ (by omega)];exact heap_alloc2_old w _ _
 have HB:Hid (qw w w5):=C5.below ((qb w _).alloc (by simp) _) (by omega);clear G5 C5;go_wp2_with (first
  | ((with_reducible refine ay _ _ _ _ _ _ _ ?_ DK.out underlying158 ?_ (ae Tryz.eI Ak) ?_);(exact rfl);(exact rfl))
  | ((with_reducible refine ak _ _ _ _ _ _ _ ?_ ?_ RES.out (ae Tryz.eI Ak) ?_ Au.out ?_);(exact rfl);(exact rfl);(rw [Ak.out];rfl);intro w6 G6 AE))
 refine bodyPost_ret (results_cell_row rfl _ _ w.heap.size 158 A (0,0) _ rfl G6.out underlying158 rfl (ae Tryz.eI Ak)) rfl ⟨?_,AE.below HB.out qn⟩;rw [An.out]
theorem nH (hT:aV) (K:List Int) (hk:64<K.length) (p:Option Addr) (cap:Nat) (w:World) (hp:cX w p K) (hc:K.length≤cap) (BI:cap≤9223372036854775807) (hl:K.length≤1000000000) (ht:cT w 0) :
  qc 113 #[.slice p K.length cap] w (fj (rP (ai.dg K)) w):=by
 have HT:=qh hT;clear hT;have Ht:=qh ht;clear ht;have Hp:=qh hp;clear hp;have HD:=gD K;have Sz:=qE K;have HS:=qh (mC (ai.dg K));obtain ⟨A,An,Ak,Au⟩:∃ A:Array Value,Hid (A=((rP (ai.dg K)).map (Value.int .u8)).toArray)∧Hid (A.size=64)∧Hid (A.all (·.oneCell')=true) :=
  ⟨_,rfl,by show _=_;simp [lE (ai.dg K) (by omega)],all_oneCell_toArray (aw _)⟩
 have P8:=qh (fun w' hb h1=>adL HT.out K p cap w' hb hc BI (by omega) h1);have Jl:Hid (((ai.dg K).map (Value.int .u8)).toArray.size=32):=by show _=_;simp [HD]
 have N7:Hid (((ai.dg K).map (Value.int .u8)).toArray.all (·.oneCell')=true):=all_oneCell_toArray (aw _);go_enter func113,ntmps113;go_upto_region 3 with (first
  | (go_at_call 143;refine (P8.out _ (fun g hg=>(Hp.out.av (qb w _)).bytes g hg) (Ht.out.below (qb w _) Ht.out.lt)).mono ?_;rintro e w1 ⟨rfl,Ag⟩;have Ai:=qh Ag;clear Ag)
  | ((with_reducible refine ak _ _ _ _ _ _ _ ?_ ?_ (heap_alloc_new _ _) (ae Tryz.ar Jl) ?_ N7.out ?_);(exact rfl);(exact rfl);(rw [Jl.out];rfl);intro w2 g2 BB))
 have ER:Hid (qw w w1):=(qb w _).trans (Ai.out.mono (by simp));have CN:w.heap.size<w1.heap.size:=by have:=Ai.out.size;simp at this;omega
 have RES1:Hid (w1.heap[w.heap.size]?=some (.cells (List.replicate 64 (Value.int .u8 0)).toArray 158 (0,0))):=by
  show _=_;rw [Ai.out.block _ (by simp)];exact heap_alloc_new w _
 have GY:Hid (qw w w2):=BB.below (ER.out.alloc (by omega) _) (by omega);have RES2:Hid (w2.heap[w.heap.size]?=some (.cells (List.replicate 64 (Value.int .u8 0)).toArray 158 (0,0))):=by
  show _=_;rw [BB.block _ (by omega),heap_alloc_old _ _ CN];exact RES1.out
 have Ex:w1.heap.size<w2.heap.size:=by rw [BB.size];simp
 have BD:Hid (cX w2 (some ⟨w1.heap.size,0,none⟩) (ai.dg K)):=cU g2.out Sz;clear ER RES1 BB g2 Ai P8;generalize w1.heap.size=G1 at *;go_upto_region 6 with ((with_reducible refine sL _ _ w2.heap.size 64 64 (some ⟨G1,0,none⟩) 32 32 158 (List.replicate 64 (Value.int .u8 0)) (ai.dg K) ?_ ?_ ?_ ?_ ?_ ?_ ?_ ?_);(exact rfl);(exact rfl);(exact HD);(exact heap_alloc_new w2 _);(exact BD.out.av (qb w2 _));omega;(simp;omega);intro w5 G5 C5 z)
 have DK:Hid (w5.heap[w2.heap.size]?=some (.cells A 158 (0,0))):=by
  have h:=G5.out;rw [HS.out,← An.out] at h;exact h
 have RES:Hid (w5.heap[w.heap.size]?=some (.cells (List.replicate 64 (Value.int .u8 0)).toArray 158 (0,0))):=by
  show _=_;rw [C5.block _ (by omega),heap_alloc_old _ _ (by omega)];exact RES2.out
 have HB:Hid (qw w w5):=C5.below (GY.out.alloc (by omega) _) (by omega);clear G5 C5;go_wp2_with (first
  | ((with_reducible refine ay _ _ _ _ _ _ _ ?_ DK.out underlying158 ?_ (ae Tryz.eI Ak) ?_);(exact rfl);(exact rfl))
  | ((with_reducible refine ak _ _ _ _ _ _ _ ?_ ?_ RES.out (ae Tryz.eI Ak) ?_ Au.out ?_);(exact rfl);(exact rfl);(rw [Ak.out];rfl);intro w6 G6 AE))
 refine bodyPost_ret (results_cell_row rfl _ _ w.heap.size 158 A (0,0) _ rfl G6.out underlying158 rfl (ae Tryz.eI Ak)) rfl ⟨?_,AE.below HB.out qn⟩;rw [An.out]
theorem pw (hT:aV) (K:List Int) (p:Option Addr) (cap:Nat) (w:World) (hp:cX w p K) (hc:K.length≤cap) (BI:cap≤9223372036854775807) (hl:K.length≤1000000000) (ht:cT w 0) :
  qc 113 #[.slice p K.length cap] w (fj (kb K) w):=by
 by_cases h:64<K.length
 ·rw [oP K h];exact nH hT K h p cap w hp hc BI hl ht
 ·rw [mL K (by omega)];exact mz K (by omega) p cap w hp
end
section
open Go.RowKit
theorem sH {w w':World} {g:Nat} {p:Option Addr} {l:List Int} (h:cX w p l) (hb:qw w w') (hg:w.heap.size≤g):dy w' g p l :=
 ⟨h.1,fun h0=>by
  obtain ⟨ab,ao,h1,h2⟩:=h.2 h0;have Ae:ab<w.heap.size:=World.block_lt_of_cell? w _ (h2 0 h0);exact ⟨ab,ao,h1,by omega,fun j hj=>(hb.cell Ae).trans (h2 j hj)⟩⟩
theorem ni (hT:aV) (l b:List Int) (hl:l.length=64) (Fz:ai.aY l) (p:Option Addr) (n cap:Nat) (hn:b.length=n) (w:World) (hb:cX w p b) (hc:n≤cap) (BI:cap≤9223372036854775807) (I0:b.length≤1000000000) (ht:cT w 0) :
  qc 114 #[.agg (l.map (Value.int .u8)).toArray,.slice p n cap] w (pV (l++b) w):=by
 subst hn;have HT:=qh hT;clear hT;have Ht:=qh ht;clear ht;have Hb:=qh hb;clear hb;have Hl:=qh hl;clear hl;have Hc:=qh (And.intro hc (And.intro BI I0));clear hc BI I0;obtain ⟨o1,Cz⟩:∃ o,o=Obj.cells (l.map (Value.int .u8)).toArray 158 (0,0):=⟨_,rfl⟩;obtain ⟨A,An,Ak,Au⟩:∃ A:Array Value,Hid (A=((ai.dg (l++b)).map (Value.int .u8)).toArray)∧Hid (A.size=32)∧Hid (A.all (·.oneCell')=true) :=
  ⟨_,rfl,by show _=_;simp [gD],all_oneCell_toArray (aw _)⟩
 go_enter func114,ntmps114;go_upto_region 1 with (fail)
 have L0:=heap_alloc2_old w (.cells (l.map (Value.int .u8)).toArray 158) (.cells (List.replicate 32 (Value.int .u8 0)).toArray 39);have R0:=heap_alloc2_new w (.cells (l.map (Value.int .u8)).toArray 158) (.cells (List.replicate 32 (Value.int .u8 0)).toArray 39);have B0:qw w ((w.alloc (.cells (l.map (Value.int .u8)).toArray 158)).alloc (.cells (List.replicate 32 (Value.int .u8 0)).toArray 39)):=(qb w _).alloc (by simp) _;have S0:((w.alloc (.cells (l.map (Value.int .u8)).toArray 158)).alloc (.cells (List.replicate 32 (Value.int .u8 0)).toArray 39)).heap.size=w.heap.size+2:=by simp
 change Code.wp _ _ _ _ ((w.alloc (.cells (l.map (Value.int .u8)).toArray 158)).alloc (.cells (List.replicate 32 (Value.int .u8 0)).toArray 39));generalize (w.alloc (.cells (l.map (Value.int .u8)).toArray 158)).alloc (.cells (List.replicate 32 (Value.int .u8 0)).toArray 39)=wB at *;have Bf:Hid (cX wB (some ⟨w.heap.size,0,none⟩) l):=cU L0 Fz;have BU:=qh R0;have Bd:=qh B0;have Dn:Hid (cT wB 0):=Ht.out.below B0 Ht.out.lt;clear L0 R0 B0 Cz Ht;have hG:Hid (wB.heap.size≤w.heap.size+2):=by show _≤_;omega
 go_wp2_with (first
  | (go_at_call 144;refine (xq _).mono ?_;rintro e w1 ⟨rfl,LX,Ag,CN⟩;have ST1:Hid (St wB w1 (w.heap.size+2) []):=(by have h:=St.new Dn.out LX Ag;rw [S0] at h;exact h);clear LX Ag CN)
  | (go_at_call 145;refine (aaO HT.out b _ _ _ rfl ST2.out (sH Hb.out (Bd.out.trans (ST2.out.2.1.mono (by omega))) (by omega)) Hc.out.1 (by have:=Hc.out;omega) (by have:=Hc.out;have:=Hl.out;simp;omega)).mono ?_;rintro e w3 ⟨rfl,st3,_⟩;have ST3:=qh st3;clear st3)
  | (go_at_call 145;refine (aaO HT.out l _ 64 64 Hl.out ST1.out (sH Bf.out ST1.out.2.1 hG.out) (by omega) (by omega) (by simp)).mono ?_;rintro e w2 ⟨rfl,st2,_⟩;have ST2:=qh st2;clear st2)
  | (go_at_call 146;refine (af2 HT.out ST3.out (by have:=Hc.out;have:=Hl.out;simp;omega)).mono ?_;rintro e w4 ⟨rfl,st4,_⟩;simp only [List.nil_append] at st4 ⊢;rw [← An.out];have ST4:=qh st4;clear st4;have F1:Hid (w4.heap[w.heap.size+1]?=some (.cells (List.replicate 32 (Value.int .u8 0)).toArray 39 (0,0))):=(ST4.out.2.1.block _ (by omega)).trans BU.out)
  | ((with_reducible refine ak _ _ _ _ _ _ _ ?_ ?_ F1.out (ae Tryz.ar Ak) ?_ Au.out ?_);(exact rfl);(exact rfl);(rw [Ak.out];rfl);intro w6 G6 AE))
 refine bodyPost_ret (results_cell_row rfl _ _ (w.heap.size+1) 39 A (0,0) _ rfl G6.out underlying39 rfl (ae Tryz.ar Ak)) rfl ⟨?_,AE.below (Bd.out.trans (ST4.out.2.1.mono (by omega))) (by omega)⟩;rw [An.out]
end
section
open Go.RowKit
theorem ae7 (K b:List Int):hm K b=ai.dg (xl 92 (kb K)++ai.dg (xl 54 (kb K)++b)):=by unfold hm;rfl
def fW (K b:List Int) (w:World) (e:Ending) (w':World):Prop:=e = .returned (.agg ((hm K b).map (Value.int .u8)).toArray)∧qw w w'
theorem fi {w:World} {g:Nat} {A:Array Value} {t:TypeId} {fr:Nat × Nat} (h:w.heap[g]?=some (.cells A t fr)):w.rangeAt g 0 A.toList:=fun j v hv=>by
 rw [cell_of_row w g (0+j) _ _ _ h,Nat.zero_add];simpa using hv
theorem mc (hT:aV) (K b:List Int) (p q:Option Addr) (n m c d:Nat) (hn:K.length=n) (Jc:b.length=m) (w:World) (hp:cX w p K) (hq:cX w q b) (hc:n≤c) (BI:c≤9223372036854775807) (hd:m≤d) (QD:d≤9223372036854775807) (Dp:K.length≤1000000000) (I0:b.length≤1000000000) (ht:cT w 0) :
  qc 71 #[.slice p n c,.slice q m d] w (fW K b w):=by
 subst hn;subst Jc;have HT:=qh hT;clear hT;have Ht:=qh ht;clear ht;have Hp:=qh hp;clear hp;have Hq:=qh hq;clear hq;have Hc:=qh (And.intro hc (And.intro BI (And.intro hd (And.intro QD (And.intro Dp I0)))));clear hc BI hd QD Dp I0;have Hz:=qh (gF K);obtain ⟨A,An,Ak,Au⟩:∃ A:Array Value,Hid (A=((hm K b).map (Value.int .u8)).toArray)∧Hid (A.size=32)∧Hid (A.all (·.oneCell')=true) :=
  ⟨_,rfl,by show _=_;simp [dS],all_oneCell_toArray (aw _)⟩
 obtain ⟨KB,Ju,Ia,NV⟩:∃ A:Array Value,Hid (A=((kb K).map (Value.int .u8)).toArray)∧Hid (A.size=64)∧Hid (A.all (·.oneCell')=true) :=
  ⟨_,rfl,by show _=_;simp [gF],all_oneCell_toArray (aw _)⟩
 obtain ⟨IN,Eg⟩:∃ IN,Hid (IN=ai.dg (xl 54 (kb K)++b)):=⟨_,rfl⟩;have Cl:Hid (IN.length=32):=by rw [Eg.out];exact gD _
 have Jr:Hid (ai.aY IN):=by rw [Eg.out];exact qE _
 obtain ⟨IA,FM,FN,Jq⟩:∃ A:Array Value,Hid (A=(IN.map (Value.int .u8)).toArray)∧Hid (A.size=32)∧Hid (A.all (·.oneCell')=true) :=
  ⟨_,rfl,by show _=_;simp [Cl.out],all_oneCell_toArray (aw _)⟩
 have Hy:Hid (hm K b=ai.dg (xl 92 (kb K)++IN)):=by show _=_;rw [ae7,Eg.out]
 go_enter func71,ntmps71;go_upto_region 2 with (first
  | (go_at_call 113;refine (pw HT.out K p _ _ (Hp.out.av (qb w _)) (by have:=Hc.out;omega) (by have:=Hc.out;omega) (by have:=Hc.out;omega) (Ht.out.below (qb w _) Ht.out.lt)).mono ?_;rintro e w1 ⟨rfl,Ag⟩;have Ai:=qh Ag;clear Ag;rw [← Ju.out])
  | ((with_reducible refine ak _ _ _ _ _ _ _ ?_ ?_ (heap_alloc_new _ _) (ae Tryz.eI Ia) ?_ NV.out ?_);(exact rfl);(exact rfl);(rw [Ia.out];rfl);intro w2 g2 BB))
 have ER:Hid (qw w w1):=(qb w _).trans (Ai.out.mono (by simp));have CN:w.heap.size<w1.heap.size:=by have:=Ai.out.size;simp at this;omega
 have RES1:w1.heap[w.heap.size]?=some (.cells (List.replicate 32 (Value.int .u8 0)).toArray 39 (0,0)):=by
  rw [Ai.out.block _ (by simp)];exact heap_alloc_new w _
 have GY:Hid (qw w w2):=BB.below (ER.out.alloc (by omega) _) (by omega);have RES2:Hid (w2.heap[w.heap.size]?=some (.cells (List.replicate 32 (Value.int .u8 0)).toArray 39 (0,0))):=by
  show _=_;rw [BB.block _ (by omega),heap_alloc_old _ _ CN];exact RES1
 have Ex:w1.heap.size<w2.heap.size:=by rw [BB.size];simp
 clear ER RES1 BB Ai;generalize w1.heap.size=G1 at *;go_upto_region 3 with (first
  | ((with_reducible refine ay _ _ _ _ _ _ _ ?_ g2.out underlying158 ?_ (ae Tryz.eI Ia) ?_);(exact rfl);(exact rfl);rw [Ju.out])
  | (go_at_call 115;refine (ot 54 (kb K) Hz.out _).mono ?_;rintro e w3 ⟨rfl,As⟩;have GC:Hid (qw w w3):=GY.out.trans (As.mono GY.out.size);have NC:=qh As;clear As)
  | (go_at_call 114;refine (ni HT.out (xl 54 (kb K)) b (by rw [pe,Hz.out]) (pR _ _) q b.length _ rfl _ (Hq.out.av GC.out) (by have:=Hc.out;omega) (by have:=Hc.out;omega) (by have:=Hc.out;omega) (Ht.out.below GC.out Ht.out.lt)).mono ?_;rintro e w4 ⟨rfl,AJ⟩;rw [← Eg.out,← FM.out];have PJ:Hid (qw w w4):=GC.out.trans (AJ.mono GC.out.size);have ND:Hid (qw w2 w4):=NC.out.trans (AJ.mono NC.out.size);clear AJ)
  | ((with_reducible refine ak _ _ _ _ _ _ _ ?_ ?_ (heap_alloc_new _ _) (ae Tryz.ar FN) ?_ Jq.out ?_);(exact rfl);(exact rfl);(rw [FN.out];rfl);intro w5 g5 AZ))
 have Nw:w2.heap.size≤w4.heap.size:=ND.out.size;have MG:Hid (qw w w5):=AZ.below (PJ.out.alloc (by omega) _) (by omega);have old5:∀ k,k<w2.heap.size→w5.heap[k]?=w2.heap[k]?:=fun k hk=>by
  rw [AZ.block _ (by omega),heap_alloc_old _ _ (by omega),ND.out.block _ hk]
 have RES5:Hid (w5.heap[w.heap.size]?=some (.cells (List.replicate 32 (Value.int .u8 0)).toArray 39 (0,0))):=by
  show _=_;rw [old5 _ (by omega)];exact RES2.out
 have K5:Hid (w5.heap[G1]?=some (.cells KB 158 (0,0))):=by
  show _=_;rw [old5 _ (by omega)];exact g2.out
 have I5:Hid (cX w5 (some ⟨w4.heap.size,0,none⟩) IN):=by
  have h:=g5.out;rw [FM.out] at h;exact cU h Jr.out
 clear old5 RES2 g2 g5 AZ NC ND GY GC PJ;generalize w4.heap.size=G4 at *;refine wp_region_any (by kernel_rfl) ?_;change wpAny _ _ _ _ _ _ _ (World.drew _)
 replace MG:Hid (qw w w5.drew):=MG.out.drew
 replace RES5:Hid (w5.drew.heap[w.heap.size]?=some (.cells (List.replicate 32 (Value.int .u8 0)).toArray 39 (0,0))):=RES5.out
 replace K5:Hid (w5.drew.heap[G1]?=some (.cells KB 158 (0,0))):=K5.out
 replace I5:Hid (cX w5.drew (some ⟨G4,0,none⟩) IN):=I5.out
 generalize w5.drew=w6 at *;refine au 2 15 ?_ rfl (by kernel_rfl) (by kernel_rfl) (by kernel_rfl) (fun _ _ _ h=>h) (by rfl) ?_ ?_
 rotate_left
 ·(intro w;go_simp;try (with_reducible rfl))
 try simp only [Act.put,aQ,aR,aO]
 refine aU 0 (by kernel_rfl) ?_;refine dV 0 158 (.tmp 5) rfl G1 0 KB.toList _ rfl (fi K5.out) underlying158 rfl (by rw [Array.length_toList];exact ae Tryz.eI Ia) ?_;try simp only [Act.put,aQ,aR,aO]
 rw [Array.toArray_toList,Ju.out];refine aU 1 (by kernel_rfl) ?_;refine wpOp_step rfl (fun Kc Af=>?_);go_simp;refine (ot 92 (kb K) Hz.out _).mono ?_;rintro e w7 ⟨rfl,Bh⟩;have NG:Hid (qw w w7):=MG.out.trans (Bh.mono MG.out.size);have I7:Hid (cX w7 (some ⟨G4,0,none⟩) IN):=I5.out.av Bh;have RES7:Hid (w7.heap[w.heap.size]?=some (.cells (List.replicate 32 (Value.int .u8 0)).toArray 39 (0,0))):=(Bh.block _ (lt_of_block RES5.out)).trans RES5.out;clear Bh;dsimp only;refine Af _ _ ?_;clear Af Kc;try simp only [Act.put,aQ,aR,aO]
 refine aU 3 (by kernel_rfl) ?_;refine wpOp_step rfl (fun Kc Af=>?_);go_simp;refine (ni HT.out (xl 92 (kb K)) IN (by rw [pe,Hz.out]) (pR _ _) (some ⟨G4,0,none⟩) 32 32 Cl.out _ I7.out (by omega) (by omega) (by have:=Cl.out;omega) (Ht.out.below NG.out Ht.out.lt)).mono ?_;rintro e w8 ⟨rfl,BV⟩;rw [← Hy.out,← An.out];have Rm:Hid (qw w w8):=NG.out.trans (BV.mono NG.out.size);have RES8:Hid (w8.heap[w.heap.size]?=some (.cells (List.replicate 32 (Value.int .u8 0)).toArray 39 (0,0))):=(BV.block _ (lt_of_block RES7.out)).trans RES7.out;clear BV;dsimp only;refine Af _ _ ?_;clear Af Kc;try simp only [Act.put,aQ,aR,aO]
 refine aU 4 (by kernel_rfl) ?_;refine bD 4 39 (.tmp 4) (.tmp 16) rfl w.heap.size 0 39 (List.replicate 32 (Value.int .u8 0)) A rfl rfl RES8.out (ae Tryz.ar Ak) (by rw [Ak.out];simp) Au.out ?_;intro w9 g9 AW;try simp only [Act.put,aQ,aR,aO]
 refine wpAny_done (by kernel_rfl) ?_ _;have G9:Hid (w9.heap[w.heap.size]?=some (.cells A 39 (0,0))):=by
  have h:=g9.out;have e:splice (List.replicate 32 (Value.int .u8 0)) 0 A.toList=A.toList:=by
   unfold splice;rw [List.take_zero,List.nil_append,Array.length_toList,Ak.out,List.drop_of_length_le (by simp),List.append_nil]
  rw [e,Array.toArray_toList] at h;exact h
 clear g9;go_wp2;refine bodyPost_ret (results_cell_row rfl _ _ w.heap.size 39 A (0,0) _ rfl G9.out underlying39 rfl (ae Tryz.ar Ak)) rfl ⟨?_,AW.below Rm.out qn⟩;rw [An.out]
end
section
open Go.RowKit
theorem xw {w:World} {B n:Nat} {v:Value} {l:List Int} (h:w.ownsRow B 5 1 v n (aC l)) (hb:ai.aY l):∃ p c,v = .slice p l.length c∧cX w p l∧l.length≤c∧c≤9223372036854775807:=by
 have hl:l.length=n:=by
  have:=h.1;unfold aC at this;simpa using this
 by_cases h0:0<n
 ·obtain ⟨g,c,rfl⟩:=du h h0;obtain ⟨h1,h2⟩:=qI h;refine ⟨some ⟨g,0,none⟩,c,by rw [hl],⟨hb,fun _=>⟨g,0,rfl,fun j hj=>?_⟩⟩,by omega,by unfold maxLen at h2;omega⟩;rw [Nat.zero_add];exact dc h j (by omega)
 ·rcases h.2 with ⟨rfl,_⟩ | ⟨g,cap,cur,rfl,_,_,h1,h2,_⟩
  ·exact ⟨none,0,by rw [hl];congr 1;omega,⟨hb,fun h3=>by omega⟩,by omega,by omega⟩
  ·exact ⟨some ⟨g,0,none⟩,cap,by rw [hl],⟨hb,fun h3=>by omega⟩,by omega,by unfold maxLen at h2;omega⟩
end
end Go.Proofs.YthgjfjmampmiiaaGreatDoor

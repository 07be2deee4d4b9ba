/-
  SeA, SeB, SeC, SeD, SeE, SeS (merged)
-/
import Derived.Test.YtnnalemboeccbaaGreatDoorA6
import Derived.Lib.AppendZeros
import Derived.Laws.AppendOwnNone
import Derived.Laws.Tables
import Derived.BigQuiet
namespace Go.Proofs.YtnnalemboeccbaaGreatDoor

/-! SeA:  -/
section
open Go.RowKit
namespace Seal
def be8 (n:Int):List Int:=[n / 72057594037927936 % 256,n / 281474976710656 % 256,n / 1099511627776 % 256,n / 4294967296 % 256,n / 16777216 % 256,n / 65536 % 256,n / 256 % 256,n % 256]
def tb (n:Int):Nat→List Int
 | 0=>List.replicate 8 0
 | k+1=>(tb n k).set (7-k) (n / 256 ^ k % 256)
theorem tb_len (n:Int) (k:Nat):(tb n k).length=8:=by
 induction k with
 | zero=>rfl
 | succ k ih=>rw [tb,List.length_set,ih]
theorem tb_all (n:Int):tb n 8=be8 n:=by simp [tb,be8]
theorem be8_len (n:Int):(be8 n).length=8:=rfl
theorem be8_byt (n:Int):Sha.Byt (be8 n):=fun x hx=>by
 unfold be8 at hx
 simp only [List.mem_cons,List.not_mem_nil,or_false] at hx
 rcases hx with rfl | rfl | rfl | rfl | rfl | rfl | rfl | rfl<;>omega
theorem tb_zero (n:Int):(tb n 0).map (Value.int .u8)=List.replicate 8 (Value.int .u8 0):=by simp [tb]
attribute [irreducible] be8 tb
end Seal
def TbSay (n:Int) (w:World) (e:Ending) (w':World):Prop :=
 ∃ g,e = .returned (.slice (some ⟨g,0,none⟩) 8 8)∧Hid (BAt w' (some ⟨g,0,none⟩) (Seal.be8 n))∧Below w.heap.size w w'
set_option maxHeartbeats 1000000 in
set_option maxRecDepth 100000 in
theorem toBytes_any (n:Int) (hn:0≤n∧n≤9223372036854775807) (w:World) :
  Calls Tryz.prog 248 #[.int .i64 n] w (TbSay n w):=by
 go_enter Tryz.func248,Tryz.ntmps248
 go_upto_region 2 with ((with_reducible refine make_at _ 5 _ _ (.int .u8 0) 1 8 8 ?_ ?_ ?_ ?_ rfl ?_ ?_ ?_ ?_);(exact rfl);(exact rfl);(exact Tryz.underlying22);(exact Tryz.info_u8);omega;omega;omega;intro w1 G1 hb1 hs1)
 have G1':Hid (w1.heap[w.heap.size]?=some (.cells ((Seal.tb n 0).map (Value.int .u8)).toArray 5 (0,0))):=by
  show _=_;rw [Seal.tb_zero];exact G1.out
 have HB1:=Lib.hid hb1
 clear hb1 G1 hs1
 go_wp2
 go_loopw [0,8] (fun v0 v8 wr=>∃ (k:Nat) (z:Int),k≤8∧v8 = .int .i64 k∧v0 = .int .i64 z∧0≤z∧z≤9223372036854775807∧Hid (z=n / 256 ^ k)∧Hid (wr.heap[w.heap.size]?=some (.cells ((Seal.tb n k).map (Value.int .u8)).toArray 5 (0,0)))∧Hid (Below w.heap.size w wr)) (fun _ v8 _=>8-(intOf v8).toNat)
 case atStart=>exact ⟨0,n,Nat.zero_le _,rfl,rfl,hn.1,hn.2,by show _=_;simp,G1'.out,HB1.out⟩
 case round =>
  clear G1' HB1
  obtain ⟨k,z,hk,rfl,rfl,hz1,hz2,HZ,HG,HB⟩:=hrel
  by_cases hlt:k<8
  ·have hw2:IntKind.i64.wrap (7-(k:Int))=7-(k:Int):=IntWalk.i64_in _ ⟨by omega,by omega⟩
   have hx1:0≤7-(k:Int):=by omega
   have hx2:7-(k:Int)<8:=by omega
   have hx3:(7-(k:Int)).toNat=7-k:=by omega
   have hx4:(k:Int)<8:=by omega
   have c0:=row_cell HG.out (7-k) (by rw [Seal.tb_len];omega)
   have f0:=frozen_of_row wr w.heap.size (7-k) _ _ HG.out
   generalize (Seal.tb n k).getD (7-k) 0=y0 at c0
   go_wp2
   refine ⟨⟨k+1,z / 256,by omega,by go_num,?_,by omega,by omega,?_,?_,?_⟩,by simp [intOf];omega⟩
   ·rfl
   ·show _=_
    rw [HZ.out,Int.ediv_ediv_of_nonneg (Int.le_of_lt (Int.pow_pos (by decide)))]
    rfl
   ·have h2:=set_u8' (i:=7-k) (x:=z % 256) HG.out
    rw [HZ.out] at h2
    rw [HZ.out]
    unfold Seal.tb
    exact h2
   ·exact HB.out.setCell (by simp) _
  ·obtain rfl:k=8:=by omega
   clear hlt
   go_wp2
   go_ret
   refine ⟨w.heap.size,rfl,?_,HB.out⟩
   have h:=HG.out
   rw [Seal.tb_all] at h
   exact bat_row h (Seal.be8_byt n)
set_option maxHeartbeats 1000000 in
set_option maxRecDepth 100000 in
theorem grow_nil (n:Nat) (hn:n≤1000000000) (w:World) :
  Calls Tryz.prog 160 #[.slice none 0 0,.int .i64 n] w fun e w'=>∃ v,e = .returned v∧w'.ownsRow w.heap.size 5 1 v 0 (U8s [])∧Below w.heap.size w w':=by
 obtain ⟨i0,hi,hz0,hz1,hz2⟩:=info_parts Tryz.info_u8
 have h1:¬ ((n:Int)<0):=by omega
 by_cases h0:0<n
 ·have h0':(n:Int)>0:=by omega
  have hcm:=grownCap_le_maxLen w n 0 5 (by unfold maxLen;omega)
  have hcn:n≤grownCap w n 0 5:=grownCap_ge w _ _ _
  have hr:∀ ty,(Builtin.append_ #[22,3] ty #[.slice none 0 0,.int .i64 n]).run Tryz.prog w=_:=fun ty =>
   Lib.run_append_nil_zeros w 22 3 ty 5 i0 (.int .u8 0) .i64 .i64 Tryz.underlying22 Tryz.underlying3 hi hz0 n h0 (by omega) (by omega) (by rw [hz2];omega)
  have hrow:∀ c,c≤maxLen→n≤c→(w.drew.alloc (.cells (Builtin.zeroCells (Value.int .u8 0).cells n++Builtin.zeroCells (Value.int .u8 0).cells (c-n)) 5)).ownsRow w.heap.size 5 1 (.slice (some ⟨w.heap.size,0,none⟩) 0 c) 0 (U8s []):=fun c hc hnc =>
   ⟨by unfold U8s;rfl,Or.inr ⟨w.heap.size,c,_,rfl,Nat.le_refl _,heap_alloc_new w.drew _,Nat.zero_le _,hc,by simp only [Array.size_append,size_zeroCells];show n*1+(c-n)*1=c*1;omega,by unfold U8s;simp⟩⟩
  have hbel:∀ C,Below w.heap.size w (w.drew.alloc C):=fun C=>(Below.refl _ w).drew.alloc (Nat.le_refl _) C
  generalize grownCap w n 0 5=G at *
  go_enter Tryz.func160,Tryz.ntmps160
  go_wp2_with (first
   | (at_builtin;refine Lib.wpList_append_run _ rfl _ _ _ _ rfl _ _ rfl rfl _ _ (hr _) ?_)
   | go_in)
  go_ret
  exact ⟨_,rfl,hrow G hcm hcn,hbel _⟩
 ·obtain rfl:n=0:=by omega
  go_enter Tryz.func160,Tryz.ntmps160
  go_wp2
  go_ret
  exact ⟨_,rfl,by unfold U8s;exact World.ownsRow_nil _ _ _ _,Below.refl _ _⟩
end

/-! SeB:  -/
section
open Go.RowKit
structure Bs (w:World) (p:Option Addr) (c:Nat) (L:List Int):Prop where
 bat:BAt w p L
 cap:L.length≤c∧c≤9223372036854775807
 nil:p=none→L = []∧c=0
theorem Bs.old {w x:World} {p:Option Addr} {c:Nat} {L:List Int} (h:Bs w p c L) (hb:Below w.heap.size w x):Bs x p c L:=⟨h.bat.old hb,h.cap,h.nil⟩
theorem Bs.byt {w:World} {p:Option Addr} {c:Nat} {L:List Int} (h:Bs w p c L):Sha.Byt L:=h.bat.1
theorem bs_none (w:World):Bs w none 0 []:=⟨⟨fun x hx=>by simp at hx,fun h=>by simp at h⟩,⟨Nat.le_refl _,by omega⟩,fun _=>⟨rfl,rfl⟩⟩
theorem bs_row {w:World} {g c:Nat} {L:List Int} (h:BAt w (some ⟨g,0,none⟩) L) (hc:L.length≤c∧c≤9223372036854775807):Bs w (some ⟨g,0,none⟩) c L:=⟨h,hc,fun e=>by cases e⟩
theorem own_bs {w:World} {B n:Nat} {v:Value} {l:List Int} (h:w.ownsRow B 5 1 v n (U8s l)) (hb:Sha.Byt l):∃ p c,v = .slice p l.length c∧Bs w p c l∧l.length=n:=by
 have hl:l.length=n:=by
  have:=h.1
  unfold U8s at this
  simpa using this
 rcases h.2 with ⟨rfl,rfl⟩ | ⟨g,cap,cur,rfl,_,_,h1,h2,_⟩
 ·obtain rfl:l = []:=List.eq_nil_of_length_eq_zero hl
  exact ⟨none,0,rfl,bs_none w,rfl⟩
 ·refine ⟨some ⟨g,0,none⟩,cap,by rw [hl],bs_row ⟨hb,fun h0=>⟨g,0,rfl,fun j hj=>?_⟩⟩ ⟨by omega,by unfold maxLen at h2;omega⟩,hl⟩
  rw [Nat.zero_add]
  exact u8_at h j (by omega)
theorem bs_cells {w:World} {ad:Addr} {R:List Int} (h:BAt w (some ad) R):∀ j u,(R.map (Value.int .u8))[j]?=some u→w.cell? (ad.add j)=some u:=fun j u hj=>by
 have hjl:j<R.length:=by have:=(List.getElem?_eq_some_iff.1 hj).1;simpa using this
 obtain ⟨ab,ao,h1,h2⟩:=h.2 (by omega)
 cases h1
 rw [Addr.add_mid,h2 j hjl]
 rw [List.getElem?_map,List.getElem?_eq_getElem hjl] at hj
 rw [List.getD_eq_getElem?_getD,List.getElem?_eq_getElem hjl]
 simpa using hj
theorem append_bts {ops:Array Oper} {rest:List Oper} {a:Act} {w:World} {Q:Exit→Act→World→Prop} {D:Option Tmp} {T:TypeId} {ps:String} {af:Array Edge} (s x:Operand) (ys:List Int) (base:Nat) (v:Value) (n:Nat) (l:List Int) (p:Option Addr) (m c:Nat) (hs:a.eval s=v)
  (hx:a.eval x = .slice p m c) (hm:ys.length=m) (hc:Bs w p c ys) (hown:w.ownsRow base 5 1 v n (U8s l)) (hn:n+m≤1000000000000) (hb:base≤w.heap.size)
  (h:∀ v' w',w'.ownsRow base 5 1 v' (n+m) (U8s (l++ys))→w.grownBy w' v.ownBlock→wpList Tryz.prog ops Q rest (a.put D v') w') :
  wpList Tryz.prog ops Q ({ dst:=D,op:=.call { callee:=.builtin .append,args:=#[s,x],argTypes:=#[22,22] },type:=T,pos:=ps,after:=af,guard:=none } :: rest) a w:=by
 subst hm
 obtain ⟨i0,hi,hz0,hz1,hz2⟩:=info_parts Tryz.info_u8
 cases p with
 | none =>
  obtain ⟨rfl,rfl⟩:=hc.nil rfl
  refine wpList_append_own_none rfl s x 22 rfl base 5 i0 1 Tryz.underlying22 hi v n (U8s l) hs hown hx ?_
  refine h v w (by rw [List.append_nil];exact hown) ⟨rfl,rfl,rfl,Nat.le_refl _,fun _ _ _=>rfl⟩
 | some ad =>
  refine wpList_append_own _ rfl s x 22 rfl base 5 i0 (.int .u8 0) 1 1 Tryz.underlying22 hi hz0 hz1 hz2 rfl (by decide) v n (U8s l) hs hown ad ys.length c (ys.map (Value.int .u8)) hx (by simp) (bs_cells hc.bat) (bytes_one _) (by unfold maxLen;omega) (by omega) hb ?_
  intro v' w' h1 h2 _
  refine h v' w' ?_ h2
  have e:U8s l++ys.map (Value.int .u8)=U8s (l++ys):=by unfold U8s;simp
  rw [← e]
  exact h1
namespace Seal
def cat (L:Nat→List Int):Nat→List Int
 | 0=>[]
 | k+1=>cat L k++L k
theorem cat_le (L:Nat→List Int):∀ m k,k≤m→(cat L k).length≤(cat L m).length
 | 0,k,h=>by
  obtain rfl:k=0:=(by omega)
  exact Nat.le_refl _
 | m+1,k,h=>by
  by_cases e:k=m+1
  ·subst e;exact Nat.le_refl _
  ·have:=cat_le L m k (by omega)
   rw [cat,List.length_append]
   omega
theorem cat_len (L:Nat→List Int) (k:Nat):(cat L (k+1)).length=(cat L k).length+(L k).length:=by rw [cat,List.length_append]
theorem cat_snoc (L:Nat→List Int) (k:Nat):cat L k++L k=cat L (k+1):=rfl
attribute [irreducible] cat
end Seal
set_option maxHeartbeats 1000000 in
set_option maxRecDepth 100000 in
theorem concat_any (P:Nat→Option Addr) (C:Nat→Nat) (L:Nat→List Int) (m g:Nat) (hm:m≤1000) (w:World) (hc:∀ k,k<m→w.cell? ⟨g,k,none⟩=some (.slice (P k) (L k).length (C k))) (hb:∀ k,k<m→Bs w (P k) (C k) (L k)) (hl:(Seal.cat L m).length≤1000000000) :
  Calls Tryz.prog 123 #[.slice (some ⟨g,0,none⟩) m m] w fun e w'=>∃ v,e = .returned v∧w'.ownsRow w.heap.size 5 1 v (Seal.cat L m).length (U8s (Seal.cat L m))∧Below w.heap.size w w':=by
 have HC:=Lib.hid hc;clear hc
 have HB:=Lib.hid hb;clear hb
 have HL:Hid (∀ k,k≤m→(Seal.cat L k).length≤1000000000):=fun k hk=>Nat.le_trans (Seal.cat_le L m k hk) hl
 have HG:Hid (∀ n:Nat,n≤1000000000→∀ w,Calls Tryz.prog 160 #[.slice none 0 0,.int .i64 n] w fun e w'=>∃ v,e = .returned v∧w'.ownsRow w.heap.size 5 1 v 0 (U8s [])∧Below w.heap.size w w'):=fun n hn w=>grow_nil n hn w
 go_enter Tryz.func123,Tryz.ntmps123
 go_wp2
 go_loopw [3,11] (fun v3 v11 wr=>∃ k:Nat,k≤m∧v11 = .int .i64 k∧v3 = .int .i64 ((Seal.cat L k).length:Nat)∧w=wr) (fun _ v11 _=>m-(intOf v11).toNat)
 case atStart=>exact ⟨0,Nat.zero_le _,rfl,by unfold Seal.cat;rfl,rfl⟩
 case round =>
  obtain ⟨k,hk,rfl,rfl,rfl⟩:=hrel
  have hlk:=HL.out k hk
  by_cases hlt:k<m
  ·have c0:=HC.out k hlt
   have hl1:=HL.out (k+1) (by omega)
   have hle:=Seal.cat_len L k
   have hn0:0≤(k:Int):=by omega
   have hn1:(k:Int)<(m:Int):=by omega
   have hlL:(L k).length≤1000000000:=by omega
   generalize (Seal.cat L k).length=N0 at *
   generalize (L k).length=N2 at *
   have hx0:¬ ((N0:Int)+(N2:Int)<0):=by omega
   go_wp2
   exact ⟨⟨k+1,by omega,by go_num,by rw [hle,Int.natCast_add],trivial⟩,by simp [intOf];omega⟩
  ·obtain rfl:k=m:=by omega
   clear hlt
   have hge:¬ ((k:Int)<(k:Int)):=by omega
   obtain ⟨N,hN⟩:∃ N,(Seal.cat L k).length=N:=⟨_,rfl⟩
   have hN1:N≤1000000000:=by omega
   rw [hN]
   go_wp2_with (go_at_call 160;refine (HG.out N hN1 _).mono ?_;rintro e w1 ⟨v1,rfl,ho1,hb1⟩;have HO1:=Lib.hid ho1;have HB1:=Lib.hid hb1;clear ho1 hb1)
   go_loopw [6,27] (fun v6 v27 wr=>∃ j:Nat,j≤k∧v27 = .int .i64 j∧Hid (wr.ownsRow w.heap.size 5 1 v6 (Seal.cat L j).length (U8s (Seal.cat L j)))∧Hid (Below w.heap.size w wr)) (fun _ v27 _=>k-(intOf v27).toNat)
   case atStart =>
    refine ⟨0,Nat.zero_le _,rfl,?_,HB1.out⟩
    show World.ownsRow _ _ _ _ _ _ _
    unfold Seal.cat
    exact HO1.out
   case round =>
    clear HO1 HB1
    obtain ⟨j,hj,rfl,HO,HBl⟩:=hrel
    by_cases hlt:j<k
    ·have c0:=(HBl.out.cell (World.block_lt_of_cell? w _ (HC.out j hlt))).trans (HC.out j hlt)
     have hl0:=HL.out j hj
     have hl1:=HL.out (j+1) (by omega)
     have hle:=Seal.cat_len L j
     have hn0:0≤(j:Int):=by omega
     have hn1:(j:Int)<(k:Int):=by omega
     have hsz:=HBl.out.size
     have HBS:Hid (Bs wr (P j) (C j) (L j)):=(HB.out j hlt).old HBl.out
     go_wp2_with (first
      | (at_builtin;refine append_bts _ _ (L j) w.heap.size _ _ _ (P j) _ (C j) rfl rfl rfl HBS.out HO.out (by omega) hsz ?_;intro v5 w5 ho5 hg5;have HO5:=Lib.hid ho5;have HG5:=Lib.hid hg5;clear ho5 hg5)
      | go_in)
     refine ⟨⟨j+1,by omega,by go_num,?_,?_⟩,by simp [intOf];omega⟩
     ·show World.ownsRow _ _ _ _ _ _ _
      have h:=HO5.out
      rw [← hle,Seal.cat_snoc] at h
      exact h
     ·exact HBl.out.grown HG5.out hsz (fun q hq=>(HO.out.lt q hq).1)
    ·obtain rfl:j=k:=by omega
     have hge:¬ ((j:Int)<(j:Int)):=by omega
     clear hlt
     go_wp2
     go_ret
     refine ⟨_,rfl,?_,HBl.out⟩
     have h:=HO.out
     rw [hN] at h
     exact h
end

/-! SeC:  -/
section
open Go.RowKit
def Boxed (w:World) (g c:Nat) (M:List Int):Prop :=
 w.heap[g]?=some (.cells (#[Value.pointer (some ⟨c,0,none⟩)]++(M.map (Value.int .u8)).toArray) 97 (0,0))
theorem Boxed.old {w x:World} {g c:Nat} {M:List Int} (h:Boxed w g c M) (hb:Below w.heap.size w x):Boxed x g c M:=(hb.block g (lt_of_block h)).trans h
theorem Boxed.first {w:World} {g c:Nat} {M:List Int} (h:Boxed w g c M):w.cell? ⟨g,0,none⟩=some (.pointer (some ⟨c,0,none⟩)):=by
 rw [cell_of_row w g 0 _ _ _ h]
 simp
theorem Boxed.key {w:World} {g c:Nat} {M:List Int} (h:Boxed w g c M) (hM:Sha.Byt M):BAt w (some ⟨g,1,none⟩) M :=
 ⟨hM,fun _=>⟨g,1,rfl,fun j hj=>by
  rw [cell_of_row w g (1+j) _ _ _ h,Array.getElem?_append]
  rw [if_neg (by simp),show 1+j-(#[Value.pointer (some ⟨c,0,none⟩)]:Array Value).size=j by simp]
  simp [List.getD_eq_getElem?_getD,hj]⟩⟩
set_option maxHeartbeats 1000000 in
set_option maxRecDepth 100000 in
theorem sumOf_any (hT:TakeSaid) (M:List Int) (hM32:M.length=32) (hMB:Sha.Byt M) (P:Nat→Option Addr) (C:Nat→Nat) (L:Nat→List Int) (m g c q:Nat) (hm1:m≤1000) (w:World) (hg:Boxed w g c M) (hc:∀ k,k<m→w.cell? ⟨q,k,none⟩=some (.slice (P k) (L k).length (C k))) (hb:∀ k,k<m→Bs w (P k) (C k) (L k)) (hl:(Seal.cat L m).length≤1000000000) (hLB:Sha.Byt (Seal.cat L m)) (ht:Tab w 1) :
  Calls Tryz.prog 247 #[.pointer (some ⟨g,0,none⟩),.slice (some ⟨q,0,none⟩) m m] w (HmSay M (Seal.cat L m) w):=by
 have HT:=Lib.hid hT;clear hT
 have Ht:=Lib.hid ht;clear ht
 have Hg:=Lib.hid hg;clear hg
 have HCC:Hid (∀ x,Below w.heap.size w x→Calls Tryz.prog 123 #[.slice (some ⟨q,0,none⟩) m m] x fun e x'=>∃ p cp,e = .returned (.slice p (Seal.cat L m).length cp)∧Hid (Bs x' p cp (Seal.cat L m))∧Below x.heap.size x x'):=fun x hx=>by
  refine (concat_any P C L m q hm1 x (fun k hk=>(hx.cell (World.block_lt_of_cell? w _ (hc k hk))).trans (hc k hk)) (fun k hk=>(hb k hk).old hx) hl).mono ?_
  rintro e x' ⟨v,rfl,ho,hb'⟩
  obtain ⟨p,cp,rfl,hbs,_⟩:=own_bs ho hLB
  exact ⟨p,cp,rfl,hbs,hb'⟩
 clear hc hb
 obtain ⟨A,HA1,HA2,HA3⟩:∃ A:Array Value,Hid (A=((hm M (Seal.cat L m)).map (Value.int .u8)).toArray)∧Hid (A.size=32)∧Hid (A.all (·.oneCell')=true) :=
  ⟨_,rfl,by show _=_;simp [hm_len],all_oneCell_toArray (bytes_one _)⟩
 obtain ⟨N,HN⟩:∃ N,Hid ((Seal.cat L m).length=N):=⟨_,rfl⟩
 have hN1:N≤1000000000:=by have:=HN.out;omega
 generalize Seal.cat L m=R at *
 go_enter Tryz.func247,Tryz.ntmps247
 go_upto_region 1 with (fail)
 refine wp_region_any (by kernel_rfl) ?_
 change wpAny _ _ _ _ _ _ _ (w.alloc (.cells (List.replicate 32 (Value.int .u8 0)).toArray 39)).drew
 have B1:Hid (Below w.heap.size w (w.alloc (.cells (List.replicate 32 (Value.int .u8 0)).toArray 39)).drew):=((Below.refl _ w).alloc (Nat.le_refl _) _).drew
 have R1:Hid ((w.alloc (.cells (List.replicate 32 (Value.int .u8 0)).toArray 39)).drew.heap[w.heap.size]?=some (.cells (List.replicate 32 (Value.int .u8 0)).toArray 39 (0,0))):=heap_alloc_new w _
 generalize (w.alloc (.cells (List.replicate 32 (Value.int .u8 0)).toArray 39)).drew=w1 at *
 refine any_take_g 0 5 (.pointer (some ⟨g,0,none⟩)) rfl (by kernel_rfl) (by kernel_rfl) (by kernel_rfl) (fun _ _ _ h=>h) (by rfl) (by intro w;go_simp) ?_
 try simp only [Act.put,zq1,zq2,zq3]
 refine any_take_g 1 6 (.pointer (some ⟨g,0,none⟩)) rfl (by kernel_rfl) (by kernel_rfl) (by kernel_rfl) (fun _ _ _ h=>h) (by rfl) (by intro w;go_simp) ?_
 try simp only [Act.put,zq1,zq2,zq3]
 refine any_take_g 2 7 (.pointer (some ⟨g,1,none⟩)) rfl (by kernel_rfl) (by kernel_rfl) (by kernel_rfl) (fun _ _ _ h=>h) (by rfl) (by intro w;go_simp) ?_
 try simp only [Act.put,zq1,zq2,zq3]
 refine any_take_g 3 8 (.slice (some ⟨g,1,none⟩) 32 32) rfl (by kernel_rfl) (by kernel_rfl) (by kernel_rfl) (fun _ _ _ h=>h) (by rfl) (by intro w;go_simp) ?_
 try simp only [Act.put,zq1,zq2,zq3]
 refine any_take_g 4 9 (.slice (some ⟨q,0,none⟩) m m) rfl (by kernel_rfl) (by kernel_rfl) (by kernel_rfl) (fun _ _ _ h=>h) (by rfl) (by intro w;go_simp) ?_
 try simp only [Act.put,zq1,zq2,zq3]
 refine any_one 5 (by kernel_rfl) ?_
 refine wpOp_step rfl (fun Kc hKc=>?_)
 go_simp
 refine (HCC.out _ B1.out).mono ?_
 rintro e w2 ⟨p,cp,rfl,HBS,hb2⟩
 have B2:Hid (Below w.heap.size w w2):=B1.out.trans (hb2.mono B1.out.size)
 have R2:Hid (w2.heap[w.heap.size]?=some (.cells (List.replicate 32 (Value.int .u8 0)).toArray 39 (0,0))):=(hb2.block _ (lt_of_block R1.out)).trans R1.out
 clear hb2
 dsimp only
 refine hKc _ _ ?_
 clear hKc Kc
 try simp only [Act.put,zq1,zq2,zq3]
 rw [HN.out]
 refine any_one 6 (by kernel_rfl) ?_
 refine wpOp_step rfl (fun Kc hKc=>?_)
 go_simp
 refine (mac_of_any HT.out M R (some ⟨g,1,none⟩) p 32 N 32 cp hM32 HN.out _ ((Hg.out.old B2.out).key hMB) HBS.out.bat (by omega) (by omega) (by have:=HBS.out.cap;have:=HN.out;omega) HBS.out.cap.2 (by omega) (by have:=HN.out;omega) (Ht.out.below B2.out Ht.out.lt)).mono ?_
 rintro e w3 ⟨rfl,hb3⟩
 rw [← HA1.out]
 have B3:Hid (Below w.heap.size w w3):=B2.out.trans (hb3.mono B2.out.size)
 have R3:Hid (w3.heap[w.heap.size]?=some (.cells (List.replicate 32 (Value.int .u8 0)).toArray 39 (0,0))):=(hb3.block _ (lt_of_block R2.out)).trans R2.out
 clear hb3
 dsimp only
 refine hKc _ _ ?_
 clear hKc Kc
 try simp only [Act.put,zq1,zq2,zq3]
 refine any_one 7 (by kernel_rfl) ?_
 refine op_store 7 39 (.tmp 4) (.tmp 11) rfl w.heap.size 0 39 (List.replicate 32 (Value.int .u8 0)) A rfl rfl R3.out (row_size Tryz.sizeSum HA2) (by rw [HA2.out];simp) HA3.out ?_
 intro w9 g9 ch9
 try simp only [Act.put,zq1,zq2,zq3]
 refine wpAny_done (by kernel_rfl) ?_ _
 have G9:Hid (w9.heap[w.heap.size]?=some (.cells A 39 (0,0))):=by
  have h:=g9.out
  have e:splice (List.replicate 32 (Value.int .u8 0)) 0 A.toList=A.toList:=by
   unfold splice
   rw [List.take_zero,List.nil_append,Array.length_toList,HA2.out,List.drop_of_length_le (by simp),List.append_nil]
  rw [e,Array.toArray_toList] at h
  exact h
 clear g9
 go_wp2
 refine bodyPost_ret (results_cell_row rfl _ _ w.heap.size 39 A (0,0) _ rfl G9.out Tryz.underlying39 rfl (row_size Tryz.sizeSum HA2)) rfl ⟨?_,ch9.below B3.out (Nat.le_refl _)⟩
 rw [HA1.out]
namespace Seal
def tin (h:List Int) (e n:Int) (t:List Int):List Int:=be8 h.length++(h++(be8 e++(be8 n++t)))
theorem tin_len (h:List Int) (e n:Int) (t:List Int):(tin h e n t).length=h.length+t.length+24:=by
 unfold tin
 simp only [List.length_append,be8_len]
 omega
theorem tin_byt {h:List Int} {e n:Int} {t:List Int} (hh:Sha.Byt h) (ht:Sha.Byt t):Sha.Byt (tin h e n t) :=
 Sha.byt_append (be8_byt _) (Sha.byt_append hh (Sha.byt_append (be8_byt _) (Sha.byt_append (be8_byt _) ht)))
attribute [irreducible] tin
end Seal
end

/-! SeD:  -/
section
open Go.RowKit
def inR (n:Int):Bool:=decide (0≤n∧n≤1099511627776)
set_option maxRecDepth 100000 in
theorem inRange_any (n:Int) (w:World):Calls Tryz.prog 243 #[.int .i64 n] w fun e w'=>e = .returned (.bool (inR n))∧w'=w:=by
 by_cases h0:0≤n
 ·by_cases h1:n≤1099511627776
  ·rw [show inR n=true by unfold inR;simp [h0,h1]]
   have h0':n≥0:=h0
   go_enter Tryz.func243,Tryz.ntmps243
   go_wp2
   go_ret
   exact ⟨rfl,rfl⟩
  ·rw [show inR n=false by unfold inR;simp [h1]]
   have h0':n≥0:=h0
   go_enter Tryz.func243,Tryz.ntmps243
   go_wp2
   go_ret
   exact ⟨rfl,rfl⟩
 ·rw [show inR n=false by unfold inR;simp [h0]]
  have h0':¬ n≥0:=h0
  go_enter Tryz.func243,Tryz.ntmps243
  go_wp2
  go_ret
  exact ⟨rfl,rfl⟩
theorem sum5_any (hT:TakeSaid) (M:List Int) (hM32:M.length=32) (hMB:Sha.Byt M) (g c q:Nat) (p0 p1 p2 p3 p4:Option Addr) (n0 n1 n2 n3 n4 c0 c1 c2 c3 c4:Nat) (l0 l1 l2 l3 l4:List Int) (e0:l0.length=n0) (e1:l1.length=n1) (e2:l2.length=n2) (e3:l3.length=n3) (e4:l4.length=n4)
  (x:World) (hg:Boxed x g c M) (hq:x.heap[q]?=some (.cells #[.slice p0 n0 c0,.slice p1 n1 c1,.slice p2 n2 c2,.slice p3 n3 c3,.slice p4 n4 c4] 22 (0,0))) (h0:Bs x p0 c0 l0) (h1:Bs x p1 c1 l1) (h2:Bs x p2 c2 l2) (h3:Bs x p3 c3 l3) (h4:Bs x p4 c4 l4)
  (hl:n0+n1+n2+n3+n4≤1000000000) (ht:Tab x 1) :
  Calls Tryz.prog 247 #[.pointer (some ⟨g,0,none⟩),.slice (some ⟨q,0,none⟩) 5 5] x (HmSay M (l0++(l1++(l2++(l3++l4)))) x):=by
 have e:Seal.cat (fun k=>match k with | 0=>l0 | 1=>l1 | 2=>l2 | 3=>l3 | _=>l4) 5=l0++(l1++(l2++(l3++l4))):=by simp [Seal.cat]
 have h:=sumOf_any hT M hM32 hMB (fun k=>match k with | 0=>p0 | 1=>p1 | 2=>p2 | 3=>p3 | _=>p4) (fun k=>match k with | 0=>c0 | 1=>c1 | 2=>c2 | 3=>c3 | _=>c4) (fun k=>match k with | 0=>l0 | 1=>l1 | 2=>l2 | 3=>l3 | _=>l4) 5 g c q (by omega) x hg
  (fun k hk=>by
   rw [cell_of_row x q k _ _ _ hq]
   rcases k with _ | _ | _ | _ | _ | k
   ·simp [e0]
   ·simp [e1]
   ·simp [e2]
   ·simp [e3]
   ·simp [e4]
   ·omega)
  (fun k hk=>by
   rcases k with _ | _ | _ | _ | _ | k
   ·exact h0
   ·exact h1
   ·exact h2
   ·exact h3
   ·exact h4
   ·omega)
  (by rw [e];simp only [List.length_append];omega)
  (by rw [e];exact Sha.byt_append h0.byt (Sha.byt_append h1.byt (Sha.byt_append h2.byt (Sha.byt_append h3.byt h4.byt))))
  ht
 rw [e] at h
 exact h
set_option maxHeartbeats 2000000 in
set_option maxRecDepth 100000 in
theorem tag_any (hT:TakeSaid) (M:List Int) (hM32:M.length=32) (hMB:Sha.Byt M) (g c:Nat) (e n:Int) (he:0≤e∧e≤9223372036854775807) (hn:0≤n∧n≤9223372036854775807) (h t:List Int) (ph pt:Option Addr) (nh nt ch ct:Nat) (hnh:h.length=nh) (hnt:t.length=nt)
  (w:World) (hg:Boxed w g c M) (hh:Bs w ph ch h) (htt:Bs w pt ct t) (hl:nh+nt≤900000000) (htb:Tab w 1) :
  Calls Tryz.prog 245 #[.pointer (some ⟨g,0,none⟩),.int .i64 e,.int .i64 n,.slice ph nh ch,.slice pt nt ct] w (HmSay M (Seal.tin h e n t) w):=by
 have HT:=Lib.hid hT;clear hT
 have Ht:=Lib.hid htb;clear htb
 have Hg:=Lib.hid hg;clear hg
 have Hh:=Lib.hid hh;clear hh
 have Htt:=Lib.hid htt;clear htt
 have Hnh:=Lib.hid (And.intro hnh hnt);clear hnh hnt
 have Hl:=Lib.hid hl;clear hl
 have He:=Lib.hid he;clear he
 have Hn:=Lib.hid hn;clear hn
 have HT0:Hid (∀ x,Calls Tryz.prog 248 #[.int .i64 (nh:Nat)] x (TbSay (nh:Nat) x)):=fun x=>toBytes_any _ ⟨by omega,by have:=Hl.out;omega⟩ x
 have HT1:Hid (∀ x,Calls Tryz.prog 248 #[.int .i64 e] x (TbSay e x)):=fun x=>toBytes_any _ He.out x
 have HT2:Hid (∀ x,Calls Tryz.prog 248 #[.int .i64 n] x (TbSay n x)):=fun x=>toBytes_any _ Hn.out x
 obtain ⟨R,HR⟩:∃ R,Hid (R=Seal.tin h e n t):=⟨_,rfl⟩
 obtain ⟨A,HA1,HA2,HA3⟩:∃ A:Array Value,Hid (A=((hm M R).map (Value.int .u8)).toArray)∧Hid (A.size=32)∧Hid (A.all (·.oneCell')=true) :=
  ⟨_,rfl,by show _=_;simp [hm_len],all_oneCell_toArray (bytes_one _)⟩
 have HRR:Hid (Seal.be8 (nh:Nat)++(h++(Seal.be8 e++(Seal.be8 n++t)))=R):=by show _=_;rw [HR.out,← Hnh.out.1];unfold Seal.tin;rfl
 have B0:Hid (Below w.heap.size w (w.alloc (.cells (List.replicate 32 (Value.int .u8 0)).toArray 39))):=(Below.refl _ w).alloc (Nat.le_refl _) _
 have R0:Hid ((w.alloc (.cells (List.replicate 32 (Value.int .u8 0)).toArray 39)).heap[w.heap.size]?=some (.cells (List.replicate 32 (Value.int .u8 0)).toArray 39 (0,0))):=heap_alloc_new w _
 rw [show HmSay M (Seal.tin h e n t) w=HmSay M R w by rw [HR.out]]
 go_enter Tryz.func245,Tryz.ntmps245
 go_wp2_with (first
  | (go_at_call 248;refine (HT0.out _).mono ?_;rintro e1 w1 ⟨g1,rfl,HX1,hb1⟩;have B1:Hid (Below w.heap.size w w1):=B0.out.trans (hb1.mono B0.out.size);have R1:=Lib.hid ((hb1.block _ (lt_of_block R0.out)).trans R0.out);clear hb1 HT0)
  | (go_at_call 248;refine (HT1.out _).mono ?_;rintro e2 w2 ⟨g2,rfl,HX2,hb2⟩;have B2:Hid (Below w.heap.size w w2):=B1.out.trans (hb2.mono B1.out.size);have R2:=Lib.hid ((hb2.block _ (lt_of_block R1.out)).trans R1.out);have HX12:Hid (BAt w2 (some ⟨g1,0,none⟩) (Seal.be8 (nh:Nat))):=HX1.out.old hb2;clear hb2 HT1)
  | (go_at_call 248;refine (HT2.out _).mono ?_;rintro e3 w3 ⟨g3,rfl,HX3,hb3⟩;have B3:Hid (Below w.heap.size w w3):=B2.out.trans (hb3.mono B2.out.size);have R3:=Lib.hid ((hb3.block _ (lt_of_block R2.out)).trans R2.out);have HX13:Hid (BAt w3 (some ⟨g1,0,none⟩) (Seal.be8 (nh:Nat))):=HX12.out.old hb3;have HX23:Hid (BAt w3 (some ⟨g2,0,none⟩) (Seal.be8 e)):=HX2.out.old hb3;clear hb3 HT2)
  | (go_at_call 247
     have B4:Hid (Below w3.heap.size w3 (w3.alloc (.cells #[.slice (some ⟨g1,0,none⟩) 8 8,.slice ph nh ch,.slice (some ⟨g2,0,none⟩) 8 8,.slice (some ⟨g3,0,none⟩) 8 8,.slice pt nt ct] 22))):=(Below.refl _ w3).alloc (Nat.le_refl _) _
     have B5:=Lib.hid (B3.out.trans (B4.out.mono B3.out.size))
     refine (sum5_any HT.out M hM32 hMB g c w3.heap.size (some ⟨g1,0,none⟩) ph (some ⟨g2,0,none⟩) (some ⟨g3,0,none⟩) pt 8 nh 8 8 nt 8 ch 8 8 ct (Seal.be8 (nh:Nat)) h (Seal.be8 e) (Seal.be8 n) t (Seal.be8_len _) Hnh.out.1 (Seal.be8_len _) (Seal.be8_len _) Hnh.out.2 _ (Hg.out.old B5.out) (heap_alloc_new w3 _)
      ((bs_row HX13.out ⟨by rw [Seal.be8_len];exact Nat.le_refl _,by omega⟩).old B4.out) (Hh.out.old B5.out) ((bs_row HX23.out ⟨by rw [Seal.be8_len];exact Nat.le_refl _,by omega⟩).old B4.out) ((bs_row HX3.out ⟨by rw [Seal.be8_len];exact Nat.le_refl _,by omega⟩).old B4.out) (Htt.out.old B5.out) (by have:=Hl.out;omega) (Ht.out.below B5.out Ht.out.lt)).mono ?_
     rw [HRR.out]
     rintro e6 w6 ⟨rfl,hb6⟩
     rw [← HA1.out]
     have B6:Hid (Below w.heap.size w w6):=B5.out.trans (hb6.mono B5.out.size)
     have R6:=Lib.hid ((hb6.block _ (Nat.lt_of_lt_of_le (lt_of_block R3.out) B4.out.size)).trans ((B4.out.block _ (lt_of_block R3.out)).trans R3.out))
     clear hb6)
  | ((with_reducible refine row_store _ _ _ _ _ _ _ ?_ ?_ R6.out (row_size Tryz.sizeSum HA2) ?_ HA3.out ?_);(exact rfl);(exact rfl);(rw [HA2.out];rfl);intro w7 G7 ch7))
 refine bodyPost_ret (results_cell_row rfl _ _ w.heap.size 39 A (0,0) _ rfl G7.out Tryz.underlying39 rfl (row_size Tryz.sizeSum HA2)) rfl ⟨?_,ch7.below B6.out (Nat.le_refl _)⟩
 rw [HA1.out]
end

/-! SeE:  -/
section
open Go.RowKit
theorem fill_off (off:Nat):∀ (l:List Value) (k:Nat) (Z:Array Value),off+k+l.length≤Z.size →
  (l.zipIdx k).foldl (fun (cs:Array Value) (x:Value × Nat)=>cs.setIfInBounds (off+x.2) x.1) Z=(Z.toList.take (off+k)++l++Z.toList.drop (off+k+l.length)).toArray
 | [],k,Z,_=>by simp
 | v :: l,k,Z,h=>by
  simp only [List.length_cons] at h
  rw [List.zipIdx_cons,List.foldl_cons]
  rw [fill_off off l (k+1) _ (by simp;omega)]
  apply Array.ext'
  have hk:off+k<Z.toList.length:=by simp;omega
  simp only [Array.toList_setIfInBounds,List.length_cons]
  have e1:(Z.toList.set (off+k) v).take (off+(k+1))=Z.toList.take (off+k)++[v]:=by
   rw [show off+(k+1)=off+k+1 by omega,List.take_add_one,List.getElem?_set_self hk,List.take_set_of_le (Nat.le_refl _)]
   rfl
  have e2:(Z.toList.set (off+k) v).drop (off+(k+1)+l.length)=Z.toList.drop (off+k+(l.length+1)):=by
   rw [List.drop_set_of_lt (by omega)]
   congr 1
   omega
  rw [e1,e2]
  simp
theorem fold_box (a:Option Addr) (A:Array Value) (hA:A.size=32) (z:List Value) (hz:z.length=32) :
  Array.foldl (fun (cs:Array Value) (x:Value × Nat)=>cs.setIfInBounds (1+x.snd) x.fst) (Value.pointer a :: z).toArray (A.zipIdx 0) 0 32 = #[.pointer a]++A:=by
 have h:=fill_off 1 A.toList 0 (Value.pointer a :: z).toArray (by simp;omega)
 have e:Array.foldl (fun (cs:Array Value) (x:Value × Nat)=>cs.setIfInBounds (1+x.snd) x.fst) (Value.pointer a :: z).toArray (A.zipIdx 0) 0 32=Array.foldl (fun (cs:Array Value) (x:Value × Nat)=>cs.setIfInBounds (1+x.snd) x.fst) (Value.pointer a :: z).toArray (A.zipIdx 0):=by rw [show (A.zipIdx 0).size=32 by simp [hA]]
 rw [e,← Array.foldl_toList,Array.toList_zipIdx,h]
 apply Array.ext'
 simp [hA,hz]
end

/-! SeS:  -/
section
open Go.RowKit
namespace Same
theorem ofInt_u8 (u:Int) (h:0≤u∧u≤255):(BitVec.ofInt 8 u).toNat=u.toNat:=by
 rw [BitVec.toNat_ofInt]
 omega
theorem wrap_u8 (n:Nat) (h:n<256):IntKind.u8.wrap (n:Int)=n:=IntWalk.u8_in _ (by omega)
theorem or_zero (u v:Int) (hu:0≤u∧u≤255) (hv:0≤v∧v≤255):bits .or .u8 u v=0↔u=0∧v=0:=by
 have e:bits .or .u8 u v=(((BitVec.ofInt 8 u ||| BitVec.ofInt 8 v).toNat:Nat):Int):=by
  show IntKind.u8.wrap (((BitVec.ofInt 8 u ||| BitVec.ofInt 8 v).toNat:Nat):Int)=_
  exact wrap_u8 _ (BitVec.isLt _)
 rw [e]
 constructor
 ·intro h
  have h0:BitVec.ofInt 8 u ||| BitVec.ofInt 8 v=0#8:=BitVec.eq_of_toNat_eq (by simpa using h)
  obtain ⟨h1,h2⟩:=BitVec.or_eq_zero_iff.1 h0
  have h3:=congrArg BitVec.toNat h1
  have h4:=congrArg BitVec.toNat h2
  rw [ofInt_u8 u hu] at h3
  rw [ofInt_u8 v hv] at h4
  simp at h3 h4
  omega
 ·rintro ⟨rfl,rfl⟩
  rfl
theorem xor_zero (u v:Int) (hu:0≤u∧u≤255) (hv:0≤v∧v≤255):bits .xor .u8 u v=0↔u=v:=by
 have e:bits .xor .u8 u v=(((BitVec.ofInt 8 u ^^^ BitVec.ofInt 8 v).toNat:Nat):Int):=by
  show IntKind.u8.wrap (((BitVec.ofInt 8 u ^^^ BitVec.ofInt 8 v).toNat:Nat):Int)=_
  exact wrap_u8 _ (BitVec.isLt _)
 rw [e]
 constructor
 ·intro h
  have h0:BitVec.ofInt 8 u ^^^ BitVec.ofInt 8 v=0#8:=BitVec.eq_of_toNat_eq (by simpa using h)
  have h1:=BitVec.xor_eq_zero_iff.1 h0
  have h3:=congrArg BitVec.toNat h1
  rw [ofInt_u8 u hu,ofInt_u8 v hv] at h3
  omega
 ·rintro rfl
  simp
theorem or_byt (u v:Int):0≤bits .or .u8 u v∧bits .or .u8 u v≤255:=by
 have h:∀ x:Int,0≤IntKind.u8.wrap x∧IntKind.u8.wrap x≤255:=fun x=>by
  simp [IntKind.wrap,IntKind.signed,IntKind.bits]
  omega
 exact h _
def un (a b:List Int):Nat→Int
 | 0=>0
 | k+1=>bits .or .u8 (un a b k) (bits .xor .u8 (a.getD k 0) (b.getD k 0))
theorem un_succ (a b:List Int) (k:Nat):un a b (k+1)=bits .or .u8 (un a b k) (bits .xor .u8 (a.getD k 0) (b.getD k 0)):=rfl
theorem un_byt (a b:List Int) (k:Nat):0≤un a b k∧un a b k≤255:=by
 cases k with
 | zero=>simp [un]
 | succ k=>exact or_byt _ _
theorem un_zero (a b:List Int) (ha:Sha.Byt a) (hb:Sha.Byt b) (k:Nat):un a b k=0↔∀ j,j<k→a.getD j 0=b.getD j 0:=by
 induction k with
 | zero=>simp [un]
 | succ k ih =>
  rw [un_succ,or_zero _ _ (un_byt a b k) (xor_byt _ _),xor_zero _ _ (Sha.byt_getD ha k) (Sha.byt_getD hb k),ih]
  constructor
  ·rintro ⟨h1,h2⟩ j hj
   by_cases h:j=k
   ·subst h;exact h2
   ·exact h1 j (by omega)
  ·intro h
   exact ⟨fun j hj=>h j (by omega),h k (by omega)⟩
attribute [irreducible] un
def SameSay (a b:List Int) (w:World) (e:Ending) (w':World):Prop:=e = .returned (.bool (un a b 32==0))∧Below w.heap.size w w'
set_option maxHeartbeats 1000000 in
set_option maxRecDepth 100000 in
theorem msame_any (a b:List Int) (ha:a.length=32) (hb:b.length=32) (w:World) :
  Calls Tryz.prog 244 #[.agg (a.map (Value.int .u8)).toArray,.agg (b.map (Value.int .u8)).toArray] w (SameSay a b w):=by
 have Ha:=Lib.hid ha;clear ha
 have Hb:=Lib.hid hb;clear hb
 go_enter Tryz.func244,Tryz.ntmps244
 go_wp2
 go_loopw [5,7] (fun v5 v7 wr=>∃ k:Nat,k≤32∧v7 = .int .i64 k∧v5 = .int .u8 (un a b k)∧Hid (wr.heap[w.heap.size]?=some (.cells (a.map (Value.int .u8)).toArray 39 (0,0)))∧Hid (wr.heap[w.heap.size+1]?=some (.cells (b.map (Value.int .u8)).toArray 39 (0,0)))∧Hid (Below w.heap.size w wr)) (fun _ v7 _=>32-(intOf v7).toNat)
 case atStart =>
  refine ⟨0,by omega,rfl,by rw [un],heap_alloc2_old w _ _,heap_alloc2_new w _ _,?_⟩
  exact ((Below.refl _ w).alloc (Nat.le_refl _) _).alloc (by simp) _
 case round =>
  obtain ⟨k,hk,rfl,rfl,HGA,HGB,HB⟩:=hrel
  by_cases hlt:k<32
  ·have c0:=row_cell HGA.out k (by rw [Ha.out];exact hlt)
   have c1:=row_cell HGB.out k (by rw [Hb.out];exact hlt)
   have HU:Hid (bits .or .u8 (un a b k) (bits .xor .u8 (a.getD k 0) (b.getD k 0))=un a b (k+1)):=(un_succ a b k).symm
   have hn:0≤(k:Int):=by omega
   have hm:(k:Int)<32:=by omega
   generalize a.getD k 0=x at *
   generalize b.getD k 0=y at *
   generalize hu:un a b k=u at *
   go_wp2
   go_quiet (fail)
   go_wp2
   refine ⟨⟨k+1,by omega,by go_num,by rw [HU.out],?_,?_,?_⟩,by simp [intOf];omega⟩
   ·exact HGA.out
   ·exact HGB.out
   ·exact below_dn HB.out _
  ·have E:k=32:=by omega
   subst E
   go_wp2
   go_ret
   exact ⟨rfl,HB.out⟩
theorem un_eq (a b:List Int) (ha:a.length=32) (hb:b.length=32) (hba:Sha.Byt a) (hbb:Sha.Byt b):(un a b 32==0)=decide (a=b):=by
 rw [Bool.eq_iff_iff,beq_iff_eq,un_zero a b hba hbb,decide_eq_true_iff]
 constructor
 ·intro h
  apply List.ext_getElem (by omega)
  intro i h1 h2
  have:=h i (by omega)
  rw [List.getD_eq_getElem?_getD,List.getElem?_eq_getElem h1,List.getD_eq_getElem?_getD,List.getElem?_eq_getElem h2] at this
  simpa using this
 ·rintro rfl
  exact fun _ _=>rfl
theorem same_sums (a b:List Int) (ha:a.length=32) (hb:b.length=32) (hba:Sha.Byt a) (hbb:Sha.Byt b) (w:World) :
  Calls Tryz.prog 244 #[.agg (a.map (Value.int .u8)).toArray,.agg (b.map (Value.int .u8)).toArray] w fun e w'=>e = .returned (.bool (decide (a=b)))∧Below w.heap.size w w' :=
 (msame_any a b ha hb w).mono fun e w' h=>⟨by rw [← un_eq a b ha hb hba hbb];exact h.1,h.2⟩
end Same
end
end Go.Proofs.YtnnalemboeccbaaGreatDoor

/-
  SeA, SeB, SeC, SeD, SeE, SeS (merged)
-/
import Derived.Test.YthgjfjmampmiiaaGreatDoorA6
import Derived.Lib.AppendZeros
import Derived.Laws.AppendOwnNone
namespace Go.Proofs.YthgjfjmampmiiaaGreatDoor
open Go.Proofs.Tryz
set_option maxHeartbeats 2000000
set_option maxRecDepth 100000
section
open Go.RowKit
namespace an
def j5 (n:Int):List Int:=[n / 72057594037927936 % 256,n / 281474976710656 % 256,n / 1099511627776 % 256,n / 4294967296 % 256,n / 16777216 % 256,n / 65536 % 256,n / 256 % 256,n % 256]
def tb (n:Int):Nat→List Int
 | 0=>List.replicate 8 0
 | k+1=>(tb n k).set (7-k) (n / 256 ^ k % 256)
theorem uP (n:Int) (k:Nat):(tb n k).length=8:=by
 induction k with
 | zero=>rfl
 | succ k ih=>rw [tb,List.length_set,ih]
theorem uK (n:Int):tb n 8=j5 n:=by simp [tb,j5]
theorem eS (n:Int):(j5 n).length=8:=rfl
theorem iE (n:Int):ai.aY (j5 n):=fun x hx=>by
 unfold j5 at hx;simp only [List.mem_cons,List.not_mem_nil,or_false] at hx;rcases hx with rfl | rfl | rfl | rfl | rfl | rfl | rfl | rfl<;>omega
theorem pH (n:Int):(tb n 0).map (Value.int .u8)=List.replicate 8 (Value.int .u8 0):=by simp [tb]
attribute [irreducible] j5 tb
end an
def vO (n:Int) (w:World) (e:Ending) (w':World):Prop :=
 ∃ g,e = .returned (.slice (some ⟨g,0,none⟩) 8 8)∧Hid (cX w' (some ⟨g,0,none⟩) (an.j5 n))∧qw w w'
theorem ig (n:Int) (hn:0≤n∧n≤9223372036854775807) (w:World) :
  qc 223 #[.int .i64 n] w (vO n w):=by
 go_enter func223,ntmps223;go_upto_region 2 with ((with_reducible refine o8 _ 5 _ _ (.int .u8 0) 1 8 8 ?_ ?_ ?_ ?_ rfl ?_ ?_ ?_ ?_);(exact rfl);(exact rfl);(exact underlying22);(exact Tryz.bu);omega;omega;omega;intro w1 G1 Ag CN)
 have G1':Hid (w1.heap[w.heap.size]?=qo ((an.tb n 0).map (Value.int .u8)).toArray 5):=by
  show _=_;rw [an.pH];exact G1.out
 have Ai:=qh Ag;clear Ag G1 CN;go_wp2;go_loopw [0,8] (fun v0 v8 wr=>∃ (k:Nat) (z:Int),k≤8∧v8 = .int .i64 k∧v0 = .int .i64 z∧0≤z∧z≤9223372036854775807∧Hid (z=n / 256 ^ k)∧Hid (wr.heap[w.heap.size]?=qo ((an.tb n k).map (Value.int .u8)).toArray 5)∧Hid (qw w wr)) (fun _ v8 _=>8-(intOf v8).toNat)
 case atStart=>exact ⟨0,n,Nat.zero_le _,rfl,rfl,hn.1,hn.2,by show _=_;simp,G1'.out,Ai.out⟩
 case round =>
  clear G1' Ai;obtain ⟨k,z,hk,rfl,rfl,hz1,hz2,HZ,HG,HB⟩:=hrel;by_cases Ae:k<8
  ·have Ba:IntKind.i64.wrap (7-(k:Int))=7-(k:Int):=IntWalk.i64_in _ ⟨by omega,by omega⟩;have Jj:0≤7-(k:Int):=by omega
   have Jk:7-(k:Int)<8:=by omega
   have EP:(7-(k:Int)).toNat=7-k:=by omega
   have Ra:(k:Int)<8:=by omega
   have c0:=cZ HG.out (7-k) (by rw [an.uP];omega);have f0:=frozen_of_row wr w.heap.size (7-k) _ _ HG.out;generalize (an.tb n k).getD (7-k) 0=y0 at c0;go_wp2;refine ⟨⟨k+1,z / 256,by omega,by go_num,?_,by omega,by omega,?_,?_,?_⟩,by simp [intOf];omega⟩
   ·rfl
   ·show _=_;rw [HZ.out,Int.ediv_ediv_of_nonneg (Int.le_of_lt (Int.pow_pos (by decide)))]
    rfl
   ·have h2:=iN (i:=7-k) (x:=z % 256) HG.out;rw [HZ.out] at h2;rw [HZ.out];unfold an.tb;exact h2
   ·exact HB.out.setCell (by simp) _
  ·obtain rfl:k=8:=by omega
   clear Ae;go_wp2;go_ret;refine ⟨w.heap.size,rfl,?_,HB.out⟩;have h:=HG.out;rw [an.uK] at h;exact cU h (an.iE n)
theorem abd (n:Nat) (hn:n≤1000000000) (w:World) :
  qc 141 #[.slice none 0 0,.int .i64 n] w fun e w'=>∃ v,e = .returned v∧w'.ownsRow w.heap.size 5 1 v 0 (aC [])∧qw w w':=by
 obtain ⟨i0,hi,hz0,hz1,hz2⟩:=info_parts Tryz.bu;have h1:¬ ((n:Int)<0):=by omega
 by_cases h0:0<n
 ·have h0':(n:Int)>0:=by omega
  have BI:=grownCap_le_maxLen w n 0 5 (by unfold maxLen;omega);have SW:n≤grownCap w n 0 5:=grownCap_ge w _ _ _;have hr:∀ ty,(Builtin.append_ #[22,3] ty #[.slice none 0 0,.int .i64 n]).run prog w=_:=fun ty =>
   Lib.run_append_nil_zeros w 22 3 ty 5 i0 (.int .u8 0) .i64 .i64 underlying22 underlying3 hi hz0 n h0 (by omega) (by omega) (by rw [hz2];omega)
  have D4:∀ c,c≤maxLen→n≤c→(w.drew.alloc (.cells (Builtin.zeroCells (Value.int .u8 0).cells n++Builtin.zeroCells (Value.int .u8 0).cells (c-n)) 5)).ownsRow w.heap.size 5 1 (.slice (some ⟨w.heap.size,0,none⟩) 0 c) 0 (aC []):=fun c hc Ns =>
   ⟨by unfold aC;rfl,Or.inr ⟨w.heap.size,c,_,rfl,Nat.le_refl _,heap_alloc_new w.drew _,Nat.zero_le _,hc,by simp only [Array.size_append,size_zeroCells];show n*1+(c-n)*1=c*1;omega,by unfold aC;simp⟩⟩
  have CL:∀ C,qw w (w.drew.alloc C):=fun C=>(Below.refl _ w).drew.alloc qn C;generalize grownCap w n 0 5=G at *;go_enter func141,ntmps141;go_wp2_with (first
   | (at_builtin;refine Lib.wpList_append_run _ rfl _ _ _ _ rfl _ _ rfl rfl _ _ (hr _) ?_)
   | go_in)
  go_ret;exact ⟨_,rfl,D4 G BI SW,CL _⟩
 ·obtain rfl:n=0:=by omega
  go_enter func141,ntmps141;go_wp2;go_ret;exact ⟨_,rfl,by unfold aC;exact World.ownsRow_nil _ _ _ _,Below.refl _ _⟩
end
section
open Go.RowKit
structure Bs (w:World) (p:Option Addr) (c:Nat) (L:List Int):Prop where
 bat:cX w p L
 cap:L.length≤c∧c≤9223372036854775807
 nil:p=none→L = []∧c=0
theorem Bs.av {w x:World} {p:Option Addr} {c:Nat} {L:List Int} (h:Bs w p c L) (hb:qw w x):Bs x p c L:=⟨h.bat.av hb,h.cap,h.nil⟩
theorem Bs.tf {w:World} {p:Option Addr} {c:Nat} {L:List Int} (h:Bs w p c L):ai.aY L:=h.bat.1
theorem dx (w:World):Bs w none 0 []:=⟨⟨fun x hx=>by simp at hx,fun h=>by simp at h⟩,⟨Nat.le_refl _,by omega⟩,fun _=>⟨rfl,rfl⟩⟩
theorem eK {w:World} {g c:Nat} {L:List Int} (h:cX w (some ⟨g,0,none⟩) L) (hc:L.length≤c∧c≤9223372036854775807):Bs w (some ⟨g,0,none⟩) c L:=⟨h,hc,fun e=>by cases e⟩
theorem bH {w:World} {B n:Nat} {v:Value} {l:List Int} (h:w.ownsRow B 5 1 v n (aC l)) (hb:ai.aY l):∃ p c,v = .slice p l.length c∧Bs w p c l∧l.length=n:=by
 have hl:l.length=n:=by
  have:=h.1;unfold aC at this;simpa using this
 rcases h.2 with ⟨rfl,rfl⟩ | ⟨g,cap,cur,rfl,_,_,h1,h2,_⟩
 ·obtain rfl:l = []:=List.eq_nil_of_length_eq_zero hl;exact ⟨none,0,rfl,dx w,rfl⟩
 ·refine ⟨some ⟨g,0,none⟩,cap,by rw [hl],eK ⟨hb,fun h0=>⟨g,0,rfl,fun j hj=>?_⟩⟩ ⟨by omega,by unfold maxLen at h2;omega⟩,hl⟩;rw [Nat.zero_add];exact dc h j (by omega)
theorem lR {w:World} {ad:Addr} {R:List Int} (h:cX w (some ad) R):∀ j u,(R.map (Value.int .u8))[j]?=some u→w.cell? (ad.add j)=some u:=fun j u hj=>by
 have Cp:j<R.length:=by have:=(List.getElem?_eq_some_iff.1 hj).1;simpa using this
 obtain ⟨ab,ao,h1,h2⟩:=h.2 (by omega);cases h1
 rw [Addr.add_mid,h2 j Cp];rw [List.getElem?_map,List.getElem?_eq_getElem Cp] at hj;rw [List.getD_eq_getElem?_getD,List.getElem?_eq_getElem Cp];simpa using hj
theorem bV {ops:Array Oper} {rest:List Oper} {a:Act} {w:World} {Q:Exit→Act→World→Prop} {D:Option Tmp} {T:TypeId} {ps:String} {af:Array Edge} (s x:Operand) (ys:List Int) (base:Nat) (v:Value) (n:Nat) (l:List Int) (p:Option Addr) (m c:Nat) (hs:a.eval s=v)
  (hx:a.eval x = .slice p m c) (hm:ys.length=m) (hc:Bs w p c ys) (Ap:w.ownsRow base 5 1 v n (aC l)) (hn:n+m≤1000000000000) (hb:base≤w.heap.size)
  (h:∀ v' w',w'.ownsRow base 5 1 v' (n+m) (aC (l++ys))→w.grownBy w' v.ownBlock→wpList prog ops Q rest (a.put D v') w') :
  wpList prog ops Q ({ dst:=D,op:=.call { callee:=.builtin .append,args:=#[s,x],argTypes:=#[22,22] },type:=T,pos:=ps,after:=af,guard:=none } :: rest) a w:=by
 subst hm;obtain ⟨i0,hi,hz0,hz1,hz2⟩:=info_parts Tryz.bu;cases p with
 | none =>
  obtain ⟨rfl,rfl⟩:=hc.nil rfl;refine wpList_append_own_none rfl s x 22 rfl base 5 i0 1 underlying22 hi v n (aC l) hs Ap hx ?_;refine h v w (by rw [List.append_nil];exact Ap) ⟨rfl,rfl,rfl,Nat.le_refl _,fun _ _ _=>rfl⟩
 | some ad =>
  refine wpList_append_own _ rfl s x 22 rfl base 5 i0 (.int .u8 0) 1 1 underlying22 hi hz0 hz1 hz2 rfl (by decide) v n (aC l) hs Ap ad ys.length c (ys.map (Value.int .u8)) hx (by simp) (lR hc.bat) (aw _) (by unfold maxLen;omega) (by omega) hb ?_;intro v' w' h1 h2 _;refine h v' w' ?_ h2;have e:aC l++ys.map (Value.int .u8)=aC (l++ys):=by unfold aC;simp
  rw [← e];exact h1
namespace an
def cat (L:Nat→List Int):Nat→List Int
 | 0=>[]
 | k+1=>cat L k++L k
theorem aab (L:Nat→List Int):∀ m k,k≤m→(cat L k).length≤(cat L m).length
 | 0,k,h=>by
  obtain rfl:k=0:=(by omega);exact Nat.le_refl _
 | m+1,k,h=>by
  by_cases e:k=m+1
  ·subst e;exact Nat.le_refl _
  ·have:=aab L m k (by omega);rw [cat,List.length_append];omega
theorem vT (L:Nat→List Int) (k:Nat):(cat L (k+1)).length=(cat L k).length+(L k).length:=by rw [cat,List.length_append]
theorem aam (L:Nat→List Int) (k:Nat):cat L k++L k=cat L (k+1):=rfl
attribute [irreducible] cat
end an
theorem ji (P:Nat→Option Addr) (C:Nat→Nat) (L:Nat→List Int) (m g:Nat) (hm:m≤1000) (w:World) (hc:∀ k,k<m→w.cell? ⟨g,k,none⟩=some (.slice (P k) (L k).length (C k))) (hb:∀ k,k<m→Bs w (P k) (C k) (L k)) (hl:(an.cat L m).length≤1000000000) :
  qc 109 #[.slice (some ⟨g,0,none⟩) m m] w fun e w'=>∃ v,e = .returned v∧w'.ownsRow w.heap.size 5 1 v (an.cat L m).length (aC (an.cat L m))∧qw w w':=by
 have HC:=qh hc;clear hc;have HB:=qh hb;clear hb;have HL:Hid (∀ k,k≤m→(an.cat L k).length≤1000000000):=fun k hk=>Nat.le_trans (an.aab L m k hk) hl;have HG:Hid (∀ n:Nat,n≤1000000000→∀ w,qc 141 #[.slice none 0 0,.int .i64 n] w fun e w'=>∃ v,e = .returned v∧w'.ownsRow w.heap.size 5 1 v 0 (aC [])∧qw w w'):=fun n hn w=>abd n hn w;go_enter func109,ntmps109;go_wp2;go_loopw [3,11] (fun v3 v11 wr=>∃ k:Nat,k≤m∧v11 = .int .i64 k∧v3 = .int .i64 ((an.cat L k).length:Nat)∧w=wr) (fun _ v11 _=>m-(intOf v11).toNat)
 case atStart=>exact ⟨0,Nat.zero_le _,rfl,by unfold an.cat;rfl,rfl⟩
 case round =>
  obtain ⟨k,hk,rfl,rfl,rfl⟩:=hrel;have GR:=HL.out k hk;by_cases Ae:k<m
  ·have c0:=HC.out k Ae;have EM:=HL.out (k+1) (by omega);have hle:=an.vT L k;have GS:0≤(k:Int):=by omega
   have Jd:(k:Int)<(m:Int):=by omega
   have hlL:(L k).length≤1000000000:=by omega
   generalize (an.cat L k).length=N0 at *;generalize (L k).length=N2 at *;have GU:¬ ((N0:Int)+(N2:Int)<0):=by omega
   go_wp2;exact ⟨⟨k+1,by omega,by go_num,by rw [hle,Int.natCast_add],trivial⟩,by simp [intOf];omega⟩
  ·obtain rfl:k=m:=by omega
   clear Ae;have Bc:¬ ((k:Int)<(k:Int)):=by omega
   obtain ⟨N,hN⟩:∃ N,(an.cat L k).length=N:=⟨_,rfl⟩;have Oy:N≤1000000000:=by omega
   rw [hN];go_wp2_with (go_at_call 141;refine (HG.out N Oy _).mono ?_;rintro e w1 ⟨v1,rfl,Cz,Ag⟩;have Ax:=qh Cz;have Ai:=qh Ag;clear Cz Ag)
   go_loopw [6,27] (fun v6 v27 wr=>∃ j:Nat,j≤k∧v27 = .int .i64 j∧Hid (wr.ownsRow w.heap.size 5 1 v6 (an.cat L j).length (aC (an.cat L j)))∧Hid (qw w wr)) (fun _ v27 _=>k-(intOf v27).toNat)
   case atStart =>
    refine ⟨0,Nat.zero_le _,rfl,?_,Ai.out⟩;show World.ownsRow _ _ _ _ _ _ _;unfold an.cat;exact Ax.out
   case round =>
    clear Ax Ai;obtain ⟨j,hj,rfl,HO,HBl⟩:=hrel;by_cases Ae:j<k
    ·have c0:=(HBl.out.cell (World.block_lt_of_cell? w _ (HC.out j Ae))).trans (HC.out j Ae);have Tg:=HL.out j hj;have EM:=HL.out (j+1) (by omega);have hle:=an.vT L j;have GS:0≤(j:Int):=by omega
     have Jd:(j:Int)<(k:Int):=by omega
     have Bj:=HBl.out.size;have Bl:Hid (Bs wr (P j) (C j) (L j)):=(HB.out j Ae).av HBl.out;go_wp2_with (first
      | (at_builtin;refine bV _ _ (L j) w.heap.size _ _ _ (P j) _ (C j) rfl rfl rfl Bl.out HO.out (by omega) Bj ?_;intro v5 w5 CF CE;have HO5:=qh CF;have Di:=qh CE;clear CF CE)
      | go_in)
     refine ⟨⟨j+1,by omega,by go_num,?_,?_⟩,by simp [intOf];omega⟩
     ·show World.ownsRow _ _ _ _ _ _ _;have h:=HO5.out;rw [← hle,an.aam] at h;exact h
     ·exact HBl.out.grown Di.out Bj (fun q hq=>(HO.out.lt q hq).1)
    ·obtain rfl:j=k:=by omega
     have Bc:¬ ((j:Int)<(j:Int)):=by omega
     clear Ae;go_wp2;go_ret;refine ⟨_,rfl,?_,HBl.out⟩;have h:=HO.out;rw [hN] at h;exact h
end
section
open Go.RowKit
def Boxed (w:World) (g c:Nat) (M:List Int):Prop :=
 w.heap[g]?=qo (#[Value.pointer (some ⟨c,0,none⟩)]++(M.map (Value.int .u8)).toArray) 83
theorem Boxed.av {w x:World} {g c:Nat} {M:List Int} (h:Boxed w g c M) (hb:qw w x):Boxed x g c M:=(hb.block g (lt_of_block h)).trans h
theorem Boxed.first {w:World} {g c:Nat} {M:List Int} (h:Boxed w g c M):w.cell? ⟨g,0,none⟩=some (qp c):=by
 rw [cell_of_row w g 0 _ _ _ h];simp
theorem Boxed.key {w:World} {g c:Nat} {M:List Int} (h:Boxed w g c M) (hM:ai.aY M):cX w (some ⟨g,1,none⟩) M :=
 ⟨hM,fun _=>⟨g,1,rfl,fun j hj=>by
  rw [cell_of_row w g (1+j) _ _ _ h,Array.getElem?_append];rw [if_neg (by simp),show 1+j-(#[Value.pointer (some ⟨c,0,none⟩)]:Array Value).size=j by simp];simp [List.getD_eq_getElem?_getD,hj]⟩⟩
theorem yt (hT:aV) (M:List Int) (Gf:M.length=32) (LJ:ai.aY M) (P:Nat→Option Addr) (C:Nat→Nat) (L:Nat→List Int) (m g c q:Nat) (Cf:m≤1000) (w:World) (hg:Boxed w g c M) (hc:∀ k,k<m→w.cell? ⟨q,k,none⟩=some (.slice (P k) (L k).length (C k))) (hb:∀ k,k<m→Bs w (P k) (C k) (L k)) (hl:(an.cat L m).length≤1000000000) (Kz:ai.aY (an.cat L m)) (ht:cT w 0) :
  qc 222 #[qp g,.slice (some ⟨q,0,none⟩) m m] w (fW M (an.cat L m) w):=by
 have HT:=qh hT;clear hT;have Ht:=qh ht;clear ht;have Hg:=qh hg;clear hg;have Rq:Hid (∀ x,qw w x→qc 109 #[.slice (some ⟨q,0,none⟩) m m] x fun e x'=>∃ p cp,e = .returned (.slice p (an.cat L m).length cp)∧Hid (Bs x' p cp (an.cat L m))∧qw x x'):=fun x hx=>by
  refine (ji P C L m q Cf x (fun k hk=>(hx.cell (World.block_lt_of_cell? w _ (hc k hk))).trans (hc k hk)) (fun k hk=>(hb k hk).av hx) hl).mono ?_;rintro e x' ⟨v,rfl,ho,OB⟩;obtain ⟨p,cp,rfl,hbs,_⟩:=bH ho Kz;exact ⟨p,cp,rfl,hbs,OB⟩
 clear hc hb;obtain ⟨A,An,Ak,Au⟩:∃ A:Array Value,Hid (A=((hm M (an.cat L m)).map (Value.int .u8)).toArray)∧Hid (A.size=32)∧Hid (A.all (·.oneCell')=true) :=
  ⟨_,rfl,by show _=_;simp [dS],all_oneCell_toArray (aw _)⟩
 obtain ⟨N,HN⟩:∃ N,Hid ((an.cat L m).length=N):=⟨_,rfl⟩;have Oy:N≤1000000000:=by have:=HN.out;omega
 generalize an.cat L m=R at *;go_enter func222,ntmps222;go_upto_region 1 with (fail)
 refine wp_region_any (by kernel_rfl) ?_;change wpAny _ _ _ _ _ _ _ (w.alloc (.cells (List.replicate 32 (Value.int .u8 0)).toArray 39)).drew;have B1:Hid (qw w (w.alloc (.cells (List.replicate 32 (Value.int .u8 0)).toArray 39)).drew):=(qb w _).drew;have R1:Hid ((w.alloc (.cells (List.replicate 32 (Value.int .u8 0)).toArray 39)).drew.heap[w.heap.size]?=qo (List.replicate 32 (Value.int .u8 0)).toArray 39):=heap_alloc_new w _;generalize (w.alloc (.cells (List.replicate 32 (Value.int .u8 0)).toArray 39)).drew=w1 at *;refine au 0 5 (qp g) rfl (by kernel_rfl) (by kernel_rfl) (by kernel_rfl) (fun _ _ _ h=>h) (by rfl) (by intro w;go_simp) ?_;try simp only [Act.put,aQ,aR,aO]
 refine au 1 6 (qp g) rfl (by kernel_rfl) (by kernel_rfl) (by kernel_rfl) (fun _ _ _ h=>h) (by rfl) (by intro w;go_simp) ?_;try simp only [Act.put,aQ,aR,aO]
 refine au 2 7 (.pointer (some ⟨g,1,none⟩)) rfl (by kernel_rfl) (by kernel_rfl) (by kernel_rfl) (fun _ _ _ h=>h) (by rfl) (by intro w;go_simp) ?_;try simp only [Act.put,aQ,aR,aO]
 refine au 3 8 (.slice (some ⟨g,1,none⟩) 32 32) rfl (by kernel_rfl) (by kernel_rfl) (by kernel_rfl) (fun _ _ _ h=>h) (by rfl) (by intro w;go_simp) ?_;try simp only [Act.put,aQ,aR,aO]
 refine au 4 9 (.slice (some ⟨q,0,none⟩) m m) rfl (by kernel_rfl) (by kernel_rfl) (by kernel_rfl) (fun _ _ _ h=>h) (by rfl) (by intro w;go_simp) ?_;try simp only [Act.put,aQ,aR,aO]
 refine aU 5 (by kernel_rfl) ?_;refine wpOp_step rfl (fun Kc Af=>?_);go_simp;refine (Rq.out _ B1.out).mono ?_;rintro e w2 ⟨p,cp,rfl,Bl,Al⟩;have B2:Hid (qw w w2):=B1.out.trans (Al.mono B1.out.size);have R2:Hid (w2.heap[w.heap.size]?=qo (List.replicate 32 (Value.int .u8 0)).toArray 39):=(Al.block _ (lt_of_block R1.out)).trans R1.out;clear Al;dsimp only;refine Af _ _ ?_;clear Af Kc;try simp only [Act.put,aQ,aR,aO]
 rw [HN.out];refine aU 6 (by kernel_rfl) ?_;refine wpOp_step rfl (fun Kc Af=>?_);go_simp;refine (mc HT.out M R (some ⟨g,1,none⟩) p 32 N 32 cp Gf HN.out _ ((Hg.out.av B2.out).key LJ) Bl.out.bat (by omega) (by omega) (by have:=Bl.out.cap;have:=HN.out;omega) Bl.out.cap.2 (by omega) (by have:=HN.out;omega) (Ht.out.below B2.out Ht.out.lt)).mono ?_;rintro e w3 ⟨rfl,As⟩;rw [← An.out];have B3:Hid (qw w w3):=B2.out.trans (As.mono B2.out.size);have R3:Hid (w3.heap[w.heap.size]?=qo (List.replicate 32 (Value.int .u8 0)).toArray 39):=(As.block _ (lt_of_block R2.out)).trans R2.out;clear As;dsimp only;refine Af _ _ ?_;clear Af Kc;try simp only [Act.put,aQ,aR,aO]
 refine aU 7 (by kernel_rfl) ?_;refine bD 7 39 (.tmp 4) (.tmp 11) rfl w.heap.size 0 39 (List.replicate 32 (Value.int .u8 0)) A rfl rfl R3.out (ae Tryz.ar Ak) (by rw [Ak.out];simp) Au.out ?_;intro w9 g9 AW;try simp only [Act.put,aQ,aR,aO]
 refine wpAny_done (by kernel_rfl) ?_ _;have G9:Hid (w9.heap[w.heap.size]?=qo A 39):=by
  have h:=g9.out;have e:splice (List.replicate 32 (Value.int .u8 0)) 0 A.toList=A.toList:=by
   unfold splice;rw [List.take_zero,List.nil_append,Array.length_toList,Ak.out,List.drop_of_length_le (by simp),List.append_nil]
  rw [e,Array.toArray_toList] at h;exact h
 clear g9;go_wp2;refine bodyPost_ret (results_cell_row rfl _ _ w.heap.size 39 A (0,0) _ rfl G9.out underlying39 rfl (ae Tryz.ar Ak)) rfl ⟨?_,AW.below B3.out qn⟩;rw [An.out]
namespace an
def zA (h:List Int) (e n:Int) (t:List Int):List Int:=j5 h.length++(h++(j5 e++(j5 n++t)))
theorem aeB (h:List Int) (e n:Int) (t:List Int):(zA h e n t).length=h.length+t.length+24:=by
 unfold zA;simp only [List.length_append,eS];omega
theorem aeR {h:List Int} {e n:Int} {t:List Int} (hh:ai.aY h) (ht:ai.aY t):ai.aY (zA h e n t) :=
 ai.aP (iE _) (ai.aP hh (ai.aP (iE _) (ai.aP (iE _) ht)))
attribute [irreducible] zA
end an
end
section
open Go.RowKit
def bj (n:Int):Bool:=decide (0≤n∧n≤1099511627776)
theorem dE (n:Int) (w:World):qc 218 #[.int .i64 n] w fun e w'=>e = .returned (.bool (bj n))∧w'=w:=by
 by_cases h0:0≤n
 ·by_cases h1:n≤1099511627776
  ·rw [show bj n=true by unfold bj;simp [h0,h1]];have h0':n≥0:=h0;go_enter func218,ntmps218;go_wp2;go_ret;exact ⟨rfl,rfl⟩
  ·rw [show bj n=false by unfold bj;simp [h1]];have h0':n≥0:=h0;go_enter func218,ntmps218;go_wp2;go_ret;exact ⟨rfl,rfl⟩
 ·rw [show bj n=false by unfold bj;simp [h0]];have h0':¬ n≥0:=h0;go_enter func218,ntmps218;go_wp2;go_ret;exact ⟨rfl,rfl⟩
theorem ab5 (hT:aV) (M:List Int) (Gf:M.length=32) (LJ:ai.aY M) (g c q:Nat) (p0 p1 p2 p3 p4:Option Addr) (n0 n1 n2 n3 n4 c0 c1 c2 c3 c4:Nat) (l0 l1 l2 l3 l4:List Int) (e0:l0.length=n0) (e1:l1.length=n1) (e2:l2.length=n2) (e3:l3.length=n3) (e4:l4.length=n4)
  (x:World) (hg:Boxed x g c M) (hq:x.heap[q]?=qo #[.slice p0 n0 c0,.slice p1 n1 c1,.slice p2 n2 c2,.slice p3 n3 c3,.slice p4 n4 c4] 22) (h0:Bs x p0 c0 l0) (h1:Bs x p1 c1 l1) (h2:Bs x p2 c2 l2) (h3:Bs x p3 c3 l3) (h4:Bs x p4 c4 l4)
  (hl:n0+n1+n2+n3+n4≤1000000000) (ht:cT x 0) :
  qc 222 #[qp g,.slice (some ⟨q,0,none⟩) 5 5] x (fW M (l0++(l1++(l2++(l3++l4)))) x):=by
 have e:an.cat (fun k=>match k with | 0=>l0 | 1=>l1 | 2=>l2 | 3=>l3 | _=>l4) 5=l0++(l1++(l2++(l3++l4))):=by simp [an.cat]
 have h:=yt hT M Gf LJ (fun k=>match k with | 0=>p0 | 1=>p1 | 2=>p2 | 3=>p3 | _=>p4) (fun k=>match k with | 0=>c0 | 1=>c1 | 2=>c2 | 3=>c3 | _=>c4) (fun k=>match k with | 0=>l0 | 1=>l1 | 2=>l2 | 3=>l3 | _=>l4) 5 g c q (by omega) x hg
  (fun k hk=>by
   rw [cell_of_row x q k _ _ _ hq];rcases k with _ | _ | _ | _ | _ | k
   ·simp [e0]
   ·simp [e1]
   ·simp [e2]
   ·simp [e3]
   ·simp [e4]
   ·omega)
  (fun k hk=>by
   rcases k with _ | _ | _ | _ | _ | k
   ·exact h0
   ·exact h1
   ·exact h2
   ·exact h3
   ·exact h4
   ·omega)
  (by rw [e];simp only [List.length_append];omega)
  (by rw [e];exact ai.aP h0.tf (ai.aP h1.tf (ai.aP h2.tf (ai.aP h3.tf h4.tf))))
  ht
 rw [e] at h;exact h
theorem wh (hT:aV) (M:List Int) (Gf:M.length=32) (LJ:ai.aY M) (g c:Nat) (e n:Int) (he:0≤e∧e≤9223372036854775807) (hn:0≤n∧n≤9223372036854775807) (h t:List Int) (ph pt:Option Addr) (nh nt ch ct:Nat) (BL:h.length=nh) (Mi:t.length=nt)
  (w:World) (hg:Boxed w g c M) (hh:Bs w ph ch h) (Mt:Bs w pt ct t) (hl:nh+nt≤900000000) (J8:cT w 0) :
  qc 220 #[qp g,.int .i64 e,.int .i64 n,.slice ph nh ch,.slice pt nt ct] w (fW M (an.zA h e n t) w):=by
 have HT:=qh hT;clear hT;have Ht:=qh J8;clear J8;have Hg:=qh hg;clear hg;have Hh:=qh hh;clear hh;have Htt:=qh Mt;clear Mt;have Hnh:=qh (And.intro BL Mi);clear BL Mi;have Hl:=qh hl;clear hl;have He:=qh he;clear he;have Hn:=qh hn;clear hn;have F4:Hid (∀ x,qc 223 #[.int .i64 (nh:Nat)] x (vO (nh:Nat) x)):=fun x=>ig _ ⟨by omega,by have:=Hl.out;omega⟩ x;have Dm:Hid (∀ x,qc 223 #[.int .i64 e] x (vO e x)):=fun x=>ig _ He.out x;have CK:Hid (∀ x,qc 223 #[.int .i64 n] x (vO n x)):=fun x=>ig _ Hn.out x;obtain ⟨R,HR⟩:∃ R,Hid (R=an.zA h e n t):=⟨_,rfl⟩;obtain ⟨A,An,Ak,Au⟩:∃ A:Array Value,Hid (A=((hm M R).map (Value.int .u8)).toArray)∧Hid (A.size=32)∧Hid (A.all (·.oneCell')=true) :=
  ⟨_,rfl,by show _=_;simp [dS],all_oneCell_toArray (aw _)⟩
 have Cu:Hid (an.j5 (nh:Nat)++(h++(an.j5 e++(an.j5 n++t)))=R):=by show _=_;rw [HR.out,← Hnh.out.1];unfold an.zA;rfl
 have B0:Hid (qw w (w.alloc (.cells (List.replicate 32 (Value.int .u8 0)).toArray 39))):=qb w _;have R0:Hid ((w.alloc (.cells (List.replicate 32 (Value.int .u8 0)).toArray 39)).heap[w.heap.size]?=qo (List.replicate 32 (Value.int .u8 0)).toArray 39):=heap_alloc_new w _;rw [show fW M (an.zA h e n t) w=fW M R w by rw [HR.out]];go_enter func220,ntmps220;go_wp2_with (first
  | (go_at_call 223;refine (F4.out _).mono ?_;rintro e1 w1 ⟨g1,rfl,CQ,Ag⟩;have B1:Hid (qw w w1):=B0.out.trans (Ag.mono B0.out.size);have R1:=qh ((Ag.block _ (lt_of_block R0.out)).trans R0.out);clear Ag F4)
  | (go_at_call 223;refine (Dm.out _).mono ?_;rintro e2 w2 ⟨g2,rfl,Cm,Al⟩;have B2:Hid (qw w w2):=B1.out.trans (Al.mono B1.out.size);have R2:=qh ((Al.block _ (lt_of_block R1.out)).trans R1.out);have Oi:Hid (cX w2 (some ⟨g1,0,none⟩) (an.j5 (nh:Nat))):=CQ.out.av Al;clear Al Dm)
  | (go_at_call 223;refine (CK.out _).mono ?_;rintro e3 w3 ⟨g3,rfl,Eb,As⟩;have B3:Hid (qw w w3):=B2.out.trans (As.mono B2.out.size);have R3:=qh ((As.block _ (lt_of_block R2.out)).trans R2.out);have Oj:Hid (cX w3 (some ⟨g1,0,none⟩) (an.j5 (nh:Nat))):=Oi.out.av As;have Ol:Hid (cX w3 (some ⟨g2,0,none⟩) (an.j5 e)):=Cm.out.av As;clear As CK)
  | (go_at_call 222
     have B4:Hid (qw w3 (w3.alloc (.cells #[.slice (some ⟨g1,0,none⟩) 8 8,.slice ph nh ch,.slice (some ⟨g2,0,none⟩) 8 8,.slice (some ⟨g3,0,none⟩) 8 8,.slice pt nt ct] 22))):=qb w3 _;have B5:=qh (B3.out.trans (B4.out.mono B3.out.size));refine (ab5 HT.out M Gf LJ g c w3.heap.size (some ⟨g1,0,none⟩) ph (some ⟨g2,0,none⟩) (some ⟨g3,0,none⟩) pt 8 nh 8 8 nt 8 ch 8 8 ct (an.j5 (nh:Nat)) h (an.j5 e) (an.j5 n) t (an.eS _) Hnh.out.1 (an.eS _) (an.eS _) Hnh.out.2 _ (Hg.out.av B5.out) (heap_alloc_new w3 _)
      ((eK Oj.out ⟨by rw [an.eS];exact Nat.le_refl _,by omega⟩).av B4.out) (Hh.out.av B5.out) ((eK Ol.out ⟨by rw [an.eS];exact Nat.le_refl _,by omega⟩).av B4.out) ((eK Eb.out ⟨by rw [an.eS];exact Nat.le_refl _,by omega⟩).av B4.out) (Htt.out.av B5.out) (by have:=Hl.out;omega) (Ht.out.below B5.out Ht.out.lt)).mono ?_
     rw [Cu.out];rintro e6 w6 ⟨rfl,BJ⟩;rw [← An.out];have B6:Hid (qw w w6):=B5.out.trans (BJ.mono B5.out.size);have R6:=qh ((BJ.block _ (Nat.lt_of_lt_of_le (lt_of_block R3.out) B4.out.size)).trans ((B4.out.block _ (lt_of_block R3.out)).trans R3.out));clear BJ)
  | ((with_reducible refine ak _ _ _ _ _ _ _ ?_ ?_ R6.out (ae Tryz.ar Ak) ?_ Au.out ?_);(exact rfl);(exact rfl);(rw [Ak.out];rfl);intro w7 G7 JS))
 refine bodyPost_ret (results_cell_row rfl _ _ w.heap.size 39 A (0,0) _ rfl G7.out underlying39 rfl (ae Tryz.ar Ak)) rfl ⟨?_,JS.below B6.out qn⟩;rw [An.out]
end
section
open Go.RowKit
theorem jU (off:Nat):∀ (l:List Value) (k:Nat) (Z:Array Value),off+k+l.length≤Z.size →
  (l.zipIdx k).foldl (fun (cs:Array Value) (x:Value × Nat)=>cs.setIfInBounds (off+x.2) x.1) Z=(Z.toList.take (off+k)++l++Z.toList.drop (off+k+l.length)).toArray
 | [],k,Z,_=>by simp
 | v :: l,k,Z,h=>by
  simp only [List.length_cons] at h;rw [List.zipIdx_cons,List.foldl_cons];rw [jU off l (k+1) _ (by simp;omega)];apply Array.ext'
  have hk:off+k<Z.toList.length:=by simp;omega
  simp only [Array.toList_setIfInBounds,List.length_cons];have e1:(Z.toList.set (off+k) v).take (off+(k+1))=Z.toList.take (off+k)++[v]:=by
   rw [show off+(k+1)=off+k+1 by omega,List.take_add_one,List.getElem?_set_self hk,List.take_set_of_le qn]
   rfl
  have e2:(Z.toList.set (off+k) v).drop (off+(k+1)+l.length)=Z.toList.drop (off+k+(l.length+1)):=by
   rw [List.drop_set_of_lt (by omega)];congr 1;omega
  rw [e1,e2];simp
theorem abS (a:Option Addr) (A:Array Value) (hA:A.size=32) (z:List Value) (hz:z.length=32) :
  Array.foldl (fun (cs:Array Value) (x:Value × Nat)=>cs.setIfInBounds (1+x.snd) x.fst) (Value.pointer a :: z).toArray (A.zipIdx 0) 0 32 = #[.pointer a]++A:=by
 have h:=jU 1 A.toList 0 (Value.pointer a :: z).toArray (by simp;omega);have e:Array.foldl (fun (cs:Array Value) (x:Value × Nat)=>cs.setIfInBounds (1+x.snd) x.fst) (Value.pointer a :: z).toArray (A.zipIdx 0) 0 32=Array.foldl (fun (cs:Array Value) (x:Value × Nat)=>cs.setIfInBounds (1+x.snd) x.fst) (Value.pointer a :: z).toArray (A.zipIdx 0):=by rw [show (A.zipIdx 0).size=32 by simp [hA]]
 rw [e,← Array.foldl_toList,Array.toList_zipIdx,h];apply Array.ext'
 simp [hA,hz]
section
variable {P:Program} {ops:Array Oper} {rest:List Oper} {a:Act} {w:World} {Q:Exit→Act→World→Prop} {D:Option Tmp} {T:TypeId} {ps:String} {af:Array Edge}
theorem vk (t:TypeId) (x y:Operand) (v u:Value) (R:Array Value) (hx:a.eval x=v) (hy:a.eval y=u) (hr:P.built t [(0,v),(1,u)]=some R) (h:wpList P ops Q rest (a.put D (.agg R)) w) :
  wpList P ops Q ({ dst:=D,op:=.build t #[(0,x),(1,y)],type:=T,pos:=ps,after:=af,guard:=none } :: rest) a w :=
 wpList_plain rfl fun K hK=>by
  have Am:=run_build (P:=P) w t #[(0,v),(1,u)] R hr;unfold Oper.wp execOp;simp only [hx,hy,List.map_toArray,List.map_cons,List.map_nil,Am,Sem.run_bind,Sem.run_pure,Result.andThen_ok];exact hK _ _ h
end
end
section
open Go.RowKit
namespace aiu
theorem ofInt_u8 (u:Int) (h:0≤u∧u≤255):(BitVec.ofInt 8 u).toNat=u.toNat:=by
 rw [BitVec.toNat_ofInt];omega
theorem wrap_u8 (n:Nat) (h:n<256):IntKind.u8.wrap (n:Int)=n:=IntWalk.u8_in _ (by omega)
theorem or_zero (u v:Int) (hu:0≤u∧u≤255) (hv:0≤v∧v≤255):bits .or .u8 u v=0↔u=0∧v=0:=by
 have e:bits .or .u8 u v=(((BitVec.ofInt 8 u ||| BitVec.ofInt 8 v).toNat:Nat):Int):=by
  show IntKind.u8.wrap (((BitVec.ofInt 8 u ||| BitVec.ofInt 8 v).toNat:Nat):Int)=_;exact wrap_u8 _ (BitVec.isLt _)
 rw [e];constructor
 ·intro h;have h0:BitVec.ofInt 8 u ||| BitVec.ofInt 8 v=0#8:=BitVec.eq_of_toNat_eq (by simpa using h)
  obtain ⟨h1,h2⟩:=BitVec.or_eq_zero_iff.1 h0;have h3:=congrArg BitVec.toNat h1;have h4:=congrArg BitVec.toNat h2;rw [ofInt_u8 u hu] at h3;rw [ofInt_u8 v hv] at h4;simp at h3 h4;omega
 ·rintro ⟨rfl,rfl⟩
  rfl
theorem xor_zero (u v:Int) (hu:0≤u∧u≤255) (hv:0≤v∧v≤255):bits .xor .u8 u v=0↔u=v:=by
 have e:bits .xor .u8 u v=(((BitVec.ofInt 8 u ^^^ BitVec.ofInt 8 v).toNat:Nat):Int):=by
  show IntKind.u8.wrap (((BitVec.ofInt 8 u ^^^ BitVec.ofInt 8 v).toNat:Nat):Int)=_;exact wrap_u8 _ (BitVec.isLt _)
 rw [e];constructor
 ·intro h;have h0:BitVec.ofInt 8 u ^^^ BitVec.ofInt 8 v=0#8:=BitVec.eq_of_toNat_eq (by simpa using h);have h1:=BitVec.xor_eq_zero_iff.1 h0;have h3:=congrArg BitVec.toNat h1;rw [ofInt_u8 u hu,ofInt_u8 v hv] at h3;omega
 ·rintro rfl;simp
theorem agZ (u v:Int):0≤bits .or .u8 u v∧bits .or .u8 u v≤255:=by
 have h:∀ x:Int,0≤IntKind.u8.wrap x∧IntKind.u8.wrap x≤255:=fun x=>by
  simp [IntKind.wrap,IntKind.signed,IntKind.bits];omega
 exact h _
def un (a b:List Int):Nat→Int
 | 0=>0
 | k+1=>bits .or .u8 (un a b k) (bits .xor .u8 (a.getD k 0) (b.getD k 0))
theorem wU (a b:List Int) (k:Nat):un a b (k+1)=bits .or .u8 (un a b k) (bits .xor .u8 (a.getD k 0) (b.getD k 0)):=rfl
theorem ahn (a b:List Int) (k:Nat):0≤un a b k∧un a b k≤255:=by
 cases k with
 | zero=>simp [un]
 | succ k=>exact agZ _ _
theorem aeu (a b:List Int) (ha:ai.aY a) (hb:ai.aY b) (k:Nat):un a b k=0↔∀ j,j<k→a.getD j 0=b.getD j 0:=by
 induction k with
 | zero=>simp [un]
 | succ k ih =>
  rw [wU,or_zero _ _ (ahn a b k) (xt _ _),xor_zero _ _ (ai.aW ha k) (ai.aW hb k),ih];constructor
  ·rintro ⟨h1,h2⟩ j hj;by_cases h:j=k
   ·subst h;exact h2
   ·exact h1 j (by omega)
  ·intro h;exact ⟨fun j hj=>h j (by omega),h k (by omega)⟩
attribute [irreducible] un
def aeN (a b:List Int) (w:World) (e:Ending) (w':World):Prop:=e = .returned (.bool (un a b 32==0))∧qw w w'
theorem yj (a b:List Int) (ha:a.length=32) (hb:b.length=32) (w:World) :
  qc 219 #[.agg (a.map (Value.int .u8)).toArray,.agg (b.map (Value.int .u8)).toArray] w (aeN a b w):=by
 have Ha:=qh ha;clear ha;have Hb:=qh hb;clear hb;go_enter func219,ntmps219;go_wp2;go_loopw [5,7] (fun v5 v7 wr=>∃ k:Nat,k≤32∧v7 = .int .i64 k∧v5 = .int .u8 (un a b k)∧Hid (wr.heap[w.heap.size]?=qo (a.map (Value.int .u8)).toArray 39)∧Hid (wr.heap[w.heap.size+1]?=qo (b.map (Value.int .u8)).toArray 39)∧Hid (qw w wr)) (fun _ v7 _=>32-(intOf v7).toNat)
 case atStart =>
  refine ⟨0,by omega,rfl,by rw [un],heap_alloc2_old w _ _,heap_alloc2_new w _ _,?_⟩;exact (qb w _).alloc (by simp) _
 case round =>
  obtain ⟨k,hk,rfl,rfl,PW,Kk,HB⟩:=hrel;by_cases Ae:k<32
  ·have c0:=cZ PW.out k (by rw [Ha.out];exact Ae);have c1:=cZ Kk.out k (by rw [Hb.out];exact Ae);have HU:Hid (bits .or .u8 (un a b k) (bits .xor .u8 (a.getD k 0) (b.getD k 0))=un a b (k+1)):=(wU a b k).symm;have hn:0≤(k:Int):=by omega
   have hm:(k:Int)<32:=by omega
   generalize a.getD k 0=x at *;generalize b.getD k 0=y at *;generalize hu:un a b k=u at *;go_wp2;go_quiet (fail)
   go_wp2;refine ⟨⟨k+1,by omega,by go_num,by rw [HU.out],?_,?_,?_⟩,by simp [intOf];omega⟩
   ·exact PW.out
   ·exact Kk.out
   ·exact bI HB.out _
  ·have E:k=32:=by omega
   subst E;go_wp2;go_ret;exact ⟨rfl,HB.out⟩
theorem aiC (a b:List Int) (ha:a.length=32) (hb:b.length=32) (LM:ai.aY a) (Eo:ai.aY b):(un a b 32==0)=decide (a=b):=by
 rw [Bool.eq_iff_iff,beq_iff_eq,aeu a b LM Eo,decide_eq_true_iff];constructor
 ·intro h;apply List.ext_getElem (by omega)
  intro i h1 h2;have:=h i (by omega);rw [List.getD_eq_getElem?_getD,List.getElem?_eq_getElem h1,List.getD_eq_getElem?_getD,List.getElem?_eq_getElem h2] at this;simpa using this
 ·rintro rfl;exact fun _ _=>rfl
theorem yM (a b:List Int) (ha:a.length=32) (hb:b.length=32) (LM:ai.aY a) (Eo:ai.aY b) (w:World) :
  qc 219 #[.agg (a.map (Value.int .u8)).toArray,.agg (b.map (Value.int .u8)).toArray] w fun e w'=>e = .returned (.bool (decide (a=b)))∧qw w w' :=
 (yj a b ha hb w).mono fun e w' h=>⟨by rw [← aiC a b ha hb LM Eo];exact h.1,h.2⟩
end aiu
end
end Go.Proofs.YthgjfjmampmiiaaGreatDoor

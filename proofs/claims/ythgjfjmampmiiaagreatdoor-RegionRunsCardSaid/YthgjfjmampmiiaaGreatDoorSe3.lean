/-
  SeM, SeR, SeT (merged)
-/
import Derived.Test.YthgjfjmampmiiaaGreatDoorSe5
import Derived.Test.YthgjfjmampmiiaaGreatDoorBc1
namespace Go.Proofs.YthgjfjmampmiiaaGreatDoor
open Go.Proofs.Tryz
set_option maxHeartbeats 2000000
set_option maxRecDepth 100000
section
open Go.RowKit
theorem fK (L:List Int) (p:Option Addr) (n cap:Nat) (hn:L.length=n) (hL:L.length≤1000000) (w:World) (hp:cX w p L) :
  qc 25 #[.slice p n cap] w fun e w'=>∃ v,e = .returned v∧w'.ownsRow w.heap.size 5 1 v n (aC L)∧qw w w':=by
 subst hn;obtain ⟨i0,hi,hz0,hz1,hz2⟩:=info_parts Tryz.bu;have Hp:=qh hp;clear hp;go_enter func25,ntmps25;go_wp2;go_loopw [3,4] (fun v i wr=>∃ k:Nat,k≤L.length∧i = .int .i64 k∧Hid (wr.ownsRow w.heap.size 5 1 v k (aC (L.take k)))∧Hid (qw w wr)) (fun _ i _=>L.length-(intOf i).toNat)
 case atStart=>exact ⟨0,Nat.zero_le _,rfl,by unfold aC;exact World.ownsRow_nil _ _ _ _,Below.refl _ _⟩
 case round =>
  obtain ⟨k,hk,rfl,HO,HB⟩:=hrel;by_cases Ae:k<L.length
  ·obtain ⟨ab,ao,CM,A7⟩:=(Hp.out.av HB.out).2 (by omega);subst CM;have c0:=A7 k Ae;clear A7;obtain ⟨x,hx⟩:∃ x,L.getD k 0=x:=⟨_,rfl⟩;rw [hx] at c0;go_wp2_with (first
    | (at_builtin;refine wpList_append_own _ rfl _ _ 22 rfl w.heap.size 5 i0 (.int .u8 0) 1 1 underlying22 hi hz0 hz1 hz2 rfl (by decide) _ _ _ rfl (HO.out.alloc _) ⟨wr.heap.size,0,none⟩ 1 1 [.int .u8 x] rfl rfl (dp _ _ _) (ek _) (by unfold maxLen;omega) (by omega) (by have:=HB.out.size;simp;omega) ?_)
    | go_in)
   intro v' w1 Aa Ac _;have Ag:=aF HB.out (HB.out.size) HO.out Ac;rw [aI,← hx,b8 L k Ae] at Aa;clear Ac HO HB;go_wp2;exact ⟨⟨k+1,by omega,by go_num,Aa,Ag⟩,by simp [intOf];omega⟩
  ·have E:k=L.length:=by omega
   have AA:Hid (wr.ownsRow w.heap.size 5 1 u3 L.length (aC L)):=by
    have:=HO.out;rw [E,List.take_length] at this;exact this
   have Bc:L.length≤k:=by omega
   clear Ae HO E;go_wp2;go_ret;exact ⟨_,rfl,AA.out,HB.out⟩
end
section
open Go.RowKit
theorem jm (e n:Int) (w:World):qc 157 #[.int .i64 e,.int .i64 n] w fun r w'=>r = .returned (.bool (bj e&&bj n))∧w'=w:=by
 by_cases h0:e≥0
 ·by_cases h1:e≤1099511627776
  ·by_cases h2:n≥0
   ·by_cases h3:n≤1099511627776
    ·rw [show (bj e&&bj n)=true by unfold bj;simp;omega];go_enter func157,ntmps157;go_wp2;go_ret;exact ⟨rfl,rfl⟩
    ·rw [show (bj e&&bj n)=false by unfold bj;simp;omega];go_enter func157,ntmps157;go_wp2;go_ret;exact ⟨rfl,rfl⟩
   ·rw [show (bj e&&bj n)=false by unfold bj;simp;omega];go_enter func157,ntmps157;go_wp2;go_ret;exact ⟨rfl,rfl⟩
  ·rw [show (bj e&&bj n)=false by unfold bj;simp;omega];go_enter func157,ntmps157;go_wp2;go_ret;exact ⟨rfl,rfl⟩
 ·rw [show (bj e&&bj n)=false by unfold bj;simp;omega];go_enter func157,ntmps157;go_wp2;go_ret;exact ⟨rfl,rfl⟩
namespace an
def l8 (n:Int):List Int:=[n / 72057594037927936 % 256,n / 281474976710656 % 256,n / 1099511627776 % 256,n / 4294967296 % 256,n / 16777216 % 256,n / 65536 % 256,n / 256 % 256,n % 256]
theorem aiT (n:Int):l8 n=j5 n:=by unfold j5;rfl
end an
def jI (n:Int) (w:World) (e:Ending) (w':World):Prop :=
 ∃ g c,e = .returned (.slice (some ⟨g,0,none⟩) 8 c)∧Hid (w'.ownsRow w.heap.size 5 1 (.slice (some ⟨g,0,none⟩) 8 c) 8 (aC (an.j5 n)))∧qw w w'
theorem kj (n:Int) (hn:0≤n∧n≤9223372036854775807) (w:World):qc 181 #[.int .i64 n] w (jI n w):=by
 obtain ⟨i0,hi,hz0,hz1,hz2⟩:=info_parts Tryz.bu;go_enter func181,ntmps181;go_wp2;go_loopw [3,4] (fun v i wr=>∃ k:Nat,k≤8∧i = .int .i64 (7-(k:Int))∧Hid (wr.ownsRow w.heap.size 5 1 v k (aC ((an.l8 n).take k)))∧Hid (qw w wr)) (fun _ i _=>(intOf i+1).toNat)
 case atStart=>exact ⟨0,Nat.zero_le _,rfl,by unfold aC;exact World.ownsRow_nil _ _ _ _,Below.refl _ _⟩
 case round =>
  obtain ⟨k,hk,rfl,HO,HB⟩:=hrel;rcases (by omega:k=0∨k=1∨k=2∨k=3∨k=4∨k=5∨k=6∨k=7∨k=8) with rfl | rfl | rfl | rfl | rfl | rfl | rfl | rfl | rfl
  ·go_wp2_with (first
    | (at_builtin;refine wpList_append_own _ rfl _ _ 22 rfl w.heap.size 5 i0 (.int .u8 0) 1 1 underlying22 hi hz0 hz1 hz2 rfl (by decide) _ _ _ rfl (HO.out.alloc _) ⟨wr.heap.size,0,none⟩ 1 1 [.int .u8 _] rfl rfl (bp _ _ _) (bN _) (by unfold maxLen;omega) (by omega) (by have:=HB.out.size;simp;omega) ?_)
    | go_in)
   intro v' w1 Aa Ac _;have Ag:=aF HB.out (HB.out.size) HO.out Ac;rw [aI] at Aa;have H1:Hid (w1.ownsRow w.heap.size 5 1 v' 1 (aC ((an.l8 n).take 1))):=by show World.ownsRow _ _ _ _ _ _ _;rw [show (an.l8 n).take 1 = [n / 72057594037927936] from by unfold an.l8;rw [show n / 72057594037927936 % 256=n / 72057594037927936 by omega];rfl];exact Aa
   clear Ac HO HB Aa;go_wp2;exact ⟨⟨1,by omega,rfl,H1.out,Ag⟩,by simp [intOf]⟩
  ·go_wp2_with (first
    | (at_builtin;refine wpList_append_own _ rfl _ _ 22 rfl w.heap.size 5 i0 (.int .u8 0) 1 1 underlying22 hi hz0 hz1 hz2 rfl (by decide) _ _ _ rfl (HO.out.alloc _) ⟨wr.heap.size,0,none⟩ 1 1 [.int .u8 _] rfl rfl (bp _ _ _) (bN _) (by unfold maxLen;omega) (by omega) (by have:=HB.out.size;simp;omega) ?_)
    | go_in)
   intro v' w1 Aa Ac _;have Ag:=aF HB.out (HB.out.size) HO.out Ac;rw [aI] at Aa;have H1:Hid (w1.ownsRow w.heap.size 5 1 v' 2 (aC ((an.l8 n).take 2))):=Aa;clear Ac HO HB Aa;go_wp2;exact ⟨⟨2,by omega,rfl,H1.out,Ag⟩,by simp [intOf]⟩
  ·go_wp2_with (first
    | (at_builtin;refine wpList_append_own _ rfl _ _ 22 rfl w.heap.size 5 i0 (.int .u8 0) 1 1 underlying22 hi hz0 hz1 hz2 rfl (by decide) _ _ _ rfl (HO.out.alloc _) ⟨wr.heap.size,0,none⟩ 1 1 [.int .u8 _] rfl rfl (bp _ _ _) (bN _) (by unfold maxLen;omega) (by omega) (by have:=HB.out.size;simp;omega) ?_)
    | go_in)
   intro v' w1 Aa Ac _;have Ag:=aF HB.out (HB.out.size) HO.out Ac;rw [aI] at Aa;have H1:Hid (w1.ownsRow w.heap.size 5 1 v' 3 (aC ((an.l8 n).take 3))):=Aa;clear Ac HO HB Aa;go_wp2;exact ⟨⟨3,by omega,rfl,H1.out,Ag⟩,by simp [intOf]⟩
  ·go_wp2_with (first
    | (at_builtin;refine wpList_append_own _ rfl _ _ 22 rfl w.heap.size 5 i0 (.int .u8 0) 1 1 underlying22 hi hz0 hz1 hz2 rfl (by decide) _ _ _ rfl (HO.out.alloc _) ⟨wr.heap.size,0,none⟩ 1 1 [.int .u8 _] rfl rfl (bp _ _ _) (bN _) (by unfold maxLen;omega) (by omega) (by have:=HB.out.size;simp;omega) ?_)
    | go_in)
   intro v' w1 Aa Ac _;have Ag:=aF HB.out (HB.out.size) HO.out Ac;rw [aI] at Aa;have H1:Hid (w1.ownsRow w.heap.size 5 1 v' 4 (aC ((an.l8 n).take 4))):=Aa;clear Ac HO HB Aa;go_wp2;exact ⟨⟨4,by omega,rfl,H1.out,Ag⟩,by simp [intOf]⟩
  ·go_wp2_with (first
    | (at_builtin;refine wpList_append_own _ rfl _ _ 22 rfl w.heap.size 5 i0 (.int .u8 0) 1 1 underlying22 hi hz0 hz1 hz2 rfl (by decide) _ _ _ rfl (HO.out.alloc _) ⟨wr.heap.size,0,none⟩ 1 1 [.int .u8 _] rfl rfl (bp _ _ _) (bN _) (by unfold maxLen;omega) (by omega) (by have:=HB.out.size;simp;omega) ?_)
    | go_in)
   intro v' w1 Aa Ac _;have Ag:=aF HB.out (HB.out.size) HO.out Ac;rw [aI] at Aa;have H1:Hid (w1.ownsRow w.heap.size 5 1 v' 5 (aC ((an.l8 n).take 5))):=Aa;clear Ac HO HB Aa;go_wp2;exact ⟨⟨5,by omega,rfl,H1.out,Ag⟩,by simp [intOf]⟩
  ·go_wp2_with (first
    | (at_builtin;refine wpList_append_own _ rfl _ _ 22 rfl w.heap.size 5 i0 (.int .u8 0) 1 1 underlying22 hi hz0 hz1 hz2 rfl (by decide) _ _ _ rfl (HO.out.alloc _) ⟨wr.heap.size,0,none⟩ 1 1 [.int .u8 _] rfl rfl (bp _ _ _) (bN _) (by unfold maxLen;omega) (by omega) (by have:=HB.out.size;simp;omega) ?_)
    | go_in)
   intro v' w1 Aa Ac _;have Ag:=aF HB.out (HB.out.size) HO.out Ac;rw [aI] at Aa;have H1:Hid (w1.ownsRow w.heap.size 5 1 v' 6 (aC ((an.l8 n).take 6))):=Aa;clear Ac HO HB Aa;go_wp2;exact ⟨⟨6,by omega,rfl,H1.out,Ag⟩,by simp [intOf]⟩
  ·go_wp2_with (first
    | (at_builtin;refine wpList_append_own _ rfl _ _ 22 rfl w.heap.size 5 i0 (.int .u8 0) 1 1 underlying22 hi hz0 hz1 hz2 rfl (by decide) _ _ _ rfl (HO.out.alloc _) ⟨wr.heap.size,0,none⟩ 1 1 [.int .u8 _] rfl rfl (bp _ _ _) (bN _) (by unfold maxLen;omega) (by omega) (by have:=HB.out.size;simp;omega) ?_)
    | go_in)
   intro v' w1 Aa Ac _;have Ag:=aF HB.out (HB.out.size) HO.out Ac;rw [aI] at Aa;have H1:Hid (w1.ownsRow w.heap.size 5 1 v' 7 (aC ((an.l8 n).take 7))):=Aa;clear Ac HO HB Aa;go_wp2;exact ⟨⟨7,by omega,rfl,H1.out,Ag⟩,by simp [intOf]⟩
  ·go_wp2_with (first
    | (at_builtin;refine wpList_append_own _ rfl _ _ 22 rfl w.heap.size 5 i0 (.int .u8 0) 1 1 underlying22 hi hz0 hz1 hz2 rfl (by decide) _ _ _ rfl (HO.out.alloc _) ⟨wr.heap.size,0,none⟩ 1 1 [.int .u8 _] rfl rfl (bp _ _ _) (bN _) (by unfold maxLen;omega) (by omega) (by have:=HB.out.size;simp;omega) ?_)
    | go_in)
   intro v' w1 Aa Ac _;have Ag:=aF HB.out (HB.out.size) HO.out Ac;rw [aI] at Aa;have H1:Hid (w1.ownsRow w.heap.size 5 1 v' 8 (aC ((an.l8 n).take 8))):=Aa;clear Ac HO HB Aa;go_wp2;exact ⟨⟨8,by omega,rfl,H1.out,Ag⟩,by simp [intOf]⟩
  ·obtain ⟨g,c,hv⟩:=du HO.out (by decide);subst hv;have AA:Hid (wr.ownsRow w.heap.size 5 1 (.slice (some ⟨g,0,none⟩) 8 c) 8 (aC (an.j5 n))):=by
    rw [← an.aiT];exact HO.out
   go_wp2;go_ret;exact ⟨g,c,rfl,AA,HB.out⟩
theorem abP (L M:List Int) (p q:Option Addr) (n c d:Nat) (hn:L.length=n) (hm:M.length=n) (w:World) (hp:cX w p L) (hq:cX w q M) (hL:n≤10000000) :
  qc 17 #[.slice p n c,.slice q n d] w fun r w'=>r = .returned (.bool (decide (L=M)))∧qw w w':=by
 have Hp:=qh hp;clear hp;have Hq:=qh hq;clear hq;have Hn:=qh (And.intro hn hm);clear hn hm;go_enter func17,ntmps17;go_wp2;go_loopw [5] (fun v5 wr=>∃ k:Nat,k≤n∧v5 = .int .i64 k∧Hid (∀ j,j<k→L.getD j 0=M.getD j 0)∧Hid (qw w wr)) (fun v5 _=>n-(intOf v5).toNat)
 case atStart=>exact ⟨0,by omega,rfl,fun j hj=>by omega,Below.refl _ _⟩
 case round =>
  obtain ⟨k,hk,rfl,HE,HB⟩:=hrel;by_cases Ae:k<n
  ·obtain ⟨ab,ao,CM,A7⟩:=(Hp.out.av HB.out).2 (by have:=Hn.out;omega);obtain ⟨bb,bo,Ml,LW⟩:=(Hq.out.av HB.out).2 (by have:=Hn.out;omega);subst CM;subst Ml;have c0:=A7 k (by have:=Hn.out;omega);have c1:=LW k (by have:=Hn.out;omega);have hn:0≤(k:Int):=by omega
   have hm:(k:Int)<(n:Int):=by omega
   by_cases MD:L.getD k 0=M.getD k 0
   ·have Hw:Hid (∀ j,j<k+1→L.getD j 0=M.getD j 0):=fun j hj=>by
     by_cases h:j=k
     ·subst h;exact MD
     ·exact HE.out j (by omega)
    rw [← MD] at c1;clear MD A7 LW;generalize L.getD k 0=x at *;go_wp2;go_quiet (fail)
    go_wp2;exact ⟨⟨k+1,by omega,by go_num,Hw.out,bI HB.out _⟩,by simp [intOf];omega⟩
   ·have Ea:Hid (decide (L=M)=false):=by
     show _=_;rw [decide_eq_false_iff_not];rintro rfl;exact MD rfl
    clear A7 LW;have TZ:=MD;generalize L.getD k 0=x at *;generalize M.getD k 0=y at *;go_wp2;go_quiet (fail)
    go_wp2;go_ret;exact ⟨congrArg (fun z=>Ending.returned (Value.bool z)) Ea.out.symm,bI HB.out _⟩
  ·have E:k=n:=by omega
   have BT:Hid (decide (L=M)=true):=by
    show _=_;rw [decide_eq_true_iff];have hh:=Hn.out;apply List.ext_getElem (by omega)
    intro i h1 h2;have:=HE.out i (by omega);rw [List.getD_eq_getElem?_getD,List.getElem?_eq_getElem h1,List.getD_eq_getElem?_getD,List.getElem?_eq_getElem h2] at this;simpa using this
   have Bc:n≤k:=by omega
   clear Ae E;go_wp2;go_ret;exact ⟨congrArg (fun z=>Ending.returned (Value.bool z)) BT.out.symm,HB.out⟩
theorem dt {ops:Array Oper} {a:Act} {w:World} {K:Act→World→Prop} {Q:Exit→Act→World→Prop} {D:Tmp} {T:TypeId} {ps:String} {af:Array Edge} (i:Nat) (s x:Operand) (ys:List Int) (base:Nat) (v:Value) (n:Nat) (l:List Int) (p:Option Addr) (m c:Nat)
  (ho:ops[i]?=some { dst:=some D,op:=Op.call { callee:=Callee.builtin Builtin.append,args:=#[s,x],argTypes:=#[22,22] },type:=T,pos:=ps,after:=af,guard:=none }) (hs:a.eval s=v)
  (hx:a.eval x = .slice p m c) (hm:ys.length=m) (hc:Bs w p c ys) (Ap:w.ownsRow base 5 1 v n (aC l)) (hn:n+m≤1000000000000) (hb:base≤w.heap.size)
  (hK:∀ v' w',w'.ownsRow base 5 1 v' (n+m) (aC (l++ys))→w.grownBy w' v.ownBlock→K (a.put (some D) v') w') :
  wpOp prog ops Q i K a w:=by
 subst hm;obtain ⟨i0,hi,hz0,hz1,hz2⟩:=info_parts Tryz.bu;refine ga i _ ho rfl ?_;cases p with
 | none =>
  obtain ⟨rfl,rfl⟩:=hc.nil rfl;have Am:=run_append_owned_none (P:=prog) (w:=w) base 22 T 5 i0 1 underlying22 hi v n (aC l) Ap;unfold Oper.wp;simp only [List.length_nil] at hx;simp [execOp,resolve,invoke,builtin,hs,hx,Am,Result.andThen];exact hK v w (by rw [List.append_nil];exact Ap) ⟨rfl,rfl,rfl,Nat.le_refl _,fun _ _ _=>rfl⟩
 | some ad =>
  refine wp_append_own _ s x 22 rfl base 5 i0 (.int .u8 0) 1 1 underlying22 hi hz0 hz1 hz2 rfl (by decide) v n (aC l) hs Ap ad ys.length c (ys.map (Value.int .u8)) hx (by simp) (lR hc.bat) (aw _) (by unfold maxLen;omega) (by omega) hb ?_;intro v' w' h1 h2 _;refine hK v' w' ?_ h2;have e:aC l++ys.map (Value.int .u8)=aC (l++ys):=by unfold aC;simp
  rw [← e];exact h1
end
section
open Go.RowKit
theorem zS {w:World} {B m c:Nat} {p:Option Addr} {l:List Int} (h:w.ownsRow B 5 1 (.slice p m c) m (aC l)) (hb:ai.aY l):Bs w p c l:=by
 obtain ⟨p',c',h1,h2,_⟩:=bH h hb;injection h1 with e1 e2 e3
 rw [e1,e3];exact h2
theorem bY.mono {B B':Nat} {w:World} {g n:Nat} {R:List Int} (h:bY B' w g n R) (hb:B≤B'):bY B w g n R:=by
 obtain ⟨h0,wb,wc,tb,tc,h1,h2,h3,h4,h5⟩:=h;refine ⟨by omega,wb,wc,tb,tc,by omega,by omega,h3,fun i hi=>?_,h5⟩;obtain ⟨b,c,q0,q1⟩:=h4 i hi;exact ⟨b,c,by omega,q1⟩
theorem bY.grown {B:Nat} {w x:World} {g n:Nat} {R:List Int} (h:bY B w g n R) (O:Obj) (hg:(w.alloc O).grownBy x (some w.heap.size)):bY B x g n R :=
 h.same fun k _ Ed=>(hg.block k (by have e:(w.alloc O).heap.size=w.heap.size+1:=(by simp);omega) (fun e=>by have e2:=Option.some.inj e;omega)).trans (heap_alloc_old _ _ Ed)
def jr (B:Nat) (w:World) (g:Nat) (K:List Int):Prop :=
 ∃ d q cq,B≤g∧B≤q∧32≤cq∧cq≤9223372036854775807∧w.heap[g]?=qo #[qp d,.slice (some ⟨q,0,none⟩) 32 cq] 135 ∧
  (∀ j,j<32→w.cell? ⟨q,j,none⟩=some (.int .u8 ((an.k2 K).getD j 0)))∧bY B w d (4*(4+7)) (ag.up (ag.rb (ag.nC (an.k1 K) 4)) (16*(4+7)))
theorem jr.aG {B:Nat} {w x:World} {g:Nat} {K:List Int} (h:jr B w g K) (hb:qw w x):jr B x g K:=by
 obtain ⟨d,q,cq,h0,h1,h2,h3,h4,h5,h6⟩:=h;exact ⟨d,q,cq,h0,h1,h2,h3,(hb.block _ (lt_of_block h4)).trans h4,fun j hj=>(hb.cell (World.block_lt_of_cell? w _ (h5 j hj))).trans (h5 j hj),h6.aG hb⟩
theorem agY (K:List Int):ai.aY (an.k1 K):=by
 unfold an.k1;exact fun x hx=>kr _ _ x (List.mem_of_mem_take hx)
def xy (K:List Int) (w:World) (e:Ending) (w':World):Prop :=
 ∃ g,e = .returned (qp g)∧Hid (jr w.heap.size w' g K)∧qw w w'
theorem ub (K:List Int) (p:Option Addr) (n c:Nat) (hn:K.length=n) (Cr:n≤100000) (w:World) (hp:Bs w p c K) (ht:cT w 1) :
  qc 34 #[.slice p n c] w (xy K w):=by
 subst hn;have Ht:=qh ht;clear ht;have Hp:=qh hp;clear hp;have Dt:Hid (∀ x,qw w x→qc 74 #[.slice p K.length c,.string { data:=#[101,110,99,114,121,112,116] }] x (fW K (bl an.encS) x)):=fun x hx =>
  gN K an.encS p K.length c rfl Cr (by decide) x ((Hp.out.av hx).bat) Hp.out.cap.1 Hp.out.cap.2 (Ht.out.below hx Ht.out.lt)
 have AL:Hid (∀ x,qw w x→qc 74 #[.slice p K.length c,.string { data:=#[97,117,116,104,101,110,116,105,99,97,116,101] }] x (fW K (bl an.tC) x)):=fun x hx =>
  gN K an.tC p K.length c rfl Cr (by decide) x ((Hp.out.av hx).bat) Hp.out.cap.1 Hp.out.cap.2 (Ht.out.below hx Ht.out.lt)
 obtain ⟨A,An,Ak,Au⟩:∃ A:Array Value,Hid (A=((hm K (bl an.encS)).map (Value.int .u8)).toArray)∧Hid (A.size=32)∧Hid (A.all (·.oneCell')=true) :=
  ⟨_,rfl,by show _=_;simp [dS],all_oneCell_toArray (aw _)⟩
 obtain ⟨B,Ai,Aj,Ao⟩:∃ A:Array Value,Hid (A=((hm K (bl an.tC)).map (Value.int .u8)).toArray)∧Hid (A.size=32)∧Hid (A.all (·.oneCell')=true) :=
  ⟨_,rfl,by show _=_;simp [dS],all_oneCell_toArray (aw _)⟩
 have HN:Hid (∀ g x,x.heap[g]?=qo A 39→qc 75 #[.slice (some ⟨g,0,none⟩) 16 32] x fun e x'=>∃ d,e = .returned (.tuple #[qp d,.int .i64 0])∧Hid (bY x.heap.size x' d (4*(4+7)) (ag.up (ag.rb (ag.nC (an.k1 K) 4)) (16*(4+7))))∧Hid (qw x x')):=fun g x hx=>by
  rw [An.out] at hx;have hb:cX x (some ⟨g,0,none⟩) (an.k1 K):=by unfold an.k1;exact (cU hx (kr _ _)).take 16
  refine (uB (an.k1 K) 4 (by omega) (an.qg K) _ 32 (by omega) (by omega) x hb).mono ?_;rintro e x' ⟨d,h1,h2,h3⟩;exact ⟨d,h1,h2,h3⟩
 have A9:Hid (∀ g x,x.heap[g]?=qo B 39→Bs x (some ⟨g,0,none⟩) 32 (an.k2 K)):=fun g x hx=>by
  rw [Ai.out] at hx;refine eK (by unfold an.k2;exact cU hx (kr _ _)) ⟨by rw [an.ik];exact Nat.le_refl _,by omega⟩
 go_enter func34,ntmps34;go_upto_region 4 with (first
  | (go_at_call 74;refine (Dt.out _ (Below.refl _ w)).mono ?_;rintro e1 w1 ⟨rfl,Ag⟩;rw [← An.out];have B1:=qh Ag;clear Ag Dt)
  | ((with_reducible refine ak _ _ _ _ _ _ _ ?_ ?_ (heap_alloc_new _ _) (ae Tryz.ar Ak) ?_ Au.out ?_);(exact rfl);(exact rfl);(rw [Ak.out];rfl);intro w2 G2 BB;have B2:Hid (qw w w2):=BB.below (B1.out.alloc B1.out.size _) B1.out.size;clear BB)
  | (go_at_call 74;refine (AL.out _ B2.out).mono ?_;rintro e3 w3 ⟨rfl,As⟩;rw [← Ai.out];have B3:Hid (qw w w3):=B2.out.trans (As.mono B2.out.size);have G3:=qh ((As.block _ (lt_of_block G2.out)).trans G2.out);clear As AL)
  | ((with_reducible refine ak _ _ _ _ _ _ _ ?_ ?_ (heap_alloc_new _ _) (ae Tryz.ar Aj) ?_ Ao.out ?_);(exact rfl);(exact rfl);(rw [Aj.out];rfl);intro w4 G4 DM;have GW:Hid (qw w3 w4):=DM.below (qb w3 _) qn;have B4:Hid (qw w w4):=B3.out.trans (GW.out.mono B3.out.size);have G4A:=qh ((GW.out.block _ (lt_of_block G3.out)).trans G3.out);clear DM)
  | (go_at_call 75;refine (HN.out _ _ G4A.out).mono ?_;rintro e5 w5 ⟨d,rfl,EB,BC⟩;have B5:Hid (qw w w5):=B4.out.trans (BC.out.mono B4.out.size);have G5:=qh ((BC.out.block _ (lt_of_block G4.out)).trans G4.out);have NN:Hid (bY w.heap.size w5 d (4*(4+7)) (ag.up (ag.rb (ag.nC (an.k1 K) 4)) (16*(4+7)))):=EB.out.mono B4.out.size;have BE:Hid (qw w5 (w5.alloc (.cells #[] 5))):=qb w5 _;have Rj:=qh ((A9.out _ _ G5.out).av BE.out);have OE:=qh (eY w5 w.heap.size B5.out.size);have BW:=qh (B5.out.trans (BE.out.mono B5.out.size));clear BC HN EB))
 go_wp2_with (at_builtin;refine bV _ _ (an.k2 K) w.heap.size _ 0 [] _ 32 32 rfl rfl (an.ik K) Rj.out OE.out (by omega) BW.out.size ?_;intro v6 w6 Dy Er;have B6:Hid (qw w w6):=BW.out.grown Er BW.out.size (fun q hq=>(OE.out.lt q hq).1);have NO:Hid (bY w.heap.size w6 d (4*(4+7)) (ag.up (ag.rb (ag.nC (an.k1 K) 4)) (16*(4+7)))):=NN.out.grown _ Er;rw [List.nil_append] at Dy;obtain ⟨q6,c6,rfl⟩:=du Dy (by omega);have O6:=qh Dy;clear Dy Er)
 go_ret;have BZ:qw w6 (w6.alloc (.cells #[qp d,.slice (some ⟨q6,0,none⟩) 32 c6] 135)):=qb w6 _;obtain ⟨EH,Gj⟩:=qI O6.out;refine ⟨w6.heap.size,rfl,⟨d,q6,c6,B6.out.size,(O6.out.lt q6 rfl).1,by omega,by unfold maxLen at Gj;omega,heap_alloc_new _ _,fun j hj=>?_,NO.out.aG BZ⟩,B6.out.trans (BZ.mono B6.out.size)⟩;have h1:=dc O6.out j (by omega);exact (BZ.cell (World.block_lt_of_cell? w6 _ h1)).trans h1
end
end Go.Proofs.YthgjfjmampmiiaaGreatDoor

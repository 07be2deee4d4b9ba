/-
  B5, B6 (merged)
-/
import Derived.Test.YthgjfjmampmiiaaGreatDoorAesT
namespace Go.Proofs.YthgjfjmampmiiaaGreatDoor
open Go.Proofs.Tryz
set_option maxHeartbeats 1000000
set_option maxRecDepth 100000
section
section
open Go.RowKit
end
section
open Go.RowKit
theorem tO (ks l:List Int) (N g:Nat) (w:World) (hC:fx w g ag.TB ks) (hn:ks.length=4*(N+2)) (hN:N≤100) (hl:l.length=16) (Fz:ai.aY l) :
  qc 228 #[qp g,Bk l] w (mP (ag.nv ag.TB ks N l) w):=by
 obtain ⟨kb,n,cap,base,hg,hlen,Ap⟩:=hC;obtain rfl:n=N+2:=by omega
 have hs:(ag.TB.map (Value.int .u8)).toArray.size=256:=by simp [ag.mr]
 obtain ⟨h1,h2,h3⟩:N+2≤cap∧cap≤9223372036854775807∧True:=by
  rcases Ap.2 with ⟨h,_⟩ | ⟨g',AO,cur,hv,_,_,q1,q2,_⟩
  ·cases h
  ·cases hv
   unfold maxLen at q2;exact ⟨q1,by omega,trivial⟩
 refine ur ag.TB ks l N g kb cap hl Fz hN w (j1 rfl hg) ?_ h1 h2 ?_
 ·rw [cell_of_row w g 256 _ _ _ hg,Array.getElem?_push,if_pos hs.symm]
 ·intro j hj;have h:=Ap.cells (g:=kb) rfl j (.int .u32 (ks.getD j 0)) (by
   rw [adA,List.getElem?_map,List.getElem?_eq_getElem (by omega),List.getD_eq_getElem?_getD,List.getElem?_eq_getElem (by omega)]
   rfl)
  rw [Addr.add_mid,Nat.zero_add] at h;exact h
theorem fx.below {w w':World} {g:Nat} {T ks:List Int} {B:Nat} (h:fx w g T ks) (hb:Below B w w') (hB:w.heap.size≤B):fx w' g T ks:=by
 obtain ⟨kb,n,cap,base,hg,hlen,Ap⟩:=h;refine ⟨kb,n,cap,base,(hb.block _ (Nat.lt_of_lt_of_le (lt_of_block hg) hB)).trans hg,hlen,Ap.1,?_⟩;rcases Ap.2 with ⟨h,_⟩ | ⟨g',AO,cur,hv,q0,q1,q2⟩
 ·cases h
 ·exact Or.inr ⟨g',AO,cur,hv,q0,(hb.block _ (Nat.lt_of_lt_of_le (lt_of_block q1) hB)).trans q1,q2⟩
end
section
open Go.RowKit
theorem mj (d:Nat) (c:Nat) (hc:c=1) (a b:List Int) (w:World):∀ is:List Nat,(∀ i∈is,i<a.length)→(∀ i∈is,i<b.length) →
  (Op.eqItems (d+1) 5 c (a.map (Value.int .u8)).toArray (b.map (Value.int .u8)).toArray is).run prog w = .ok (is.all fun i=>a.getD i 0==b.getD i 0) w
 | [],_,_=>by simp [Op.eqItems]
 | i :: is,h,h'=>by
  subst hc;have hi:=h i (by simp);have L3:=h' i (by simp);have hv:(a.map (Value.int .u8)).toArray[i*1]?=some (.int .u8 (a.getD i 0)):=by simp [hi,List.getD_eq_getElem?_getD]
  have J9:(b.map (Value.int .u8)).toArray[i*1]?=some (.int .u8 (b.getD i 0)):=by simp [L3,List.getD_eq_getElem?_getD]
  have hp:(part 5 (a.map (Value.int .u8)).toArray (i*1)).run prog w = .ok (.int .u8 (a.getD i 0)) w:=by
   unfold part;rw [Sem.run_bind,Tryz.aiN w];simp only [Result.andThen_ok,hv]
   rfl
  have Pm:(part 5 (b.map (Value.int .u8)).toArray (i*1)).run prog w = .ok (.int .u8 (b.getD i 0)) w:=by
   unfold part;rw [Sem.run_bind,Tryz.aiN w];simp only [Result.andThen_ok,J9]
   rfl
  have he:=run_equalIn_int (P:=prog) w d 5 .u8 .u8 (a.getD i 0) (b.getD i 0) underlying5;rw [Op.eqItems];simp only [Sem.run_bind,hp,Pm,Result.andThen_ok,he,List.all_cons];cases hq:a.getD i 0==b.getD i 0
  ·simp
  ·simp only [Bool.not_true,Bool.false_eq_true,if_false,Bool.true_and];exact mj d 1 rfl a b w is (fun j hj=>h j (by simp [hj])) (fun j hj=>h' j (by simp [hj]))
end
section
open Go.RowKit
theorem aeT (K:List Int) (n:Nat) (h:K.length=4*n):(ag.j7 ag.TB K).length=4*(n+7):=by
 rw [ag.j7,show K.length / 4=n by omega,ag.ma];omega
theorem abQ (K:List Int) (n:Nat) (hn:n=4) (hK:K.length=4*n) (p:Option Addr) (cap:Nat) (Az:4*n≤cap) (BI:cap≤9223372036854775807) (w:World) (hp:cX w p K) :
  qc 33 #[.slice p (4*n) cap] w (vU K w):=by
 subst hn;exact ahU K hK p cap Az BI w hp
end
end
section
section
open Go.RowKit
namespace ag
theorem zw:∀ x,x<256→(if 128≤x then (x*2 % 256) ^^^ 27 else x*2 % 256)=tb x:=by decide +kernel
def tmF (a:Nat):Nat→Nat→Nat→Nat→Nat
 | 0,_,p,_=>p
 | f+1,k,p,b=>tmF a f (k+1) (if a / 2 ^ k % 2=1 then p ^^^ b else p) (tb b)
def tm (a b:Nat):Nat:=tmF a 8 0 0 b
def pq (b:Nat):Nat→Nat→Nat
 | 0,_=>0
 | f+1,x=>if tm x b=1 then x else pq b f (x+1)
def inv (b:Nat):Nat:=pq b 255 1
theorem ahj:∀ x,x<256→tm 2 x=tb x:=by decide +kernel
theorem abb:∀ x,x<256→tm 3 x=tb x ^^^ x:=by decide +kernel
attribute [irreducible] tmF tm pq inv
end ag
theorem kC (x:Nat) (hx:x<256) (w:World) :
  qc 123 #[.int .u8 x] w fun e w'=>e = .returned (.int .u8 (ag.tb x))∧w'=w:=by
 have HC:=qh (ag.zw x hx);generalize ag.tb x=R at *;have e27:bits .xor .u8 ((x:Int)*2 % 256) 27=((x*2 % 256 ^^^ 27:Nat):Int):=ag.fu (x*2 % 256) 27 (by omega) (by omega);go_enter func123,ntmps123;by_cases h:128≤x
 ·have HE:Hid (((x*2 % 256 ^^^ 27:Nat):Int)=(R:Int)):=by
   have:=HC.out;rw [if_pos h] at this;show _=_;rw [this]
  clear HC;go_wp2;go_ret;exact ⟨by rw [← HE.out];rfl,rfl⟩
 ·have HE:Hid ((x:Int)*2=(R:Int)):=by
   have:=HC.out;rw [if_neg h] at this;show _=_;rw [← this];omega
  clear HC e27;go_wp2;go_ret;exact ⟨by rw [← HE.out];rfl,rfl⟩
theorem ry (a k:Nat):((a:Int) / 2 ^ k).tmod 2=((a / 2 ^ k % 2:Nat):Int):=by
 have e:(a:Int) / 2 ^ k=((a / 2 ^ k:Nat):Int):=by push_cast;rfl
 rw [e,Int.tmod_eq_emod_of_nonneg (Int.natCast_nonneg _)];omega
theorem abi (a k:Nat) (h:a / 2 ^ k % 2=1):(((a:Int) / 2 ^ k).tmod 2==1)=true:=by rw [ry,h];rfl
theorem xV (a k:Nat) (h:¬ a / 2 ^ k % 2=1):(((a:Int) / 2 ^ k).tmod 2==1)=false:=by
 rw [ry,show a / 2 ^ k % 2=0 by omega];rfl
theorem iI (a b:Nat) (hb:b<256) (w:World) :
  qc 188 #[.int .u8 a,.int .u8 b] w fun e w'=>e = .returned (.int .u8 (ag.tm a b))∧w'=w:=by
 have HR:Hid (ag.tm a b=ag.tmF a 8 0 0 b):=by show _=_;unfold ag.tm;rfl
 generalize ag.tm a b=R at *;go_enter func188,ntmps188;go_wp2;go_loop [1,5,6] (fun vb vp vi=>∃ (f k p y:Nat),vb = .int .u8 y∧vp = .int .u8 p∧vi = .int .i64 k∧y<256∧p<256∧Hid (k+f=8)∧Hid (R=ag.tmF a f k p y)) (fun _ _ vi=>8-(intOf vi).toNat)
 case atStart=>exact ⟨8,0,0,b,rfl,rfl,rfl,hb,by omega,(by show _=_;rfl),HR.out⟩
 case round =>
  obtain ⟨f,k,p,y,rfl,rfl,rfl,hy,hp,Hf,HQ⟩:=hrel;clear HR hb;by_cases h0:k<8
  ·obtain ⟨f',rfl⟩:∃ f',f=f'+1:=⟨f-1,by have:=Hf.out;omega⟩;have DT:Hid (R=ag.tmF a f' (k+1) (if a / 2 ^ k % 2=1 then p ^^^ y else p) (ag.tb y)):=by
    have h:=HQ.out;rw [ag.tmF] at h;exact h
   have Hf2:Hid (k+1+f'=8):=by have:=Hf.out;show _=_;omega
   have HT:=qh (ag.jW y hy);have HX:=qh (ag.x8 hp hy);have HE:=qh (ag.fu p y hp hy);clear HQ Hf;by_cases h1:a / 2 ^ k % 2=1
   ·have FZ:Hid (R=ag.tmF a f' (k+1) (p ^^^ y) (ag.tb y)):=by have h:=DT.out;rw [if_pos h1] at h;exact h
    clear DT;have h1':=abi a k h1;go_wp2_with (go_at_call 123;refine (kC _ hy _).mono ?_;rintro e w' ⟨rfl,rfl⟩)
    exact ⟨⟨f',k+1,p ^^^ y,ag.tb y,rfl,by rw [HE.out],by go_num,HT.out,HX.out,Hf2,FZ⟩,by simp [intOf];omega⟩
   ·have FZ:Hid (R=ag.tmF a f' (k+1) p (ag.tb y)):=by have h:=DT.out;rw [if_neg h1] at h;exact h
    clear DT;have h1':=xV a k h1;go_wp2_with (go_at_call 123;refine (kC _ hy _).mono ?_;rintro e w' ⟨rfl,rfl⟩)
    exact ⟨⟨f',k+1,p,ag.tb y,rfl,rfl,by go_num,HT.out,hp,Hf2,FZ⟩,by simp [intOf];omega⟩
  ·have E:Hid (R=p):=by
    have h:=HQ.out;have h2:=Hf.out;show _=_;rw [h,show f=0 by omega,ag.tmF]
   have h8:(k:Int)=8:=by have:=Hf.out;omega
   clear HQ Hf;go_wp2;go_ret;exact ⟨by rw [E.out];rfl,rfl⟩
theorem sO (b:Nat) (hb:b<256) (w:World) :
  qc 166 #[.int .u8 b] w fun e w'=>e = .returned (.int .u8 (ag.inv b))∧w'=w:=by
 have HR:Hid (ag.inv b=ag.pq b 255 1):=by show _=_;unfold ag.inv;rfl
 generalize ag.inv b=R at *;go_enter func166,ntmps166;go_wp2;go_loop [3] (fun vx=>∃ (f x:Nat),vx = .int .i64 x∧Hid (x+f=256)∧Hid (1≤x)∧Hid (R=ag.pq b f x)) (fun vx=>256-(intOf vx).toNat)
 case atStart=>exact ⟨255,1,rfl,(by show _=_;rfl),Nat.le_refl _,HR.out⟩
 case round =>
  obtain ⟨f,x,rfl,Hf,H1,HQ⟩:=hrel;clear HR;by_cases h0:x<256
  ·obtain ⟨f',rfl⟩:∃ f',f=f'+1:=⟨f-1,by have:=Hf.out;omega⟩;have DT:Hid (R=if ag.tm x b=1 then x else ag.pq b f' (x+1)):=by
    have h:=HQ.out;rw [ag.pq] at h;exact h
   have Hf2:Hid (x+1+f'=256):=by have:=Hf.out;show _=_;omega
   have hm:(x:Int) % 256=x:=by omega
   clear HQ Hf;by_cases h1:ag.tm x b=1
   ·have FZ:Hid (R=x):=by have h:=DT.out;rw [if_pos h1] at h;exact h
    clear DT;go_wp2_with (go_at_call 188;refine (iI _ _ hb _).mono ?_;rintro e w' ⟨rfl,rfl⟩)
    go_ret;exact ⟨by rw [FZ.out];rfl,rfl⟩
   ·have FZ:Hid (R=ag.pq b f' (x+1)):=by have h:=DT.out;rw [if_neg h1] at h;exact h
    clear DT;go_wp2_with (go_at_call 188;refine (iI _ _ hb _).mono ?_;rintro e w' ⟨rfl,rfl⟩)
    exact ⟨⟨f',x+1,by go_num,Hf2,(by show _≤_;omega),FZ⟩,by simp [intOf];omega⟩
  ·have E:Hid (R=0):=by
    have h:=HQ.out;have h2:=Hf.out;show _=_;rw [h,show f=0 by omega,ag.pq]
   have h8:(x:Int)=256:=by have:=Hf.out;omega
   clear HQ Hf;go_wp2;go_ret;exact ⟨by rw [E.out];rfl,rfl⟩
theorem ahM (b:Nat) (hb:b<256) (w:World) :
  qc 151 #[.int .u8 b] w fun e w'=>e = .returned (.int .u8 (ag.sb (ag.inv b)))∧w'=w:=by
 generalize hx:ag.inv b=x;have HX:=qh hx;clear hx;have HR:Hid (ag.sb x=ag.sbk x 4):=by show _=_;unfold ag.sb;rfl
 generalize ag.sb x=R at *;go_enter func151,ntmps151;go_wp2_with (go_at_call 166;refine (sO _ hb _).mono ?_;rw [HX.out];rintro e w' ⟨rfl,rfl⟩)
 go_loop [4,5] (fun vs vn=>∃ (k:Nat) (s:Int),k≤4∧vn = .int .u64 ((k:Int)+1)∧vs = .int .u8 s∧Hid (s=ag.sbk x k)) (fun _ vn=>5-(intOf vn).toNat)
 case atStart=>exact ⟨0,_,by omega,rfl,rfl,(by show _=_;rfl)⟩
 case round =>
  obtain ⟨k,s,hk,rfl,rfl,HS⟩:=hrel;by_cases Ae:k<4
  ·have HQ:Hid (bits .xor .u8 s (ag.s9 ((k:Int)+1) x)=ag.sbk x (k+1)):=by show _=_;rw [HS.out];rfl
   clear HS;go_wp2;refine ⟨⟨k+1,_,by omega,by go_num,rfl,?_⟩,by simp [intOf];omega⟩;show _=_;rw [← HQ.out];unfold ag.s9;rw [show ((k:Int)+1).toNat=k+1 by omega,show (8-((k:Int)+1)).toNat=7-k by omega]
  ·have E:Hid (R=s):=by
    have h:=HS.out;show _=_;rw [h,HR.out,show k=4 by omega]
   have Bc:(k:Int)=4:=by omega
   clear Ae HS HR;go_wp2;go_ret;exact ⟨by rw [E.out];rfl,rfl⟩
end
section
namespace ag
def tq (n:Nat):List Int:=(List.range n).map fun b=>sb (inv b)
theorem adQ:TB=tq 256:=by decide +kernel
theorem yT (n:Nat):tq (n+1)=tq n++[sb (inv n)]:=by simp [tq,List.range_succ]
attribute [irreducible] tq
end ag
end
section
open Go.RowKit
theorem ac1:aC [] = []:=by unfold aC;rfl
theorem bN (x:Int):∀ u∈[Value.int .u8 x],u.oneCell'=true:=by
 intro u hu;simp at hu;subst hu;rfl
theorem bp (w:World) (x:Int) (e:TypeId):∀ j u,[Value.int .u8 x][j]?=some u→(w.alloc (.cells #[.int .u8 x] e)).cell? (Addr.add ⟨w.heap.size,0,none⟩ j)=some u:=by
 intro j u hj
 match j,hj with
 | 0,hj=>simp at hj;subst hj;simp [Addr.add]
theorem cz {w:World} {B n s:Nat} {v:Value} {e:TypeId} {xs:List Value} (h:w.ownsRow B e s v n xs) (hn:0<n):∃ g c,v = .slice (some ⟨g,0,none⟩) n c:=by
 rcases h.2 with ⟨_,h0⟩ | ⟨g,cap,cur,rfl,_⟩
 ·omega
 ·exact ⟨g,cap,rfl⟩
theorem aN {w w':World} {B n:Nat} {v:Value} {xs:List Value} {e:TypeId} {s:Nat} (h:w.ownsRow B e s v n xs) (hb:qw w w'):w'.ownsRow B e s v n xs:=by
 refine ⟨h.1,?_⟩;rcases h.2 with h' | ⟨g,cap,cur,hv,q0,q1,q2⟩
 ·exact Or.inl h'
 ·exact Or.inr ⟨g,cap,cur,hv,q0,(hb.block _ (lt_of_block q1)).trans q1,q2⟩
theorem iu {ops:Array Oper} {o:Oper} {a:Act} {K:Act→World→Prop} {Q:Exit→Act→World→Prop} {E:Prop} (w0:World) (X:Int) 
  (s x:Operand) (base:Nat) (v:Value) (n:Nat) (l:List Int) (hg:o.guard=none) (hop:o.op=Op.call { callee:=Callee.builtin Builtin.append,args:=#[s,x],argTypes:=#[22,22] })
  (hs:a.eval s=v) (hx:a.eval x = .slice (some ⟨w0.heap.size,0,none⟩) 1 1) (Ap:w0.ownsRow base 5 1 v n (aC l)) (hn:n≤1000) (hb:base≤w0.heap.size)
  (hK:∀ v' w',w'.ownsRow base 5 1 v' (n+1) (aC (l++[X]))→((w0.alloc (.cells #[.int .u8 X] 5)).drew).grownBy w' v.ownBlock→K (a.put o.dst v') w') :
  if Region.wanted o (yielded ops a.tmps)=true then Oper.wp prog o a (w0.alloc (.cells #[.int .u8 X] 5)).drew K Q else E:=by
 obtain ⟨i0,hi,hz0,hz1,hz2⟩:=info_parts Tryz.bu;refine eL hg s x 22 hop base 5 i0 (.int .u8 0) 1 1 underlying22 hi hz0 hz1 hz2 rfl (by decide) v n (aC l) hs (Ap.alloc _).drew ⟨w0.heap.size,0,none⟩ 1 1 [.int .u8 X] hx rfl ?_ (bN X) (by unfold maxLen;omega) (by omega) (by show _≤(w0.alloc _).heap.size;simp;omega) ?_
 ·intro j u hj
  match j,hj with
  | 0,hj=>simp at hj;subst hj;exact bp w0 X 5 0 _ rfl
 ·intro v' w' h1 h2;rw [aI] at h1;exact hK v' w' h1 h2
theorem ia {B:Nat} {w wr w1:World} {v:Value} {n:Nat} {xs:List Value} {o:Obj} {e:TypeId} (hB:Below B w wr) (hs:B≤wr.heap.size) (Ap:wr.ownsRow B e 1 v n xs) (hg:((wr.alloc o).drew).grownBy w1 v.ownBlock):Below B w w1 :=
 ((hB.alloc hs o).drew).grown hg (by show _≤(wr.alloc o).heap.size;simp;omega) (fun j hj=>(Ap.lt j hj).1)
theorem xZ (w:World) :
  qc 122 #[] w fun e w'=>∃ g c,e = .returned (.slice (some ⟨g,0,none⟩) 256 c)∧w'.ownsRow w.heap.size 5 1 (.slice (some ⟨g,0,none⟩) 256 c) 256 (aC ag.TB)∧qw w w':=by
 rw [ag.adQ];obtain ⟨i0,hi,hz0,hz1,hz2⟩:=info_parts Tryz.bu;go_enter func122,ntmps122;go_wp2;go_loopw [1,2] (fun v i wr=>∃ k:Nat,k≤256∧i = .int .i64 k∧Hid (wr.ownsRow w.heap.size 5 1 v k (aC (ag.tq k)))∧Hid (qw w wr)) (fun _ i _=>256-(intOf i).toNat)
 case atStart=>exact ⟨0,Nat.zero_le _,rfl,by unfold aC ag.tq;exact World.ownsRow_nil _ _ _ _,Below.refl _ _⟩
 case round =>
  obtain ⟨k,hk,rfl,HO,HB⟩:=hrel;by_cases Ae:k<256
  ·have hm:(k:Int) % 256=k:=by omega
   have HS:=qh (ag.yT k);go_wp2_with (first
    | (go_at_call 151;refine (ahM k Ae _).mono ?_;rintro e w2 ⟨rfl,rfl⟩)
    | (at_builtin;refine wpList_append_own _ rfl _ _ 22 rfl w.heap.size 5 i0 (.int .u8 0) 1 1 underlying22 hi hz0 hz1 hz2 rfl (by decide) _ _ _ rfl (HO.out.alloc _) ⟨w2.heap.size,0,none⟩ 1 1 [.int .u8 (ag.sb (ag.inv k))] rfl rfl (bp _ _ _) (bN _) (by unfold maxLen;omega) (by omega) (by have:=HB.out.size;simp;omega) ?_)
    | go_in)
   intro v' w1 Aa Ac _;have Ag:=aF HB.out (HB.out.size) HO.out Ac;rw [aI,← HS.out] at Aa;clear Ac HO HB;go_wp2;exact ⟨⟨k+1,by omega,by go_num,Aa,Ag⟩,by simp [intOf];omega⟩
  ·have E:k=256:=by omega
   subst E;obtain ⟨g,c,hv⟩:=cz HO.out (by decide);subst hv;have h256:(256:Int)≤((256:Nat):Int):=by decide
   go_wp2;go_ret;exact ⟨g,c,rfl,HO.out,HB.out⟩
def Wrd (w:World) (wb n:Nat) (R:List Int):Prop :=
 ∀ i,i<n→∃ b c,w.cell? ⟨wb,i,none⟩=some (.slice (some ⟨b,0,none⟩) 4 c)∧∀ j,j<4→w.cell? ⟨b,j,none⟩=some (.int .u8 (R.getD (4*i+j) 0))
def jZ (w:World) (g n:Nat) (R:List Int):Prop :=
 ∃ wb wc tb tc,w.heap[g]?=some (.cells #[.slice (some ⟨wb,0,none⟩) n wc,.slice (some ⟨tb,0,none⟩) 256 tc] 170 (0,0))∧Wrd w wb n R∧∀ j,j<256→w.cell? ⟨tb,j,none⟩=some (.int .u8 (ag.TB.getD j 0))
def za (R S:List Int) (r:Nat):Nat→List Int
 | 0=>[]
 | k+1=>za R S r k++[bits .xor .u8 (S.getD k 0) (R.getD (16*r+k) 0)]
theorem rO (g n:Nat) (R S:List Int) (r:Nat) (hr:r<15) (hn:4*r+4≤n) (C0:n≤60) (sb sc:Nat) (w:World) (hC:jZ w g n R) (hS:∀ j,j<16→w.cell? ⟨sb,j,none⟩=some (.int .u8 (S.getD j 0))) :
  qc 198 #[qp g,.slice (some ⟨sb,0,none⟩) 16 sc,.int .i64 r] w fun e w'=>∃ g c,e = .returned (.slice (some ⟨g,0,none⟩) 16 c)∧w'.ownsRow w.heap.size 5 1 (.slice (some ⟨g,0,none⟩) 16 c) 16 (aC (za R S r 16))∧qw w w':=by
 obtain ⟨i0,hi,hz0,hz1,hz2⟩:=info_parts Tryz.bu;have HC:=qh hC;have HS:=qh hS;clear hC hS;go_enter func198,ntmps198;go_wp2;go_loopw [7,8] (fun v i wr=>∃ k:Nat,k≤16∧i = .int .i64 k∧Hid (wr.ownsRow w.heap.size 5 1 v k (aC (za R S r k)))∧Hid (qw w wr)) (fun _ i _=>16-(intOf i).toNat)
 case atStart=>exact ⟨0,Nat.zero_le _,rfl,by unfold aC za;exact World.ownsRow_nil _ _ _ _,Below.refl _ _⟩
 case round =>
  obtain ⟨k,hk,rfl,HO,HB⟩:=hrel;by_cases Ae:k<16
  ·obtain ⟨q,t,hq,ht,rfl⟩:∃ q t:Nat,q<4∧t<4∧k=4*q+t:=⟨k / 4,k % 4,by omega,by omega,by omega⟩;obtain ⟨wb,wc,tb,tc,h0,hW,_⟩:=HC.out;obtain ⟨b,c,EH,Gj⟩:=hW (4*r+q) (by omega);have h3:=Gj t ht;have e0:=(show w.cell? ⟨g,0,none⟩=some (.slice (some ⟨wb,0,none⟩) n wc) by rw [cell_of_row w g 0 _ _ _ h0];rfl);have c0:=(HB.out.cell (World.block_lt_of_cell? w _ e0)).trans e0;have c1:=(HB.out.cell (World.block_lt_of_cell? w _ EH)).trans EH;have c2:=(HB.out.cell (World.block_lt_of_cell? w _ h3)).trans h3;have h4:=HS.out (4*q+t) Ae;have c3:=(HB.out.cell (World.block_lt_of_cell? w _ h4)).trans h4;have HX:Hid (za R S r (4*q+t)++[bits .xor .u8 (S.getD (4*q+t) 0) (R.getD (4*(4*r+q)+t) 0)]=za R S r (4*q+t+1)):=by
    show _=_;rw [za,show 16*r+(4*q+t)=4*(4*r+q)+t by omega]
   clear h0 hW EH Gj h3 e0 h4;generalize S.getD (4*q+t) 0=y at *;generalize R.getD (4*(4*r+q)+t) 0=z at *;have d1:((4*(q:Int)+t).tdiv 4)=q:=by rw [Int.tdiv_eq_ediv_of_nonneg (by omega)];omega
   have d2:((4*(q:Int)+t).tmod 4)=t:=by rw [Int.tmod_eq_emod_of_nonneg (by omega)];omega
   have d3:IntKind.i64.wrap (4*(r:Int))=4*(r:Int):=IntWalk.i64_in _ ⟨by omega,by omega⟩;have d4:IntKind.i64.wrap (4*(r:Int)+q)=4*(r:Int)+q:=IntWalk.i64_in _ ⟨by omega,by omega⟩;go_wp2;have f1:0≤4*(q:Int)+t:=by omega
   have f2:(4*(q:Int)+t).toNat=4*q+t:=by omega
   have f3:IntKind.i64.wrap (q:Int)=q:=IntWalk.i64_in _ ⟨by omega,by omega⟩;have f4:0≤4*(r:Int)+q:=by omega
   have f5:(4*(r:Int)+q).toNat=4*r+q:=by omega
   have f6:4*(r:Int)+q<(n:Int):=by omega
   have f7:0≤(t:Int):=by omega
   have f8:(t:Int)<4:=by omega
   have f9:((t:Int)).toNat=t:=by omega
   have d0:wr.drew.cell? ⟨g,0,none⟩=some (.slice (some ⟨wb,0,none⟩) n wc):=c0;have d5:wr.drew.cell? ⟨wb,4*r+q,none⟩=some (.slice (some ⟨b,0,none⟩) 4 c):=c1;have d6:wr.drew.cell? ⟨b,t,none⟩=some (.int .u8 z):=c2;have d7:wr.drew.cell? ⟨sb,4*q+t,none⟩=some (.int .u8 y):=c3;go_region_law ((with_reducible refine iu wr _ (.tmp 13) (.tmp 34) w.heap.size u7 (4*q+t) (za R S r (4*q+t)) ?_ ?_ ?_ ?_ HO.out ?_ ?_ ?_);(exact rfl);(exact rfl);(exact rfl);(exact rfl);omega;(exact HB.out.size);intro v' w4 Aa Ac;have Ag:=ia HB.out HB.out.size HO.out Ac)
   all_goals
    rw [HX.out] at Aa;clear Ac HO HB HX;go_wp2;exact ⟨⟨4*q+t+1,by omega,by go_num,Aa,Ag⟩,by simp [intOf];omega⟩
  ·have E:k=16:=by omega
   subst E;obtain ⟨g,c,hv⟩:=cz HO.out (by decide);subst hv;have h16:(16:Int)≤((16:Nat):Int):=by decide
   go_wp2;go_ret;exact ⟨g,c,rfl,HO.out,HB.out⟩
end
section
open Go.RowKit
namespace ag
def mxr (r:Nat→Nat):Nat→List Int
 | 0=>[]
 | k+1=>mxr r k++[((mb (r (4*k)) (r (4*k+1)) (r (4*k+2)) (r (4*k+3)):Nat):Int),((mb (r (4*k+1)) (r (4*k+2)) (r (4*k+3)) (r (4*k)):Nat):Int),((mb (r (4*k+2)) (r (4*k+3)) (r (4*k)) (r (4*k+1)):Nat):Int),((mb (r (4*k+3)) (r (4*k)) (r (4*k+1)) (r (4*k+2)):Nat):Int)]
theorem x4 (a b c d:Nat) (ha:a<256) (hb:b<256) (hc:c<256) (hd:d<256):bits .xor .u8 (bits .xor .u8 (bits .xor .u8 (a:Int) b) c) d=((a ^^^ b ^^^ c ^^^ d:Nat):Int):=by
 rw [fu a b ha hb,fu _ c (x8 ha hb) hc,fu _ d (x8 (x8 ha hb) hc) hd]
theorem agy (a b c d:Nat) (ha:a<256) (hb:b<256) (hc:c<256) (hd:d<256) :
  [bits .xor .u8 (bits .xor .u8 (bits .xor .u8 (tb a:Nat) ((tb b ^^^ b:Nat):Int)) c) d,bits .xor .u8 (bits .xor .u8 (bits .xor .u8 (a:Int) (tb b:Nat)) ((tb c ^^^ c:Nat):Int)) d,
   bits .xor .u8 (bits .xor .u8 (bits .xor .u8 (a:Int) b) (tb c:Nat)) ((tb d ^^^ d:Nat):Int),bits .xor .u8 (bits .xor .u8 (bits .xor .u8 ((tb a ^^^ a:Nat):Int) b) c) (tb d:Nat)]
  = [((mb a b c d:Nat):Int),((mb b c d a:Nat):Int),((mb c d a b:Nat):Int),((mb d a b c:Nat):Int)]:=by
 have t:=fun x (hx:x<256)=>jW x hx;rw [x4 _ _ c d (t a ha) (x8 (t b hb) hb) hc hd,x4 a _ _ d ha (t b hb) (x8 (t c hc) hc) hd,x4 a b _ _ ha hb (t c hc) (x8 (t d hd) hd),x4 _ b c _ (x8 (t a ha) ha) hb hc (t d hd)];unfold mb;have e1:a ^^^ tb b ^^^ (tb c ^^^ c) ^^^ d=tb b ^^^ (tb c ^^^ c) ^^^ d ^^^ a:=by ac_rfl
 have e2:a ^^^ b ^^^ tb c ^^^ (tb d ^^^ d)=tb c ^^^ (tb d ^^^ d) ^^^ a ^^^ b:=by ac_rfl
 have e3:(tb a ^^^ a) ^^^ b ^^^ c ^^^ tb d=tb d ^^^ (tb a ^^^ a) ^^^ b ^^^ c:=by ac_rfl
 rw [e1,e2,e3]
end ag
theorem ux (x:Nat) (hx:x<256) (w:World) :
  qc 188 #[.int .u8 2,.int .u8 x] w fun e w'=>e = .returned (.int .u8 (ag.tb x))∧w'=w:=by
 have h:=iI 2 x hx w;rw [ag.ahj x hx] at h;exact h
theorem uG (x:Nat) (hx:x<256) (w:World) :
  qc 188 #[.int .u8 3,.int .u8 x] w fun e w'=>e = .returned (.int .u8 ((ag.tb x ^^^ x:Nat):Int))∧w'=w:=by
 have h:=iI 3 x hx w;rw [ag.abb x hx] at h;exact h
theorem aaI (l:List Int) (a b c d:Int):aC l++[.int .u8 a,.int .u8 b,.int .u8 c,.int .u8 d]=aC (l++[a,b,c,d]):=by unfold aC;simp
theorem xX {ops:Array Oper} {rest:List Oper} {a:Act} {w0:World} {Q:Exit→Act→World→Prop} {D:Option Tmp} {T:TypeId} {ps:String} {af:Array Edge} (s x:Operand) (y0 y1 y2 y3:Int) (base:Nat) (v:Value) (n:Nat) (l:List Int) (hs:a.eval s=v)
  (hx:a.eval x = .slice (some ⟨w0.heap.size,0,none⟩) 4 4) (Ap:w0.ownsRow base 5 1 v n (aC l)) (hn:n≤1000) (hb:base≤w0.heap.size)
  (h:∀ v' w',w'.ownsRow base 5 1 v' (n+4) (aC (l++[y0,y1,y2,y3]))→(w0.alloc (.cells #[.int .u8 y0,.int .u8 y1,.int .u8 y2,.int .u8 y3] 5)).grownBy w' v.ownBlock→wpList prog ops Q rest (a.put D v') w') :
  wpList prog ops Q ({ dst:=D,op:=.call { callee:=.builtin .append,args:=#[s,x],argTypes:=#[22,22] },type:=T,pos:=ps,after:=af,guard:=none } :: rest) a (w0.alloc (.cells #[.int .u8 y0,.int .u8 y1,.int .u8 y2,.int .u8 y3] 5)):=by
 obtain ⟨i0,hi,hz0,hz1,hz2⟩:=info_parts Tryz.bu;refine wpList_append_own _ rfl s x 22 rfl base 5 i0 (.int .u8 0) 1 1 underlying22 hi hz0 hz1 hz2 rfl (by decide) v n (aC l) hs (Ap.alloc _) ⟨w0.heap.size,0,none⟩ 4 4 [.int .u8 y0,.int .u8 y1,.int .u8 y2,.int .u8 y3] hx rfl ?_ ?_ (by unfold maxLen;omega) (by omega) (by simp;omega) ?_
 ·intro j u hj;rw [Addr.add_mid,Nat.zero_add,cell_of_row (w0.alloc (.cells #[.int .u8 y0,.int .u8 y1,.int .u8 y2,.int .u8 y3] 5)) w0.heap.size j _ _ _ (heap_alloc_new w0 _)];simpa using hj
 ·intro u hu;simp at hu;rcases hu with rfl | rfl | rfl | rfl<;>rfl
 ·intro v' w' h1 h2 _;rw [aaI] at h1;exact h v' w' h1 h2
theorem yW (r:Nat→Nat) (hr:∀ j,j<16→r j<256) (sb sc:Nat) (w:World) (hS:∀ j,j<16→w.cell? ⟨sb,j,none⟩=some (.int .u8 (r j:Nat))) :
  qc 199 #[.slice (some ⟨sb,0,none⟩) 16 sc] w fun e w'=>∃ g c,e = .returned (.slice (some ⟨g,0,none⟩) 16 c)∧w'.ownsRow w.heap.size 5 1 (.slice (some ⟨g,0,none⟩) 16 c) 16 (aC (ag.mxr r 4))∧qw w w':=by
 obtain ⟨i0,hi,hz0,hz1,hz2⟩:=info_parts Tryz.bu;have HS:=qh hS;clear hS;have HR:=qh hr;clear hr;go_enter func199,ntmps199;go_wp2;go_loopw [3,4] (fun v i wr=>∃ k:Nat,k≤4∧i = .int .i64 k∧Hid (wr.ownsRow w.heap.size 5 1 v (4*k) (aC (ag.mxr r k)))∧Hid (qw w wr)) (fun _ i _=>4-(intOf i).toNat)
 case atStart=>exact ⟨0,Nat.zero_le _,rfl,by unfold aC ag.mxr;exact World.ownsRow_nil _ _ _ _,Below.refl _ _⟩
 case round =>
  obtain ⟨k,hk,rfl,HO,HB⟩:=hrel;by_cases Ae:k<4
  ·have HF:Hid (∀ x,qw w x→x.cell? ⟨sb,4*k,none⟩=some (.int .u8 (r (4*k):Nat))∧x.cell? ⟨sb,4*k+1,none⟩=some (.int .u8 (r (4*k+1):Nat))∧x.cell? ⟨sb,4*k+2,none⟩=some (.int .u8 (r (4*k+2):Nat))∧x.cell? ⟨sb,4*k+3,none⟩=some (.int .u8 (r (4*k+3):Nat))):=fun x hx=>by
    have f:∀ j,j<16→x.cell? ⟨sb,j,none⟩=some (.int .u8 (r j:Nat)):=fun j hj=>by
     have e:=HS.out j hj;exact (hx.cell (World.block_lt_of_cell? w _ e)).trans e
    exact ⟨f _ (by omega),f _ (by omega),f _ (by omega),f _ (by omega)⟩
   obtain ⟨c0,c1,c2,c3⟩:=HF.out _ HB.out;have p0:=HR.out (4*k) (by omega);have p1:=HR.out (4*k+1) (by omega);have p2:=HR.out (4*k+2) (by omega);have p3:=HR.out (4*k+3) (by omega);have HX:Hid (ag.mxr r (k+1)=ag.mxr r k++[((ag.mb (r (4*k)) (r (4*k+1)) (r (4*k+2)) (r (4*k+3)):Nat):Int),((ag.mb (r (4*k+1)) (r (4*k+2)) (r (4*k+3)) (r (4*k)):Nat):Int),((ag.mb (r (4*k+2)) (r (4*k+3)) (r (4*k)) (r (4*k+1)):Nat):Int),((ag.mb (r (4*k+3)) (r (4*k)) (r (4*k+1)) (r (4*k+2)):Nat):Int)]):=by show _=_;rw [ag.mxr]
   generalize r (4*k)=x0 at *;generalize r (4*k+1)=x1 at *;generalize r (4*k+2)=x2 at *;generalize r (4*k+3)=x3 at *;have Ah:IntKind.i64.wrap (4*(k:Int))=4*(k:Int):=IntWalk.i64_in _ ⟨by omega,by omega⟩;have Aq:IntKind.i64.wrap (4*(k:Int)+1)=4*(k:Int)+1:=IntWalk.i64_in _ ⟨by omega,by omega⟩;have Ba:IntKind.i64.wrap (4*(k:Int)+2)=4*(k:Int)+2:=IntWalk.i64_in _ ⟨by omega,by omega⟩;have AH:IntKind.i64.wrap (4*(k:Int)+3)=4*(k:Int)+3:=IntWalk.i64_in _ ⟨by omega,by omega⟩;have Nx:(4*(k:Int)).toNat=4*k:=by omega
   have FC:(4*(k:Int)+1).toNat=4*k+1:=by omega
   have KG:(4*(k:Int)+2).toNat=4*k+2:=by omega
   have Pz:(4*(k:Int)+3).toNat=4*k+3:=by omega
   have GS:0≤4*(k:Int):=by omega
   have Jd:0≤4*(k:Int)+1:=by omega
   have C0:0≤4*(k:Int)+2:=by omega
   have Mf:0≤4*(k:Int)+3:=by omega
   have Nr:4*(k:Int)<16:=by omega
   have Cf:4*(k:Int)+1<16:=by omega
   have AP:4*(k:Int)+2<16:=by omega
   have FA:4*(k:Int)+3<16:=by omega
   go_wp2;have d0:wr.drew.cell? ⟨sb,4*k,none⟩=some (.int .u8 (x0:Nat)):=c0;have d1:wr.drew.cell? ⟨sb,4*k+1,none⟩=some (.int .u8 (x1:Nat)):=c1;have d2:wr.drew.cell? ⟨sb,4*k+2,none⟩=some (.int .u8 (x2:Nat)):=c2;have d3:wr.drew.cell? ⟨sb,4*k+3,none⟩=some (.int .u8 (x3:Nat)):=c3;go_still (by kernel_rfl)
   change Exit.then _ _ _ _ wr.drew;have AA:Hid (wr.drew.ownsRow w.heap.size 5 1 u3 (4*k) (aC (ag.mxr r k))):=HO.out.drew;have Aj:Hid (qw w wr.drew):=HB.out.drew;clear c0 c1 c2 c3 d0 d1 d2 d3 HO HB Ah Aq Ba AH Nx FC KG Pz GS Jd C0 Mf Nr Cf AP FA;generalize wr.drew=wA at *;go_wp2_with (first
    | (go_at_call 188;with_reducible (first | refine (ux _ ?_ _).mono ?_ | refine (uG _ ?_ _).mono ?_);assumption;rintro e w2 ⟨rfl,rfl⟩)
    | ((with_reducible refine xX _ _ _ _ _ _ w.heap.size u3 (4*k) (ag.mxr r k) ?_ ?_ AA.out ?_ ?_ ?_);(exact rfl);(exact rfl);omega;(exact Aj.out.size);intro v' w5 Ap Ac;have Ay:Hid (qw w w5):=(Aj.out.alloc Aj.out.size _).grown Ac (by have:=Aj.out.size;simp;omega) (fun j hj=>(AA.out.lt j hj).1);clear Ac)
    | go_in)
   rw [ag.agy x0 x1 x2 x3 p0 p1 p2 p3,← HX.out] at Ap;exact ⟨⟨k+1,by omega,by go_num,Ap,Ay⟩,by simp [intOf];omega⟩
  ·have E:k=4:=by omega
   subst E;obtain ⟨g,c,hv⟩:=cz HO.out (by decide);subst hv;have h16:(4:Int)≤((4:Nat):Int):=by decide
   go_wp2;go_ret;exact ⟨g,c,rfl,HO.out,HB.out⟩
end
end
end Go.Proofs.YthgjfjmampmiiaaGreatDoor

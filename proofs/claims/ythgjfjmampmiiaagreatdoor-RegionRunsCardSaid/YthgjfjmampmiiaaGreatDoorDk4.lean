/-
  DkX1, DkX2, DkX3 (merged)
-/
import Derived.Test.YthgjfjmampmiiaaGreatDoorDk3
namespace Go.Proofs.YthgjfjmampmiiaaGreatDoor
open Go.Proofs.Tryz
set_option maxHeartbeats 4000000
set_option maxRecDepth 100000
section
open Go.RowKit
namespace Dk
abbrev S:=Nat × List Int
def cI (F:Nat→Option (List Int)):Nat→List S
 | 0=>[]
 | n+1=>cI F n++(match F n with | some L=>[(n,L)] | none=>[])
theorem da {F:Nat→Option (List Int)} {n:Nat} (h:F n=none):cI F (n+1)=cI F n:=by rw [cI,h];simp
theorem dP {F:Nat→Option (List Int)} {n:Nat} {L:List Int} (h:F n=some L):cI F (n+1)=cI F n++[(n,L)]:=by rw [cI,h]
theorem nJ {F G:Nat→Option (List Int)}:∀ (n:Nat),(∀ i,i<n→F i=G i)→cI F n=cI G n
 | 0,_=>rfl
 | n+1,h=>by rw [cI,cI,nJ n (fun i hi=>h i (by omega)),h n (by omega)]
theorem ly (n:Nat):cI (fun _=>none) n = []:=by
 induction n with
 | zero=>rfl
 | succ n ih=>rw [da rfl,ih]
theorem lO {F:Nat→Option (List Int)}:∀ (n:Nat) (x:S),x∈cI F n→x.1<n∧F x.1=some x.2
 | 0,x,h=>by cases h
 | n+1,x,h=>by
  cases e:F n with
  | none=>rw [da e] at h;have:=lO n x h;exact ⟨by omega,this.2⟩
  | some L =>
   rw [dP e] at h;rcases List.mem_append.1 h with h | h
   ·have:=lO n x h;exact ⟨by omega,this.2⟩
   ·obtain rfl:=List.mem_singleton.1 h;exact ⟨by show n<_;omega,e⟩
theorem eB (F:Nat→Option (List Int)):∀ n,(cI F n).length≤n
 | 0=>Nat.le_refl _
 | n+1=>by
  have:=eB F n;rw [cI,List.length_append];cases F n<;>simp<;>omega
def del (l:List S) (i:Nat):List S:=l.filter fun x=>decide (x.1 ≠ i)
theorem pj (F:Nat→Option (List Int)) (i:Nat):∀ n,del (cI F n) i=cI (aZ F i none) n
 | 0=>rfl
 | n+1=>by
  have ih:=pj F i n;by_cases h:n=i
  ·subst h;rw [da (az _ _ _),← ih];cases e:F n with
   | none=>rw [da e]
   | some L=>rw [dP e];unfold del;rw [List.filter_append];simp
  ·cases e:F n with
   | none=>rw [da e,da (by rw [aq _ _ h,e]),ih]
   | some L =>
    rw [dP e,dP (L:=L) (by rw [aq _ _ h,e]),← ih];unfold del;rw [List.filter_append];simp [h]
def jx (s:S) (r:List S × Bool) (x:S):List S × Bool:=if r.2=false∧s.1<x.1 then (r.1++[s]++[x],true) else (r.1++[x],r.2)
def ins (l:List S) (s:S):List S:=let r:=(del l s.1).foldl (jx s) ([],false);if r.2 then r.1 else r.1++[s]
theorem sW (F:Nat→Option (List Int)) (i:Nat) (L:List Int):∀ n,∃ r,(cI (aZ F i none) n).foldl (jx (i,L)) ([],false)=r∧(n≤i→r.2=false)∧(r.2=true→r.1=cI (aZ F i (some L)) n)∧(r.2=false→r.1=cI (aZ F i none) n∧(i<n→cI (aZ F i (some L)) n=r.1++[(i,L)]))
 | 0=>⟨([],false),rfl,fun _=>rfl,(fun h=>by cases h),fun _=>⟨rfl,fun h=>by omega⟩⟩
 | n+1=>by
  obtain ⟨r,h0,h1,h2,h3⟩:=sW F i L n;by_cases h:n=i
  ·subst h;rw [da (az _ _ _)];refine ⟨r,h0,fun h=>by omega,fun e=>?_,fun e=>⟨(h3 e).1,fun _=>?_⟩⟩
   ·rw [h1 qn] at e;cases e
   ·rw [dP (az _ _ _),(h3 e).1];congr 1;exact nJ n (fun j hj=>by rw [aq _ _ (by omega),aq _ _ (by omega)])
  ·cases e:F n with
   | none =>
    rw [da (by rw [aq _ _ h,e]),da (by rw [aq _ _ h,e])];refine ⟨r,h0,fun h=>h1 (by omega),h2,fun q=>⟨(h3 q).1,fun hi=>(h3 q).2 (by omega)⟩⟩
   | some M =>
    rw [dP (L:=M) (by rw [aq _ _ h,e]),dP (L:=M) (by rw [aq _ _ h,e]),List.foldl_append,h0];show ∃ q,jx (i,L) r (n,M)=q∧_;refine ⟨_,rfl,?_⟩;unfold jx;by_cases hc:r.2=false∧i<n
    ·rw [if_pos (show r.2=false∧(i,L).1<(n,M).1 from hc)];refine ⟨fun h=>by omega,fun _=>?_,fun q=>by cases q⟩;show r.1++[(i,L)]++[(n,M)]=_;rw [(h3 hc.1).2 hc.2]
    ·rw [if_neg (show ¬ (r.2=false∧(i,L).1<(n,M).1) from hc)];refine ⟨fun h=>h1 (by omega),fun q=>?_,fun q=>⟨?_,fun hi=>?_⟩⟩
     ·show r.1++[(n,M)]=_;rw [h2 q]
     ·show r.1++[(n,M)]=_;rw [(h3 q).1]
     ·exact absurd ⟨q,by omega⟩ hc
theorem lJ (F:Nat→Option (List Int)) (i:Nat) (L:List Int) (n:Nat) (hi:i<n):ins (cI F n) (i,L)=cI (aZ F i (some L)) n:=by
 unfold ins;show (let r:=(del (cI F n) i).foldl (jx (i,L)) ([],false);if r.2 then r.1 else r.1++[(i,L)])=_;rw [pj];obtain ⟨r,h0,_,h2,h3⟩:=sW F i L n;rw [h0];show (if r.2 then r.1 else r.1++[(i,L)])=_;cases e:r.2 with
 | true=>exact h2 e
 | false=>exact ((h3 e).2 hi).symm
def vH (l:List S) (i:Nat):Option (List Int):=(l.find? fun x=>decide (x.1=i)).map (·.2)
theorem pz (F:Nat→Option (List Int)) (i:Nat):∀ n,vH (cI F n) i=if i<n then F i else none
 | 0=>rfl
 | n+1=>by
  have ih:=pz F i n;unfold vH at ih ⊢;cases e:F n with
  | none =>
   rw [da e,ih];by_cases h:i<n
   ·rw [if_pos h,if_pos (by omega)]
   ·rw [if_neg h];by_cases h1:i=n
    ·subst h1;rw [if_pos (by omega),e]
    ·rw [if_neg (by omega)]
  | some L =>
   rw [dP e,List.find?_append,Option.map_or,ih];by_cases h:i<n
   ·rw [if_pos h,if_pos (by omega)];cases F i with
    | some _=>rfl
    | none =>
     have:¬ n=i:=by omega
     simp [this]
   ·rw [if_neg h];by_cases h1:i=n
    ·subst h1;rw [if_pos (by omega),e];simp
    ·rw [if_neg (by omega)];have:¬ n=i:=by omega
     simp [this]
theorem pW (F:Nat→Option (List Int)):∀ n,(cI F n).map (·.1)=(List.range n).filter fun i=>(F i).isSome
 | 0=>rfl
 | n+1=>by
  rw [List.range_succ,List.filter_append,← pW F n];cases e:F n with
  | none=>rw [da e];simp [e]
  | some L=>rw [dP e];simp [e]
end Dk
end
section
open Go.RowKit
def eN (B:Nat) (y:World) (U:Nat→Prop) (v:Value) (l:List Dk.S):Prop :=
 ∃ xs,y.ownsRow B 140 2 v l.length xs∧∀ (j:Nat) (x:Dk.S),l[j]?=some x→∃ u,xs[j*2]?=some (.int .i64 (x.1:Nat))∧xs[j*2+1]?=some u∧j3 y U u x.2
section
variable {B:Nat} {y z:World} {U U':Nat→Prop} {v:Value} {l:List Dk.S}
theorem iK (B:Nat) (y:World) (U:Nat→Prop):eN B y U (.slice none 0 0) []:=⟨[],World.ownsRow_nil _ _ _ _,fun j x hx=>by simp at hx⟩
theorem eN.aG (h:eN B y U v l) (ho:∀ g,v.ownBlock=some g→z.heap[g]?=y.heap[g]?) (hk:∀ (g:Nat) (cur:Array Value),U g→y.heap[g]?=qo cur 5→z.heap[g]?=y.heap[g]?):eN B z U v l:=by
 obtain ⟨xs,h1,h2⟩:=h;exact ⟨xs,fc h1 ho,fun j x hx=>by
  obtain ⟨u,a,b,c⟩:=h2 j x hx;exact ⟨u,a,b,c.aG hk⟩⟩
theorem eN.lift (h:eN B y U v l) (hU:∀ g,U g→U' g):eN B y U' v l:=by
 obtain ⟨xs,h1,h2⟩:=h;exact ⟨xs,h1,fun j x hx=>by
  obtain ⟨u,a,b,c⟩:=h2 j x hx;exact ⟨u,a,b,c.lift hU⟩⟩
theorem eN.type (h:eN B y U v l):∀ g,v.ownBlock=some g→B≤g∧∃ cur,y.heap[g]?=qo cur 140:=by
 obtain ⟨xs,h1,_⟩:=h;exact dY h1
theorem eN.av (h:eN B y U v l) (hb:qw y z):eN B z U v l :=
 h.aG (fun g hg=>by obtain ⟨_,cur,h2⟩:=h.type g hg;exact hb.block _ (lt_of_block h2)) (fun g cur _ hc=>hb.block _ (lt_of_block hc))
theorem eN.low (h:eN B y U v l):eN 0 y U v l:=by
 obtain ⟨xs,h1,h2⟩:=h;refine ⟨xs,⟨h1.1,?_⟩,h2⟩;rcases h1.2 with h3 | ⟨g,cap,cur,h3,h4,h5⟩
 ·exact Or.inl h3
 ·exact Or.inr ⟨g,cap,cur,h3,Nat.zero_le _,h5⟩
theorem eN.len (h:eN B y U v l):∃ a cap,v = .slice a l.length cap∧(0<l.length→∃ gs,a=some ⟨gs,0,none⟩):=by
 obtain ⟨xs,h1,_⟩:=h;rcases h1.2 with ⟨h2,h3⟩ | ⟨g,cap,cur,h2,_⟩
 ·exact ⟨none,0,by rw [h2,h3],fun h0=>by omega⟩
 ·exact ⟨_,cap,h2,fun _=>⟨g,rfl⟩⟩
theorem eN.at {gs n cap:Nat} (h:eN B y U (.slice (some ⟨gs,0,none⟩) n cap) l) {j:Nat} {x:Dk.S} (hx:l[j]?=some x):∃ u,y.cell? ⟨gs,j*2,none⟩=some (.int .i64 (x.1:Nat))∧y.cell? ⟨gs,j*2+1,none⟩=some u∧j3 y U u x.2:=by
 obtain ⟨xs,h1,h2⟩:=h;obtain ⟨u,a,b,c⟩:=h2 j x hx;have hj:=(List.getElem?_eq_some_iff.1 hx).1;rcases h1.2 with ⟨h6,_⟩ | ⟨g,AO,cur,h6,_,h7,_,_,_,h8⟩
 ·cases h6
 ·cases h6
  have key:∀ i v,i<l.length*2→xs[i]?=some v→y.cell? ⟨gs,i,none⟩=some v:=fun i v hi hv=>by
   rw [← h8,List.getElem?_take_of_lt hi] at hv;rw [cell_of_row y gs i _ _ _ h7];simpa using hv
  exact ⟨u,key _ _ (by omega) a,key _ _ (by omega) b,c⟩
end
theorem j3.av {w y:World} {T:Nat→Prop} {v:Value} {L:List Int} (h:j3 w T v L) (hb:qw w y):j3 y T v L:=h.aG (fun g cur _ hc=>hb.block g (lt_of_block hc))
theorem eu (w:World) (a b:Value) (t:TypeId):∀ j v,[a,b][j]?=some v→(w.alloc (.cells #[a,b] t)).cell? ⟨w.heap.size,j,none⟩=some v:=fun j v h=>by
 rw [cell_of_row _ _ j _ _ _ (heap_alloc_new w _)];simpa using h
theorem bL (w:World) (o:Obj):qw w (w.alloc o):=qb w _
theorem Tryz.uO:(prog.info? 140).map (fun i=>(i.zero,i.size,i.bytes))=some (some (.agg #[.int .i64 0,.slice none 0 0]),2,32):=by kernel_rfl
theorem ew {ops:Array Oper} {rest:List Oper} {a:Act} {w:World} {Q:Exit→Act→World→Prop} {D:Option Tmp} {T:TypeId} {ps:String} {af:Array Edge} (s x:Operand) (B:Nat) (V:Value) (l:List Dk.S) (z:Dk.S) (U:Nat→Prop) (q:Nat) (u:Value)
  (hs:a.eval s=V) (hx:a.eval x = .slice (some ⟨q,0,none⟩) 1 1) (ho:eN B w U V l) (hc:∀ j v,[Value.int .i64 (z.1:Nat),u][j]?=some v→w.cell? ⟨q,j,none⟩=some v) (hu:j3 w U u z.2) (hk:l.length≤1000000) (hB:B≤w.heap.size)
  (h:∀ v' w',Hid (eN B w' U v' (l++[z]))→Hid (w.grownBy w' V.ownBlock)→wpList prog ops Q rest (a.put D v') w') :
  wpList prog ops Q ({ dst:=D,op:=.call { callee:=.builtin .append,args:=#[s,x],argTypes:=#[75,75] },type:=T,pos:=ps,after:=af,guard:=none } :: rest) a w:=by
 obtain ⟨i0,hi,hz0,hz1,hz2⟩:=info_parts Tryz.uO;obtain ⟨xs,h1,h2⟩:=ho;obtain ⟨p,cc,Mw,_⟩:=hu.bs;refine wpList_append_own_at _ rfl s x 75 rfl B 140 i0 (.agg #[.int .i64 0,.slice none 0 0]) 2 32 underlying75 hi hz0 hz1 hz2 rfl (by decide) V l.length xs hs h1 ⟨q,0,none⟩ 1 1 [.int .i64 (z.1:Nat),u] hx rfl (fun j v hj=>?_) (fun v hv=>?_) (by unfold maxLen;omega) (by omega) hB ?_
 ·have hq:((⟨q,0,none⟩:Addr).add j) = ⟨q,j,none⟩:=by simp [Addr.add];try omega
  rw [hq];exact hc j v hj
 ·simp at hv;rcases hv with rfl | rfl
  ·rfl
  ·rw [Mw];rfl
 ·intro v' w' k1 k2 _ _;have Cq:∀ (n:Nat) (t:Value) (ys:List Value),w.ownsRow 0 5 1 t n ys→∀ g,t.ownBlock=some g→some g ≠ V.ownBlock:=fun n t ys ht g hg e=>by
   obtain ⟨_,cur,h5⟩:=dY ht g hg;obtain ⟨_,cur',h6⟩:=dY h1 g e.symm;rw [h5] at h6;injection Option.some.inj h6 with _ h7 _
   exact absurd h7 (by decide)
  have Mr:∀ (t:Value) (M:List Int),j3 w U t M→j3 w' U t M:=fun t M ht=>⟨fc ht.1 (fun g hg=>k2.block g (by obtain ⟨_,cur,h5⟩:=dY ht.1 g hg;exact lt_of_block h5) (Cq _ _ _ ht.1 g hg)),ht.2.1,ht.2.2⟩;have Rc:xs.length=l.length*2:=h1.1;refine h v' w' (qh ⟨_,by rw [List.length_append];exact k1,fun j y hy=>?_⟩) (qh k2);by_cases GO:j<l.length
  ·rw [List.getElem?_append_left GO] at hy;obtain ⟨t,a1,a2,a3⟩:=h2 j y hy;exact ⟨t,by rw [List.getElem?_append_left (by omega)];exact a1,by rw [List.getElem?_append_left (by omega)];exact a2,Mr _ _ a3⟩
  ·have Cp:=(List.getElem?_eq_some_iff.1 hy).1;rw [List.length_append,List.length_singleton] at Cp;obtain rfl:j=l.length:=by omega
   rw [List.getElem?_append_right qn] at hy;simp at hy;subst hy;exact ⟨u,by rw [List.getElem?_append_right (by omega),Rc];simp,by rw [List.getElem?_append_right (by omega),Rc,show l.length*2+1-l.length*2=1 by omega];rfl,Mr _ _ hu⟩
theorem kO (l:List Dk.S) (i:Nat) (U:Nat→Prop) (v:Value) (w:World) (hl:eN 0 w U v l) (hn:l.length≤5000):qc 84 #[v,.int .i64 (i:Int)] w fun e w'=>∃ v',e = .returned v'∧Hid (eN w.heap.size w' U v' (Dk.del l i))∧qw w w':=by
 obtain ⟨a,cap,rfl,ha⟩:=hl.len;have HL:=qh hl;have HA:=qh ha;clear hl ha;go_enter func84,ntmps84;go_upto_region 3 with (fail)
 go_loopw [5,6] (fun v5 v6 wr=>∃ k:Nat,k≤l.length∧v6 = .int .i64 k∧Hid (eN w.heap.size wr U v5 (Dk.del (l.take k) i))∧Hid (qw w wr)) (fun _ v6 _=>l.length-(intOf v6).toNat)
 case atStart=>exact ⟨0,Nat.zero_le _,rfl,qh (iK _ _ _),qh (Below.refl _ _)⟩
 case round =>
  obtain ⟨k,hk,rfl,HO,HB⟩:=hrel;by_cases Ae:k<l.length
  ·obtain ⟨x,hx⟩:∃ x,l[k]?=some x:=⟨_,List.getElem?_eq_getElem Ae⟩;obtain ⟨gs,rfl⟩:=HA.out (by omega);obtain ⟨u,c0,c1,hu⟩:=(HL.out.av HB.out).at hx;have GP:(0:Int)≤(k:Int):=by omega
   have Ec:(k:Int)<(l.length:Int):=by omega
   have HT:Hid (Dk.del (l.take (k+1)) i=if x.1=i then Dk.del (l.take k) i else Dk.del (l.take k) i++[x]):=by
    show _=_;rw [List.take_add_one,hx];unfold Dk.del;rw [List.filter_append];by_cases e:x.1=i<;>simp [e]
   have HU:=qh hu;have DA:Hid ((Dk.del (l.take k) i).length≤5000):=by
    show _≤_;unfold Dk.del;have:=List.length_filter_le (fun x:Dk.S=>decide (x.1 ≠ i)) (l.take k);rw [List.length_take] at this;omega
   clear hx hu;obtain ⟨p,c,Mw,_⟩:=HU.out.bs;by_cases e:x.1=i
   ·have Fk:(x.1:Int)=(i:Int):=by omega
    rw [Fk] at c0;go_wp2;exact ⟨⟨k+1,by omega,by go_num,by rw [HT.out,if_pos e];exact HO,HB⟩,by simp [intOf];omega⟩
   ·have Fk:((x.1:Int) != (i:Int))=true:=by simp;omega
    subst Mw;go_upto_region 6 with (fail)
    go_wp2_with ((with_reducible refine ew _ _ w.heap.size _ (Dk.del (l.take k) i) x U _ (.slice p x.2.length c) ?_ ?_ (HO.out.av (bL wr _)) (eu wr _ _ _) (HU.out.av (bL wr _)) ?_ ?_ ?_);(exact rfl);(exact rfl);(have:=DA.out;omega);(have:=HB.out.size;simp;omega);intro v7 w7 EG Co;have DD:=qh EG.out;have AU:Hid (qw w w7):=(HB.out.trans ((bL wr _).mono HB.out.size)).grown Co.out (by have:=HB.out.size;simp;omega) (fun g hg=>(HO.out.type g hg).1);clear EG Co)
    exact ⟨⟨k+1,by omega,by go_num,by rw [HT.out,if_neg e];exact DD,AU⟩,by simp [intOf];omega⟩
  ·go_wp2;go_ret;have e:l.take k=l:=List.take_of_length_le (by omega);rw [e] at HO;exact ⟨_,rfl,HO,HB.out⟩
end
section
open Go.RowKit
theorem eN.sub {B B':Nat} {y:World} {U:Nat→Prop} {v:Value} {l:List Dk.S} (h:eN B y U v l) (hB:B'≤B):eN B' y U v l:=by
 obtain ⟨xs,h1,h2⟩:=h;refine ⟨xs,⟨h1.1,?_⟩,h2⟩;rcases h1.2 with h3 | ⟨g,cap,cur,h3,h4,h5⟩
 ·exact Or.inl h3
 ·exact Or.inr ⟨g,cap,cur,h3,by omega,h5⟩
theorem eN.acf {B:Nat} {x y z:World} {U:Nat→Prop} {v:Value} {l:List Dk.S} {o:Obj} (h:eN B y U v l) (hb:Below B x y) (hB:B≤x.heap.size) (hg:(y.alloc o).grownBy z v.ownBlock):Below B x z :=
 (hb.trans ((bL y o).mono (Nat.le_trans hB hb.size))).grown hg (by have:=hb.size;simp;omega) (fun g hg=>(h.type g hg).1)
theorem Dk.adn (l:List Dk.S) (i:Nat):(Dk.del l i).length≤l.length:=List.length_filter_le _ _
theorem gJ (l:List Dk.S) (s:Dk.S) (U:Nat→Prop) (v:Value) (p:Option Addr) (c:Nat) (w:World) (hl:eN 0 w U v l) (hs:j3 w U (.slice p s.2.length c) s.2) (hn:l.length≤5000):qc 83 #[v,.agg #[.int .i64 (s.1:Nat),.slice p s.2.length c]] w fun e w'=>∃ v',e = .returned v'∧Hid (eN w.heap.size w' U v' (Dk.ins l s))∧Hid (qw w w'):=by
 obtain ⟨w1,HX⟩:∃ w1:World,Hid (w1=w.alloc (.cells #[.int .i64 (s.1:Nat),.slice p s.2.length c] 140)):=⟨_,rfl⟩;have B1:Hid (qw w w1):=by show Below _ _ _;rw [HX.out];exact bL _ _
 have HC:Hid (∀ y,qw w1 y→y.cell? ⟨w.heap.size,0,none⟩=some (.int .i64 (s.1:Nat))∧y.cell? ⟨w.heap.size,1,none⟩=some (.slice p s.2.length c)):=fun y hy=>by
  have h:=eu w (.int .i64 (s.1:Nat)) (.slice p s.2.length c) 140;rw [← HX.out] at h;have h0:=h 0 _ rfl;have h1:=h 1 _ rfl;exact ⟨(hy.cell (World.block_lt_of_cell? _ _ h0)).trans h0,(hy.cell (World.block_lt_of_cell? _ _ h1)).trans h1⟩
 have HL:=qh (hl.av B1.out);have HS:=qh (hs.av B1.out);have HN:=qh hn;clear hl hs;go_enter func83,ntmps83;go_upto_region 1 with (fail)
 rw [← HX.out];obtain ⟨b0,b1⟩:=HC.out w1 (Below.refl _ _);go_upto_region 5 with (go_at_call 84;refine (kO l s.1 U v w1 HL.out HN.out).mono ?_;rintro e2 w2 ⟨v2,rfl,Dq,Al⟩;have AD:=qh Dq.out;have B2:=qh Al;clear Dq Al)
 clear b0 b1;obtain ⟨l',Fy⟩:∃ l',Hid (Dk.del l s.1=l'):=⟨_,rfl⟩;rw [Fy.out] at AD;have N3:Hid (l'.length≤5000):=by show _≤_;rw [← Fy.out];exact Nat.le_trans (Dk.adn _ _) HN.out
 obtain ⟨a2,cap2,rfl,IY⟩:=AD.out.len;have Ak:=qh IY;have Ar:=qh (HS.out.av B2.out);have NW:=qh AD.out.low;have ES:Hid (∀ y,qw w2 y→y.cell? ⟨w.heap.size,0,none⟩=some (.int .i64 (s.1:Nat))∧y.cell? ⟨w.heap.size,1,none⟩=some (.slice p s.2.length c)):=fun y hy=>HC.out y (B2.out.trans (hy.mono B2.out.size));clear IY AD HS HL HC;go_loopw [5,6,7] (fun v5 v6 v7 wr=>∃ (k:Nat) (r:List Dk.S × Bool),k≤l'.length∧v7 = .int .i64 k∧v6 = .bool r.2∧Hid (r=(l'.take k).foldl (Dk.jx s) ([],false))∧Hid (r.1.length≤2*k)∧Hid (eN w2.heap.size wr U v5 r.1)∧Hid (qw w2 wr)) (fun _ _ v7 _=>l'.length-(intOf v7).toNat)
 case atStart=>exact ⟨0,([],false),Nat.zero_le _,rfl,rfl,qh rfl,qh qn,qh (iK _ _ _),qh (Below.refl _ _)⟩
 case round =>
  obtain ⟨k,r,hk,rfl,rfl,HR,Lo,HO,HB⟩:=hrel;by_cases Ae:k<l'.length
  ·obtain ⟨x,hx⟩:∃ x,l'[k]?=some x:=⟨_,List.getElem?_eq_getElem Ae⟩;obtain ⟨gs,rfl⟩:=Ak.out (by omega);have HT:Hid ((l'.take (k+1)).foldl (Dk.jx s) ([],false)=Dk.jx s r x):=by
    show _=_;rw [List.take_add_one,hx,List.foldl_append,← HR.out]
    rfl
   have Dg:=N3.out;have GP:(0:Int)≤(k:Int):=by omega
   have Ec:(k:Int)<(l'.length:Int):=by omega
   have HE:Hid (∃ u cu,∀ y,qw w2 y→y.cell? ⟨gs,k*2,none⟩=some (.int .i64 (x.1:Nat))∧y.cell? ⟨gs,k*2+1,none⟩=some (.slice u x.2.length cu)∧j3 y U (.slice u x.2.length cu) x.2):=by
    obtain ⟨u,c0,c1,hu⟩:=NW.out.at hx;obtain ⟨q,cq,rfl,_⟩:=hu.bs;exact ⟨q,cq,fun y hy=>⟨(hy.cell (World.block_lt_of_cell? _ _ c0)).trans c0,(hy.cell (World.block_lt_of_cell? _ _ c1)).trans c1,hu.av hy⟩⟩
   obtain ⟨u,cu,HE⟩:=HE.out;have HE:=qh HE;have HK:Hid (r.1.length≤10000):=by show _≤_;have:=Lo.out;have:=N3.out;omega
   obtain ⟨c0,c1,_⟩:=HE.out _ HB.out;obtain ⟨b0,b1⟩:=ES.out _ HB.out;clear hx;cases hr:r.2 with
   | true =>
    have CK:Hid (Dk.jx s r x=(r.1++[x],true)):=by show _=_;unfold Dk.jx;rw [hr,if_neg (by simp)]
    as_aux_lemma =>
    go_upto_region 7 with (fail)
    go_quiet (fail)
    obtain ⟨y0,F6⟩:∃ y,Hid (wr.drewN nq=y):=⟨_,rfl⟩;have Cc:=qh (HO.out.av (bI (Below.refl _ wr) nq));have Bd:Hid (qw w2 y0):=by show Below _ _ _;rw [← F6.out];exact bI HB.out nq
    rw [F6.out] at Cc ⊢;clear F6 HO HB c0 c1 b0 b1;obtain ⟨c0,c1,_⟩:=HE.out _ Bd.out;obtain ⟨b0,b1⟩:=ES.out _ Bd.out;go_wp2_with ((with_reducible refine ew _ _ w2.heap.size _ r.1 x U _ (.slice u x.2.length cu) ?_ ?_ (Cc.out.av (bL y0 _)) (eu y0 _ _ _) (((HE.out _ Bd.out).2.2).av (bL y0 _)) ?_ ?_ ?_);(exact rfl);(exact rfl);(have:=HK.out;simp;omega);(have:=Bd.out.size;simp;omega);intro v7 w7 EG Co;have DD:=qh EG.out;have AU:Hid (qw w2 w7):=Cc.out.acf Bd.out qn Co.out;clear EG Co)
    exact ⟨⟨k+1,(r.1++[x],true),by omega,by go_num,rfl,qh (HT.out.trans CK.out).symm,qh (by have:=Lo.out;simp;omega),DD,AU⟩,by simp [intOf];omega⟩
   | false =>
    by_cases QY:s.1<x.1
    ·have CK:Hid (Dk.jx s r x=(r.1++[s]++[x],true)):=by show _=_;unfold Dk.jx;rw [if_pos ⟨hr,QY⟩]
     have Pt:(s.1:Int)<(x.1:Int):=by omega
     as_aux_lemma =>
     go_upto_region 7 with (fail)
     go_quiet (fail)
     obtain ⟨y0,F6⟩:∃ y,Hid (wr.drewN nq=y):=⟨_,rfl⟩;have Cc:=qh (HO.out.av (bI (Below.refl _ wr) nq));have Bd:Hid (qw w2 y0):=by show Below _ _ _;rw [← F6.out];exact bI HB.out nq
     rw [F6.out] at Cc ⊢;clear F6 HO HB c0 c1 b0 b1;obtain ⟨c0,c1,_⟩:=HE.out _ Bd.out;obtain ⟨b0,b1⟩:=ES.out _ Bd.out;go_wp2_with (first
      | ((with_reducible refine ew _ _ w2.heap.size _ (r.1++[s]) x U _ (.slice u x.2.length cu) ?_ ?_ (DD.out.av (bL w7 _)) (eu w7 _ _ _) (((HE.out _ AU.out).2.2).av (bL w7 _)) ?_ ?_ ?_);(exact rfl);(exact rfl);(have:=HK.out;simp;omega);(have:=AU.out.size;simp;omega);intro v8 w8 Qs QE;have D9:=qh Qs.out;have AQ:Hid (qw w2 w8):=DD.out.acf AU.out qn QE.out;clear Qs QE)
      | ((with_reducible refine ew _ _ w2.heap.size _ r.1 s U _ (.slice p s.2.length c) ?_ ?_ (Cc.out.av (bL y0 _)) (eu y0 _ _ _) ((Ar.out.av Bd.out).av (bL y0 _)) ?_ ?_ ?_);(exact rfl);(exact rfl);(have:=HK.out;simp;omega);(have:=Bd.out.size;simp;omega);intro v7 w7 EG Co;have DD:=qh EG.out;have AU:Hid (qw w2 w7):=Cc.out.acf Bd.out qn Co.out;clear EG Co;obtain ⟨e0,e1,_⟩:=HE.out _ AU.out))
     exact ⟨⟨k+1,(r.1++[s]++[x],true),by omega,by go_num,rfl,qh (HT.out.trans CK.out).symm,qh (by have:=Lo.out;simp;omega),D9,AQ⟩,by simp [intOf];omega⟩
    ·have CK:Hid (Dk.jx s r x=(r.1++[x],false)):=by show _=_;unfold Dk.jx;rw [if_neg (fun h=>QY h.2),hr]
     have Pt:(x.1:Int)≤(s.1:Int):=by omega
     as_aux_lemma =>
     go_upto_region 7 with (fail)
     go_quiet (fail)
     obtain ⟨y0,F6⟩:∃ y,Hid (wr.drewN nq=y):=⟨_,rfl⟩;have Cc:=qh (HO.out.av (bI (Below.refl _ wr) nq));have Bd:Hid (qw w2 y0):=by show Below _ _ _;rw [← F6.out];exact bI HB.out nq
     rw [F6.out] at Cc ⊢;clear F6 HO HB c0 c1 b0 b1;obtain ⟨c0,c1,_⟩:=HE.out _ Bd.out;obtain ⟨b0,b1⟩:=ES.out _ Bd.out;go_wp2_with ((with_reducible refine ew _ _ w2.heap.size _ r.1 x U _ (.slice u x.2.length cu) ?_ ?_ (Cc.out.av (bL y0 _)) (eu y0 _ _ _) (((HE.out _ Bd.out).2.2).av (bL y0 _)) ?_ ?_ ?_);(exact rfl);(exact rfl);(have:=HK.out;simp;omega);(have:=Bd.out.size;simp;omega);intro v7 w7 EG Co;have DD:=qh EG.out;have AU:Hid (qw w2 w7):=Cc.out.acf Bd.out qn Co.out;clear EG Co)
     exact ⟨⟨k+1,(r.1++[x],false),by omega,by go_num,rfl,qh (HT.out.trans CK.out).symm,qh (by have:=Lo.out;simp;omega),DD,AU⟩,by simp [intOf];omega⟩
  ·have e:l'.take k=l':=List.take_of_length_le (by omega);rw [e] at HR;have HK:Hid (r.1.length≤10000):=by show _≤_;have:=Lo.out;have:=N3.out;omega
   have HI:Hid (Dk.ins l s=if r.2 then r.1 else r.1++[s]):=by
    show _=_;unfold Dk.ins;rw [Fy.out,← HR.out]
   obtain ⟨b0,b1⟩:=ES.out _ HB.out;have HW:=qh (Nat.le_trans B1.out.size B2.out.size);have Dz:Hid (∀ z,qw w2 z→qw w z):=fun z hz=>(B1.out.trans (B2.out.mono B1.out.size)).trans (hz.mono (Nat.le_trans B1.out.size B2.out.size));cases hr:r.2 with
   | true =>
    as_aux_lemma =>
    go_wp2;go_ret;refine ⟨_,rfl,qh ?_,qh (Dz.out _ HB.out)⟩;rw [HI.out,hr,if_pos rfl];exact HO.out.sub HW.out
   | false =>
    as_aux_lemma =>
    go_wp2_with ((with_reducible refine ew _ _ w2.heap.size _ r.1 s U _ (.slice p s.2.length c) ?_ ?_ (HO.out.av (bL wr _)) (eu wr _ _ _) ((Ar.out.av HB.out).av (bL wr _)) ?_ ?_ ?_);(exact rfl);(exact rfl);(have:=HK.out;simp;omega);(have:=HB.out.size;simp;omega);intro v7 w7 EG Co;have DD:=qh EG.out;have AU:Hid (qw w2 w7):=HO.out.acf HB.out qn Co.out;clear EG Co)
    go_ret;refine ⟨_,rfl,qh ?_,qh (Dz.out _ AU.out)⟩;rw [HI.out,hr,if_neg (by decide)];exact DD.out.sub HW.out
end
end Go.Proofs.YthgjfjmampmiiaaGreatDoor

import Derived.Test.YthgjfjmampmiiaaGreatDoorB7
import Derived.OpenShut
import Derived.Deep.Slices
namespace Go.Proofs.YthgjfjmampmiiaaGreatDoor
open Go.Proofs.Tryz
section
namespace ag
structure Q4 where
 a:Nat
 b:Nat
 c:Nat
 d:Nat
structure Q4.Ok (q:Q4):Prop where
 a:q.a<256
 b:q.b<256
 c:q.c<256
 d:q.d<256
def qi (q:Q4):List Int:=[(q.a:Int),(q.b:Int),(q.c:Int),(q.d:Int)]
def qw (q:Q4):Int:=((w4 q.a q.b q.c q.d:Nat):Int)
def qx (p q:Q4):Q4:=⟨p.a ^^^ q.a,p.b ^^^ q.b,p.c ^^^ q.c,p.d ^^^ q.d⟩
def qs (t:Q4):Q4:=⟨tn t.a,tn t.b,tn t.c,tn t.d⟩
def qr (t:Q4) (r:Nat):Q4:=⟨tn t.b ^^^ r,tn t.c,tn t.d,tn t.a⟩
def qt (n i:Nat) (t:Q4) (r:Nat):Q4:=if i % n=0 then qr t r else if n=8∧i % 8=4 then qs t else t
def q0:Q4:=⟨0,0,0,0⟩
def fq (K:List Int) (k:Nat):List Q4:=(List.range k).map fun i=>⟨(K.getD (4*i) 0).toNat,(K.getD (4*i+1) 0).toNat,(K.getD (4*i+2) 0).toNat,(K.getD (4*i+3) 0).toNat⟩
structure Ky where
 l:List Q4
 r:Nat
def ky (K:List Int) (n:Nat):Nat→Ky
 | 0=>⟨fq K n,1⟩
 | j+1=>⟨(ky K n j).l++[qx ((ky K n j).l.getD j q0) (qt n (n+j) ((ky K n j).l.getD (n+j-1) q0) (ky K n j).r)],if (n+j) % n=0 then tb (ky K n j).r else (ky K n j).r⟩
theorem afM (K:List Int) (k:Nat):(fq K k).length=k:=by simp [fq]
theorem aeY (K:List Int):fq K 0 = []:=rfl
theorem wP (K:List Int) (k:Nat):fq K (k+1)=fq K k++[⟨(K.getD (4*k) 0).toNat,(K.getD (4*k+1) 0).toNat,(K.getD (4*k+2) 0).toNat,(K.getD (4*k+3) 0).toNat⟩]:=by simp [fq,List.range_succ]
theorem zM (K:List Int) (n j:Nat):(ky K n j).l.length=n+j:=by
 induction j with
 | zero=>simp [ky,afM]
 | succ j ih=>simp [ky,ih];omega
theorem aew (K:List Int) (n:Nat):ky K n 0 = ⟨fq K n,1⟩:=rfl
theorem km (K:List Int) (n j:Nat):(ky K n (j+1)).l=(ky K n j).l++[qx ((ky K n j).l.getD j q0) (qt n (n+j) ((ky K n j).l.getD (n+j-1) q0) (ky K n j).r)]:=rfl
theorem kz (K:List Int) (n j:Nat):(ky K n (j+1)).r=if (n+j) % n=0 then tb (ky K n j).r else (ky K n j).r:=rfl
theorem ah4:q0.Ok:=⟨by decide,by decide,by decide,by decide⟩
theorem ahQ {p q:Q4} (hp:p.Ok) (hq:q.Ok):(qx p q).Ok:=⟨x8 hp.a hq.a,x8 hp.b hq.b,x8 hp.c hq.c,x8 hp.d hq.d⟩
theorem afj (t:Q4):(qs t).Ok:=⟨jb _,jb _,jb _,jb _⟩
theorem aip (t:Q4) {r:Nat} (hr:r<256):(qr t r).Ok:=⟨x8 (jb _) hr,jb _,jb _,jb _⟩
theorem aaY (n i:Nat) {t:Q4} {r:Nat} (ht:t.Ok) (hr:r<256):(qt n i t r).Ok:=by
 unfold qt;split
 ·exact aip t hr
 ·split
  ·exact afj t
  ·exact ht
theorem fA {l:List Q4} (h:∀ q∈l,q.Ok) (i:Nat):(l.getD i q0).Ok:=by
 by_cases hi:i<l.length
 ·rw [List.getD_eq_getElem?_getD,List.getElem?_eq_getElem hi];exact h _ (List.getElem_mem hi)
 ·rw [List.getD_eq_getElem?_getD,List.getElem?_eq_none (by omega)];exact ah4
theorem aiW (K:List Int) (hK:ai.aY K) (k:Nat):∀ q∈fq K k,q.Ok:=fun q hq=>by
 unfold fq at hq;rw [List.mem_map] at hq;obtain ⟨i,_,rfl⟩:=hq;have h:=fun j=>ai.aW hK j;exact ⟨by have:=h (4*i);show (K.getD _ 0).toNat<256;omega,by have:=h (4*i+1);show (K.getD _ 0).toNat<256;omega,by have:=h (4*i+2);show (K.getD _ 0).toNat<256;omega,by have:=h (4*i+3);show (K.getD _ 0).toNat<256;omega⟩
theorem zm (K:List Int) (hK:ai.aY K) (n j:Nat):(∀ q∈(ky K n j).l,q.Ok)∧(ky K n j).r<256:=by
 induction j with
 | zero=>exact ⟨aiW K hK n,by show (1:Nat)<256;omega⟩
 | succ j ih =>
  rw [km,kz];refine ⟨fun q hq=>?_,?_⟩
  ·rw [List.mem_append] at hq;rcases hq with h | h
   ·exact ih.1 q h
   ·simp only [List.mem_singleton] at h;rw [h];exact ahQ (fA ih.1 _) (aaY _ _ (fA ih.1 _) ih.2)
  ·split
   ·exact jW _ ih.2
   ·exact ih.2
theorem ah0:∀ x,x<256→pr (x:Nat) 2=((tb x:Nat):Int):=by decide +kernel
theorem zB (p q:Q4) (hp:p.Ok) (hq:q.Ok):bits .xor .u32 (qw p) (qw q)=qw (qx p q):=by
 unfold qw qx;rw [gH _ _ (gP _ _ _ _ hp.a hp.b hp.c hp.d) (gP _ _ _ _ hq.a hq.b hq.c hq.d),jh _ _ _ _ _ _ _ _ hp.a hp.b hp.c hp.d hq.a hq.b hq.c hq.d]
theorem aa9 (t:Q4) (ht:t.Ok):iY TB (qw t) (qw t) (qw t) (qw t)=qw (qs t):=by
 unfold qw qs;exact m8 t.a t.b t.c t.d t.b t.c t.d t.a t.c t.d t.a t.b t.d t.a t.b t.c ht.a ht.b ht.c ht.d ht.b ht.c ht.d ht.a ht.c ht.d ht.a ht.b ht.d ht.a ht.b ht.c
theorem aij (n i:Nat) (t:Q4) (r:Nat) (ht:t.Ok) (hr:r<256):nt TB n i (qw t) (r:Int)=qw (qt n i t r):=by
 unfold nt qt;split
 ·have e:rl 8 (qw t)=qw ⟨t.b,t.c,t.d,t.a⟩:=by unfold qw;exact aaX t.a t.b t.c t.d ht.a ht.b ht.c ht.d
  have h2:(⟨t.b,t.c,t.d,t.a⟩:Q4).Ok:=⟨ht.b,ht.c,ht.d,ht.a⟩;rw [e,aa9 _ h2];have e2:((r:Int)*16777216)=qw ⟨r,0,0,0⟩:=by unfold qw w4;dsimp only;omega
  rw [e2,zB _ _ (afj _) ⟨hr,(show (0:Nat)<256 by decide),(show (0:Nat)<256 by decide),(show (0:Nat)<256 by decide)⟩];unfold qx qs qr;simp only [Nat.xor_zero]
 ·split
  ·exact aa9 t ht
  ·rfl
theorem ir (l:List Q4) (i:Nat) (h:i<l.length):(l.map qw).getD i 0=qw (l.getD i q0):=by
 rw [List.getD_eq_getElem?_getD,List.getElem?_map,List.getElem?_eq_getElem h,List.getD_eq_getElem?_getD,List.getElem?_eq_getElem h]
 rfl
theorem af3 (a b c d:Int) (ha:0≤a∧a≤255) (hb:0≤b∧b≤255) (hc:0≤c∧c≤255) (hd:0≤d∧d≤255):nA a b c d=qw ⟨a.toNat,b.toNat,c.toNat,d.toNat⟩:=by
 rw [qJ a b c d ha hb hc hd];unfold qw w4;dsimp only;omega
theorem ah8 (K:List Int) (hK:ai.aY K) (k:Nat):fw K k=(fq K k).map qw:=by
 induction k with
 | zero=>rw [aby,aeY];rfl
 | succ k ih =>
  rw [wP,List.map_append,← ih,vZ,af3 _ _ _ _ (ai.aW hK _) (ai.aW hK _) (ai.aW hK _) (ai.aW hK _)]
  rfl
theorem ajr (K:List Int) (hK:ai.aY K) (n:Nat) (hn:0<n) (j:Nat):(kx TB K n j).l=(ky K n j).l.map qw∧(kx TB K n j).r=((ky K n j).r:Int):=by
 induction j with
 | zero=>rw [qf,aew];exact ⟨ah8 K hK n,rfl⟩
 | succ j ih =>
  have hl:=zM K n j;obtain ⟨ok,hr⟩:=zm K hK n j;rw [n6,ou,km,kz,ih.1,ih.2,List.map_append];rw [ir _ j (by omega),ir _ (n+j-1) (by omega),aij _ _ _ _ (fA ok _) hr,zB _ _ (fA ok _) (aaY _ _ (fA ok _) hr)];refine ⟨rfl,?_⟩;split
  ·exact ah0 _ hr
  ·rfl
def qb (q:Q4) (k:Nat):Nat:=if k=0 then q.a else if k=1 then q.b else if k=2 then q.c else q.d
def rb (l:List Q4) (j:Nat):Nat:=qb (l.getD (j / 4) q0) (j % 4)
theorem fQ {q:Q4} (h:q.Ok) (k:Nat):qb q k<256:=by
 unfold qb;split
 ·exact h.a
 ·split
  ·exact h.b
  ·split
   ·exact h.c
   ·exact h.d
theorem kh (q:Q4) (j:Nat) (hj:j<4):(qi q).getD j 0=((qb q j:Nat):Int):=by
 rcases (by omega:j=0∨j=1∨j=2∨j=3) with rfl | rfl | rfl | rfl<;>rfl
theorem agb (q:Q4):(qi q).length=4:=rfl
theorem sS (l:List Q4) (i j:Nat) (hj:j<4):rb l (4*i+j)=qb (l.getD i q0) j:=by
 unfold rb;rw [show (4*i+j) / 4=i by omega,show (4*i+j) % 4=j by omega]
theorem ah3 (l:List Q4) (i:Nat):sw (rb l) i=qw (l.getD i q0):=by
 unfold sw qw;have h0:=sS l i 0 (by omega);rw [Nat.add_zero] at h0;rw [h0,sS l i 1 (by omega),sS l i 2 (by omega),sS l i 3 (by omega)]
 rfl
def nC (K:List Int) (m:Nat):List Q4:=(ky K m (3*m+28)).l
theorem ac3 (K:List Int) (m:Nat):(nC K m).length=4*(m+7):=by
 unfold nC;rw [zM];omega
theorem agL (K:List Int) (hK:ai.aY K) (m:Nat):∀ q∈nC K m,q.Ok:=(zm K hK m _).1
theorem aeg (K:List Int) (hK:ai.aY K) (m:Nat) (hm:0<m) (hl:K.length=4*m):j7 TB K=(nC K m).map qw:=by
 unfold j7 nC;rw [show K.length / 4=m by omega];exact (ajr K hK m hm _).1
theorem agS (K:List Int) (hK:ai.aY K) (m:Nat) (hm:0<m) (hl:K.length=4*m) (k:Nat) (hk:k<4*(m+7)):(j7 TB K).getD k 0=sw (rb (nC K m)) k:=by
 rw [aeg K hK m hm hl,ir _ k (by rw [ac3];exact hk),ah3]
theorem afw (K:List Int) (hK:ai.aY K) (m j:Nat):rb (nC K m) j<256:=fQ (fA (agL K hK m) _) _
def nb (l:List Int) (j:Nat):Nat:=(l.getD j 0).toNat
theorem ajp (l:List Int) (h:ai.aY l):qO (nb l):=fun j _=>by
 have:=ai.aW h j;unfold nb;omega
theorem af5 (l:List Int) (h:ai.aY l):cL l=st (nb l):=by
 have e:∀ o,wk l o=((w4 (nb l o) (nb l (o+1)) (nb l (o+2)) (nb l (o+3)):Nat):Int):=fun o=>by
  unfold wk;rw [qJ _ _ _ _ (ai.aW h _) (ai.aW h _) (ai.aW h _) (ai.aW h _)];have a:=ai.aW h o;have b:=ai.aW h (o+1);have c:=ai.aW h (o+2);have d:=ai.aW h (o+3);unfold w4 nb;omega
 unfold cL st sw;rw [e,e,e,e]
theorem ait (a b c d:Nat) (ha:a<256) (hb:b<256) (hc:c<256) (hd:d<256):ob ((w4 a b c d:Nat):Int) = [(a:Int),(b:Int),(c:Int),(d:Int)]:=by
 unfold ob w4;congr 1
 ·omega
 ·congr 1
  ·omega
  ·congr 1
   ·omega
   ·congr 1;omega
end ag
end
section
open Go.RowKit
theorem Tryz.sJ:(prog.info? 22).map (fun i=>(i.zero,i.size,i.bytes))=some (some (.slice none 0 0),1,24):=by kernel_rfl
def Rws (w:World) (B:Nat) (v:Value) (n:Nat) (L:List ag.Q4) (vs:List Value):Prop :=
 w.ownsRow B 22 1 v n vs∧L.length=n∧∀ i,i<n→∃ b c,vs[i]?=some (.slice (some ⟨b,0,none⟩) 4 c)∧w.ownsRow B 5 1 (.slice (some ⟨b,0,none⟩) 4 c) 4 (aC (ag.qi (L.getD i ag.q0)))
theorem Rws.aG {w x:World} {B:Nat} {v:Value} {n:Nat} {L:List ag.Q4} {vs:List Value} (h:Rws w B v n L vs) (hb:qw w x):Rws x B v n L vs :=
 ⟨aN h.1 hb,h.2.1,fun i hi=>by
  obtain ⟨b,c,h1,h2⟩:=h.2.2 i hi;exact ⟨b,c,h1,aN h2 hb⟩⟩
theorem fF {w:World} {B B' n m:Nat} {v:Value} {xs ys:List Value} {b c:Nat} (h:w.ownsRow B 22 1 v n xs) (h2:w.ownsRow B' 5 1 (.slice (some ⟨b,0,none⟩) m c) m ys):some b ≠ v.ownBlock:=by
 intro e;rcases h.2 with ⟨rfl,_⟩ | ⟨g,cap,cur,rfl,_,hg,_⟩
 ·cases e
 ·rcases h2.2 with ⟨h',_⟩ | ⟨g',AO,cur',hv,_,EJ,_⟩
  ·cases h'
  ·simp only [Value.slice.injEq,Option.some.injEq,Addr.mk.injEq,and_true,true_and] at hv;obtain ⟨rfl,rfl⟩:=hv;simp only [Value.ownBlock,Option.some.injEq] at e;subst e;rw [hg] at EJ;simp only [Option.some.injEq,Obj.cells.injEq] at EJ;exact absurd EJ.2.1 (by decide)
theorem Rws.push {w w1:World} {B:Nat} {v v':Value} {n:Nat} {L:List ag.Q4} {vs:List Value} {b c:Nat} {q:ag.Q4} {o:Obj} (h:Rws w B v n L vs) (hq:w.ownsRow B 5 1 (.slice (some ⟨b,0,none⟩) 4 c) 4 (aC (ag.qi q)))
  (ho:w1.ownsRow B 22 1 v' (n+1) (vs++[.slice (some ⟨b,0,none⟩) 4 c])) (hg:(w.alloc o).grownBy w1 v.ownBlock):Rws w1 B v' (n+1) (L++[q]) (vs++[.slice (some ⟨b,0,none⟩) 4 c]):=by
 have TR:vs.length=n:=by have:=h.1.1;omega
 refine ⟨ho,by simp [h.2.1],fun i hi=>?_⟩;by_cases AF:i<n
 ·obtain ⟨b',c',h1,h2⟩:=h.2.2 i AF;refine ⟨b',c',by rw [List.getElem?_append_left (by omega)];exact h1,?_⟩;rw [List.getD_eq_getElem?_getD,List.getElem?_append_left (by rw [h.2.1];exact AF),← List.getD_eq_getElem?_getD];exact (h2.alloc o).kept hg (Or.inr (fF h.1 h2))
 ·obtain rfl:i=n:=by omega
  refine ⟨b,c,by rw [List.getElem?_append_right (by omega),TR,Nat.sub_self];rfl,?_⟩;rw [List.getD_eq_getElem?_getD,List.getElem?_append_right (by rw [h.2.1];exact Nat.le_refl _),h.2.1,Nat.sub_self];exact (hq.alloc o).kept hg (Or.inr (fF h.1 hq))
theorem Rws.at {w:World} {B:Nat} {g cap:Nat} {n:Nat} {L:List ag.Q4} {vs:List Value} (h:Rws w B (.slice (some ⟨g,0,none⟩) n cap) n L vs) (i:Nat) (hi:i<n) :
  ∃ b c,w.cell? ⟨g,i,none⟩=some (.slice (some ⟨b,0,none⟩) 4 c)∧∀ j,j<4→w.cell? ⟨b,j,none⟩=some (.int .u8 ((ag.qb (L.getD i ag.q0) j:Nat):Int)):=by
 obtain ⟨b,c,h1,h2⟩:=h.2.2 i hi;refine ⟨b,c,by rw [h.1.cellAt i (by omega)];exact h1,fun j hj=>?_⟩;rw [dc h2 j hj,ag.kh _ j hj]
structure NS (w0 w:World) (B c tb tc:Nat) (O:Obj) (v:Value) (n:Nat) (L:List ag.Q4) (vs:List Value):Prop where
 str:w.heap[c]?=some (.cells #[v,.slice (some ⟨tb,0,none⟩) 256 tc] 170 (0,0))
 tab:w.heap[tb]?=some O
 rws:Rws w B v n L vs
 below:qw w0 w
 cB:c<B
 tB:tb<B
 ne:tb ≠ c
 lo:w0.heap.size≤c
 hi:B≤w.heap.size
theorem NS.aG {w0 w x:World} {B c tb tc:Nat} {O:Obj} {v:Value} {n:Nat} {L:List ag.Q4} {vs:List Value} (h:NS w0 w B c tb tc O v n L vs) (hb:qw w x):NS w0 x B c tb tc O v n L vs :=
 ⟨(hb.block _ (lt_of_block h.str)).trans h.str,(hb.block _ (lt_of_block h.tab)).trans h.tab,h.rws.aG hb,h.below.trans (hb.mono h.below.size),h.cB,h.tB,h.ne,h.lo,Nat.le_trans h.hi hb.size⟩
theorem NS.grow {w0 w w1:World} {B c tb tc:Nat} {O o:Obj} {v v':Value} {n:Nat} {L:List ag.Q4} {vs:List Value} {b bc:Nat} {q:ag.Q4} (h:NS w0 w B c tb tc O v n L vs) (hq:w.ownsRow B 5 1 (.slice (some ⟨b,0,none⟩) 4 bc) 4 (aC (ag.qi q)))
  (ho:w1.ownsRow B 22 1 v' (n+1) (vs++[.slice (some ⟨b,0,none⟩) 4 bc])) (hg:(w.alloc o).grownBy w1 v.ownBlock) :
  w1.heap[c]?=some (.cells #[v,.slice (some ⟨tb,0,none⟩) 256 tc] 170 (0,0))∧NS w0 (w1.setCell ⟨c,0,none⟩ v') B c tb tc O v' (n+1) (L++[q]) (vs++[.slice (some ⟨b,0,none⟩) 4 bc]):=by
 have Ae:=h.rws.1.lt;have kb:∀ k o',w.heap[k]?=some o'→k<B→w1.heap[k]?=some o':=fun k o' hk hkB=>by
  refine (hg.block k (by have:=lt_of_block hk;simp;omega) (fun e=>?_)).trans ((heap_alloc_old w o (lt_of_block hk)).trans hk);have:=(Ae k e.symm).1;omega
 have EH:=kb c _ h.str h.cB;have FC:=kb tb _ h.tab h.tB;have Je:=h.rws.push hq ho hg;have Ag:qw w0 w1:=(h.below.alloc h.below.size o).grown hg (by have:=h.below.size;simp;omega) (fun k e=>by have:=(Ae k e).1;have:=h.lo;have:=h.cB;omega);have QH:(w1.grownBy (w1.setCell ⟨c,0,none⟩ v') (some c)):=⟨rfl,rfl,rfl,by simp,fun j _ hj=>heap_setCell_other _ _ _ _ (by simp;intro e;exact hj (by rw [e]))⟩;have Cq:∀ {v2:Value} {m:Nat} {e:TypeId} {xs:List Value},w1.ownsRow B e 1 v2 m xs→v2.ownBlock ≠ some c:=fun h2 e=>by
  have:=(h2.lt c e).1;have:=h.cB;omega
 refine ⟨EH,?_,?_,⟨Je.1.kept QH (Or.inr (Cq Je.1)),Je.2.1,fun i hi=>?_⟩,Ag.setCell h.lo _,h.cB,h.tB,h.ne,h.lo,?_⟩
 ·rw [heap_setCell_same w1 c 0 _ _ _ EH]
  rfl
 ·rw [heap_setCell_other _ _ _ _ (by simp;exact h.ne)];exact FC
 ·obtain ⟨b',c',h1,h2⟩:=Je.2.2 i hi;exact ⟨b',c',h1,h2.kept QH (Or.inr (Cq h2))⟩
 ·have h1:=hg.size;have h2:=h.hi;simp at h1 ⊢;omega
structure xP (B c:Nat) (v:Value) (bq cq:Nat) (q:ag.Q4) (bx cx:Nat) (t:ag.Q4) (x:World):Prop where
 c:x.cell? ⟨c,0,none⟩=some v
 q:x.ownsRow B 5 1 (.slice (some ⟨bq,0,none⟩) 4 cq) 4 (aC (ag.qi q))
 t:x.ownsRow B 5 1 (.slice (some ⟨bx,0,none⟩) 4 cx) 4 (aC (ag.qi t))
theorem xP.aG {B c:Nat} {v:Value} {bq cq:Nat} {q:ag.Q4} {bx cx:Nat} {t:ag.Q4} {x y:World} (h:xP B c v bq cq q bx cx t x) (hb:qw x y):xP B c v bq cq q bx cx t y :=
 ⟨(hb.cell (World.block_lt_of_cell? x _ h.c)).trans h.c,aN h.q hb,aN h.t hb⟩
theorem xP.at {B c:Nat} {v:Value} {bq cq:Nat} {q:ag.Q4} {bx cx:Nat} {t:ag.Q4} {x:World} (h:xP B c v bq cq q bx cx t x) (j:Nat) (hj:j<4) :
  x.cell? ⟨bq,j,none⟩=some (.int .u8 ((ag.qb q j:Nat):Int))∧x.cell? ⟨bx,j,none⟩=some (.int .u8 ((ag.qb t j:Nat):Int)) :=
 ⟨by rw [dc h.q j hj,ag.kh q j hj],by rw [dc h.t j hj,ag.kh t j hj]⟩
theorem xP.grown {B c n:Nat} {v v2:Value} {bq cq:Nat} {q:ag.Q4} {bx cx:Nat} {t:ag.Q4} {x y:World} {o:Obj} {xs:List Value} (h:xP B c v bq cq q bx cx t x) (hw:x.ownsRow B 22 1 v2 n xs) (hg:(x.alloc o).grownBy y v2.ownBlock) (hc:y.cell? ⟨c,0,none⟩=some v):xP B c v bq cq q bx cx t y :=
 ⟨hc,(h.q.alloc o).kept hg (Or.inr (fF hw h.q)),(h.t.alloc o).kept hg (Or.inr (fF hw h.t))⟩
theorem ja {ops:Array Oper} {a:Act} {K:Act→World→Prop} {Q:Exit→Act→World→Prop} {D:Tmp} {T:TypeId} {ps:String} {af:Array Edge} (w0:World) (y:Value) (l:List Value) (i:Nat)
  (s x:Operand) (base:Nat) (v:Value) (n:Nat) (ho:ops[i]?=some { dst:=some D,op:=Op.call { callee:=Callee.builtin Builtin.append,args:=#[s,x],argTypes:=#[71,71] },type:=T,pos:=ps,after:=af,guard:=none })
  (hs:a.eval s=v) (hx:a.eval x = .slice (some ⟨w0.heap.size,0,none⟩) 1 1) (hy:y.oneCell'=true) (Ap:w0.ownsRow base 22 1 v n l) (hn:n≤1000) (hb:base≤w0.heap.size)
  (hK:∀ v' w',w'.ownsRow base 22 1 v' (n+1) (l++[y])→(w0.alloc (.cells #[y] 22)).grownBy w' v.ownBlock→K (a.put (some D) v') w') :
  wpOp prog ops Q i K a (w0.alloc (.cells #[y] 22)):=by
 obtain ⟨i0,hi,hz0,hz1,hz2⟩:=info_parts Tryz.sJ;refine ga i _ ho rfl ?_;refine wp_append_own _ s x 71 rfl base 22 i0 (.slice none 0 0) 1 24 underlying71 hi hz0 hz1 hz2 rfl (by decide) v n l hs (Ap.alloc _) ⟨w0.heap.size,0,none⟩ 1 1 [y] hx rfl ?_ ?_ (by unfold maxLen;omega) (by omega) (by simp;omega) ?_
 ·intro j u hj;rw [Addr.add_mid,Nat.zero_add,cell_of_row (w0.alloc (.cells #[y] 22)) w0.heap.size j _ _ _ (heap_alloc_new w0 _)];simpa using hj
 ·intro u hu;simp at hu;subst hu;exact hy
 ·intro v' w' h1 h2 _;exact hK v' w' h1 h2
theorem qK {ops:Array Oper} {a:Act} {w:World} {K:Act→World→Prop} {Q:Exit→Act→World→Prop} {D:Tmp} {T:TypeId} {ps:String} {af:Array Edge} (i:Nat) (s x:Operand) (ys:List Int) (base:Nat) (v:Value) (n:Nat) (l:List Int) (b o m c:Nat)
  (ho:ops[i]?=some { dst:=some D,op:=Op.call { callee:=Callee.builtin Builtin.append,args:=#[s,x],argTypes:=#[22,22] },type:=T,pos:=ps,after:=af,guard:=none }) (hs:a.eval s=v)
  (hx:a.eval x = .slice (some ⟨b,o,none⟩) m c) (hm:ys.length=m) (hc:∀ j,j<m→w.cell? ⟨b,o+j,none⟩=some (.int .u8 (ys.getD j 0))) (Ap:w.ownsRow base 5 1 v n (aC l)) (hn:n+m≤1000000000000) (hb:base≤w.heap.size)
  (hK:∀ v' w',w'.ownsRow base 5 1 v' (n+m) (aC (l++ys))→w.grownBy w' v.ownBlock→K (a.put (some D) v') w') :
  wpOp prog ops Q i K a w:=by
 obtain ⟨i0,hi,hz0,hz1,hz2⟩:=info_parts Tryz.bu;refine ga i _ ho rfl ?_;refine wp_append_own _ s x 22 rfl base 5 i0 (.int .u8 0) 1 1 underlying22 hi hz0 hz1 hz2 rfl (by decide) v n (aC l) hs Ap ⟨b,o,none⟩ m c (ys.map (Value.int .u8)) hx (by simp [hm]) ?_ ?_ (by unfold maxLen;omega) (by omega) hb ?_
 ·intro j u hj;have Cp:j<ys.length:=by have:=(List.getElem?_eq_some_iff.1 hj).1;simpa using this
  rw [Addr.add_mid,hc j (by omega)];rw [List.getElem?_map,List.getElem?_eq_getElem Cp] at hj;rw [List.getD_eq_getElem?_getD,List.getElem?_eq_getElem Cp];simpa using hj
 ·intro u hu;rw [List.mem_map] at hu;obtain ⟨x,_,rfl⟩:=hu
  rfl
 ·intro v' w' h1 h2 _;refine hK v' w' ?_ h2;have e:aC l++ys.map (Value.int .u8)=aC (l++ys):=by unfold aC;simp
  rw [← e];exact h1
end
section
open Go.RowKit
def bY (B:Nat) (w:World) (g n:Nat) (R:List Int):Prop :=
 B≤g∧∃ wb wc tb tc,B≤wb∧B≤tb∧w.heap[g]?=some (.cells #[.slice (some ⟨wb,0,none⟩) n wc,.slice (some ⟨tb,0,none⟩) 256 tc] 170 (0,0)) ∧
  (∀ i,i<n→∃ b c,B≤b∧w.cell? ⟨wb,i,none⟩=some (.slice (some ⟨b,0,none⟩) 4 c)∧∀ j,j<4→w.cell? ⟨b,j,none⟩=some (.int .u8 (R.getD (4*i+j) 0)))∧∀ j,j<256→w.cell? ⟨tb,j,none⟩=some (.int .u8 (ag.TB.getD j 0))
def aap (K:List Int) (m:Nat) (w:World) (e:Ending) (w':World):Prop :=
 ∃ g,e = .returned (.tuple #[qp g,.int .i64 0])∧bY w.heap.size w' g (4*(m+7)) (ag.up (ag.rb (ag.nC K m)) (16*(m+7)))∧qw w w'
end
section
open Go.RowKit
section
variable {P:Program} {md:Region.Mode} {ops:Array Oper} {Q:Exit→Act→World→Prop} {S:World→Prop}
theorem yZ (i D:Nat) (v:Value) {fuel:Nat} {listed:Array Bool} {a:Act} {w:World} {op:Op} {T:TypeId} {ps:String} {af:Array Edge} {gd:Option (Nat × Bool)} (hS:S w) (ho:ops[i]?=some { dst:=some D,op:=op,type:=T,pos:=ps,after:=af,guard:=gd })
  (hs:Region.noSelect ops=true) (hf:Region.free md ops listed i=true) (hr:(Region.ready md ops listed).contains i=true)
  (hQ:∀ c a w,Q (.panic c) (a.put (some D) v) w→Q (.panic c) a w) (hw:Region.wanted { dst:=some D,op:=op,type:=T,pos:=ps,after:=af,guard:=gd } (yielded ops a.tmps)=true) (hy:∀ w,S w→(execOp a.eval { dst:=some D,op:=op,type:=T,pos:=ps,after:=af,guard:=gd }).run P w = .ok (.value v) w)
  (h:wpAnyH P md ops Q S fuel (listed.setIfInBounds i true) (a.put (some D) v) w):wpAnyH P md ops Q S (fuel+1) listed a w :=
 wpAnyH_first ho (Region.noSelect_spec hs) hQ fuel listed a w (Region.free_spec ho hf) (by simpa using hr) (Or.inl ⟨hw,hy⟩) hS h
theorem aH (i D:Nat) (v:Value) {fuel:Nat} {listed:Array Bool} {a:Act} {w:World} {op:Op} {T:TypeId} {ps:String} {af:Array Edge} {gd:Option (Nat × Bool)} (hS:S w) (ho:ops[i]?=some { dst:=some D,op:=op,type:=T,pos:=ps,after:=af,guard:=gd })
  (hy:∀ w,S w→(execOp a.eval { dst:=some D,op:=op,type:=T,pos:=ps,after:=af,guard:=gd }).run P w = .ok (.value v) w)
  (h:wpAnyH P md ops Q S fuel (listed.setIfInBounds i true) (a.put (some D) v) w)
  (hb:(Region.noSelect ops&&(Region.free md ops listed i&&(Region.ready md ops listed).contains i))=true:=by kernel_rfl)
  (hQ:∀ c a w,Q (.panic c) (a.put (some D) v) w→Q (.panic c) a w:=by exact fun _ _ _ h=>h)
  (hw:Region.wanted { dst:=some D,op:=op,type:=T,pos:=ps,after:=af,guard:=gd } (yielded ops a.tmps)=true:=by rfl):wpAnyH P md ops Q S (fuel+1) listed a w:=by
 rw [Bool.and_eq_true,Bool.and_eq_true] at hb;exact yZ i D v hS ho hb.1 hb.2.1 hb.2.2 hQ hw hy h
theorem aS (i D:Nat) (v:Value) {fuel:Nat} {listed:Array Bool} {a A:Act} {w:World} {op:Op} {T:TypeId} {ps:String} {af:Array Edge} {gd:Option (Nat × Bool)} (hS:S w) (ho:ops[i]?=some { dst:=some D,op:=op,type:=T,pos:=ps,after:=af,guard:=gd })
  (hy:∀ w,S w→(execOp a.eval { dst:=some D,op:=op,type:=T,pos:=ps,after:=af,guard:=gd }).run P w = .ok (.value v) w)
  (h:wpAnyH P md ops Q S fuel (listed.setIfInBounds i true) A w)
  (hb:(Region.noSelect ops&&(Region.free md ops listed i&&(Region.ready md ops listed).contains i))=true:=by kernel_rfl)
  (hQ:∀ c a w,Q (.panic c) (a.put (some D) v) w→Q (.panic c) a w:=by exact fun _ _ _ h=>h)
  (hw:Region.wanted { dst:=some D,op:=op,type:=T,pos:=ps,after:=af,guard:=gd } (yielded ops a.tmps)=true:=by rfl)
  (hA:a.put (some D) v=A:=by (try simp only [Act.put,aQ,aR,aO]) <;> rfl):wpAnyH P md ops Q S (fuel+1) listed a w:=by
 subst hA;exact aH i D v hS ho hy h hb hQ hw
theorem aD (i:Nat) {fuel:Nat} {listed:Array Bool} {a:Act} {w:World} (hr:Region.ready md ops listed = [i])
  (h:wpOp P ops Q i (fun a' w'=>S w'∧wpAnyH P md ops Q S fuel (listed.setIfInBounds i true) a' w') a w):wpAnyH P md ops Q S (fuel+1) listed a w :=
 ⟨fun h0=>absurd (hr ▸ h0) (by simp),fun j hj=>by
  rw [hr] at hj;simp at hj;subst hj;exact h⟩
theorem kJ {listed:Array Bool} {a:Act} {w:World} (hr:Region.ready md ops listed = []) (h:Q .normal a w):∀ fuel,wpAnyH P md ops Q S fuel listed a w
 | 0=>⟨hr,h⟩
 | _+1=>⟨fun _=>h,by rw [hr];simp⟩
end
end
section
open Go.RowKit
theorem aaB {w w':World} {B n s g:Nat} {v:Value} {xs:List Value} {e:TypeId} (h:w.ownsRow B e s v n xs) (ho:aE g w w') (Cq:v.ownBlock ≠ some g):w'.ownsRow B e s v n xs:=by
 refine ⟨h.1,?_⟩;rcases h.2 with h' | ⟨g',cap,cur,hv,q0,q1,q2⟩
 ·exact Or.inl h'
 ·refine Or.inr ⟨g',cap,cur,hv,q0,(ho.block _ (lt_of_block q1) (fun e=>Cq ?_)).trans q1,q2⟩;subst e;rw [hv]
  rfl
theorem fx.only {w w':World} {c g:Nat} {T ks:List Int} {A:Array Value} {fr:Nat × Nat} (h:fx w c T ks) (hg:w.heap[g]?=some (.cells A 5 fr)) (ho:aE g w w'):fx w' c T ks:=by
 obtain ⟨kb,n,cap,base,hc,hlen,Ap⟩:=h;refine ⟨kb,n,cap,base,(ho.block _ (lt_of_block hc) (fun e=>?_)).trans hc,hlen,aaB Ap ho (fun e=>?_)⟩
 ·subst e;rw [hc] at hg;simp only [Option.some.injEq,Obj.cells.injEq] at hg;exact absurd hg.2.1 (by decide)
 ·simp only [Value.ownBlock,Option.some.injEq] at e;subst e;rcases Ap.2 with ⟨h',_⟩ | ⟨g',AO,cur,hv,_,q1,_⟩
  ·cases h'
  ·simp only [Value.slice.injEq,Option.some.injEq,Addr.mk.injEq,and_true,true_and] at hv;obtain ⟨rfl,rfl⟩:=hv;rw [q1] at hg;simp only [Option.some.injEq,Obj.cells.injEq] at hg;exact absurd hg.2.1 (by decide)
theorem bY.plain {B:Nat} {w:World} {g n:Nat} {R:List Int} (h:bY B w g n R):jZ w g n R:=by
 obtain ⟨_,wb,wc,tb,tc,_,_,h0,hW,hT⟩:=h;exact ⟨wb,wc,tb,tc,h0,fun i hi=>by obtain ⟨b,c,_,h1,h2⟩:=hW i hi;exact ⟨b,c,h1,h2⟩,hT⟩
theorem bY.same {B:Nat} {w x:World} {g n:Nat} {R:List Int} (h:bY B w g n R) (hs:∀ k,B≤k→k<w.heap.size→x.heap[k]?=w.heap[k]?):bY B x g n R:=by
 obtain ⟨hg,wb,wc,tb,tc,b1,b2,h0,hW,hT⟩:=h;have cell:∀ b j v,B≤b→w.cell? ⟨b,j,none⟩=some v→x.cell? ⟨b,j,none⟩=some v:=fun b j v hb hc=>by
  rw [World.cell?_of_block (a:=⟨b,j,none⟩) (hs b hb (World.block_lt_of_cell? w _ hc))];exact hc
 refine ⟨hg,wb,wc,tb,tc,b1,b2,(hs g hg (lt_of_block h0)).trans h0,fun i hi=>?_,fun j hj=>cell _ _ _ b2 (hT j hj)⟩;obtain ⟨b,c,h3,h4,h5⟩:=hW i hi;exact ⟨b,c,h3,cell _ _ _ b1 h4,fun j hj=>cell _ _ _ h3 (h5 j hj)⟩
theorem bY.aG {B:Nat} {w x:World} {g n:Nat} {R:List Int} (h:bY B w g n R) (hb:qw w x):bY B x g n R:=h.same fun k _ hk=>hb.block k hk
end
end Go.Proofs.YthgjfjmampmiiaaGreatDoor

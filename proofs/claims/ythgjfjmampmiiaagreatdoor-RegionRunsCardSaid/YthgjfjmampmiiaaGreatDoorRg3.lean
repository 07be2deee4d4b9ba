/-
  RgI, RgJ, RgK, RgQ0 (merged)
-/
import Derived.Test.YthgjfjmampmiiaaGreatDoorRg2
import Derived.Test.YthgjfjmampmiiaaGreatDoorDk3
namespace Go.Proofs.YthgjfjmampmiiaaGreatDoor
open Go.Proofs.Tryz
set_option maxHeartbeats 4000000
set_option maxRecDepth 100000
section
open Go.RowKit
namespace Rg
def hn (r:R):Nat:=if r.gen % 2=0 then 1 else 2
theorem xp (r:R):home r=(hn r:Int):=by unfold home hn;split<;>rfl
theorem aiH (r:R):hn r=1∨hn r=2:=by unfold hn;split<;>simp
def vX (S:Nm.St) (r:R) (n:Int):Int × List Int:=Sc.pt (Sc.nsl S) (sec r n)
def vE (m:Dk.M) (S:Nm.St) (r:R) (n:Int):Int:=wE m r (vX S r n)
def vM (m:Dk.M) (S:Nm.St) (r:R) (n:Int):Dk.M:=wM m r (vX S r n)
def vS (S:Nm.St) (r:R) (n:Int):Nm.St:=if may r then Sc.nd S (sec r n) else S
def vG (S:Nm.St) (a:Int) (B:List Int):Int × Sc.S:=Sc.gt (Nm.oB S) 2 a B
def vA (m:Dk.M) (S:Nm.St):List R:=al m (vG S)
def xU (n:Int):Prop:=0≤n∧n≤1099511627776
theorem iJ {n:Int}:num n=true↔1≤n∧n≤1099511627776:=by rw [tL];simp
theorem abk {r:R} (h:may r=true):(1≤r.gen∧r.gen≤1099511627776)∧(1≤r.st∧r.st≤1099511627776)∧(1≤r.ep∧r.ep≤1099511627776):=by
 rw [o7] at h;simp only [Bool.and_eq_true] at h;exact ⟨iJ.1 h.1,iJ.1 h.2.1,iJ.1 h.2.2.1⟩
theorem uh {r:R} (hk:Ok r) (h:may r=true) {n:Int} (hn:xU n):Sc.kX (sec r n)=0:=by
 have h3:=(abk h).2.2;refine Sc.lu.2 ⟨Sc.cW.2 (by show (1:Int)≤2∧(2:Int)≤5;omega),Sc.eU.2 ⟨by show 0≤r.ep∧r.ep≤_;omega,hn,?_⟩,by rw [gA hk];omega⟩;show 0≤home r∧home r<4096;rcases aeo r with e | e<;>rw [e]<;>omega
def yp (S:Nm.St) (r:R) (n:Int):List Int:=Sc.bys S (sec r n)
theorem ahd {r:R} (hk:Ok r) (S:Nm.St) (n:Int):(yp S r n).length=241:=by unfold yp;rw [Sc.vP,gA hk]
theorem agB {r:R} (hk:Ok r) (S:Nm.St) (n:Int):(vX S r n).2.length≤1000000:=by
 unfold vX;by_cases h:Sc.kX (sec r n)=0
 ·rw [Sc.wT S h,Sc.vP,gA hk];omega
 ·rw [Sc.qU h];exact Nat.zero_le _
theorem afu {S:Nm.St} {r:R} (h:may r=true) (n:Int):vS S r n=Sc.nd S (sec r n):=by unfold vS;rw [if_pos h]
theorem aiG (S:Nm.St) (r:R) (n:Int):(vS S r n).ss.length≤S.ss.length+1:=by
 unfold vS;split
 ·exact Sc.aia _ _
 ·omega
def kn (S:Nm.St) (r:R) (n:Int):Prop:=Nm.place (Sc.four (sec r n)) S.ss ≠ 0
theorem adR {S:Nm.St} {r:R} (hk:Ok r) (h:may r=true) {n:Int} (hn:xU n):kn (vS S r n) r n:=by
 unfold kn;rw [afu h];exact Sc.tN S (uh hk h hn)
theorem ahC {S:Nm.St} {r:R} {n:Int} (h:kn S r n) (r':R) (n':Int):kn (vS S r' n') r n∧yp (vS S r' n') r n=yp S r n:=by
 unfold kn yp vS at *;split
 ·exact ⟨by rw [Sc.rh S _ h];exact h,Sc.afB S _ h⟩
 ·exact ⟨h,rfl⟩
theorem abX {S:Nm.St} {r:R} (hk:Ok r) (h:may r=true) {n:Int} (hn:xU n):vX S r n=(0,yp (vS S r n) r n):=by
 unfold vX yp;rw [Sc.wT S (uh hk h hn),afu h]
section
variable {m:Dk.M} {S:Nm.St} {r:R} {n:Int} {q:Nat}
theorem im (hu:Dk.Up m q) (hq:3≤q) (hk:Ok r) (h:may r=true) (hi:xU n):vE m S r n=0∧vM m S r n=Dk.put m (hn r) (yp (vS S r n) r n):=by
 have hl:(yp (vS S r n) r n).length≤1024:=by rw [ahd hk];omega
 have hh:hn r<q:=by rcases aiH r with e | e<;>omega
 unfold vE vM;rw [zg h (by rw [abX hk h hi]),zC h (by rw [abX hk h hi]),abX hk h hi,xp];exact ⟨hu.kE _ hh _ hl,hu.gY _ hh _ hl⟩
theorem ah5 (hk:Ok r) (h:may r=true) (hi:xU n) (Es:kn S r n):hb (home r) (vG S (home r) (yp S r n))=some r:=by
 have he:=uh hk h hi;have hg:Sc.gt (Nm.oB S) (sec r n).k (sec r n).a (Sc.bys S (sec r n))=(0,sec r n):=by
  unfold Sc.bys;exact Sc.ah9 he _ _ (by rw [List.length_append,Nm.dq]) (Sc.aga Es)
 have DI:vG S (home r) (yp S r n)=(0,sec r n):=hg;have hb:=back hk h;rw [DI];have e:gt (sec r n).L=r:=hb.2;rw [agd (G:=(0,sec r n)) rfl hb.1 (by rw [e];rfl) (by rw [e])];rw [e]
theorem ais (hq:3≤m.n):vA m S=(hb 1 (vG S 1 (Dk.cG m 1))).toList++(hb 2 (vG S 2 (Dk.cG m 2))).toList:=by
 have e:∀ k:Nat,k<m.n→hd m (k:Int) (vG S (k:Int))=hb (k:Int) (vG S (k:Int) (Dk.cG m k)):=fun k hk=>by
  have hh:Dk.here m (k:Int)=true:=by unfold Dk.here;simp;omega
  rw [pN _ hh];unfold Dk.bK;rw [hh,if_pos rfl,Int.toNat_natCast]
 have e1:=e 1 (by omega);have e2:=e 2 (by omega);unfold vA al;show ([]++(pF m (vG S) 0).toList)++(pF m (vG S) 1).toList=_;rw [List.nil_append];have f1:pF m (vG S) 0=hb 1 (vG S 1 (Dk.cG m 1)):=e1;have f2:pF m (vG S) 1=hb 2 (vG S 2 (Dk.cG m 2)):=e2;rw [f1,f2]
end
attribute [irreducible] vX vE vM vS vG vA hn yp kn
end Rg
end
section
open Go.RowKit
structure Kp (K:Nat) (y z:World):Prop where
 size:y.heap.size≤z.heap.size
 block:∀ k,K≤k→k<y.heap.size→z.heap[k]?=y.heap[k]?
section
variable {K B:Nat} {x y z:World}
theorem Kp.trans (h:Kp K x y) (g:Kp K y z):Kp K x z:=⟨Nat.le_trans h.size g.size,fun k h1 h2=>(g.block k h1 (Nat.lt_of_lt_of_le h2 h.size)).trans (h.block k h1 h2)⟩
theorem Kp.aB (h:qw y z):Kp K y z:=⟨h.size,fun k _ hk=>h.block k hk⟩
theorem Kp.eP {ks:List Nat} (h:Mv ks y z) (hk:∀ k∈ks,k<K):Kp K y z:=⟨h.size,fun k h1 h2=>h.block k h2 (fun q=>by have:=hk k q;omega)⟩
theorem agW {e s n:Nat} {v:Value} {xs:List Value} (h:y.ownsRow B e s v n xs) (hk:Kp K y z) (hB:K≤B):z.ownsRow B e s v n xs:=by
 refine ⟨h.1,?_⟩;rcases h.2 with h1 | ⟨g,cap,cur,h1,h2,h3,h4⟩
 ·exact Or.inl h1
 ·exact Or.inr ⟨g,cap,cur,h1,h2,(hk.block g (by omega) (lt_of_block h3)).trans h3,h4⟩
end
def Vs (x:World) (K:Nat) (y:World) (d g:Nat) (m:Dk.M) (S:Nm.St):Prop :=
 ∃ (T:Nat→Prop) (lb rb cb b c:Nat),aJ y T d lb rb cb m∧dH y g b c S∧(¬ T g∧¬ T b∧¬ T c)∧qw x y∧(∀ k∈[d,lb,rb,cb,b],x.heap.size≤k∧k<K)∧K≤y.heap.size
section
variable {x y z:World} {K d g:Nat} {m m':Dk.M} {S S':Nm.St}
theorem Vs.av (h:Vs x K y d g m S) (hb:qw y z):Vs x K z d g m S:=by
 obtain ⟨T,lb,rb,cb,b,c,h1,h2,h3,h4,h5,h6⟩:=h;exact ⟨T,lb,rb,cb,b,c,h1.av hb,h2.av hb,h3,h4.trans (hb.mono h4.size),h5,Nat.le_trans h6 hb.size⟩
theorem Vs.low (h:Vs x K y d g m S):qw x y:=by
 obtain ⟨T,lb,rb,cb,b,c,h1,h2,h3,h4,h5,h6⟩:=h;exact h4
theorem Vs.tf (h:Vs x K y d g m S) (i:Nat) (hi:i<m.n):ai.aY (Dk.cG m i):=by
 obtain ⟨T,lb,rb,cb,b,c,h1,_⟩:=h;obtain ⟨A,a1,a2,a3⟩:=h1.cI;obtain ⟨F,b1,b2⟩:=h1.csh;unfold Dk.cG;cases q:m.ca i with
 | none =>
  obtain ⟨v,_,hs⟩:=a3 i hi;exact hs.2.1
 | some L =>
  obtain ⟨v,_,hs⟩:=(b2 i).2 L q;exact hs.2.1
theorem adm {w1:World} {lb rb cb b c:Nat} (hd:aJ w1 (fun k=>x.heap.size≤k∧k<w1.heap.size) d lb rb cb m) (hb:qw x w1) (hs:dH y g b c S) (hg:w1.heap.size≤g∧w1.heap.size≤b∧w1.heap.size≤c) (Al:qw w1 y):Vs x y.heap.size y d g m S:=by
 refine ⟨_,lb,rb,cb,b,c,hd.av Al,hs,⟨fun h=>by omega,fun h=>by omega,fun h=>by omega⟩,hb.trans (Al.mono hb.size),fun k hk=>?_,Nat.le_refl _⟩;have l:=hd.lt;have s:=Al.size;have t:=hs.lt;simp only [List.mem_cons,List.not_mem_nil,or_false] at hk;rcases hk with rfl | rfl | rfl | rfl | rfl
 ·exact ⟨l.1.1,by omega⟩
 ·exact ⟨l.2.1.1,by omega⟩
 ·exact ⟨l.2.2.1.1,by omega⟩
 ·exact ⟨l.2.2.2.1,by omega⟩
 ·exact ⟨by have:=hb.size;omega,t.2.1⟩
def ahb (x:World) (K:Nat) (d g:Nat) (v:Value) (m:Dk.M) (S:Nm.St) (y:World) (e:Ending) (z:World):Prop:=e = .returned v∧Hid (Vs x K z d g m S)∧Hid (Kp K y z)
theorem sM (r:Rg.R) (hr:Rg.Ok r) (n:Int) (h:Vs x K y d g m S) (CG:m.wr≤1000000000) (hl:S.ss.length≤100000) :
  qc 30 #[qp d,.iface 66 (qp g),RV r,.int .i64 n] y (ahb x K d g (.int .i64 (Rg.vE m S r n)) (Rg.vM m S r n) (Rg.vS S r n) y):=by
 obtain ⟨T,lb,rb,cb,b,c,h1,h2,h3,h4,h5,h6⟩:=h;have hx:(Rg.vX S r n).2.length≤1000000:=Rg.agB hr S n;refine (od 66 (qp g) r hr n (Rg.vX S r n) [b] (fun _ z=>dH z g b c (Sc.nd S (Rg.sec r n))) y h1 (fun k hk=>by rw [List.mem_singleton] at hk;rw [hk];exact h3.2.1) hx CG (fun _ z p c' hz hp=>?_)).mono ?_
 ·refine (aaq S g b c (Rg.sec r n) p 192 c' (Rg.gA hr n) z (h2.av hz) hp hl).mono ?_;rintro e z' ⟨u,mm,dd,he,hm,ho,hs,DO,Mk⟩;refine ⟨u,mm,dd,?_,?_,?_,?_,DO,Mv.only Mk (by simp)⟩
  ·rw [he];unfold Rg.vX;rfl
  ·unfold Rg.vX;exact hm
  ·unfold Rg.vX;exact ho
  ·unfold Rg.vX;exact hs
 ·rintro e z ⟨he,hd,hm,z1,z2,hz1,hz2,NA⟩;have DY:∀ k∈[d,lb,rb,cb],T k:=fun k hk=>by
   simp only [List.mem_cons,List.not_mem_nil,or_false] at hk;rcases hk with rfl | rfl | rfl | rfl
   ·exact h1.lt.1
   ·exact h1.lt.2.1
   ·exact h1.lt.2.2.1
   ·exact h1.lt.2.2.2
  have DO:dH z g b c (Rg.vS S r n):=by
   have key:∀ S',dH z2 g b c S'→dH z g b c S':=fun S' hS=>hS.aG (NA.block _ hS.lt.1 (fun q=>h3.1 (DY _ q))) (NA.block _ hS.lt.2.1 (fun q=>h3.2.1 (DY _ q))) (NA.block _ hS.lt.2.2 (fun q=>h3.2.2 (DY _ q)));unfold Rg.vS;cases QM:Rg.may r with
   | true=>rw [QM,if_pos rfl] at hz2;rw [if_pos rfl];exact key _ hz2
   | false=>rw [QM,if_neg (by decide)] at hz2;rw [if_neg (by decide),];subst hz2;exact key _ (h2.av hz1)
  have hy:∀ k,Own T y z k→k=g∨k=b∨k=c→False:=fun k hk hq=>by
   rcases hk with q | q
   ·rcases hq with rfl | rfl | rfl
    ·exact h3.1 q
    ·exact h3.2.1 q
    ·exact h3.2.2 q
   ·have:=h2.lt;omega
  refine ⟨by rw [he];unfold Rg.vE;rfl,qh ⟨Own T y z,lb,rb,cb,b,c,by have:=hd.out;unfold Rg.vM;exact this,DO,⟨fun q=>hy _ q (Or.inl rfl),fun q=>hy _ q (Or.inr (Or.inl rfl)),fun q=>hy _ q (Or.inr (Or.inr rfl))⟩,hm.out.below h4 (fun k hk=>?_) h4.size,h5,Nat.le_trans h6 hm.out.size⟩,qh (Kp.eP hm.out (fun k hk=>?_))⟩
  ·exact (h5 k (by simpa using hk)).1
  ·exact (h5 k (by simpa using hk)).2
def aiL (x:World) (K:Nat) (d g:Nat) (m:Dk.M) (S:Nm.St) (y:World) (e:Ending) (z:World):Prop :=
 ∃ v,e = .returned v∧Hid (nF y.heap.size z v (Rg.vA m S))∧Hid (∀ r∈Rg.vA m S,Rg.Ok r)∧Hid (Vs x K z d g (Rg.fL m 2) S)∧Hid (Kp K y z)
theorem aho (S:Nm.St) (k a:Int) (B:List Int):(Sc.gt (Nm.oB S) k a B).2.L.length≤1000:=by
 by_cases h:(Sc.gt (Nm.oB S) k a B).1=0
 ·obtain ⟨h0,R,hR,he⟩:=Sc.xf h;rw [he];have h1:=(Sc.iq.1 h0).1;have h2:=congrArg List.length (Sc.sz hR).2;rw [List.length_append,List.length_drop,Nm.dq] at h2;show R.length≤1000;omega
 ·rw [Sc.wq h];exact Nat.zero_le _
theorem agU (S:Nm.St) (k a:Int) {B:List Int} (hB:ai.aY B):ai.aY (Sc.gt (Nm.oB S) k a B).2.L:=by
 by_cases h:(Sc.gt (Nm.oB S) k a B).1=0
 ·obtain ⟨h0,R,hR,he⟩:=Sc.xf h;rw [he];exact fun q hq=>hB q (List.mem_of_mem_drop (by rw [(Sc.sz hR).2];exact List.mem_append_left _ hq))
 ·rw [Sc.wq h];exact fun q hq=>by cases hq
theorem agA (h:Vs x K y d g m S) (CA:∀ j,m.rd j≤999999990) :
  qc 14 #[qp d,.iface 66 (qp g)] y (aiL x K d g m S y):=by
 have SK:=h.tf;obtain ⟨T,lb,rb,cb,b,c,h1,h2,h3,h4,h5,h6⟩:=h;have MB:∀ i:Int,ai.aY (Dk.bK m i):=fun i=>by
  unfold Dk.bK;by_cases q:Dk.here m i=true
  ·rw [if_pos q];obtain ⟨j,rfl,hj⟩:=Dk.gE q;rw [Int.toNat_natCast];exact SK j hj
  ·rw [if_neg q];exact fun w hw=>by cases hw
 have DY:∀ k∈[d,lb,rb,cb],T k:=fun k hk=>by
  simp only [List.mem_cons,List.not_mem_nil,or_false] at hk;rcases hk with rfl | rfl | rfl | rfl
  ·exact h1.lt.1
  ·exact h1.lt.2.1
  ·exact h1.lt.2.2.1
  ·exact h1.lt.2.2.2
 have key:∀ z,Mv [d,lb,rb,cb] y z→dH z g b c S:=fun z hz=>h2.aG (hz.block _ h2.lt.1 (fun q=>h3.1 (DY _ q))) (hz.block _ h2.lt.2.1 (fun q=>h3.2.1 (DY _ q))) (hz.block _ h2.lt.2.2 (fun q=>h3.2.2 (DY _ q)));refine (xc 66 (qp g) (Rg.vG S) y h1 CA (fun k _=>?_) (fun k _=>?_) (fun k _ z q n c' hz hn hb=>?_)).mono ?_
 ·unfold Rg.vG;exact Nat.le_trans (aho S _ _ _) (by omega)
 ·unfold Rg.vG;exact agU S _ _ (MB _)
 ·unfold Rg.vG;exact abm S g b c 2 _ _ q n c' hn z (key z hz) hb
 ·rintro e z ⟨v,rfl,ho,Ca,hd,hm⟩;have ev:Rg.al m (Rg.vG S)=Rg.vA m S:=by unfold Rg.vA;rfl
  rw [ev] at ho Ca;refine ⟨v,rfl,ho,Ca,qh ⟨T,lb,rb,cb,b,c,hd.out,key z hm.out,h3,hm.out.below h4 (fun k hk=>?_) h4.size,h5,Nat.le_trans h6 hm.out.size⟩,qh (Kp.eP hm.out (fun k hk=>?_))⟩
  ·exact (h5 k (by simp only [List.mem_cons,List.not_mem_nil,or_false] at hk ⊢;rcases hk with q | q | q | q<;>simp [q])).1
  ·exact (h5 k (by simp only [List.mem_cons,List.not_mem_nil,or_false] at hk ⊢;rcases hk with q | q | q | q<;>simp [q])).2
end
end
section
open Go.RowKit
namespace Rg
def late (lv:Int) (r:R):Bool:=decide (lv<r.st)&&decide (lv<r.st-1)
def better (o:Option R) (r:R):Bool:=match o with
 | none=>true
 | some b=>decide (b.st<r.st)
def jx (lv:Int) (o:Option R) (r:R):Option R:=if late lv r then o else if better o r then some r else o
def sZ (lv:Int) (L:List R) (k:Nat):Option R:=(L.take k).foldl (jx lv) none
def ch (lv:Int) (L:List R):Option R:=L.foldl (jx lv) none
theorem rQ (lv:Int) (L:List R):sZ lv L 0=none:=by unfold sZ;rw [List.take_zero];rfl
theorem sV (lv:Int) {L:List R} {k:Nat} (hk:k<L.length):sZ lv L (k+1)=jx lv (sZ lv L k) (L.getD k zero):=by
 unfold sZ;rw [List.take_add_one,List.getD_eq_getElem?_getD,List.getElem?_eq_getElem hk];show List.foldl (jx lv) none (L.take k++[L[k]])=_;rw [List.foldl_append]
 rfl
theorem xg (lv:Int) {L:List R} {n:Nat} (h:L.length=n):sZ lv L n=ch lv L:=by unfold sZ ch;rw [← h,List.take_length]
theorem afX (lv:Int) (o:Option R) (r:R):jx lv o r=o∨jx lv o r=some r:=by
 unfold jx;split
 ·exact Or.inl rfl
 ·split
  ·exact Or.inr rfl
  ·exact Or.inl rfl
theorem qq (lv:Int) {L:List R}:∀ k,k≤L.length→∀ b,sZ lv L k=some b→b∈L
 | 0,_,b,h=>by rw [rQ] at h;cases h
 | k+1,hk,b,h=>by
  rw [sV lv (by omega)] at h;rcases afX lv (sZ lv L k) (L.getD k zero) with e | e
  ·rw [e] at h;exact qq lv k (by omega) b h
  ·rw [e] at h;injection h with h
   rw [← h,List.getD_eq_getElem?_getD,List.getElem?_eq_getElem (by omega)];exact List.getElem_mem _
attribute [irreducible] late sZ ch
end Rg
theorem oL (lv:Int) (r:Rg.R):Rg.late lv r=(decide (lv<r.st)&&decide (lv<r.st-1)):=by unfold Rg.late;rfl
theorem gq {x:Rg.R} {z:World} {g:Nat} {t:TypeId} (h:z.heap[g]?=qo (br x) t):z.cell? ⟨g,1,none⟩=some (.int .i64 x.st):=by
 rw [cell_of_row z g 1 _ _ _ h];unfold br cv
 rfl
theorem zy (r:Rg.R) (h:Rg.Ok r) (gl:Nat) (lv:Int) (Dr:Pk.aT lv) (w:World) (hc:w.cell? ⟨gl,0,none⟩=some (.int .i64 lv)) :
  qc 70 #[RV r,qp gl] w (dQ (Rg.late lv r) w):=by
 rw [cM];have Aw:=qh (aA h);have h1:=dm r;have R0:Hid ((w.alloc (.cells (br r) 45)).heap[w.heap.size]?=qo (br r) 45):=heap_alloc_new w _;have B0:Hid (qw w (w.alloc (.cells (br r) 45))):=qb w _;have c1:=gq R0.out;have c2:(w.alloc (.cells (br r) 45)).cell? ⟨gl,0,none⟩=some (.int .i64 lv):=(B0.out.cell (p:=⟨gl,0,none⟩) (World.block_lt_of_cell? w _ hc)).trans hc;have DO:=h.st;rw [oL];unfold Pk.aT at DO Dr;generalize br r=A at *;generalize r.st=st at *;clear hc h;by_cases h2:lv<st
 ·have hw:IntKind.i64.wrap (st-1)=st-1:=IntWalk.i64_in _ ⟨by omega,by omega⟩;have hg:st>lv:=h2;rw [decide_eq_true h2,Bool.true_and];by_cases h3:lv<st-1
  ·have Nh:st-1>lv:=h3;rw [decide_eq_true h3];go_enter func70,ntmps70;go_wp2;go_ret;exact ⟨by first | rfl | simp [h3],B0.out⟩
  ·have Nh:¬ st-1>lv:=h3;rw [decide_eq_false h3];go_enter func70,ntmps70;go_wp2;go_ret;exact ⟨by first | rfl | simp [h3],B0.out⟩
 ·have hg:¬ st>lv:=h2;rw [decide_eq_false h2,Bool.false_and];go_enter func70,ntmps70;go_wp2;go_ret;exact ⟨by first | rfl | simp,B0.out⟩
def rR (o:Option Rg.R) (w:World) (e:Ending) (w':World):Prop:=e = .returned (.tuple #[RV (o.getD Rg.zero),.bool o.isSome])∧Hid (qw w w')
theorem tE (L:List Rg.R) (p:Option Addr) (n c:Nat) (hn:L.length=n) (hL:n≤1000000) (gl:Nat) (lv:Int) (Dr:Pk.aT lv) (w:World) (hp:Rs w p c L) (hc:w.cell? ⟨gl,0,none⟩=some (.int .i64 lv)) :
  qc 69 #[.slice p n c,.func (.func 70) #[] #[qp gl]] w (rR (Rg.ch lv L) w):=by
 have HP:=qh hp;have HN:=qh hn;obtain ⟨Z,hZ⟩:∃ Z,Hid (br Rg.zero=Z):=⟨_,rfl⟩;have AB:Hid (Z.size=136):=by show _=_;rw [← hZ.out];exact aA Rg.bw
 have hz:=(zero_of_info Tryz.dN).1;rw [show (cv Rg.zero).toArray=Z from hZ.out] at hz;have GV:¬ Z = #[]:=fun h=>by have:=AB.out;rw [h] at this;simp at this
 have Bj:=ae Tryz.ah AB;have HC:Hid (∀ y r,Rg.Ok r→qw w y→qc 70 #[.agg (br r),qp gl] y (dQ (Rg.late lv r) y)):=fun y r hr hy=>by
  rw [← cM];exact zy r hr gl lv Dr y ((hy.cell (p:=⟨gl,0,none⟩) (World.block_lt_of_cell? w _ hc)).trans hc)
 have CI:Hid (Rg.sZ lv L n=Rg.ch lv L):=Rg.xg lv hn;have HS:Hid (∀ k,k<n→Rg.sZ lv L (k+1)=Rg.jx lv (Rg.sZ lv L k) (L.getD k Rg.zero)):=fun k hk=>Rg.sV lv (by omega);have H0:Hid (Rg.sZ lv L 0=none):=Rg.rQ lv L;have HM:Hid (∀ k,k≤n→∀ b,Rg.sZ lv L k=some b→Rg.Ok b):=fun k hk b hb=>hp.ok b (Rg.qq lv k (by omega) b hb);have P9:Hid (Rg.Ok Rg.zero):=Rg.bw;rw [← CI.out];clear hp hc Dr hn CI;generalize Rg.sZ lv L=F at *;obtain ⟨w1,Aq⟩:∃ x,x=(w.alloc (.cells Z 45)).alloc (.cells Z 45):=⟨_,rfl⟩;have B1:Hid (qw w w1):=by rw [Aq];exact (qb w _).alloc (by simp) _
 have R4:Hid (w1.heap[w.heap.size]?=qo Z 45):=by rw [Aq];exact heap_alloc2_old w _ _
 have R6:Hid (w1.heap[w.heap.size+1]?=qo (br ((F 0).getD Rg.zero)) 45):=by rw [Aq,H0.out];show _=some (Obj.cells (br Rg.zero) _ _);rw [hZ.out];exact heap_alloc2_new w _ _
 have Fe:Hid (w1.heap.size=w.heap.size+2):=by show _=_;rw [Aq];simp
 go_enter func69,ntmps69;go_upto_region 2 with (fail)
 change Code.wp _ _ _ _ ((w.alloc (.cells Z 45)).alloc (.cells Z 45));rw [← Aq];clear Aq;have PO:Hid (w.heap.size+1<w1.heap.size):=by show _<_;rw [Fe.out];omega
 go_wp2;go_loopw [7,12] (fun v7 v12 wr=>∃ k:Nat,k≤n∧v12 = .int .i64 k∧v7 = .bool (F k).isSome∧Hid (wr.heap[w.heap.size]?=qo Z 45)∧Hid (wr.heap[w.heap.size+1]?=qo (br ((F k).getD Rg.zero)) 45)∧Hid (qw w wr)) (fun _ v12 _=>n-(intOf v12).toNat)
 case atStart=>exact ⟨0,by omega,rfl,by rw [H0.out];rfl,R4.out,R6.out,B1.out⟩
 case round =>
  clear B1 R4 R6;obtain ⟨k,hk,rfl,rfl,R4,R6,HB⟩:=hrel;by_cases Ae:k<n
  ·obtain ⟨ab,ao,CM,_⟩:=HP.out.at_ (by rw [HN.out];omega);subst CM;have HR:Hid (wr.rangeAt ab (ao+k*136) (br (L.getD k Rg.zero)).toList):=(HP.out.av HB.out).rng (by rw [HN.out];exact Ae);have BH:Hid (Rg.Ok (L.getD k Rg.zero)):=HP.out.getD k;have Dv:=qh (HS.out k Ae);have FQ:=qh (HM.out k hk);generalize L.getD k Rg.zero=x at *;have Ki:Hid (∀ y,qw w y→qc 70 #[.agg (br x),qp gl] y (dQ (Rg.late lv x) y)):=fun y hy=>HC.out y x BH.out hy;have JP:=qh (iQ BH.out);have GL:Hid ((br x).size=136):=aA BH.out;have CQ:Hid ((br x).all (·.oneCell')=true):=dm _;have CP:Hid ((br ((F k).getD Rg.zero)).size=136):=by
    show _=_;cases q:F k with
    | none=>exact aA P9.out
    | some b=>exact aA (FQ.out b q)
   have Ni:0≤(k:Int):=by omega
   have Gl:(k:Int)<(n:Int):=by omega
   clear HC HS HM;go_upto_region 6 with (first
    | ((with_reducible refine fR _ _ _ _ _ _ ?_ HR.out underlying45 ?_ JP.out ?_);(exact rfl);(exact rfl))
    | ((with_reducible refine ak _ _ _ _ _ _ _ ?_ ?_ (heap_alloc_new _ _) (ae Tryz.ah GL) ?_ CQ.out ?_);(exact rfl);(exact rfl);(rw [GL.out,AB.out]);intro w2 G2 BB))
   have h2:qw wr w2:=BB.below (qb wr _) qn;have Aj:Hid (qw w w2):=HB.out.trans (h2.mono HB.out.size);have Fu:=qh ((h2.block _ (lt_of_block R4.out)).trans R4.out);have GM:=qh ((h2.block _ (lt_of_block R6.out)).trans R6.out);clear h2 BB R4 R6 HR;generalize wr.heap.size=g9 at *;cases hq:Rg.late lv x with
   | true =>
    rw [hq] at Ki;have Dv:Hid (F (k+1)=F k):=by have h:=Dv.out;unfold Rg.jx at h;rw [hq] at h;exact h
    clear hq;generalize F k=o at *;go_wp2_with (first
     | ((with_reducible refine ay _ _ _ _ _ _ _ ?_ G2.out underlying45 ?_ JP.out ?_);(exact rfl);(exact rfl))
     | (go_at_call 70;refine (Ki.out _ Aj.out).mono ?_;rintro e3 w3 ⟨rfl,Bu⟩;have Ao:=qh (Aj.out.trans (Bu.out.mono Aj.out.size));have G3:=qh ((Bu.out.block _ (lt_of_block G2.out)).trans G2.out);have Gb:=qh ((Bu.out.block _ (lt_of_block GM.out)).trans GM.out);have JR:=qh ((Bu.out.block _ (lt_of_block Fu.out)).trans Fu.out);have c9:=gq G3.out;have c6:=gq Gb.out))
    exact ⟨⟨k+1,by omega,by go_num,by rw [Dv.out],JR.out,by rw [Dv.out];exact Gb.out,Ao.out⟩,by simp [intOf];omega⟩
   | false =>
    rw [hq] at Ki;have Dv:Hid (F (k+1)=if Rg.better (F k) x then some x else F k):=by have h:=Dv.out;unfold Rg.jx at h;rw [hq] at h;exact h
    clear hq;cases ho:F k with
    | none =>
     try rw [ho] at Dv
     try rw [ho] at CP
     try rw [ho] at Fu
     try rw [ho] at GM
     have Dv:Hid (F (k+1)=some x):=Dv.out;clear FQ;go_wp2_with (first
      | ((with_reducible refine ay _ _ _ _ _ _ _ ?_ G3.out underlying45 ?_ JP.out ?_);(exact rfl);(exact rfl))
      | ((with_reducible refine ay _ _ _ _ _ _ _ ?_ G2.out underlying45 ?_ JP.out ?_);(exact rfl);(exact rfl))
      | (go_at_call 70;refine (Ki.out _ Aj.out).mono ?_;rintro e3 w3 ⟨rfl,Bu⟩;have Ao:=qh (Aj.out.trans (Bu.out.mono Aj.out.size));have G3:=qh ((Bu.out.block _ (lt_of_block G2.out)).trans G2.out);have Gb:=qh ((Bu.out.block _ (lt_of_block GM.out)).trans GM.out);have JR:=qh ((Bu.out.block _ (lt_of_block Fu.out)).trans Fu.out);have c9:=gq G3.out;have c6:=gq Gb.out)
      | ((with_reducible refine ak _ _ _ _ _ _ _ ?_ ?_ Gb.out (ae Tryz.ah GL) ?_ CQ.out ?_);(exact rfl);(exact rfl);(rw [GL.out,CP.out]);intro w4 G4 DM))
     have Av:Hid (qw w w4):=DM.below Ao.out (Nat.le_succ _);exact ⟨⟨k+1,by omega,by go_num,by rw [Dv.out];rfl,(DM.block _ (by omega)).trans JR.out,by rw [Dv.out];exact G4.out,Av.out⟩,by simp [intOf];omega⟩
    | some b =>
     try rw [ho] at Dv
     try rw [ho] at CP
     try rw [ho] at Fu
     try rw [ho] at GM
     by_cases hb:b.st<x.st
     ·have Dv:Hid (F (k+1)=some x):=by have h:=Dv.out;rw [show Rg.better (some b) x=true from decide_eq_true hb,if_pos rfl] at h;exact h
      have Al:x.st>b.st:=hb;clear FQ;go_wp2_with (first
       | ((with_reducible refine ay _ _ _ _ _ _ _ ?_ G3.out underlying45 ?_ JP.out ?_);(exact rfl);(exact rfl))
       | ((with_reducible refine ay _ _ _ _ _ _ _ ?_ G2.out underlying45 ?_ JP.out ?_);(exact rfl);(exact rfl))
       | (go_at_call 70;refine (Ki.out _ Aj.out).mono ?_;rintro e3 w3 ⟨rfl,Bu⟩;have Ao:=qh (Aj.out.trans (Bu.out.mono Aj.out.size));have G3:=qh ((Bu.out.block _ (lt_of_block G2.out)).trans G2.out);have Gb:=qh ((Bu.out.block _ (lt_of_block GM.out)).trans GM.out);have JR:=qh ((Bu.out.block _ (lt_of_block Fu.out)).trans Fu.out);have c9:=gq G3.out;have c6:=gq Gb.out)
       | ((with_reducible refine ak _ _ _ _ _ _ _ ?_ ?_ Gb.out (ae Tryz.ah GL) ?_ CQ.out ?_);(exact rfl);(exact rfl);(rw [GL.out,CP.out]);intro w4 G4 DM))
      have Av:Hid (qw w w4):=DM.below Ao.out (Nat.le_succ _);exact ⟨⟨k+1,by omega,by go_num,by rw [Dv.out];rfl,(DM.block _ (by omega)).trans JR.out,by rw [Dv.out];exact G4.out,Av.out⟩,by simp [intOf];omega⟩
     ·have Dv:Hid (F (k+1)=some b):=by have h:=Dv.out;rw [show Rg.better (some b) x=false from decide_eq_false hb,if_neg (by decide)] at h;exact h
      have Al:¬ x.st>b.st:=hb;clear FQ;go_wp2_with (first
       | ((with_reducible refine ay _ _ _ _ _ _ _ ?_ G2.out underlying45 ?_ JP.out ?_);(exact rfl);(exact rfl))
       | (go_at_call 70;refine (Ki.out _ Aj.out).mono ?_;rintro e3 w3 ⟨rfl,Bu⟩;have Ao:=qh (Aj.out.trans (Bu.out.mono Aj.out.size));have G3:=qh ((Bu.out.block _ (lt_of_block G2.out)).trans G2.out);have Gb:=qh ((Bu.out.block _ (lt_of_block GM.out)).trans GM.out);have JR:=qh ((Bu.out.block _ (lt_of_block Fu.out)).trans Fu.out);have c9:=gq G3.out;have c6:=gq Gb.out))
      exact ⟨⟨k+1,by omega,by go_num,by rw [Dv.out];rfl,JR.out,by rw [Dv.out];exact Gb.out,Ao.out⟩,by simp [intOf];omega⟩
  ·obtain rfl:k=n:=by omega
   have CP:Hid ((br ((F k).getD Rg.zero)).size=136):=by
    show _=_;cases q:F k with
    | none=>exact aA P9.out
    | some b=>exact aA (HM.out k qn b q)
   have Hx:Hid ((br ((F k).getD Rg.zero)).all (·.oneCell')=true):=dm _;have JF:Hid (RV ((F k).getD Rg.zero) = .agg (br ((F k).getD Rg.zero))):=cM _;clear Ae HC HS HM;have Bc:¬ (k:Int)<(k:Int):=by omega
   show Code.wp _ _ _ _ _;generalize br ((F k).getD Rg.zero)=A at *;go_wp2_with (first
    | ((with_reducible refine ay _ _ _ _ _ _ _ ?_ R6.out underlying45 ?_ (ae Tryz.ah CP) ?_);(exact rfl);(exact rfl))
    | ((with_reducible refine ak _ _ _ _ _ _ _ ?_ ?_ R4.out (ae Tryz.ah CP) ?_ Hx.out ?_);(exact rfl);(exact rfl);(rw [CP.out,AB.out]);intro w2 G2 BB))
   refine bodyPost_ret (results_cell_tmp rfl _ _ w.heap.size 45 A (0,0) _ rfl G2.out underlying45 rfl (ae Tryz.ah CP)) rfl ⟨?_,BB.below HB.out qn⟩;rw [JF.out];rfl
theorem uI (L:List Rg.R) (p:Option Addr) (n c:Nat) (hn:L.length=n) (hL:n≤1000000) (lv:Int) (Dr:Pk.aT lv) (w:World) (hp:Rs w p c L) :
  qc 31 #[.slice p n c,.int .i64 lv] w (rR (Rg.ch lv L) w):=by
 obtain ⟨Z,hZ⟩:∃ Z,Hid (br Rg.zero=Z):=⟨_,rfl⟩;have AB:Hid (Z.size=136):=by show _=_;rw [← hZ.out];exact aA Rg.bw
 have hz:=(zero_of_info Tryz.dN).1;rw [show (cv Rg.zero).toArray=Z from hZ.out] at hz;have GV:¬ Z = #[]:=fun h=>by have:=AB.out;rw [h] at this;simp at this
 have Bj:=ae Tryz.ah AB;obtain ⟨w1,Aq⟩:∃ x,x=(w.alloc (.cells #[.int .i64 lv] 3)).alloc (.cells Z 45):=⟨_,rfl⟩;have B1:Hid (qw w w1):=by rw [Aq];exact (qb w _).alloc (by simp) _
 have R0:Hid (w1.heap[w.heap.size]?=qo #[.int .i64 lv] 3):=by rw [Aq];exact heap_alloc2_old w _ _
 have R4:Hid (w1.heap[w.heap.size+1]?=qo Z 45):=by rw [Aq];exact heap_alloc2_new w _ _
 have HC:Hid (qc 69 #[.slice p n c,.func (.func 70) #[] #[qp w.heap.size]] w1 (rR (Rg.ch lv L) w1)):=tE L p n c hn hL w.heap.size lv Dr w1 (hp.av B1.out) (by rw [cell_of_row w1 w.heap.size 0 _ _ _ R0.out];rfl);have HO:Hid (Rg.Ok ((Rg.ch lv L).getD Rg.zero)):=by
  have hm:∀ b,Rg.ch lv L=some b→Rg.Ok b:=fun b hb=>hp.ok b (Rg.qq lv n (by omega) b (by rw [Rg.xg lv hn];exact hb));cases q:Rg.ch lv L with
  | none=>exact Rg.bw
  | some b=>exact hm b q
 have JF:Hid (RV ((Rg.ch lv L).getD Rg.zero) = .agg (br ((Rg.ch lv L).getD Rg.zero))):=cM _;have Aw:Hid ((br ((Rg.ch lv L).getD Rg.zero)).size=136):=aA HO.out;have An:Hid ((br ((Rg.ch lv L).getD Rg.zero)).all (·.oneCell')=true):=dm _;unfold rR at HC ⊢;rw [JF.out] at HC ⊢;clear HO JF hp hn Dr;generalize br ((Rg.ch lv L).getD Rg.zero)=A at *;generalize (Rg.ch lv L).isSome=b at *;go_enter func31,ntmps31;go_upto_region 1 with (fail)
 change Code.wp _ _ _ _ ((w.alloc (.cells #[.int .i64 lv] 3)).alloc (.cells Z 45));rw [← Aq];clear Aq;go_wp2_with (first
  | (go_at_call 69;refine HC.out.mono ?_;rintro e2 w2 ⟨rfl,Aj⟩;have Ao:=qh (B1.out.trans (Aj.out.mono B1.out.size));have Fu:=qh ((Aj.out.block _ (lt_of_block R4.out)).trans R4.out))
  | ((with_reducible refine ak _ _ _ _ _ _ _ ?_ ?_ Fu.out (ae Tryz.ah Aw) ?_ An.out ?_);(exact rfl);(exact rfl);(rw [Aw.out,AB.out]);intro w4 G4 DM))
 refine bodyPost_ret (results_cell_tmp rfl _ _ (w.heap.size+1) 45 A (0,0) _ rfl G4.out underlying45 rfl (ae Tryz.ah Aw)) rfl ⟨rfl,DM.below Ao.out (Nat.le_succ _)⟩
end
section
open Go.RowKit
namespace Rg
structure uz (m:Dk.M) (S:Nm.St) (j:Nat) (r:R) (n:Int):Prop where
 pk:Dk.cG m j=yp S r n
 kn:kn S r n
 ok:Ok r
 may:may r=true
 num:xU n
 at_:hn r=j
theorem sj (m:Dk.M) (i:Nat) (L:List Int) (j:Nat):Dk.cG (Dk.put m i L) j=if j=i then L else Dk.cG m j:=by
 unfold Dk.cG Dk.put;show (aZ m.ca i (some L) j).getD (m.ls j)=_;unfold aZ;by_cases h:j=i
 ·rw [if_pos h,if_pos h];rfl
 ·rw [if_neg h,if_neg h]
section
variable {m:Dk.M} {S:Nm.St} {r r':R} {n n':Int} {q j:Nat}
theorem sB (hu:Dk.Up m q) (hq:3≤q) (hk:Ok r) (h:Rg.may r=true) (hi:xU n):uz (vM m S r n) (vS S r n) (hn r) r n:=by
 refine ⟨?_,adR hk h hi,hk,h,hi,rfl⟩;rw [(im hu hq hk h hi).2,sj,if_pos rfl]
theorem yy (hh:uz m S j r' n') (hu:Dk.Up m q) (hq:3≤q) (hk:Ok r) (h:Rg.may r=true) (hi:xU n) (hj:j ≠ hn r):uz (vM m S r n) (vS S r n) j r' n':=by
 obtain ⟨h1,h2,h3,h4,h5,h6⟩:=hh;obtain ⟨k1,k2⟩:=ahC h2 r n;refine ⟨?_,k1,h3,h4,h5,h6⟩;rw [(im hu hq hk h hi).2,sj,if_neg hj,h1,k2]
theorem vL (hh:uz m S j r n):hb (j:Int) (vG S (j:Int) (Dk.cG m j))=some r:=by
 obtain ⟨h1,h2,h3,h4,h5,h6⟩:=hh;have h:=ah5 h3 h4 h5 h2;rw [xp,h6] at h;rw [h1];exact h
theorem aar (hu:Dk.Up m q) (hq:3≤q) (hk:Ok r) (h:Rg.may r=true) (hi:xU n):Dk.Up (vM m S r n) q:=by rw [(im hu hq hk h hi).2];exact hu.put _ _
end
def ny (gen st:Int):R:={ zero with gen:=gen,st:=st,ep:=2 }
theorem aeC (g s:Int):(ny g s).gen=g:=rfl
theorem agr (g s:Int):(ny g s).st=s:=rfl
theorem tH {g s:Int} (hg:Pk.aT g) (hs:Pk.aT s):Ok (ny g s):={ bw with gen:=hg,st:=hs,ep:=by show Pk.aT 2;unfold Pk.aT;omega }
theorem wY {g s:Int} (hg:1≤g∧g≤1099511627776) (hs:1≤s∧s≤1099511627776):may (ny g s)=true:=by
 have e1:(ny g s).rt=zr:=by unfold ny zero;rfl
 have e2:(ny g s).bs=0∧(ny g s).bl=0∧(ny g s).ts=0∧(ny g s).tl=0:=by unfold ny zero;exact ⟨rfl,rfl,rfl,rfl⟩
 rw [o7,e1,e2.1,e2.2.1,e2.2.2.1,e2.2.2.2,aeC,agr,iJ.2 hg,iJ.2 hs,show (ny g s).ep=2 from rfl,iJ.2 (by omega),lK,decide_eq_true rfl,u4];decide
theorem agC {r:R} (h:r.gen % 2 ≠ 0):hn r=2:=by unfold hn;rw [if_neg h]
theorem ac2 {r:R} (h:r.gen % 2=0):hn r=1:=by unfold hn;rw [if_pos h]
def r1:R:=ny 1 2
def r2:R:=ny 2 3
theorem kN:Ok r1:=tH (by unfold Pk.aT;omega) (by unfold Pk.aT;omega)
theorem kU:Ok r2:=tH (by unfold Pk.aT;omega) (by unfold Pk.aT;omega)
theorem qH:may r1=true:=wY (by omega) (by omega)
theorem o0:may r2=true:=wY (by omega) (by omega)
def m0:Dk.M:=Dk.fresh 4
def m1:Dk.M:=vM m0 Nm.St.none r1 1
def S1:Nm.St:=vS Nm.St.none r1 1
def m2:Dk.M:=vM m1 S1 r2 5
def S2:Nm.St:=vS S1 r2 5
theorem u0:Dk.Up m0 4:=Dk.Up.fresh 4
theorem i1:xU 1:=by unfold xU;omega
theorem i5:xU 5:=by unfold xU;omega
theorem u1:Dk.Up m1 4:=aar u0 (by omega) kN qH i1
theorem e1:vE m0 Nm.St.none r1 1=0:=(im u0 (by omega) kN qH i1).1
theorem e2:vE m1 S1 r2 5=0:=(im u1 (by omega) kU o0 i5).1
theorem u2:Dk.Up m2 4:=aar u1 (by omega) kU o0 i5
theorem a2:vA m2 S2 = [r2,r1]:=by
 have h1:hn r1=2:=agC (by show (1:Int) % 2 ≠ 0;decide);have h2:hn r2=1:=ac2 (by show (2:Int) % 2=0;decide);have o1:uz m1 S1 2 r1 1:=by have h:=sB (S:=Nm.St.none) u0 (by omega) kN qH i1;rw [h1] at h;exact h
 have o2:uz m2 S2 2 r1 1:=yy o1 u1 (by omega) kU o0 i5 (by rw [h2];omega);have o3:uz m2 S2 1 r2 5:=by have h:=sB (S:=S1) u1 (by omega) kU o0 i5;rw [h2] at h;exact h
 rw [ais (by rw [u2.n];omega)];have k1:=vL o3;have k2:=vL o2;have k1':hb 1 (vG S2 1 (Dk.cG m2 1))=some r2:=k1;have k2':hb 2 (vG S2 2 (Dk.cG m2 2))=some r1:=k2;rw [k1',k2']
 rfl
theorem c1:ch 1 [r2,r1]=some r1:=by
 have l2:late 1 r2=true:=by rw [oL];decide
 have l1:late 1 r1=false:=by rw [oL];decide
 unfold ch;show jx 1 (jx 1 none r2) r1=some r1;have s2:jx 1 none r2=none:=by unfold jx;rw [l2];rfl
 rw [s2];unfold jx;rw [l1]
 rfl
theorem aja:S1.ss.length≤1:=by have h:=aiG Nm.St.none r1 1;exact h
theorem abt (m:Dk.M) (S:Nm.St) (r:R) (n:Int):(vM m S r n).wr≤m.wr+1∧(vM m S r n).rd=m.rd:=by
 unfold vM wM;split
 ·split
  ·unfold Dk.gY;split
   ·exact ⟨Nat.le_succ _,rfl⟩
   ·split
    ·exact ⟨Nat.le_succ _,rfl⟩
    ·split
     ·rw [Dk.fS,Dk.mG];exact ⟨Nat.le_succ _,rfl⟩
     ·exact ⟨Nat.le_refl _,Dk.mG m⟩
  ·exact ⟨Nat.le_succ _,rfl⟩
 ·exact ⟨Nat.le_succ _,rfl⟩
theorem ai0:m0.wr≤1000000000:=Nat.zero_le _
theorem ai9:m1.wr≤1000000000:=Nat.le_trans (abt m0 _ _ _).1 (by decide)
theorem aiM (j:Nat):m2.rd j≤999999990:=by unfold m2;rw [(abt m1 S1 r2 5).2];unfold m1;rw [(abt m0 _ _ _).2];exact Nat.zero_le _
attribute [irreducible] ny r1 r2 m0 m1 m2 S1 S2
end Rg
end
end Go.Proofs.YthgjfjmampmiiaaGreatDoor

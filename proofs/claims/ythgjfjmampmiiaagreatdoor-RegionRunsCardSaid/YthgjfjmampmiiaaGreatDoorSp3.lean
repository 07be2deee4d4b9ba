/-
  SpZ0, SpZ5, SpZ6, SpZ7, SpZ9 (merged)
-/
import Derived.Test.YthgjfjmampmiiaaGreatDoorRg3
import Derived.Test.YthgjfjmampmiiaaGreatDoorSc5
import Derived.Test.YthgjfjmampmiiaaGreatDoorDk5
namespace Go.Proofs.YthgjfjmampmiiaaGreatDoor
section
open Go.RowKit
theorem dX.same {y z:World} {g:Nat} {K:List Int} (h:dX y g K) (hk:∀ (k:Nat) (cur:Array Value) (e:TypeId),e = 83∨e = 125∨e = 130→y.heap[k]?=qo cur e→z.heap[k]?=y.heap[k]?):dX z g K:=by
 obtain ⟨c,h1,kb,n,cap,base,h2,h3,h4⟩:=h;unfold Boxed at h1;refine ⟨c,(hk _ _ _ (Or.inl rfl) h1).trans h1,kb,n,cap,base,(hk _ _ _ (Or.inr (Or.inl rfl)) h2).trans h2,h3,h4.1,?_⟩;rcases h4.2 with q | ⟨b,AO,cur,q1,q2,q3,q4⟩
 ·exact Or.inl q
 ·exact Or.inr ⟨b,AO,cur,q1,q2,(hk _ _ _ (Or.inr (Or.inr rfl)) q3).trans q3,q4⟩
section
variable {w y z:World} {T T':Nat→Prop} {d lb rb cb:Nat} {m:Dk.M} {K:List Int} {g:Nat}
theorem aJ.off (h:aJ y T d lb rb cb m) {k:Nat} {cur:Array Value} {e:TypeId} (hk:y.heap[k]?=qo cur e) (h1:e ≠ 74) (h2:e ≠ 22) (h3:e ≠ 3):k∉[d,lb,rb,cb]:=by
 intro AF;simp only [List.mem_cons,List.not_mem_nil,or_false] at AF;rcases AF with rfl | rfl | rfl | rfl
 ·have q:=h.row;rw [q] at hk;injection hk with hk
  injection hk with _ hk _
  exact h1 hk.symm
 ·obtain ⟨A,a1,_⟩:=h.cI;rw [a1] at hk;injection hk with hk
  injection hk with _ hk _
  exact h2 hk.symm
 ·have q:=h.rds;rw [q] at hk;injection hk with hk
  injection hk with _ hk _
  exact h3 hk.symm
 ·obtain ⟨F,b1,_⟩:=h.csh;obtain ⟨es,clock,b2⟩:=b1.isMap;rw [b2] at hk;cases hk
theorem aJ.u32 (h:aJ y T d lb rb cb m) {g o:Nat} {x:Int} (hc:y.cell? ⟨g,o,none⟩=some (.int .u32 x)):g∉[d,lb,rb,cb]:=by
 obtain ⟨A,a1,a2,a3⟩:=h.cI;obtain ⟨F,b1,_⟩:=h.csh;obtain ⟨es,clock,b1⟩:=b1.isMap;intro AF;simp only [List.mem_cons,List.not_mem_nil,or_false] at AF;rcases AF with rfl | rfl | rfl | rfl
 ·rw [cell_of_row y g o _ _ _ h.row] at hc
  match o,hc with
  | 0,hc=>cases hc
  | 1,hc=>cases hc
  | 2,hc=>cases hc
  | 3,hc=>cases hc
  | 4,hc=>cases hc
  | 5,hc=>cases hc
  | n+6,hc=>simp at hc
 ·rw [cell_of_row y g o _ _ _ a1] at hc;have ho:o<A.size:=(Array.getElem?_eq_some_iff.1 hc).1;obtain ⟨v,c1,c2⟩:=a3 o (by omega);obtain ⟨p,c,rfl,_⟩:=c2.bs;rw [c1] at hc;cases hc
 ·rw [cell_of_row y g o _ _ _ h.rds] at hc;simp at hc
 ·simp [World.cell?,b1] at hc
def Qd (w:World) (ks:List Nat) (z:World):Prop:=w.heap.size≤z.heap.size∧∀ k,k<w.heap.size→k∉ks→z.heap[k]?=w.heap[k]?
theorem Qd.refl (w:World) (ks:List Nat):Qd w ks w:=⟨Nat.le_refl _,fun _ _ _=>rfl⟩
theorem Qd.mv {ks:List Nat} (h:Qd w ks y) (hm:Mv ks y z):Qd w ks z:=⟨Nat.le_trans h.1 hm.size,fun k h1 h2=>(hm.block k (Nat.lt_of_lt_of_le h1 h.1) h2).trans (h.2 k h1 h2)⟩
theorem aa4 (hb:dX w g K) (hd:aJ w T d lb rb cb m) (hq:Qd w [d,lb,rb,cb] z):dX z g K :=
 hb.same fun k cur e he hk=>hq.2 k (lt_of_block hk) (hd.off hk (by rcases he with rfl | rfl | rfl<;>decide) (by rcases he with rfl | rfl | rfl<;>decide) (by rcases he with rfl | rfl | rfl<;>decide))
theorem ahp {t:Nat} (ht:cT w t) (hd:aJ w T d lb rb cb m) (hq:Qd w [d,lb,rb,cb] z):cT z t:=fun j hj=>by
 have h:=ht j hj;rw [World.cell?_of_block (a:=⟨t,j,none⟩) (hq.2 t (World.block_lt_of_cell? _ _ h) (hd.u32 h))];exact h
end
end
section
open Go.RowKit
theorem jr.same {B:Nat} {w x:World} {g:Nat} {K:List Int} (h:jr B w g K) (hk:∀ k,B≤k→k<w.heap.size→x.heap[k]?=w.heap[k]?):jr B x g K:=by
 obtain ⟨d,q,cq,h0,h1,h2,h3,h4,h5,h6⟩:=h;exact ⟨d,q,cq,h0,h1,h2,h3,(hk _ h0 (lt_of_block h4)).trans h4,fun j hj=>by
  have h:=h5 j hj;rw [World.cell?_of_block (a:=⟨q,j,none⟩) (hk q h1 (World.block_lt_of_cell? _ _ h))];exact h,h6.same hk⟩
section
variable {w z:World} {T:Nat→Prop} {r qb B:Nat} {m:Dk.M} {K:List Int} {g:Nat}
theorem ail (h:gQ B w g K) (hB:r<B∧qb<B) (hq:Qd w [r,qb] z):gQ B z g K:=by
 obtain ⟨gb,h0,h1,h2⟩:=h;have hk:∀ k,B≤k→k<w.heap.size→z.heap[k]?=w.heap[k]?:=fun k a b=>hq.2 k b (by simp only [List.mem_cons,List.not_mem_nil,or_false];omega);exact ⟨gb,h0,(hk _ h0 (lt_of_block h1)).trans h1,h2.same hk⟩
theorem ac6 {t:Nat} (ht:cT w t) (hK:t∉[r,qb]) (hq:Qd w [r,qb] z):cT z t:=fun j hj=>by
 have h:=ht j hj;rw [World.cell?_of_block (a:=⟨t,j,none⟩) (hq.2 t (World.block_lt_of_cell? _ _ h) hK)];exact h
end
end
section
open Go.RowKit
structure qS (w:World) (K:List Int) (d lb rb cb r qb gs gr B:Nat) (T U:Nat→Prop) (m n:Dk.M) (y:World):Prop where
 bel:qw w y
 dk:aJ y T d lb rb cb m
 rf:bA y U r qb n
 dj:∀ k,T k→U k→False
 lo:(∀ k,T k→w.heap.size≤k)∧∀ k,U k→w.heap.size≤k
 bx:dX y gs K
 cr:gQ B y gr K
 lt:(d<B∧lb<B∧rb<B∧cb<B)∧r<B∧qb<B
 ts:cT w 0
 tk:cT w 1
 bs:B≤y.heap.size
def bB (w:World) (K:List Int) (d lb rb cb r qb gs gr B:Nat) (m n:Dk.M) (y:World):Prop:=∃ T U,qS w K d lb rb cb r qb gs gr B T U m n y
section
variable {w y z:World} {K:List Int} {d lb rb cb r qb gs gr B:Nat} {T U:Nat→Prop} {m n m' n':Dk.M}
theorem gQ.same (h:gQ B y gr K) (hk:∀ k,B≤k→k<y.heap.size→z.heap[k]?=y.heap[k]?):gQ B z gr K:=by
 obtain ⟨gb,h0,h1,h2⟩:=h;exact ⟨gb,h0,(hk _ h0 (lt_of_block h1)).trans h1,h2.same hk⟩
theorem qS.ts' (h:qS w K d lb rb cb r qb gs gr B T U m n y):cT y 0:=h.ts.below h.bel h.ts.lt
theorem qS.tk' (h:qS w K d lb rb cb r qb gs gr B T U m n y):cT y 1:=h.tk.below h.bel h.tk.lt
theorem qS.ofK (h:qS w K d lb rb cb r qb gs gr B T U m n y):1 ∉ [r,qb]:=fun AF=>by
 have h1:=h.tk.lt;simp only [List.mem_cons,List.not_mem_nil,or_false] at AF;rcases AF with q | q
 ·have:=h.lo.2 _ h.rf.lt.1;omega
 ·have:=h.lo.2 _ h.rf.lt.2;omega
theorem bA.off (h:bA y U r qb n) {k:Nat} {cur:Array Value} {e:TypeId} (hk:y.heap[k]?=qo cur e) (h1:e ≠ 77) (h3:e ≠ 3):k∉[r,qb]:=by
 obtain ⟨vl,vc,G,h⟩:=h;intro AF;simp only [List.mem_cons,List.not_mem_nil,or_false] at AF;rcases AF with rfl | rfl
 ·have q:=h.row;rw [q] at hk;injection hk with hk
  injection hk with _ hk _
  exact h1 hk.symm
 ·have q:=h.cnt;rw [q] at hk;injection hk with hk
  injection hk with _ hk _
  exact h3 hk.symm
theorem qS.ff (h:qS w K d lb rb cb r qb gs gr B T U m n y) (hm:Mv [d,lb,rb,cb] y z) (hd:aJ z (Own T y z) d lb rb cb m'):qS w K d lb rb cb r qb gs gr B (Own T y z) U m' n z:=by
 have hT:∀ k∈[d,lb,rb,cb],T k:=fun k hk=>by
  simp only [List.mem_cons,List.not_mem_nil,or_false] at hk;rcases hk with rfl | rfl | rfl | rfl
  ·exact h.dk.lt.1
  ·exact h.dk.lt.2.1
  ·exact h.dk.lt.2.2.1
  ·exact h.dk.lt.2.2.2
 refine ⟨hm.below h.bel (fun k hk=>h.lo.1 k (hT k hk)) h.bel.size,hd,h.rf.mv hm (fun k hk hu=>h.dj k (hT k hk) hu),?_,⟨?_,h.lo.2⟩,?_,?_,h.lt,h.ts,h.tk,Nat.le_trans h.bs hm.size⟩
 ·rintro k (h1 | h1) h2
  ·exact h.dj k h1 h2
  ·have:=h.rf.top k h2;omega
 ·rintro k (h1 | h1)
  ·exact h.lo.1 k h1
  ·have:=h.bel.size;omega
 ·exact aa4 h.bx h.dk ((Qd.refl y _).mv hm)
 ·exact h.cr.same fun k h1 h2=>hm.block k h2 (fun AF=>by
   have:=h.lt.1;simp only [List.mem_cons,List.not_mem_nil,or_false] at AF;omega)
theorem qS.mvr (h:qS w K d lb rb cb r qb gs gr B T U m n y) (hm:Mv [r,qb] y z) (hd:bA z (Own U y z) r qb n'):qS w K d lb rb cb r qb gs gr B T (Own U y z) m n' z:=by
 have hT:∀ k∈[r,qb],U k:=fun k hk=>by
  simp only [List.mem_cons,List.not_mem_nil,or_false] at hk;rcases hk with rfl | rfl
  ·exact h.rf.lt.1
  ·exact h.rf.lt.2
 refine ⟨hm.below h.bel (fun k hk=>h.lo.2 k (hT k hk)) h.bel.size,h.dk.mv hm (fun k hk hu=>h.dj k hu (hT k hk)),hd,?_,⟨h.lo.1,?_⟩,?_,?_,h.lt,h.ts,h.tk,Nat.le_trans h.bs hm.size⟩
 ·rintro k h2 (h1 | h1)
  ·exact h.dj k h2 h1
  ·have:=h.dk.top k h2;omega
 ·rintro k (h1 | h1)
  ·exact h.lo.2 k h1
  ·have:=h.bel.size;omega
 ·exact h.bx.same fun k cur e he hk=>hm.block k (lt_of_block hk) (h.rf.off hk (by rcases he with rfl | rfl | rfl<;>decide) (by rcases he with rfl | rfl | rfl<;>decide))
 ·exact h.cr.same fun k h1 h2=>hm.block k h2 (fun AF=>by
   have:=h.lt.2;simp only [List.mem_cons,List.not_mem_nil,or_false] at AF;omega)
theorem bB.av (h:bB w K d lb rb cb r qb gs gr B m n y) (hb:qw y z):bB w K d lb rb cb r qb gs gr B m n z:=by
 obtain ⟨T,U,h⟩:=h;exact ⟨T,U,h.bel.trans (hb.mono h.bel.size),h.dk.av hb,h.rf.av hb,h.dj,h.lo,h.bx.av hb,h.cr.av hb,h.lt,h.ts,h.tk,Nat.le_trans h.bs hb.size⟩
theorem bB.tS (h:bB w K d lb rb cb r qb gs gr B m n y):B≤y.heap.size:=by obtain ⟨_,_,h⟩:=h;exact h.bs
theorem qS.ofd (h:qS w K d lb rb cb r qb gs gr B T U m n y):∀ k∈[d,lb,rb,cb],k<B:=fun k hk=>by
 have:=h.lt.1;simp only [List.mem_cons,List.not_mem_nil,or_false] at hk;omega
theorem qS.ofr (h:qS w K d lb rb cb r qb gs gr B T U m n y):∀ k∈[r,qb],k<B:=fun k hk=>by
 have:=h.lt.2;simp only [List.mem_cons,List.not_mem_nil,or_false] at hk;omega
def C4 (B:Nat) (y:World) (F:World→Prop) (v:Value) (e:Ending) (z:World):Prop:=e = .returned v∧Hid (F z)∧Hid (Kp B y z)
end
end
section
open Go.RowKit
theorem an.aiZ {K:List Int} {e n:Int} {h S R:List Int} (q:an.op K e n h S=some R):R.length≤S.length:=by
 unfold an.op at q;split at q
 ·injection q with q
  rw [← q,an.m9,List.length_take];omega
 ·cases q
theorem afY (K:List Int) (k a:Int) (b:List Int):(Sc.gt (an.op K) k a b).2.L.length≤b.length:=by
 unfold Sc.gt;split
 ·cases hq:an.op K (Sc.ep (b.take 17)) (Sc.nu (b.take 17)) (Sc.mk k a) (b.drop 17) with
  | none=>exact Nat.zero_le _
  | some R =>
   have h:=an.aiZ hq;rw [List.length_drop] at h;show R.length≤_;omega
 ·exact Nat.zero_le _
theorem uE (m:Dk.M):(Dk.aK m).wr=m.wr∧(Dk.aK m).rd=m.rd:=by unfold Dk.aK;split<;>exact ⟨rfl,rfl⟩
theorem aae (m:Dk.M) (i:Int) (L:List Int):(Dk.gY m i L).n=m.n∧(Dk.gY m i L).wr≤m.wr+1∧(Dk.gY m i L).rd=m.rd:=by
 obtain ⟨q1,q2⟩:=uE m;unfold Dk.gY;split
 ·exact ⟨rfl,by omega,rfl⟩
 ·split
  ·exact ⟨rfl,by omega,rfl⟩
  ·split
   ·exact ⟨Dk.jA m,by omega,q2⟩
   ·exact ⟨Dk.jA m,Nat.le_refl _,q2⟩
section
variable {w y z:World} {K:List Int} {d lb rb cb r qb gs gr B:Nat} {T U:Nat→Prop} {m n m' n':Dk.M}
theorem aa7 {w0 w1 w2 w3 w4:World} (h0:qw w w0) (hd:aJ w1 (fun g=>w0.heap.size≤g∧g<w1.heap.size) d lb rb cb m) (b1:qw w0 w1)
  (hr:bA w2 (fun g=>w1.heap.size≤g∧g<w2.heap.size) r qb n) (b2:qw w1 w2) (hx:dX w3 gs K) (b3:qw w2 w3) (hc:gQ w3.heap.size w4 gr K) (b4:qw w3 w4)
  (ts:cT w 0) (tk:cT w 1):bB w K d lb rb cb r qb gs gr w3.heap.size m n w4:=by
 have s0:=h0.size;have s1:=b1.size;have s2:=b2.size;have s3:=b3.size;have l1:=hd.top _ hd.lt.1;have l2:=hd.top _ hd.lt.2.1;have l3:=hd.top _ hd.lt.2.2.1;have l4:=hd.top _ hd.lt.2.2.2;have l5:=hr.top _ hr.lt.1;have l6:=hr.top _ hr.lt.2;refine ⟨_,_,(((h0.trans (b1.mono s0)).trans (b2.mono (by omega))).trans (b3.mono (by omega))).trans (b4.mono (by omega)),((hd.av b2).av b3).av b4,(hr.av b3).av b4,fun k h1 h2=>by omega,⟨fun k h1=>by omega,fun k h1=>by omega⟩,hx.av b4,hc,⟨⟨by omega,by omega,by omega,by omega⟩,by omega,by omega⟩,ts,tk,b4.size⟩
theorem bB.low (h:bB w K d lb rb cb r qb gs gr B m n y):qw w y:=by obtain ⟨_,_,h⟩:=h;exact h.bel
theorem aiq (k:Int) (hk:aT k) (h:bB w K d lb rb cb r qb gs gr B m n y):qc 38 #[qp d,.int .i64 k] y (C4 B y (bB w K d lb rb cb r qb gs gr B { m with left:=k } n) (.tuple #[])):=by
 obtain ⟨T,U,h⟩:=h;refine (acI k hk y h.dk).mono ?_;rintro x z ⟨h1,h2,h3⟩;have h4:=h3.more (js:=[d,lb,rb,cb]) (fun k hk=>by simp only [List.mem_singleton] at hk;subst hk;simp);exact ⟨h1,qh ⟨_,_,h.ff h4 h2.out.own⟩,Kp.eP h4 h.ofd⟩
theorem aik (k:Int) (hk:aT k) (h:bB w K d lb rb cb r qb gs gr B m n y):qc 44 #[qp r,.int .i64 k] y (C4 B y (bB w K d lb rb cb r qb gs gr B m { n with left:=k }) (.tuple #[])):=by
 obtain ⟨T,U,h⟩:=h;refine (uU k hk y h.rf).mono ?_;rintro x z ⟨h1,h2,h3⟩;have h4:=h3.out.more (js:=[r,qb]) (fun k hk=>by simp only [List.mem_singleton] at hk;subst hk;simp);exact ⟨h1,qh ⟨_,_,h.mvr h4 (h2.out.own _)⟩,Kp.eP h4 h.ofr⟩
end
end
section
open Go.RowKit
def Eqv (m o:Dk.M):Prop:=o.n=m.n∧o.ls=m.ls∧o.ca=m.ca
end
end Go.Proofs.YthgjfjmampmiiaaGreatDoor

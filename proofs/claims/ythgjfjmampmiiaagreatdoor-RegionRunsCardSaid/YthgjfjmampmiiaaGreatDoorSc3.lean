/-
  ScG, ScH, ScI, ScM (merged)
-/
import Derived.Test.YthgjfjmampmiiaaGreatDoorSc6
namespace Go.Proofs.YthgjfjmampmiiaaGreatDoor
section
open Go.RowKit
namespace Sc
structure S where
 k:Int
 e:Int
 n:Int
 a:Int
 L:List Int
deriving DecidableEq
def S.zero:S:=⟨0,0,0,0,[]⟩
abbrev kX (s:S):Int:=er s.k s.e s.n s.a s.L.length
def pt (f:Int→Int→List Int→List Int→List Int) (s:S):Int × List Int:=if kX s=0 then (0,fr s.k s.e s.n++f s.e s.n (mk s.k s.a) s.L) else (kX s,[])
def gt (f:Int→Int→List Int→List Int→Option (List Int)) (k a:Int) (b:List Int):Int × S :=
 if fJ k a b=0 then
  match f (ep (b.take 17)) (nu (b.take 17)) (mk k a) (b.drop 17) with
  | none=>(19,S.zero)
  | some R=>(0,⟨k,ep (b.take 17),nu (b.take 17),a,R⟩)
 else (fJ k a b,S.zero)
theorem lu {k e n a:Int} {m:Nat}:er k e n a m=0↔fv k=true∧gh e n a=true∧m≤975:=by
 unfold er;constructor
 ·intro h;by_cases h1:fv k=true
  ·rw [if_pos h1] at h;by_cases h2:gh e n a=true
   ·rw [if_pos h2] at h;by_cases h3:975<m
    ·rw [if_pos h3] at h;omega
    ·exact ⟨h1,h2,by omega⟩
   ·rw [if_neg h2] at h;omega
  ·rw [if_neg h1] at h;omega
 ·rintro ⟨h1,h2,h3⟩;rw [if_pos h1,if_pos h2,if_neg (by omega)]
theorem iq {k a:Int} {b:List Int}:fJ k a b=0↔(17≤b.length∧b.length≤1024)∧(fv k=true∧kd b=k)∧gh (ep (b.take 17)) (nu (b.take 17)) a=true:=by
 unfold fJ;constructor
 ·intro h;by_cases h0:b.length<17
  ·rw [if_pos h0] at h;omega
  ·rw [if_neg h0] at h;by_cases h1:1024<b.length
   ·rw [if_pos h1] at h;omega
   ·rw [if_neg h1] at h;by_cases h2:fv k=true∧kd b=k
    ·rw [if_pos h2] at h;by_cases h3:gh (ep (b.take 17)) (nu (b.take 17)) a=true
     ·exact ⟨⟨by omega,by omega⟩,h2,h3⟩
     ·rw [if_neg h3] at h;omega
    ·rw [if_neg h2] at h;omega
 ·rintro ⟨⟨h0,h1⟩,h2,h3⟩;rw [if_neg (by omega),if_neg (by omega),if_pos h2,if_pos h3]
theorem re {f:Int→Int→List Int→List Int→List Int} {s:S} (h:kX s=0):pt f s=(0,fr s.k s.e s.n++f s.e s.n (mk s.k s.a) s.L):=by unfold pt;rw [if_pos h]
theorem qU {f:Int→Int→List Int→List Int→List Int} {s:S} (h:kX s ≠ 0):pt f s=(kX s,[]):=by unfold pt;rw [if_neg h]
theorem wV {f:Int→Int→List Int→List Int→Option (List Int)} {k a:Int} {b:List Int} (h:fJ k a b ≠ 0):gt f k a b=(fJ k a b,S.zero):=by unfold gt;rw [if_neg h]
theorem gu {f:Int→Int→List Int→List Int→Option (List Int)} {k a:Int} {b:List Int} (h:fJ k a b=0) (h2:f (ep (b.take 17)) (nu (b.take 17)) (mk k a) (b.drop 17)=none):gt f k a b=(19,S.zero):=by unfold gt;rw [if_pos h,h2]
theorem qk {f:Int→Int→List Int→List Int→Option (List Int)} {k a:Int} {b R:List Int} (h:fJ k a b=0) (h2:f (ep (b.take 17)) (nu (b.take 17)) (mk k a) (b.drop 17)=some R):gt f k a b=(0,⟨k,ep (b.take 17),nu (b.take 17),a,R⟩):=by unfold gt;rw [if_pos h,h2]
theorem wq {f:Int→Int→List Int→List Int→Option (List Int)} {k a:Int} {b:List Int} (h:(gt f k a b).1 ≠ 0):(gt f k a b).2=S.zero:=by
 unfold gt at h ⊢;by_cases h0:fJ k a b=0
 ·rw [if_pos h0] at h ⊢;cases q:f (ep (b.take 17)) (nu (b.take 17)) (mk k a) (b.drop 17) with
  | none=>rfl
  | some R=>rw [q] at h;exact absurd rfl h
 ·rw [if_neg h0]
theorem xf {f:Int→Int→List Int→List Int→Option (List Int)} {k a:Int} {b:List Int} (h:(gt f k a b).1=0):fJ k a b=0∧∃ R,f (ep (b.take 17)) (nu (b.take 17)) (mk k a) (b.drop 17)=some R∧gt f k a b=(0,⟨k,ep (b.take 17),nu (b.take 17),a,R⟩):=by
 by_cases h0:fJ k a b=0
 ·refine ⟨h0,?_⟩;cases q:f (ep (b.take 17)) (nu (b.take 17)) (mk k a) (b.drop 17) with
  | none=>rw [gu h0 q] at h;cases h
  | some R=>exact ⟨R,rfl,qk h0 q⟩
 ·rw [wV h0] at h;exact absurd h h0
theorem jK (n:Int) (h:0≤n∧n≤1099511627776):Pk.aT n:=by unfold Pk.aT;omega
theorem qY (k e n:Int):fr k e n=k :: (Pk.e8 e 8++Pk.e8 n 8):=by unfold fr mk;rfl
theorem jQ {k:Nat} {l:List Int} (h:k≤l.length):Pk.nx k l=l.drop k:=by unfold Pk.nx;rw [if_neg (by omega)]
theorem afq {l:List Int} (h:8≤l.length):Pk.vi l=Pk.j4 (l.take 8):=by unfold Pk.vi;rw [if_neg (by omega)]
theorem ajo {c:List Int} (h:c.length=17):ep c=Pk.j4 ((c.drop 1).take 8):=by
 unfold ep;rw [jQ (by omega),afq (by rw [List.length_drop];omega)]
theorem ahT {c:List Int} (h:c.length=17):nu c=Pk.j4 ((c.drop 1).drop 8):=by
 unfold nu;rw [jQ (k:=1) (by omega),jQ (by rw [List.length_drop];omega),afq (by rw [List.length_drop,List.length_drop];omega),List.take_of_length_le (by rw [List.length_drop,List.length_drop];omega)]
theorem sh (k e n:Int):(fr k e n).drop 1=Pk.e8 e 8++Pk.e8 n 8:=by rw [qY];rfl
theorem aaf (k e n:Int) (h:0≤e∧e≤1099511627776):ep (fr k e n)=e:=by
 rw [ajo (dB _ _ _),sh,List.take_append_of_le_length (by rw [Pk.bF];omega),List.take_of_length_le (by rw [Pk.bF];omega)];exact Pk.oO (jK e h)
theorem aaU (k e n:Int) (h:0≤n∧n≤1099511627776):nu (fr k e n)=n:=by
 rw [ahT (dB _ _ _),sh,List.drop_append_of_le_length (by rw [Pk.bF];omega),List.drop_of_length_le (by rw [Pk.bF];omega),List.nil_append];exact Pk.oO (jK n h)
theorem pn (k e n:Int) (X:List Int):(fr k e n++X).take 17=fr k e n:=by
 rw [List.take_append_of_le_length (by rw [dB];omega),List.take_of_length_le (by rw [dB];omega)]
theorem acU (k e n:Int) (X:List Int):(fr k e n++X).drop 17=X:=by
 rw [List.drop_append_of_le_length (by rw [dB];omega),List.drop_of_length_le (by rw [dB];omega)];rfl
theorem aiE (k e n:Int) (hk:fv k=true) (X:List Int):kd (fr k e n++X)=k:=by
 unfold kd;rw [if_neg (by rw [List.length_append,dB];omega)];have h:(fr k e n++X).getD 0 0=k:=by rw [qY];rfl
 rw [h,if_pos hk]
theorem eZ {s:S} (h:kX s=0):fv s.k=true∧gh s.e s.n s.a=true∧s.L.length≤975:=lu.1 h
theorem agE {s:S} (h:kX s=0) (X:List Int) (hX:X.length=s.L.length+32):fJ s.k s.a (fr s.k s.e s.n++X)=0:=by
 obtain ⟨h1,h2,h3⟩:=eZ h;have h4:=eU.1 h2;refine iq.2 ⟨by rw [List.length_append,dB];omega,⟨h1,aiE _ _ _ h1 _⟩,?_⟩;rw [pn,aaf _ _ _ h4.1,aaU _ _ _ h4.2.1];exact h2
theorem ah9 {s:S} (h:kX s=0) (f:Int→Int→List Int→List Int→Option (List Int)) (X:List Int) (hX:X.length=s.L.length+32) (ho:f s.e s.n (mk s.k s.a) X=some s.L):gt f s.k s.a (fr s.k s.e s.n++X)=(0,s):=by
 have h4:=eU.1 (eZ h).2.1;have h5:=qk (f:=f) (k:=s.k) (a:=s.a) (b:=fr s.k s.e s.n++X) (R:=s.L) (agE h X hX) (by rw [pn,acU,aaf _ _ _ h4.1,aaU _ _ _ h4.2.1];exact ho);rw [h5,pn,aaf _ _ _ h4.1,aaU _ _ _ h4.2.1]
attribute [irreducible] pt gt
end Sc
end
section
open Go.RowKit
abbrev Sv (s:Sc.S) (p:Option Addr) (m c:Nat):Value:=SV s.k s.e s.n s.a p m c
def tF (x:Int × List Int) (w:World) (F:World→Prop) (r:Ending) (w':World):Prop :=
 ∃ u m d,r = .returned (.tuple #[.slice u m d,.int .i64 x.1])∧x.2.length=m∧Hid (w'.ownsRow w.heap.size 5 1 (.slice u m d) m (aC x.2))∧Hid (Bs w' u d x.2)∧F w'
def nj (x:Int × Sc.S) (w:World) (r:Ending) (w':World):Prop :=
 ∃ u m d,r = .returned (.tuple #[Sv x.2 u m d,.int .i64 x.1])∧x.2.L.length=m∧Hid (w'.ownsRow w.heap.size 5 1 (.slice u m d) m (aC x.2.L))∧Hid (Bs w' u d x.2.L)∧qw w w'
theorem rp (w:World) (B:Nat):w.ownsRow B 5 1 (.slice none 0 0) 0 (aC []):=by unfold aC;exact World.ownsRow_nil _ _ _ _
theorem pT {x:Int × List Int} {n:Int} {w w':World} {F:World→Prop} {r:Ending} (h:aaj n w r w') (hx:x=(n,[])) (hF:qw w w'→F w'):tF x w F r w':=by
 subst hx;obtain ⟨rfl,hb⟩:=h;exact ⟨none,0,0,rfl,rfl,rp _ _,dx _,hF hb⟩
theorem lB {x:Int × Sc.S} {n:Int} {w w':World} {r:Ending} (h:GNo n w r w') (hx:x=(n,Sc.S.zero)):nj x w r w':=by
 subst hx;obtain ⟨rfl,hb⟩:=h;exact ⟨none,0,0,rfl,rfl,rp _ _,dx _,hb⟩
theorem j8 (n:Int) (h:0≤n∧n≤1099511627776):bj n=true:=by unfold bj;simp [h]
theorem sN (n:Int) (h:0≤n∧n≤1099511627776):Nm.bj n=true:=by unfold Nm.bj;simp [h]
theorem aaK (hT:aV) (K:List Int) (g:Nat) (s:Sc.S) (p:Option Addr) (m c:Nat) (hm:s.L.length=m) (w:World) (hg:dX w g K) (hL:Bs w p c s.L) (ht:cT w 0) :
  qc 67 #[.iface 33 (qp g),Sv s p m c] w (tF (Sc.pt (an.sl K) s) w (Below w.heap.size w)):=by
 subst hm;by_cases h:Sc.kX s=0
 ·obtain ⟨h1,h2,h3⟩:=Sc.eZ h;have h4:=Sc.eU.1 h2;rw [Sc.re h];have hlen:=an.mi (j8 _ h4.1) (j8 _ h4.2.1) K (Sc.mk s.k s.a) s.L;refine (adf ⟨g,0,none⟩ s.k s.e s.n s.a p s.L.length c (s.L.length+32) (17+(s.L.length+32)) h1 h2 h3 w (an.sl K s.e s.n (Sc.mk s.k s.a) s.L) hlen (by omega) rfl (fun y y'=>qw y y') (Below w.heap.size w) ?_ ?_ ?_ ?_ ?_).mono ?_
  ·intro y q d hy hq;refine (aaM hT K (Sc.mk s.k s.a) s.L g s.e s.n q p 9 s.L.length d c (Sc.fH _ _) rfl y (hg.av hy) hq (hL.av hy) (by omega) (ht.below hy ht.lt)).mono ?_;rintro r y' ⟨u,c',m',rfl,Jc,_,hb,CL⟩;rw [hlen] at Jc;obtain rfl:=Jc;exact ⟨u,_,rfl,hb,CL⟩
  ·intro y y' q d R r _ _ _ hb CL;exact hb.av CL
  ·intro y y' i v _ CL hc;exact (CL.cell (p:=⟨w.heap.size,i,none⟩) (World.block_lt_of_cell? y _ hc)).trans hc
  ·exact fun y y' CL=>CL.size
  ·exact fun y y' z hy CL hz=>hy.trans ((CL.trans (hz.mono CL.size)).mono hy.size)
  ·rintro r w' ⟨u,d,rfl,ho,hb,hF⟩;have Dq:(Sc.fr s.k s.e s.n++an.sl K s.e s.n (Sc.mk s.k s.a) s.L).length=17+(s.L.length+32):=by rw [List.length_append,Sc.dB,hlen]
   exact ⟨u,_,d,rfl,Dq,ho,hb,hF.out⟩
 ·exact (ab8 _ _ s.k s.e s.n s.a p s.L.length c h w).mono fun r w' q=>pT q (Sc.qU h) id
namespace Sc
def nd (S:Nm.St) (s:Sc.S):Nm.St:=if kX s=0 then Nm.sld S (s.e,s.n,mk s.k s.a,s.L) else S
def nsl (S:Nm.St) (e n:Int) (h L:List Int):List Int:=Nm.sl S (e,n,h,L)
theorem afi {S:Nm.St} {s:Sc.S} (h:kX s=0):nd S s=Nm.sld S (s.e,s.n,mk s.k s.a,s.L):=by unfold nd;rw [if_pos h]
theorem abC {S:Nm.St} {s:Sc.S} (h:kX s ≠ 0):nd S s=S:=by unfold nd;rw [if_neg h]
theorem uj {s:Sc.S} (h:kX s=0):Nm.may (s.e,s.n,mk s.k s.a,s.L)=true:=by
 have h4:=eU.1 (eZ h).2.1;unfold Nm.may;simp only [Bool.and_eq_true];exact ⟨sN _ h4.1,sN _ h4.2.1⟩
theorem ado {S:Nm.St} {s:Sc.S} (h:kX s=0):(nsl S s.e s.n (mk s.k s.a) s.L).length=s.L.length+32:=by
 unfold nsl Nm.sl;rw [if_pos (uj h),List.length_append,Nm.dq]
end Sc
theorem aaq (S:Nm.St) (g b cc:Nat) (s:Sc.S) (p:Option Addr) (m c:Nat) (hm:s.L.length=m) (w:World) (hg:dH w g b cc S) (hL:Bs w p c s.L) (hl:S.ss.length≤100000) :
  qc 67 #[.iface 66 (qp g),Sv s p m c] w (tF (Sc.pt (Sc.nsl S) s) w (fun z=>dH z g b cc (Sc.nd S s)∧aE b w z)):=by
 subst hm;by_cases h:Sc.kX s=0
 ·obtain ⟨h1,h2,h3⟩:=Sc.eZ h;have h4:=Sc.eU.1 h2;rw [Sc.re h,Sc.afi h];have hlen:=Sc.ado (S:=S) h;have I0:=hg.lt.2.1;refine (ada ⟨g,0,none⟩ s.k s.e s.n s.a p s.L.length c (s.L.length+32) (17+(s.L.length+32)) h1 h2 h3 w (Sc.nsl S s.e s.n (Sc.mk s.k s.a) s.L) hlen (by omega) rfl (fun y y'=>dH y' g b cc (Nm.sld S (s.e,s.n,Sc.mk s.k s.a,s.L))∧aE b y y') (fun z=>dH z g b cc (Nm.sld S (s.e,s.n,Sc.mk s.k s.a,s.L))∧aE b w z) ?_ ?_ ?_ ?_ ?_).mono ?_
  ·intro y q d hy hq;refine (yE S (s.e,s.n,Sc.mk s.k s.a,s.L) g b cc q p 9 s.L.length d c (Sc.fH _ _) rfl (by omega) y (hg.av hy) hq (hL.av hy) hl).mono ?_;rintro r y' ⟨u,c',m',rfl,Jc,_,hb,DO,ho⟩;have AP:m'=s.L.length+32:=Jc.symm.trans hlen;subst AP;exact ⟨u,_,rfl,hb,DO.out,ho⟩
  ·intro y y' q d R r hy hR ho hb hQ;refine qa hb hQ.2 (fun a ha=>?_);left;subst ha;have:=(ho.lt a.block rfl).1;omega
  ·intro y y' i v hy hQ hc;exact hQ.2.cell (by omega) hc
  ·exact fun y y' hQ=>hQ.2.size
  ·exact fun y y' z hy hQ hz=>⟨hQ.1.av hz,((cC hy).trans hQ.2).trans (cC hz)⟩
  ·rintro r w' ⟨u,d,rfl,ho,hb,hF⟩;have Dq:(Sc.fr s.k s.e s.n++Sc.nsl S s.e s.n (Sc.mk s.k s.a) s.L).length=17+(s.L.length+32):=by rw [List.length_append,Sc.dB,hlen]
   exact ⟨u,_,d,rfl,Dq,ho,hb,hF.out⟩
 ·rw [Sc.abC h];exact (ab8 _ _ s.k s.e s.n s.a p s.L.length c h w).mono fun r w' q=>pT q (Sc.qU h) (fun hb=>⟨hg.av hb,cC hb⟩)
theorem px {f:Int→Int→List Int→List Int→Option (List Int)} {k a:Int} {b:List Int} {w w':World} {r:Ending} (h0:Sc.fJ k a b=0) {o:Option (List Int)} (ho:f (Sc.ep (b.take 17)) (Sc.nu (b.take 17)) (Sc.mk k a) (b.drop 17)=o)
  (h:aem k (Sc.ep (b.take 17)) (Sc.nu (b.take 17)) a o w r w'):nj (Sc.gt f k a b) w r w':=by
 rcases h with ⟨h1,h2⟩ | ⟨R,u,m,d,h1,h2,h3,h4,h5,h6⟩
 ·exact lB h2 (Sc.gu h0 (ho.trans h1))
 ·rw [Sc.qk h0 (ho.trans h1)];exact ⟨u,m,d,h3,h2,h4,h5,h6⟩
theorem aai (hT:aV) (K:List Int) (g:Nat) (k a:Int) (b:List Int) (p:Option Addr) (n c:Nat) (hn:b.length=n) (w:World) (hg:dX w g K) (hb:Bs w p c b) (ht:cT w 0) :
  qc 86 #[.iface 33 (qp g),.int .i64 k,.int .i64 a,.slice p n c] w (nj (Sc.gt (an.op K) k a b) w):=by
 by_cases h:Sc.fJ k a b=0
 ·have hz:=Sc.iq.1 h;refine (aea ⟨g,0,none⟩ k a _ _ b p n c hn h w hb (an.op K (Sc.ep (b.take 17)) (Sc.nu (b.take 17)) (Sc.mk k a) (b.drop 17)) rfl rfl ?_).mono fun r w' q=>px h rfl q;intro y q d q2 d2 hy hq Gu;exact abu hT K (Sc.mk k a) (b.drop 17) g _ _ q q2 9 (n-17) d d2 (Sc.fH _ _) (by rw [List.length_drop,hn]) y (hg.av hy) hq Gu (by omega) (ht.below hy ht.lt)
 ·exact (aas _ _ k a b p n c hn h w hb).mono fun r w' q=>lB q (Sc.wV h)
theorem abm (S:Nm.St) (g bb cc:Nat) (k a:Int) (b:List Int) (p:Option Addr) (n c:Nat) (hn:b.length=n) (w:World) (hg:dH w g bb cc S) (hb:Bs w p c b) :
  qc 86 #[.iface 66 (qp g),.int .i64 k,.int .i64 a,.slice p n c] w (nj (Sc.gt (Nm.oB S) k a b) w):=by
 by_cases h:Sc.fJ k a b=0
 ·have hz:=Sc.iq.1 h;have h4:=Sc.eU.1 hz.2.2;refine (adw ⟨g,0,none⟩ k a _ _ b p n c hn h w hb (Nm.oB S (Sc.ep (b.take 17)) (Sc.nu (b.take 17)) (Sc.mk k a) (b.drop 17)) rfl rfl ?_).mono fun r w' q=>px h rfl q;intro y q d q2 d2 hy hq Gu;exact yX S _ _ (Sc.mk k a) (b.drop 17) g bb cc q q2 9 (n-17) d d2 (Sc.fH _ _) (by rw [List.length_drop,hn]) (by omega) (by unfold Nm.aT;omega) (by unfold Nm.aT;omega) y (hg.av hy) hq Gu
 ·exact (aas _ _ k a b p n c hn h w hb).mono fun r w' q=>lB q (Sc.wV h)
end
section
open Go.RowKit
namespace Sc
def four (s:S):Nm.iZ:=(s.e,s.n,mk s.k s.a,s.L)
theorem afV {T:Nm.St} {s:S} (h:kX s=0):nsl T s.e s.n (mk s.k s.a) s.L=s.L++Nm.tg 0 (Nm.num (four s) T.ss):=by
 unfold nsl Nm.sl;rw [if_pos (uj h)]
 rfl
theorem xD {T:Nm.St} {s:S} (h:kX s=0):(nd T s).ss=Nm.put (four s) T.ss:=by
 rw [afi h];unfold Nm.sld;rw [if_pos (uj h)]
 rfl
theorem sz {T:Nm.St} {e n:Int} {h x R:List Int} (ho:Nm.oB T e n h x=some R):Nm.place (e,n,h,R) T.ss ≠ 0∧x=R++Nm.tg 0 (Nm.place (e,n,h,R) T.ss):=by
 unfold Nm.oB at ho;by_cases h0:x.length<32
 ·rw [if_pos h0] at ho;cases ho
 ·rw [if_neg h0] at ho;by_cases h1:Nm.place (e,n,h,x.take (x.length-32)) T.ss ≠ 0∧x.drop (x.length-32)=Nm.tg 0 (Nm.place (e,n,h,x.take (x.length-32)) T.ss)
  ·rw [if_pos h1] at ho;cases ho
   refine ⟨h1.1,?_⟩;rw [← h1.2,List.take_append_drop]
  ·rw [if_neg h1] at ho;cases ho
theorem aga {T:Nm.St} {e n:Int} {h R:List Int} (hp:Nm.place (e,n,h,R) T.ss ≠ 0):Nm.oB T e n h (R++Nm.tg 0 (Nm.place (e,n,h,R) T.ss))=some R:=by
 unfold Nm.oB;have hl:(R++Nm.tg 0 (Nm.place (e,n,h,R) T.ss)).length=R.length+32:=by rw [List.length_append,Nm.dq]
 rw [if_neg (by omega),hl,Nat.add_sub_cancel];have h1:(R++Nm.tg 0 (Nm.place (e,n,h,R) T.ss)).take R.length=R:=by simp
 have h2:(R++Nm.tg 0 (Nm.place (e,n,h,R) T.ss)).drop R.length=Nm.tg 0 (Nm.place (e,n,h,R) T.ss):=by simp
 rw [h1,h2,if_pos ⟨hp,rfl⟩]
end Sc
end
section
open Go.RowKit
namespace Sc
def bys (T:Nm.St) (s:S):List Int:=fr s.k s.e s.n++(s.L++Nm.tg 0 (Nm.place (four s) T.ss))
theorem vP (T:Nm.St) (s:S):(bys T s).length=49+s.L.length:=by
 unfold bys;rw [List.length_append,dB,List.length_append,Nm.dq];omega
theorem wT (T:Nm.St) {s:S} (h:kX s=0):pt (nsl T) s=(0,bys (nd T s) s):=by
 rw [re h,afV h];unfold bys;rw [xD h,Nm.oD]
theorem rh (T:Nm.St) (t:S) {s:S} (h:Nm.place (four s) T.ss ≠ 0):Nm.place (four s) (nd T t).ss=Nm.place (four s) T.ss:=by
 by_cases h0:kX t=0
 ·rw [xD h0];exact Nm.xN h
 ·rw [abC h0]
theorem afB (T:Nm.St) (t:S) {s:S} (h:Nm.place (four s) T.ss ≠ 0):bys (nd T t) s=bys T s:=by unfold bys;rw [rh T t h]
theorem tN (T:Nm.St) {s:S} (h:kX s=0):Nm.place (four s) (nd T s).ss ≠ 0:=by rw [xD h];exact Nm.acn
theorem aia (T:Nm.St) (s:S):(nd T s).ss.length≤T.ss.length+1:=by
 by_cases h0:kX s=0
 ·rw [xD h0];exact Nm.adB
 ·rw [abC h0];omega
end Sc
end
end Go.Proofs.YthgjfjmampmiiaaGreatDoor

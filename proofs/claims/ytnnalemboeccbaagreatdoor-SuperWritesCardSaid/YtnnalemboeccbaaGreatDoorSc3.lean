/-
  ScG, ScH (merged)
-/
import Derived.Test.YtnnalemboeccbaaGreatDoorSc2
import Derived.Test.YtnnalemboeccbaaGreatDoorScF
namespace Go.Proofs.YtnnalemboeccbaaGreatDoor

/-! ScG:  -/
section
open Go.RowKit
namespace Sc
structure S where
 k:Int
 e:Int
 n:Int
 a:Int
 L:List Int
deriving DecidableEq
def S.zero:S:=⟨0,0,0,0,[]⟩
abbrev ers (s:S):Int:=er s.k s.e s.n s.a s.L.length
def pt (f:Int→Int→List Int→List Int→List Int) (s:S):Int × List Int:=if ers s=0 then (0,fr s.k s.e s.n++f s.e s.n (mk s.k s.a) s.L) else (ers s,[])
def gt (f:Int→Int→List Int→List Int→Option (List Int)) (k a:Int) (b:List Int):Int × S :=
 if ger k a b=0 then
  match f (ep (b.take 17)) (nu (b.take 17)) (mk k a) (b.drop 17) with
  | none=>(19,S.zero)
  | some R=>(0,⟨k,ep (b.take 17),nu (b.take 17),a,R⟩)
 else (ger k a b,S.zero)
theorem er_zero {k e n a:Int} {m:Nat}:er k e n a m=0↔isK k=true∧inP e n a=true∧m≤975:=by
 unfold er
 constructor
 ·intro h
  by_cases h1:isK k=true
  ·rw [if_pos h1] at h
   by_cases h2:inP e n a=true
   ·rw [if_pos h2] at h
    by_cases h3:975<m
    ·rw [if_pos h3] at h;omega
    ·exact ⟨h1,h2,by omega⟩
   ·rw [if_neg h2] at h;omega
  ·rw [if_neg h1] at h;omega
 ·rintro ⟨h1,h2,h3⟩
  rw [if_pos h1,if_pos h2,if_neg (by omega)]
theorem ger_zero {k a:Int} {b:List Int}:ger k a b=0↔(17≤b.length∧b.length≤1024)∧(isK k=true∧kd b=k)∧inP (ep (b.take 17)) (nu (b.take 17)) a=true:=by
 unfold ger
 constructor
 ·intro h
  by_cases h0:b.length<17
  ·rw [if_pos h0] at h;omega
  ·rw [if_neg h0] at h
   by_cases h1:1024<b.length
   ·rw [if_pos h1] at h;omega
   ·rw [if_neg h1] at h
    by_cases h2:isK k=true∧kd b=k
    ·rw [if_pos h2] at h
     by_cases h3:inP (ep (b.take 17)) (nu (b.take 17)) a=true
     ·exact ⟨⟨by omega,by omega⟩,h2,h3⟩
     ·rw [if_neg h3] at h;omega
    ·rw [if_neg h2] at h;omega
 ·rintro ⟨⟨h0,h1⟩,h2,h3⟩
  rw [if_neg (by omega),if_neg (by omega),if_pos h2,if_pos h3]
theorem pt_ok {f:Int→Int→List Int→List Int→List Int} {s:S} (h:ers s=0):pt f s=(0,fr s.k s.e s.n++f s.e s.n (mk s.k s.a) s.L):=by unfold pt;rw [if_pos h]
theorem pt_no {f:Int→Int→List Int→List Int→List Int} {s:S} (h:ers s ≠ 0):pt f s=(ers s,[]):=by unfold pt;rw [if_neg h]
theorem gt_no {f:Int→Int→List Int→List Int→Option (List Int)} {k a:Int} {b:List Int} (h:ger k a b ≠ 0):gt f k a b=(ger k a b,S.zero):=by unfold gt;rw [if_neg h]
theorem gt_none {f:Int→Int→List Int→List Int→Option (List Int)} {k a:Int} {b:List Int} (h:ger k a b=0) (h2:f (ep (b.take 17)) (nu (b.take 17)) (mk k a) (b.drop 17)=none):gt f k a b=(19,S.zero):=by unfold gt;rw [if_pos h,h2]
theorem gt_some {f:Int→Int→List Int→List Int→Option (List Int)} {k a:Int} {b R:List Int} (h:ger k a b=0) (h2:f (ep (b.take 17)) (nu (b.take 17)) (mk k a) (b.drop 17)=some R):gt f k a b=(0,⟨k,ep (b.take 17),nu (b.take 17),a,R⟩):=by unfold gt;rw [if_pos h,h2]
theorem gt_zero {f:Int→Int→List Int→List Int→Option (List Int)} {k a:Int} {b:List Int} (h:(gt f k a b).1 ≠ 0):(gt f k a b).2=S.zero:=by
 unfold gt at h ⊢
 by_cases h0:ger k a b=0
 ·rw [if_pos h0] at h ⊢
  cases q:f (ep (b.take 17)) (nu (b.take 17)) (mk k a) (b.drop 17) with
  | none=>rfl
  | some R=>rw [q] at h;exact absurd rfl h
 ·rw [if_neg h0]
theorem gt_good {f:Int→Int→List Int→List Int→Option (List Int)} {k a:Int} {b:List Int} (h:(gt f k a b).1=0):ger k a b=0∧∃ R,f (ep (b.take 17)) (nu (b.take 17)) (mk k a) (b.drop 17)=some R∧gt f k a b=(0,⟨k,ep (b.take 17),nu (b.take 17),a,R⟩):=by
 by_cases h0:ger k a b=0
 ·refine ⟨h0,?_⟩
  cases q:f (ep (b.take 17)) (nu (b.take 17)) (mk k a) (b.drop 17) with
  | none=>rw [gt_none h0 q] at h;cases h
  | some R=>exact ⟨R,rfl,gt_some h0 q⟩
 ·rw [gt_no h0] at h;exact absurd h h0
theorem in64_of (n:Int) (h:0≤n∧n≤1099511627776):Pk.In64 n:=by unfold Pk.In64;omega
theorem fr_split (k e n:Int):fr k e n=k :: (Pk.e8 e 8++Pk.e8 n 8):=by unfold fr mk;rfl
theorem nx_drop {k:Nat} {l:List Int} (h:k≤l.length):Pk.nx k l=l.drop k:=by unfold Pk.nx;rw [if_neg (by omega)]
theorem vi_of {l:List Int} (h:8≤l.length):Pk.vi l=Pk.in8 (l.take 8):=by unfold Pk.vi;rw [if_neg (by omega)]
theorem ep_of {c:List Int} (h:c.length=17):ep c=Pk.in8 ((c.drop 1).take 8):=by
 unfold ep
 rw [nx_drop (by omega),vi_of (by rw [List.length_drop];omega)]
theorem nu_of {c:List Int} (h:c.length=17):nu c=Pk.in8 ((c.drop 1).drop 8):=by
 unfold nu
 rw [nx_drop (k:=1) (by omega),nx_drop (by rw [List.length_drop];omega),vi_of (by rw [List.length_drop,List.length_drop];omega),List.take_of_length_le (by rw [List.length_drop,List.length_drop];omega)]
theorem drop1_fr (k e n:Int):(fr k e n).drop 1=Pk.e8 e 8++Pk.e8 n 8:=by rw [fr_split];rfl
theorem ep_fr (k e n:Int) (h:0≤e∧e≤1099511627776):ep (fr k e n)=e:=by
 rw [ep_of (fr_len _ _ _),drop1_fr,List.take_append_of_le_length (by rw [Pk.e8_len];omega),List.take_of_length_le (by rw [Pk.e8_len];omega)]
 exact Pk.in8_e8 (in64_of e h)
theorem nu_fr (k e n:Int) (h:0≤n∧n≤1099511627776):nu (fr k e n)=n:=by
 rw [nu_of (fr_len _ _ _),drop1_fr,List.drop_append_of_le_length (by rw [Pk.e8_len];omega),List.drop_of_length_le (by rw [Pk.e8_len];omega),List.nil_append]
 exact Pk.in8_e8 (in64_of n h)
theorem take_fr (k e n:Int) (X:List Int):(fr k e n++X).take 17=fr k e n:=by
 rw [List.take_append_of_le_length (by rw [fr_len];omega),List.take_of_length_le (by rw [fr_len];omega)]
theorem drop_fr (k e n:Int) (X:List Int):(fr k e n++X).drop 17=X:=by
 rw [List.drop_append_of_le_length (by rw [fr_len];omega),List.drop_of_length_le (by rw [fr_len];omega)];rfl
theorem kd_fr (k e n:Int) (hk:isK k=true) (X:List Int):kd (fr k e n++X)=k:=by
 unfold kd
 rw [if_neg (by rw [List.length_append,fr_len];omega)]
 have h:(fr k e n++X).getD 0 0=k:=by rw [fr_split];rfl
 rw [h,if_pos hk]
theorem fr_of {b:List Int} (hb:Sha.Byt b) (h17:17≤b.length) (k:Int) (hk:kd b=k) (hk2:isK k=true):fr k (ep (b.take 17)) (nu (b.take 17))=b.take 17:=by
 have hl:(b.take 17).length=17:=by rw [List.length_take];omega
 have hbt:Sha.Byt (b.take 17):=fun x hx=>hb x (List.mem_of_mem_take hx)
 have hk0:b.getD 0 0=k:=by
  unfold kd at hk
  rw [if_neg (by omega)] at hk
  by_cases q:isK (b.getD 0 0)=true
  ·rw [if_pos q] at hk;exact hk
  ·rw [if_neg q] at hk
   have:=isK_iff.1 hk2
   omega
 have hc:b.take 17=k :: (b.take 17).drop 1:=by
  cases b with
  | nil=>simp at h17
  | cons x l =>
   simp only [List.getD_cons_zero] at hk0
   subst hk0
   rfl
 generalize b.take 17=c at *
 have hd:(c.drop 1).length=16:=by rw [List.length_drop];omega
 have he:Pk.e8 (ep c) 8=(c.drop 1).take 8:=by
  rw [ep_of hl]
  exact Pk.e8_in8 (by rw [List.length_take];omega) (fun x hx=>hbt x (List.mem_of_mem_drop (List.mem_of_mem_take hx)))
 have hn:Pk.e8 (nu c) 8=(c.drop 1).drop 8:=by
  rw [nu_of hl]
  exact Pk.e8_in8 (by rw [List.length_drop];omega) (fun x hx=>hbt x (List.mem_of_mem_drop (List.mem_of_mem_drop hx)))
 rw [fr_split,he,hn,List.take_append_drop]
 exact hc.symm
theorem ers_parts {s:S} (h:ers s=0):isK s.k=true∧inP s.e s.n s.a=true∧s.L.length≤975:=er_zero.1 h
theorem ger_pt {s:S} (h:ers s=0) (X:List Int) (hX:X.length=s.L.length+32):ger s.k s.a (fr s.k s.e s.n++X)=0:=by
 obtain ⟨h1,h2,h3⟩:=ers_parts h
 have h4:=inP_iff.1 h2
 refine ger_zero.2 ⟨by rw [List.length_append,fr_len];omega,⟨h1,kd_fr _ _ _ h1 _⟩,?_⟩
 rw [take_fr,ep_fr _ _ _ h4.1,nu_fr _ _ _ h4.2.1]
 exact h2
theorem gt_pt {s:S} (h:ers s=0) (f:Int→Int→List Int→List Int→Option (List Int)) (X:List Int) (hX:X.length=s.L.length+32) (ho:f s.e s.n (mk s.k s.a) X=some s.L):gt f s.k s.a (fr s.k s.e s.n++X)=(0,s):=by
 have h4:=inP_iff.1 (ers_parts h).2.1
 have h5:=gt_some (f:=f) (k:=s.k) (a:=s.a) (b:=fr s.k s.e s.n++X) (R:=s.L) (ger_pt h X hX) (by rw [take_fr,drop_fr,ep_fr _ _ _ h4.1,nu_fr _ _ _ h4.2.1];exact ho)
 rw [h5,take_fr,ep_fr _ _ _ h4.1,nu_fr _ _ _ h4.2.1]
attribute [irreducible] pt gt
end Sc
end

/-! ScH:  -/
section
open Go.RowKit
abbrev Sv (s:Sc.S) (p:Option Addr) (m c:Nat):Value:=SV s.k s.e s.n s.a p m c
def LPut (x:Int × List Int) (w:World) (F:World→Prop) (r:Ending) (w':World):Prop :=
 ∃ u m d,r = .returned (.tuple #[.slice u m d,.int .i64 x.1])∧x.2.length=m∧Hid (w'.ownsRow w.heap.size 5 1 (.slice u m d) m (U8s x.2))∧Hid (Bs w' u d x.2)∧F w'
def LGet (x:Int × Sc.S) (w:World) (r:Ending) (w':World):Prop :=
 ∃ u m d,r = .returned (.tuple #[Sv x.2 u m d,.int .i64 x.1])∧x.2.L.length=m∧Hid (w'.ownsRow w.heap.size 5 1 (.slice u m d) m (U8s x.2.L))∧Hid (Bs w' u d x.2.L)∧Below w.heap.size w w'
theorem own_nilX (w:World) (B:Nat):w.ownsRow B 5 1 (.slice none 0 0) 0 (U8s []):=by unfold U8s;exact World.ownsRow_nil _ _ _ _
theorem lput_no {x:Int × List Int} {n:Int} {w w':World} {F:World→Prop} {r:Ending} (h:NoSay n w r w') (hx:x=(n,[])) (hF:Below w.heap.size w w'→F w'):LPut x w F r w':=by
 subst hx
 obtain ⟨rfl,hb⟩:=h
 exact ⟨none,0,0,rfl,rfl,own_nilX _ _,bs_none _,hF hb⟩
theorem lget_no {x:Int × Sc.S} {n:Int} {w w':World} {r:Ending} (h:GNo n w r w') (hx:x=(n,Sc.S.zero)):LGet x w r w':=by
 subst hx
 obtain ⟨rfl,hb⟩:=h
 exact ⟨none,0,0,rfl,rfl,own_nilX _ _,bs_none _,hb⟩
theorem inR_of (n:Int) (h:0≤n∧n≤1099511627776):inR n=true:=by unfold inR;simp [h]
theorem nmInR_of (n:Int) (h:0≤n∧n≤1099511627776):Nm.inR n=true:=by unfold Nm.inR;simp [h]
theorem bput_any (hT:TakeSaid) (K:List Int) (g:Nat) (s:Sc.S) (p:Option Addr) (m c:Nat) (hm:s.L.length=m) (w:World) (hg:BoxAt w g K) (hL:Bs w p c s.L) (ht:Tab w 1) :
  Calls Tryz.prog 76 #[.iface 33 (.pointer (some ⟨g,0,none⟩)),Sv s p m c] w (LPut (Sc.pt (Seal.sl K) s) w (Below w.heap.size w)):=by
 subst hm
 by_cases h:Sc.ers s=0
 ·obtain ⟨h1,h2,h3⟩:=Sc.ers_parts h
  have h4:=Sc.inP_iff.1 h2
  rw [Sc.pt_ok h]
  have hlen:=Seal.sl_len (inR_of _ h4.1) (inR_of _ h4.2.1) K (Sc.mk s.k s.a) s.L
  refine (put_box ⟨g,0,none⟩ s.k s.e s.n s.a p s.L.length c (s.L.length+32) (17+(s.L.length+32)) h1 h2 h3 w (Seal.sl K s.e s.n (Sc.mk s.k s.a) s.L) hlen (by omega) rfl (fun y y'=>Below y.heap.size y y') (Below w.heap.size w) ?_ ?_ ?_ ?_ ?_).mono ?_
  ·intro y q d hy hq
   refine (seal_any hT K (Sc.mk s.k s.a) s.L g s.e s.n q p 9 s.L.length d c (Sc.mk_len _ _) rfl y (hg.old hy) hq (hL.old hy) (by omega) (ht.below hy ht.lt)).mono ?_
   rintro r y' ⟨u,c',m',rfl,hm',_,hb,hbel⟩
   rw [hlen] at hm'
   obtain rfl:=hm'
   exact ⟨u,_,rfl,hb,hbel⟩
  ·intro y y' q d R r _ _ _ hb hbel
   exact hb.old hbel
  ·intro y y' i v _ hbel hc
   exact (hbel.cell (p:=⟨w.heap.size,i,none⟩) (World.block_lt_of_cell? y _ hc)).trans hc
  ·exact fun y y' hbel=>hbel.size
  ·exact fun y y' z hy hbel hz=>hy.trans ((hbel.trans (hz.mono hbel.size)).mono hy.size)
  ·rintro r w' ⟨u,d,rfl,ho,hb,hF⟩
   have hl2:(Sc.fr s.k s.e s.n++Seal.sl K s.e s.n (Sc.mk s.k s.a) s.L).length=17+(s.L.length+32):=by rw [List.length_append,Sc.fr_len,hlen]
   exact ⟨u,_,d,rfl,hl2,ho,hb,hF.out⟩
 ·exact (put_no _ _ s.k s.e s.n s.a p s.L.length c h w).mono fun r w' q=>lput_no q (Sc.pt_no h) id
namespace Sc
def nd (S:Nm.St) (s:Sc.S):Nm.St:=if ers s=0 then Nm.sld S (s.e,s.n,mk s.k s.a,s.L) else S
def nsl (S:Nm.St) (e n:Int) (h L:List Int):List Int:=Nm.sl S (e,n,h,L)
theorem nd_ok {S:Nm.St} {s:Sc.S} (h:ers s=0):nd S s=Nm.sld S (s.e,s.n,mk s.k s.a,s.L):=by unfold nd;rw [if_pos h]
theorem nd_no {S:Nm.St} {s:Sc.S} (h:ers s ≠ 0):nd S s=S:=by unfold nd;rw [if_neg h]
theorem may_of {s:Sc.S} (h:ers s=0):Nm.may (s.e,s.n,mk s.k s.a,s.L)=true:=by
 have h4:=inP_iff.1 (ers_parts h).2.1
 unfold Nm.may
 simp only [Bool.and_eq_true]
 exact ⟨nmInR_of _ h4.1,nmInR_of _ h4.2.1⟩
theorem nsl_len {S:Nm.St} {s:Sc.S} (h:ers s=0):(nsl S s.e s.n (mk s.k s.a) s.L).length=s.L.length+32:=by
 unfold nsl Nm.sl
 rw [if_pos (may_of h),List.length_append,Nm.tg_len]
end Sc
theorem nput_any (S:Nm.St) (g b cc:Nat) (s:Sc.S) (p:Option Addr) (m c:Nat) (hm:s.L.length=m) (w:World) (hg:StAt w g b cc S) (hL:Bs w p c s.L) (hl:S.ss.length≤100000) :
  Calls Tryz.prog 76 #[.iface 83 (.pointer (some ⟨g,0,none⟩)),Sv s p m c] w (LPut (Sc.pt (Sc.nsl S) s) w (fun z=>StAt z g b cc (Sc.nd S s)∧Only b w z)):=by
 subst hm
 by_cases h:Sc.ers s=0
 ·obtain ⟨h1,h2,h3⟩:=Sc.ers_parts h
  have h4:=Sc.inP_iff.1 h2
  rw [Sc.pt_ok h,Sc.nd_ok h]
  have hlen:=Sc.nsl_len (S:=S) h
  have hbl:=hg.lt.2.1
  refine (put_nam ⟨g,0,none⟩ s.k s.e s.n s.a p s.L.length c (s.L.length+32) (17+(s.L.length+32)) h1 h2 h3 w (Sc.nsl S s.e s.n (Sc.mk s.k s.a) s.L) hlen (by omega) rfl (fun y y'=>StAt y' g b cc (Nm.sld S (s.e,s.n,Sc.mk s.k s.a,s.L))∧Only b y y') (fun z=>StAt z g b cc (Nm.sld S (s.e,s.n,Sc.mk s.k s.a,s.L))∧Only b w z) ?_ ?_ ?_ ?_ ?_).mono ?_
  ·intro y q d hy hq
   refine (seal_anyN S (s.e,s.n,Sc.mk s.k s.a,s.L) g b cc q p 9 s.L.length d c (Sc.mk_len _ _) rfl (by omega) y (hg.old hy) hq (hL.old hy) hl).mono ?_
   rintro r y' ⟨u,c',m',rfl,hm',_,hb,hst,ho⟩
   have hm2:m'=s.L.length+32:=hm'.symm.trans hlen
   subst hm2
   exact ⟨u,_,rfl,hb,hst.out,ho⟩
  ·intro y y' q d R r hy hR ho hb hQ
   refine bs_only hb hQ.2 (fun a ha=>?_)
   left
   subst ha
   have:=(ho.lt a.block rfl).1
   omega
  ·intro y y' i v hy hQ hc
   exact hQ.2.cell (by omega) hc
  ·exact fun y y' hQ=>hQ.2.size
  ·exact fun y y' z hy hQ hz=>⟨hQ.1.old hz,((only_of_below hy).trans hQ.2).trans (only_of_below hz)⟩
  ·rintro r w' ⟨u,d,rfl,ho,hb,hF⟩
   have hl2:(Sc.fr s.k s.e s.n++Sc.nsl S s.e s.n (Sc.mk s.k s.a) s.L).length=17+(s.L.length+32):=by rw [List.length_append,Sc.fr_len,hlen]
   exact ⟨u,_,d,rfl,hl2,ho,hb,hF.out⟩
 ·rw [Sc.nd_no h]
  exact (put_no _ _ s.k s.e s.n s.a p s.L.length c h w).mono fun r w' q=>lput_no q (Sc.pt_no h) (fun hb=>⟨hg.old hb,only_of_below hb⟩)
theorem lget_of {f:Int→Int→List Int→List Int→Option (List Int)} {k a:Int} {b:List Int} {w w':World} {r:Ending} (h0:Sc.ger k a b=0) {o:Option (List Int)} (ho:f (Sc.ep (b.take 17)) (Sc.nu (b.take 17)) (Sc.mk k a) (b.drop 17)=o)
  (h:SGet k (Sc.ep (b.take 17)) (Sc.nu (b.take 17)) a o w r w'):LGet (Sc.gt f k a b) w r w':=by
 rcases h with ⟨h1,h2⟩ | ⟨R,u,m,d,h1,h2,h3,h4,h5,h6⟩
 ·exact lget_no h2 (Sc.gt_none h0 (ho.trans h1))
 ·rw [Sc.gt_some h0 (ho.trans h1)]
  exact ⟨u,m,d,h3,h2,h4,h5,h6⟩
theorem bget_any (hT:TakeSaid) (K:List Int) (g:Nat) (k a:Int) (b:List Int) (p:Option Addr) (n c:Nat) (hn:b.length=n) (w:World) (hg:BoxAt w g K) (hb:Bs w p c b) (ht:Tab w 1) :
  Calls Tryz.prog 100 #[.iface 33 (.pointer (some ⟨g,0,none⟩)),.int .i64 k,.int .i64 a,.slice p n c] w (LGet (Sc.gt (Seal.op K) k a b) w):=by
 by_cases h:Sc.ger k a b=0
 ·have hz:=Sc.ger_zero.1 h
  refine (get_box ⟨g,0,none⟩ k a _ _ b p n c hn h w hb (Seal.op K (Sc.ep (b.take 17)) (Sc.nu (b.take 17)) (Sc.mk k a) (b.drop 17)) rfl rfl ?_).mono fun r w' q=>lget_of h rfl q
  intro y q d q2 d2 hy hq hq2
  exact open_any hT K (Sc.mk k a) (b.drop 17) g _ _ q q2 9 (n-17) d d2 (Sc.mk_len _ _) (by rw [List.length_drop,hn]) y (hg.old hy) hq hq2 (by omega) (ht.below hy ht.lt)
 ·exact (get_no _ _ k a b p n c hn h w hb).mono fun r w' q=>lget_no q (Sc.gt_no h)
theorem nget_any (S:Nm.St) (g bb cc:Nat) (k a:Int) (b:List Int) (p:Option Addr) (n c:Nat) (hn:b.length=n) (w:World) (hg:StAt w g bb cc S) (hb:Bs w p c b) :
  Calls Tryz.prog 100 #[.iface 83 (.pointer (some ⟨g,0,none⟩)),.int .i64 k,.int .i64 a,.slice p n c] w (LGet (Sc.gt (Nm.opn S) k a b) w):=by
 by_cases h:Sc.ger k a b=0
 ·have hz:=Sc.ger_zero.1 h
  have h4:=Sc.inP_iff.1 hz.2.2
  refine (get_nam ⟨g,0,none⟩ k a _ _ b p n c hn h w hb (Nm.opn S (Sc.ep (b.take 17)) (Sc.nu (b.take 17)) (Sc.mk k a) (b.drop 17)) rfl rfl ?_).mono fun r w' q=>lget_of h rfl q
  intro y q d q2 d2 hy hq hq2
  exact open_anyN S _ _ (Sc.mk k a) (b.drop 17) g bb cc q q2 9 (n-17) d d2 (Sc.mk_len _ _) (by rw [List.length_drop,hn]) (by omega) (by unfold Nm.In64;omega) (by unfold Nm.In64;omega) y (hg.old hy) hq hq2
 ·exact (get_no _ _ k a b p n c hn h w hb).mono fun r w' q=>lget_no q (Sc.gt_no h)
end
end Go.Proofs.YtnnalemboeccbaaGreatDoor

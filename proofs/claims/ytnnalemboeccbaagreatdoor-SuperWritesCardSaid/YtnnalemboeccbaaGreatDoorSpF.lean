import Derived.Test.YtnnalemboeccbaaGreatDoorSp2
import Derived.Test.YtnnalemboeccbaaGreatDoorRg3
import Derived.Test.YtnnalemboeccbaaGreatDoorDk2
import Derived.Test.YtnnalemboeccbaaGreatDoorPa2
namespace Go.Proofs.YtnnalemboeccbaaGreatDoor
open Go.RowKit
namespace Sp
def okw (g:G) (e:Int):Prop:=ck g=0∧inE e
instance (g:G) (e:Int):Decidable (okw g e):=by unfold okw;infer_instance
def wv (S:Nm.St) (g:G) (e:Int):List Int × Int:=if okw g e then (sm (vS S g e) (by_ (vS S g e) g e),0) else (Rg.z32,if ck g=0 then 7 else 15)
def wM (m:Dk.M) (S:Nm.St) (g:G) (e:Int):Dk.M:=if okw g e then Dk.put m 0 (by_ (vS S g e) g e) else m
def wS (S:Nm.St) (g:G) (e:Int):Nm.St:=if okw g e then vS S g e else S
def rv (S:Nm.St) (B:List Int):G × List Int × Int:=if B = [] then (zero,Rg.z32,9) else match vh S B with
 | none=>(zero,Rg.z32,14)
 | some g=>(g,sm S B,0)
theorem rv_nil (S:Nm.St):rv S []=(zero,Rg.z32,9):=by unfold rv;rw [if_pos rfl]
theorem rv_bad {S:Nm.St} {B:List Int} (h:B ≠ []) (h2:vh S B=none):rv S B=(zero,Rg.z32,14):=by unfold rv;rw [if_neg h,h2]
theorem rv_ok {S:Nm.St} {B:List Int} {g:G} (h:B ≠ []) (h2:vh S B=some g):rv S B=(g,sm S B,0):=by unfold rv;rw [if_neg h,h2]
theorem vG_len (S:Nm.St) (B:List Int):(vG S B).2.L.length≤900000:=by
 unfold vG
 exact Nat.le_trans (gt_len S 1 0 B) (by omega)
theorem vS_ss (S:Nm.St) (g:G) (e:Int):(wS S g e).ss.length≤S.ss.length+1∧(wS S g e).ts.length≤S.ts.length+1:=by
 unfold wS
 split
 ·unfold vS Nm.smd
  dsimp only
  refine ⟨Sc.nd_le S _,?_⟩
  rw [nd_ts]
  exact Nm.put_len
 ·exact ⟨by omega,by omega⟩
end Sp
def Vu (x:World) (K:Nat) (y:World) (d g:Nat) (m:Dk.M) (S:Nm.St):Prop :=
 ∃ (T:Nat→Prop) (lb rb cb b c:Nat),DkAt y T d lb rb cb m∧StAt y g b c S∧(∀ k∈[g,b,c],¬ T k)∧Below x.heap.size x y∧(∀ k∈[d,lb,rb,cb,b,c],x.heap.size≤k∧k<K)∧K≤y.heap.size
section
variable {x y z:World} {K d g:Nat} {m m':Dk.M} {S S':Nm.St} {T:Nat→Prop} {lb rb cb b c:Nat}
theorem Vu.old (h:Vu x K y d g m S) (hb:Below y.heap.size y z):Vu x K z d g m S:=by
 obtain ⟨T,lb,rb,cb,b,c,h1,h2,h3,h4,h5,h6⟩:=h
 exact ⟨T,lb,rb,cb,b,c,h1.old hb,h2.old hb,h3,h4.trans (hb.mono h4.size),h5,Nat.le_trans h6 hb.size⟩
theorem Vu.low (h:Vu x K y d g m S):Below x.heap.size x y:=by
 obtain ⟨T,lb,rb,cb,b,c,h1,h2,h3,h4,h5,h6⟩:=h
 exact h4
theorem Vu.size (h:Vu x K y d g m S):K≤y.heap.size:=by
 obtain ⟨T,lb,rb,cb,b,c,h1,h2,h3,h4,h5,h6⟩:=h
 exact h6
theorem Vu.byt (h:Vu x K y d g m S) (i:Nat) (hi:i<m.n):Sha.Byt (Dk.peek m i):=by
 obtain ⟨T,lb,rb,cb,b,c,h1,_⟩:=h
 obtain ⟨A,a1,a2,a3⟩:=h1.lst
 obtain ⟨F,b1,b2⟩:=h1.csh
 unfold Dk.peek
 cases q:m.ca i with
 | none =>
  obtain ⟨v,_,hs⟩:=a3 i hi
  exact hs.2.1
 | some L =>
  obtain ⟨v,_,hs⟩:=(b2 i).2 L q
  exact hs.2.1
theorem vu_make {w1:World} (hd:DkAt w1 (fun k=>x.heap.size≤k∧k<w1.heap.size) d lb rb cb m) (hb:Below x.heap.size x w1) (hs:StAt y g b c S) (hg:w1.heap.size≤g∧w1.heap.size≤b∧w1.heap.size≤c) (hb2:Below w1.heap.size w1 y):Vu x y.heap.size y d g m S:=by
 refine ⟨_,lb,rb,cb,b,c,hd.old hb2,hs,fun k hk q=>?_,hb.trans (hb2.mono hb.size),fun k hk=>?_,Nat.le_refl _⟩
 ·simp only [List.mem_cons,List.not_mem_nil,or_false] at hk
  rcases hk with rfl | rfl | rfl<;>omega
 ·have l:=hd.lt
  have s:=hb2.size
  have t:=hs.lt
  have u:=hb.size
  have e1:=l.1.1
  have e2:=l.2.1.1
  have e3:=l.2.2.1.1
  have e4:=l.2.2.2.1
  have f1:=l.1.2
  have f2:=l.2.1.2
  have f3:=l.2.2.1.2
  have f4:=l.2.2.2.2
  simp only [List.mem_cons,List.not_mem_nil,or_false] at hk
  rcases hk with rfl | rfl | rfl | rfl | rfl | rfl<;>constructor<;>omega
theorem vu_step (h2:StAt y g b c S) (h3:∀ k∈[g,b,c],¬ T k) (h4:Below x.heap.size x y) (h5:∀ k∈[d,lb,rb,cb,b,c],x.heap.size≤k∧k<K) (h6:K≤y.heap.size)
  {ks:List Nat} (hks:∀ k∈ks,k∈[d,lb,rb,cb,b,c]) (hd:DkAt z (Own T y z) d lb rb cb m') (hm:Mv ks y z) (s1:StAt z g b c S'):Vu x K z d g m' S'∧Kp K y z:=by
 refine ⟨⟨Own T y z,lb,rb,cb,b,c,hd,s1,fun k hk hq=>?_,hm.below h4 (fun k hk=>(h5 k (hks k hk)).1) h4.size,h5,Nat.le_trans h6 hm.size⟩,Kp.of_mv hm (fun k hk=>(h5 k (hks k hk)).2)⟩
 rcases hq with q | q
 ·exact h3 k hk q
 ·have a:=h2.lt
  simp only [List.mem_cons,List.not_mem_nil,or_false] at hk
  rcases hk with rfl | rfl | rfl<;>omega
theorem dk_in:∀ k∈[d,lb,rb,cb],k∈[d,lb,rb,cb,b,c]:=fun k hk=>by
 simp only [List.mem_cons,List.not_mem_nil,or_false] at hk ⊢
 rcases hk with q | q | q | q<;>simp [q]
theorem dk_own (h1:DkAt y T d lb rb cb m):∀ k∈[d,lb,rb,cb],T k:=fun k hk=>by
 simp only [List.mem_cons,List.not_mem_nil,or_false] at hk
 rcases hk with rfl | rfl | rfl | rfl
 ·exact h1.lt.1
 ·exact h1.lt.2.1
 ·exact h1.lt.2.2.1
 ·exact h1.lt.2.2.2
theorem st_mv (h1:DkAt y T d lb rb cb m) (h3:∀ k∈[g,b,c],¬ T k) {w1 w2:World} (h2:StAt w1 g b c S) (hm:Mv [d,lb,rb,cb] w1 w2):StAt w2 g b c S :=
 have nk:∀ k∈[g,b,c],k∉[d,lb,rb,cb]:=fun k hk q=>h3 k hk (dk_own h1 k q)
 h2.keep (hm.block _ h2.lt.1 (nk _ (by simp))) (hm.block _ h2.lt.2.1 (nk _ (by simp))) (hm.block _ h2.lt.2.2 (nk _ (by simp)))
def VuSay (x:World) (K:Nat) (d g:Nat) (v:Value) (m:Dk.M) (S:Nm.St) (y:World) (e:Ending) (z:World):Prop:=e = .returned v∧Hid (Vu x K z d g m S)∧Hid (Kp K y z)
theorem vu_write (gg:Sp.G) (e:Int) (hu:Dk.Up m 5) (h:Vu x K y d g m S) (hwr:m.wr≤1000000000) (hl:S.ss.length≤100000) (ht:S.ts.length≤100000) :
  Calls Tryz.prog 33 #[.pointer (some ⟨d,0,none⟩),.iface 83 (.pointer (some ⟨g,0,none⟩)),.int .i64 e,GV gg] y (VuSay x K d g (.tuple #[A32 (Sp.wv S gg e).1,.int .i64 (Sp.wv S gg e).2]) (Sp.wM m S gg e) (Sp.wS S gg e) y):=by
 obtain ⟨T,lb,rb,cb,b,c,h1,h2,h3,h4,h5,h6⟩:=h
 have hlt:=h2.lt
 by_cases hc:Sp.ck gg=0
 ·obtain ⟨X,hX⟩:∃ X,X=Sc.pt (Sc.nsl S) (Sp.sec gg e):=⟨_,rfl⟩
  have hbc:∀ k∈[b,c],¬ T k∧k<y.heap.size:=fun k hk=>⟨h3 k (List.mem_cons_of_mem _ hk),by
   simp only [List.mem_cons,List.not_mem_nil,or_false] at hk
   rcases hk with rfl | rfl
   ·exact hlt.2.1
   ·exact hlt.2.2⟩
  have hput:∀ z p c',Below y.heap.size y z→Bs z p c' (Sp.pt gg)→Calls Tryz.prog 76 #[.iface 83 (.pointer (some ⟨g,0,none⟩)),SV 1 e 0 0 p 24 c'] z (LPut X z (fun z'=>StAt z' g b c (Sc.nd S (Sp.sec gg e))∧Mv [b,c] z z')):=fun z p c' hz hp=>by
   have hq:=nput_any S g b c (Sp.sec gg e) p 24 c' (Sp.sec_len gg e) z (h2.old hz) (by unfold Sp.sec;exact hp) hl
   rw [← hX] at hq
   have hv:Sv (Sp.sec gg e) p 24 c'=SV 1 e 0 0 p 24 c':=by unfold Sp.sec Sv;rfl
   rw [hv] at hq
   refine hq.mono ?_
   rintro e z' ⟨u,mm,dd,he,hm,ho,hs,hst,hon⟩
   exact ⟨u,mm,dd,he,hm,ho,hs,hst,Mv.only hon (by simp)⟩
  have hst:∀ S':Nm.St,∀ (y' z:World) (k:Nat),StAt y' g b c S'→Only k y' z→y.heap.size≤k→StAt z g b c S':=fun S' y' z k hs ho hk=>hs.only ho (by omega) (by omega) (by omega)
  by_cases he:Sp.inE e
  ·have hok:Sp.okw gg e:=⟨hc,he⟩
   have hx:X.1=0∧X.2=Sp.by_ (Sp.vS S gg e) gg e:=by
    rw [hX,Sc.put_bys S (Sp.ers_in gg he)]
    exact ⟨rfl,(Sp.by_is S gg e).symm⟩
   have hlen:X.2.length=73:=by rw [hx.2,Sp.by_len]
   have hw:Dk.wrE m 0 X.2=0:=hu.wrE 0 (by omega) _ (by omega)
   have hwm:Dk.wrM m 0 X.2=Dk.put m 0 X.2:=hu.wrM 0 (by omega) _ (by omega)
   have hsm:Nm.sm (Sc.nd S (Sp.sec gg e)) X.2=Sp.sm (Sp.vS S gg e) (Sp.by_ (Sp.vS S gg e) gg e):=by
    rw [hx.2,← Sp.sm_self,Sp.by_is2]
   have hsd:Nm.smd (Sc.nd S (Sp.sec gg e)) X.2=Sp.vS S gg e:=by
    rw [hx.2,Sp.vS_is]
   refine (swrite_ok_nam ⟨g,0,none⟩ gg e y h1 X [b,c] (fun z=>StAt z g b c (Sc.nd S (Sp.sec gg e))) hbc (by omega) hwr hc hput (hst _) (fun y' z hs hm=>st_mv h1 h3 hs hm) (Nm.sm (Sc.nd S (Sp.sec gg e)) X.2) (fun z=>StAt z g b c (Nm.smd (Sc.nd S (Sp.sec gg e)) X.2)) (Nm.tg_len _ _)
    (fun z p n c' hs hn hb=>(sum_anyN _ X.2 g b c p n c' hn z hs hb (by rw [Sp.nd_ts];exact ht)).mono fun _ _ q=>⟨q.1,q.2.1.out,Mv.only q.2.2 (by simp)⟩) (hst _) hx.1 hw).mono ?_
   rintro r z ⟨rfl,hd,hm,hs⟩
   have hf:=vu_step (d:=d) (lb:=lb) (rb:=rb) (cb:=cb) h2 h3 h4 h5 h6 (ks:=d :: lb :: rb :: cb :: [b,c]) (fun k hk=>hk) hd.out hm.out hs.out
   rw [hsm]
   rw [hsd,hwm,hx.2] at hf
   refine ⟨?_,?_,hf.2⟩
   ·unfold Sp.wv;rw [if_pos hok]
   ·unfold Sp.wM Sp.wS;rw [if_pos hok,if_pos hok];exact hf.1
  ·have hok:¬ Sp.okw gg e:=fun q=>he q.2
   have hx:X=(7,[]):=by rw [hX,Sc.pt_no (by rw [Sp.ers_out gg he];decide),Sp.ers_out gg he]
   refine (swrite_er_nam ⟨g,0,none⟩ gg e y h1 X [b,c] (fun z=>StAt z g b c (Sc.nd S (Sp.sec gg e))) hbc hc hput (hst _) (by rw [hx];decide)).mono ?_
   rintro r z ⟨rfl,hd,hm,hs⟩
   have hs':=hs.out
   rw [Sc.nd_no (by rw [Sp.ers_out gg he];decide)] at hs'
   have hf:=vu_step (d:=d) (lb:=lb) (rb:=rb) (cb:=cb) h2 h3 h4 h5 h6 (ks:=d :: lb :: rb :: cb :: [b,c]) (fun k hk=>hk) hd.out hm.out hs'
   refine ⟨?_,?_,hf.2⟩
   ·unfold Sp.wv;rw [if_neg hok,if_pos hc,hx]
   ·unfold Sp.wM Sp.wS;rw [if_neg hok,if_neg hok];exact hf.1
 ·have hc15:Sp.ck gg=15:=(Sp.ck_or gg).resolve_left hc
  have hok:¬ Sp.okw gg e:=fun q=>hc q.1
  refine (swrite_no_nam ⟨g,0,none⟩ gg e y h1 hc15).mono ?_
  rintro r z ⟨rfl,hd,hm,hs⟩
  have hf:=vu_step (d:=d) (lb:=lb) (rb:=rb) (cb:=cb) h2 h3 h4 h5 h6 (ks:=d :: lb :: rb :: cb :: []) dk_in hd.out hm.out (h2.old hs.out)
  refine ⟨?_,?_,hf.2⟩
  ·unfold Sp.wv;rw [if_neg hok,if_neg hc]
  ·unfold Sp.wM Sp.wS;rw [if_neg hok,if_neg hok];exact hf.1
def VuRr (x:World) (K:Nat) (d g:Nat) (r:Sp.G × List Int × Int) (m:Dk.M) (S:Nm.St) (y:World) (e:Ending) (z:World):Prop :=
 e = .returned (.tuple #[GV r.1,A32 r.2.1,.int .i64 r.2.2])∧Hid (Vu x K z d g m S)∧Hid (Kp K y z)
theorem vu_read {Tl:List (Sp.G × Int)} (hW:Sp.Wr S Tl) (hu:Dk.Up m 5) (h:Vu x K y d g m S) (hrd:∀ j,m.rd j≤1000000000) (ht:S.ts.length≤100000) :
  Calls Tryz.prog 37 #[.pointer (some ⟨d,0,none⟩),.iface 83 (.pointer (some ⟨g,0,none⟩))] y (VuRr x K d g (Sp.rv S (Dk.peek m 0)) (Dk.rdM m 0) S y):=by
 have hby:Sha.Byt (Dk.peek m 0):=h.byt 0 (by rw [hu.n];omega)
 have hpk:Dk.rdX m 0=Dk.peek m 0:=(hu.rd 0 (by omega)).2.1
 obtain ⟨T,lb,rb,cb,b,c,h1,h2,h3,h4,h5,h6⟩:=h
 have hlt:=h2.lt
 have hbc:∀ k∈[b,c],¬ T k∧k<y.heap.size:=fun k hk=>⟨h3 k (List.mem_cons_of_mem _ hk),by
  simp only [List.mem_cons,List.not_mem_nil,or_false] at hk
  rcases hk with rfl | rfl
  ·exact hlt.2.1
  ·exact hlt.2.2⟩
 have hst:∀ (y' z:World) (k:Nat),StAt y' g b c S→Only k y' z→y.heap.size≤k→StAt z g b c S:=fun y' z k hs ho hk=>hs.only ho (by omega) (by omega) (by omega)
 have hmv:∀ y' z,StAt y' g b c S→Mv [d,lb,rb,cb] y' z→StAt z g b c S:=fun y' z hs hm=>st_mv h1 h3 hs hm
 by_cases hb:Dk.peek m 0 = []
 ·refine (sread_none_nam ⟨g,0,none⟩ y h1 hrd (fun z=>StAt z g b c S) h2 hmv hst (by rw [hpk,hb])).mono ?_
  rintro r z ⟨rfl,hd,hm,hs⟩
  have hf:=vu_step (d:=d) (lb:=lb) (rb:=rb) (cb:=cb) h2 h3 h4 h5 h6 (ks:=d :: lb :: rb :: cb :: []) dk_in hd.out hm.out hs.out
  refine ⟨?_,hf.1,hf.2⟩
  rw [hb,Sp.rv_nil]
 ·have hlen:0<(Dk.rdX m 0).length:=by rw [hpk];exact Nat.pos_of_ne_zero (fun q=>hb (List.eq_nil_of_length_eq_zero q))
  have hget:∀ z q n c',StAt z g b c S→(Dk.rdX m 0).length=n→Bs z q c' (Dk.rdX m 0)→Calls Tryz.prog 100 #[.iface 83 (.pointer (some ⟨g,0,none⟩)),.int .i64 1,.int .i64 0,.slice q n c'] z (LGet (Sp.vG S (Dk.rdX m 0)) z):=fun z q n c' hs hn hq=>by
   unfold Sp.vG
   exact nget_any S g b c 1 0 _ q n c' hn z hs hq
  have hgl:(Sp.vG S (Dk.rdX m 0)).2.L.length≤900000:=Sp.vG_len S _
  cases hv:Sp.vh S (Dk.peek m 0) with
  | none =>
   have hv2:Sp.hd (Sp.vG S (Dk.rdX m 0))=none:=by rw [hpk];exact (Sp.vh_is S _).symm.trans hv
   refine (sread_bad_nam ⟨g,0,none⟩ y h1 hrd (fun z=>StAt z g b c S) h2 hmv hst _ hgl hlen hget hv2).mono ?_
   rintro r z ⟨rfl,hd,hm,hs⟩
   have hf:=vu_step (d:=d) (lb:=lb) (rb:=rb) (cb:=cb) h2 h3 h4 h5 h6 (ks:=d :: lb :: rb :: cb :: []) dk_in hd.out hm.out hs.out
   refine ⟨?_,hf.1,hf.2⟩
   rw [Sp.rv_bad hb hv]
  | some gg =>
   have hv2:Sp.hd (Sp.vG S (Dk.rdX m 0))=some gg:=by rw [hpk];exact (Sp.vh_is S _).symm.trans hv
   obtain ⟨_,_,_,_,k1,k2⟩:=(hW.tells hby).2 gg hv
   rw [← hpk] at k1 k2
   refine (sread_ok_nam ⟨g,0,none⟩ y h1 hrd (fun z=>StAt z g b c S) h2 hmv hst _ hgl hlen hget [b,c] hbc (Sp.sm S (Dk.rdX m 0)) (fun z=>StAt z g b c S) (Sp.sm_len _ _)
    (fun z p n c' hs hn hq=>(sum_anyN S (Dk.rdX m 0) g b c p n c' hn z hs hq ht).mono fun _ _ q=>⟨by rw [q.1,k1],by have:=q.2.1.out;rw [k2] at this;exact this,Mv.only q.2.2 (by simp)⟩) hst gg hv2).mono ?_
   rintro r z ⟨rfl,hd,hm,hs⟩
   have hf:=vu_step (d:=d) (lb:=lb) (rb:=rb) (cb:=cb) h2 h3 h4 h5 h6 (ks:=d :: lb :: rb :: cb :: [b,c]) (fun k hk=>hk) hd.out hm.out hs.out
   refine ⟨?_,hf.1,hf.2⟩
   rw [Sp.rv_ok hb hv,hpk]
end
end Go.Proofs.YtnnalemboeccbaaGreatDoor

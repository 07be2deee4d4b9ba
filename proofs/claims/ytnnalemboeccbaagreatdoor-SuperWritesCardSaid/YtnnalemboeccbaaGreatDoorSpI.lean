import Derived.Test.YtnnalemboeccbaaGreatDoorSp1
import Derived.Test.YtnnalemboeccbaaGreatDoorSc4
namespace Go.Proofs.YtnnalemboeccbaaGreatDoor
open Go.RowKit
namespace Sp
def sec (g:G) (e:Int):Sc.S:=⟨1,e,0,0,pt g⟩
theorem sec_len (g:G) (e:Int):(sec g e).L.length=24:=pt_len g
def inE (e:Int):Prop:=0≤e∧e≤1099511627776
instance (e:Int):Decidable (inE e):=by unfold inE;infer_instance
theorem ers_in (g:G) {e:Int} (h:inE e):Sc.ers (sec g e)=0 :=
 Sc.er_zero.2 ⟨Sc.isK_iff.2 (by show (1:Int)≤1∧(1:Int)≤5;omega),Sc.inP_iff.2 ⟨h,by show (0:Int)≤0∧(0:Int)≤_;omega,by show (0:Int)≤0∧(0:Int)<4096;omega⟩,by rw [sec_len];omega⟩
theorem ers_out (g:G) {e:Int} (h:¬ inE e):Sc.ers (sec g e)=7:=by
 have hp:Sc.inP (sec g e).e (sec g e).n (sec g e).a=false:=by
  rw [← Bool.not_eq_true,Sc.inP_iff]
  exact fun q=>h q.1
 unfold Sc.ers Sc.er
 rw [if_pos (Sc.isK_iff.2 (by show (1:Int)≤1∧(1:Int)≤5;omega)),if_neg (by rw [hp];decide)]
def hd (X:Int × Sc.S):Option G:=if X.1=0 then (if X.2.n=0 then (if er X.2.L=0 then some (gt X.2.L) else none) else none) else none
theorem hd_1 {X:Int × Sc.S} (h:X.1 ≠ 0):hd X=none:=by unfold hd;rw [if_neg h]
theorem hd_2 {X:Int × Sc.S} (h:X.1=0) (h2:X.2.n ≠ 0):hd X=none:=by unfold hd;rw [if_pos h,if_neg h2]
theorem hd_3 {X:Int × Sc.S} (h:X.1=0) (h2:X.2.n=0) (h3:er X.2.L ≠ 0):hd X=none:=by unfold hd;rw [if_pos h,if_pos h2,if_neg h3]
theorem hd_4 {X:Int × Sc.S} (h:X.1=0) (h2:X.2.n=0) (h3:er X.2.L=0):hd X=some (gt X.2.L):=by unfold hd;rw [if_pos h,if_pos h2,if_pos h3]
theorem hd_some {X:Int × Sc.S} {g:G} (h:hd X=some g):X.1=0∧X.2.n=0∧er X.2.L=0∧g=gt X.2.L:=by
 unfold hd at h
 split at h
 ·split at h
  ·split at h
   ·rename_i h1 h2 h3
    exact ⟨h1,h2,h3,(Option.some.inj h).symm⟩
   ·cases h
  ·cases h
 ·cases h
def vG (S:Nm.St) (B:List Int):Int × Sc.S:=Sc.gt (Nm.opn S) 1 0 B
def vh (S:Nm.St) (B:List Int):Option G:=hd (vG S B)
def kn (S:Nm.St) (g:G) (e:Int):Prop:=Nm.place (Sc.four (sec g e)) S.ss ≠ 0
def by_ (S:Nm.St) (g:G) (e:Int):List Int:=Sc.bys S (sec g e)
theorem by_len (S:Nm.St) (g:G) (e:Int):(by_ S g e).length=73:=by unfold by_;rw [Sc.bys_len,sec_len]
theorem vh_of {S:Nm.St} {g:G} {e:Int} (ho:Ok g) (hc:ck g=0) (he:inE e) (hk:kn S g e):vh S (by_ S g e)=some g:=by
 have hg:Sc.gt (Nm.opn S) (sec g e).k (sec g e).a (Sc.bys S (sec g e))=(0,sec g e):=by
  unfold Sc.bys
  exact Sc.gt_pt (ers_in g he) _ _ (by rw [List.length_append,Nm.tg_len]) (Sc.opn_of hk)
 have hg2:vG S (by_ S g e)=(0,sec g e):=hg
 have hb:=back ho hc
 unfold vh
 rw [hg2,hd_4 (X:=(0,sec g e)) rfl rfl hb.1]
 exact congrArg some hb.2
theorem vh_only {S:Nm.St} {B:List Int} {g:G} (hB:Sha.Byt B) (h:vh S B=some g):Ok g∧ck g=0∧∃ e,inE e∧kn S g e∧B=by_ S g e:=by
 obtain ⟨h1,h2,h3,h4⟩:=hd_some h
 unfold vG at h1 h2 h3 h4
 obtain ⟨g1,L,g2,g3⟩:=Sc.gt_good h1
 rw [g3] at h2 h3 h4
 dsimp only at h2 h3 h4
 obtain ⟨z1,⟨z2,z2'⟩,z3⟩:=Sc.ger_zero.1 g1
 obtain ⟨p1,p2⟩:=Sc.opn_some g2
 have hbl:Sha.Byt L:=fun x hx=>hB x (List.mem_of_mem_drop (by rw [p2];exact List.mem_append_left _ hx))
 obtain ⟨o1,o2⟩:=only hbl h3
 have hfr:=Sc.fr_of hB z1.1 1 z2' z2
 have hin:=Sc.inP_iff.1 z3
 subst h4
 have e1:Sc.four (sec (gt L) (Sc.ep (B.take 17)))=(Sc.ep (B.take 17),Sc.nu (B.take 17),Sc.mk 1 0,L):=by
  unfold Sc.four sec
  dsimp only
  rw [o2,h2]
 refine ⟨gt_ok L,o1,Sc.ep (B.take 17),hin.1,?_,?_⟩
 ·unfold kn
  rw [e1]
  exact p1
 ·unfold by_ Sc.bys
  rw [e1]
  unfold sec
  dsimp only
  rw [h2] at hfr
  rw [o2,hfr,← p2,List.take_append_drop]
def vS (S:Nm.St) (g:G) (e:Int):Nm.St:=Nm.smd (Sc.nd S (sec g e)) (by_ (Sc.nd S (sec g e)) g e)
def sm (S:Nm.St) (B:List Int):List Int:=Nm.tg 1 (Nm.place B S.ts)
theorem sm_len (S:Nm.St) (B:List Int):(sm S B).length=32:=Nm.tg_len _ _
theorem place_put_ne {α:Type} [DecidableEq α] {x y:α} {l:List α} (h:y ≠ x):Nm.place y (Nm.put x l)=Nm.place y l:=by
 unfold Nm.put
 split
 ·rw [Nm.place_app]
  have:Nm.place y [x]=0:=Nm.place_zero.2 (by simp [h])
  rw [this]
  split
  ·rename_i h0;rw [h0];rfl
  ·rfl
 ·rfl
structure Wr (S:Nm.St) (T:List (G × Int)):Prop where
 all:∀ g e,kn S g e→inE e→ck g=0→Ok g→(g,e)∈T
 good:∀ x∈T,Ok x.1∧ck x.1=0∧inE x.2
 known:∀ x∈T,kn S x.1 x.2∧Nm.place (by_ S x.1 x.2) S.ts ≠ 0
theorem wr_none:Wr Nm.St.none []:=⟨fun g e h _ _ _=>absurd (show Nm.place (Sc.four (sec g e)) []=0 from rfl) h,fun x hx=>(by cases hx),fun x hx=>(by cases hx)⟩
theorem by_smd (S:Nm.St) (B:List Int) (g:G) (e:Int):by_ (Nm.smd S B) g e=by_ S g e:=rfl
theorem kn_smd {S:Nm.St} (B:List Int) {g:G} {e:Int}:kn (Nm.smd S B) g e↔kn S g e:=Iff.rfl
theorem by_up {S:Nm.St} {g:G} {e:Int} (h:kn S g e) (g':G) (e':Int):by_ (vS S g' e') g e=by_ S g e:=by
 unfold vS
 rw [by_smd]
 unfold by_
 exact Sc.bys_nd S _ h
theorem nd_ts (S:Nm.St) (s:Sc.S):(Sc.nd S s).ts=S.ts:=by
 unfold Sc.nd Nm.sld
 split
 ·split<;>rfl
 ·rfl
theorem Wr.add {S:Nm.St} {T:List (G × Int)} (h:Wr S T) {g:G} {e:Int} (ho:Ok g) (hc:ck g=0) (he:inE e):Wr (vS S g e) (T++[(g,e)]):=by
 have hself:kn (vS S g e) g e:=by
  unfold vS
  rw [kn_smd]
  exact Sc.place_self S (ers_in g he)
 refine ⟨fun g' e' hk' he' hc' ho'=>?_,fun x hx=>?_,fun x hx=>?_⟩
 ·by_cases q:kn S g' e'
  ·exact List.mem_append_left _ (h.all g' e' q he' hc' ho')
  ·unfold vS at hk'
   rw [kn_smd] at hk'
   unfold kn at hk' q
   rw [Sc.nd_ss (ers_in g he)] at hk'
   have hq:Sc.four (sec g e)=Sc.four (sec g' e'):=Classical.byContradiction fun hne=>hk' (by rw [place_put_ne (fun w=>hne w.symm)];exact Classical.not_not.1 q)
   have hs:=Sc.four_inj (ers_in g he) (ers_in g' he') hq
   have e1:pt g=pt g':=congrArg Sc.S.L hs
   have e2:e=e':=congrArg Sc.S.e hs
   have e3:g=g':=by rw [← back_gc ho,e1,back_gc ho']
   rw [e2,e3]
   exact List.mem_append_right _ (List.mem_singleton.2 rfl)
 ·rcases List.mem_append.1 hx with q | q
  ·exact h.good x q
  ·rw [List.mem_singleton] at q
   subst q
   exact ⟨ho,hc,he⟩
 ·rcases List.mem_append.1 hx with q | q
  ·obtain ⟨k1,k2⟩:=h.known x q
   refine ⟨?_,?_⟩
   ·unfold vS
    rw [kn_smd]
    unfold kn
    rw [Sc.place_nd S _ k1]
    exact k1
   ·rw [by_up k1]
    unfold vS Nm.smd
    dsimp only
    rw [nd_ts,Nm.place_put k2]
    exact k2
  ·rw [List.mem_singleton] at q
   subst q
   refine ⟨hself,?_⟩
   show Nm.place (by_ (vS S g e) g e) (vS S g e).ts ≠ 0
   unfold vS
   rw [by_smd]
   unfold Nm.smd
   exact Nm.put_self
theorem sm_self (S:Nm.St) (g:G) (e:Int):Nm.sm (Sc.nd S (sec g e)) (by_ (Sc.nd S (sec g e)) g e)=sm (vS S g e) (by_ (vS S g e) g e):=by
 unfold Nm.sm sm vS
 rw [by_smd]
 unfold Nm.smd
 dsimp only
 rw [Nm.num_place]
theorem sm_known {S:Nm.St} {B:List Int} (h:Nm.place B S.ts ≠ 0):Nm.sm S B=sm S B∧Nm.smd S B=S:=by
 unfold Nm.sm sm Nm.smd Nm.num Nm.put
 rw [if_neg h,if_neg h]
 exact ⟨rfl,rfl⟩
theorem Wr.tells {S:Nm.St} {T:List (G × Int)} (h:Wr S T) {B:List Int} (hB:Sha.Byt B) :
  (∀ x∈T,B=by_ S x.1 x.2→vh S B=some x.1)∧(∀ g,vh S B=some g→∃ x∈T,B=by_ S x.1 x.2∧x.1=g∧Nm.sm S B=sm S B∧Nm.smd S B=S):=by
 refine ⟨fun x hx hb=>?_,fun g hg=>?_⟩
 ·obtain ⟨o1,o2,o3⟩:=h.good x hx
  rw [hb]
  exact vh_of o1 o2 o3 (h.known x hx).1
 ·obtain ⟨o1,o2,e,o3,o4,o5⟩:=vh_only hB hg
  have hm:=h.all g e o4 o3 o2 o1
  refine ⟨(g,e),hm,o5,rfl,?_⟩
  rw [o5]
  exact sm_known (h.known _ hm).2
theorem by_is (S:Nm.St) (g:G) (e:Int):by_ (vS S g e) g e=Sc.bys (Sc.nd S (sec g e)) (sec g e):=by unfold vS;rw [by_smd];rfl
theorem by_is2 (S:Nm.St) (g:G) (e:Int):by_ (vS S g e) g e=by_ (Sc.nd S (sec g e)) g e:=by unfold vS;rw [by_smd]
theorem vS_is (S:Nm.St) (g:G) (e:Int):Nm.smd (Sc.nd S (sec g e)) (by_ (vS S g e) g e)=vS S g e:=by rw [by_is2];rfl
theorem vh_is (S:Nm.St) (B:List Int):vh S B=hd (vG S B):=rfl
attribute [irreducible] sec inE hd vG vh kn by_ vS sm
end Sp
end Go.Proofs.YtnnalemboeccbaaGreatDoor

/-
  SpZ0, SpZ2 (merged)
-/
import Derived.Test.YtnnalemboeccbaaGreatDoorSpDb
import Derived.Test.YtnnalemboeccbaaGreatDoorSe3
import Derived.Test.YtnnalemboeccbaaGreatDoorSp6
import Derived.Test.YtnnalemboeccbaaGreatDoorDk5
namespace Go.Proofs.YtnnalemboeccbaaGreatDoor

/-! SpZ0:  -/
section
open Go.RowKit
theorem BoxAt.same {y z:World} {g:Nat} {K:List Int} (h:BoxAt y g K) (hk:∀ (k:Nat) (cur:Array Value) (e:TypeId),e = 97∨e = 149∨e = 154→y.heap[k]?=some (.cells cur e (0,0))→z.heap[k]?=y.heap[k]?):BoxAt z g K:=by
 obtain ⟨c,h1,kb,n,cap,base,h2,h3,h4⟩:=h
 unfold Boxed at h1
 refine ⟨c,(hk _ _ _ (Or.inl rfl) h1).trans h1,kb,n,cap,base,(hk _ _ _ (Or.inr (Or.inl rfl)) h2).trans h2,h3,h4.1,?_⟩
 rcases h4.2 with q | ⟨b,cap',cur,q1,q2,q3,q4⟩
 ·exact Or.inl q
 ·exact Or.inr ⟨b,cap',cur,q1,q2,(hk _ _ _ (Or.inr (Or.inr rfl)) q3).trans q3,q4⟩
section
variable {w y z:World} {T T':Nat→Prop} {d lb rb cb:Nat} {m:Dk.M} {K:List Int} {g:Nat}
theorem DkAt.off (h:DkAt y T d lb rb cb m) {k:Nat} {cur:Array Value} {e:TypeId} (hk:y.heap[k]?=some (.cells cur e (0,0))) (h1:e ≠ 91) (h2:e ≠ 22) (h3:e ≠ 3):k∉[d,lb,rb,cb]:=by
 intro hin
 simp only [List.mem_cons,List.not_mem_nil,or_false] at hin
 rcases hin with rfl | rfl | rfl | rfl
 ·have q:=h.row
  rw [q] at hk
  injection hk with hk
  injection hk with _ hk _
  exact h1 hk.symm
 ·obtain ⟨A,a1,_⟩:=h.lst
  rw [a1] at hk
  injection hk with hk
  injection hk with _ hk _
  exact h2 hk.symm
 ·have q:=h.rds
  rw [q] at hk
  injection hk with hk
  injection hk with _ hk _
  exact h3 hk.symm
 ·obtain ⟨F,b1,_⟩:=h.csh
  obtain ⟨es,clock,b2⟩:=b1.isMap
  rw [b2] at hk
  cases hk
theorem DkAt.u32 (h:DkAt y T d lb rb cb m) {g o:Nat} {x:Int} (hc:y.cell? ⟨g,o,none⟩=some (.int .u32 x)):g∉[d,lb,rb,cb]:=by
 obtain ⟨A,a1,a2,a3⟩:=h.lst
 obtain ⟨F,b1,_⟩:=h.csh
 obtain ⟨es,clock,b1⟩:=b1.isMap
 intro hin
 simp only [List.mem_cons,List.not_mem_nil,or_false] at hin
 rcases hin with rfl | rfl | rfl | rfl
 ·rw [cell_of_row y g o _ _ _ h.row] at hc
  match o,hc with
  | 0,hc=>cases hc
  | 1,hc=>cases hc
  | 2,hc=>cases hc
  | 3,hc=>cases hc
  | 4,hc=>cases hc
  | 5,hc=>cases hc
  | n+6,hc=>simp at hc
 ·rw [cell_of_row y g o _ _ _ a1] at hc
  have ho:o<A.size:=(Array.getElem?_eq_some_iff.1 hc).1
  obtain ⟨v,c1,c2⟩:=a3 o (by omega)
  obtain ⟨p,c,rfl,_⟩:=c2.bs
  rw [c1] at hc
  cases hc
 ·rw [cell_of_row y g o _ _ _ h.rds] at hc
  simp at hc
 ·simp [World.cell?,b1] at hc
def Qd (w:World) (ks:List Nat) (z:World):Prop:=w.heap.size≤z.heap.size∧∀ k,k<w.heap.size→k∉ks→z.heap[k]?=w.heap[k]?
theorem Qd.refl (w:World) (ks:List Nat):Qd w ks w:=⟨Nat.le_refl _,fun _ _ _=>rfl⟩
theorem Qd.mv {ks:List Nat} (h:Qd w ks y) (hm:Mv ks y z):Qd w ks z:=⟨Nat.le_trans h.1 hm.size,fun k h1 h2=>(hm.block k (Nat.lt_of_lt_of_le h1 h.1) h2).trans (h.2 k h1 h2)⟩
theorem Qd.only {ks:List Nat} {k:Nat} (h:Qd w ks y) (ho:Only k y z) (hk:w.heap.size≤k):Qd w ks z:=⟨Nat.le_trans h.1 ho.size,fun j h1 h2=>(ho.block j (Nat.lt_of_lt_of_le h1 h.1) (by omega)).trans (h.2 j h1 h2)⟩
theorem Qd.below {ks:List Nat} (h:Qd w ks y) (hb:Below y.heap.size y z):Qd w ks z:=⟨Nat.le_trans h.1 hb.size,fun j h1 h2=>(hb.block j (Nat.lt_of_lt_of_le h1 h.1)).trans (h.2 j h1 h2)⟩
theorem box_qd (hb:BoxAt w g K) (hd:DkAt w T d lb rb cb m) (hq:Qd w [d,lb,rb,cb] z):BoxAt z g K :=
 hb.same fun k cur e he hk=>hq.2 k (lt_of_block hk) (hd.off hk (by rcases he with rfl | rfl | rfl<;>decide) (by rcases he with rfl | rfl | rfl<;>decide) (by rcases he with rfl | rfl | rfl<;>decide))
theorem tab_qd {t:Nat} (ht:Tab w t) (hd:DkAt w T d lb rb cb m) (hq:Qd w [d,lb,rb,cb] z):Tab z t:=fun j hj=>by
 have h:=ht j hj
 rw [World.cell?_of_block (a:=⟨t,j,none⟩) (hq.2 t (World.block_lt_of_cell? _ _ h) (hd.u32 h))]
 exact h
def Sp.bX (K:List Int) (gg:Sp.G) (e:Int):Int × List Int:=Sc.pt (Seal.sl K) (Sp.sec gg e)
def Sp.bE (m:Dk.M) (K:List Int) (gg:Sp.G) (e:Int):Int:=if Sp.ck gg=0 then (if (Sp.bX K gg e).1=0 then Dk.wrE m 0 (Sp.bX K gg e).2 else (Sp.bX K gg e).1) else 15
def Sp.bM (m:Dk.M) (K:List Int) (gg:Sp.G) (e:Int):Dk.M:=if Sp.ck gg=0 then (if (Sp.bX K gg e).1=0 then Dk.wrM m 0 (Sp.bX K gg e).2 else m) else m
def Sp.bV (m:Dk.M) (K:List Int) (gg:Sp.G) (e:Int):List Int:=if Sp.bE m K gg e=0 then Sha.dg (Sp.bX K gg e).2 else Rg.z32
theorem Sp.bX_len (K:List Int) (gg:Sp.G) (e:Int):(Sp.bX K gg e).2.length≤1000000:=by
 unfold Sp.bX
 by_cases h:Sc.ers (Sp.sec gg e)=0
 ·rw [Sc.pt_ok h]
  have h1:=(Sc.ers_parts h).2.1
  have h4:=Sc.inP_iff.1 h1
  rw [List.length_append,Sc.fr_len,Seal.sl_len (inR_of _ h4.1) (inR_of _ h4.2.1),Sp.sec_len]
  omega
 ·rw [Sc.pt_no h];exact Nat.zero_le _
theorem bx_write (hT:TakeSaid) (gg:Sp.G) (e:Int) (hd:DkAt w T d lb rb cb m) (hb:BoxAt w g K) (ht:Tab w 1) (hwr:m.wr≤1000000000) :
  Calls Tryz.prog 33 #[.pointer (some ⟨d,0,none⟩),.iface 33 (.pointer (some ⟨g,0,none⟩)),.int .i64 e,GV gg] w (SwSay (Sp.bV m K gg e) (Sp.bE m K gg e) T d lb rb cb (Sp.bM m K gg e) [] (Qd w [d,lb,rb,cb]) w):=by
 have hBX:=Sp.bX_len K gg e
 obtain ⟨X,hX⟩:∃ X,X=Sp.bX K gg e:=⟨_,rfl⟩
 rw [← hX] at hBX
 by_cases hc:Sp.ck gg=0
 ·have hput:∀ y p c,Below w.heap.size w y→Bs y p c (Sp.pt gg)→Calls Tryz.prog 76 #[.iface 33 (.pointer (some ⟨g,0,none⟩)),SV 1 e 0 0 p 24 c] y (LPut X y (fun z=>Qd w [d,lb,rb,cb] z∧Mv [] y z)):=fun y p c hy hp=>by
   have hq:=bput_any hT K g (Sp.sec gg e) p 24 c (Sp.sec_len gg e) y (hb.old hy) (by unfold Sp.sec;exact hp) (ht.below hy ht.lt)
   have hv:Sv (Sp.sec gg e) p 24 c=SV 1 e 0 0 p 24 c:=by unfold Sp.sec Sv;rfl
   rw [hv,show Sc.pt (Seal.sl K) (Sp.sec gg e)=X by rw [hX];rfl] at hq
   refine hq.mono ?_
   rintro r z ⟨u,mm,dd,h1,h2,h3,h4,h5⟩
   exact ⟨u,mm,dd,h1,h2,h3,h4,((Qd.refl w _).below hy).below h5,Mv.of_below h5⟩
  have hst:∀ y z k,Qd w [d,lb,rb,cb] y→Only k y z→w.heap.size≤k→Qd w [d,lb,rb,cb] z:=fun y z k h1 h2 h3=>h1.only h2 h3
  have hmv:∀ y z,Qd w [d,lb,rb,cb] y→Mv [d,lb,rb,cb] y z→Qd w [d,lb,rb,cb] z:=fun y z h1 h2=>h1.mv h2
  by_cases hx:X.1=0
  ·have hE:Sp.bE m K gg e=Dk.wrE m 0 X.2:=by unfold Sp.bE;rw [if_pos hc,← hX,if_pos hx]
   have hM:Sp.bM m K gg e=Dk.wrM m 0 X.2:=by unfold Sp.bM;rw [if_pos hc,← hX,if_pos hx]
   by_cases hw:Dk.wrE m 0 X.2=0
   ·have hV:Sp.bV m K gg e=Sha.dg X.2:=by unfold Sp.bV;rw [hE,if_pos hw,← hX]
    rw [hV,hE,hM,hw]
    exact swrite_ok_box ⟨g,0,none⟩ gg e w hd X [] (Qd w [d,lb,rb,cb]) (fun k hk=>by cases hk) hBX hwr hc hput hst hmv (Sha.dg X.2) (Qd w [d,lb,rb,cb]) (dg_len _)
     (fun z p n c hq hn hb2=>(boxsum_any hT X.2 _ p n c hn (by omega) z hb2 (tab_qd ht hd hq)).mono fun _ _ q=>⟨q.1,hq.below q.2,Mv.of_below q.2⟩) hst hx hw
   ·have hV:Sp.bV m K gg e=Rg.z32:=by unfold Sp.bV;rw [hE,if_neg hw]
    rw [hV,hE,hM]
    exact swrite_dk_box ⟨g,0,none⟩ gg e w hd X [] (Qd w [d,lb,rb,cb]) (fun k hk=>by cases hk) hBX hwr hc hput hst hmv hx hw
  ·have hE:Sp.bE m K gg e=X.1:=by unfold Sp.bE;rw [if_pos hc,← hX,if_neg hx]
   have hM:Sp.bM m K gg e=m:=by unfold Sp.bM;rw [if_pos hc,← hX,if_neg hx]
   have hV:Sp.bV m K gg e=Rg.z32:=by unfold Sp.bV;rw [hE,if_neg hx]
   rw [hV,hE,hM]
   exact swrite_er_box ⟨g,0,none⟩ gg e w hd X [] (Qd w [d,lb,rb,cb]) (fun k hk=>by cases hk) hc hput hst hx
 ·have hc15:Sp.ck gg=15:=(Sp.ck_or gg).resolve_left hc
  have hE:Sp.bE m K gg e=15:=by unfold Sp.bE;rw [if_neg hc]
  have hM:Sp.bM m K gg e=m:=by unfold Sp.bM;rw [if_neg hc]
  have hV:Sp.bV m K gg e=Rg.z32:=by unfold Sp.bV;rw [hE,if_neg (by decide)]
  rw [hV,hE,hM]
  refine (swrite_no_box ⟨g,0,none⟩ gg e w hd hc15).mono ?_
  rintro r z ⟨h1,h2,h3,h4⟩
  exact ⟨h1,h2,h3,(Qd.refl w _).below h4.out⟩
def Sp.bR (K:List Int) (B:List Int):Sp.G × List Int × Int:=if B = [] then (Sp.zero,Rg.z32,9) else match Sp.hd (Sc.gt (Seal.op K) 1 0 B) with
 | none=>(Sp.zero,Rg.z32,14)
 | some g=>(g,Sha.dg B,0)
theorem bx_read (hT:TakeSaid) (hd:DkAt w T d lb rb cb m) (hb:BoxAt w g K) (ht:Tab w 1) (hrd:∀ j,m.rd j≤1000000000) (hL:(Dk.rdX m 0).length≤100000) (hgl:(Sc.gt (Seal.op K) 1 0 (Dk.rdX m 0)).2.L.length≤900000) :
  Calls Tryz.prog 37 #[.pointer (some ⟨d,0,none⟩),.iface 33 (.pointer (some ⟨g,0,none⟩))] w (SrSay (Sp.bR K (Dk.rdX m 0)).1 (Sp.bR K (Dk.rdX m 0)).2.1 (Sp.bR K (Dk.rdX m 0)).2.2 T d lb rb cb (Dk.rdM m 0) [] (Qd w [d,lb,rb,cb]) w):=by
 have hst:∀ y z k,Qd w [d,lb,rb,cb] y→Only k y z→w.heap.size≤k→Qd w [d,lb,rb,cb] z:=fun y z k h1 h2 h3=>h1.only h2 h3
 have hmv:∀ y z,Qd w [d,lb,rb,cb] y→Mv [d,lb,rb,cb] y z→Qd w [d,lb,rb,cb] z:=fun y z h1 h2=>h1.mv h2
 by_cases hb0:Dk.rdX m 0 = []
 ·have e:Sp.bR K (Dk.rdX m 0)=(Sp.zero,Rg.z32,9):=by unfold Sp.bR;rw [if_pos hb0]
  rw [e]
  exact sread_none_box ⟨g,0,none⟩ w hd hrd (Qd w [d,lb,rb,cb]) (Qd.refl w _) hmv hst hb0
 ·have hlen:0<(Dk.rdX m 0).length:=Nat.pos_of_ne_zero (fun q=>hb0 (List.eq_nil_of_length_eq_zero q))
  have hget:∀ z q n c,Qd w [d,lb,rb,cb] z→(Dk.rdX m 0).length=n→Bs z q c (Dk.rdX m 0)→Calls Tryz.prog 100 #[.iface 33 (.pointer (some ⟨g,0,none⟩)),.int .i64 1,.int .i64 0,.slice q n c] z (LGet (Sc.gt (Seal.op K) 1 0 (Dk.rdX m 0)) z):=fun z q n c hq hn hbs =>
   bget_any hT K g 1 0 _ q n c hn z (box_qd hb hd hq) hbs (tab_qd ht hd hq)
  cases hv:Sp.hd (Sc.gt (Seal.op K) 1 0 (Dk.rdX m 0)) with
  | none =>
   have e:Sp.bR K (Dk.rdX m 0)=(Sp.zero,Rg.z32,14):=by unfold Sp.bR;rw [if_neg hb0,hv]
   rw [e]
   exact sread_bad_box ⟨g,0,none⟩ w hd hrd (Qd w [d,lb,rb,cb]) (Qd.refl w _) hmv hst _ hgl hlen hget hv
  | some gg =>
   have e:Sp.bR K (Dk.rdX m 0)=(gg,Sha.dg (Dk.rdX m 0),0):=by unfold Sp.bR;rw [if_neg hb0,hv]
   rw [e]
   exact sread_ok_box ⟨g,0,none⟩ w hd hrd (Qd w [d,lb,rb,cb]) (Qd.refl w _) hmv hst _ hgl hlen hget [] (fun k hk=>by cases hk) (Sha.dg (Dk.rdX m 0)) (Qd w [d,lb,rb,cb]) (dg_len _)
    (fun z p n c hq hn hb2=>(boxsum_any hT _ _ p n c hn (by omega) z hb2 (tab_qd ht hd hq)).mono fun _ _ q=>⟨q.1,hq.below q.2,Mv.of_below q.2⟩) hst gg hv
end
end

/-! SpZ2:  -/
section
open Go.RowKit
def RwSay (v:List Int) (n:Int) (T:Nat→Prop) (r qb:Nat) (m':Dk.M) (ks:List Nat) (Q:World→Prop) (w:World) (e:Ending) (w':World):Prop :=
 e = .returned (.tuple #[A32 v,.int .i64 n])∧Hid (RfAt w' (Own T w w') r qb m')∧Hid (Mv (r :: qb :: ks) w w')∧Hid (Q w')
theorem RfAt.only {y z:World} {U:Nat→Prop} {r qb k:Nat} {m:Dk.M} (h:RfAt y U r qb m) (ho:Only k y z) (hk:¬ U k):RfAt z U r qb m:=h.keep ho.size (fun g hg=>ho.block g (h.top g hg) (fun e=>hk (e ▸ hg)))
theorem ks3 {r qb:Nat} {ks:List Nat}:∀ k∈ks,k∈r :: qb :: ks:=fun k h=>List.mem_cons_of_mem _ (List.mem_cons_of_mem _ h)
theorem ks2 {r qb:Nat} {ks:List Nat}:∀ k∈[r,qb],k∈r :: qb :: ks:=fun k h=>by
 simp only [List.mem_cons,List.not_mem_nil,or_false] at h
 rcases h with rfl | rfl<;>simp
set_option maxHeartbeats 4000000 in
set_option maxRecDepth 100000 in
theorem rwrite_no (a0:Addr) (gg:Sp.G) (e:Int) {T:Nat→Prop} {r qb:Nat} {m:Dk.M} (w:World) (hd:RfAt w T r qb m) (hc:Sp.ck gg=15) :
  Calls Tryz.prog 34 #[.pointer (some ⟨r,0,none⟩),.pointer (some a0),.int .i64 e,GV gg] w (RwSay Rg.z32 15 T r qb m [] (fun z=>Below w.heap.size w z) w):=by
 obtain ⟨S0,hS0⟩:∃ S0,Hid (sA Rg.z32=S0):=⟨_,rfl⟩
 have HSS:Hid (S0.size=32):=by show _=_;rw [← hS0.out];exact sa_size z32_len
 have HS1:Hid (S0.all (·.oneCell')=true):=by show _=_;rw [← hS0.out];exact sa_one _
 have hzs:=(zero_of_info Tryz.zeroSumS).1
 have HBS:=Lib.hid Tryz.builtSumS
 rw [hS0.out] at hzs HBS
 have hzsn:¬ S0 = #[]:=fun h=>by have:=HSS.out;rw [h] at this;simp at this
 have hszs:=row_size Tryz.sizeSum HSS
 have HSV:Hid (A32 Rg.z32 = .agg S0):=by show _=_;rw [← hS0.out,a32_is]
 clear hS0
 obtain ⟨A,eA,hk⟩:=gk gg
 have HAS:=Lib.hid hk.size
 have h1:=hk.one
 have HD:=Lib.hid hd
 have HLT:Hid (r<w.heap.size∧qb<w.heap.size):=⟨hd.top _ hd.lt.1,hd.top _ hd.lt.2⟩
 have HNT:Hid (∀ k,w.heap.size≤k→¬ T k):=fun k hk h=>by have:=hd.top k h;omega
 obtain ⟨w0,hw0⟩:∃ x,x=(w.alloc (.cells A 67)).alloc (.cells S0 39):=⟨_,rfl⟩
 have R0:Hid (w0.heap[w.heap.size]?=some (.cells A 67 (0,0))):=by rw [hw0];exact heap_alloc2_old w _ _
 have Z0:Hid (w0.heap[w.heap.size+1]?=some (.cells S0 39 (0,0))):=by rw [hw0];exact heap_alloc2_new w _ _
 have B0:Hid (Below w.heap.size w w0):=by rw [hw0];exact ((Below.refl _ w).alloc (Nat.le_refl _) _).alloc (by simp) _
 have HBW:Hid (∀ y,Below w0.heap.size w0 y→Below w.heap.size w y):=fun y hy=>B0.out.trans (hy.mono B0.out.size)
 have HZ:Hid (∀ y,Below w0.heap.size w0 y→y.heap[w.heap.size+1]?=some (.cells S0 39 (0,0))):=fun y hy=>(hy.block _ (lt_of_block Z0.out)).trans Z0.out
 have HZL:Hid (w.heap.size+1<w0.heap.size):=lt_of_block Z0.out
 have HP:Hid (∀ y,Calls Tryz.prog 78 #[.agg A] y (SPutNo y)):=fun y=>by rw [← eA];exact fsput_no gg hc y
 rw [eA]
 clear hd hk eA hc
 go_enter Tryz.func34,Tryz.ntmps34
 go_upto_region 1 with (fail)
 change Code.wp _ _ _ _ ((w.alloc (.cells A 67)).alloc (.cells S0 39))
 rw [← hw0]
 clear hw0
 go_wp2_with (first
  | ((with_reducible refine row_load _ _ _ _ _ _ _ ?_ R0.out Tryz.underlying67 ?_ (row_size Tryz.sizeGeo HAS) ?_);(exact rfl);(exact rfl))
  | (go_at_call 78;refine (HP.out _).mono ?_;rintro e1 w1 ⟨rfl,HB1⟩)
  | ((with_reducible refine row_build0 _ _ HBS.out ?_))
  | ((with_reducible refine row_store _ _ _ _ _ _ _ ?_ ?_ (HZ.out _ HB1.out) (row_size Tryz.sizeSum HSS) ?_ HS1.out ?_);(exact rfl);(exact rfl);(exact rfl);intro w9 G9 ch9))
 refine bodyPost_ret (results_cell_tmp rfl _ _ (w.heap.size+1) 39 S0 (0,0) _ rfl G9 Tryz.underlying39 rfl (row_size Tryz.sizeSum HSS)) rfl ?_
 have HB9:Below w.heap.size w w9:=ch9.below (HBW.out _ HB1.out) (by omega)
 refine ⟨by rw [HSV.out];rfl,Lib.hid ((HD.out.old HB9).own _),Lib.hid (Mv.of_below HB9),HB9⟩
set_option maxHeartbeats 4000000 in
set_option maxRecDepth 100000 in
theorem rwrite_er (a0:Addr) (gg:Sp.G) (e:Int) {T:Nat→Prop} {r qb:Nat} {m:Dk.M} (w:World) (hd:RfAt w T r qb m) (X:Int × List Int) (ks:List Nat) (P1:World→Prop) (hks:∀ k∈ks,¬ T k∧k<w.heap.size) (hc:Sp.ck gg=0)
  (hput:∀ y p c,Below w.heap.size w y→Bs y p c (Sp.pt gg)→Calls Tryz.prog 79 #[.pointer (some a0),SV 1 e 0 0 p 24 c] y (LPut X y (fun z=>P1 z∧Mv ks y z)))
  (hst:∀ y z k,P1 y→Only k y z→w.heap.size≤k→P1 z) (hx:X.1 ≠ 0) :
  Calls Tryz.prog 34 #[.pointer (some ⟨r,0,none⟩),.pointer (some a0),.int .i64 e,GV gg] w (RwSay Rg.z32 X.1 T r qb m ks P1 w):=by
 obtain ⟨S0,hS0⟩:∃ S0,Hid (sA Rg.z32=S0):=⟨_,rfl⟩
 have HSS:Hid (S0.size=32):=by show _=_;rw [← hS0.out];exact sa_size z32_len
 have HS1:Hid (S0.all (·.oneCell')=true):=by show _=_;rw [← hS0.out];exact sa_one _
 have hzs:=(zero_of_info Tryz.zeroSumS).1
 have HBS:=Lib.hid Tryz.builtSumS
 rw [hS0.out] at hzs HBS
 have hzsn:¬ S0 = #[]:=fun h=>by have:=HSS.out;rw [h] at this;simp at this
 have hszs:=row_size Tryz.sizeSum HSS
 have HSV:Hid (A32 Rg.z32 = .agg S0):=by show _=_;rw [← hS0.out,a32_is]
 clear hS0
 obtain ⟨A,eA,hk⟩:=gk gg
 have HAS:=Lib.hid hk.size
 have h1:=hk.one
 have HD:=Lib.hid hd
 have HLT:Hid (r<w.heap.size∧qb<w.heap.size):=⟨hd.top _ hd.lt.1,hd.top _ hd.lt.2⟩
 have HNT:Hid (∀ k,w.heap.size≤k→¬ T k):=fun k hk h=>by have:=hd.top k h;omega
 obtain ⟨w0,hw0⟩:∃ x,x=(w.alloc (.cells A 67)).alloc (.cells S0 39):=⟨_,rfl⟩
 have R0:Hid (w0.heap[w.heap.size]?=some (.cells A 67 (0,0))):=by rw [hw0];exact heap_alloc2_old w _ _
 have Z0:Hid (w0.heap[w.heap.size+1]?=some (.cells S0 39 (0,0))):=by rw [hw0];exact heap_alloc2_new w _ _
 have B0:Hid (Below w.heap.size w w0):=by rw [hw0];exact ((Below.refl _ w).alloc (Nat.le_refl _) _).alloc (by simp) _
 have HBW:Hid (∀ y,Below w0.heap.size w0 y→Below w.heap.size w y):=fun y hy=>B0.out.trans (hy.mono B0.out.size)
 have HZ:Hid (∀ y,Below w0.heap.size w0 y→y.heap[w.heap.size+1]?=some (.cells S0 39 (0,0))):=fun y hy=>(hy.block _ (lt_of_block Z0.out)).trans Z0.out
 have HZL:Hid (w.heap.size+1<w0.heap.size):=lt_of_block Z0.out
 have HP:Hid (∀ y,Calls Tryz.prog 78 #[.agg A] y (SPutYes (Sp.pt gg) y)):=fun y=>by rw [← eA];exact fsput_yes gg hc y
 have HPUT:=Lib.hid hput
 have HST:=Lib.hid hst
 have HKS:=Lib.hid hks
 rw [eA]
 clear hput hst hd hk eA hc hks
 obtain ⟨x1,L⟩:=X
 dsimp only at hx HPUT ⊢
 have hb0:(x1==0)=false:=by simpa using hx
 have hb1:(x1 != 0)=true:=by simpa using hx
 clear hx
 go_enter Tryz.func34,Tryz.ntmps34
 go_upto_region 1 with (fail)
 change Code.wp _ _ _ _ ((w.alloc (.cells A 67)).alloc (.cells S0 39))
 rw [← hw0]
 clear hw0
 go_upto_region 4 with (first
  | ((with_reducible refine row_load _ _ _ _ _ _ _ ?_ R0.out Tryz.underlying67 ?_ (row_size Tryz.sizeGeo HAS) ?_);(exact rfl);(exact rfl))
  | (go_at_call 78;refine (HP.out _).mono ?_;rintro e1 w1 ⟨p1,c1,rfl,HO1,HS1',HB1⟩))
 go_upto_region 5 with (go_at_call 79;refine (HPUT.out _ _ _ (HBW.out _ HB1.out) HS1'.out).mono ?_;rintro e3 w3 ⟨u3,m3,d3,rfl,hm3,HO3,HS3,hP3,hM3⟩)
 have HP3:=Lib.hid hP3
 have HM3:=Lib.hid hM3
 have HN3:=Lib.hid hm3
 have HK3:Hid (Kp w.heap.size w1 w3):=Kp.of_mv HM3.out (fun k hk=>(HKS.out k hk).2)
 have HD3:Hid (RfAt w3 T r qb m):=(HD.out.old (HBW.out _ HB1.out)).mv HM3.out (fun k hk=>(HKS.out k hk).1)
 have HW3:Hid (w.heap.size≤w1.heap.size∧w1.heap.size≤w3.heap.size):=⟨(HBW.out _ HB1.out).size,HM3.out.size⟩
 have Z3:Hid (w3.heap[w.heap.size+1]?=some (.cells S0 39 (0,0))):=(HK3.out.block _ (by omega) (by have:=HZL.out;have:=HB1.out.size;omega)).trans (HZ.out _ HB1.out)
 have HMW:Hid (Mv (r :: qb :: ks) w w3):=(Mv.of_below (HBW.out _ HB1.out)).trans (HM3.out.more ks3)
 clear hP3 hM3 hm3 HZ HO1 HS1' HP HPUT R0 Z0
 go_wp2_with (first
  | ((with_reducible refine row_build0 _ _ HBS.out ?_))
  | ((with_reducible refine row_store _ _ _ _ _ _ _ ?_ ?_ Z3.out (row_size Tryz.sizeSum HSS) ?_ HS1.out ?_);(exact rfl);(exact rfl);(exact rfl);intro w9 G9 ch9))
 refine bodyPost_ret (results_cell_tmp rfl _ _ (w.heap.size+1) 39 S0 (0,0) _ rfl G9 Tryz.underlying39 rfl (row_size Tryz.sizeSum HSS)) rfl ?_
 refine ⟨by rw [HSV.out];rfl,?_,mv_chg HMW.out ch9 (by omega),HST.out _ _ _ HP3.out ch9.only (by omega)⟩
 exact Lib.hid <| RfAt.own (HD3.out.only ch9.only (HNT.out _ (by omega))) _
set_option maxHeartbeats 4000000 in
set_option maxRecDepth 100000 in
theorem rwrite_dk (a0:Addr) (gg:Sp.G) (e:Int) {T:Nat→Prop} {r qb:Nat} {m:Dk.M} (w:World) (hd:RfAt w T r qb m) (X:Int × List Int) (ks:List Nat) (P1:World→Prop) (hks:∀ k∈ks,¬ T k∧k<w.heap.size) (hX:X.2.length≤1000000) (hwr:m.wr≤1000000000) (hc:Sp.ck gg=0)
  (hput:∀ y p c,Below w.heap.size w y→Bs y p c (Sp.pt gg)→Calls Tryz.prog 79 #[.pointer (some a0),SV 1 e 0 0 p 24 c] y (LPut X y (fun z=>P1 z∧Mv ks y z)))
  (hst:∀ y z k,P1 y→Only k y z→w.heap.size≤k→P1 z) (hmv:∀ y z,P1 y→Mv [r,qb] y z→P1 z) (hx:X.1=0) (hw:Dk.wrE m 0 X.2 ≠ 0) :
  Calls Tryz.prog 34 #[.pointer (some ⟨r,0,none⟩),.pointer (some a0),.int .i64 e,GV gg] w (RwSay Rg.z32 (Dk.wrE m 0 X.2) T r qb (Dk.wrM m 0 X.2) ks P1 w):=by
 obtain ⟨S0,hS0⟩:∃ S0,Hid (sA Rg.z32=S0):=⟨_,rfl⟩
 have HSS:Hid (S0.size=32):=by show _=_;rw [← hS0.out];exact sa_size z32_len
 have HS1:Hid (S0.all (·.oneCell')=true):=by show _=_;rw [← hS0.out];exact sa_one _
 have hzs:=(zero_of_info Tryz.zeroSumS).1
 have HBS:=Lib.hid Tryz.builtSumS
 rw [hS0.out] at hzs HBS
 have hzsn:¬ S0 = #[]:=fun h=>by have:=HSS.out;rw [h] at this;simp at this
 have hszs:=row_size Tryz.sizeSum HSS
 have HSV:Hid (A32 Rg.z32 = .agg S0):=by show _=_;rw [← hS0.out,a32_is]
 clear hS0
 obtain ⟨A,eA,hk⟩:=gk gg
 have HAS:=Lib.hid hk.size
 have h1:=hk.one
 have HD:=Lib.hid hd
 have HLT:Hid (r<w.heap.size∧qb<w.heap.size):=⟨hd.top _ hd.lt.1,hd.top _ hd.lt.2⟩
 have HNT:Hid (∀ k,w.heap.size≤k→¬ T k):=fun k hk h=>by have:=hd.top k h;omega
 obtain ⟨w0,hw0⟩:∃ x,x=(w.alloc (.cells A 67)).alloc (.cells S0 39):=⟨_,rfl⟩
 have R0:Hid (w0.heap[w.heap.size]?=some (.cells A 67 (0,0))):=by rw [hw0];exact heap_alloc2_old w _ _
 have Z0:Hid (w0.heap[w.heap.size+1]?=some (.cells S0 39 (0,0))):=by rw [hw0];exact heap_alloc2_new w _ _
 have B0:Hid (Below w.heap.size w w0):=by rw [hw0];exact ((Below.refl _ w).alloc (Nat.le_refl _) _).alloc (by simp) _
 have HBW:Hid (∀ y,Below w0.heap.size w0 y→Below w.heap.size w y):=fun y hy=>B0.out.trans (hy.mono B0.out.size)
 have HZ:Hid (∀ y,Below w0.heap.size w0 y→y.heap[w.heap.size+1]?=some (.cells S0 39 (0,0))):=fun y hy=>(hy.block _ (lt_of_block Z0.out)).trans Z0.out
 have HZL:Hid (w.heap.size+1<w0.heap.size):=lt_of_block Z0.out
 have HP:Hid (∀ y,Calls Tryz.prog 78 #[.agg A] y (SPutYes (Sp.pt gg) y)):=fun y=>by rw [← eA];exact fsput_yes gg hc y
 have HPUT:=Lib.hid hput
 have HST:=Lib.hid hst
 have HKS:=Lib.hid hks
 rw [eA]
 have HMV:=Lib.hid hmv
 clear hmv hput hst hd hk eA hc hks
 obtain ⟨x1,L⟩:=X
 dsimp only at hX hx hw HPUT ⊢
 subst hx
 have HW:Hid (∀ z p n c,L.length=n→RfAt z T r qb m→Bs z p c L→Calls Tryz.prog 80 #[.pointer (some ⟨r,0,none⟩),.int .i64 0,.slice p n c] z (RfSayD T r qb (.int .i64 (Dk.wrE m 0 L)) (Dk.wrM m 0 L) z)):=fun z p n c hn hz hb=>by obtain ⟨vl,vc,G,hz⟩:=hz;exact refwrite_c 0 L p n c hn (by omega) hwr z hz hb
 generalize Dk.wrE m 0 L=E at *
 generalize Dk.wrM m 0 L=M' at *
 have hb0:(E==0)=false:=by simpa using hw
 have hb1:(E != 0)=true:=by simpa using hw
 clear hX hwr hw
 go_enter Tryz.func34,Tryz.ntmps34
 go_upto_region 1 with (fail)
 change Code.wp _ _ _ _ ((w.alloc (.cells A 67)).alloc (.cells S0 39))
 rw [← hw0]
 clear hw0
 go_upto_region 4 with (first
  | ((with_reducible refine row_load _ _ _ _ _ _ _ ?_ R0.out Tryz.underlying67 ?_ (row_size Tryz.sizeGeo HAS) ?_);(exact rfl);(exact rfl))
  | (go_at_call 78;refine (HP.out _).mono ?_;rintro e1 w1 ⟨p1,c1,rfl,HO1,HS1',HB1⟩))
 go_upto_region 5 with (go_at_call 79;refine (HPUT.out _ _ _ (HBW.out _ HB1.out) HS1'.out).mono ?_;rintro e3 w3 ⟨u3,m3,d3,rfl,hm3,HO3,HS3,hP3,hM3⟩)
 have HP3:=Lib.hid hP3
 have HM3:=Lib.hid hM3
 have HN3:=Lib.hid hm3
 have HK3:Hid (Kp w.heap.size w1 w3):=Kp.of_mv HM3.out (fun k hk=>(HKS.out k hk).2)
 have HD3:Hid (RfAt w3 T r qb m):=(HD.out.old (HBW.out _ HB1.out)).mv HM3.out (fun k hk=>(HKS.out k hk).1)
 have HW3:Hid (w.heap.size≤w1.heap.size∧w1.heap.size≤w3.heap.size):=⟨(HBW.out _ HB1.out).size,HM3.out.size⟩
 have Z3:Hid (w3.heap[w.heap.size+1]?=some (.cells S0 39 (0,0))):=(HK3.out.block _ (by omega) (by have:=HZL.out;have:=HB1.out.size;omega)).trans (HZ.out _ HB1.out)
 have HMW:Hid (Mv (r :: qb :: ks) w w3):=(Mv.of_below (HBW.out _ HB1.out)).trans (HM3.out.more ks3)
 clear hP3 hM3 hm3 HZ HO1 HS1' HP HPUT R0 Z0
 go_upto_region 8 with (go_at_call 80;refine (HW.out _ _ _ _ HN3.out HD3.out HS3.out).mono ?_;rintro e4 w4 ⟨rfl,HD4,HM4⟩)
 have HK4:Hid (Kp w.heap.size w3 w4):=Kp.of_mv HM4.out (fun k hk=>by
  have:=HLT.out
  simp only [List.mem_cons,List.not_mem_nil,or_false] at hk
  rcases hk with rfl | rfl<;>omega)
 have Z4:Hid (w4.heap[w.heap.size+1]?=some (.cells S0 39 (0,0))):=(HK4.out.block _ (by omega) (lt_of_block Z3.out)).trans Z3.out
 have HMX:Hid (Mv (r :: qb :: ks) w w4):=HMW.out.trans (HM4.out.more ks2)
 have HP4:Hid (P1 w4):=HMV.out _ _ HP3.out HM4.out
 have HW4:Hid (w3.heap.size≤w4.heap.size):=HM4.out.size
 have HNO:Hid (∀ k,k<w3.heap.size→¬ T k→¬ Own T w3 w4 k):=fun k h1 h2 h=>by
  rcases h with h | h
  ·exact h2 h
  ·omega
 have HUP:Hid (∀ y m',w4.heap.size≤y.heap.size→RfAt y (Own T w3 w4) r qb m'→RfAt y (Own T w y) r qb m'):=fun y m' hy hd=>hd.lift (fun g hg=>by
  rcases hg with h | h
  ·exact Or.inl h
  ·have:=HW3.out;exact Or.inr ⟨by omega,by omega⟩) (fun g hg=>by
  rcases hg with h | h
  ·exact hd.top g (Or.inl h)
  ·exact h.2)
 go_wp2_with (first
  | ((with_reducible refine row_build0 _ _ HBS.out ?_))
  | ((with_reducible refine row_store _ _ _ _ _ _ _ ?_ ?_ Z4.out (row_size Tryz.sizeSum HSS) ?_ HS1.out ?_);(exact rfl);(exact rfl);(exact rfl);intro w9 G9 ch9))
 refine bodyPost_ret (results_cell_tmp rfl _ _ (w.heap.size+1) 39 S0 (0,0) _ rfl G9 Tryz.underlying39 rfl (row_size Tryz.sizeSum HSS)) rfl ?_
 refine ⟨by rw [HSV.out];rfl,?_,mv_chg HMX.out ch9 (by omega),HST.out _ _ _ HP4.out ch9.only (by omega)⟩
 exact HUP.out _ _ (Nat.le_of_eq ch9.size.symm) (HD4.out.only ch9.only (HNO.out _ (lt_of_block Z3.out) (HNT.out _ (by omega))))
set_option maxHeartbeats 4000000 in
set_option maxRecDepth 100000 in
theorem rwrite_ok (a0:Addr) (gg:Sp.G) (e:Int) {T:Nat→Prop} {r qb:Nat} {m:Dk.M} (w:World) (hd:RfAt w T r qb m) (X:Int × List Int) (ks:List Nat) (P1:World→Prop) (hks:∀ k∈ks,¬ T k∧k<w.heap.size) (hX:X.2.length≤1000000) (hwr:m.wr≤1000000000) (hc:Sp.ck gg=0)
  (hput:∀ y p c,Below w.heap.size w y→Bs y p c (Sp.pt gg)→Calls Tryz.prog 79 #[.pointer (some a0),SV 1 e 0 0 p 24 c] y (LPut X y (fun z=>P1 z∧Mv ks y z)))
  (hst:∀ y z k,P1 y→Only k y z→w.heap.size≤k→P1 z) (hmv:∀ y z,P1 y→Mv [r,qb] y z→P1 z) (SM:List Int) (P2:World→Prop) (hsl:SM.length=32)
  (hsum:∀ z p n c,P1 z→X.2.length=n→Bs z p c X.2→Calls Tryz.prog 81 #[.pointer (some a0),.slice p n c] z (fun r z'=>r = .returned (A32 SM)∧P2 z'∧Mv ks z z'))
  (hst2:∀ y z k,P2 y→Only k y z→w.heap.size≤k→P2 z) (hx:X.1=0) (hw:Dk.wrE m 0 X.2=0) :
  Calls Tryz.prog 34 #[.pointer (some ⟨r,0,none⟩),.pointer (some a0),.int .i64 e,GV gg] w (RwSay SM 0 T r qb (Dk.wrM m 0 X.2) ks P2 w):=by
 obtain ⟨S0,hS0⟩:∃ S0,Hid (sA Rg.z32=S0):=⟨_,rfl⟩
 have HSS:Hid (S0.size=32):=by show _=_;rw [← hS0.out];exact sa_size z32_len
 have HS1:Hid (S0.all (·.oneCell')=true):=by show _=_;rw [← hS0.out];exact sa_one _
 have hzs:=(zero_of_info Tryz.zeroSumS).1
 have HBS:=Lib.hid Tryz.builtSumS
 rw [hS0.out] at hzs HBS
 have hzsn:¬ S0 = #[]:=fun h=>by have:=HSS.out;rw [h] at this;simp at this
 have hszs:=row_size Tryz.sizeSum HSS
 have HSV:Hid (A32 Rg.z32 = .agg S0):=by show _=_;rw [← hS0.out,a32_is]
 clear hS0
 obtain ⟨A,eA,hk⟩:=gk gg
 have HAS:=Lib.hid hk.size
 have h1:=hk.one
 have HD:=Lib.hid hd
 have HLT:Hid (r<w.heap.size∧qb<w.heap.size):=⟨hd.top _ hd.lt.1,hd.top _ hd.lt.2⟩
 have HNT:Hid (∀ k,w.heap.size≤k→¬ T k):=fun k hk h=>by have:=hd.top k h;omega
 obtain ⟨w0,hw0⟩:∃ x,x=(w.alloc (.cells A 67)).alloc (.cells S0 39):=⟨_,rfl⟩
 have R0:Hid (w0.heap[w.heap.size]?=some (.cells A 67 (0,0))):=by rw [hw0];exact heap_alloc2_old w _ _
 have Z0:Hid (w0.heap[w.heap.size+1]?=some (.cells S0 39 (0,0))):=by rw [hw0];exact heap_alloc2_new w _ _
 have B0:Hid (Below w.heap.size w w0):=by rw [hw0];exact ((Below.refl _ w).alloc (Nat.le_refl _) _).alloc (by simp) _
 have HBW:Hid (∀ y,Below w0.heap.size w0 y→Below w.heap.size w y):=fun y hy=>B0.out.trans (hy.mono B0.out.size)
 have HZ:Hid (∀ y,Below w0.heap.size w0 y→y.heap[w.heap.size+1]?=some (.cells S0 39 (0,0))):=fun y hy=>(hy.block _ (lt_of_block Z0.out)).trans Z0.out
 have HZL:Hid (w.heap.size+1<w0.heap.size):=lt_of_block Z0.out
 have HP:Hid (∀ y,Calls Tryz.prog 78 #[.agg A] y (SPutYes (Sp.pt gg) y)):=fun y=>by rw [← eA];exact fsput_yes gg hc y
 have HPUT:=Lib.hid hput
 have HST:=Lib.hid hst
 have HKS:=Lib.hid hks
 rw [eA]
 have HMV:=Lib.hid hmv
 have HSUM:=Lib.hid hsum
 have HST2:=Lib.hid hst2
 have HQS:=Lib.hid (sa_size hsl)
 have HQ1:=Lib.hid (sa_one SM)
 have HQV:=Lib.hid (a32_is SM)
 clear hsl hsum hst2 hmv hput hst hd hk eA hc hks
 obtain ⟨x1,L⟩:=X
 dsimp only at hX hx hw HSUM HPUT ⊢
 subst hx
 have HW:Hid (∀ z p n c,L.length=n→RfAt z T r qb m→Bs z p c L→Calls Tryz.prog 80 #[.pointer (some ⟨r,0,none⟩),.int .i64 0,.slice p n c] z (RfSayD T r qb (.int .i64 (Dk.wrE m 0 L)) (Dk.wrM m 0 L) z)):=fun z p n c hn hz hb=>by obtain ⟨vl,vc,G,hz⟩:=hz;exact refwrite_c 0 L p n c hn (by omega) hwr z hz hb
 rw [hw] at HW
 rw [HQV.out] at HSUM
 generalize Dk.wrM m 0 L=M' at *
 generalize hQ:sA SM=Q at *
 clear hX hwr hw
 go_enter Tryz.func34,Tryz.ntmps34
 go_upto_region 1 with (fail)
 change Code.wp _ _ _ _ ((w.alloc (.cells A 67)).alloc (.cells S0 39))
 rw [← hw0]
 clear hw0
 go_upto_region 4 with (first
  | ((with_reducible refine row_load _ _ _ _ _ _ _ ?_ R0.out Tryz.underlying67 ?_ (row_size Tryz.sizeGeo HAS) ?_);(exact rfl);(exact rfl))
  | (go_at_call 78;refine (HP.out _).mono ?_;rintro e1 w1 ⟨p1,c1,rfl,HO1,HS1',HB1⟩))
 go_upto_region 5 with (go_at_call 79;refine (HPUT.out _ _ _ (HBW.out _ HB1.out) HS1'.out).mono ?_;rintro e3 w3 ⟨u3,m3,d3,rfl,hm3,HO3,HS3,hP3,hM3⟩)
 have HP3:=Lib.hid hP3
 have HM3:=Lib.hid hM3
 have HN3:=Lib.hid hm3
 have HK3:Hid (Kp w.heap.size w1 w3):=Kp.of_mv HM3.out (fun k hk=>(HKS.out k hk).2)
 have HD3:Hid (RfAt w3 T r qb m):=(HD.out.old (HBW.out _ HB1.out)).mv HM3.out (fun k hk=>(HKS.out k hk).1)
 have HW3:Hid (w.heap.size≤w1.heap.size∧w1.heap.size≤w3.heap.size):=⟨(HBW.out _ HB1.out).size,HM3.out.size⟩
 have Z3:Hid (w3.heap[w.heap.size+1]?=some (.cells S0 39 (0,0))):=(HK3.out.block _ (by omega) (by have:=HZL.out;have:=HB1.out.size;omega)).trans (HZ.out _ HB1.out)
 have HMW:Hid (Mv (r :: qb :: ks) w w3):=(Mv.of_below (HBW.out _ HB1.out)).trans (HM3.out.more ks3)
 clear hP3 hM3 hm3 HZ HO1 HS1' HP HPUT R0 Z0
 go_upto_region 8 with (go_at_call 80;refine (HW.out _ _ _ _ HN3.out HD3.out HS3.out).mono ?_;rintro e4 w4 ⟨rfl,HD4,HM4⟩)
 have HK4:Hid (Kp w.heap.size w3 w4):=Kp.of_mv HM4.out (fun k hk=>by
  have:=HLT.out
  simp only [List.mem_cons,List.not_mem_nil,or_false] at hk
  rcases hk with rfl | rfl<;>omega)
 have Z4:Hid (w4.heap[w.heap.size+1]?=some (.cells S0 39 (0,0))):=(HK4.out.block _ (by omega) (lt_of_block Z3.out)).trans Z3.out
 have HMX:Hid (Mv (r :: qb :: ks) w w4):=HMW.out.trans (HM4.out.more ks2)
 have HP4:Hid (P1 w4):=HMV.out _ _ HP3.out HM4.out
 have HW4:Hid (w3.heap.size≤w4.heap.size):=HM4.out.size
 have HNO:Hid (∀ k,k<w3.heap.size→¬ T k→¬ Own T w3 w4 k):=fun k h1 h2 h=>by
  rcases h with h | h
  ·exact h2 h
  ·omega
 have HUP:Hid (∀ y m',w4.heap.size≤y.heap.size→RfAt y (Own T w3 w4) r qb m'→RfAt y (Own T w y) r qb m'):=fun y m' hy hd=>hd.lift (fun g hg=>by
  rcases hg with h | h
  ·exact Or.inl h
  ·have:=HW3.out;exact Or.inr ⟨by omega,by omega⟩) (fun g hg=>by
  rcases hg with h | h
  ·exact hd.top g (Or.inl h)
  ·exact h.2)
 have HS4:Hid (Bs w4 u3 d3 L):=by
  obtain ⟨p5,c5,hv,hb,_⟩:=own_bs (own_kp HO3.out HK4.out HW3.out.1) HS3.out.bat.1
  injection hv with q1 q2 q3
  subst q1
  subst q3
  exact hb
 clear HS3 HO3
 go_wp2_with (first
  | (go_at_call 81;refine (HSUM.out _ _ _ _ HP4.out HN3.out HS4.out).mono ?_;rintro e5 w5 ⟨rfl,hP5,hM5⟩;have HP5:=Lib.hid hP5;have HM5:=Lib.hid hM5;have Z5:Hid (w5.heap[w.heap.size+1]?=some (.cells S0 39 (0,0))):=(HM5.out.block _ (lt_of_block Z4.out) (fun h=>by have:=(HKS.out _ h).2;omega)).trans Z4.out)
  | ((with_reducible refine row_store _ _ _ _ _ _ _ ?_ ?_ Z5.out (row_size Tryz.sizeSum HQS) ?_ HQ1.out ?_);(exact rfl);(exact rfl);(rw [HQS.out,HSS.out]);intro w9 G9 ch9))
 refine bodyPost_ret (results_cell_tmp rfl _ _ (w.heap.size+1) 39 Q (0,0) _ rfl G9 Tryz.underlying39 rfl (row_size Tryz.sizeSum HQS)) rfl ?_
 refine ⟨by rw [HQV.out];rfl,?_,mv_chg (HMX.out.trans (HM5.out.more ks3)) ch9 (by omega),HST2.out _ _ _ HP5.out ch9.only (by omega)⟩
 have HD5:=HD4.out.mv HM5.out (fun k hk=>HNO.out k (by have:=(HKS.out k hk).2;have:=HW3.out;omega) (HKS.out k hk).1)
 exact HUP.out _ _ (Nat.le_trans HM5.out.size (Nat.le_of_eq ch9.size.symm)) (HD5.only ch9.only (HNO.out _ (lt_of_block Z3.out) (HNT.out _ (by omega))))
end
end Go.Proofs.YtnnalemboeccbaaGreatDoor

/-
  DkX1, DkX2, DkX3 (merged)
-/
import Derived.Test.YtnnalemboeccbaaGreatDoorDk3
namespace Go.Proofs.YtnnalemboeccbaaGreatDoor

/-! DkX1:  -/
section
open Go.RowKit
namespace Dk
abbrev S:=Nat × List Int
def lst (F:Nat→Option (List Int)):Nat→List S
 | 0=>[]
 | n+1=>lst F n++(match F n with | some L=>[(n,L)] | none=>[])
theorem lst_none {F:Nat→Option (List Int)} {n:Nat} (h:F n=none):lst F (n+1)=lst F n:=by rw [lst,h];simp
theorem lst_some {F:Nat→Option (List Int)} {n:Nat} {L:List Int} (h:F n=some L):lst F (n+1)=lst F n++[(n,L)]:=by rw [lst,h]
theorem lst_congr {F G:Nat→Option (List Int)}:∀ (n:Nat),(∀ i,i<n→F i=G i)→lst F n=lst G n
 | 0,_=>rfl
 | n+1,h=>by rw [lst,lst,lst_congr n (fun i hi=>h i (by omega)),h n (by omega)]
theorem lst_nil (n:Nat):lst (fun _=>none) n = []:=by
 induction n with
 | zero=>rfl
 | succ n ih=>rw [lst_none rfl,ih]
theorem lst_lt {F:Nat→Option (List Int)}:∀ (n:Nat) (x:S),x∈lst F n→x.1<n∧F x.1=some x.2
 | 0,x,h=>by cases h
 | n+1,x,h=>by
  cases e:F n with
  | none=>rw [lst_none e] at h;have:=lst_lt n x h;exact ⟨by omega,this.2⟩
  | some L =>
   rw [lst_some e] at h
   rcases List.mem_append.1 h with h | h
   ·have:=lst_lt n x h;exact ⟨by omega,this.2⟩
   ·obtain rfl:=List.mem_singleton.1 h
    exact ⟨by show n<_;omega,e⟩
theorem lst_len (F:Nat→Option (List Int)):∀ n,(lst F n).length≤n
 | 0=>Nat.le_refl _
 | n+1=>by
  have:=lst_len F n
  rw [lst,List.length_append]
  cases F n<;>simp<;>omega
def del (l:List S) (i:Nat):List S:=l.filter fun x=>decide (x.1 ≠ i)
theorem del_lst (F:Nat→Option (List Int)) (i:Nat):∀ n,del (lst F n) i=lst (upd F i none) n
 | 0=>rfl
 | n+1=>by
  have ih:=del_lst F i n
  by_cases h:n=i
  ·subst h
   rw [lst_none (upd_same _ _ _),← ih]
   cases e:F n with
   | none=>rw [lst_none e]
   | some L=>rw [lst_some e];unfold del;rw [List.filter_append];simp
  ·cases e:F n with
   | none=>rw [lst_none e,lst_none (by rw [upd_other _ _ h,e]),ih]
   | some L =>
    rw [lst_some e,lst_some (L:=L) (by rw [upd_other _ _ h,e]),← ih]
    unfold del
    rw [List.filter_append]
    simp [h]
def stp (s:S) (r:List S × Bool) (x:S):List S × Bool:=if r.2=false∧s.1<x.1 then (r.1++[s]++[x],true) else (r.1++[x],r.2)
def ins (l:List S) (s:S):List S:=let r:=(del l s.1).foldl (stp s) ([],false);if r.2 then r.1 else r.1++[s]
theorem fold_lst (F:Nat→Option (List Int)) (i:Nat) (L:List Int):∀ n,∃ r,(lst (upd F i none) n).foldl (stp (i,L)) ([],false)=r∧(n≤i→r.2=false)∧(r.2=true→r.1=lst (upd F i (some L)) n)∧(r.2=false→r.1=lst (upd F i none) n∧(i<n→lst (upd F i (some L)) n=r.1++[(i,L)]))
 | 0=>⟨([],false),rfl,fun _=>rfl,(fun h=>by cases h),fun _=>⟨rfl,fun h=>by omega⟩⟩
 | n+1=>by
  obtain ⟨r,h0,h1,h2,h3⟩:=fold_lst F i L n
  by_cases h:n=i
  ·subst h
   rw [lst_none (upd_same _ _ _)]
   refine ⟨r,h0,fun h=>by omega,fun e=>?_,fun e=>⟨(h3 e).1,fun _=>?_⟩⟩
   ·rw [h1 (Nat.le_refl _)] at e;cases e
   ·rw [lst_some (upd_same _ _ _),(h3 e).1]
    congr 1
    exact lst_congr n (fun j hj=>by rw [upd_other _ _ (by omega),upd_other _ _ (by omega)])
  ·cases e:F n with
   | none =>
    rw [lst_none (by rw [upd_other _ _ h,e]),lst_none (by rw [upd_other _ _ h,e])]
    refine ⟨r,h0,fun h=>h1 (by omega),h2,fun q=>⟨(h3 q).1,fun hi=>(h3 q).2 (by omega)⟩⟩
   | some M =>
    rw [lst_some (L:=M) (by rw [upd_other _ _ h,e]),lst_some (L:=M) (by rw [upd_other _ _ h,e]),List.foldl_append,h0]
    show ∃ q,stp (i,L) r (n,M)=q∧_
    refine ⟨_,rfl,?_⟩
    unfold stp
    by_cases hc:r.2=false∧i<n
    ·rw [if_pos (show r.2=false∧(i,L).1<(n,M).1 from hc)]
     refine ⟨fun h=>by omega,fun _=>?_,fun q=>by cases q⟩
     show r.1++[(i,L)]++[(n,M)]=_
     rw [(h3 hc.1).2 hc.2]
    ·rw [if_neg (show ¬ (r.2=false∧(i,L).1<(n,M).1) from hc)]
     refine ⟨fun h=>h1 (by omega),fun q=>?_,fun q=>⟨?_,fun hi=>?_⟩⟩
     ·show r.1++[(n,M)]=_
      rw [h2 q]
     ·show r.1++[(n,M)]=_
      rw [(h3 q).1]
     ·exact absurd ⟨q,by omega⟩ hc
theorem ins_lst (F:Nat→Option (List Int)) (i:Nat) (L:List Int) (n:Nat) (hi:i<n):ins (lst F n) (i,L)=lst (upd F i (some L)) n:=by
 unfold ins
 show (let r:=(del (lst F n) i).foldl (stp (i,L)) ([],false);if r.2 then r.1 else r.1++[(i,L)])=_
 rw [del_lst]
 obtain ⟨r,h0,_,h2,h3⟩:=fold_lst F i L n
 rw [h0]
 show (if r.2 then r.1 else r.1++[(i,L)])=_
 cases e:r.2 with
 | true=>exact h2 e
 | false=>exact ((h3 e).2 hi).symm
def fnd (l:List S) (i:Nat):Option (List Int):=(l.find? fun x=>decide (x.1=i)).map (·.2)
theorem fnd_lst (F:Nat→Option (List Int)) (i:Nat):∀ n,fnd (lst F n) i=if i<n then F i else none
 | 0=>rfl
 | n+1=>by
  have ih:=fnd_lst F i n
  unfold fnd at ih ⊢
  cases e:F n with
  | none =>
   rw [lst_none e,ih]
   by_cases h:i<n
   ·rw [if_pos h,if_pos (by omega)]
   ·rw [if_neg h]
    by_cases h1:i=n
    ·subst h1;rw [if_pos (by omega),e]
    ·rw [if_neg (by omega)]
  | some L =>
   rw [lst_some e,List.find?_append,Option.map_or,ih]
   by_cases h:i<n
   ·rw [if_pos h,if_pos (by omega)]
    cases F i with
    | some _=>rfl
    | none =>
     have:¬ n=i:=by omega
     simp [this]
   ·rw [if_neg h]
    by_cases h1:i=n
    ·subst h1;rw [if_pos (by omega),e];simp
    ·rw [if_neg (by omega)]
     have:¬ n=i:=by omega
     simp [this]
end Dk
end

/-! DkX2:  -/
section
open Go.RowKit
def Lst (B:Nat) (y:World) (U:Nat→Prop) (v:Value) (l:List Dk.S):Prop :=
 ∃ xs,y.ownsRow B 137 2 v l.length xs∧∀ (j:Nat) (x:Dk.S),l[j]?=some x→∃ u,xs[j*2]?=some (.int .i64 (x.1:Nat))∧xs[j*2+1]?=some u∧Sec y U u x.2
section
variable {B:Nat} {y z:World} {U U':Nat→Prop} {v:Value} {l:List Dk.S}
theorem lst_at0 (B:Nat) (y:World) (U:Nat→Prop):Lst B y U (.slice none 0 0) []:=⟨[],World.ownsRow_nil _ _ _ _,fun j x hx=>by simp at hx⟩
theorem Lst.keep (h:Lst B y U v l) (ho:∀ g,v.ownBlock=some g→z.heap[g]?=y.heap[g]?) (hk:∀ (g:Nat) (cur:Array Value),U g→y.heap[g]?=some (.cells cur 5 (0,0))→z.heap[g]?=y.heap[g]?):Lst B z U v l:=by
 obtain ⟨xs,h1,h2⟩:=h
 exact ⟨xs,own_keepB h1 ho,fun j x hx=>by
  obtain ⟨u,a,b,c⟩:=h2 j x hx
  exact ⟨u,a,b,c.keep hk⟩⟩
theorem Lst.lift (h:Lst B y U v l) (hU:∀ g,U g→U' g):Lst B y U' v l:=by
 obtain ⟨xs,h1,h2⟩:=h
 exact ⟨xs,h1,fun j x hx=>by
  obtain ⟨u,a,b,c⟩:=h2 j x hx
  exact ⟨u,a,b,c.lift hU⟩⟩
theorem Lst.type (h:Lst B y U v l):∀ g,v.ownBlock=some g→B≤g∧∃ cur,y.heap[g]?=some (.cells cur 137 (0,0)):=by
 obtain ⟨xs,h1,_⟩:=h
 exact own_type h1
theorem Lst.old (h:Lst B y U v l) (hb:Below y.heap.size y z):Lst B z U v l :=
 h.keep (fun g hg=>by obtain ⟨_,cur,h2⟩:=h.type g hg;exact hb.block _ (lt_of_block h2)) (fun g cur _ hc=>hb.block _ (lt_of_block hc))
theorem Lst.low (h:Lst B y U v l):Lst 0 y U v l:=by
 obtain ⟨xs,h1,h2⟩:=h
 refine ⟨xs,⟨h1.1,?_⟩,h2⟩
 rcases h1.2 with h3 | ⟨g,cap,cur,h3,h4,h5⟩
 ·exact Or.inl h3
 ·exact Or.inr ⟨g,cap,cur,h3,Nat.zero_le _,h5⟩
theorem Lst.len (h:Lst B y U v l):∃ a cap,v = .slice a l.length cap∧(0<l.length→∃ gs,a=some ⟨gs,0,none⟩):=by
 obtain ⟨xs,h1,_⟩:=h
 rcases h1.2 with ⟨h2,h3⟩ | ⟨g,cap,cur,h2,_⟩
 ·exact ⟨none,0,by rw [h2,h3],fun h0=>by omega⟩
 ·exact ⟨_,cap,h2,fun _=>⟨g,rfl⟩⟩
theorem Lst.at {gs n cap:Nat} (h:Lst B y U (.slice (some ⟨gs,0,none⟩) n cap) l) {j:Nat} {x:Dk.S} (hx:l[j]?=some x):∃ u,y.cell? ⟨gs,j*2,none⟩=some (.int .i64 (x.1:Nat))∧y.cell? ⟨gs,j*2+1,none⟩=some u∧Sec y U u x.2:=by
 obtain ⟨xs,h1,h2⟩:=h
 obtain ⟨u,a,b,c⟩:=h2 j x hx
 have hj:=(List.getElem?_eq_some_iff.1 hx).1
 rcases h1.2 with ⟨h6,_⟩ | ⟨g,cap',cur,h6,_,h7,_,_,_,h8⟩
 ·cases h6
 ·cases h6
  have key:∀ i v,i<l.length*2→xs[i]?=some v→y.cell? ⟨gs,i,none⟩=some v:=fun i v hi hv=>by
   rw [← h8,List.getElem?_take_of_lt hi] at hv
   rw [cell_of_row y gs i _ _ _ h7]
   simpa using hv
  exact ⟨u,key _ _ (by omega) a,key _ _ (by omega) b,c⟩
end
theorem Sec.old {w y:World} {T:Nat→Prop} {v:Value} {L:List Int} (h:Sec w T v L) (hb:Below w.heap.size w y):Sec y T v L:=h.keep (fun g cur _ hc=>hb.block g (lt_of_block hc))
theorem cells_new (w:World) (a b:Value) (t:TypeId):∀ j v,[a,b][j]?=some v→(w.alloc (.cells #[a,b] t)).cell? ⟨w.heap.size,j,none⟩=some v:=fun j v h=>by
 rw [cell_of_row _ _ j _ _ _ (heap_alloc_new w _)]
 simpa using h
theorem below_new (w:World) (o:Obj):Below w.heap.size w (w.alloc o):=(Below.refl _ w).alloc (Nat.le_refl _) _
theorem Tryz.infoSector:(Tryz.prog.info? 137).map (fun i=>(i.zero,i.size,i.bytes))=some (some (.agg #[.int .i64 0,.slice none 0 0]),2,32):=by kernel_rfl
theorem append_sec {ops:Array Oper} {rest:List Oper} {a:Act} {w:World} {Q:Exit→Act→World→Prop} {D:Option Tmp} {T:TypeId} {ps:String} {af:Array Edge} (s x:Operand) (B:Nat) (V:Value) (l:List Dk.S) (z:Dk.S) (U:Nat→Prop) (q:Nat) (u:Value)
  (hs:a.eval s=V) (hx:a.eval x = .slice (some ⟨q,0,none⟩) 1 1) (ho:Lst B w U V l) (hc:∀ j v,[Value.int .i64 (z.1:Nat),u][j]?=some v→w.cell? ⟨q,j,none⟩=some v) (hu:Sec w U u z.2) (hk:l.length≤1000000) (hB:B≤w.heap.size)
  (h:∀ v' w',Hid (Lst B w' U v' (l++[z]))→Hid (w.grownBy w' V.ownBlock)→wpList Tryz.prog ops Q rest (a.put D v') w') :
  wpList Tryz.prog ops Q ({ dst:=D,op:=.call { callee:=.builtin .append,args:=#[s,x],argTypes:=#[74,74] },type:=T,pos:=ps,after:=af,guard:=none } :: rest) a w:=by
 obtain ⟨i0,hi,hz0,hz1,hz2⟩:=info_parts Tryz.infoSector
 obtain ⟨xs,h1,h2⟩:=ho
 obtain ⟨p,cc,hue,_⟩:=hu.bs
 refine wpList_append_own_at _ rfl s x 74 rfl B 137 i0 (.agg #[.int .i64 0,.slice none 0 0]) 2 32 Tryz.underlying74 hi hz0 hz1 hz2 rfl (by decide) V l.length xs hs h1 ⟨q,0,none⟩ 1 1 [.int .i64 (z.1:Nat),u] hx rfl (fun j v hj=>?_) (fun v hv=>?_) (by unfold maxLen;omega) (by omega) hB ?_
 ·have hq:((⟨q,0,none⟩:Addr).add j) = ⟨q,j,none⟩:=by simp [Addr.add];try omega
  rw [hq]
  exact hc j v hj
 ·simp at hv
  rcases hv with rfl | rfl
  ·rfl
  ·rw [hue];rfl
 ·intro v' w' k1 k2 _ _
  have hne:∀ (n:Nat) (t:Value) (ys:List Value),w.ownsRow 0 5 1 t n ys→∀ g,t.ownBlock=some g→some g ≠ V.ownBlock:=fun n t ys ht g hg e=>by
   obtain ⟨_,cur,h5⟩:=own_type ht g hg
   obtain ⟨_,cur',h6⟩:=own_type h1 g e.symm
   rw [h5] at h6
   injection Option.some.inj h6 with _ h7 _
   exact absurd h7 (by decide)
  have hsec:∀ (t:Value) (M:List Int),Sec w U t M→Sec w' U t M:=fun t M ht=>⟨own_keepB ht.1 (fun g hg=>k2.block g (by obtain ⟨_,cur,h5⟩:=own_type ht.1 g hg;exact lt_of_block h5) (hne _ _ _ ht.1 g hg)),ht.2.1,ht.2.2⟩
  have hxl:xs.length=l.length*2:=h1.1
  refine h v' w' (Lib.hid ⟨_,by rw [List.length_append];exact k1,fun j y hy=>?_⟩) (Lib.hid k2)
  by_cases hjk:j<l.length
  ·rw [List.getElem?_append_left hjk] at hy
   obtain ⟨t,a1,a2,a3⟩:=h2 j y hy
   exact ⟨t,by rw [List.getElem?_append_left (by omega)];exact a1,by rw [List.getElem?_append_left (by omega)];exact a2,hsec _ _ a3⟩
  ·have hjl:=(List.getElem?_eq_some_iff.1 hy).1
   rw [List.length_append,List.length_singleton] at hjl
   obtain rfl:j=l.length:=by omega
   rw [List.getElem?_append_right (Nat.le_refl _)] at hy
   simp at hy
   subst hy
   exact ⟨u,by rw [List.getElem?_append_right (by omega),hxl];simp,by rw [List.getElem?_append_right (by omega),hxl,show l.length*2+1-l.length*2=1 by omega];rfl,hsec _ _ hu⟩
set_option maxHeartbeats 2000000 in
set_option maxRecDepth 100000 in
theorem without_any (l:List Dk.S) (i:Nat) (U:Nat→Prop) (v:Value) (w:World) (hl:Lst 0 w U v l) (hn:l.length≤5000):Calls Tryz.prog 87 #[v,.int .i64 (i:Int)] w fun e w'=>∃ v',e = .returned v'∧Hid (Lst w.heap.size w' U v' (Dk.del l i))∧Below w.heap.size w w':=by
 obtain ⟨a,cap,rfl,ha⟩:=hl.len
 have HL:=Lib.hid hl
 have HA:=Lib.hid ha
 clear hl ha
 go_enter Tryz.func87,Tryz.ntmps87
 go_upto_region 3 with (fail)
 go_loopw [5,6] (fun v5 v6 wr=>∃ k:Nat,k≤l.length∧v6 = .int .i64 k∧Hid (Lst w.heap.size wr U v5 (Dk.del (l.take k) i))∧Hid (Below w.heap.size w wr)) (fun _ v6 _=>l.length-(intOf v6).toNat)
 case atStart=>exact ⟨0,Nat.zero_le _,rfl,Lib.hid (lst_at0 _ _ _),Lib.hid (Below.refl _ _)⟩
 case round =>
  obtain ⟨k,hk,rfl,HO,HB⟩:=hrel
  by_cases hlt:k<l.length
  ·obtain ⟨x,hx⟩:∃ x,l[k]?=some x:=⟨_,List.getElem?_eq_getElem hlt⟩
   obtain ⟨gs,rfl⟩:=HA.out (by omega)
   obtain ⟨u,c0,c1,hu⟩:=(HL.out.old HB.out).at hx
   have hk0:(0:Int)≤(k:Int):=by omega
   have hk1:(k:Int)<(l.length:Int):=by omega
   have HT:Hid (Dk.del (l.take (k+1)) i=if x.1=i then Dk.del (l.take k) i else Dk.del (l.take k) i++[x]):=by
    show _=_
    rw [List.take_add_one,hx]
    unfold Dk.del
    rw [List.filter_append]
    by_cases e:x.1=i<;>simp [e]
   have HU:=Lib.hid hu
   have HDL:Hid ((Dk.del (l.take k) i).length≤5000):=by
    show _≤_
    unfold Dk.del
    have:=List.length_filter_le (fun x:Dk.S=>decide (x.1 ≠ i)) (l.take k)
    rw [List.length_take] at this
    omega
   clear hx hu
   obtain ⟨p,c,hue,_⟩:=HU.out.bs
   by_cases e:x.1=i
   ·have hxi:(x.1:Int)=(i:Int):=by omega
    rw [hxi] at c0
    go_wp2
    exact ⟨⟨k+1,by omega,by go_num,by rw [HT.out,if_pos e];exact HO,HB⟩,by simp [intOf];omega⟩
   ·have hxi:((x.1:Int) != (i:Int))=true:=by simp;omega
    subst hue
    go_upto_region 6 with (fail)
    go_wp2_with ((with_reducible refine append_sec _ _ w.heap.size _ (Dk.del (l.take k) i) x U _ (.slice p x.2.length c) ?_ ?_ (HO.out.old (below_new wr _)) (cells_new wr _ _ _) (HU.out.old (below_new wr _)) ?_ ?_ ?_);(exact rfl);(exact rfl);(have:=HDL.out;omega);(have:=HB.out.size;simp;omega);intro v7 w7 hL7 hg7;have HL7:=Lib.hid hL7.out;have HB7:Hid (Below w.heap.size w w7):=(HB.out.trans ((below_new wr _).mono HB.out.size)).grown hg7.out (by have:=HB.out.size;simp;omega) (fun g hg=>(HO.out.type g hg).1);clear hL7 hg7)
    exact ⟨⟨k+1,by omega,by go_num,by rw [HT.out,if_neg e];exact HL7,HB7⟩,by simp [intOf];omega⟩
  ·go_wp2
   go_ret
   have e:l.take k=l:=List.take_of_length_le (by omega)
   rw [e] at HO
   exact ⟨_,rfl,HO,HB.out⟩
end

/-! DkX3:  -/
section
open Go.RowKit
theorem Lst.sub {B B':Nat} {y:World} {U:Nat→Prop} {v:Value} {l:List Dk.S} (h:Lst B y U v l) (hB:B'≤B):Lst B' y U v l:=by
 obtain ⟨xs,h1,h2⟩:=h
 refine ⟨xs,⟨h1.1,?_⟩,h2⟩
 rcases h1.2 with h3 | ⟨g,cap,cur,h3,h4,h5⟩
 ·exact Or.inl h3
 ·exact Or.inr ⟨g,cap,cur,h3,by omega,h5⟩
theorem Lst.grew {B:Nat} {x y z:World} {U:Nat→Prop} {v:Value} {l:List Dk.S} {o:Obj} (h:Lst B y U v l) (hb:Below B x y) (hB:B≤x.heap.size) (hg:(y.alloc o).grownBy z v.ownBlock):Below B x z :=
 (hb.trans ((below_new y o).mono (Nat.le_trans hB hb.size))).grown hg (by have:=hb.size;simp;omega) (fun g hg=>(h.type g hg).1)
theorem Dk.del_len (l:List Dk.S) (i:Nat):(Dk.del l i).length≤l.length:=List.length_filter_le _ _
set_option maxHeartbeats 4000000 in
set_option maxRecDepth 100000 in
theorem refput_any (l:List Dk.S) (s:Dk.S) (U:Nat→Prop) (v:Value) (p:Option Addr) (c:Nat) (w:World) (hl:Lst 0 w U v l) (hs:Sec w U (.slice p s.2.length c) s.2) (hn:l.length≤5000):Calls Tryz.prog 86 #[v,.agg #[.int .i64 (s.1:Nat),.slice p s.2.length c]] w fun e w'=>∃ v',e = .returned v'∧Hid (Lst w.heap.size w' U v' (Dk.ins l s))∧Hid (Below w.heap.size w w'):=by
 obtain ⟨w1,HX⟩:∃ w1:World,Hid (w1=w.alloc (.cells #[.int .i64 (s.1:Nat),.slice p s.2.length c] 137)):=⟨_,rfl⟩
 have B1:Hid (Below w.heap.size w w1):=by show Below _ _ _;rw [HX.out];exact below_new _ _
 have HC:Hid (∀ y,Below w1.heap.size w1 y→y.cell? ⟨w.heap.size,0,none⟩=some (.int .i64 (s.1:Nat))∧y.cell? ⟨w.heap.size,1,none⟩=some (.slice p s.2.length c)):=fun y hy=>by
  have h:=cells_new w (.int .i64 (s.1:Nat)) (.slice p s.2.length c) 137
  rw [← HX.out] at h
  have h0:=h 0 _ rfl
  have h1:=h 1 _ rfl
  exact ⟨(hy.cell (World.block_lt_of_cell? _ _ h0)).trans h0,(hy.cell (World.block_lt_of_cell? _ _ h1)).trans h1⟩
 have HL:=Lib.hid (hl.old B1.out)
 have HS:=Lib.hid (hs.old B1.out)
 have HN:=Lib.hid hn
 clear hl hs
 go_enter Tryz.func86,Tryz.ntmps86
 go_upto_region 1 with (fail)
 rw [← HX.out]
 obtain ⟨b0,b1⟩:=HC.out w1 (Below.refl _ _)
 go_upto_region 5 with (go_at_call 87;refine (without_any l s.1 U v w1 HL.out HN.out).mono ?_;rintro e2 w2 ⟨v2,rfl,hl2,hb2⟩;have HL2:=Lib.hid hl2.out;have B2:=Lib.hid hb2;clear hl2 hb2)
 clear b0 b1
 obtain ⟨l',hl'⟩:∃ l',Hid (Dk.del l s.1=l'):=⟨_,rfl⟩
 rw [hl'.out] at HL2
 have HN':Hid (l'.length≤5000):=by show _≤_;rw [← hl'.out];exact Nat.le_trans (Dk.del_len _ _) HN.out
 obtain ⟨a2,cap2,rfl,ha2⟩:=HL2.out.len
 have HA2:=Lib.hid ha2
 have HS2:=Lib.hid (HS.out.old B2.out)
 have HL2':=Lib.hid HL2.out.low
 have HC2:Hid (∀ y,Below w2.heap.size w2 y→y.cell? ⟨w.heap.size,0,none⟩=some (.int .i64 (s.1:Nat))∧y.cell? ⟨w.heap.size,1,none⟩=some (.slice p s.2.length c)):=fun y hy=>HC.out y (B2.out.trans (hy.mono B2.out.size))
 clear ha2 HL2 HS HL HC
 go_loopw [5,6,7] (fun v5 v6 v7 wr=>∃ (k:Nat) (r:List Dk.S × Bool),k≤l'.length∧v7 = .int .i64 k∧v6 = .bool r.2∧Hid (r=(l'.take k).foldl (Dk.stp s) ([],false))∧Hid (r.1.length≤2*k)∧Hid (Lst w2.heap.size wr U v5 r.1)∧Hid (Below w2.heap.size w2 wr)) (fun _ _ v7 _=>l'.length-(intOf v7).toNat)
 case atStart=>exact ⟨0,([],false),Nat.zero_le _,rfl,rfl,Lib.hid rfl,Lib.hid (Nat.le_refl _),Lib.hid (lst_at0 _ _ _),Lib.hid (Below.refl _ _)⟩
 case round =>
  obtain ⟨k,r,hk,rfl,rfl,HR,HRL,HO,HB⟩:=hrel
  by_cases hlt:k<l'.length
  ·obtain ⟨x,hx⟩:∃ x,l'[k]?=some x:=⟨_,List.getElem?_eq_getElem hlt⟩
   obtain ⟨gs,rfl⟩:=HA2.out (by omega)
   have HT:Hid ((l'.take (k+1)).foldl (Dk.stp s) ([],false)=Dk.stp s r x):=by
    show _=_
    rw [List.take_add_one,hx,List.foldl_append,← HR.out]
    rfl
   have hl5:=HN'.out
   have hk0:(0:Int)≤(k:Int):=by omega
   have hk1:(k:Int)<(l'.length:Int):=by omega
   have HE:Hid (∃ u cu,∀ y,Below w2.heap.size w2 y→y.cell? ⟨gs,k*2,none⟩=some (.int .i64 (x.1:Nat))∧y.cell? ⟨gs,k*2+1,none⟩=some (.slice u x.2.length cu)∧Sec y U (.slice u x.2.length cu) x.2):=by
    obtain ⟨u,c0,c1,hu⟩:=HL2'.out.at hx
    obtain ⟨q,cq,rfl,_⟩:=hu.bs
    exact ⟨q,cq,fun y hy=>⟨(hy.cell (World.block_lt_of_cell? _ _ c0)).trans c0,(hy.cell (World.block_lt_of_cell? _ _ c1)).trans c1,hu.old hy⟩⟩
   obtain ⟨u,cu,HE⟩:=HE.out
   have HE:=Lib.hid HE
   have HK:Hid (r.1.length≤10000):=by show _≤_;have:=HRL.out;have:=HN'.out;omega
   obtain ⟨c0,c1,_⟩:=HE.out _ HB.out
   obtain ⟨b0,b1⟩:=HC2.out _ HB.out
   clear hx
   cases hr:r.2 with
   | true =>
    have HT2:Hid (Dk.stp s r x=(r.1++[x],true)):=by show _=_;unfold Dk.stp;rw [hr,if_neg (by simp)]
    as_aux_lemma =>
    go_upto_region 7 with (fail)
    go_quiet (fail)
    obtain ⟨y0,HY0⟩:∃ y,Hid (wr.drewN nq=y):=⟨_,rfl⟩
    have HO0:=Lib.hid (HO.out.old (below_dn (Below.refl _ wr) nq))
    have HB0:Hid (Below w2.heap.size w2 y0):=by show Below _ _ _;rw [← HY0.out];exact below_dn HB.out nq
    rw [HY0.out] at HO0 ⊢
    clear HY0 HO HB c0 c1 b0 b1
    obtain ⟨c0,c1,_⟩:=HE.out _ HB0.out
    obtain ⟨b0,b1⟩:=HC2.out _ HB0.out
    go_wp2_with ((with_reducible refine append_sec _ _ w2.heap.size _ r.1 x U _ (.slice u x.2.length cu) ?_ ?_ (HO0.out.old (below_new y0 _)) (cells_new y0 _ _ _) (((HE.out _ HB0.out).2.2).old (below_new y0 _)) ?_ ?_ ?_);(exact rfl);(exact rfl);(have:=HK.out;simp;omega);(have:=HB0.out.size;simp;omega);intro v7 w7 hL7 hg7;have HL7:=Lib.hid hL7.out;have HB7:Hid (Below w2.heap.size w2 w7):=HO0.out.grew HB0.out (Nat.le_refl _) hg7.out;clear hL7 hg7)
    exact ⟨⟨k+1,(r.1++[x],true),by omega,by go_num,rfl,Lib.hid (HT.out.trans HT2.out).symm,Lib.hid (by have:=HRL.out;simp;omega),HL7,HB7⟩,by simp [intOf];omega⟩
   | false =>
    by_cases hsx:s.1<x.1
    ·have HT2:Hid (Dk.stp s r x=(r.1++[s]++[x],true)):=by show _=_;unfold Dk.stp;rw [if_pos ⟨hr,hsx⟩]
     have hsi:(s.1:Int)<(x.1:Int):=by omega
     as_aux_lemma =>
     go_upto_region 7 with (fail)
     go_quiet (fail)
     obtain ⟨y0,HY0⟩:∃ y,Hid (wr.drewN nq=y):=⟨_,rfl⟩
     have HO0:=Lib.hid (HO.out.old (below_dn (Below.refl _ wr) nq))
     have HB0:Hid (Below w2.heap.size w2 y0):=by show Below _ _ _;rw [← HY0.out];exact below_dn HB.out nq
     rw [HY0.out] at HO0 ⊢
     clear HY0 HO HB c0 c1 b0 b1
     obtain ⟨c0,c1,_⟩:=HE.out _ HB0.out
     obtain ⟨b0,b1⟩:=HC2.out _ HB0.out
     go_wp2_with (first
      | ((with_reducible refine append_sec _ _ w2.heap.size _ (r.1++[s]) x U _ (.slice u x.2.length cu) ?_ ?_ (HL7.out.old (below_new w7 _)) (cells_new w7 _ _ _) (((HE.out _ HB7.out).2.2).old (below_new w7 _)) ?_ ?_ ?_);(exact rfl);(exact rfl);(have:=HK.out;simp;omega);(have:=HB7.out.size;simp;omega);intro v8 w8 hL8 hg8;have HL8:=Lib.hid hL8.out;have HB8:Hid (Below w2.heap.size w2 w8):=HL7.out.grew HB7.out (Nat.le_refl _) hg8.out;clear hL8 hg8)
      | ((with_reducible refine append_sec _ _ w2.heap.size _ r.1 s U _ (.slice p s.2.length c) ?_ ?_ (HO0.out.old (below_new y0 _)) (cells_new y0 _ _ _) ((HS2.out.old HB0.out).old (below_new y0 _)) ?_ ?_ ?_);(exact rfl);(exact rfl);(have:=HK.out;simp;omega);(have:=HB0.out.size;simp;omega);intro v7 w7 hL7 hg7;have HL7:=Lib.hid hL7.out;have HB7:Hid (Below w2.heap.size w2 w7):=HO0.out.grew HB0.out (Nat.le_refl _) hg7.out;clear hL7 hg7;obtain ⟨e0,e1,_⟩:=HE.out _ HB7.out))
     exact ⟨⟨k+1,(r.1++[s]++[x],true),by omega,by go_num,rfl,Lib.hid (HT.out.trans HT2.out).symm,Lib.hid (by have:=HRL.out;simp;omega),HL8,HB8⟩,by simp [intOf];omega⟩
    ·have HT2:Hid (Dk.stp s r x=(r.1++[x],false)):=by show _=_;unfold Dk.stp;rw [if_neg (fun h=>hsx h.2),hr]
     have hsi:(x.1:Int)≤(s.1:Int):=by omega
     as_aux_lemma =>
     go_upto_region 7 with (fail)
     go_quiet (fail)
     obtain ⟨y0,HY0⟩:∃ y,Hid (wr.drewN nq=y):=⟨_,rfl⟩
     have HO0:=Lib.hid (HO.out.old (below_dn (Below.refl _ wr) nq))
     have HB0:Hid (Below w2.heap.size w2 y0):=by show Below _ _ _;rw [← HY0.out];exact below_dn HB.out nq
     rw [HY0.out] at HO0 ⊢
     clear HY0 HO HB c0 c1 b0 b1
     obtain ⟨c0,c1,_⟩:=HE.out _ HB0.out
     obtain ⟨b0,b1⟩:=HC2.out _ HB0.out
     go_wp2_with ((with_reducible refine append_sec _ _ w2.heap.size _ r.1 x U _ (.slice u x.2.length cu) ?_ ?_ (HO0.out.old (below_new y0 _)) (cells_new y0 _ _ _) (((HE.out _ HB0.out).2.2).old (below_new y0 _)) ?_ ?_ ?_);(exact rfl);(exact rfl);(have:=HK.out;simp;omega);(have:=HB0.out.size;simp;omega);intro v7 w7 hL7 hg7;have HL7:=Lib.hid hL7.out;have HB7:Hid (Below w2.heap.size w2 w7):=HO0.out.grew HB0.out (Nat.le_refl _) hg7.out;clear hL7 hg7)
     exact ⟨⟨k+1,(r.1++[x],false),by omega,by go_num,rfl,Lib.hid (HT.out.trans HT2.out).symm,Lib.hid (by have:=HRL.out;simp;omega),HL7,HB7⟩,by simp [intOf];omega⟩
  ·have e:l'.take k=l':=List.take_of_length_le (by omega)
   rw [e] at HR
   have HK:Hid (r.1.length≤10000):=by show _≤_;have:=HRL.out;have:=HN'.out;omega
   have HI:Hid (Dk.ins l s=if r.2 then r.1 else r.1++[s]):=by
    show _=_
    unfold Dk.ins
    rw [hl'.out,← HR.out]
   obtain ⟨b0,b1⟩:=HC2.out _ HB.out
   have HW:=Lib.hid (Nat.le_trans B1.out.size B2.out.size)
   have HBW:Hid (∀ z,Below w2.heap.size w2 z→Below w.heap.size w z):=fun z hz=>(B1.out.trans (B2.out.mono B1.out.size)).trans (hz.mono (Nat.le_trans B1.out.size B2.out.size))
   cases hr:r.2 with
   | true =>
    as_aux_lemma =>
    go_wp2
    go_ret
    refine ⟨_,rfl,Lib.hid ?_,Lib.hid (HBW.out _ HB.out)⟩
    rw [HI.out,hr,if_pos rfl]
    exact HO.out.sub HW.out
   | false =>
    as_aux_lemma =>
    go_wp2_with ((with_reducible refine append_sec _ _ w2.heap.size _ r.1 s U _ (.slice p s.2.length c) ?_ ?_ (HO.out.old (below_new wr _)) (cells_new wr _ _ _) ((HS2.out.old HB.out).old (below_new wr _)) ?_ ?_ ?_);(exact rfl);(exact rfl);(have:=HK.out;simp;omega);(have:=HB.out.size;simp;omega);intro v7 w7 hL7 hg7;have HL7:=Lib.hid hL7.out;have HB7:Hid (Below w2.heap.size w2 w7):=HO.out.grew HB.out (Nat.le_refl _) hg7.out;clear hL7 hg7)
    go_ret
    refine ⟨_,rfl,Lib.hid ?_,Lib.hid (HBW.out _ HB7.out)⟩
    rw [HI.out,hr,if_neg (by decide)]
    exact HL7.out.sub HW.out
end
end Go.Proofs.YtnnalemboeccbaaGreatDoor

/-
  RgL, RgM, RgN (merged)
-/
import Derived.Test.YthgjfjmampmiiaaGreatDoorRg0
import Derived.Great.BuildSlice
namespace Go.Proofs.YthgjfjmampmiiaaGreatDoor
open Go.Proofs.Tryz
set_option maxHeartbeats 4000000
set_option maxRecDepth 100000
section
open Go.RowKit
def br (x:Rg.R):Array Value:=(cv x).toArray
theorem cM (x:Rg.R):RV x = .agg (br x):=by unfold RV br;rfl
theorem aA {x:Rg.R} (h:Rg.Ok x):(br x).size=136:=by unfold br;rw [List.size_toArray,dr h]
theorem dm (x:Rg.R):(br x).all (·.oneCell')=true:=all_oneCell_toArray (jn x)
theorem iQ {x:Rg.R} (h:Rg.Ok x):(prog.info? 45).map (·.size)=some (br x).size:=by rw [aA h];exact Tryz.ah
theorem pQ (x y:Rg.R) (hx:Rg.Ok x) (hy:Rg.Ok y) (w:World):(Op.equalIn 10000 45 (.agg (br x)) (.agg (br y))).run prog w = .ok (decide (x=y)) w:=by
 rw [← cM,← cM];exact rec_eq hx hy w
def iW:List Value:=cv Rg.zero
theorem yB:(Value.agg iW.toArray).cells.size=136:=by show iW.toArray.size=136;rw [List.size_toArray];exact dr Rg.bw
theorem pX {w y:World} {b o:Nat} {cs:List Value} (h:w.rangeAt b o cs) (hb:qw w y):y.rangeAt b o cs:=fun j v hv=>by
 have h1:=h j v hv;exact (hb.cell (World.block_lt_of_cell? w _ h1)).trans h1
theorem tD (L:List Rg.R) (k:Nat) (hk:k<L.length):L.drop k=L.getD k Rg.zero :: L.drop (k+1):=by
 rw [List.drop_eq_getElem_cons hk,List.getD_eq_getElem?_getD,List.getElem?_eq_getElem hk]
 rfl
namespace Rg
def ec:List R→List Value
 | []=>[]
 | x :: r=>cv x++ec r
theorem ke (A B:List R):ec (A++B)=ec A++ec B:=by
 induction A with
 | nil=>rfl
 | cons x r ih=>rw [List.cons_append,ec,ec,ih,List.append_assoc]
theorem lS:∀ {L:List R},(∀ x∈L,Rg.Ok x)→(ec L).length=136*L.length
 | [],_=>rfl
 | x :: r,h=>by
  rw [ec,List.length_append,dr (h x (by simp)),lS (L:=r) (fun y hy=>h y (by simp [hy])),List.length_cons];omega
theorem abc:∀ {L:List R},(∀ x∈L,Rg.Ok x)→∀ (i j:Nat),i<L.length→j<136→(ec L)[i*136+j]?=(cv (L.getD i zero))[j]?
 | [],_,i,j,hi,_=>by simp at hi
 | x :: r,h,i,j,hi,hj=>by
  have hx:=dr (h x (by simp));cases i with
  | zero =>
   rw [ec,Nat.zero_mul,Nat.zero_add,List.getElem?_append_left (by omega)]
   rfl
  | succ i =>
   rw [ec,List.getElem?_append_right (by omega),hx,show (i+1)*136+j-136=i*136+j by omega,abc (L:=r) (fun y hy=>h y (by simp [hy])) i j (by simpa using hi) hj]
   rfl
theorem agI (L:List R):∀ v∈ec L,v.oneCell'=true:=by
 induction L with
 | nil=>intro v hv;cases hv
 | cons x r ih =>
  intro v hv;rw [ec,List.mem_append] at hv;exact hv.elim (jn x v) (ih v)
theorem ahr {L:List R} (h:∀ x∈L,Rg.Ok x) (k:Nat) (hk:k<L.length) (y:R) :
  (ec L).take (k*136)++cv y++(ec L).drop (k*136+136)=ec (L.set k y):=by
 have e:L=L.take k++L.getD k zero :: L.drop (k+1):=by
  rw [← tD L k hk,List.take_append_drop]
 have h1:∀ x∈L.take k,Rg.Ok x:=fun x hx=>h x (List.mem_of_mem_take hx);have l1:(ec (L.take k)).length=k*136:=by rw [lS h1,List.length_take];omega
 have hx:(cv (L.getD k zero)).length=136:=by
  rw [List.getD_eq_getElem?_getD,List.getElem?_eq_getElem hk];exact dr (h _ (List.getElem_mem hk))
 have e2:ec L=ec (L.take k)++(cv (L.getD k zero)++ec (L.drop (k+1))):=by
  conv=>lhs;rw [e]
  rw [ke,ec]
 have e3:L.set k y=L.take k++y :: L.drop (k+1):=by
  rw [List.set_eq_take_append_cons_drop,if_pos hk]
 rw [e3,ke,ec,e2];rw [List.take_left' l1,show k*136+136=(ec (L.take k)).length+(cv (L.getD k zero)).length by omega,← List.drop_drop,List.drop_left,List.drop_left,List.append_assoc]
theorem ui {x:R} (h:Rg.Ok x) (n:Nat):∀ y∈List.replicate n x,Rg.Ok y:=fun y hy=>by
 rw [List.mem_replicate] at hy;rw [hy.2];exact h
theorem uJ {A B:List R} (h:∀ x∈A,Rg.Ok x) (k:∀ x∈B,Rg.Ok x):∀ x∈A++B,Rg.Ok x:=fun x hx=>(List.mem_append.1 hx).elim (h x) (k x)
end Rg
theorem Tryz.xh:(prog.info? 45).map (fun i=>(i.zero,i.size,i.bytes))=some (some (.agg iW.toArray),136,192):=by kernel_rfl
structure Rs (w:World) (p:Option Addr) (c:Nat) (L:List Rg.R):Prop where
 ok:∀ x∈L,Rg.Ok x
 at_:0<L.length→∃ ab ao,p=some ⟨ab,ao,none⟩∧∀ i,i<L.length→w.rangeAt ab (ao+i*136) (cv (L.getD i Rg.zero))
 cap:L.length≤c∧c≤9223372036854775807
 nil:p=none→c=0
theorem Rs.av {w y:World} {p:Option Addr} {c:Nat} {L:List Rg.R} (h:Rs w p c L) (hb:qw w y):Rs y p c L :=
 ⟨h.ok,fun h0=>by
  obtain ⟨ab,ao,h1,h2⟩:=h.at_ h0;exact ⟨ab,ao,h1,fun i hi=>pX (h2 i hi) hb⟩,h.cap,h.nil⟩
theorem Rs.drew {w:World} {p:Option Addr} {c:Nat} {L:List Rg.R} (h:Rs w p c L):Rs w.drew p c L:=⟨h.ok,h.at_,h.cap,h.nil⟩
theorem Rs.drewN {w:World} {p:Option Addr} {c:Nat} {L:List Rg.R} (h:Rs w p c L) (n:Nat):Rs (w.drewN n) p c L:=⟨h.ok,h.at_,h.cap,h.nil⟩
theorem Rs.getD {w:World} {p:Option Addr} {c:Nat} {L:List Rg.R} (h:Rs w p c L) (i:Nat):Rg.Ok (L.getD i Rg.zero):=by
 rw [List.getD_eq_getElem?_getD];cases q:L[i]? with
 | none=>exact Rg.bw
 | some x =>
  obtain ⟨hi,rfl⟩:=List.getElem?_eq_some_iff.1 q;exact h.ok _ (List.getElem_mem hi)
theorem acH (w:World):Rs w none 0 []:=⟨(fun x hx=>(by cases hx)),(fun h=>(by simp at h)),⟨Nat.le_refl _,by omega⟩,fun _=>rfl⟩
theorem Rs.load {w:World} {ab ao c:Nat} {L:List Rg.R} (h:Rs w (some ⟨ab,ao,none⟩) c L) {i:Nat} (hi:i<L.length) :
  (Instr.loadAt 45 (.pointer (some ⟨ab,ao+i*136,none⟩))).run prog w = .ok (.agg (br (L.getD i Rg.zero))) w:=by
 obtain ⟨ab',ao',h1,h2⟩:=h.at_ (by omega);cases h1
 have h3:=run_loadAt_mid (P:=prog) w ab (ao+i*136) 45 (cv (L.getD i Rg.zero)) _ (h2 i hi) underlying45 rfl (by rw [Tryz.ah,dr (h.getD i)]);exact h3
section
variable {P:Program} {ops:Array Oper} {C:World→Prop} {Q:Act→Prop} {rest:List Oper} {a:Act} {D:Option Tmp} {T:TypeId} {ps:String} {af:Array Edge} {gd:Option (Nat × Bool)}
theorem lP (ty:TypeId) (x:Operand) (ad:Addr) (A:Array Value) (hw:Region.wanted { dst:=D,op:=.load ty x,type:=T,pos:=ps,after:=af,guard:=gd } (yielded ops a.tmps)=true)
  (hx:a.eval x = .pointer (some ad)) (hl:∀ w,C w→(Instr.loadAt ty (.pointer (some ad))).run P w = .ok (.agg A) w) (h:wpQuiet P ops C Q rest (a.put D (.agg A))) :
  wpQuiet P ops C Q ({ dst:=D,op:=.load ty x,type:=T,pos:=ps,after:=af,guard:=gd } :: rest) a :=
 BigFrame.wpQuiet_want hw fun K hK=>⟨.agg A,fun w hC=>by
  unfold Oper.quietAt execOp;simp only [hx,hl w hC,Sem.run_bind,Sem.run_pure,Result.andThen_ok,Oper.quietUpon,and_self],hK _ h⟩
end
theorem Rs.rng {w:World} {ab ao c:Nat} {L:List Rg.R} (h:Rs w (some ⟨ab,ao,none⟩) c L) {i:Nat} (hi:i<L.length):w.rangeAt ab (ao+i*136) (br (L.getD i Rg.zero)).toList:=by
 obtain ⟨ab',ao',h1,h2⟩:=h.at_ (by omega);cases h1
 exact h2 i hi
theorem ad5 (c:Nat):madeCells iW.toArray (c*136)=(Rg.ec (List.replicate c Rg.zero)).toArray:=by
 have hz:iW=cv Rg.zero:=rfl;have hl:(cv Rg.zero).length=136:=dr Rg.bw;have hlen:(Rg.ec (List.replicate c Rg.zero)).length=c*136:=by rw [Rg.lS (Rg.ui Rg.bw c),List.length_replicate];omega
 apply Array.ext
 ·rw [size_madeCells,List.size_toArray,hlen]
 ·intro i h1 h2;rw [size_madeCells] at h1;have hi:i=i / 136*136+i % 136:=by omega
  have h3:=Rg.abc (L:=List.replicate c Rg.zero) (Rg.ui Rg.bw c) (i / 136) (i % 136) (by rw [List.length_replicate];omega) (by omega);rw [← hi] at h3;have hg:(List.replicate c Rg.zero).getD (i / 136) Rg.zero=Rg.zero:=by
   rw [List.getD_eq_getElem?_getD,List.getElem?_replicate];split<;>rfl
  rw [hg] at h3;unfold madeCells;rw [List.getElem_toArray];have h5:(iW.toArray)[i % iW.toArray.size]! = (Rg.ec (List.replicate c Rg.zero))[i]:=by
   have e1:iW.toArray.size=136:=by rw [List.size_toArray,hz,hl]
   rw [e1,getElem!_def];have e2:iW.toArray[i % 136]?=(cv Rg.zero)[i % 136]?:=by rw [List.getElem?_toArray,hz]
   rw [e2,← h3,List.getElem?_eq_getElem (by simpa using h2)]
  have h6:(Array.map (fun x=>iW.toArray[x % iW.toArray.size]!) (Array.range (c*136)))[i]'(by simpa using h1)=iW.toArray[i % iW.toArray.size]!:=by
   rw [Array.getElem_map,Array.getElem_range]
  exact h6.trans h5
theorem aeL (F:List Rg.R) (hF:∀ x∈F,Rg.Ok x) (i:Nat) (x:Rg.R) (hx:Rg.Ok x) (hi:i<F.length) (rest:List (Nat × Value)) :
  Instr.fill (fun i=>some (i*136,136)) (Rg.ec F).toArray ((i,.agg (br x)) :: rest)=Instr.fill (fun i=>some (i*136,136)) (Rg.ec (F.set i x)).toArray rest:=by
 have hs:(Value.agg (br x)).cells.size=136:=aA hx;rw [ox _ i _ (i*136) 136 _ _ rfl hs (by rw [List.size_toArray,Rg.lS hF];omega)];have e:=Rg.ahr hF i hi x;congr 2
theorem agH (w:World) (n:Nat) (hn:n≤1000) (h0:0<n) (parts:Array (Nat × Value)) (L:List Rg.R) (h:Instr.fill (fun i=>some (i*136,136)) (Rg.ec (List.replicate n Rg.zero)).toArray parts.toList=some (Rg.ec L).toArray) :
  (Instr.buildSlice 51 n parts).run prog w = .ok (.slice (some ⟨w.heap.size,0,none⟩) n n) (w.alloc (.cells (Rg.ec L).toArray 45)):=by
 obtain ⟨i,Gl,Is,JY,Nj⟩:=info_parts Tryz.xh;refine run_buildSlice w _ _ n parts _ i _ underlying51 Gl Is (by rw [JY];omega) (by rw [JY];omega) ?_;rw [JY];have e:=ad5 n;unfold madeCells at e;have e':(Value.agg iW.toArray).cells=iW.toArray:=rfl;rw [e',e];exact h
section
variable {ops:Array Oper} {rest:List Oper} {a:Act} {w:World} {Q:Exit→Act→World→Prop} {D:Option Tmp} {T:TypeId} {ps:String} {af:Array Edge} {gd:Option (Nat × Bool)}
theorem ace (x:Operand) (e:Rg.R) (he:Rg.Ok e) (hx:a.eval x = .agg (br e)) (h:wpList prog ops Q rest (a.put D (.slice (some ⟨w.heap.size,0,none⟩) 1 1)) (w.alloc (.cells (Rg.ec [e]).toArray 45))) :
  wpList prog ops Q ({ dst:=D,op:=.buildSlice 51 1 #[(0,x)],type:=T,pos:=ps,after:=af,guard:=none } :: rest) a w :=
 wpList_plain rfl fun K hK=>by
  have Am:=agH w 1 (by omega) (by omega) #[(0,.agg (br e))] [e] (by
   show Instr.fill _ _ [(0,.agg (br e))]=_;rw [aeL _ (Rg.ui Rg.bw 1) 0 e he (by simp)]
   rfl)
  unfold Oper.wp execOp;simp only [hx,List.map_toArray,List.map_cons,List.map_nil,Am,Sem.run_bind,Sem.run_pure,Result.andThen_ok];exact hK _ _ h
end
def nF (B:Nat) (y:World) (v:Value) (L:List Rg.R):Prop:=y.ownsRow B 45 136 v L.length (Rg.ec L)
theorem wI (B:Nat) (y:World):nF B y (.slice none 0 0) []:=World.ownsRow_nil _ _ _ _
theorem nF.es {B:Nat} {y:World} {v:Value} {L:List Rg.R} (h:nF B y v L) (Ca:∀ x∈L,Rg.Ok x):∃ p c,v = .slice p L.length c∧Rs y p c L:=by
 obtain ⟨_,h2⟩:=h;rcases h2 with ⟨rfl,h0⟩ | ⟨g,cap,cur,rfl,_,hg,hn,hm,hs,ht⟩
 ·obtain rfl:L = []:=List.eq_nil_of_length_eq_zero h0;exact ⟨none,0,rfl,acH y⟩
 ·refine ⟨_,cap,rfl,Ca,fun _=>⟨g,0,rfl,fun i hi j u hu=>?_⟩,⟨hn,by unfold maxLen at hm;omega⟩,fun e=>by cases e⟩;have hj:=(List.getElem?_eq_some_iff.1 hu).1;have hl:(cv (L.getD i Rg.zero)).length=136:=by
   rw [List.getD_eq_getElem?_getD,List.getElem?_eq_getElem hi];exact dr (Ca _ (List.getElem_mem hi))
  have e1:=Rg.abc Ca i j hi (by omega);rw [hu,← ht,List.getElem?_take,if_pos (by omega)] at e1;rw [cell_of_row y g _ _ _ _ hg,Nat.zero_add];simpa using e1
section
variable {ops:Array Oper} {rest:List Oper} {a:Act} {w:World} {Q:Exit→Act→World→Prop} {D:Option Tmp} {T:TypeId} {ps:String} {af:Array Edge} {gd:Option (Nat × Bool)}
theorem yi {K:Act→World→Prop} (s xo:Operand) (B:Nat) (v:Value) (L:List Rg.R) (x:Rg.R) (hs:a.eval s=v) (hx:a.eval xo = .slice (some ⟨w.heap.size,0,none⟩) 1 1) (hO:nF B w v L) (Ca:∀ y∈L,Rg.Ok y) (Ny:Rg.Ok x) (N:Nat) (hN:L.length=N) (hl:N≤100000) (hB:B≤w.heap.size)
  (h:∀ q d w',Hid (nF B w' (.slice q (N+1) d) (L++[x]))→Hid (Below B w w')→Hid ((w.alloc (.cells (Rg.ec [x]).toArray 45)).grownBy w' v.ownBlock)→K (a.put D (.slice q (N+1) d)) w') :
  Oper.wp prog { dst:=D,op:=.call { callee:=.builtin .append,args:=#[s,xo],argTypes:=#[51,51] },type:=T,pos:=ps,after:=af,guard:=gd } a (w.alloc (.cells (Rg.ec [x]).toArray 45)) K Q:=by
 subst hN;obtain ⟨i0,hi,hz0,hz1,hz2⟩:=info_parts Tryz.xh;have h1:(Rg.ec [x]).length=1*136:=by rw [Rg.lS (fun y hy=>by rw [List.mem_singleton] at hy;rw [hy];exact Ny)];rfl
 refine wp_append_own _ s xo 51 rfl B 45 i0 (.agg iW.toArray) 136 192 underlying51 hi hz0 hz1 hz2 yB (by decide) v L.length (Rg.ec L) hs (hO.alloc _) ⟨w.heap.size,0,none⟩ 1 1 (Rg.ec [x]) hx h1
  (fun j u hu=>?_) (Rg.agI _) (by unfold maxLen;omega) (by omega) (by simp;omega) (fun v' w' ho hg _=>?_)
 ·rw [Addr.add_mid,Nat.zero_add,cell_of_row _ w.heap.size j _ _ _ (heap_alloc_new w _)];simpa using hu
 ·have e:Rg.ec L++Rg.ec [x]=Rg.ec (L++[x]):=(Rg.ke _ _).symm;rw [e] at ho;have Iv:nF B w' v' (L++[x]):=by
   show World.ownsRow _ _ _ _ _ _ _;rw [List.length_append];exact ho
  have hb:Below B w w':=((Below.refl B w).alloc hB _).grown hg (by simp;omega) (fun j hj=>(World.ownsRow.lt hO j hj).1);obtain ⟨q,d,rfl,_⟩:=Iv.es (Rg.uJ Ca (fun y hy=>by rw [List.mem_singleton] at hy;rw [hy];exact Ny));have e2:(L++[x]).length=L.length+1:=by rw [List.length_append];rfl
  rw [e2] at Iv ⊢;exact h q d w' Iv hb hg
theorem aaW (s xo:Operand) (B:Nat) (v:Value) (L:List Rg.R) (x:Rg.R) (hs:a.eval s=v) (hx:a.eval xo = .slice (some ⟨w.heap.size,0,none⟩) 1 1) (hO:nF B w v L) (Ca:∀ y∈L,Rg.Ok y) (Ny:Rg.Ok x) (N:Nat) (hN:L.length=N) (hl:N≤100000) (hB:B≤w.heap.size)
  (h:∀ q d w',Hid (nF B w' (.slice q (N+1) d) (L++[x]))→Hid (Below B w w')→Hid ((w.alloc (.cells (Rg.ec [x]).toArray 45)).grownBy w' v.ownBlock)→wpList prog ops Q rest (a.put D (.slice q (N+1) d)) w') :
  wpList prog ops Q ({ dst:=D,op:=.call { callee:=.builtin .append,args:=#[s,xo],argTypes:=#[51,51] },type:=T,pos:=ps,after:=af,guard:=none } :: rest) a (w.alloc (.cells (Rg.ec [x]).toArray 45)) :=
 wpList_plain rfl fun _ hK=>yi s xo B v L x hs hx hO Ca Ny N hN hl hB fun q d w' h1 h2 h3=>hK _ _ (h q d w' h1 h2 h3)
end
def xB (b:Bool) (w:World) (e:Ending) (w':World):Prop:=e = .returned (.bool b)∧qw w w'
theorem rL {L M:List Rg.R} {n:Nat} (hl:L.length=n) (hm:M.length=n) (h:∀ i,i<n→L.getD i Rg.zero=M.getD i Rg.zero):L=M:=by
 apply List.ext_getElem (by omega)
 intro i h1 h2;have:=h i (by omega);simpa [List.getD_eq_getElem?_getD,h1,h2] using this
theorem yD (L M:List Rg.R) (p q:Option Addr) (n m c d:Nat) (hn:L.length=n) (hm:M.length=m) (hL:n≤100000) (w:World) (hp:Rs w p c L) (hq:Rs w q d M) :
  qc 13 #[.slice p n c,.slice q m d] w (xB (decide (L=M)) w):=by
 have Hp:=qh hp;clear hp;have Hq:=qh hq;clear hq;have HN:=qh hn;have HM:=qh hm;by_cases QO:n=m
 ·subst QO;clear hn hm;obtain ⟨eb,OO⟩:∃ eb,decide (L=M)=eb:=⟨_,rfl⟩;have PU:=qh OO;rw [OO];clear OO;go_enter func13,ntmps13;go_wp2;go_loopw [5] (fun v5 wr=>∃ k:Nat,k≤n∧v5 = .int .i64 k∧Hid (∀ i,i<k→L.getD i Rg.zero=M.getD i Rg.zero)∧Hid (qw w wr)) (fun v5 _=>n-(intOf v5).toNat)
  case atStart=>exact ⟨0,by omega,rfl,fun i hi=>by omega,Below.refl _ _⟩
  case round =>
   obtain ⟨k,hk,rfl,HE,HB⟩:=hrel;by_cases Ae:k<n
   ·obtain ⟨ab,ao,CM,_⟩:=Hp.out.at_ (by rw [HN.out];omega);obtain ⟨bb,bo,Ml,_⟩:=Hq.out.at_ (by rw [HM.out];omega);subst CM;subst Ml;have h1:∀ j,(Instr.loadAt 45 (.pointer (some ⟨ab,ao+k*136,none⟩))).run prog (wr.drewN j) = .ok (.agg (br (L.getD k Rg.zero))) (wr.drewN j):=fun j=>((Hp.out.av HB.out).drewN j).load (by rw [HN.out];exact Ae);have h2:∀ j,(Instr.loadAt 45 (.pointer (some ⟨bb,bo+k*136,none⟩))).run prog (wr.drewN j) = .ok (.agg (br (M.getD k Rg.zero))) (wr.drewN j):=fun j=>((Hq.out.av HB.out).drewN j).load (by rw [HM.out];exact Ae);obtain ⟨xb,MB⟩:∃ xb,decide (L.getD k Rg.zero=M.getD k Rg.zero)=xb:=⟨_,rfl⟩;have JO:=qh MB;have heq:∀ y,(Op.equalIn 10000 45 (.agg (br (L.getD k Rg.zero))) (.agg (br (M.getD k Rg.zero)))).run prog y = .ok xb y:=fun y=>by rw [← MB];exact pQ _ _ (Hp.out.getD k) (Hq.out.getD k) y
    clear MB;have Ni:0≤(k:Int):=by omega
    have Gl:(k:Int)<(n:Int):=by omega
    generalize br (L.getD k Rg.zero)=X at *;generalize br (M.getD k Rg.zero)=Y at *;go_upto_region 6 with (fail)
    refine wp_region_quiet_lit (by kernel_rfl) (by kernel_rfl) ?_
    repeat (first
     | ((with_reducible refine lP _ _ ⟨ab,ao+k*136,none⟩ X ?_ ?_ (fun y hy=>by obtain ⟨j,rfl⟩:=hy;exact h1 j) ?_);(exact rfl);(exact rfl);simp only [Act.put,aQ,aR,aO])
     | ((with_reducible refine lP _ _ ⟨bb,bo+k*136,none⟩ Y ?_ ?_ (fun y hy=>by obtain ⟨j,rfl⟩:=hy;exact h2 j) ?_);(exact rfl);(exact rfl);simp only [Act.put,aQ,aR,aO])
     | go_big_quiet_step ((fail)))
    refine wpQuiet_nil ?_;rintro _ ⟨nq,rfl⟩;cases xb with
    | true =>
     go_wp2;refine ⟨⟨k+1,by omega,by go_num,fun i hi=>?_,bI HB.out _⟩,by simp [intOf];omega⟩;by_cases Tc:i=k
     ·subst Tc;exact of_decide_eq_true JO.out
     ·exact HE.out i (by omega)
    | false =>
     have hf:eb=false:=by
      rw [← PU.out];refine decide_eq_false fun e=>?_;have:=of_decide_eq_false JO.out;rw [e] at this;exact this rfl
     subst hf;go_wp2;go_ret;exact ⟨rfl,bI HB.out _⟩
   ·have E:k=n:=by omega
    have Bc:n≤k:=by omega
    have hf:eb=true:=by
     rw [← PU.out];exact decide_eq_true (rL HN.out HM.out (fun i hi=>HE.out i (by omega)))
    subst hf;clear Ae E;go_wp2;go_ret;exact ⟨rfl,HB.out⟩
 ·have hd:decide (L=M)=false:=decide_eq_false fun e=>QO (by rw [← hn,← hm,e]);rw [hd];have Ts:¬ ((n:Int)=(m:Int)):=by omega
  clear hn hm hd;go_enter func13,ntmps13;go_wp2;go_ret;exact ⟨rfl,Below.refl _ _⟩
end
section
open Go.RowKit
theorem jf (n:Int) (w:World):qc 132 #[.int .i64 n] w fun e w'=>e = .returned (.bool (Rg.num n))∧w=w':=by
 rw [tL];by_cases h1:n≥1
 ·by_cases h2:n≤1099511627776
  ·rw [decide_eq_true (show 1≤n from h1),decide_eq_true h2];go_enter func132,ntmps132;go_wp2;go_ret;exact ⟨rfl,rfl⟩
  ·rw [decide_eq_true (show 1≤n from h1),decide_eq_false h2];go_enter func132,ntmps132;go_wp2;go_ret;exact ⟨rfl,rfl⟩
 ·rw [decide_eq_false (show ¬ 1≤n from h1),Bool.false_and];go_enter func132,ntmps132;go_wp2;go_ret;exact ⟨rfl,rfl⟩
theorem jB (s l:Int) (w:World):qc 133 #[Pv s l] w (dQ (Rg.nG s l) w):=by
 have B0:Hid (qw w (w.alloc (.cells #[.int .i64 s,.int .i64 l] 43))):=qb w _;rw [u4];have e:(decide (0≤s)&&decide (s≤31)&&(decide (0≤l)&&decide (l≤63)))=(decide (0≤s)&&(decide (s<32)&&(decide (0≤l)&&decide (l<64)))):=by
  have h1:decide (s≤31)=decide (s<32):=by congr 1;simp;omega
  have h2:decide (l≤63)=decide (l<64):=by congr 1;simp;omega
  rw [h1,h2,Bool.and_assoc]
 rw [e];clear e;by_cases h1:s≥0
 ·rw [decide_eq_true (show 0≤s from h1),Bool.true_and];by_cases h2:s<32
  ·rw [decide_eq_true h2,Bool.true_and];by_cases h3:l≥0
   ·rw [decide_eq_true (show 0≤l from h3),Bool.true_and];by_cases h4:l<64
    ·rw [decide_eq_true h4];go_enter func133,ntmps133;go_wp2;go_ret;exact ⟨rfl,B0.out⟩
    ·rw [decide_eq_false h4];go_enter func133,ntmps133;go_wp2;go_ret;exact ⟨rfl,B0.out⟩
   ·rw [decide_eq_false (show ¬ 0≤l from h3),Bool.false_and];go_enter func133,ntmps133;go_wp2;go_ret;exact ⟨rfl,B0.out⟩
  ·rw [decide_eq_false h2,Bool.false_and];go_enter func133,ntmps133;go_wp2;go_ret;exact ⟨rfl,B0.out⟩
 ·rw [decide_eq_false (show ¬ 0≤s from h1),Bool.false_and];go_enter func133,ntmps133;go_wp2;go_ret;exact ⟨rfl,B0.out⟩
theorem aa3 {r:Int × List Int} (h0:r.1=0) (hr:r.2.length=32):((∀ j,j<32→r.2.getD j 0=0)→Rg.root r=true)∧(∀ j,j<32→r.2.getD j 0 ≠ 0→Rg.root r=false):=by
 rw [lK,decide_eq_false (show ¬ 3≤r.1 by omega),Bool.false_and,Bool.or_false];obtain ⟨k,S⟩:=r;constructor
 ·intro h;refine decide_eq_true ?_;unfold Rg.zr Rg.dW;refine Prod.ext h0 ?_;apply List.ext_getElem (by rw [List.length_replicate];exact hr)
  intro i h1 h2;rw [List.getElem_replicate];have h3:=h i (by rw [← hr];exact h1);rw [List.getD_eq_getElem?_getD,List.getElem?_eq_getElem h1] at h3;exact h3
 ·intro j hj Cq;refine decide_eq_false fun h=>Cq ?_;have h2:S=Rg.zr.2:=congrArg Prod.snd h;unfold Rg.zr Rg.dW at h2;show S.getD j 0=0;rw [h2,List.getD_eq_getElem?_getD,List.getElem?_replicate,if_pos hj]
  rfl
theorem aez {r:Int × List Int} (h0:r.1 ≠ 0):Rg.root r=(decide (3≤r.1)&&decide (r.1≤4095)):=by
 rw [lK,decide_eq_false (fun h=>h0 (by rw [h];unfold Rg.zr;rfl)),Bool.false_or]
theorem aeF (r:Rg.R):Rg.may r=(Rg.num r.gen&&(Rg.num r.st&&(Rg.num r.ep&&(Rg.nG r.bs r.bl&&(Rg.nG r.ts r.tl&&Rg.root r.rt))))):=by
 rw [o7];cases Rg.num r.gen<;>cases Rg.num r.st<;>cases Rg.num r.ep<;>cases Rg.root r.rt<;>cases Rg.nG r.bs r.bl<;>cases Rg.nG r.ts r.tl<;>rfl
theorem mF (r:Rg.R) (h:Rg.Ok r) (w:World):qc 97 #[RV r] w (dQ (Rg.may r) w):=by
 obtain ⟨A,SU,RT,B1,B2,eA,hk⟩:=s7 h;have H0:Hid (∀ y,qc 132 #[.int .i64 r.gen] y fun e w'=>e = .returned (.bool (Rg.num r.gen))∧y=w'):=fun y=>jf r.gen y;have H1:Hid (∀ y,qc 132 #[.int .i64 r.st] y fun e w'=>e = .returned (.bool (Rg.num r.st))∧y=w'):=fun y=>jf r.st y;have H2:Hid (∀ y,qc 132 #[.int .i64 r.ep] y fun e w'=>e = .returned (.bool (Rg.num r.ep))∧y=w'):=fun y=>jf r.ep y;have H4:Hid (∀ y,qc 133 #[Pv r.bs r.bl] y (dQ (Rg.nG r.bs r.bl) y)):=fun y=>jB r.bs r.bl y;have H5:Hid (∀ y,qc 133 #[Pv r.ts r.tl] y (dQ (Rg.nG r.ts r.tl) y)):=fun y=>jB r.ts r.tl y;obtain ⟨w0,Ah⟩:∃ x,x=w.alloc (.cells A 45):=⟨_,rfl⟩;have R0:Hid (w0.heap[w.heap.size]?=qo A 45):=by rw [Ah];exact heap_alloc_new w _
 have B0:Hid (qw w w0):=by rw [Ah];exact qb w _
 have BR:Hid (qw w0 w0):=Below.refl _ _;have HR:Hid (∀ y,qw w0 y→y.heap[w.heap.size]?=qo A 45):=fun y hy=>(hy.block _ (lt_of_block R0.out)).trans R0.out;have HI:Hid (∀ y,qw w0 y→_):=fun y hy=>hk.ints y w.heap.size _ (HR.out y hy);have HT:Hid (∀ y,qw w0 y→∀ k,k<32→y.cell? ⟨w.heap.size,36+k,none⟩=some (.int .u8 (r.rt.2.getD k 0))):=fun y hy=>hk.root y w.heap.size _ (HR.out y hy);have HL:Hid (∀ y,qw w0 y→qw w y):=fun y hy=>B0.out.trans (hy.mono B0.out.size);obtain ⟨c0,c1,c2,_,c68,c69,_,_⟩:=HI.out _ BR.out;have h1:=hk.one;have Aw:=qh hk.size;have DL:Hid (r.rt.1=0→((∀ j,j<32→r.rt.2.getD j 0=0)→Rg.root r.rt=true)∧(∀ j,j<32→r.rt.2.getD j 0 ≠ 0→Rg.root r.rt=false)):=fun q=>aa3 q h.rt.2.1;have Dj:Hid (r.rt.1 ≠ 0→Rg.root r.rt=(decide (3≤r.rt.1)&&decide (r.rt.1≤4095))):=fun q=>aez q;rw [eA,aeF];clear hk h eA;obtain ⟨gen,st,ep,su,rt,bs,bl,ts,tl,b1,b2⟩:=r;dsimp only at *;generalize Rg.num gen=n0 at *;generalize Rg.num st=n1 at *;generalize Rg.num ep=n2 at *;generalize Rg.nG bs bl=n4 at *;generalize Rg.nG ts tl=n5 at *;cases n0 with
 | false =>
  go_enter func97,ntmps97;go_upto_region 1 with (fail)
  change Code.wp _ _ _ _ (w.alloc (.cells A 45));rw [← Ah];clear Ah;go_wp2_with (first
     | (go_at_call 132;with_reducible refine (H0.out _).mono ?_;rintro e0 w0 ⟨rfl,rfl⟩)
     | (go_at_call 132;with_reducible refine (H1.out _).mono ?_;rintro e1 w1 ⟨rfl,rfl⟩)
     | (go_at_call 132;with_reducible refine (H2.out _).mono ?_;rintro e2 w2 ⟨rfl,rfl⟩)
     | (go_at_call 133;have TT:=B4.out;refine (H5.out _).mono ?_;rintro e5 w5 ⟨rfl,Ay⟩;have B5:=qh (B4.out.trans (Ay.out.mono B4.out.size)))
     | (go_at_call 133;refine (H4.out _).mono ?_;rintro e4 w4 ⟨rfl,Av⟩;have B4:=qh (BR.out.trans (Av.out.mono BR.out.size));obtain ⟨_,_,_,_,g68,g69,g70,g71⟩:=HI.out _ B4.out))
  go_ret;exact ⟨by first | rfl | simp,HL.out _ BR.out⟩
 | true =>
  cases n1 with
  | false =>
   go_enter func97,ntmps97;go_upto_region 1 with (fail)
   change Code.wp _ _ _ _ (w.alloc (.cells A 45));rw [← Ah];clear Ah;go_wp2_with (first
      | (go_at_call 132;with_reducible refine (H0.out _).mono ?_;rintro e0 w0 ⟨rfl,rfl⟩)
      | (go_at_call 132;with_reducible refine (H1.out _).mono ?_;rintro e1 w1 ⟨rfl,rfl⟩)
      | (go_at_call 132;with_reducible refine (H2.out _).mono ?_;rintro e2 w2 ⟨rfl,rfl⟩)
      | (go_at_call 133;have TT:=B4.out;refine (H5.out _).mono ?_;rintro e5 w5 ⟨rfl,Ay⟩;have B5:=qh (B4.out.trans (Ay.out.mono B4.out.size)))
      | (go_at_call 133;refine (H4.out _).mono ?_;rintro e4 w4 ⟨rfl,Av⟩;have B4:=qh (BR.out.trans (Av.out.mono BR.out.size));obtain ⟨_,_,_,_,g68,g69,g70,g71⟩:=HI.out _ B4.out))
   go_ret;exact ⟨by first | rfl | simp,HL.out _ BR.out⟩
  | true =>
   cases n2 with
   | false =>
    go_enter func97,ntmps97;go_upto_region 1 with (fail)
    change Code.wp _ _ _ _ (w.alloc (.cells A 45));rw [← Ah];clear Ah;go_wp2_with (first
       | (go_at_call 132;with_reducible refine (H0.out _).mono ?_;rintro e0 w0 ⟨rfl,rfl⟩)
       | (go_at_call 132;with_reducible refine (H1.out _).mono ?_;rintro e1 w1 ⟨rfl,rfl⟩)
       | (go_at_call 132;with_reducible refine (H2.out _).mono ?_;rintro e2 w2 ⟨rfl,rfl⟩)
       | (go_at_call 133;have TT:=B4.out;refine (H5.out _).mono ?_;rintro e5 w5 ⟨rfl,Ay⟩;have B5:=qh (B4.out.trans (Ay.out.mono B4.out.size)))
       | (go_at_call 133;refine (H4.out _).mono ?_;rintro e4 w4 ⟨rfl,Av⟩;have B4:=qh (BR.out.trans (Av.out.mono BR.out.size));obtain ⟨_,_,_,_,g68,g69,g70,g71⟩:=HI.out _ B4.out))
    go_ret;exact ⟨by first | rfl | simp,HL.out _ BR.out⟩
   | true =>
    cases n4 with
    | false =>
     go_enter func97,ntmps97;go_upto_region 1 with (fail)
     change Code.wp _ _ _ _ (w.alloc (.cells A 45));rw [← Ah];clear Ah;go_wp2_with (first
        | (go_at_call 132;with_reducible refine (H0.out _).mono ?_;rintro e0 w0 ⟨rfl,rfl⟩)
        | (go_at_call 132;with_reducible refine (H1.out _).mono ?_;rintro e1 w1 ⟨rfl,rfl⟩)
        | (go_at_call 132;with_reducible refine (H2.out _).mono ?_;rintro e2 w2 ⟨rfl,rfl⟩)
        | (go_at_call 133;have TT:=B4.out;refine (H5.out _).mono ?_;rintro e5 w5 ⟨rfl,Ay⟩;have B5:=qh (B4.out.trans (Ay.out.mono B4.out.size)))
        | (go_at_call 133;refine (H4.out _).mono ?_;rintro e4 w4 ⟨rfl,Av⟩;have B4:=qh (BR.out.trans (Av.out.mono BR.out.size));obtain ⟨_,_,_,_,g68,g69,g70,g71⟩:=HI.out _ B4.out))
     go_ret;exact ⟨by first | rfl | simp,HL.out _ B4.out⟩
    | true =>
     cases n5 with
     | false =>
      go_enter func97,ntmps97;go_upto_region 1 with (fail)
      change Code.wp _ _ _ _ (w.alloc (.cells A 45));rw [← Ah];clear Ah;go_wp2_with (first
         | (go_at_call 132;with_reducible refine (H0.out _).mono ?_;rintro e0 w0 ⟨rfl,rfl⟩)
         | (go_at_call 132;with_reducible refine (H1.out _).mono ?_;rintro e1 w1 ⟨rfl,rfl⟩)
         | (go_at_call 132;with_reducible refine (H2.out _).mono ?_;rintro e2 w2 ⟨rfl,rfl⟩)
         | (go_at_call 133;have TT:=B4.out;refine (H5.out _).mono ?_;rintro e5 w5 ⟨rfl,Ay⟩;have B5:=qh (B4.out.trans (Ay.out.mono B4.out.size)))
         | (go_at_call 133;refine (H4.out _).mono ?_;rintro e4 w4 ⟨rfl,Av⟩;have B4:=qh (BR.out.trans (Av.out.mono BR.out.size));obtain ⟨_,_,_,_,g68,g69,g70,g71⟩:=HI.out _ B4.out))
      go_ret;exact ⟨by first | rfl | simp,HL.out _ B5.out⟩
     | true =>
      simp only [Bool.true_and];by_cases h0:rt.1=0
      ·have HQ:=qh (DL.out h0);clear DL Dj;generalize Rg.root rt=q at *;go_enter func97,ntmps97;go_upto_region 1 with (fail)
       change Code.wp _ _ _ _ (w.alloc (.cells A 45));rw [← Ah];clear Ah;go_upto_region 3 with (first
          | (go_at_call 132;with_reducible refine (H0.out _).mono ?_;rintro e0 w0 ⟨rfl,rfl⟩)
          | (go_at_call 132;with_reducible refine (H1.out _).mono ?_;rintro e1 w1 ⟨rfl,rfl⟩)
          | (go_at_call 132;with_reducible refine (H2.out _).mono ?_;rintro e2 w2 ⟨rfl,rfl⟩)
          | (go_at_call 133;have TT:=B4.out;refine (H5.out _).mono ?_;rintro e5 w5 ⟨rfl,Ay⟩;have B5:=qh (B4.out.trans (Ay.out.mono B4.out.size)))
          | (go_at_call 133;refine (H4.out _).mono ?_;rintro e4 w4 ⟨rfl,Av⟩;have B4:=qh (BR.out.trans (Av.out.mono BR.out.size));obtain ⟨_,_,_,_,g68,g69,g70,g71⟩:=HI.out _ B4.out))
       obtain ⟨_,_,_,g35,_,_,_,_⟩:=HI.out _ B5.out;rw [h0] at g35;go_upto_region 5 with (fail)
       clear H0 H1 H2 H4 H5 c0 c1 c2 c68 c69;go_loopw [3] (fun v3 wr=>∃ k:Nat,k≤32∧v3 = .int .i64 k∧wr=w5∧Hid (∀ j,j<k→rt.2.getD j 0=0)) (fun v3 _=>32-(intOf v3).toNat)
       case atStart=>exact ⟨0,by omega,rfl,rfl,fun j hj=>by omega⟩
       case round =>
        obtain ⟨k,hk,rfl,rfl,HZ⟩:=hrel;by_cases Ae:k<32
        ·have hx:(k:Int)<32:=by omega
         have GU:(0:Int)≤(k:Int):=by omega
         have ck:=HT.out _ B5.out k Ae;by_cases hb:rt.2.getD k 0=0
         ·rw [hb] at ck;have ED:Hid (∀ j,j<k+1→rt.2.getD j 0=0):=fun j hj=>by
           by_cases e:j=k
           ·rw [e];exact hb
           ·exact HZ.out j (by omega)
          clear hb HZ;go_wp2;exact ⟨⟨k+1,by omega,by go_num,trivial,ED.out⟩,by simp [intOf];omega⟩
         ·obtain rfl:q=false:=HQ.out.2 k Ae hb;have Al:(rt.2.getD k 0==0)=false:=by simpa using hb
          have As:(rt.2.getD k 0 != 0)=true:=by simpa using hb
          generalize rt.2.getD k 0=x at *;go_wp2;go_ret;exact ⟨rfl,HL.out _ B5.out⟩
        ·obtain rfl:k=32:=by omega
         obtain rfl:q=true:=HQ.out.1 HZ.out;clear Ae HZ;go_wp2;go_ret;exact ⟨rfl,HL.out _ B5.out⟩
      ·rw [Dj.out h0];have h0b:(rt.1==0)=false:=by simpa using h0
       clear DL Dj HT;obtain ⟨k,S⟩:=rt;dsimp only at *;by_cases h3:k≥3
       ·rw [decide_eq_true (show 3≤k from h3),Bool.true_and];by_cases h4:k<4096
        ·rw [decide_eq_true (show k≤4095 by omega)];go_enter func97,ntmps97;go_upto_region 1 with (fail)
         change Code.wp _ _ _ _ (w.alloc (.cells A 45));rw [← Ah];clear Ah;go_upto_region 3 with (first
            | (go_at_call 132;with_reducible refine (H0.out _).mono ?_;rintro e0 w0 ⟨rfl,rfl⟩)
            | (go_at_call 132;with_reducible refine (H1.out _).mono ?_;rintro e1 w1 ⟨rfl,rfl⟩)
            | (go_at_call 132;with_reducible refine (H2.out _).mono ?_;rintro e2 w2 ⟨rfl,rfl⟩)
            | (go_at_call 133;have TT:=B4.out;refine (H5.out _).mono ?_;rintro e5 w5 ⟨rfl,Ay⟩;have B5:=qh (B4.out.trans (Ay.out.mono B4.out.size)))
            | (go_at_call 133;refine (H4.out _).mono ?_;rintro e4 w4 ⟨rfl,Av⟩;have B4:=qh (BR.out.trans (Av.out.mono BR.out.size));obtain ⟨_,_,_,_,g68,g69,g70,g71⟩:=HI.out _ B4.out))
         obtain ⟨_,_,_,g35,_,_,_,_⟩:=HI.out _ B5.out;go_wp2;go_ret;exact ⟨rfl,HL.out _ B5.out⟩
        ·rw [decide_eq_false (show ¬ k≤4095 by omega)];go_enter func97,ntmps97;go_upto_region 1 with (fail)
         change Code.wp _ _ _ _ (w.alloc (.cells A 45));rw [← Ah];clear Ah;go_upto_region 3 with (first
            | (go_at_call 132;with_reducible refine (H0.out _).mono ?_;rintro e0 w0 ⟨rfl,rfl⟩)
            | (go_at_call 132;with_reducible refine (H1.out _).mono ?_;rintro e1 w1 ⟨rfl,rfl⟩)
            | (go_at_call 132;with_reducible refine (H2.out _).mono ?_;rintro e2 w2 ⟨rfl,rfl⟩)
            | (go_at_call 133;have TT:=B4.out;refine (H5.out _).mono ?_;rintro e5 w5 ⟨rfl,Ay⟩;have B5:=qh (B4.out.trans (Ay.out.mono B4.out.size)))
            | (go_at_call 133;refine (H4.out _).mono ?_;rintro e4 w4 ⟨rfl,Av⟩;have B4:=qh (BR.out.trans (Av.out.mono BR.out.size));obtain ⟨_,_,_,_,g68,g69,g70,g71⟩:=HI.out _ B4.out))
         obtain ⟨_,_,_,g35,_,_,_,_⟩:=HI.out _ B5.out;go_wp2;go_ret;exact ⟨by first | rfl | simp [h4],HL.out _ B5.out⟩
       ·rw [decide_eq_false (show ¬ 3≤k from h3),Bool.false_and];go_enter func97,ntmps97;go_upto_region 1 with (fail)
        change Code.wp _ _ _ _ (w.alloc (.cells A 45));rw [← Ah];clear Ah;go_upto_region 3 with (first
           | (go_at_call 132;with_reducible refine (H0.out _).mono ?_;rintro e0 w0 ⟨rfl,rfl⟩)
           | (go_at_call 132;with_reducible refine (H1.out _).mono ?_;rintro e1 w1 ⟨rfl,rfl⟩)
           | (go_at_call 132;with_reducible refine (H2.out _).mono ?_;rintro e2 w2 ⟨rfl,rfl⟩)
           | (go_at_call 133;have TT:=B4.out;refine (H5.out _).mono ?_;rintro e5 w5 ⟨rfl,Ay⟩;have B5:=qh (B4.out.trans (Ay.out.mono B4.out.size)))
           | (go_at_call 133;refine (H4.out _).mono ?_;rintro e4 w4 ⟨rfl,Av⟩;have B4:=qh (BR.out.trans (Av.out.mono BR.out.size));obtain ⟨_,_,_,_,g68,g69,g70,g71⟩:=HI.out _ B4.out))
        obtain ⟨_,_,_,g35,_,_,_,_⟩:=HI.out _ B5.out;go_wp2;go_ret;exact ⟨by first | rfl | simp,HL.out _ B5.out⟩
end
section
open Go.RowKit
theorem aeA (r:Rg.R) (h:Rg.Ok r) (hn:Rg.may r=false) (w:World):qc 52 #[RV r] w (qy w):=by
 obtain ⟨A,SU,RT,B1,B2,eA,hk⟩:=s7 h;have Ds:Hid (∀ y,qc 97 #[.agg A] y (dQ false y)):=fun y=>by
  have:=mF r h y;rw [hn,eA] at this;exact this
 rw [eA];have Aw:=qh hk.size;have h1:=hk.one;have R0:Hid ((w.alloc (.cells A 45)).heap[w.heap.size]?=qo A 45):=heap_alloc_new w _;have B0:Hid (qw w (w.alloc (.cells A 45))):=qb w _;clear hk h eA hn;go_enter func52,ntmps52;go_wp2_with (first
   | ((with_reducible refine ay _ _ _ _ _ _ _ ?_ R0.out underlying45 ?_ (ae Tryz.ah Aw) ?_);(exact rfl);(exact rfl))
   | (go_at_call 97;refine (Ds.out _).mono ?_;rintro e1 w1 ⟨rfl,Ai⟩;have B1:=qh (B0.out.trans (Ai.out.mono B0.out.size))))
 go_ret2;exact ⟨rfl,B1.out⟩
namespace Rg
def four (r:R) (k:Nat):Int:=[r.bs,r.bl,r.ts,r.tl].getD k 0
end Rg
theorem aaa (r:Rg.R) (h:Rg.Ok r) (hn:Rg.may r=true) (w:World):qc 52 #[RV r] w (eW (Rg.pt r) w):=by
 obtain ⟨A,SU,RT,B1,B2,eA,hk⟩:=s7 h;have Ds:Hid (∀ y,qc 97 #[.agg A] y (dQ true y)):=fun y=>by
  have:=mF r h y;rw [hn,eA] at this;exact this
 have H0:Hid (∀ y,qc 98 #[.slice none 0 0,.int .i64 r.gen] y (aX (Rg.bE r 1) 8 y)):=fun y=>by
  have:=b9 [] r.gen none 0 0 8 rfl rfl (by omega) y (dx y);rw [Rg.st0] at this;exact this
 have H1:Hid (∀ y q d,Bs y q d (Rg.bE r 1)→qc 98 #[.slice q 8 d,.int .i64 r.st] y (aX (Rg.bE r 2) 16 y)):=fun y q d hy=>by
  have:=b9 (Rg.bE r 1) r.st q 8 d 16 (Rg.pl1 h) rfl (by omega) y hy;rw [Rg.st1] at this;exact this
 have H2:Hid (∀ y q d,Bs y q d (Rg.bE r 2)→qc 98 #[.slice q 16 d,.int .i64 r.ep] y (aX (Rg.bE r 3) 24 y)):=fun y q d hy=>by
  have:=b9 (Rg.bE r 2) r.ep q 16 d 24 (Rg.pl2 h) rfl (by omega) y hy;rw [Rg.st2] at this;exact this
 have H3:Hid (∀ y q d,Bs y q d (Rg.bE r 3)→qc 99 #[.slice q 24 d,.agg SU] y (aX (Rg.bE r 4) 56 y)):=fun y q d hy=>by
  have:=gz (Rg.bE r 3) r.su h.su.1 h.su.2 q 24 d 56 (Rg.pl3 h) rfl (by omega) y hy;rw [Rg.st3,hk.vals.1] at this;exact this
 have H4:Hid (∀ y q d,Bs y q d (Rg.bE r 4)→qc 100 #[.slice q 56 d,.agg RT] y (aX (Rg.bE r 5) 96 y)):=fun y q d hy=>by
  have:=uY (Rg.bE r 4) r.rt h.rt.2.1 h.rt.2.2 q 56 d 96 (Rg.pl4 h) rfl (by omega) y hy;rw [Rg.st4,hk.vals.2.1] at this;exact this
 have H5:Hid (∀ y q d,Bs y q d (Rg.bE r 5)→qc 98 #[.slice q 96 d,.int .i64 r.bs] y (aX (Rg.bE r 6) 104 y)):=fun y q d hy=>by
  have:=b9 (Rg.bE r 5) r.bs q 96 d 104 (Rg.pl5 h) rfl (by omega) y hy;rw [Rg.st5] at this;exact this
 have H6:Hid (∀ y q d,Bs y q d (Rg.bE r 6)→qc 98 #[.slice q 104 d,.int .i64 r.bl] y (aX (Rg.bE r 7) 112 y)):=fun y q d hy=>by
  have:=b9 (Rg.bE r 6) r.bl q 104 d 112 (Rg.pl6 h) rfl (by omega) y hy;rw [Rg.st6] at this;exact this
 have H7:Hid (∀ y q d,Bs y q d (Rg.bE r 7)→qc 98 #[.slice q 112 d,.int .i64 r.ts] y (aX (Rg.bE r 8) 120 y)):=fun y q d hy=>by
  have:=b9 (Rg.bE r 7) r.ts q 112 d 120 (Rg.pl7 h) rfl (by omega) y hy;rw [Rg.st7] at this;exact this
 have H8:Hid (∀ y q d,Bs y q d (Rg.bE r 8)→qc 98 #[.slice q 120 d,.int .i64 r.tl] y (aX (Rg.bE r 9) 128 y)):=fun y q d hy=>by
  have:=b9 (Rg.bE r 8) r.tl q 120 d 128 (Rg.pl8 h) rfl (by omega) y hy;rw [Rg.st8] at this;exact this
 have H9:Hid (∀ y q d,Bs y q d (Rg.bE r 9)→qc 99 #[.slice q 128 d,.agg B1] y (aX (Rg.bE r 10) 160 y)):=fun y q d hy=>by
  have:=gz (Rg.bE r 9) r.b1 h.b1.1 h.b1.2 q 128 d 160 (Rg.pl9 h) rfl (by omega) y hy;rw [Rg.st9,hk.vals.2.2.1] at this;exact this
 have MH:Hid (∀ y q d,Bs y q d (Rg.bE r 10)→qc 99 #[.slice q 160 d,.agg B2] y (aX (Rg.bE r 11) 192 y)):=fun y q d hy=>by
  have:=gz (Rg.bE r 10) r.b2 h.b2.1 h.b2.2 q 160 d 192 (Rg.ai7 h) rfl (by omega) y hy;rw [Rg.ahD,hk.vals.2.2.2] at this;exact this
 have HF:Hid (∀ k,k<4→∀ y q d,Bs y q d (Rg.bE r (5+k))→qc 98 #[.slice q (96+8*k) d,.int .i64 (Rg.four r k)] y (aX (Rg.bE r (5+(k+1))) (96+8*(k+1)) y)):=fun k hk=>by
  match k,hk with
  | 0,_=>exact H5.out
  | 1,_=>exact H6.out
  | 2,_=>exact H7.out
  | 3,_=>exact H8.out
 have NT:Hid (∀ (y:World) (g k:Nat),k<4→y.heap[g]?=qo #[.int .i64 r.bs,.int .i64 r.bl,.int .i64 r.ts,.int .i64 r.tl] 3→y.cell? ⟨g,k,none⟩=some (.int .i64 (Rg.four r k))):=fun y g k hk hg=>by
  rw [cell_of_row y g k _ _ _ hg]
  match k,hk with
  | 0,_=>rfl
  | 1,_=>rfl
  | 2,_=>rfl
  | 3,_=>rfl
 rw [eA];have Aw:=qh hk.size;have HX:=qh hk.ints;have CC:=qh hk.rngs;have JK:=qh hk.sizes.1;have JJ:=qh hk.sizes.2.1;have JH:=qh hk.sizes.2.2.1;have JI:=qh hk.sizes.2.2.2;have CI:Hid (∀ e w',eW (Rg.bE r 11) w e w'→eW (Rg.pt r) w e w'):=fun e w' q=>by rw [← Rg.ahL];exact q
 have h1:=hk.one;have R0:Hid ((w.alloc (.cells A 45)).heap[w.heap.size]?=qo A 45):=heap_alloc_new w _;have B0:Hid (qw w (w.alloc (.cells A 45))):=qb w _;clear hk h eA hn H5 H6 H7 H8;refine Calls.mono ?_ (fun e w' q=>CI.out e w' q);go_enter func52,ntmps52;go_upto_region 3 with (first
   | ((with_reducible refine ay _ _ _ _ _ _ _ ?_ R0.out underlying45 ?_ (ae Tryz.ah Aw) ?_);(exact rfl);(exact rfl))
   | (go_at_call 97;refine (Ds.out _).mono ?_;rintro e1 w1 ⟨rfl,Ai⟩))
 have Bw1:Hid (qw w w1):=B0.out.trans (Ai.out.mono B0.out.size);have Gw1:Hid (w1.heap[w.heap.size]?=qo A 45):=(Ai.out.block _ (lt_of_block R0.out)).trans R0.out;clear Ai R0 B0 Ds;obtain ⟨c0,_,_,_,_,_,_,_⟩:=HX.out _ _ _ Gw1.out;go_upto_region 8 with (first
   | (go_at_call 100;have TT:=HBw5.out;refine (H4.out _ _ _ HBw5.out).mono ?_;rintro e6 w6 ⟨p6,c6',rfl,FY,HBw6,JA⟩;have Bw6:Hid (qw w w6):=Bw5.out.trans (JA.out.mono Bw5.out.size);have Gw6:Hid (w6.heap[w.heap.size]?=qo A 45):=(JA.out.block _ (lt_of_block Gw5.out)).trans Gw5.out;skip)
   | ((with_reducible refine fR _ _ w.heap.size 35 RT _ ?_ (CC.out _ _ _ Gw5.out).2.1 underlying41 ?_ (ae Tryz.bm JJ) ?_);(first | exact rfl | go_simp);(exact rfl))
   | (go_at_call 99;have TT:=HBw4.out;refine (H3.out _ _ _ HBw4.out).mono ?_;rintro e5 w5 ⟨p5,c5',rfl,HO5,HBw5,Ei⟩;have Bw5:Hid (qw w w5):=Bw4.out.trans (Ei.out.mono Bw4.out.size);have Gw5:Hid (w5.heap[w.heap.size]?=qo A 45):=(Ei.out.block _ (lt_of_block Gw4.out)).trans Gw4.out;skip)
   | ((with_reducible refine fR _ _ w.heap.size 3 SU _ ?_ (CC.out _ _ _ Gw4.out).1 underlying39 ?_ (ae Tryz.ar JK) ?_);(first | exact rfl | go_simp);(exact rfl))
   | (go_at_call 98;have TT:=HBw3.out;refine (H2.out _ _ _ HBw3.out).mono ?_;rintro e4 w4 ⟨p4,c4',rfl,Ct,HBw4,Jz⟩;have Bw4:Hid (qw w w4):=Bw3.out.trans (Jz.out.mono Bw3.out.size);have Gw4:Hid (w4.heap[w.heap.size]?=qo A 45):=(Jz.out.block _ (lt_of_block Gw3.out)).trans Gw3.out;skip)
   | (go_at_call 98;have TT:=HBw2.out;refine (H1.out _ _ _ HBw2.out).mono ?_;rintro e3 w3 ⟨p3,c3',rfl,Cg,HBw3,AV⟩;have Bw3:Hid (qw w w3):=Bw2.out.trans (AV.out.mono Bw2.out.size);have Gw3:Hid (w3.heap[w.heap.size]?=qo A 45):=(AV.out.block _ (lt_of_block Gw2.out)).trans Gw2.out;obtain ⟨_,_,c2,_,_,_,_,_⟩:=HX.out _ _ _ Gw3.out)
   | (go_at_call 98;refine (H0.out _).mono ?_;rintro e2 w2 ⟨p2,c2',rfl,AA,HBw2,AD⟩;have Bw2:Hid (qw w w2):=Bw1.out.trans (AD.out.mono Bw1.out.size);have Gw2:Hid (w2.heap[w.heap.size]?=qo A 45):=(AD.out.block _ (lt_of_block Gw1.out)).trans Gw1.out;obtain ⟨_,c1,_,_,_,_,_,_⟩:=HX.out _ _ _ Gw2.out))
 have OW6:=qh (dO FY.out Bw5.out.size);obtain ⟨_,_,_,_,c68,c69,c70,c71⟩:=HX.out _ _ _ Gw6.out;clear H0 H1 H2 H3 H4 Bw1 Bw2 Bw3 Bw4 Bw5 Gw1 Gw2 Gw3 Gw4 Gw5 HBw2 HBw3 HBw4 HBw5 AA Cg Ct HO5 FY AD AV Jz Ei JA c0 c1 c2;go_upto_region 9 with (fail)
 obtain ⟨w7,Ji⟩:∃ y,y=w6.alloc (.cells #[.int .i64 r.bs,.int .i64 r.bl,.int .i64 r.ts,.int .i64 r.tl] 3):=⟨_,rfl⟩;have BE:qw w6 (w6.alloc (.cells #[.int .i64 r.bs,.int .i64 r.bl,.int .i64 r.ts,.int .i64 r.tl] 3)):=qb w6 _;have Bw7:Hid (qw w w7):=by rw [Ji];exact Bw6.out.trans (BE.mono Bw6.out.size)
 have Gw7:Hid (w7.heap[w.heap.size]?=qo A 45):=by rw [Ji];exact (BE.block _ (lt_of_block Gw6.out)).trans Gw6.out
 have OW7:Hid (w7.ownsRow w.heap.size 5 1 (.slice p6 96 c6') 96 (aC (Rg.bE r 5))):=by rw [Ji];exact aN OW6.out BE
 have HBw7:Hid (Bs w7 p6 c6' (Rg.bE r 5)):=by rw [Ji];exact HBw6.out.av BE
 have LW7:Hid (w7.heap[w6.heap.size]?=qo #[.int .i64 r.bs,.int .i64 r.bl,.int .i64 r.ts,.int .i64 r.tl] 3):=by rw [Ji];exact heap_alloc_new w6 _
 change Code.wp _ _ _ _ (w6.alloc (.cells #[.int .i64 r.bs,.int .i64 r.bl,.int .i64 r.ts,.int .i64 r.tl] 3));rw [← Ji];clear Ji BE Bw6 Gw6 OW6 HBw6 c68 c69 c70 c71;generalize w6.heap.size=gl at *;go_wp2;go_loopw [4,6] (fun v4 v6 wr=>∃ (k:Nat) (q:Option Addr) (d:Nat),k≤4∧v6 = .int .i64 k∧v4 = .slice q (96+8*k) d∧Hid (wr.ownsRow w.heap.size 5 1 (.slice q (96+8*k) d) (96+8*k) (aC (Rg.bE r (5+k))))∧Hid (Bs wr q d (Rg.bE r (5+k)))∧Hid (qw w wr)∧Hid (wr.heap[w.heap.size]?=qo A 45)∧Hid (wr.heap[gl]?=qo #[.int .i64 r.bs,.int .i64 r.bl,.int .i64 r.ts,.int .i64 r.tl] 3)) (fun _ v6 _=>4-(intOf v6).toNat)
 case atStart=>exact ⟨0,p6,c6',by omega,rfl,rfl,OW7.out,HBw7.out,Bw7.out,Gw7.out,LW7.out⟩
 case round =>
  clear Bw7 Gw7 OW7 HBw7 LW7;obtain ⟨k,q,d,hk,rfl,rfl,HO,HB,HL,HG,HI⟩:=hrel;by_cases Ae:k<4
  ·have hx:(k:Int)<4:=by omega
   have GU:(0:Int)≤(k:Int):=by omega
   have ck:=NT.out wr gl k Ae HI.out;have RC:=qh (HF.out k Ae wr q d HB.out);generalize Rg.four r k=x at *;clear HF NT Ae;go_wp2_with (go_at_call 98;refine RC.out.mono ?_;rintro e8 w8 ⟨p8,c8,rfl,MU,AQ,D9⟩)
   have Ib:Hid (qw w w8):=HL.out.trans (D9.out.mono HL.out.size);have Lh:=qh (dO MU.out HL.out.size);have RM:=qh ((D9.out.block _ (lt_of_block HG.out)).trans HG.out);have RX:=qh ((D9.out.block _ (lt_of_block HI.out)).trans HI.out);exact ⟨⟨k+1,p8,c8,by omega,by go_num,rfl,Lh.out,AQ.out,Ib.out,RM.out,RX.out⟩,by simp [intOf];omega⟩
  ·obtain rfl:k=4:=by omega
   clear Ae HF NT HO HI;have Bw10:=HL;have Gw10:=HG;have HBw10:Hid (Bs wr q d (Rg.bE r 9)):=HB;clear HL HG HB;go_wp2_with (first
    | (go_at_call 99;have TT:=HBw11.out;refine (MH.out _ _ _ HBw11.out).mono ?_;rintro e12 w12 ⟨p12,c12',rfl,Ie,HBw12,EX⟩;have Bw12:Hid (qw w w12):=Bw11.out.trans (EX.out.mono Bw11.out.size);have Gw12:Hid (w12.heap[w.heap.size]?=qo A 45):=(EX.out.block _ (lt_of_block Gw11.out)).trans Gw11.out)
    | ((with_reducible refine fR _ _ w.heap.size 104 B2 _ ?_ (CC.out _ _ _ Gw11.out).2.2.2 underlying39 ?_ (ae Tryz.ar JI) ?_);(first | exact rfl | go_simp);(exact rfl))
    | (go_at_call 99;have TT:=HBw10.out;refine (H9.out _ _ _ HBw10.out).mono ?_;rintro e11 w11 ⟨p11,c11',rfl,Lc,HBw11,DC⟩;have Bw11:Hid (qw w w11):=Bw10.out.trans (DC.out.mono Bw10.out.size);have Gw11:Hid (w11.heap[w.heap.size]?=qo A 45):=(DC.out.block _ (lt_of_block Gw10.out)).trans Gw10.out)
    | ((with_reducible refine fR _ _ w.heap.size 72 B1 _ ?_ (CC.out _ _ _ Gw10.out).2.2.1 underlying39 ?_ (ae Tryz.ar JH) ?_);(first | exact rfl | go_simp);(exact rfl)))
   have OW12:=qh (dO Ie.out Bw11.out.size);go_ret2;exact ⟨_,_,rfl,OW12.out,HBw12.out,Bw12.out⟩
end
end Go.Proofs.YthgjfjmampmiiaaGreatDoor

/-
  NaK, NaM, NaN, NaP, NaE (merged)
-/
import Derived.Test.YthgjfjmampmiiaaGreatDoorSe4
import Derived.Deep.Matrix
import Derived.Lib.BufferRead
namespace Go.Proofs.YthgjfjmampmiiaaGreatDoor
open Go.Proofs.Tryz
set_option maxHeartbeats 1000000
set_option maxRecDepth 100000
section
open Go.ChangeShapes Go.WideShapes Go.RowKit
theorem jc {H:Type} {enc:TypeId × Value→H} {W:World} {m:Nat} {c:Value} {x:DataW H × List MemPlace} (hf:DataW.trod enc prog W 0 (fun _=>true) true m 22 [c]=some x) :
  ∃ (L:List Int) (p:Option Addr) (cap:Nat),c = .slice p L.length cap∧Bs W p cap L:=by
 rcases open_ints underlying22 underlying5 Tryz.cells5 hf with ⟨A7,_⟩ | ⟨a,len,cap,zs,A7,_,hl,hm,hz,_,BK,QZ⟩
 ·obtain rfl:c = .slice none 0 0:=by simpa using A7
  exact ⟨[],none,0,rfl,dx W⟩
 ·obtain rfl:c = .slice (some a) len cap:=by simpa using A7
  simp only [if_true] at hz;have J3:(zs.take len).length=len:=by simp;omega
  refine ⟨zs.take len,some a,cap,by rw [J3],⟨fun x hx=>?_,fun h0=>?_⟩,⟨by omega,by unfold maxLen at hm;omega⟩,fun e=>by cases e⟩
  ·have h:=QZ x (List.mem_of_mem_take hx);simp [Lit.wf,IntKind.min,IntKind.max,IntKind.signed,IntKind.bits] at h;omega
  ·rw [J3] at h0 ⊢;obtain ⟨ab,ao,spot⟩:=a;have D5:spot=none:=by simpa [Addr.add] using World.cell?_spot (BK 0 (by omega))
   subst D5;refine ⟨ab,ao,rfl,fun j hj=>?_⟩;have h:=BK j (by omega);rw [Addr.add_mid] at h;rw [h];congr 2;simp [List.getD_eq_getElem?_getD,hj]
theorem adb {H:Type} {enc:TypeId × Value→H} {W:World} {base:Nat} {v:Value} {d:DataW H} {ps:List MemPlace} (Ca:Value.okWide prog W .any base 22 v)
  (h:DataW.Trod enc prog W 0 (fun _=>true) true 22 v d ps):∃ (L:List Int) (p:Option Addr) (cap:Nat),v = .slice p L.length cap∧Bs W p cap L:=by
 obtain ⟨a0,len,cap,rfl⟩:=okWide_slice underlying22 Ca;obtain ⟨fuel,hf⟩:=h;exact jc hf
end
section
open Go.ChangeShapes Go.WideShapes Go.RowKit
namespace Nm
def place {α:Type} [DecidableEq α] (x:α):List α→Nat
 | []=>0
 | y :: r=>if y=x then 1 else if place x r=0 then 0 else place x r+1
section
variable {α:Type} [DecidableEq α] {x y:α} {l m:List α} {k:Nat}
theorem mY:place x l=0↔x∉l:=by
 induction l with
 | nil=>simp [place]
 | cons z r ih =>
  rw [place];by_cases h:z=x
  ·simp [h]
  ·rw [if_neg h,List.mem_cons];by_cases h2:place x r=0
   ·simp [h2,ih.1 h2,Ne.symm h]
   ·rw [if_neg h2];have h3:x∈r:=by
     by_cases h4:x∈r
     ·exact h4
     ·exact absurd (ih.2 h4) h2
    simp [h3]
theorem rD:∀ {l:List α} {k:Nat},l.Nodup→l[k]?=some x→place x l=k+1
 | [],k,_,h=>by simp at h
 | z :: r,0,_,h=>by
  simp at h;simp [place,h]
 | z :: r,k+1,hn,h=>by
  rw [List.nodup_cons] at hn;have h':r[k]?=some x:=by simpa using h
  have hm:x∈r:=List.mem_of_getElem? h';have Cq:z ≠ x:=fun e=>hn.1 (e ▸ hm);have:=rD hn.2 h';rw [place,if_neg Cq,this];simp
theorem nN:place x (l++m)=if place x l=0 then (if place x m=0 then 0 else l.length+place x m) else place x l:=by
 induction l with
 | nil =>
  simp only [List.nil_append,place];by_cases h:place x m=0<;>simp [h]
 | cons z r ih =>
  rw [List.cons_append,place,place,ih];by_cases h:z=x
  ·simp [h]
  ·rw [if_neg h,if_neg h];by_cases h1:place x r=0
   ·rw [if_pos h1,if_pos h1];by_cases h2:place x m=0
    ·simp [h2]
    ·simp [h2];omega
   ·simp [h1]
def put (x:α) (l:List α):List α:=if place x l=0 then l++[x] else l
def num (x:α) (l:List α):Nat:=if place x l=0 then l.length+1 else place x l
theorem oD:place x (put x l)=num x l:=by
 unfold put num;by_cases h:place x l=0
 ·rw [if_pos h,if_pos h,nN,if_pos h];simp [place]
 ·rw [if_neg h,if_neg h]
theorem adE:0<num x l:=by unfold num;split<;>omega
theorem adB:(put x l).length≤l.length+1:=by unfold put;split<;>simp
theorem xN (h:place y l ≠ 0):place y (put x l)=place y l:=by
 unfold put;split
 ·rw [nN,if_neg h]
 ·rfl
theorem acn:place x (put x l) ≠ 0:=by rw [oD];have:=adE (x:=x) (l:=l);omega
theorem aaE (h:place x l ≠ 0):put x l=l:=by unfold put;rw [if_neg h]
theorem abB (h:place x l ≠ 0):num x l=place x l:=by unfold num;rw [if_neg h]
theorem acJ (h:place x l=0):num x l=l.length+1:=by unfold num;rw [if_pos h]
theorem aeZ (h:place x l=0):put x l=l++[x]:=by unfold put;rw [if_pos h]
end
def gR (l:List Int):ByteArray:=⟨(l.map fun i=>UInt8.ofNat i.toNat).toArray⟩
theorem aad (l:List Int):(gR l).size=l.length:=by simp [gR,ByteArray.size]
theorem xj:∀ {l m:List Int},ai.aY l→ai.aY m→gR l=gR m→l=m:=by
 intro l m hl hm h;have h1:l.map (fun i=>UInt8.ofNat i.toNat)=m.map (fun i=>UInt8.ofNat i.toNat):=by
  have:=congrArg (fun b:ByteArray=>b.data.toList) h;simpa [gR] using this
 have hlen:l.length=m.length:=by simpa using congrArg List.length h1
 apply List.ext_getElem hlen
 intro i h2 h3;have h4:=congrArg (fun q:List UInt8=>q[i]?) h1;simp only [List.getElem?_map,List.getElem?_eq_getElem h2,List.getElem?_eq_getElem h3,Option.map_some,Option.some.injEq] at h4;have a:=hl _ (List.getElem_mem h2);have b:=hm _ (List.getElem_mem h3);have h5:=congrArg UInt8.toNat h4;simp only [UInt8.toNat_ofNat'] at h5;omega
abbrev iZ:=Int × Int × List Int × List Int
def pI (x:iZ):Value:=.agg #[.int .i64 x.1,.int .i64 x.2.1,.string (gR x.2.2.1),.string (gR x.2.2.2)]
def kvs (t:List Int):Value:=.string (gR t)
def aT (n:Int):Prop:=-9223372036854775808≤n∧n≤9223372036854775807
def okt (t:List Int):Prop:=ai.aY t∧t.length≤9223372036854775807
def te (x:iZ):Prop:=aT x.1∧aT x.2.1∧okt x.2.2.1∧okt x.2.2.2
structure Kd {α:Type} (kv:α→Value) (ok:α→Prop) (K:TypeId):Prop where
 law:Go.Maps.Keyed prog K
 reads:∀ x,ok x→∃ l,keyOf prog K (kv x)=some l
 inj:∀ x y,ok x→ok y→kv x=kv y→x=y
theorem acM (x y:iZ) (hx:te x) (hy:te y) (h:pI x=pI y):x=y:=by
 obtain ⟨a,b,c,d⟩:=x;obtain ⟨a',b',c',d'⟩:=y;simp only [pI,Value.agg.injEq] at h;simp at h;obtain ⟨rfl,rfl,h3,h4⟩:=h;obtain rfl:=xj hx.2.2.1.1 hy.2.2.1.1 h3;obtain rfl:=xj hx.2.2.2.1 hy.2.2.2.1 h4
 rfl
theorem aje {n:Int} (h:aT n):(Lit.int .i64 n).wf=true:=by
 unfold aT at h;simp [Lit.wf,IntKind.min,IntKind.max,IntKind.signed,IntKind.bits];omega
end Nm
theorem zN:laidOutB prog=true:=by kernel_rfl
theorem r8:266 < prog.types.size:=of_decide_eq_true (by kernel_rfl)
theorem abD:WideMaps.KeyLaw prog 266:=deep_law_laid zN (m:=3) (by omega) r8 (by kernel_rfl) (by kernel_rfl)
theorem mQ:prog.cellsOf 266=4:=by kernel_rfl
theorem cm:prog.cellsOf 3=1:=by kernel_rfl
theorem qF:prog.cellsOf 9=1:=by kernel_rfl
theorem aau:prog.keyType 266=true:=by kernel_rfl
theorem sf (d:Nat) {n:Int} (h:Nm.aT n):prog.keyLits (d+1) 3 [.int .i64 n]=some [.int .i64 n]:=by
 simp [Program.keyLits,underlying3,Nm.aje h]
theorem oe (d:Nat) {l:List Int} (h:Nm.okt l):prog.keyLits (d+1) 9 [.string (Nm.gR l)]=some [.string (Nm.gR l).data.toList]:=by
 have:(Nm.gR l).size≤maxLen:=by rw [Nm.aad];have:=h.2;unfold maxLen;omega
 simp [Program.keyLits,underlying9,this]
theorem lj:Nm.Kd Nm.pI Nm.te 266 where
 law:=Go.Maps.Keyed.of_law abD
 reads:=fun x hx=>by
  obtain ⟨a,b,c,d⟩:=x;obtain ⟨h1,h2,h3,h4⟩:=hx;obtain ⟨m,hm⟩:∃ m,prog.types.size=m+1:=⟨prog.types.size-1,by have:=r8;omega⟩;have hf:(Nm.pI (a,b,c,d)).formed prog 266=true:=by
   simp [Nm.pI,Value.formed,underlying266,mQ]
  have hl:prog.keyLits (m+2) 266 (Nm.pI (a,b,c,d)).cells.toList=some [.int .i64 a,.int .i64 b,.string (Nm.gR c).data.toList,.string (Nm.gR d).data.toList]:=by
   simp only [Nm.pI,Value.cells];unfold Program.keyLits;rw [underlying266];simp [mQ,cm,qF,sf _ h1,sf _ h2,oe _ h3,oe _ h4]
  refine ⟨_,show keyOf prog 266 (Nm.pI (a,b,c,d))=some (.string (keyBytes [.int .i64 a,.int .i64 b,.string (Nm.gR c).data.toList,.string (Nm.gR d).data.toList])) from ?_⟩;unfold keyOf;rw [underlying266];dsimp only;rw [if_pos (by rw [aau,hf];rfl),hm,hl]
  rfl
 inj:=Nm.acM
end
section
open Go.ChangeShapes Go.WideShapes Go.RowKit
theorem ll {w:World} {p:Option Addr} {c:Nat} {L:List Int} (h:Bs w p c L):(convert 22 9 (.slice p L.length c)).run prog w = .ok (.string (Nm.gR L)) w:=by
 cases p with
 | none =>
  obtain ⟨rfl,rfl⟩:=h.nil rfl;exact Lib.run_convert_nil_bytes w 22 9 5 0 underlying22 underlying5 underlying9
 | some ad =>
  have hb:=lR h.bat;have hr:=run_convert_bytes_back (P:=prog) w 22 9 5 ad c (L.map fun i=>UInt8.ofNat i.toNat) underlying22 underlying5 underlying9 (fun j hj=>by
   have JZ:j<L.length:=by simpa using hj
   rw [hb j _ (by rw [List.getElem?_map,List.getElem?_eq_getElem JZ];rfl)];have hB:=h.bat.1 _ (List.getElem_mem JZ);simp only [List.getElem_map,UInt8.toNat_ofNat'];congr 2;omega)
  simpa [Nm.gR] using hr
section
variable {α:Type}
def di (kv:α→Value) (ok:α→Prop) (w:World) (b:Nat) (l:List α):Prop :=
 l.Nodup∧(∀ x∈l,ok x)∧∃ es clock,w.heap[b]?=some (.map es clock)∧es.toList.length=l.length∧∀ (j:Nat) (e:MapEntry),es.toList[j]?=some e→∃ x,l[j]?=some x∧e.key=kv x∧e.val = .int .i64 ((j:Int)+1)
variable {kv:α→Value} {ok:α→Prop} {K t:TypeId} {w:World} {b:Nat} {l:List α} {x:α}
theorem di.block (h:di kv ok w b l):b<w.heap.size:=by
 obtain ⟨_,_,es,clock,hb,_⟩:=h;exact (Array.getElem?_eq_some_iff.1 hb).1
theorem di.aG {w':World} (h:di kv ok w b l) (hb:w'.heap[b]?=w.heap[b]?):di kv ok w' b l:=by
 obtain ⟨h1,h2,es,clock,h3,h4⟩:=h;exact ⟨h1,h2,es,clock,hb.trans h3,h4⟩
theorem di.av {w':World} (h:di kv ok w b l) (hb:qw w w'):di kv ok w' b l:=h.aG (hb.block _ h.block)
theorem di.len (ht:prog.underlying t=some (.map K 3)) (h:di kv ok w b l) (ty:TypeId) :
  (Builtin.len_ #[t] ty #[.map (some b)]).run prog w = .ok (.int .i64 (l.length:Nat)) w:=by
 obtain ⟨h1,h2,es,clock,hb,h3,h4⟩:=h;have h5:es.size=l.length:=by simpa using h3
 simp [Builtin.len_,run_underlying ht,MapKept.run_getObj_map hb,goInt,Result.andThen,h5]
theorem wN (w:World) (kv:α→Value) (ok:α→Prop):di kv ok (w.alloc (.map #[] 0)) w.heap.size [] :=
 ⟨List.nodup_nil,by simp,#[],0,(MapKept.heap_alloc w _).1,rfl,fun j e h=>by simp at h⟩
variable [DecidableEq α]
theorem di.find (hk:Nm.Kd kv ok K) (hx:ok x) {es:Array MapEntry} (h1:l.Nodup) (h2:∀ x∈l,ok x) (h3:es.toList.length=l.length) (h4:∀ (j:Nat) (e:MapEntry),es.toList[j]?=some e→∃ x,l[j]?=some x∧e.key=kv x∧e.val = .int .i64 ((j:Int)+1)) (w:World) :
  (Nm.place x l=0∧(Instr.findKey K (kv x) es.toList).run prog w = .ok none w)∨∃ j,Nm.place x l=j+1∧(Instr.findKey K (kv x) es.toList).run prog w = .ok (some (j,.int .i64 ((j:Int)+1))) w:=by
 obtain ⟨lx,Et⟩:=hk.reads x hx;have SZ:∀ e∈es.toList,∃ l,keyOf prog K e.key=some l:=fun e he=>by
  obtain ⟨j,hj⟩:=List.getElem?_of_mem he;obtain ⟨y,hy,Ec,_⟩:=h4 j e hj;rw [Ec];exact hk.reads y (h2 y (List.mem_of_getElem? hy))
 rcases hk.law.find w Et es.toList SZ with ⟨f1,f2⟩ | ⟨j,e,f1,f2,f3⟩
 ·refine Or.inl ⟨Nm.mY.2 (fun hm=>?_),f1⟩;obtain ⟨j,hj⟩:=List.getElem?_of_mem hm;have Ae:j<es.toList.length:=by rw [h3];exact (List.getElem?_eq_some_iff.1 hj).1
  obtain ⟨y,hy,Ec,_⟩:=h4 j _ (List.getElem?_eq_getElem Ae);rw [hj] at hy;cases hy
  exact f2 _ (List.getElem_mem Ae) Ec
 ·obtain ⟨y,hy,Ec,hv⟩:=h4 j e f2;have T4:y=x:=hk.inj y x (h2 y (List.mem_of_getElem? hy)) hx (by rw [← Ec,f3]);subst T4;refine Or.inr ⟨j,Nm.rD h1 hy,?_⟩;rw [f1,hv]
theorem di.look (hk:Nm.Kd kv ok K) (ht:prog.underlying t=some (.map K 3)) (h:di kv ok w b l) (hx:ok x) :
  (Instr.lookup t (.map (some b)) (kv x) true).run prog w = .ok (.tuple #[.int .i64 (Nm.place x l:Nat),.bool (decide (0<Nm.place x l))]) w:=by
 obtain ⟨h1,h2,es,clock,hb,h3,h4⟩:=h;obtain ⟨lx,Et⟩:=hk.reads x hx;have hz:(zeroValue 3).run prog w = .ok (.int .i64 0) w:=by kernel_rfl
 rcases di.find hk hx h1 h2 h3 h4 w with ⟨p1,f1⟩ | ⟨j,p1,f1⟩
 ·rw [p1];simp [Instr.lookup,run_underlying ht,MapKept.run_getObj_map hb,hk.law.check w _ Et,f1,hz,Result.andThen]
 ·rw [p1];simp [Instr.lookup,run_underlying ht,MapKept.run_getObj_map hb,hk.law.check w _ Et,f1,Result.andThen]
theorem di.store (hk:Nm.Kd kv ok K) (ht:prog.underlying t=some (.map K 3)) (h:di kv ok w b l) (hx:ok x) (h0:Nm.place x l=0) :
  ∃ w',(Instr.mapUpdate t (.map (some b)) (kv x) (.int .i64 ((l.length:Int)+1))).run prog w = .ok () w'∧di kv ok w' b (l++[x])∧bJ b w w':=by
 obtain ⟨h1,h2,es,clock,hb,h3,h4⟩:=h;obtain ⟨lx,Et⟩:=hk.reads x hx;have hs:es.size=l.length:=by simpa using h3
 rcases di.find hk hx h1 h2 h3 h4 w with ⟨_,f1⟩ | ⟨j,p1,_⟩
 ·refine ⟨{ w with heap:=w.heap.setIfInBounds b (.map (es.push ⟨kv x,.int .i64 ((l.length:Int)+1),clock⟩) (clock+1)) },?_,⟨?_,?_,_,_,(MapKept.heap_set hb).1,by simp [hs],fun j e hj=>?_⟩,⟨rfl,rfl,rfl,by simp,fun k hk=>(MapKept.heap_set hb).2 k hk⟩⟩
  ·simp [Instr.mapUpdate,run_underlying ht,MapKept.run_getObj_map hb,hk.law.check w false Et,f1,MapKept.run_setObj_map _ hb,Result.andThen]
  ·have:=Nm.mY.1 h0;exact List.nodup_append.2 ⟨h1,by simp,fun a ha b hb=>by simp at hb;subst hb;exact fun e=>this (e ▸ ha)⟩
  ·intro y hy;rcases List.mem_append.1 hy with hy | hy
   ·exact h2 y hy
   ·simp at hy;subst hy;exact hx
  ·by_cases Ae:j<l.length
   ·have JZ:es.toList[j]?=some e:=by
     rw [Array.toList_push,List.getElem?_append_left (by rw [h3];exact Ae)] at hj;exact hj
    obtain ⟨y,hy,hr⟩:=h4 j e JZ;exact ⟨y,by rw [List.getElem?_append_left Ae];exact hy,hr⟩
   ·rw [Array.toList_push,List.getElem?_append_right (by omega),h3] at hj;have Td:j-l.length=0:=by
     by_cases hq:j-l.length=0
     ·exact hq
     ·rw [List.getElem?_eq_none (by simp;omega)] at hj;cases hj
    rw [Td] at hj;simp at hj;obtain rfl:j=l.length:=by omega
    subst hj;exact ⟨x,by simp,rfl,rfl⟩
 ·rw [h0] at p1;omega
end
theorem xn {α:Type} [DecidableEq α] {kv:α→Value} {ok:α→Prop} {K:TypeId} (w:World) {ops:Array Oper} {rest:List Oper} {a:Act} {Q:Exit→Act→World→Prop} {D:Option Tmp} {T:TypeId} {ps:String} {af:Array Edge}
  (m y:Operand) (t:TypeId) (b:Nat) (l:List α) (x:α) (hk:Nm.Kd kv ok K) (ht:prog.underlying t=some (.map K 3)) (hm:a.eval m = .map (some b)) (hy:a.eval y=kv x) (h:di kv ok w b l) (hx:ok x)
  (hK:wpList prog ops Q rest (a.put D (.tuple #[.int .i64 (Nm.place x l:Nat),.bool (decide (0<Nm.place x l))])) w) :
  wpList prog ops Q ({ dst:=D,op:=.lookup t m y true,type:=T,pos:=ps,after:=af,guard:=none } :: rest) a w:=by
 refine wpList_plain rfl fun K' Ge=>?_;unfold Oper.wp;simp [execOp,hm,hy,h.look hk ht hx,Result.andThen];exact Ge _ _ hK
theorem uH {α:Type} {kv:α→Value} {ok:α→Prop} {K:TypeId} (w:World) {ops:Array Oper} {rest:List Oper} {a:Act} {Q:Exit→Act→World→Prop} {D:Option Tmp} {T:TypeId} {ps:String} {af:Array Edge}
  (m:Operand) (t:TypeId) (b:Nat) (l:List α) (ht:prog.underlying t=some (.map K 3)) (hm:a.eval m = .map (some b)) (h:di kv ok w b l)
  (hK:wpList prog ops Q rest (a.put D (.int .i64 (l.length:Nat))) w) :
  wpList prog ops Q ({ dst:=D,op:=.call { callee:=.builtin .len,args:=#[m],argTypes:=#[t] },type:=T,pos:=ps,after:=af,guard:=none } :: rest) a w:=by
 refine wpList_plain rfl fun K' Ge=>?_;unfold Oper.wp;simp [execOp,resolve,invoke,builtin,hm,h.len ht T,Result.andThen];exact Ge _ _ hK
theorem ag7 {α:Type} [DecidableEq α] {kv:α→Value} {ok:α→Prop} {K:TypeId} (w:World) {ops:Array Oper} {rest:List Oper} {a:Act} {Q:Exit→Act→World→Prop} {D:Option Tmp} {T:TypeId} {ps:String} {af:Array Edge}
  (m y z:Operand) (t:TypeId) (b:Nat) (l:List α) (x:α) (hk:Nm.Kd kv ok K) (ht:prog.underlying t=some (.map K 3)) (hm:a.eval m = .map (some b)) (hy:a.eval y=kv x) (hz:a.eval z = .int .i64 ((l.length:Int)+1)) (h:di kv ok w b l) (hx:ok x) (h0:Nm.place x l=0)
  (hK:∀ w',di kv ok w' b (l++[x])→bJ b w w'→wpList prog ops Q rest (a.put D undef) w') :
  wpList prog ops Q ({ dst:=D,op:=.mapUpdate t m y z,type:=T,pos:=ps,after:=af,guard:=none } :: rest) a w:=by
 refine wpList_plain rfl fun K' Ge=>?_;obtain ⟨w',Am,r1,r2⟩:=h.store hk ht hx h0;unfold Oper.wp;simp [execOp,hm,hy,hz,Am,Result.andThen];exact Ge _ _ (hK w' r1 r2)
end
section
open Go.RowKit
def ago {α:Type} [DecidableEq α] (kv:α→Value) (ok:α→Prop) (b:Nat) (l:List α) (x:α) (w:World) (e:Ending) (w':World):Prop :=
 e = .returned (.int .i64 (Nm.num x l:Nat))∧di kv ok w' b (Nm.put x l)∧aE b w w'
theorem rI (l:List Nm.iZ) (x:Nm.iZ) (b:Nat) (w:World) (h:di Nm.pI Nm.te w b l) (hx:Nm.te x) (hl:l.length≤1000000) :
  qc 242 #[.map (some b),.agg #[.int .i64 x.1,.int .i64 x.2.1,.string (Nm.gR x.2.2.1),.string (Nm.gR x.2.2.2)]] w (ago Nm.pI Nm.te b l x w):=by
 have H:=qh h;clear h;have HX:=qh hx;clear hx;obtain ⟨O,HO⟩:∃ O:Obj,Hid (O = .cells #[.int .i64 x.1,.int .i64 x.2.1,.string (Nm.gR x.2.2.1),.string (Nm.gR x.2.2.2)] 266):=⟨_,rfl⟩;have HA:Hid (di Nm.pI Nm.te (w.alloc O) b l):=H.out.av (qb w _);have Ii:Hid (aE b w (w.alloc O)):=(aE.refl b w).alloc O;rw [HO.out] at HA Ii;by_cases h0:Nm.place x l=0
 ·have hd:decide (0<Nm.place x l)=false:=by rw [h0];rfl
  have HN:=qh (Nm.acJ h0);have HP:=qh (Nm.aeZ h0);have H0:=qh h0;clear h0;go_enter func242,ntmps242;go_wp2_with (first
   | ((with_reducible refine xn _ _ _ _ b l x lj underlying114 ?_ ?_ HA.out HX.out ?_);(exact rfl);(exact rfl))
   | ((with_reducible refine uH _ _ _ b l underlying114 ?_ HA.out ?_);(exact rfl))
   | ((with_reducible refine ag7 _ _ _ _ _ b l x lj underlying114 ?_ ?_ ?_ HA.out HX.out H0.out ?_);(exact rfl);(exact rfl);(exact rfl);intro w1 m1 c1;have M1:=qh m1;have C1:=qh c1;clear m1 c1))
  go_ret;exact ⟨by rw [HN.out];rfl,by rw [HP.out];exact M1.out,Ii.out.trans C1.out.only⟩
 ·have h1:0<Nm.place x l:=by omega
  have HN:=qh (Nm.abB h0);have HP:=qh (Nm.aaE h0);clear h0;go_enter func242,ntmps242;go_wp2_with ((with_reducible refine xn _ _ _ _ b l x lj underlying114 ?_ ?_ HA.out HX.out ?_);(exact rfl);(exact rfl))
  go_ret;exact ⟨by rw [HN.out];rfl,by rw [HP.out];exact HA.out,Ii.out⟩
end
section
open Go.RowKit
namespace Nm
def tk (f k:Int) (i:Nat):List Int:=(List.range 32).map fun j=>if 32-i≤j then k / 256 ^ (31-j) % 256 else f
def tg (f k:Int):List Int:=tk f k 8
def fl (f:Int) (i:Nat):List Int:=List.replicate i f++List.replicate (32-i) 0
theorem abZ (f:Int) (i:Nat) (h:i≤32):(fl f i).length=32:=by simp [fl];omega
theorem ad6 (f:Int) (i:Nat) (h:i<32):(fl f i).set i f=fl f (i+1):=by
 unfold fl;rw [List.set_append_right _ _ (by simp),List.length_replicate,Nat.sub_self,show 32-i=(32-(i+1))+1 by omega,List.replicate_succ,List.set_cons_zero,List.replicate_succ' (n:=i),List.append_assoc]
 rfl
theorem jt (f k:Int) (i:Nat):(tk f k i).length=32:=by simp [tk]
theorem agz (f k:Int):fl f 32=tk f k 0:=by
 apply List.ext_getElem (by rw [abZ f 32 (by omega),jt])
 intro j h1 h2;rw [jt] at h2;simp only [fl,tk,Nat.sub_self,List.replicate_zero,List.append_nil,List.getElem_replicate,List.getElem_map,List.getElem_range];rw [if_neg (by omega)]
theorem ady (f k:Int) (i:Nat) (h:i<32):(tk f k i).set (31-i) (k / 256 ^ i % 256)=tk f k (i+1):=by
 apply List.ext_getElem (by rw [List.length_set,jt,jt])
 intro j h1 h2;rw [jt] at h2;rw [List.getElem_set];by_cases e:31-i=j
 ·rw [if_pos e];have:31-j=i:=by omega
  simp [tk,this];omega
 ·rw [if_neg e];simp only [tk,List.getElem_map,List.getElem_range];by_cases h3:32-i≤j
  ·rw [if_pos h3,if_pos (by omega)]
  ·rw [if_neg h3,if_neg (by omega)]
theorem agp (f k:Int) (i:Nat) (hf:0≤f∧f≤255):ai.aY (tk f k i):=fun x hx=>by
 simp only [tk,List.mem_map,List.mem_range] at hx;obtain ⟨j,_,rfl⟩:=hx;split<;>omega
theorem dq (f k:Int):(tg f k).length=32:=jt f k 8
theorem gT (f k:Int) (hf:0≤f∧f≤255):ai.aY (tg f k):=agp f k 8 hf
attribute [irreducible] tk tg fl
end Nm
def dz (l:List Int):Value:=.agg (l.map (Value.int .u8)).toArray
def adZ (f k:Int) (w:World) (e:Ending) (w':World):Prop:=e = .returned (dz (Nm.tg f k))∧qw w w'
theorem kV (f k:Int) (w:World) :
  qc 240 #[.int .u8 f,.int .i64 k] w (adZ f k w):=by
 have G0:Hid (((w.alloc (.cells (List.replicate 32 (Value.int .u8 0)).toArray 39)).alloc (.cells (List.replicate 32 (Value.int .u8 0)).toArray 39)).heap[w.heap.size+1]?=qo ((Nm.fl f 0).map (Value.int .u8)).toArray 39):=by
  show _=_;have h:=heap_alloc2_new w (.cells (List.replicate 32 (Value.int .u8 0)).toArray 39) (.cells (List.replicate 32 (Value.int .u8 0)).toArray 39);rw [h];unfold Nm.fl;simp
 have R0:Hid (((w.alloc (.cells (List.replicate 32 (Value.int .u8 0)).toArray 39)).alloc (.cells (List.replicate 32 (Value.int .u8 0)).toArray 39)).heap[w.heap.size]?=qo (List.replicate 32 (Value.int .u8 0)).toArray 39):=heap_alloc2_old w _ _;have B0:Hid (qw w ((w.alloc (.cells (List.replicate 32 (Value.int .u8 0)).toArray 39)).alloc (.cells (List.replicate 32 (Value.int .u8 0)).toArray 39))):=(qb w _).alloc (by simp) _;go_enter func240,ntmps240;go_wp2;go_loopw [8] (fun v8 wr=>∃ i:Nat,i≤32∧v8 = .int .i64 i∧Hid (wr.heap[w.heap.size+1]?=qo ((Nm.fl f i).map (Value.int .u8)).toArray 39)∧Hid (wr.heap[w.heap.size]?=qo (List.replicate 32 (Value.int .u8 0)).toArray 39)∧Hid (qw w wr)) (fun v8 _=>32-(intOf v8).toNat)
 case atStart=>exact ⟨0,by omega,rfl,G0.out,R0.out,B0.out⟩
 case round =>
  clear G0 R0 B0;obtain ⟨i,hi,rfl,HG,HR,HB⟩:=hrel;by_cases Ae:i<32
  ·have c0:=cZ HG.out i (by rw [Nm.abZ f i hi];omega);have f0:=frozen_of_row wr (w.heap.size+1) i _ _ HG.out;generalize (Nm.fl f i).getD i 0=y0 at c0;go_wp2;refine ⟨⟨i+1,by omega,by go_num,?_,?_,HB.out.setCell (by simp) _⟩,by simp [intOf];omega⟩
   ·have h2:=iN (i:=i) (x:=f) HG.out;rw [Nm.ad6 f i Ae] at h2;exact h2
   ·show _=_;rw [heap_setCell_other _ _ _ _ (by simp)];exact HR.out
  ·obtain rfl:i=32:=by omega
   clear Ae;have KV:Hid (wr.heap[w.heap.size+1]?=qo ((Nm.tk f k 0).map (Value.int .u8)).toArray 39):=by
    have h:=HG.out;rw [Nm.agz f k] at h;exact h
   clear HG;generalize hwL:wr=wL at *;clear hwL;go_wp2;go_loopw [15] (fun v15 wr=>∃ i:Nat,i≤8∧v15 = .int .i64 i∧Hid (wr.heap[w.heap.size+1]?=qo ((Nm.tk f k i).map (Value.int .u8)).toArray 39)∧Hid (wr.heap[w.heap.size]?=qo (List.replicate 32 (Value.int .u8 0)).toArray 39)∧Hid (qw w wr)) (fun v15 _=>8-(intOf v15).toNat)
   case atStart=>exact ⟨0,by omega,rfl,KV.out,HR.out,HB.out⟩
   case round =>
    clear KV HR HB;obtain ⟨i,hi,rfl,HG,HR,HB⟩:=hrel;by_cases Ae:i<8
    ·have c0:=cZ HG.out (31-i) (by rw [Nm.jt];omega);have f0:=frozen_of_row wr (w.heap.size+1) (31-i) _ _ HG.out;have Aq:IntKind.i64.wrap (31-(i:Int))=31-(i:Int):=IntWalk.i64_in _ ⟨by omega,by omega⟩;have Ba:IntKind.i64.wrap (8*(i:Int))=8*(i:Int):=IntWalk.i64_in _ ⟨by omega,by omega⟩;have Jj:0≤31-(i:Int):=by omega
     have Jk:31-(i:Int)<32:=by omega
     have EP:(31-(i:Int)).toNat=31-i:=by omega
     have Ra:0≤8*(i:Int):=by omega
     have TY:8*(i:Int)≤64:=by omega
     have Rb:(2:Int) ^ (8*(i:Int)).toNat=256 ^ i:=by
      rw [show (8*(i:Int)).toNat=8*i by omega,Int.pow_mul]
      rfl
     generalize (Nm.tk f k i).getD (31-i) 0=y0 at c0;go_wp2;refine ⟨⟨i+1,by omega,by go_num,?_,?_,HB.out.setCell (by simp) _⟩,by simp [intOf];omega⟩
     ·have h2:=iN (i:=31-i) (x:=k / 256 ^ i % 256) HG.out;rw [Nm.ady f k i (by omega)] at h2;exact h2
     ·show _=_;rw [heap_setCell_other _ _ _ _ (by simp)];exact HR.out
    ·obtain rfl:i=8:=by omega
     clear Ae;obtain ⟨A,An,Ak,Au⟩:∃ A:Array Value,Hid (A=((Nm.tg f k).map (Value.int .u8)).toArray)∧Hid (A.size=32)∧Hid (A.all (·.oneCell')=true) :=
      ⟨_,rfl,by show _=_;simp [Nm.dq],all_oneCell_toArray (aw _)⟩
     have DK:Hid (wr.heap[w.heap.size+1]?=qo A 39):=by
      show _=_;rw [An.out];unfold Nm.tg;exact HG.out
     clear HG;go_wp2_with (first
      | ((with_reducible refine ay _ _ _ _ _ _ _ ?_ DK.out underlying39 ?_ (ae Tryz.ar Ak) ?_);(exact rfl);(exact rfl))
      | ((with_reducible refine ak _ _ _ _ _ _ _ ?_ ?_ HR.out (ae Tryz.ar Ak) ?_ Au.out ?_);(exact rfl);(exact rfl);(rw [Ak.out];rfl);intro w6 G6 AE))
     refine bodyPost_ret (results_cell_row rfl _ _ w.heap.size 39 A (0,0) _ rfl G6.out underlying39 rfl (ae Tryz.ar Ak)) rfl ⟨?_,AE.below HB.out qn⟩;rw [An.out]
     rfl
end
end Go.Proofs.YthgjfjmampmiiaaGreatDoor

/-
  DkL, DkA, DkB, DkC, DkE (merged)
-/
import Derived.Test.YtnnalemboeccbaaGreatDoorA1
import Derived.Test.YtnnalemboeccbaaGreatDoorBc1
import Derived.Test.YtnnalemboeccbaaGreatDoorSe2
import Derived.Test.YtnnalemboeccbaaGreatDoorSe3
import Derived.Test.YtnnalemboeccbaaGreatDoorNa2
import Derived.Test.YtnnalemboeccbaaGreatDoorPa1
import Derived.Test.YtnnalemboeccbaaGreatDoorA3
import Derived.Test.YtnnalemboeccbaaGreatDoorA4
import Derived.Test.YtnnalemboeccbaaGreatDoorA5
import Derived.Test.YtnnalemboeccbaaGreatDoorA6
import Derived.Test.YtnnalemboeccbaaGreatDoorBd1
import Derived.Test.YtnnalemboeccbaaGreatDoorB8
import Derived.Test.YtnnalemboeccbaaGreatDoorSe1
import Derived.Test.YtnnalemboeccbaaGreatDoorSe5
import Derived.Test.YtnnalemboeccbaaGreatDoorSe4
import Derived.Test.YtnnalemboeccbaaGreatDoorNa1
import Derived.WalkKit
import Derived.Laws.CopyOwn
import Derived.OwnWalk
import Derived.BigRegion
import Derived.WalkSpells
import Derived.Lib.Hide
import Derived.Deep.MidRow
import Derived.RegionTactic
import Derived.Deep.RegionHeld3
import Derived.OneCell
import Derived.StillTailTactics
import Derived.Laws.MakeOwn
import Derived.Laws.OwnMore
import Derived.BigQuiet
import Derived.Laws.AppendOwnNone
import Derived.OrdersHeld
import Derived.Lib.AppendZeros
import Derived.Laws.Tables
import Derived.Deep.Matrix
import Derived.RangeFuncNested
import Derived.RangeFuncBound
import Derived.RangeFuncCalls
import Derived.RangeFuncLeaves
import Derived.Shelf.Abstract
import Derived.Shelf.RegionOpen
import Derived.OwnWalkIn
import Derived.TacticsInMore
import Derived.LoopNIn
import Derived.LoopIn
import Derived.Test.YtnnalemboeccbaaGreatDoorChecked
import Derived.WalkLawsBesides
import Derived.Deep.QuietTactic
import Derived.Deep.WholeRow
import Derived.Deep.Cut
import Derived.StillTail
import Derived.Laws.StructEq
import Derived.ChangeKeysEq
import Derived.Laws.Closers25b
import Derived.OrdersIn
import Derived.OpenShut
import Derived.Deep.Slices
import Derived.RangeFuncWrites
import Derived.Laws.EntriesVeiled
import Derived.Deep.RegionLawGrows
import Derived.Deep.CutRange
import Derived.Deep.RegionLaw
import Derived.ArgAppend
import Derived.Lib.SlBytesConst
import Derived.Laws.Cover3
import Derived.Maps.OwnSet
import Derived.Laws.IdiomMaps
import Derived.Maps.RangeWalk
namespace Go.Proofs.YtnnalemboeccbaaGreatDoor

/-! DkL:  -/
section
open Go.ChangeShapes Go.WideShapes Go.RowKit
theorem own_baseD {w:World} {B B' n:Nat} {e:TypeId} {v:Value} {xs:List Value} (h:w.ownsRow B e 1 v n xs) (hB:B'≤B):w.ownsRow B' e 1 v n xs:=by
 refine ⟨h.1,?_⟩
 rcases h.2 with h1 | ⟨g,cap,cur,h1,h2,h3⟩
 ·exact Or.inl h1
 ·exact Or.inr ⟨g,cap,cur,h1,Nat.le_trans hB h2,h3⟩
set_option maxHeartbeats 1000000 in
set_option maxRecDepth 100000 in
theorem clone_anyD (L:List Int) (p:Option Addr) (n c:Nat) (hn:L.length=n) (hL:n≤1000000) (w:World) (hp:Bs w p c L) :
  Calls Tryz.prog 58 #[.slice p n c] w fun e w'=>∃ v,e = .returned v∧w'.ownsRow w.heap.size 5 1 v n (U8s L)∧Below w.heap.size w w':=by
 have Hp:=Lib.hid hp;clear hp
 have hq:=fun (p:Option Addr) (n c:Nat) (w:World)=>eql_nil p n c w
 cases p with
 | none =>
  obtain ⟨rfl,rfl⟩:=Hp.out.nil rfl
  obtain rfl:n=0:=by simpa using hn.symm
  go_enter Tryz.func58,Tryz.ntmps58
  go_wp2
  go_ret
  exact ⟨_,rfl,by unfold U8s;exact World.ownsRow_nil _ _ _ _,Below.refl _ _⟩
 | some ad =>
  have HO:Hid ((w.alloc (.cells #[] 5)).ownsRow w.heap.size 5 1 (.slice (some ⟨w.heap.size,0,none⟩) 0 0) 0 (U8s [])):=by
   refine ⟨by unfold U8s;rfl,Or.inr ⟨w.heap.size,0,_,rfl,Nat.le_refl _,heap_alloc_new w _,Nat.le_refl _,by unfold maxLen;omega,by simp,by unfold U8s;simp⟩⟩
  have HB:Hid (Below w.heap.size w (w.alloc (.cells #[] 5))):=(Below.refl _ w).alloc (Nat.le_refl _) _
  have HBS:Hid (Bs (w.alloc (.cells #[] 5)) (some ad) c L):=Hp.out.old HB.out
  have HN:=Lib.hid hn;clear hn
  go_enter Tryz.func58,Tryz.ntmps58
  go_wp2_with (first
   | (at_builtin;refine append_bts _ _ L w.heap.size _ _ _ (some ad) _ c rfl rfl HN.out HBS.out HO.out (by omega) (by simp) ?_;intro v5 w5 ho5 hg5;have HO5:=Lib.hid ho5;have HG5:=Lib.hid hg5;clear ho5 hg5)
   | go_in)
  go_ret
  refine ⟨_,rfl,?_,HB.out.grown HG5.out (by simp) (fun q hq=>(HO.out.lt q hq).1)⟩
  have h:=HO5.out
  rw [Nat.zero_add,List.nil_append] at h
  exact h
end

/-! DkA:  -/
section
open Go.ChangeShapes Go.WideShapes Go.RowKit
def Rv (v:Value):Option (DataW Value × List MemPlace):=some (.held v,[])
theorem kint:Maps.Keyed Tryz.prog 3:=Maps.int_keyed Tryz.underlying3
def In64 (x:Int):Prop:=-9223372036854775808≤x∧x≤9223372036854775807
theorem wf_in64 {x:Int} (h:In64 x):(Lit.int .i64 x).wf=true:=by
 unfold In64 at h
 simp [Lit.wf,IntKind.min,IntKind.max,IntKind.signed,IntKind.bits]
 omega
theorem key_int {x:Int} (h:In64 x):keyOf Tryz.prog 3 (.int .i64 x)=some (.int .i64 x):=Maps.keyOf_int_mk Tryz.underlying3 (wf_in64 h)
theorem isKey (x:Int):WideAt.IsKeyLit (.int .i64 x):=trivial
def Says (D:DataW Value) (F:Nat→Option Value):Prop :=
 (∀ i:Int,Maps.has D (.int .i64 i)=(decide (0≤i)&&(F i.toNat).isSome))∧∀ (j:Nat) v,F j=some v→∀ z,D.atKey (.int .i64 (j:Int)) z = .held v
def upd {α:Type} (F:Nat→α) (i:Nat) (x:α):Nat→α:=fun j=>if j=i then x else F j
theorem upd_same {α:Type} (F:Nat→α) (i:Nat) (x:α):upd F i x i=x:=if_pos rfl
theorem upd_other {α:Type} (F:Nat→α) {i j:Nat} (x:α) (h:j ≠ i):upd F i x j=F j:=if_neg h
theorem Says.put {D:DataW Value} {F:Nat→Option Value} (h:Says D F) (hm:Maps.IsMap D) (i:Nat) (v:Value):Says (D.put (.int .i64 (i:Int)) (.held v)) (upd F i (some v)):=by
 refine ⟨fun x=>?_,fun j u hj z=>?_⟩
 ·by_cases hx:x=(i:Int)
  ·subst hx
   rw [Maps.has_put_same hm (isKey _)]
   simp [upd_same]
  ·rw [Maps.has_put_other (fun e=>hx (by cases e;rfl)),h.1]
   by_cases h0:0≤x
   ·rw [upd_other F _ (show x.toNat ≠ i by omega)]
   ·simp [h0]
 ·by_cases hji:j=i
  ·subst hji
   rw [upd_same] at hj
   cases hj
   exact Maps.atKey_put_same hm (isKey _) _ _
  ·rw [upd_other F _ hji] at hj
   rw [Maps.atKey_put_other (fun e=>hji (by cases e;rfl))]
   exact h.2 j u hj z
theorem Says.del {D:DataW Value} {F:Nat→Option Value} (h:Says D F) (i:Nat):Says (D.del (.int .i64 (i:Int))) (upd F i none):=by
 refine ⟨fun x=>?_,fun j u hj z=>?_⟩
 ·by_cases hx:x=(i:Int)
  ·subst hx
   rw [Maps.has_del_same]
   simp [upd_same]
  ·rw [Maps.has_del_other (fun e=>hx (by cases e;rfl)),h.1]
   by_cases h0:0≤x
   ·rw [upd_other F _ (show x.toNat ≠ i by omega)]
   ·simp [h0]
 ·by_cases hji:j=i
  ·subst hji
   rw [upd_same] at hj
   cases hj
  ·rw [upd_other F _ hji] at hj
   rw [Maps.atKey_del_other (fun e=>hji (by cases e;rfl))]
   exact h.2 j u hj z
def MapAt (w:World) (b k:Nat) (F:Nat→Option Value):Prop:=∃ D,w.ownsMap Tryz.prog 3 Rv b k D∧Says D F
section
variable {w y:World} {b k r cnt:Nat} {F:Nat→Option Value} {left:Nat→Bool} {t:TypeId}
theorem MapAt.lt (h:MapAt w b k F):b<w.heap.size:=by obtain ⟨D,h1,_⟩:=h;exact h1.lt
theorem MapAt.keep (h:MapAt w b k F) (hb:y.heap[b]?=w.heap[b]?):MapAt y b k F:=by
 obtain ⟨D,⟨es,clock,h1,h2⟩,h3⟩:=h
 exact ⟨D,⟨es,clock,hb.trans h1,h2⟩,h3⟩
theorem MapAt.isMap (h:MapAt w b k F):∃ es clock,w.heap[b]?=some (.map es clock):=by
 obtain ⟨D,⟨es,clock,h1,h2⟩,h3⟩:=h
 exact ⟨es,clock,h1⟩
theorem MapAt.mono (h:MapAt w b k F) {k':Nat} (hk:k≤k'):MapAt w b k' F:=by
 obtain ⟨D,h1,h2⟩:=h
 exact ⟨D,h1.mono hk,h2⟩
theorem zero_sl (w:World):(zeroValue 22).run Tryz.prog w = .ok (.slice none 0 0) w:=by kernel_rfl
theorem MapAt.look (h:MapAt w b k F) (ht:Tryz.prog.underlying t=some (.map 3 22)) (i:Nat) (hi:i≤9223372036854775807) :
  (Instr.lookup t (.map (some b)) (.int .i64 (i:Int)) true).run Tryz.prog w = .ok (.tuple #[(F i).getD (.slice none 0 0),.bool (F i).isSome]) w:=by
 obtain ⟨D,h1,h2⟩:=h
 obtain ⟨v,ps,hrun,hv⟩:=h1.look_ok kint ht (zero_sl w) (zd:=.held (.slice none 0 0)) (zp:=[]) rfl (key_int (x:=(i:Int)) (by unfold In64;omega))
 rw [hrun,h2.1]
 have h0:decide (0≤(i:Int))=true:=by simp
 rw [h0,Bool.true_and,show ((i:Int).toNat)=i by omega]
 have hv':v=(F i).getD (.slice none 0 0):=by
  unfold Rv at hv
  cases hF:F i with
  | none =>
   rw [Maps.atKey_of_not_has (by rw [h2.1,h0,Bool.true_and,show ((i:Int).toNat)=i by omega,hF];rfl)] at hv
   cases hv
   rfl
  | some u =>
   rw [h2.2 i u hF] at hv
   cases hv
   rfl
 rw [hv']
theorem MapAt.store (h:MapAt w b k F) (ht:Tryz.prog.underlying t=some (.map 3 22)) (i:Nat) (hi:i≤9223372036854775807) (v:Value) (hk:k<maxLen) :
  ∃ y,(Instr.mapUpdate t (.map (some b)) (.int .i64 (i:Int)) v).run Tryz.prog w = .ok () y∧MapAt y b (k+1) (upd F i (some v))∧w.mapTurned y b:=by
 obtain ⟨D,h1,h2⟩:=h
 obtain ⟨y,hrun,a,c⟩:=h1.store kint ht hk (d:=.held v) (ps:=[]) (key_int (x:=(i:Int)) (by unfold In64;omega)) rfl
 exact ⟨y,hrun,⟨_,a,h2.put h1.isMap i v⟩,c⟩
theorem MapAt.drop (h:MapAt w b k F) (ht:Tryz.prog.underlying t=some (.map 3 22)) (i:Nat) (hi:i≤9223372036854775807) (ty:TypeId) :
  ∃ y,(Builtin.delete_ #[t,3] ty #[.map (some b),.int .i64 (i:Int)]).run Tryz.prog w = .ok (.tuple #[]) y∧MapAt y b k (upd F i none)∧w.mapTurned y b:=by
 obtain ⟨D,h1,h2⟩:=h
 obtain ⟨y,hrun,a,c⟩:=h1.drop kint ht (key_int (x:=(i:Int)) (by unfold In64;omega)) ty
 exact ⟨y,hrun,⟨_,a,h2.del i⟩,c⟩
end
end

/-! DkB:  -/
section
open Go.ChangeShapes Go.WideShapes Go.RowKit
namespace Dk
structure M where
 n:Nat
 ls:Nat→List Int
 ca:Nat→Option (List Int)
 rd:Nat→Nat
 wr:Nat
 left:Int
 down:Bool
structure Ok (m:M):Prop where
 n1:1≤m.n
 n2:m.n≤4096
 out:∀ i,m.n≤i→m.ca i=none
 left:In64 m.left
 lsb:∀ i,(m.ls i).length≤1024
 cab:∀ i L,m.ca i=some L→L.length≤1024
def here (m:M) (i:Int):Bool:=decide (0≤i)&&decide (i<(m.n:Int))
def fault (m:M) (i:Int) (L:List Int):Int:=if here m i=false then 7 else if 1024<L.length then 3 else 0
def gone (m:M):Bool:=m.down||decide (m.left=0)
def spend (m:M):M:=if gone m then { m with down:=true } else { m with left:=if 0<m.left then m.left-1 else m.left }
def spendE (m:M):Int:=if gone m then 12 else 0
end Dk
structure Mv (ks:List Nat) (w y:World):Prop where
 os:y.os=w.os
 tape:y.tape=w.tape
 output:y.output=w.output
 size:w.heap.size≤y.heap.size
 block:∀ k,k<w.heap.size→k∉ks→y.heap[k]?=w.heap[k]?
section
variable {ks:List Nat} {w x y z:World} {B k:Nat}
theorem Mv.refl (ks:List Nat) (w:World):Mv ks w w:=⟨rfl,rfl,rfl,Nat.le_refl _,fun _ _ _=>rfl⟩
theorem Mv.trans (h:Mv ks w y) (g:Mv ks y z):Mv ks w z :=
 ⟨g.os.trans h.os,g.tape.trans h.tape,g.output.trans h.output,Nat.le_trans h.size g.size,fun k hk hn=>(g.block k (Nat.lt_of_lt_of_le hk h.size) hn).trans (h.block k hk hn)⟩
theorem Mv.of_below (h:Below w.heap.size w y):Mv ks w y:=⟨h.os,h.tape,h.output,h.size,fun k hk _=>h.block k hk⟩
theorem Mv.drew (h:Mv ks w y):Mv ks w y.drew:=⟨h.os,h.tape,h.output,h.size,h.block⟩
theorem Mv.only (h:Only k w y) (hk:k∈ks):Mv ks w y:=⟨h.os,h.tape,h.output,h.size,fun j hj hn=>h.block j hj (fun e=>hn (e ▸ hk))⟩
theorem Mv.setCell (h:Mv ks w y) (a:Addr) (v:Value) (ha:a.block∈ks):Mv ks w (y.setCell a v):=h.trans (Mv.only (Chg.setCell y a v).only ha)
theorem Mv.grown {row:Option Nat} (h:w.grownBy y row) (hk:∀ j,row=some j→j∈ks):Mv ks w y :=
 ⟨h.os,h.tape,h.output,h.size,fun j hj hn=>h.block j hj (fun e=>hn (hk j e.symm))⟩
theorem Mv.turned (h:w.mapTurned y k) (hk:k∈ks):Mv ks w y:=Mv.grown h.grown (fun j e=>by cases e;exact hk)
theorem Mv.below (h:Mv ks w y) (hb:Below B x w) (hk:∀ k∈ks,B≤k) (hB:B≤w.heap.size):Below B x y :=
 hb.trans ⟨h.os,h.tape,h.output,h.size,fun k hkB=>h.block k (by omega) (fun hm=>by have:=hk k hm;omega)⟩
end
def Sec (y:World) (T:Nat→Prop) (v:Value) (L:List Int):Prop:=y.ownsRow 0 5 1 v L.length (U8s L)∧Sha.Byt L∧∀ g,v.ownBlock=some g→T g
theorem sec_nil (y:World) (T:Nat→Prop):Sec y T (.slice none 0 0) []:=⟨by unfold U8s;exact World.ownsRow_nil _ _ _ _,fun x hx=>by simp at hx,fun g h=>by cases h⟩
section
variable {w y z:World} {T T':Nat→Prop} {v:Value} {L:List Int}
theorem Sec.keep (h:Sec y T v L) (hk:∀ (g:Nat) (cur:Array Value),T g→y.heap[g]?=some (.cells cur 5 (0,0))→z.heap[g]?=y.heap[g]?):Sec z T v L :=
 ⟨own_keepB h.1 (fun g hg=>by
  obtain ⟨_,cur,h2⟩:=own_type h.1 g hg
  exact hk g cur (h.2.2 g hg) h2),h.2.1,h.2.2⟩
theorem Sec.lift (h:Sec y T v L) (hT:∀ g,T g→T' g):Sec y T' v L:=⟨h.1,h.2.1,fun g hg=>hT g (h.2.2 g hg)⟩
theorem Sec.bs (h:Sec y T v L):∃ p c,v = .slice p L.length c∧Bs y p c L:=by
 obtain ⟨p,c,h1,h2,_⟩:=own_bs h.1 h.2.1
 exact ⟨p,c,h1,h2⟩
theorem sec_of {B:Nat} (h:y.ownsRow B 5 1 v L.length (U8s L)) (hb:Sha.Byt L) (hT:∀ g,B≤g→g<y.heap.size→T g):Sec y T v L :=
 ⟨⟨h.1,by
  rcases h.2 with h1 | ⟨g,cap,cur,h1,h2,h3⟩
  ·exact Or.inl h1
  ·exact Or.inr ⟨g,cap,cur,h1,Nat.zero_le _,h3⟩⟩,hb,fun g hg=>hT g (h.lt g hg).1 (h.lt g hg).2⟩
end
structure DkAt (y:World) (T:Nat→Prop) (d lb rb cb:Nat) (m:Dk.M):Prop where
 lt:T d∧T lb∧T rb∧T cb
 top:∀ g,T g→g<y.heap.size
 row:y.heap[d]?=some (.cells #[.slice (some ⟨lb,0,none⟩) m.n m.n,.map (some cb),.slice (some ⟨rb,0,none⟩) m.n m.n,.int .i64 (m.wr:Int),.int .i64 m.left,.bool m.down] 91 (0,0))
 lst:∃ A:Array Value,y.heap[lb]?=some (.cells A 22 (0,0))∧A.size=m.n∧∀ i,i<m.n→∃ v,A[i]?=some v∧Sec y T v (m.ls i)
 csh:∃ F,MapAt y cb m.wr F∧∀ i,(m.ca i=none→F i=none)∧∀ L,m.ca i=some L→∃ v,F i=some v∧Sec y T v L
 rds:y.heap[rb]?=some (.cells ((List.range m.n).map fun i=>Value.int .i64 (m.rd i:Int)).toArray 3 (0,0))
 ok:Dk.Ok m
section
variable {w y z:World} {T T':Nat→Prop} {d lb rb cb:Nat} {m:Dk.M}
theorem DkAt.keep (h:DkAt y T d lb rb cb m) (hT:∀ g,T g→g<z.heap.size) (h1:z.heap[d]?=y.heap[d]?) (h2:z.heap[lb]?=y.heap[lb]?) (h3:z.heap[rb]?=y.heap[rb]?) (h4:z.heap[cb]?=y.heap[cb]?)
  (hk:∀ (g:Nat) (cur:Array Value),T g→y.heap[g]?=some (.cells cur 5 (0,0))→z.heap[g]?=y.heap[g]?):DkAt z T d lb rb cb m:=by
 obtain ⟨A,a1,a2,a3⟩:=h.lst
 obtain ⟨F,b1,b2⟩:=h.csh
 refine ⟨h.lt,hT,h1.trans h.row,⟨A,h2.trans a1,a2,fun i hi=>?_⟩,⟨F,b1.keep h4,fun i=>⟨(b2 i).1,fun L hL=>?_⟩⟩,h3.trans h.rds,h.ok⟩
 ·obtain ⟨v,c1,c2⟩:=a3 i hi
  exact ⟨v,c1,c2.keep hk⟩
 ·obtain ⟨v,c1,c2⟩:=(b2 i).2 L hL
  exact ⟨v,c1,c2.keep hk⟩
theorem DkAt.below {B:Nat} (h:DkAt y T d lb rb cb m) (hb:Below B y z) (hB:∀ g,T g→g<B):DkAt z T d lb rb cb m :=
 h.keep (fun g hg=>Nat.lt_of_lt_of_le (h.top g hg) hb.size) (hb.block _ (hB _ h.lt.1)) (hb.block _ (hB _ h.lt.2.1)) (hb.block _ (hB _ h.lt.2.2.1)) (hb.block _ (hB _ h.lt.2.2.2)) (fun g _ hg _=>hb.block g (hB g hg))
theorem DkAt.old (h:DkAt y T d lb rb cb m) (hb:Below y.heap.size y z):DkAt z T d lb rb cb m:=h.below hb h.top
theorem DkAt.mv {ks:List Nat} (h:DkAt y T d lb rb cb m) (hm:Mv ks y z) (hk:∀ k∈ks,¬ T k):DkAt z T d lb rb cb m:=by
 have key:∀ g,T g→z.heap[g]?=y.heap[g]?:=fun g hg=>hm.block g (h.top g hg) (fun hin=>hk g hin hg)
 exact h.keep (fun g hg=>Nat.lt_of_lt_of_le (h.top g hg) hm.size) (key _ h.lt.1) (key _ h.lt.2.1) (key _ h.lt.2.2.1) (key _ h.lt.2.2.2) (fun g _ hg _=>key g hg)
theorem DkAt.only {q:Nat} (h:DkAt y T d lb rb cb m) (ho:Only q y z) (hq:¬ T q):DkAt z T d lb rb cb m:=h.mv (ks:=[q]) (Mv.only ho (by simp)) (fun k hk=>by simp at hk;subst hk;exact hq)
theorem DkAt.lift (h:DkAt y T d lb rb cb m) (hT:∀ g,T g→T' g) (ht:∀ g,T' g→g<y.heap.size):DkAt y T' d lb rb cb m:=by
 obtain ⟨A,a1,a2,a3⟩:=h.lst
 obtain ⟨F,b1,b2⟩:=h.csh
 have hl:=h.lt
 refine ⟨⟨hT _ hl.1,hT _ hl.2.1,hT _ hl.2.2.1,hT _ hl.2.2.2⟩,ht,h.row,⟨A,a1,a2,fun i hi=>?_⟩,⟨F,b1,fun i=>⟨(b2 i).1,fun L hL=>?_⟩⟩,h.rds,h.ok⟩
 ·obtain ⟨v,c1,c2⟩:=a3 i hi
  exact ⟨v,c1,c2.lift hT⟩
 ·obtain ⟨v,c1,c2⟩:=(b2 i).2 L hL
  exact ⟨v,c1,c2.lift hT⟩
theorem DkAt.ne (h:DkAt y T d lb rb cb m):d ≠ lb∧d ≠ rb∧d ≠ cb∧lb ≠ rb∧lb ≠ cb∧rb ≠ cb:=by
 obtain ⟨A,a1,_⟩:=h.lst
 obtain ⟨F,b1,_⟩:=h.csh
 obtain ⟨es,clock,b1⟩:=b1.isMap
 have r:=h.row
 have q:=h.rds
 refine ⟨?_,?_,?_,?_,?_,?_⟩<;>rintro rfl
 ·rw [r] at a1;cases a1
 ·rw [r] at q;injection Option.some.inj q with _ h2 _;exact absurd h2 (by decide)
 ·rw [r] at b1;cases b1
 ·rw [a1] at q;cases q
 ·rw [a1] at b1;cases b1
 ·rw [q] at b1;cases b1
theorem DkAt.cells (h:DkAt y T d lb rb cb m):y.cell? ⟨d,0,none⟩=some (.slice (some ⟨lb,0,none⟩) m.n m.n)∧y.cell? ⟨d,1,none⟩=some (.map (some cb))∧y.cell? ⟨d,2,none⟩=some (.slice (some ⟨rb,0,none⟩) m.n m.n)∧y.cell? ⟨d,3,none⟩=some (.int .i64 (m.wr:Int))∧y.cell? ⟨d,4,none⟩=some (.int .i64 m.left)∧y.cell? ⟨d,5,none⟩=some (.bool m.down):=by
 refine ⟨?_,?_,?_,?_,?_,?_⟩<;>rw [cell_of_row y d _ _ _ _ h.row]<;>rfl
theorem DkAt.row_set (h:DkAt y T d lb rb cb m) {m':Dk.M} (hm:Mv [d] y z) (hr:z.heap[d]?=some (.cells #[.slice (some ⟨lb,0,none⟩) m.n m.n,.map (some cb),.slice (some ⟨rb,0,none⟩) m.n m.n,.int .i64 (m'.wr:Int),.int .i64 m'.left,.bool m'.down] 91 (0,0)))
  (hn:m'.n=m.n) (hl:m'.ls=m.ls) (hc:m'.ca=m.ca) (hd:m'.rd=m.rd) (hw:m.wr≤m'.wr) (hi:In64 m'.left):DkAt z T d lb rb cb m':=by
 have ne:=h.ne
 have lt:=h.lt
 have ht:=h.top
 have k1:∀ k,T k→k ≠ d→z.heap[k]?=y.heap[k]?:=fun k hk hn=>hm.block k (ht k hk) (by simpa using hn)
 have hu:∀ (g:Nat) (cur:Array Value),T g→y.heap[g]?=some (.cells cur 5 (0,0))→z.heap[g]?=y.heap[g]?:=fun g cur hg h2=>k1 g hg (fun e=>by rw [e,h.row] at h2;cases h2)
 obtain ⟨A,a1,a2,a3⟩:=h.lst
 obtain ⟨F,b1,b2⟩:=h.csh
 obtain ⟨o1,o2,o3,o4,o5,o6⟩:=h.ok
 refine ⟨h.lt,fun g hg=>Nat.lt_of_lt_of_le (h.top g hg) hm.size,by rw [hn];exact hr,⟨A,(k1 lb lt.2.1 (fun e=>ne.1 e.symm)).trans a1,by rw [hn];exact a2,fun i hi=>?_⟩,⟨F,(b1.keep (k1 cb lt.2.2.2 (fun e=>ne.2.2.1 e.symm))).mono hw,fun i=>?_⟩,by rw [hn,hd];exact (k1 rb lt.2.2.1 (fun e=>ne.2.1 e.symm)).trans h.rds,⟨by rw [hn];exact o1,by rw [hn];exact o2,by rw [hn,hc];exact o3,hi,by rw [hl];exact o5,by rw [hc];exact o6⟩⟩
 ·rw [hn] at hi
  obtain ⟨v,c1,c2⟩:=a3 i hi
  rw [hl]
  exact ⟨v,c1,c2.keep hu⟩
 ·rw [hc]
  refine ⟨(b2 i).1,fun L hL=>?_⟩
  obtain ⟨v,c1,c2⟩:=(b2 i).2 L hL
  exact ⟨v,c1,c2.keep hu⟩
end
end

/-! DkC:  -/
section
open Go.RowKit
section
variable {T:Nat→Prop} {d lb rb cb:Nat} {m:Dk.M}
set_option maxHeartbeats 1000000 in
set_option maxRecDepth 100000 in
theorem has_any (i:Int) (w:World) (hd:DkAt w T d lb rb cb m):Calls Tryz.prog 57 #[.pointer (some ⟨d,0,none⟩),.int .i64 i] w fun e w'=>e = .returned (.bool (Dk.here m i))∧w'=w:=by
 obtain ⟨c0,_,_,_,_,_⟩:=hd.cells
 clear hd
 by_cases h0:0≤i
 ·by_cases h1:i<(m.n:Int)
  ·have e:Dk.here m i=true:=by unfold Dk.here;simp [h0,h1]
   go_enter Tryz.func57,Tryz.ntmps57
   go_wp2
   go_ret
   exact ⟨by first | rfl | (rw [e];rfl),rfl⟩
  ·have e:Dk.here m i=false:=by unfold Dk.here;simp [h1]
   go_enter Tryz.func57,Tryz.ntmps57
   go_wp2
   go_ret
   exact ⟨by first | rfl | (rw [e];rfl),rfl⟩
 ·have e:Dk.here m i=false:=by unfold Dk.here;simp [h0]
  go_enter Tryz.func57,Tryz.ntmps57
  go_wp2
  go_ret
  exact ⟨by first | rfl | (rw [e];rfl),rfl⟩
set_option maxHeartbeats 1000000 in
set_option maxRecDepth 100000 in
theorem fault_any (i:Int) (L:List Int) (p:Option Addr) (n c:Nat) (hn:L.length=n) (w:World) (hd:DkAt w T d lb rb cb m) :
  Calls Tryz.prog 84 #[.pointer (some ⟨d,0,none⟩),.int .i64 i,.slice p n c] w fun e w'=>e = .returned (.int .i64 (Dk.fault m i L))∧w'=w:=by
 subst hn
 have HD:=Lib.hid hd;clear hd
 cases h:Dk.here m i with
 | false =>
  have e:Dk.fault m i L=7:=by unfold Dk.fault;simp [h]
  go_enter Tryz.func84,Tryz.ntmps84
  go_wp2_with (go_at_call 57;refine (has_any i _ HD.out).mono ?_;rw [h];rintro e1 w1 ⟨rfl,rfl⟩)
  go_ret
  exact ⟨by first | rfl | (rw [e];rfl),rfl⟩
 | true =>
  by_cases hl:(1024:Int)<(L.length:Int)
  ·have e:Dk.fault m i L=3:=by unfold Dk.fault;rw [h,if_neg (by decide),if_pos (by omega)]
   go_enter Tryz.func84,Tryz.ntmps84
   go_wp2_with (go_at_call 57;refine (has_any i _ HD.out).mono ?_;rw [h];rintro e1 w1 ⟨rfl,rfl⟩)
   go_ret
   exact ⟨by first | rfl | (rw [e];rfl),rfl⟩
  ·have e:Dk.fault m i L=0:=by unfold Dk.fault;rw [h,if_neg (by decide),if_neg (by omega)]
   go_enter Tryz.func84,Tryz.ntmps84
   go_wp2_with (go_at_call 57;refine (has_any i _ HD.out).mono ?_;rw [h];rintro e1 w1 ⟨rfl,rfl⟩)
   go_ret
   exact ⟨by first | rfl | (rw [e];rfl),rfl⟩
def RowSayD (T:Nat→Prop) (d lb rb cb:Nat) (v:Value) (m':Dk.M) (w:World) (e:Ending) (w':World):Prop:=e = .returned v∧Hid (DkAt w' T d lb rb cb m')∧Mv [d] w w'
set_option maxHeartbeats 1000000 in
set_option maxRecDepth 100000 in
theorem spend_any (w:World) (hd:DkAt w T d lb rb cb m):Calls Tryz.prog 96 #[.pointer (some ⟨d,0,none⟩)] w (RowSayD T d lb rb cb (.int .i64 (Dk.spendE m)) (Dk.spend m) w):=by
 obtain ⟨_,_,_,_,c4,c5⟩:=hd.cells
 have f4:=frozen_of_row w d 4 _ _ hd.row
 have f5:=frozen_of_row w d 5 _ _ hd.row
 have HD:=Lib.hid hd;clear hd
 have key:∀ (j:Nat) (u:Value),(w.setCell ⟨d,j,none⟩ u).heap[d]?=some (.cells ((#[.slice (some ⟨lb,0,none⟩) m.n m.n,.map (some cb),.slice (some ⟨rb,0,none⟩) m.n m.n,.int .i64 (m.wr:Int),.int .i64 m.left,.bool m.down]:Array Value).setIfInBounds j u) 91 (0,0)):=fun j u=>heap_setCell_same w d j _ _ u HD.out.row
 have KEY:=Lib.hid key;clear key
 have HL:=Lib.hid HD.out.ok.left
 cases hdn:m.down with
 | true =>
  have hg:Dk.gone m=true:=by unfold Dk.gone;rw [hdn];rfl
  have es:Dk.spend m = { m with down:=true }:=by unfold Dk.spend;rw [if_pos hg]
  have ee:Dk.spendE m=12:=by unfold Dk.spendE;rw [if_pos hg]
  rw [hdn] at c5
  go_enter Tryz.func96,Tryz.ntmps96
  go_wp2
  go_ret
  refine ⟨by first | rfl | (rw [ee];rfl),Lib.hid ?_,(Mv.refl _ _).setCell _ _ (by simp)⟩
  rw [es]
  exact HD.out.row_set ((Mv.refl _ _).setCell _ _ (by simp)) (by rw [KEY.out];rfl) rfl rfl rfl rfl (Nat.le_refl _) HL.out
 | false =>
  rw [hdn] at c5
  by_cases h0:m.left=0
  ·have hg:Dk.gone m=true:=by unfold Dk.gone;rw [h0];simp
   have es:Dk.spend m = { m with down:=true }:=by unfold Dk.spend;rw [if_pos hg]
   have ee:Dk.spendE m=12:=by unfold Dk.spendE;rw [if_pos hg]
   rw [h0] at c4
   go_enter Tryz.func96,Tryz.ntmps96
   go_wp2
   go_ret
   refine ⟨by first | rfl | (rw [ee];rfl),Lib.hid ?_,(Mv.refl _ _).setCell _ _ (by simp)⟩
   rw [es]
   exact HD.out.row_set ((Mv.refl _ _).setCell _ _ (by simp)) (by rw [KEY.out];rfl) rfl rfl rfl rfl (Nat.le_refl _) HL.out
  ·have hg:Dk.gone m=false:=by unfold Dk.gone;rw [hdn];simp [h0]
   have ee:Dk.spendE m=0:=by unfold Dk.spendE;rw [hg];rfl
   have h0':(m.left==0)=false:=by simpa using h0
   by_cases hp:0<m.left
   ·have es:Dk.spend m = { m with left:=m.left-1 }:=by unfold Dk.spend;rw [hg,if_pos hp];rfl
    have hw1:IntKind.i64.wrap (m.left-1)=m.left-1:=IntWalk.i64_in _ (by have h:=HL.out;unfold In64 at h;constructor<;>omega)
    go_enter Tryz.func96,Tryz.ntmps96
    go_wp2
    go_ret
    refine ⟨by first | rfl | (rw [ee];rfl),Lib.hid ?_,(Mv.refl _ _).setCell _ _ (by simp)⟩
    rw [es]
    exact HD.out.row_set ((Mv.refl _ _).setCell _ _ (by simp)) (by rw [KEY.out];simp [hdn]) rfl rfl rfl rfl (Nat.le_refl _) (by have h:=HL.out;unfold In64 at h ⊢;dsimp only;omega)
   ·have es:Dk.spend m=m:=by unfold Dk.spend;rw [hg,if_neg hp];rfl
    go_enter Tryz.func96,Tryz.ntmps96
    go_wp2
    go_ret
    exact ⟨by first | rfl | (rw [ee];rfl),Lib.hid (by first | exact HD.out | (rw [es];exact HD.out)),Mv.refl _ _⟩
set_option maxRecDepth 100000 in
theorem down_any (w:World) (hd:DkAt w T d lb rb cb m):Calls Tryz.prog 35 #[.pointer (some ⟨d,0,none⟩)] w fun e w'=>e = .returned (.bool m.down)∧w'=w:=by
 obtain ⟨_,_,_,_,_,c5⟩:=hd.cells
 clear hd
 go_enter Tryz.func35,Tryz.ntmps35
 go_wp2
 go_ret
 exact ⟨rfl,rfl⟩
set_option maxRecDepth 100000 in
theorem writes_any (w:World) (hd:DkAt w T d lb rb cb m):Calls Tryz.prog 36 #[.pointer (some ⟨d,0,none⟩)] w fun e w'=>e = .returned (.int .i64 (m.wr:Nat))∧w'=w:=by
 obtain ⟨_,_,_,c3,_,_⟩:=hd.cells
 clear hd
 go_enter Tryz.func36,Tryz.ntmps36
 go_wp2
 go_ret
 exact ⟨rfl,rfl⟩
set_option maxRecDepth 100000 in
theorem arm_any (n:Int) (hn:In64 n) (w:World) (hd:DkAt w T d lb rb cb m):Calls Tryz.prog 31 #[.pointer (some ⟨d,0,none⟩),.int .i64 n] w (RowSayD T d lb rb cb (.tuple #[]) { m with left:=n } w):=by
 obtain ⟨_,_,_,_,c4,_⟩:=hd.cells
 have f4:=frozen_of_row w d 4 _ _ hd.row
 have HD:=Lib.hid hd;clear hd
 have HN:=Lib.hid hn;clear hn
 have KEY:=Lib.hid (heap_setCell_same w d 4 _ _ (.int .i64 n) HD.out.row)
 go_enter Tryz.func31,Tryz.ntmps31
 go_wp2
 go_end0
 refine ⟨rfl,Lib.hid ?_,(Mv.refl _ _).setCell _ _ (by simp)⟩
 exact HD.out.row_set ((Mv.refl _ _).setCell _ _ (by simp)) (by rw [KEY.out];simp) rfl rfl rfl rfl (Nat.le_refl _) HN.out
end
end

/-! DkE:  -/
section
open Go.RowKit
theorem Tryz.mapTy:Tryz.prog.underlying 89=some (.map 3 22):=by kernel_rfl
theorem wpList_del {P:Program} {w:World} {ops:Array Oper} {rest:List Oper} {o:Oper} {a:Act} {Q:Exit→Act→World→Prop} (hg:o.guard=none) (m x:Operand) (t k:TypeId) (hop:o.op=Op.call { callee:=Callee.builtin Builtin.delete,args:=#[m,x],argTypes:=#[t,k] }) (b:Nat) (key:Value)
  (hm:a.eval m = .map (some b)) (hx:a.eval x=key) (y:World) (hrun:(Builtin.delete_ #[t,k] o.type #[.map (some b),key]).run P w = .ok (.tuple #[]) y) (hK:wpList P ops Q rest (a.put o.dst (.tuple #[])) y):wpList P ops Q (o :: rest) a w:=by
 refine wpList_plain hg fun K' hK'=>?_
 unfold Oper.wp
 simp [execOp,hop,resolve,invoke,builtin,hm,hx,hrun,Result.andThen]
 exact hK' _ _ hK
end
end Go.Proofs.YtnnalemboeccbaaGreatDoor

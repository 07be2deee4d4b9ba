/-
  NaK, NaM, NaN, NaP, NaE (merged)
-/
import Derived.Test.YtnnalemboeccbaaGreatDoorA1
import Derived.Test.YtnnalemboeccbaaGreatDoorA3
import Derived.Test.YtnnalemboeccbaaGreatDoorA4
import Derived.Test.YtnnalemboeccbaaGreatDoorA5
import Derived.Test.YtnnalemboeccbaaGreatDoorA6
import Derived.Test.YtnnalemboeccbaaGreatDoorBd1
import Derived.Test.YtnnalemboeccbaaGreatDoorB8
import Derived.Test.YtnnalemboeccbaaGreatDoorBc1
import Derived.Test.YtnnalemboeccbaaGreatDoorSe1
import Derived.Test.YtnnalemboeccbaaGreatDoorSe5
import Derived.Test.YtnnalemboeccbaaGreatDoorSe3
import Derived.Test.YtnnalemboeccbaaGreatDoorSe4
import Derived.WalkKit
import Derived.Laws.CopyOwn
import Derived.OwnWalk
import Derived.BigRegion
import Derived.WalkSpells
import Derived.Lib.Hide
import Derived.Deep.MidRow
import Derived.RegionTactic
import Derived.Deep.RegionHeld3
import Derived.OneCell
import Derived.StillTailTactics
import Derived.Laws.MakeOwn
import Derived.Laws.OwnMore
import Derived.BigQuiet
import Derived.Laws.AppendOwnNone
import Derived.OrdersHeld
import Derived.Lib.AppendZeros
import Derived.Laws.Tables
import Derived.Deep.Matrix
import Derived.RangeFuncNested
import Derived.RangeFuncBound
import Derived.RangeFuncCalls
import Derived.RangeFuncLeaves
import Derived.Shelf.Abstract
import Derived.Shelf.RegionOpen
import Derived.OwnWalkIn
import Derived.TacticsInMore
import Derived.LoopNIn
import Derived.LoopIn
import Derived.Test.YtnnalemboeccbaaGreatDoorChecked
import Derived.WalkLawsBesides
import Derived.Deep.QuietTactic
import Derived.Deep.WholeRow
import Derived.Deep.Cut
import Derived.StillTail
import Derived.Laws.StructEq
import Derived.ChangeKeysEq
import Derived.Laws.Closers25b
import Derived.OrdersIn
import Derived.OpenShut
import Derived.Deep.Slices
import Derived.RangeFuncWrites
import Derived.Laws.EntriesVeiled
import Derived.Deep.RegionLawGrows
import Derived.Deep.CutRange
import Derived.Deep.RegionLaw
import Derived.ArgAppend
import Derived.Lib.SlBytesConst
import Derived.Laws.Cover3
import Derived.Maps.OwnSet
import Derived.DeepKeys4
import Derived.Laws.IdiomStrings
import Derived.Lib.BufferRead
namespace Go.Proofs.YtnnalemboeccbaaGreatDoor

/-! NaK:  -/
section
open Go.ChangeShapes Go.WideShapes Go.RowKit
set_option maxRecDepth 100000 in
theorem open_bs_cells {H:Type} {enc:TypeId × Value→H} {W:World} {m:Nat} {c:Value} {x:DataW H × List MemPlace} (hf:DataW.trod enc Tryz.prog W 0 (fun _=>true) true m 22 [c]=some x) :
  ∃ (L:List Int) (p:Option Addr) (cap:Nat),c = .slice p L.length cap∧Bs W p cap L:=by
 rcases open_ints Tryz.underlying22 Tryz.underlying5 Tryz.cells5 hf with ⟨hcs,_⟩ | ⟨a,len,cap,zs,hcs,_,hl,hm,hz,_,hcell,hwz⟩
 ·obtain rfl:c = .slice none 0 0:=by simpa using hcs
  exact ⟨[],none,0,rfl,bs_none W⟩
 ·obtain rfl:c = .slice (some a) len cap:=by simpa using hcs
  simp only [if_true] at hz
  have hll:(zs.take len).length=len:=by simp;omega
  refine ⟨zs.take len,some a,cap,by rw [hll],⟨fun x hx=>?_,fun h0=>?_⟩,⟨by omega,by unfold maxLen at hm;omega⟩,fun e=>by cases e⟩
  ·have h:=hwz x (List.mem_of_mem_take hx)
   simp [Lit.wf,IntKind.min,IntKind.max,IntKind.signed,IntKind.bits] at h
   omega
  ·rw [hll] at h0 ⊢
   obtain ⟨ab,ao,spot⟩:=a
   have hspot:spot=none:=by simpa [Addr.add] using World.cell?_spot (hcell 0 (by omega))
   subst hspot
   refine ⟨ab,ao,rfl,fun j hj=>?_⟩
   have h:=hcell j (by omega)
   rw [Addr.add_mid] at h
   rw [h]
   congr 2
   simp [List.getD_eq_getElem?_getD,hj]
set_option maxRecDepth 100000 in
theorem open_bs {H:Type} {enc:TypeId × Value→H} {W:World} {base:Nat} {v:Value} {d:DataW H} {ps:List MemPlace} (hok:Value.okWide Tryz.prog W .any base 22 v)
  (h:DataW.Trod enc Tryz.prog W 0 (fun _=>true) true 22 v d ps):∃ (L:List Int) (p:Option Addr) (cap:Nat),v = .slice p L.length cap∧Bs W p cap L:=by
 obtain ⟨a0,len,cap,rfl⟩:=okWide_slice Tryz.underlying22 hok
 obtain ⟨fuel,hf⟩:=h
 exact open_bs_cells hf
end

/-! NaM:  -/
section
open Go.ChangeShapes Go.WideShapes Go.RowKit
namespace Nm
def place {α:Type} [DecidableEq α] (x:α):List α→Nat
 | []=>0
 | y :: r=>if y=x then 1 else if place x r=0 then 0 else place x r+1
section
variable {α:Type} [DecidableEq α] {x y:α} {l m:List α} {k:Nat}
theorem place_zero:place x l=0↔x∉l:=by
 induction l with
 | nil=>simp [place]
 | cons z r ih =>
  rw [place]
  by_cases h:z=x
  ·simp [h]
  ·rw [if_neg h,List.mem_cons]
   by_cases h2:place x r=0
   ·simp [h2,ih.1 h2,Ne.symm h]
   ·rw [if_neg h2]
    have h3:x∈r:=by
     by_cases h4:x∈r
     ·exact h4
     ·exact absurd (ih.2 h4) h2
    simp [h3]
theorem place_of:∀ {l:List α} {k:Nat},l.Nodup→l[k]?=some x→place x l=k+1
 | [],k,_,h=>by simp at h
 | z :: r,0,_,h=>by
  simp at h
  simp [place,h]
 | z :: r,k+1,hn,h=>by
  rw [List.nodup_cons] at hn
  have h':r[k]?=some x:=by simpa using h
  have hm:x∈r:=List.mem_of_getElem? h'
  have hne:z ≠ x:=fun e=>hn.1 (e ▸ hm)
  have:=place_of hn.2 h'
  rw [place,if_neg hne,this]
  simp
theorem place_app:place x (l++m)=if place x l=0 then (if place x m=0 then 0 else l.length+place x m) else place x l:=by
 induction l with
 | nil =>
  simp only [List.nil_append,place]
  by_cases h:place x m=0<;>simp [h]
 | cons z r ih =>
  rw [List.cons_append,place,place,ih]
  by_cases h:z=x
  ·simp [h]
  ·rw [if_neg h,if_neg h]
   by_cases h1:place x r=0
   ·rw [if_pos h1,if_pos h1]
    by_cases h2:place x m=0
    ·simp [h2]
    ·simp [h2];omega
   ·simp [h1]
def put (x:α) (l:List α):List α:=if place x l=0 then l++[x] else l
def num (x:α) (l:List α):Nat:=if place x l=0 then l.length+1 else place x l
theorem num_place:place x (put x l)=num x l:=by
 unfold put num
 by_cases h:place x l=0
 ·rw [if_pos h,if_pos h,place_app,if_pos h]
  simp [place]
 ·rw [if_neg h,if_neg h]
theorem num_pos:0<num x l:=by unfold num;split<;>omega
theorem put_len:(put x l).length≤l.length+1:=by unfold put;split<;>simp
theorem place_put (h:place y l ≠ 0):place y (put x l)=place y l:=by
 unfold put
 split
 ·rw [place_app,if_neg h]
 ·rfl
theorem put_self:place x (put x l) ≠ 0:=by rw [num_place];have:=num_pos (x:=x) (l:=l);omega
theorem put_same (h:place x l ≠ 0):put x l=l:=by unfold put;rw [if_neg h]
theorem num_same (h:place x l ≠ 0):num x l=place x l:=by unfold num;rw [if_neg h]
theorem num_new (h:place x l=0):num x l=l.length+1:=by unfold num;rw [if_pos h]
theorem put_new (h:place x l=0):put x l=l++[x]:=by unfold put;rw [if_pos h]
end
def bts (l:List Int):ByteArray:=⟨(l.map fun i=>UInt8.ofNat i.toNat).toArray⟩
theorem bts_size (l:List Int):(bts l).size=l.length:=by simp [bts,ByteArray.size]
theorem bts_inj:∀ {l m:List Int},Sha.Byt l→Sha.Byt m→bts l=bts m→l=m:=by
 intro l m hl hm h
 have h1:l.map (fun i=>UInt8.ofNat i.toNat)=m.map (fun i=>UInt8.ofNat i.toNat):=by
  have:=congrArg (fun b:ByteArray=>b.data.toList) h
  simpa [bts] using this
 have hlen:l.length=m.length:=by simpa using congrArg List.length h1
 apply List.ext_getElem hlen
 intro i h2 h3
 have h4:=congrArg (fun q:List UInt8=>q[i]?) h1
 simp only [List.getElem?_map,List.getElem?_eq_getElem h2,List.getElem?_eq_getElem h3,Option.map_some,Option.some.injEq] at h4
 have a:=hl _ (List.getElem_mem h2)
 have b:=hm _ (List.getElem_mem h3)
 have h5:=congrArg UInt8.toNat h4
 simp only [UInt8.toNat_ofNat'] at h5
 omega
abbrev Four:=Int × Int × List Int × List Int
def kv4 (x:Four):Value:=.agg #[.int .i64 x.1,.int .i64 x.2.1,.string (bts x.2.2.1),.string (bts x.2.2.2)]
def kvs (t:List Int):Value:=.string (bts t)
def In64 (n:Int):Prop:=-9223372036854775808≤n∧n≤9223372036854775807
def okt (t:List Int):Prop:=Sha.Byt t∧t.length≤9223372036854775807
def ok4 (x:Four):Prop:=In64 x.1∧In64 x.2.1∧okt x.2.2.1∧okt x.2.2.2
structure Kd {α:Type} (kv:α→Value) (ok:α→Prop) (K:TypeId):Prop where
 law:Go.Maps.Keyed Tryz.prog K
 reads:∀ x,ok x→∃ l,keyOf Tryz.prog K (kv x)=some l
 inj:∀ x y,ok x→ok y→kv x=kv y→x=y
theorem kvs_inj (x y:List Int) (hx:okt x) (hy:okt y) (h:kvs x=kvs y):x=y:=by
 unfold kvs at h
 exact bts_inj hx.1 hy.1 (Value.string.inj h)
theorem kv4_inj (x y:Four) (hx:ok4 x) (hy:ok4 y) (h:kv4 x=kv4 y):x=y:=by
 obtain ⟨a,b,c,d⟩:=x
 obtain ⟨a',b',c',d'⟩:=y
 simp only [kv4,Value.agg.injEq] at h
 simp at h
 obtain ⟨rfl,rfl,h3,h4⟩:=h
 obtain rfl:=bts_inj hx.2.2.1.1 hy.2.2.1.1 h3
 obtain rfl:=bts_inj hx.2.2.2.1 hy.2.2.2.1 h4
 rfl
theorem wf_in {n:Int} (h:In64 n):(Lit.int .i64 n).wf=true:=by
 unfold In64 at h
 simp [Lit.wf,IntKind.min,IntKind.max,IntKind.signed,IntKind.bits]
 omega
end Nm
theorem kd_text:Nm.Kd Nm.kvs Nm.okt 9 where
 law:=Go.Maps.string_keyed Tryz.underlying9
 reads:=fun x hx=>⟨_,by
  unfold Nm.kvs
  simp only [keyOf,Tryz.underlying9,mapKey]
  rw [if_pos (by rw [Nm.bts_size];have:=hx.2;unfold maxLen;omega)]⟩
 inj:=Nm.kvs_inj
theorem laid_out:laidOutB Tryz.prog=true:=by kernel_rfl
theorem row_four:291 < Tryz.prog.types.size:=of_decide_eq_true (by kernel_rfl)
theorem law_four:WideMaps.KeyLaw Tryz.prog 291:=deep_law_laid laid_out (m:=3) (by omega) row_four (by kernel_rfl) (by kernel_rfl)
theorem cells_four:Tryz.prog.cellsOf 291=4:=by kernel_rfl
theorem cells_int:Tryz.prog.cellsOf 3=1:=by kernel_rfl
theorem cells_string:Tryz.prog.cellsOf 9=1:=by kernel_rfl
theorem key_four:Tryz.prog.keyType 291=true:=by kernel_rfl
theorem lits_int (d:Nat) {n:Int} (h:Nm.In64 n):Tryz.prog.keyLits (d+1) 3 [.int .i64 n]=some [.int .i64 n]:=by
 simp [Program.keyLits,Tryz.underlying3,Nm.wf_in h]
theorem lits_text (d:Nat) {l:List Int} (h:Nm.okt l):Tryz.prog.keyLits (d+1) 9 [.string (Nm.bts l)]=some [.string (Nm.bts l).data.toList]:=by
 have:(Nm.bts l).size≤maxLen:=by rw [Nm.bts_size];have:=h.2;unfold maxLen;omega
 simp [Program.keyLits,Tryz.underlying9,this]
set_option maxRecDepth 100000 in
theorem kd_four:Nm.Kd Nm.kv4 Nm.ok4 291 where
 law:=Go.Maps.Keyed.of_law law_four
 reads:=fun x hx=>by
  obtain ⟨a,b,c,d⟩:=x
  obtain ⟨h1,h2,h3,h4⟩:=hx
  obtain ⟨m,hm⟩:∃ m,Tryz.prog.types.size=m+1:=⟨Tryz.prog.types.size-1,by have:=row_four;omega⟩
  have hf:(Nm.kv4 (a,b,c,d)).formed Tryz.prog 291=true:=by
   simp [Nm.kv4,Value.formed,Tryz.underlying291,cells_four]
  have hl:Tryz.prog.keyLits (m+2) 291 (Nm.kv4 (a,b,c,d)).cells.toList=some [.int .i64 a,.int .i64 b,.string (Nm.bts c).data.toList,.string (Nm.bts d).data.toList]:=by
   simp only [Nm.kv4,Value.cells]
   unfold Program.keyLits
   rw [Tryz.underlying291]
   simp [cells_four,cells_int,cells_string,lits_int _ h1,lits_int _ h2,lits_text _ h3,lits_text _ h4]
  refine ⟨_,show keyOf Tryz.prog 291 (Nm.kv4 (a,b,c,d))=some (.string (keyBytes [.int .i64 a,.int .i64 b,.string (Nm.bts c).data.toList,.string (Nm.bts d).data.toList])) from ?_⟩
  unfold keyOf
  rw [Tryz.underlying291]
  dsimp only
  rw [if_pos (by rw [key_four,hf];rfl),hm,hl]
  rfl
 inj:=Nm.kv4_inj
end

/-! NaN:  -/
section
open Go.ChangeShapes Go.WideShapes Go.RowKit
theorem text_of {w:World} {p:Option Addr} {c:Nat} {L:List Int} (h:Bs w p c L):(convert 22 9 (.slice p L.length c)).run Tryz.prog w = .ok (.string (Nm.bts L)) w:=by
 cases p with
 | none =>
  obtain ⟨rfl,rfl⟩:=h.nil rfl
  exact Lib.run_convert_nil_bytes w 22 9 5 0 Tryz.underlying22 Tryz.underlying5 Tryz.underlying9
 | some ad =>
  have hb:=bs_cells h.bat
  have hr:=run_convert_bytes_back (P:=Tryz.prog) w 22 9 5 ad c (L.map fun i=>UInt8.ofNat i.toNat) Tryz.underlying22 Tryz.underlying5 Tryz.underlying9 (fun j hj=>by
   have hj':j<L.length:=by simpa using hj
   rw [hb j _ (by rw [List.getElem?_map,List.getElem?_eq_getElem hj'];rfl)]
   have hB:=h.bat.1 _ (List.getElem_mem hj')
   simp only [List.getElem_map,UInt8.toNat_ofNat']
   congr 2
   omega)
  simpa [Nm.bts] using hr
section
variable {α:Type}
def MpAt (kv:α→Value) (ok:α→Prop) (w:World) (b:Nat) (l:List α):Prop :=
 l.Nodup∧(∀ x∈l,ok x)∧∃ es clock,w.heap[b]?=some (.map es clock)∧es.toList.length=l.length∧∀ (j:Nat) (e:MapEntry),es.toList[j]?=some e→∃ x,l[j]?=some x∧e.key=kv x∧e.val = .int .i64 ((j:Int)+1)
variable {kv:α→Value} {ok:α→Prop} {K t:TypeId} {w:World} {b:Nat} {l:List α} {x:α}
theorem MpAt.block (h:MpAt kv ok w b l):b<w.heap.size:=by
 obtain ⟨_,_,es,clock,hb,_⟩:=h
 exact (Array.getElem?_eq_some_iff.1 hb).1
theorem MpAt.keep {w':World} (h:MpAt kv ok w b l) (hb:w'.heap[b]?=w.heap[b]?):MpAt kv ok w' b l:=by
 obtain ⟨h1,h2,es,clock,h3,h4⟩:=h
 exact ⟨h1,h2,es,clock,hb.trans h3,h4⟩
theorem MpAt.old {w':World} (h:MpAt kv ok w b l) (hb:Below w.heap.size w w'):MpAt kv ok w' b l:=h.keep (hb.block _ h.block)
theorem MpAt.len (ht:Tryz.prog.underlying t=some (.map K 3)) (h:MpAt kv ok w b l) (ty:TypeId) :
  (Builtin.len_ #[t] ty #[.map (some b)]).run Tryz.prog w = .ok (.int .i64 (l.length:Nat)) w:=by
 obtain ⟨h1,h2,es,clock,hb,h3,h4⟩:=h
 have h5:es.size=l.length:=by simpa using h3
 simp [Builtin.len_,run_underlying ht,MapKept.run_getObj_map hb,goInt,Result.andThen,h5]
theorem mp_made (w:World) (kv:α→Value) (ok:α→Prop):MpAt kv ok (w.alloc (.map #[] 0)) w.heap.size [] :=
 ⟨List.nodup_nil,by simp,#[],0,(MapKept.heap_alloc w _).1,rfl,fun j e h=>by simp at h⟩
variable [DecidableEq α]
theorem MpAt.find (hk:Nm.Kd kv ok K) (hx:ok x) {es:Array MapEntry} (h1:l.Nodup) (h2:∀ x∈l,ok x) (h3:es.toList.length=l.length) (h4:∀ (j:Nat) (e:MapEntry),es.toList[j]?=some e→∃ x,l[j]?=some x∧e.key=kv x∧e.val = .int .i64 ((j:Int)+1)) (w:World) :
  (Nm.place x l=0∧(Instr.findKey K (kv x) es.toList).run Tryz.prog w = .ok none w)∨∃ j,Nm.place x l=j+1∧(Instr.findKey K (kv x) es.toList).run Tryz.prog w = .ok (some (j,.int .i64 ((j:Int)+1))) w:=by
 obtain ⟨lx,hlx⟩:=hk.reads x hx
 have hes:∀ e∈es.toList,∃ l,keyOf Tryz.prog K e.key=some l:=fun e he=>by
  obtain ⟨j,hj⟩:=List.getElem?_of_mem he
  obtain ⟨y,hy,hk1,_⟩:=h4 j e hj
  rw [hk1]
  exact hk.reads y (h2 y (List.mem_of_getElem? hy))
 rcases hk.law.find w hlx es.toList hes with ⟨f1,f2⟩ | ⟨j,e,f1,f2,f3⟩
 ·refine Or.inl ⟨Nm.place_zero.2 (fun hm=>?_),f1⟩
  obtain ⟨j,hj⟩:=List.getElem?_of_mem hm
  have hlt:j<es.toList.length:=by rw [h3];exact (List.getElem?_eq_some_iff.1 hj).1
  obtain ⟨y,hy,hk1,_⟩:=h4 j _ (List.getElem?_eq_getElem hlt)
  rw [hj] at hy
  cases hy
  exact f2 _ (List.getElem_mem hlt) hk1
 ·obtain ⟨y,hy,hk1,hv⟩:=h4 j e f2
  have hyx:y=x:=hk.inj y x (h2 y (List.mem_of_getElem? hy)) hx (by rw [← hk1,f3])
  subst hyx
  refine Or.inr ⟨j,Nm.place_of h1 hy,?_⟩
  rw [f1,hv]
theorem MpAt.look (hk:Nm.Kd kv ok K) (ht:Tryz.prog.underlying t=some (.map K 3)) (h:MpAt kv ok w b l) (hx:ok x) :
  (Instr.lookup t (.map (some b)) (kv x) true).run Tryz.prog w = .ok (.tuple #[.int .i64 (Nm.place x l:Nat),.bool (decide (0<Nm.place x l))]) w:=by
 obtain ⟨h1,h2,es,clock,hb,h3,h4⟩:=h
 obtain ⟨lx,hlx⟩:=hk.reads x hx
 have hz:(zeroValue 3).run Tryz.prog w = .ok (.int .i64 0) w:=by kernel_rfl
 rcases MpAt.find hk hx h1 h2 h3 h4 w with ⟨p1,f1⟩ | ⟨j,p1,f1⟩
 ·rw [p1]
  simp [Instr.lookup,run_underlying ht,MapKept.run_getObj_map hb,hk.law.check w _ hlx,f1,hz,Result.andThen]
 ·rw [p1]
  simp [Instr.lookup,run_underlying ht,MapKept.run_getObj_map hb,hk.law.check w _ hlx,f1,Result.andThen]
theorem MpAt.store (hk:Nm.Kd kv ok K) (ht:Tryz.prog.underlying t=some (.map K 3)) (h:MpAt kv ok w b l) (hx:ok x) (h0:Nm.place x l=0) :
  ∃ w',(Instr.mapUpdate t (.map (some b)) (kv x) (.int .i64 ((l.length:Int)+1))).run Tryz.prog w = .ok () w'∧MpAt kv ok w' b (l++[x])∧Chg b w w':=by
 obtain ⟨h1,h2,es,clock,hb,h3,h4⟩:=h
 obtain ⟨lx,hlx⟩:=hk.reads x hx
 have hs:es.size=l.length:=by simpa using h3
 rcases MpAt.find hk hx h1 h2 h3 h4 w with ⟨_,f1⟩ | ⟨j,p1,_⟩
 ·refine ⟨{ w with heap:=w.heap.setIfInBounds b (.map (es.push ⟨kv x,.int .i64 ((l.length:Int)+1),clock⟩) (clock+1)) },?_,⟨?_,?_,_,_,(MapKept.heap_set hb).1,by simp [hs],fun j e hj=>?_⟩,⟨rfl,rfl,rfl,by simp,fun k hk=>(MapKept.heap_set hb).2 k hk⟩⟩
  ·simp [Instr.mapUpdate,run_underlying ht,MapKept.run_getObj_map hb,hk.law.check w false hlx,f1,MapKept.run_setObj_map _ hb,Result.andThen]
  ·have:=Nm.place_zero.1 h0
   exact List.nodup_append.2 ⟨h1,by simp,fun a ha b hb=>by simp at hb;subst hb;exact fun e=>this (e ▸ ha)⟩
  ·intro y hy
   rcases List.mem_append.1 hy with hy | hy
   ·exact h2 y hy
   ·simp at hy;subst hy;exact hx
  ·by_cases hlt:j<l.length
   ·have hj':es.toList[j]?=some e:=by
     rw [Array.toList_push,List.getElem?_append_left (by rw [h3];exact hlt)] at hj
     exact hj
    obtain ⟨y,hy,hr⟩:=h4 j e hj'
    exact ⟨y,by rw [List.getElem?_append_left hlt];exact hy,hr⟩
   ·rw [Array.toList_push,List.getElem?_append_right (by omega),h3] at hj
    have hj0:j-l.length=0:=by
     by_cases hq:j-l.length=0
     ·exact hq
     ·rw [List.getElem?_eq_none (by simp;omega)] at hj;cases hj
    rw [hj0] at hj
    simp at hj
    obtain rfl:j=l.length:=by omega
    subst hj
    exact ⟨x,by simp,rfl,rfl⟩
 ·rw [h0] at p1;omega
end
theorem at_look {α:Type} [DecidableEq α] {kv:α→Value} {ok:α→Prop} {K:TypeId} (w:World) {ops:Array Oper} {rest:List Oper} {a:Act} {Q:Exit→Act→World→Prop} {D:Option Tmp} {T:TypeId} {ps:String} {af:Array Edge}
  (m y:Operand) (t:TypeId) (b:Nat) (l:List α) (x:α) (hk:Nm.Kd kv ok K) (ht:Tryz.prog.underlying t=some (.map K 3)) (hm:a.eval m = .map (some b)) (hy:a.eval y=kv x) (h:MpAt kv ok w b l) (hx:ok x)
  (hK:wpList Tryz.prog ops Q rest (a.put D (.tuple #[.int .i64 (Nm.place x l:Nat),.bool (decide (0<Nm.place x l))])) w) :
  wpList Tryz.prog ops Q ({ dst:=D,op:=.lookup t m y true,type:=T,pos:=ps,after:=af,guard:=none } :: rest) a w:=by
 refine wpList_plain rfl fun K' hK'=>?_
 unfold Oper.wp
 simp [execOp,hm,hy,h.look hk ht hx,Result.andThen]
 exact hK' _ _ hK
theorem at_len_map {α:Type} {kv:α→Value} {ok:α→Prop} {K:TypeId} (w:World) {ops:Array Oper} {rest:List Oper} {a:Act} {Q:Exit→Act→World→Prop} {D:Option Tmp} {T:TypeId} {ps:String} {af:Array Edge}
  (m:Operand) (t:TypeId) (b:Nat) (l:List α) (ht:Tryz.prog.underlying t=some (.map K 3)) (hm:a.eval m = .map (some b)) (h:MpAt kv ok w b l)
  (hK:wpList Tryz.prog ops Q rest (a.put D (.int .i64 (l.length:Nat))) w) :
  wpList Tryz.prog ops Q ({ dst:=D,op:=.call { callee:=.builtin .len,args:=#[m],argTypes:=#[t] },type:=T,pos:=ps,after:=af,guard:=none } :: rest) a w:=by
 refine wpList_plain rfl fun K' hK'=>?_
 unfold Oper.wp
 simp [execOp,resolve,invoke,builtin,hm,h.len ht T,Result.andThen]
 exact hK' _ _ hK
set_option maxRecDepth 10000 in
theorem at_put {α:Type} [DecidableEq α] {kv:α→Value} {ok:α→Prop} {K:TypeId} (w:World) {ops:Array Oper} {rest:List Oper} {a:Act} {Q:Exit→Act→World→Prop} {D:Option Tmp} {T:TypeId} {ps:String} {af:Array Edge}
  (m y z:Operand) (t:TypeId) (b:Nat) (l:List α) (x:α) (hk:Nm.Kd kv ok K) (ht:Tryz.prog.underlying t=some (.map K 3)) (hm:a.eval m = .map (some b)) (hy:a.eval y=kv x) (hz:a.eval z = .int .i64 ((l.length:Int)+1)) (h:MpAt kv ok w b l) (hx:ok x) (h0:Nm.place x l=0)
  (hK:∀ w',MpAt kv ok w' b (l++[x])→Chg b w w'→wpList Tryz.prog ops Q rest (a.put D undef) w') :
  wpList Tryz.prog ops Q ({ dst:=D,op:=.mapUpdate t m y z,type:=T,pos:=ps,after:=af,guard:=none } :: rest) a w:=by
 refine wpList_plain rfl fun K' hK'=>?_
 obtain ⟨w',hrun,r1,r2⟩:=h.store hk ht hx h0
 unfold Oper.wp
 simp [execOp,hm,hy,hz,hrun,Result.andThen]
 exact hK' _ _ (hK w' r1 r2)
end

/-! NaP:  -/
section
open Go.RowKit
def RemSay {α:Type} [DecidableEq α] (kv:α→Value) (ok:α→Prop) (b:Nat) (l:List α) (x:α) (w:World) (e:Ending) (w':World):Prop :=
 e = .returned (.int .i64 (Nm.num x l:Nat))∧MpAt kv ok w' b (Nm.put x l)∧Only b w w'
set_option maxHeartbeats 1000000 in
set_option maxRecDepth 100000 in
theorem rem_text (l:List (List Int)) (x:List Int) (b:Nat) (w:World) (h:MpAt Nm.kvs Nm.okt w b l) (hx:Nm.okt x) (hl:l.length≤1000000) :
  Calls Tryz.prog 267 #[.map (some b),.string (Nm.bts x)] w (RemSay Nm.kvs Nm.okt b l x w):=by
 have H:=Lib.hid h;clear h
 have HX:=Lib.hid hx;clear hx
 by_cases h0:Nm.place x l=0
 ·have hd:decide (0<Nm.place x l)=false:=by rw [h0];rfl
  have HN:=Lib.hid (Nm.num_new h0)
  have HP:=Lib.hid (Nm.put_new h0)
  have H0:=Lib.hid h0;clear h0
  go_enter Tryz.func267,Tryz.ntmps267
  go_wp2_with (first
   | ((with_reducible refine at_look _ _ _ _ b l x kd_text Tryz.underlying140 ?_ ?_ H.out HX.out ?_);(exact rfl);(exact rfl))
   | ((with_reducible refine at_len_map _ _ _ b l Tryz.underlying140 ?_ H.out ?_);(exact rfl))
   | ((with_reducible refine at_put _ _ _ _ _ b l x kd_text Tryz.underlying140 ?_ ?_ ?_ H.out HX.out H0.out ?_);(exact rfl);(exact rfl);(exact rfl);intro w1 m1 c1;have M1:=Lib.hid m1;have C1:=Lib.hid c1;clear m1 c1))
  go_ret
  exact ⟨by rw [HN.out];rfl,by rw [HP.out];exact M1.out,C1.out.only⟩
 ·have h1:0<Nm.place x l:=by omega
  have HN:=Lib.hid (Nm.num_same h0)
  have HP:=Lib.hid (Nm.put_same h0)
  clear h0
  go_enter Tryz.func267,Tryz.ntmps267
  go_wp2_with ((with_reducible refine at_look _ _ _ _ b l x kd_text Tryz.underlying140 ?_ ?_ H.out HX.out ?_);(exact rfl);(exact rfl))
  go_ret
  exact ⟨by rw [HN.out];rfl,by rw [HP.out];exact H.out,Only.refl _ _⟩
set_option maxHeartbeats 1000000 in
set_option maxRecDepth 100000 in
theorem rem_four (l:List Nm.Four) (x:Nm.Four) (b:Nat) (w:World) (h:MpAt Nm.kv4 Nm.ok4 w b l) (hx:Nm.ok4 x) (hl:l.length≤1000000) :
  Calls Tryz.prog 266 #[.map (some b),.agg #[.int .i64 x.1,.int .i64 x.2.1,.string (Nm.bts x.2.2.1),.string (Nm.bts x.2.2.2)]] w (RemSay Nm.kv4 Nm.ok4 b l x w):=by
 have H:=Lib.hid h;clear h
 have HX:=Lib.hid hx;clear hx
 obtain ⟨O,HO⟩:∃ O:Obj,Hid (O = .cells #[.int .i64 x.1,.int .i64 x.2.1,.string (Nm.bts x.2.2.1),.string (Nm.bts x.2.2.2)] 291):=⟨_,rfl⟩
 have HA:Hid (MpAt Nm.kv4 Nm.ok4 (w.alloc O) b l):=H.out.old ((Below.refl _ w).alloc (Nat.le_refl _) _)
 have HOW:Hid (Only b w (w.alloc O)):=(Only.refl b w).alloc O
 rw [HO.out] at HA HOW
 by_cases h0:Nm.place x l=0
 ·have hd:decide (0<Nm.place x l)=false:=by rw [h0];rfl
  have HN:=Lib.hid (Nm.num_new h0)
  have HP:=Lib.hid (Nm.put_new h0)
  have H0:=Lib.hid h0;clear h0
  go_enter Tryz.func266,Tryz.ntmps266
  go_wp2_with (first
   | ((with_reducible refine at_look _ _ _ _ b l x kd_four Tryz.underlying139 ?_ ?_ HA.out HX.out ?_);(exact rfl);(exact rfl))
   | ((with_reducible refine at_len_map _ _ _ b l Tryz.underlying139 ?_ HA.out ?_);(exact rfl))
   | ((with_reducible refine at_put _ _ _ _ _ b l x kd_four Tryz.underlying139 ?_ ?_ ?_ HA.out HX.out H0.out ?_);(exact rfl);(exact rfl);(exact rfl);intro w1 m1 c1;have M1:=Lib.hid m1;have C1:=Lib.hid c1;clear m1 c1))
  go_ret
  exact ⟨by rw [HN.out];rfl,by rw [HP.out];exact M1.out,HOW.out.trans C1.out.only⟩
 ·have h1:0<Nm.place x l:=by omega
  have HN:=Lib.hid (Nm.num_same h0)
  have HP:=Lib.hid (Nm.put_same h0)
  clear h0
  go_enter Tryz.func266,Tryz.ntmps266
  go_wp2_with ((with_reducible refine at_look _ _ _ _ b l x kd_four Tryz.underlying139 ?_ ?_ HA.out HX.out ?_);(exact rfl);(exact rfl))
  go_ret
  exact ⟨by rw [HN.out];rfl,by rw [HP.out];exact HA.out,HOW.out⟩
end

/-! NaE:  -/
section
open Go.RowKit
namespace Nm
def tk (f k:Int) (i:Nat):List Int:=(List.range 32).map fun j=>if 32-i≤j then k / 256 ^ (31-j) % 256 else f
def tg (f k:Int):List Int:=tk f k 8
def fl (f:Int) (i:Nat):List Int:=List.replicate i f++List.replicate (32-i) 0
theorem fl_len (f:Int) (i:Nat) (h:i≤32):(fl f i).length=32:=by simp [fl];omega
theorem fl_step (f:Int) (i:Nat) (h:i<32):(fl f i).set i f=fl f (i+1):=by
 unfold fl
 rw [List.set_append_right _ _ (by simp),List.length_replicate,Nat.sub_self,show 32-i=(32-(i+1))+1 by omega,List.replicate_succ,List.set_cons_zero,List.replicate_succ' (n:=i),List.append_assoc]
 rfl
theorem tk_len (f k:Int) (i:Nat):(tk f k i).length=32:=by simp [tk]
theorem fl_all (f k:Int):fl f 32=tk f k 0:=by
 apply List.ext_getElem (by rw [fl_len f 32 (by omega),tk_len])
 intro j h1 h2
 rw [tk_len] at h2
 simp only [fl,tk,Nat.sub_self,List.replicate_zero,List.append_nil,List.getElem_replicate,List.getElem_map,List.getElem_range]
 rw [if_neg (by omega)]
theorem tk_step (f k:Int) (i:Nat) (h:i<32):(tk f k i).set (31-i) (k / 256 ^ i % 256)=tk f k (i+1):=by
 apply List.ext_getElem (by rw [List.length_set,tk_len,tk_len])
 intro j h1 h2
 rw [tk_len] at h2
 rw [List.getElem_set]
 by_cases e:31-i=j
 ·rw [if_pos e]
  have:31-j=i:=by omega
  simp [tk,this]
  omega
 ·rw [if_neg e]
  simp only [tk,List.getElem_map,List.getElem_range]
  by_cases h3:32-i≤j
  ·rw [if_pos h3,if_pos (by omega)]
  ·rw [if_neg h3,if_neg (by omega)]
theorem tk_byt (f k:Int) (i:Nat) (hf:0≤f∧f≤255):Sha.Byt (tk f k i):=fun x hx=>by
 simp only [tk,List.mem_map,List.mem_range] at hx
 obtain ⟨j,_,rfl⟩:=hx
 split<;>omega
theorem tg_len (f k:Int):(tg f k).length=32:=tk_len f k 8
theorem tg_byt (f k:Int) (hf:0≤f∧f≤255):Sha.Byt (tg f k):=tk_byt f k 8 hf
attribute [irreducible] tk tg fl
end Nm
def A32 (l:List Int):Value:=.agg (l.map (Value.int .u8)).toArray
def EndSayN (f k:Int) (w:World) (e:Ending) (w':World):Prop:=e = .returned (A32 (Nm.tg f k))∧Below w.heap.size w w'
set_option maxHeartbeats 1000000 in
set_option maxRecDepth 100000 in
theorem ending_anyN (f k:Int) (w:World) :
  Calls Tryz.prog 264 #[.int .u8 f,.int .i64 k] w (EndSayN f k w):=by
 have G0:Hid (((w.alloc (.cells (List.replicate 32 (Value.int .u8 0)).toArray 39)).alloc (.cells (List.replicate 32 (Value.int .u8 0)).toArray 39)).heap[w.heap.size+1]?=some (.cells ((Nm.fl f 0).map (Value.int .u8)).toArray 39 (0,0))):=by
  show _=_
  have h:=heap_alloc2_new w (.cells (List.replicate 32 (Value.int .u8 0)).toArray 39) (.cells (List.replicate 32 (Value.int .u8 0)).toArray 39)
  rw [h]
  unfold Nm.fl
  simp
 have R0:Hid (((w.alloc (.cells (List.replicate 32 (Value.int .u8 0)).toArray 39)).alloc (.cells (List.replicate 32 (Value.int .u8 0)).toArray 39)).heap[w.heap.size]?=some (.cells (List.replicate 32 (Value.int .u8 0)).toArray 39 (0,0))):=heap_alloc2_old w _ _
 have B0:Hid (Below w.heap.size w ((w.alloc (.cells (List.replicate 32 (Value.int .u8 0)).toArray 39)).alloc (.cells (List.replicate 32 (Value.int .u8 0)).toArray 39))):=((Below.refl _ w).alloc (Nat.le_refl _) _).alloc (by simp) _
 go_enter Tryz.func264,Tryz.ntmps264
 go_wp2
 go_loopw [8] (fun v8 wr=>∃ i:Nat,i≤32∧v8 = .int .i64 i∧Hid (wr.heap[w.heap.size+1]?=some (.cells ((Nm.fl f i).map (Value.int .u8)).toArray 39 (0,0)))∧Hid (wr.heap[w.heap.size]?=some (.cells (List.replicate 32 (Value.int .u8 0)).toArray 39 (0,0)))∧Hid (Below w.heap.size w wr)) (fun v8 _=>32-(intOf v8).toNat)
 case atStart=>exact ⟨0,by omega,rfl,G0.out,R0.out,B0.out⟩
 case round =>
  clear G0 R0 B0
  obtain ⟨i,hi,rfl,HG,HR,HB⟩:=hrel
  by_cases hlt:i<32
  ·have c0:=row_cell HG.out i (by rw [Nm.fl_len f i hi];omega)
   have f0:=frozen_of_row wr (w.heap.size+1) i _ _ HG.out
   generalize (Nm.fl f i).getD i 0=y0 at c0
   go_wp2
   refine ⟨⟨i+1,by omega,by go_num,?_,?_,HB.out.setCell (by simp) _⟩,by simp [intOf];omega⟩
   ·have h2:=set_u8' (i:=i) (x:=f) HG.out
    rw [Nm.fl_step f i hlt] at h2
    exact h2
   ·show _=_
    rw [heap_setCell_other _ _ _ _ (by simp)]
    exact HR.out
  ·obtain rfl:i=32:=by omega
   clear hlt
   have HG0:Hid (wr.heap[w.heap.size+1]?=some (.cells ((Nm.tk f k 0).map (Value.int .u8)).toArray 39 (0,0))):=by
    have h:=HG.out
    rw [Nm.fl_all f k] at h
    exact h
   clear HG
   generalize hwL:wr=wL at *
   clear hwL
   go_wp2
   go_loopw [15] (fun v15 wr=>∃ i:Nat,i≤8∧v15 = .int .i64 i∧Hid (wr.heap[w.heap.size+1]?=some (.cells ((Nm.tk f k i).map (Value.int .u8)).toArray 39 (0,0)))∧Hid (wr.heap[w.heap.size]?=some (.cells (List.replicate 32 (Value.int .u8 0)).toArray 39 (0,0)))∧Hid (Below w.heap.size w wr)) (fun v15 _=>8-(intOf v15).toNat)
   case atStart=>exact ⟨0,by omega,rfl,HG0.out,HR.out,HB.out⟩
   case round =>
    clear HG0 HR HB
    obtain ⟨i,hi,rfl,HG,HR,HB⟩:=hrel
    by_cases hlt:i<8
    ·have c0:=row_cell HG.out (31-i) (by rw [Nm.tk_len];omega)
     have f0:=frozen_of_row wr (w.heap.size+1) (31-i) _ _ HG.out
     have hw1:IntKind.i64.wrap (31-(i:Int))=31-(i:Int):=IntWalk.i64_in _ ⟨by omega,by omega⟩
     have hw2:IntKind.i64.wrap (8*(i:Int))=8*(i:Int):=IntWalk.i64_in _ ⟨by omega,by omega⟩
     have hx1:0≤31-(i:Int):=by omega
     have hx2:31-(i:Int)<32:=by omega
     have hx3:(31-(i:Int)).toNat=31-i:=by omega
     have hx4:0≤8*(i:Int):=by omega
     have hx5:8*(i:Int)≤64:=by omega
     have hx6:(2:Int) ^ (8*(i:Int)).toNat=256 ^ i:=by
      rw [show (8*(i:Int)).toNat=8*i by omega,Int.pow_mul]
      rfl
     generalize (Nm.tk f k i).getD (31-i) 0=y0 at c0
     go_wp2
     refine ⟨⟨i+1,by omega,by go_num,?_,?_,HB.out.setCell (by simp) _⟩,by simp [intOf];omega⟩
     ·have h2:=set_u8' (i:=31-i) (x:=k / 256 ^ i % 256) HG.out
      rw [Nm.tk_step f k i (by omega)] at h2
      exact h2
     ·show _=_
      rw [heap_setCell_other _ _ _ _ (by simp)]
      exact HR.out
    ·obtain rfl:i=8:=by omega
     clear hlt
     obtain ⟨A,HA1,HA2,HA3⟩:∃ A:Array Value,Hid (A=((Nm.tg f k).map (Value.int .u8)).toArray)∧Hid (A.size=32)∧Hid (A.all (·.oneCell')=true) :=
      ⟨_,rfl,by show _=_;simp [Nm.tg_len],all_oneCell_toArray (bytes_one _)⟩
     have HG8:Hid (wr.heap[w.heap.size+1]?=some (.cells A 39 (0,0))):=by
      show _=_
      rw [HA1.out]
      unfold Nm.tg
      exact HG.out
     clear HG
     go_wp2_with (first
      | ((with_reducible refine row_load _ _ _ _ _ _ _ ?_ HG8.out Tryz.underlying39 ?_ (row_size Tryz.sizeSum HA2) ?_);(exact rfl);(exact rfl))
      | ((with_reducible refine row_store _ _ _ _ _ _ _ ?_ ?_ HR.out (row_size Tryz.sizeSum HA2) ?_ HA3.out ?_);(exact rfl);(exact rfl);(rw [HA2.out];rfl);intro w6 G6 ch6))
     refine bodyPost_ret (results_cell_row rfl _ _ w.heap.size 39 A (0,0) _ rfl G6.out Tryz.underlying39 rfl (row_size Tryz.sizeSum HA2)) rfl ⟨?_,ch6.below HB.out (Nat.le_refl _)⟩
     rw [HA1.out]
     rfl
end
end Go.Proofs.YtnnalemboeccbaaGreatDoor

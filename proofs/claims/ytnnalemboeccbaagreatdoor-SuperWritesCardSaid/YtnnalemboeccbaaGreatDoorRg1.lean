/-
  RgA, RgB, RgC, RgE (merged)
-/
import Derived.Test.YtnnalemboeccbaaGreatDoorPa2
import Derived.Test.YtnnalemboeccbaaGreatDoorNa2
import Derived.Test.YtnnalemboeccbaaGreatDoorSc1
namespace Go.Proofs.YtnnalemboeccbaaGreatDoor

/-! RgA:  -/
section
open Go.RowKit
namespace Rg
def z32:List Int:=List.replicate 32 0
def OkS (S:List Int):Prop:=S.length=32∧Sha.Byt S
theorem oks_z:OkS z32:=⟨by simp [z32],byt_rep 32 0 (by omega)⟩
theorem in0:Pk.In64 0:=by unfold Pk.In64;omega
theorem vi_in (L:List Int):Pk.In64 (Pk.vi L):=by
 unfold Pk.vi
 split
 ·exact in0
 ·exact Pk.in8_in _
theorem vi_e8 {n:Int} (h:Pk.In64 n) (X:List Int):Pk.vi (Pk.e8 n 8++X)=n:=by
 unfold Pk.vi
 rw [if_neg (by rw [List.length_append,Pk.e8_len];omega),List.take_append_of_le_length (by rw [Pk.e8_len];omega),List.take_of_length_le (by rw [Pk.e8_len];omega),Pk.in8_e8 h]
theorem e8_vi {L:List Int} (h:8≤L.length) (hb:Sha.Byt L):Pk.e8 (Pk.vi L) 8=L.take 8:=by
 unfold Pk.vi
 rw [if_neg (by omega)]
 exact Pk.e8_in8 (by rw [List.length_take];omega) (fun x hx=>hb x (List.mem_of_mem_take hx))
attribute [irreducible] z32
end Rg
end

/-! RgB:  -/
section
open Go.RowKit
theorem eqf_cons (d:Nat) (A B:Array Value) (f:Field) (fs:List Field) (a b:Value) (q p:Bool) (w:World) (n:String) (t:TypeId) (o:Nat) (hf:(f.name,f.type,f.offset)=(n,t,o)) (hn:n ≠ "_")
  (pa:(part t A o).run Tryz.prog w = .ok a w) (pb:(part t B o).run Tryz.prog w = .ok b w) (he:(Op.equalIn d t a b).run Tryz.prog w = .ok q w) (hr:(Op.eqFields d A B fs).run Tryz.prog w = .ok p w) :
  (Op.eqFields d A B (f :: fs)).run Tryz.prog w = .ok (q&&p) w:=by
 simp only [Prod.mk.injEq] at hf
 obtain ⟨h1,h2,h3⟩:=hf
 rw [Op.eqFields,h1,h2,h3,if_pos hn,Sem.run_bind,pa,Result.andThen_ok,Sem.run_bind,pb,Result.andThen_ok,Sem.run_bind,he,Result.andThen_ok]
 cases q with
 | false=>rw [if_pos (by rfl)];rfl
 | true=>rw [if_neg (by decide),hr];rfl
theorem eqf_nil (d:Nat) (A B:Array Value) (w:World):(Op.eqFields d A B []).run Tryz.prog w = .ok true w:=by rw [Op.eqFields];rfl
theorem part_one {l:List Value} {o:Nat} {k:Int} (h:l[o]?=some (.int .i64 k)) (w:World):(part 3 l.toArray o).run Tryz.prog w = .ok (.int .i64 k) w:=by
 have hv:l.toArray[o]?=some (.int .i64 k):=by simpa using h
 unfold part
 rw [Sem.run_bind,agg_int]
 simp only [Result.andThen_ok,hv]
 rfl
set_option maxRecDepth 100000 in
theorem int_eqd (d:Nat) (a b:Int) (w:World):(Op.equalIn (d+1) 3 (.int .i64 a) (.int .i64 b)).run Tryz.prog w = .ok (decide (a=b)) w:=by
 have h:=run_equalIn_int (P:=Tryz.prog) w d 3 .i64 .i64 a b Tryz.underlying3
 rw [h]
 congr 1
end

/-! RgC:  -/
section
open Go.RowKit
section
variable {P:Program} {ops:Array Oper} {rest:List Oper} {a:Act} {w:World} {Q:Exit→Act→World→Prop} {D:Option Tmp} {T:TypeId} {ps:String} {af:Array Edge} {gd:Option (Nat × Bool)}
theorem row_build0 (t:TypeId) (R:Array Value) (hr:P.built t []=some R) (h:wpList P ops Q rest (a.put D (.agg R)) w) :
  wpList P ops Q ({ dst:=D,op:=.build t #[],type:=T,pos:=ps,after:=af,guard:=none } :: rest) a w :=
 wpList_plain rfl fun K hK=>by
  have hrun:=run_build (P:=P) w t #[] R hr
  unfold Oper.wp execOp
  simp only [List.map_toArray,List.map_nil,hrun,Sem.run_bind,Sem.run_pure,Result.andThen_ok]
  exact hK _ _ h
theorem rng_load_g (ty:TypeId) (x:Operand) (b o:Nat) (A:Array Value) (d:TypeDesc) (hw:Region.wanted { dst:=D,op:=.load ty x,type:=T,pos:=ps,after:=af,guard:=gd } (yielded ops a.tmps)=true)
  (hx:a.eval x = .pointer (some ⟨b,o,none⟩)) (hc:w.rangeAt b o A.toList)
  (hu:P.underlying ty=some d) (hd:d.isRow=true) (hi:(P.info? ty).map (·.size)=some A.size)
  (h:wpList P ops Q rest (a.put D (.agg A)) w):wpList P ops Q ({ dst:=D,op:=.load ty x,type:=T,pos:=ps,after:=af,guard:=gd } :: rest) a w :=
 BigFrame.wpList_want hw fun K hK=>wp_load_mid ty x rfl b o hx A.toList d hc hu hd (by simpa using hi) (hK _ _ (by simpa using h))
theorem row_load_g (ty:TypeId) (x:Operand) (g:Nat) (t:TypeId) (cs:Array Value) (fr:Nat × Nat) (d:TypeDesc) (hw:Region.wanted { dst:=D,op:=.load ty x,type:=T,pos:=ps,after:=af,guard:=gd } (yielded ops a.tmps)=true)
  (hx:a.eval x = .pointer (some ⟨g,0,none⟩)) (hg:w.heap[g]?=some (.cells cs t fr))
  (hu:P.underlying ty=some d) (hd:d.isRow=true) (hi:(P.info? ty).map (·.size)=some cs.size)
  (h:wpList P ops Q rest (a.put D (.agg cs)) w):wpList P ops Q ({ dst:=D,op:=.load ty x,type:=T,pos:=ps,after:=af,guard:=gd } :: rest) a w :=
 rng_load_g ty x g 0 cs d hw hx (fun j v hv=>by rw [cell_of_row w g (0+j) _ _ _ hg,Nat.zero_add];simpa using hv) hu hd hi h
end
end

/-! RgE:  -/
section
open Go.RowKit
section
variable {P:Program} {ops:Array Oper} {rest:List Oper} {a:Act} {w:World} {Q:Exit→Act→World→Prop} {D:Option Tmp} {T:TypeId} {ps:String} {af:Array Edge}
theorem row_buildN (t:TypeId) (parts:List (Nat × Operand)) (vs:List (Nat × Value)) (R:Array Value) (he:parts.map (fun p=>(p.1,a.eval p.2))=vs) (hr:P.built t vs=some R) (h:wpList P ops Q rest (a.put D (.agg R)) w) :
  wpList P ops Q ({ dst:=D,op:=.build t parts.toArray,type:=T,pos:=ps,after:=af,guard:=none } :: rest) a w :=
 wpList_plain rfl fun K hK=>by
  have hrun:=run_build (P:=P) w t vs.toArray R hr
  unfold Oper.wp execOp
  have he2:List.map (fun x:Nat × Operand=>match x with | (i,x)=>(i,a.eval x)) parts=vs:=he
  simp only [List.map_toArray,he2,hrun,Sem.run_bind,Sem.run_pure,Result.andThen_ok]
  exact hK _ _ h
end
end
end Go.Proofs.YtnnalemboeccbaaGreatDoor

/-
  DkL, DkA, DkB, DkC, DkE (merged)
-/
import Derived.Test.YthgjfjmampmiiaaGreatDoorPa1
namespace Go.Proofs.YthgjfjmampmiiaaGreatDoor
open Go.Proofs.Tryz
set_option maxHeartbeats 1000000
set_option maxRecDepth 100000
section
open Go.ChangeShapes Go.WideShapes Go.RowKit
theorem ei {w:World} {B B' n:Nat} {e:TypeId} {v:Value} {xs:List Value} (h:w.ownsRow B e 1 v n xs) (hB:B'≤B):w.ownsRow B' e 1 v n xs:=by
 refine ⟨h.1,?_⟩;rcases h.2 with h1 | ⟨g,cap,cur,h1,h2,h3⟩
 ·exact Or.inl h1
 ·exact Or.inr ⟨g,cap,cur,h1,Nat.le_trans hB h2,h3⟩
theorem gm (L:List Int) (p:Option Addr) (n c:Nat) (hn:L.length=n) (hL:n≤1000000) (w:World) (hp:Bs w p c L) :
  qc 50 #[.slice p n c] w fun e w'=>∃ v,e = .returned v∧w'.ownsRow w.heap.size 5 1 v n (aC L)∧qw w w':=by
 have Hp:=qh hp;clear hp;have hq:=fun (p:Option Addr) (n c:Nat) (w:World)=>oY p n c w;cases p with
 | none =>
  obtain ⟨rfl,rfl⟩:=Hp.out.nil rfl;obtain rfl:n=0:=by simpa using hn.symm
  go_enter func50,ntmps50;go_wp2;go_ret;exact ⟨_,rfl,by unfold aC;exact World.ownsRow_nil _ _ _ _,Below.refl _ _⟩
 | some ad =>
  have HO:Hid ((w.alloc (.cells #[] 5)).ownsRow w.heap.size 5 1 (.slice (some ⟨w.heap.size,0,none⟩) 0 0) 0 (aC [])):=by
   refine ⟨by unfold aC;rfl,Or.inr ⟨w.heap.size,0,_,rfl,Nat.le_refl _,heap_alloc_new w _,Nat.le_refl _,by unfold maxLen;omega,by simp,by unfold aC;simp⟩⟩
  have HB:Hid (qw w (w.alloc (.cells #[] 5))):=qb w _;have Bl:Hid (Bs (w.alloc (.cells #[] 5)) (some ad) c L):=Hp.out.av HB.out;have HN:=qh hn;clear hn;go_enter func50,ntmps50;go_wp2_with (first
   | (at_builtin;refine bV _ _ L w.heap.size _ _ _ (some ad) _ c rfl rfl HN.out Bl.out HO.out (by omega) (by simp) ?_;intro v5 w5 CF CE;have HO5:=qh CF;have Di:=qh CE;clear CF CE)
   | go_in)
  go_ret;refine ⟨_,rfl,?_,HB.out.grown Di.out (by simp) (fun q hq=>(HO.out.lt q hq).1)⟩;have h:=HO5.out;rw [Nat.zero_add,List.nil_append] at h;exact h
end
section
open Go.ChangeShapes Go.WideShapes Go.RowKit
def Rv (v:Value):Option (DataW Value × List MemPlace):=some (.held v,[])
theorem uW:Maps.Keyed prog 3:=Maps.int_keyed underlying3
def aT (x:Int):Prop:=-9223372036854775808≤x∧x≤9223372036854775807
theorem adP {x:Int} (h:aT x):(Lit.int .i64 x).wf=true:=by
 unfold aT at h;simp [Lit.wf,IntKind.min,IntKind.max,IntKind.signed,IntKind.bits];omega
theorem jF {x:Int} (h:aT x):keyOf prog 3 (.int .i64 x)=some (.int .i64 x):=Maps.keyOf_int_mk underlying3 (adP h)
theorem isKey (x:Int):WideAt.IsKeyLit (.int .i64 x):=trivial
def rZ (D:DataW Value) (F:Nat→Option Value):Prop :=
 (∀ i:Int,Maps.has D (.int .i64 i)=(decide (0≤i)&&(F i.toNat).isSome))∧∀ (j:Nat) v,F j=some v→∀ z,D.atKey (.int .i64 (j:Int)) z = .held v
def aZ {α:Type} (F:Nat→α) (i:Nat) (x:α):Nat→α:=fun j=>if j=i then x else F j
theorem az {α:Type} (F:Nat→α) (i:Nat) (x:α):aZ F i x i=x:=if_pos rfl
theorem aq {α:Type} (F:Nat→α) {i j:Nat} (x:α) (h:j ≠ i):aZ F i x j=F j:=if_neg h
theorem rZ.put {D:DataW Value} {F:Nat→Option Value} (h:rZ D F) (hm:Maps.IsMap D) (i:Nat) (v:Value):rZ (D.put (.int .i64 (i:Int)) (.held v)) (aZ F i (some v)):=by
 refine ⟨fun x=>?_,fun j u hj z=>?_⟩
 ·by_cases hx:x=(i:Int)
  ·subst hx;rw [Maps.has_put_same hm (isKey _)];simp [az]
  ·rw [Maps.has_put_other (fun e=>hx (by cases e;rfl)),h.1];by_cases h0:0≤x
   ·rw [aq F _ (show x.toNat ≠ i by omega)]
   ·simp [h0]
 ·by_cases AK:j=i
  ·subst AK;rw [az] at hj;cases hj
   exact Maps.atKey_put_same hm (isKey _) _ _
  ·rw [aq F _ AK] at hj;rw [Maps.atKey_put_other (fun e=>AK (by cases e;rfl))];exact h.2 j u hj z
theorem rZ.del {D:DataW Value} {F:Nat→Option Value} (h:rZ D F) (i:Nat):rZ (D.del (.int .i64 (i:Int))) (aZ F i none):=by
 refine ⟨fun x=>?_,fun j u hj z=>?_⟩
 ·by_cases hx:x=(i:Int)
  ·subst hx;rw [Maps.has_del_same];simp [az]
  ·rw [Maps.has_del_other (fun e=>hx (by cases e;rfl)),h.1];by_cases h0:0≤x
   ·rw [aq F _ (show x.toNat ≠ i by omega)]
   ·simp [h0]
 ·by_cases AK:j=i
  ·subst AK;rw [az] at hj;cases hj
  ·rw [aq F _ AK] at hj;rw [Maps.atKey_del_other (fun e=>AK (by cases e;rfl))];exact h.2 j u hj z
def bM (w:World) (b k:Nat) (F:Nat→Option Value):Prop:=∃ D,w.ownsMap prog 3 Rv b k D∧rZ D F
section
variable {w y:World} {b k r cnt:Nat} {F:Nat→Option Value} {left:Nat→Bool} {t:TypeId}
theorem bM.lt (h:bM w b k F):b<w.heap.size:=by obtain ⟨D,h1,_⟩:=h;exact h1.lt
theorem bM.aG (h:bM w b k F) (hb:y.heap[b]?=w.heap[b]?):bM y b k F:=by
 obtain ⟨D,⟨es,clock,h1,h2⟩,h3⟩:=h;exact ⟨D,⟨es,clock,hb.trans h1,h2⟩,h3⟩
theorem bM.isMap (h:bM w b k F):∃ es clock,w.heap[b]?=some (.map es clock):=by
 obtain ⟨D,⟨es,clock,h1,h2⟩,h3⟩:=h;exact ⟨es,clock,h1⟩
theorem bM.mono (h:bM w b k F) {k':Nat} (hk:k≤k'):bM w b k' F:=by
 obtain ⟨D,h1,h2⟩:=h;exact ⟨D,h1.mono hk,h2⟩
theorem vV (w:World):(zeroValue 22).run prog w = .ok (.slice none 0 0) w:=by kernel_rfl
theorem bM.look (h:bM w b k F) (ht:prog.underlying t=some (.map 3 22)) (i:Nat) (hi:i≤9223372036854775807) :
  (Instr.lookup t (.map (some b)) (.int .i64 (i:Int)) true).run prog w = .ok (.tuple #[(F i).getD (.slice none 0 0),.bool (F i).isSome]) w:=by
 obtain ⟨D,h1,h2⟩:=h;obtain ⟨v,ps,Am,hv⟩:=h1.look_ok uW ht (vV w) (zd:=.held (.slice none 0 0)) (zp:=[]) rfl (jF (x:=(i:Int)) (by unfold aT;omega));rw [Am,h2.1];have h0:decide (0≤(i:Int))=true:=by simp
 rw [h0,Bool.true_and,show ((i:Int).toNat)=i by omega];have J9:v=(F i).getD (.slice none 0 0):=by
  unfold Rv at hv;cases hF:F i with
  | none =>
   rw [Maps.atKey_of_not_has (by rw [h2.1,h0,Bool.true_and,show ((i:Int).toNat)=i by omega,hF];rfl)] at hv;cases hv
   rfl
  | some u =>
   rw [h2.2 i u hF] at hv;cases hv
   rfl
 rw [J9]
theorem bM.afk (h:bM w b k F) (ht:prog.underlying t=some (.map 3 22)) (i:Nat) (hi:i≤9223372036854775807) :
  (Instr.lookup t (.map (some b)) (.int .i64 (i:Int)) false).run prog w = .ok ((F i).getD (.slice none 0 0)) w:=by
 obtain ⟨D,h1,h2⟩:=h;obtain ⟨v,ps,Am,hv⟩:=h1.lookup uW ht (vV w) (zd:=.held (.slice none 0 0)) (zp:=[]) rfl (jF (x:=(i:Int)) (by unfold aT;omega));rw [Am];have h0:decide (0≤(i:Int))=true:=by simp
 have J9:v=(F i).getD (.slice none 0 0):=by
  unfold Rv at hv;cases hF:F i with
  | none =>
   rw [Maps.atKey_of_not_has (by rw [h2.1,h0,Bool.true_and,show ((i:Int).toNat)=i by omega,hF];rfl)] at hv;cases hv
   rfl
  | some u =>
   rw [h2.2 i u hF] at hv;cases hv
   rfl
 rw [J9]
theorem bM.store (h:bM w b k F) (ht:prog.underlying t=some (.map 3 22)) (i:Nat) (hi:i≤9223372036854775807) (v:Value) (hk:k<maxLen) :
  ∃ y,(Instr.mapUpdate t (.map (some b)) (.int .i64 (i:Int)) v).run prog w = .ok () y∧bM y b (k+1) (aZ F i (some v))∧w.mapTurned y b:=by
 obtain ⟨D,h1,h2⟩:=h;obtain ⟨y,Am,a,c⟩:=h1.store uW ht hk (d:=.held v) (ps:=[]) (jF (x:=(i:Int)) (by unfold aT;omega)) rfl;exact ⟨y,Am,⟨_,a,h2.put h1.isMap i v⟩,c⟩
theorem bM.drop (h:bM w b k F) (ht:prog.underlying t=some (.map 3 22)) (i:Nat) (hi:i≤9223372036854775807) (ty:TypeId) :
  ∃ y,(Builtin.delete_ #[t,3] ty #[.map (some b),.int .i64 (i:Int)]).run prog w = .ok (.tuple #[]) y∧bM y b k (aZ F i none)∧w.mapTurned y b:=by
 obtain ⟨D,h1,h2⟩:=h;obtain ⟨y,Am,a,c⟩:=h1.drop uW ht (jF (x:=(i:Int)) (by unfold aT;omega)) ty;exact ⟨y,Am,⟨_,a,h2.del i⟩,c⟩
def cH (w:World) (b r k:Nat) (F:Nat→Option Value) (left:Nat→Bool) (cnt:Nat):Prop :=
 ∃ D lf,w.ranges prog 3 Rv b r k D lf cnt∧rZ D F∧(∀ i:Int,lf (.int .i64 i)=(decide (0≤i)&&left i.toNat))∧∀ kl,lf kl=true→∃ x:Int,kl = .int .i64 x
theorem cH.map (h:cH w b r k F left cnt):bM w b k F:=by
 obtain ⟨D,lf,h1,h2,_⟩:=h;exact ⟨D,h1.owns,h2⟩
theorem cH.left_eq (h:cH w b r k F left cnt):w.rangeLeft b r=cnt:=by
 obtain ⟨D,lf,h1,_⟩:=h;exact h1.left_eq
theorem cH.lt (h:cH w b r k F left cnt):r<w.heap.size∧r ≠ b:=by
 obtain ⟨D,lf,h1,_⟩:=h;exact ⟨h1.lt,h1.ne⟩
theorem cH.aG (h:cH w b r k F left cnt) (hb:y.heap[b]?=w.heap[b]?) (hr:y.heap[r]?=w.heap[r]?):cH y b r k F left cnt:=by
 obtain ⟨D,lf,⟨es,clock,since,seen,c0,h1,h2,h3,h4,h5,h6⟩,h7⟩:=h;exact ⟨D,lf,⟨es,clock,since,seen,c0,hb.trans h1,h2,h3,h4,hr.trans h5,h6⟩,h7⟩
theorem cH.iter (h:cH w b r k F left cnt):∃ p q s t,w.heap[r]?=some (.mapIter p q s t):=by
 obtain ⟨D,lf,⟨es,clock,since,seen,c0,_,_,_,_,hr,_⟩,_⟩:=h;exact ⟨_,_,_,_,hr⟩
theorem cH.congr {left':Nat→Bool} (h:cH w b r k F left cnt) (e:∀ i,left' i=left i):cH w b r k F left' cnt:=by
 have:left'=left:=funext e;rw [this];exact h
theorem bM.range (h:bM w b k F) (ht:prog.underlying t=some (.map 3 22)) :
  ∃ y cnt,(Instr.range t (.map (some b))).run prog w = .ok (qp w.heap.size) y∧cH y b w.heap.size k F (fun i=>(F i).isSome) cnt∧w.grownBy y none∧y.heap.size=w.heap.size+1∧cnt≤k:=by
 obtain ⟨D,h1,h2⟩:=h;obtain ⟨y,Am,a,c,d⟩:=h1.range uW ht;refine ⟨y,_,Am,⟨D,_,a,h2,h2.1,fun kl Dp=>?_⟩,c,d,h1.size_le⟩;obtain ⟨es,clock,since,seen,c0,_,F',_,_,_,_,_,_,hex,_⟩:=a;obtain ⟨x,hx,MC⟩:=hex kl Dp;obtain ⟨y0,Ke⟩:=F'.reads x hx;have J0:=WideElems.rd_key Ke;obtain ⟨z,_,hz,_⟩:=Maps.keyOf_int_inv underlying3 J0;rw [WideElems.rg_of Ke] at MC;exact ⟨z,by rw [← MC,hz]⟩
theorem cH.next (h:cH w b r k F left cnt) (ty:TypeId) :
  ((∀ i,left i=false)∧(Instr.next (qp r) false ty).run prog w = .ok (.tuple #[.bool false]) w) ∨
  ∃ (j:Nat) (v:Value) (y:World) (cnt':Nat),left j=true∧F j=some v∧(Instr.next (qp r) false ty).run prog w = .ok (.tuple #[.bool true,.int .i64 (j:Int),v]) y∧j≤9223372036854775807 ∧
   cH y b r k F (aZ left j false) cnt'∧cnt'<cnt∧w.grownBy y (some r)∧y.heap.size=w.heap.size∧(Instr.entry (qp r)).run prog y = .ok (.tuple #[.int .i64 (j:Int),v]) y:=by
 obtain ⟨D,lf,h1,h2,h3,h4⟩:=h;rcases h1.next uW ty with ⟨_,hl,Am⟩ | ⟨key,v,kl,z,y,cnt',J0,GR,hv,hat,Am,Tx,Ae,KC,Bj,Fx⟩
 ·refine Or.inl ⟨fun i=>?_,Am⟩;have:=h3 (i:Int);rw [hl] at this;simpa using this.symm
 ·obtain ⟨x,rfl,rfl,TW⟩:=Maps.keyOf_int_inv underlying3 J0;have hx:=h3 x;rw [GR] at hx;have GU:0≤x:=by
   by_cases q:0≤x
   ·exact q
   ·simp [q] at hx
  have TX:x≤9223372036854775807:=by
   simp [Lit.wf,IntKind.min,IntKind.max,IntKind.signed,IntKind.bits] at TW;omega
  obtain ⟨j,rfl⟩:∃ j:Nat,x=(j:Int):=⟨x.toNat,by omega⟩;have hj:left j=true:=by simpa using hx.symm
  have hF:F j=some v:=by
   cases Fw:F j with
   | none =>
    have h5:Maps.has D (.int .i64 (j:Int))=false:=by rw [h2.1];simp [Fw]
    have h6:=hat (.held (.bool false));have h7:=hat (.held (.bool true));rw [Maps.atKey_of_not_has h5] at h6 h7;rw [← h6] at h7;cases h7
   | some u =>
    have h6:=hat (.held (.bool false));rw [h2.2 j u Fw] at h6;unfold Rv at hv;cases hv
    cases h6
    rfl
  refine Or.inr ⟨j,v,y,cnt',hj,hF,Am,by omega,⟨D,_,Tx,h2,fun i=>?_,fun kl Dp=>?_⟩,Ae,KC,Bj,Fx⟩
  ·show (lf (.int .i64 i) && !(Lit.int .i64 i).sameKey (.int .i64 (j:Int)))=_;rw [h3 i];by_cases CT:i=(j:Int)
   ·subst CT;rw [WideAt.sameKey_self (isKey _)];simp [az]
   ·rw [Maps.sameKey_ne (fun e=>CT (by cases e;rfl))];by_cases h0:0≤i
    ·rw [aq left _ (show i.toNat ≠ j by omega)];simp
    ·simp [h0]
  ·simp only [Bool.and_eq_true] at Dp;exact h4 kl Dp.1
theorem cH.drop (h:cH w b r k F left cnt) (ht:prog.underlying t=some (.map 3 22)) (j:Nat) (hj:j≤9223372036854775807) (ty:TypeId) :
  ∃ y cnt',(Builtin.delete_ #[t,3] ty #[.map (some b),.int .i64 (j:Int)]).run prog w = .ok (.tuple #[]) y∧cH y b r k (aZ F j none) (aZ left j false) cnt'∧cnt'≤cnt∧w.mapTurned y b:=by
 obtain ⟨D,lf,h1,h2,h3,h4⟩:=h;obtain ⟨y,cnt',Am,a,c,d⟩:=h1.drop uW ht (jF (x:=(j:Int)) (by unfold aT;omega)) ty;refine ⟨y,cnt',Am,⟨_,_,a,h2.del j,fun i=>?_,fun kl Dp=>?_⟩,c,d⟩
 ·show (lf (.int .i64 i) && !(Lit.int .i64 i).sameKey (.int .i64 (j:Int)))=_;rw [h3 i];by_cases CT:i=(j:Int)
  ·subst CT;rw [WideAt.sameKey_self (isKey _)];simp [az]
  ·rw [Maps.sameKey_ne (fun e=>CT (by cases e;rfl))];by_cases h0:0≤i
   ·rw [aq left _ (show i.toNat ≠ j by omega)];simp
   ·simp [h0]
 ·simp only [Bool.and_eq_true] at Dp;exact h4 kl Dp.1
end
end
section
open Go.ChangeShapes Go.WideShapes Go.RowKit
namespace Dk
structure M where
 n:Nat
 ls:Nat→List Int
 ca:Nat→Option (List Int)
 rd:Nat→Nat
 wr:Nat
 left:Int
 down:Bool
structure Ok (m:M):Prop where
 n1:1≤m.n
 n2:m.n≤4096
 out:∀ i,m.n≤i→m.ca i=none
 left:aT m.left
 lsb:∀ i,(m.ls i).length≤1024
 cab:∀ i L,m.ca i=some L→L.length≤1024
def here (m:M) (i:Int):Bool:=decide (0≤i)&&decide (i<(m.n:Int))
def fault (m:M) (i:Int) (L:List Int):Int:=if here m i=false then 7 else if 1024<L.length then 3 else 0
def gone (m:M):Bool:=m.down||decide (m.left=0)
def aK (m:M):M:=if gone m then { m with down:=true } else { m with left:=if 0<m.left then m.left-1 else m.left }
def aM (m:M):Int:=if gone m then 12 else 0
end Dk
structure Mv (ks:List Nat) (w y:World):Prop where
 os:y.os=w.os
 tape:y.tape=w.tape
 output:y.output=w.output
 size:w.heap.size≤y.heap.size
 block:∀ k,k<w.heap.size→k∉ks→y.heap[k]?=w.heap[k]?
section
variable {ks:List Nat} {w x y z:World} {B k:Nat}
theorem Mv.refl (ks:List Nat) (w:World):Mv ks w w:=⟨rfl,rfl,rfl,Nat.le_refl _,fun _ _ _=>rfl⟩
theorem Mv.trans (h:Mv ks w y) (g:Mv ks y z):Mv ks w z :=
 ⟨g.os.trans h.os,g.tape.trans h.tape,g.output.trans h.output,Nat.le_trans h.size g.size,fun k hk hn=>(g.block k (Nat.lt_of_lt_of_le hk h.size) hn).trans (h.block k hk hn)⟩
theorem Mv.aB (h:qw w y):Mv ks w y:=⟨h.os,h.tape,h.output,h.size,fun k hk _=>h.block k hk⟩
theorem Mv.drew (h:Mv ks w y):Mv ks w y.drew:=⟨h.os,h.tape,h.output,h.size,h.block⟩
theorem Mv.only (h:aE k w y) (hk:k∈ks):Mv ks w y:=⟨h.os,h.tape,h.output,h.size,fun j hj hn=>h.block j hj (fun e=>hn (e ▸ hk))⟩
theorem Mv.setCell (h:Mv ks w y) (a:Addr) (v:Value) (ha:a.block∈ks):Mv ks w (y.setCell a v):=h.trans (Mv.only (bJ.setCell y a v).only ha)
theorem Mv.grown {row:Option Nat} (h:w.grownBy y row) (hk:∀ j,row=some j→j∈ks):Mv ks w y :=
 ⟨h.os,h.tape,h.output,h.size,fun j hj hn=>h.block j hj (fun e=>hn (hk j e.symm))⟩
theorem Mv.kf (h:w.mapTurned y k) (hk:k∈ks):Mv ks w y:=Mv.grown h.grown (fun j e=>by cases e;exact hk)
theorem Mv.below (h:Mv ks w y) (hb:Below B x w) (hk:∀ k∈ks,B≤k) (hB:B≤w.heap.size):Below B x y :=
 hb.trans ⟨h.os,h.tape,h.output,h.size,fun k hkB=>h.block k (by omega) (fun hm=>by have:=hk k hm;omega)⟩
end
def j3 (y:World) (T:Nat→Prop) (v:Value) (L:List Int):Prop:=y.ownsRow 0 5 1 v L.length (aC L)∧ai.aY L∧∀ g,v.ownBlock=some g→T g
theorem acF (y:World) (T:Nat→Prop):j3 y T (.slice none 0 0) []:=⟨by unfold aC;exact World.ownsRow_nil _ _ _ _,fun x hx=>by simp at hx,fun g h=>by cases h⟩
section
variable {w y z:World} {T T':Nat→Prop} {v:Value} {L:List Int}
theorem j3.aG (h:j3 y T v L) (hk:∀ (g:Nat) (cur:Array Value),T g→y.heap[g]?=qo cur 5→z.heap[g]?=y.heap[g]?):j3 z T v L :=
 ⟨fc h.1 (fun g hg=>by
  obtain ⟨_,cur,h2⟩:=dY h.1 g hg;exact hk g cur (h.2.2 g hg) h2),h.2.1,h.2.2⟩
theorem j3.lift (h:j3 y T v L) (hT:∀ g,T g→T' g):j3 y T' v L:=⟨h.1,h.2.1,fun g hg=>hT g (h.2.2 g hg)⟩
theorem j3.bs (h:j3 y T v L):∃ p c,v = .slice p L.length c∧Bs y p c L:=by
 obtain ⟨p,c,h1,h2,_⟩:=bH h.1 h.2.1;exact ⟨p,c,h1,h2⟩
theorem aaA {B:Nat} (h:y.ownsRow B 5 1 v L.length (aC L)) (hb:ai.aY L) (hT:∀ g,B≤g→g<y.heap.size→T g):j3 y T v L :=
 ⟨⟨h.1,by
  rcases h.2 with h1 | ⟨g,cap,cur,h1,h2,h3⟩
  ·exact Or.inl h1
  ·exact Or.inr ⟨g,cap,cur,h1,Nat.zero_le _,h3⟩⟩,hb,fun g hg=>hT g (h.lt g hg).1 (h.lt g hg).2⟩
end
structure aJ (y:World) (T:Nat→Prop) (d lb rb cb:Nat) (m:Dk.M):Prop where
 lt:T d∧T lb∧T rb∧T cb
 top:∀ g,T g→g<y.heap.size
 row:y.heap[d]?=qo #[.slice (some ⟨lb,0,none⟩) m.n m.n,.map (some cb),.slice (some ⟨rb,0,none⟩) m.n m.n,.int .i64 (m.wr:Int),.int .i64 m.left,.bool m.down] 74
 cI:∃ A:Array Value,y.heap[lb]?=qo A 22∧A.size=m.n∧∀ i,i<m.n→∃ v,A[i]?=some v∧j3 y T v (m.ls i)
 csh:∃ F,bM y cb m.wr F∧∀ i,(m.ca i=none→F i=none)∧∀ L,m.ca i=some L→∃ v,F i=some v∧j3 y T v L
 rds:y.heap[rb]?=qo ((List.range m.n).map fun i=>Value.int .i64 (m.rd i:Int)).toArray 3
 ok:Dk.Ok m
section
variable {w y z:World} {T T':Nat→Prop} {d lb rb cb:Nat} {m:Dk.M}
theorem aJ.aG (h:aJ y T d lb rb cb m) (hT:∀ g,T g→g<z.heap.size) (h1:z.heap[d]?=y.heap[d]?) (h2:z.heap[lb]?=y.heap[lb]?) (h3:z.heap[rb]?=y.heap[rb]?) (h4:z.heap[cb]?=y.heap[cb]?)
  (hk:∀ (g:Nat) (cur:Array Value),T g→y.heap[g]?=qo cur 5→z.heap[g]?=y.heap[g]?):aJ z T d lb rb cb m:=by
 obtain ⟨A,a1,a2,a3⟩:=h.cI;obtain ⟨F,b1,b2⟩:=h.csh;refine ⟨h.lt,hT,h1.trans h.row,⟨A,h2.trans a1,a2,fun i hi=>?_⟩,⟨F,b1.aG h4,fun i=>⟨(b2 i).1,fun L hL=>?_⟩⟩,h3.trans h.rds,h.ok⟩
 ·obtain ⟨v,c1,c2⟩:=a3 i hi;exact ⟨v,c1,c2.aG hk⟩
 ·obtain ⟨v,c1,c2⟩:=(b2 i).2 L hL;exact ⟨v,c1,c2.aG hk⟩
theorem aJ.below {B:Nat} (h:aJ y T d lb rb cb m) (hb:Below B y z) (hB:∀ g,T g→g<B):aJ z T d lb rb cb m :=
 h.aG (fun g hg=>Nat.lt_of_lt_of_le (h.top g hg) hb.size) (hb.block _ (hB _ h.lt.1)) (hb.block _ (hB _ h.lt.2.1)) (hb.block _ (hB _ h.lt.2.2.1)) (hb.block _ (hB _ h.lt.2.2.2)) (fun g _ hg _=>hb.block g (hB g hg))
theorem aJ.av (h:aJ y T d lb rb cb m) (hb:qw y z):aJ z T d lb rb cb m:=h.below hb h.top
theorem aJ.mv {ks:List Nat} (h:aJ y T d lb rb cb m) (hm:Mv ks y z) (hk:∀ k∈ks,¬ T k):aJ z T d lb rb cb m:=by
 have key:∀ g,T g→z.heap[g]?=y.heap[g]?:=fun g hg=>hm.block g (h.top g hg) (fun AF=>hk g AF hg);exact h.aG (fun g hg=>Nat.lt_of_lt_of_le (h.top g hg) hm.size) (key _ h.lt.1) (key _ h.lt.2.1) (key _ h.lt.2.2.1) (key _ h.lt.2.2.2) (fun g _ hg _=>key g hg)
theorem aJ.only {q:Nat} (h:aJ y T d lb rb cb m) (ho:aE q y z) (hq:¬ T q):aJ z T d lb rb cb m:=h.mv (ks:=[q]) (Mv.only ho (by simp)) (fun k hk=>by simp at hk;subst hk;exact hq)
theorem aJ.lift (h:aJ y T d lb rb cb m) (hT:∀ g,T g→T' g) (ht:∀ g,T' g→g<y.heap.size):aJ y T' d lb rb cb m:=by
 obtain ⟨A,a1,a2,a3⟩:=h.cI;obtain ⟨F,b1,b2⟩:=h.csh;have hl:=h.lt;refine ⟨⟨hT _ hl.1,hT _ hl.2.1,hT _ hl.2.2.1,hT _ hl.2.2.2⟩,ht,h.row,⟨A,a1,a2,fun i hi=>?_⟩,⟨F,b1,fun i=>⟨(b2 i).1,fun L hL=>?_⟩⟩,h.rds,h.ok⟩
 ·obtain ⟨v,c1,c2⟩:=a3 i hi;exact ⟨v,c1,c2.lift hT⟩
 ·obtain ⟨v,c1,c2⟩:=(b2 i).2 L hL;exact ⟨v,c1,c2.lift hT⟩
theorem aJ.ne (h:aJ y T d lb rb cb m):d ≠ lb∧d ≠ rb∧d ≠ cb∧lb ≠ rb∧lb ≠ cb∧rb ≠ cb:=by
 obtain ⟨A,a1,_⟩:=h.cI;obtain ⟨F,b1,_⟩:=h.csh;obtain ⟨es,clock,b1⟩:=b1.isMap;have r:=h.row;have q:=h.rds;refine ⟨?_,?_,?_,?_,?_,?_⟩<;>rintro rfl
 ·rw [r] at a1;cases a1
 ·rw [r] at q;injection Option.some.inj q with _ h2 _;exact absurd h2 (by decide)
 ·rw [r] at b1;cases b1
 ·rw [a1] at q;cases q
 ·rw [a1] at b1;cases b1
 ·rw [q] at b1;cases b1
theorem aJ.cells (h:aJ y T d lb rb cb m):y.cell? ⟨d,0,none⟩=some (.slice (some ⟨lb,0,none⟩) m.n m.n)∧y.cell? ⟨d,1,none⟩=some (.map (some cb))∧y.cell? ⟨d,2,none⟩=some (.slice (some ⟨rb,0,none⟩) m.n m.n)∧y.cell? ⟨d,3,none⟩=some (.int .i64 (m.wr:Int))∧y.cell? ⟨d,4,none⟩=some (.int .i64 m.left)∧y.cell? ⟨d,5,none⟩=some (.bool m.down):=by
 refine ⟨?_,?_,?_,?_,?_,?_⟩<;>rw [cell_of_row y d _ _ _ _ h.row]<;>rfl
theorem aJ.eD (h:aJ y T d lb rb cb m) {m':Dk.M} (hm:Mv [d] y z) (hr:z.heap[d]?=qo #[.slice (some ⟨lb,0,none⟩) m.n m.n,.map (some cb),.slice (some ⟨rb,0,none⟩) m.n m.n,.int .i64 (m'.wr:Int),.int .i64 m'.left,.bool m'.down] 74)
  (hn:m'.n=m.n) (hl:m'.ls=m.ls) (hc:m'.ca=m.ca) (hd:m'.rd=m.rd) (hw:m.wr≤m'.wr) (hi:aT m'.left):aJ z T d lb rb cb m':=by
 have ne:=h.ne;have lt:=h.lt;have ht:=h.top;have k1:∀ k,T k→k ≠ d→z.heap[k]?=y.heap[k]?:=fun k hk hn=>hm.block k (ht k hk) (by simpa using hn);have hu:∀ (g:Nat) (cur:Array Value),T g→y.heap[g]?=qo cur 5→z.heap[g]?=y.heap[g]?:=fun g cur hg h2=>k1 g hg (fun e=>by rw [e,h.row] at h2;cases h2);obtain ⟨A,a1,a2,a3⟩:=h.cI;obtain ⟨F,b1,b2⟩:=h.csh;obtain ⟨o1,o2,o3,o4,o5,o6⟩:=h.ok;refine ⟨h.lt,fun g hg=>Nat.lt_of_lt_of_le (h.top g hg) hm.size,by rw [hn];exact hr,⟨A,(k1 lb lt.2.1 (fun e=>ne.1 e.symm)).trans a1,by rw [hn];exact a2,fun i hi=>?_⟩,⟨F,(b1.aG (k1 cb lt.2.2.2 (fun e=>ne.2.2.1 e.symm))).mono hw,fun i=>?_⟩,by rw [hn,hd];exact (k1 rb lt.2.2.1 (fun e=>ne.2.1 e.symm)).trans h.rds,⟨by rw [hn];exact o1,by rw [hn];exact o2,by rw [hn,hc];exact o3,hi,by rw [hl];exact o5,by rw [hc];exact o6⟩⟩
 ·rw [hn] at hi;obtain ⟨v,c1,c2⟩:=a3 i hi;rw [hl];exact ⟨v,c1,c2.aG hu⟩
 ·rw [hc];refine ⟨(b2 i).1,fun L hL=>?_⟩;obtain ⟨v,c1,c2⟩:=(b2 i).2 L hL;exact ⟨v,c1,c2.aG hu⟩
end
end
section
open Go.RowKit
section
variable {T:Nat→Prop} {d lb rb cb:Nat} {m:Dk.M}
theorem iz (i:Int) (w:World) (hd:aJ w T d lb rb cb m):qc 49 #[qp d,.int .i64 i] w fun e w'=>e = .returned (.bool (Dk.here m i))∧w'=w:=by
 obtain ⟨c0,_,_,_,_,_⟩:=hd.cells;clear hd;by_cases h0:0≤i
 ·by_cases h1:i<(m.n:Int)
  ·have e:Dk.here m i=true:=by unfold Dk.here;simp [h0,h1]
   go_enter func49,ntmps49;go_wp2;go_ret;exact ⟨by first | rfl | (rw [e];rfl),rfl⟩
  ·have e:Dk.here m i=false:=by unfold Dk.here;simp [h1]
   go_enter func49,ntmps49;go_wp2;go_ret;exact ⟨by first | rfl | (rw [e];rfl),rfl⟩
 ·have e:Dk.here m i=false:=by unfold Dk.here;simp [h0]
  go_enter func49,ntmps49;go_wp2;go_ret;exact ⟨by first | rfl | (rw [e];rfl),rfl⟩
theorem fV (i:Int) (L:List Int) (p:Option Addr) (n c:Nat) (hn:L.length=n) (w:World) (hd:aJ w T d lb rb cb m) :
  qc 76 #[qp d,.int .i64 i,.slice p n c] w fun e w'=>e = .returned (.int .i64 (Dk.fault m i L))∧w'=w:=by
 subst hn;have HD:=qh hd;clear hd;cases h:Dk.here m i with
 | false =>
  have e:Dk.fault m i L=7:=by unfold Dk.fault;simp [h]
  go_enter func76,ntmps76;go_wp2_with (go_at_call 49;refine (iz i _ HD.out).mono ?_;rw [h];rintro e1 w1 ⟨rfl,rfl⟩)
  go_ret;exact ⟨by first | rfl | (rw [e];rfl),rfl⟩
 | true =>
  by_cases hl:(1024:Int)<(L.length:Int)
  ·have e:Dk.fault m i L=3:=by unfold Dk.fault;rw [h,if_neg (by decide),if_pos (by omega)]
   go_enter func76,ntmps76;go_wp2_with (go_at_call 49;refine (iz i _ HD.out).mono ?_;rw [h];rintro e1 w1 ⟨rfl,rfl⟩)
   go_ret;exact ⟨by first | rfl | (rw [e];rfl),rfl⟩
  ·have e:Dk.fault m i L=0:=by unfold Dk.fault;rw [h,if_neg (by decide),if_neg (by omega)]
   go_enter func76,ntmps76;go_wp2_with (go_at_call 49;refine (iz i _ HD.out).mono ?_;rw [h];rintro e1 w1 ⟨rfl,rfl⟩)
   go_ret;exact ⟨by first | rfl | (rw [e];rfl),rfl⟩
def wQ (T:Nat→Prop) (d lb rb cb:Nat) (v:Value) (m':Dk.M) (w:World) (e:Ending) (w':World):Prop:=e = .returned v∧Hid (aJ w' T d lb rb cb m')∧Mv [d] w w'
theorem iF (w:World) (hd:aJ w T d lb rb cb m):qc 77 #[qp d] w (wQ T d lb rb cb (.int .i64 (Dk.aM m)) (Dk.aK m) w):=by
 obtain ⟨_,_,_,_,c4,c5⟩:=hd.cells;have f4:=frozen_of_row w d 4 _ _ hd.row;have f5:=frozen_of_row w d 5 _ _ hd.row;have HD:=qh hd;clear hd;have key:∀ (j:Nat) (u:Value),(w.setCell ⟨d,j,none⟩ u).heap[d]?=qo ((#[.slice (some ⟨lb,0,none⟩) m.n m.n,.map (some cb),.slice (some ⟨rb,0,none⟩) m.n m.n,.int .i64 (m.wr:Int),.int .i64 m.left,.bool m.down]:Array Value).setIfInBounds j u) 74:=fun j u=>heap_setCell_same w d j _ _ u HD.out.row;have KEY:=qh key;clear key;have HL:=qh HD.out.ok.left;cases BX:m.down with
 | true =>
  have hg:Dk.gone m=true:=by unfold Dk.gone;rw [BX];rfl
  have es:Dk.aK m = { m with down:=true }:=by unfold Dk.aK;rw [if_pos hg]
  have ee:Dk.aM m=12:=by unfold Dk.aM;rw [if_pos hg]
  rw [BX] at c5;go_enter func77,ntmps77;go_wp2;go_ret;refine ⟨by first | rfl | (rw [ee];rfl),qh ?_,(Mv.refl _ _).setCell _ _ (by simp)⟩;rw [es];exact HD.out.eD ((Mv.refl _ _).setCell _ _ (by simp)) (by rw [KEY.out];rfl) rfl rfl rfl rfl qn HL.out
 | false =>
  rw [BX] at c5;by_cases h0:m.left=0
  ·have hg:Dk.gone m=true:=by unfold Dk.gone;rw [h0];simp
   have es:Dk.aK m = { m with down:=true }:=by unfold Dk.aK;rw [if_pos hg]
   have ee:Dk.aM m=12:=by unfold Dk.aM;rw [if_pos hg]
   rw [h0] at c4;go_enter func77,ntmps77;go_wp2;go_ret;refine ⟨by first | rfl | (rw [ee];rfl),qh ?_,(Mv.refl _ _).setCell _ _ (by simp)⟩;rw [es];exact HD.out.eD ((Mv.refl _ _).setCell _ _ (by simp)) (by rw [KEY.out];rfl) rfl rfl rfl rfl qn HL.out
  ·have hg:Dk.gone m=false:=by unfold Dk.gone;rw [BX];simp [h0]
   have ee:Dk.aM m=0:=by unfold Dk.aM;rw [hg];rfl
   have h0':(m.left==0)=false:=by simpa using h0
   by_cases hp:0<m.left
   ·have es:Dk.aK m = { m with left:=m.left-1 }:=by unfold Dk.aK;rw [hg,if_pos hp];rfl
    have Aq:IntKind.i64.wrap (m.left-1)=m.left-1:=IntWalk.i64_in _ (by have h:=HL.out;unfold aT at h;constructor<;>omega);go_enter func77,ntmps77;go_wp2;go_ret;refine ⟨by first | rfl | (rw [ee];rfl),qh ?_,(Mv.refl _ _).setCell _ _ (by simp)⟩;rw [es];exact HD.out.eD ((Mv.refl _ _).setCell _ _ (by simp)) (by rw [KEY.out];simp [BX]) rfl rfl rfl rfl qn (by have h:=HL.out;unfold aT at h ⊢;dsimp only;omega)
   ·have es:Dk.aK m=m:=by unfold Dk.aK;rw [hg,if_neg hp];rfl
    go_enter func77,ntmps77;go_wp2;go_ret;exact ⟨by first | rfl | (rw [ee];rfl),qh (by first | exact HD.out | (rw [es];exact HD.out)),Mv.refl _ _⟩
theorem acI (n:Int) (hn:aT n) (w:World) (hd:aJ w T d lb rb cb m):qc 38 #[qp d,.int .i64 n] w (wQ T d lb rb cb (.tuple #[]) { m with left:=n } w):=by
 obtain ⟨_,_,_,_,c4,_⟩:=hd.cells;have f4:=frozen_of_row w d 4 _ _ hd.row;have HD:=qh hd;clear hd;have HN:=qh hn;clear hn;have KEY:=qh (heap_setCell_same w d 4 _ _ (.int .i64 n) HD.out.row);go_enter func38,ntmps38;go_wp2;go_end0
 refine ⟨rfl,qh ?_,(Mv.refl _ _).setCell _ _ (by simp)⟩;exact HD.out.eD ((Mv.refl _ _).setCell _ _ (by simp)) (by rw [KEY.out];simp) rfl rfl rfl rfl qn HN.out
end
end
section
open Go.RowKit
theorem Tryz.gZ:prog.underlying 72=some (.map 3 22):=by kernel_rfl
structure ow (w z:World):Prop where
 os:z.os=w.os
 tape:z.tape=w.tape
 output:z.output=w.output
 heap:z.heap=w.heap
theorem gk {P:Program} {w:World} {ops:Array Oper} {rest:List Oper} {o:Oper} {a:Act} {Q:Exit→Act→World→Prop} (hg:o.guard=none) (m x:Operand) (t k:TypeId) (hop:o.op=Op.call { callee:=Callee.builtin Builtin.delete,args:=#[m,x],argTypes:=#[t,k] }) (b:Nat) (key:Value)
  (hm:a.eval m = .map (some b)) (hx:a.eval x=key) (y:World) (Am:(Builtin.delete_ #[t,k] o.type #[.map (some b),key]).run P w = .ok (.tuple #[]) y) (hK:wpList P ops Q rest (a.put o.dst (.tuple #[])) y):wpList P ops Q (o :: rest) a w:=by
 refine wpList_plain hg fun K' Ge=>?_;unfold Oper.wp;simp [execOp,hop,resolve,invoke,builtin,hm,hx,Am,Result.andThen];exact Ge _ _ hK
theorem agT {α:Type} {p q:α→Prop} (h:∃ y,p y∧q y):q h.choose:=h.choose_spec.2
section
variable {T:Nat→Prop} {d lb rb cb:Nat} {m:Dk.M}
theorem nm (i n:Nat) (p:Option Addr) (k c:Nat) (hi:i<n) (w:World) (R:World→Prop) (c0:w.cell? ⟨d,0,none⟩=some (.slice (some ⟨lb,0,none⟩) n n)) (c1:w.cell? ⟨d,1,none⟩=some (.map (some cb))) (Cq:d ≠ lb)
  (A:Array Value) (hA:w.heap[lb]?=qo A 22) (hs:A.size=n)
  (hl:∀ z,ow w z→(Instr.lookup 72 (.map (some cb)) (.int .i64 (i:Int)) false).run prog z = .ok (.slice p k c) z)
  (hH:∀ z ty,ow (w.setCell ⟨lb,i,none⟩ (.slice p k c)) z→∃ y,(Builtin.delete_ #[72,3] ty #[.map (some cb),.int .i64 (i:Int)]).run prog z = .ok (.tuple #[]) y∧R y) :
  qc 78 #[qp d,.int .i64 (i:Int)] w fun e w'=>e = .returned (.tuple #[])∧R w':=by
 have h0:(0:Int)≤(i:Int):=by omega
 have h1:(i:Int)<(n:Int):=by omega
 have GR:=hl w.drew ⟨rfl,rfl,rfl,rfl⟩;have f0:=frozen_of_row w lb i _ _ hA;have t0:w.cell? ⟨lb,i,none⟩=A[i]?:=cell_of_row w lb i _ _ _ hA;obtain ⟨a0,Oz⟩:∃ a0,A[i]?=some a0:=⟨A[i]'(by omega),Array.getElem?_eq_getElem _⟩;rw [Oz] at t0;have HH:=qh hH;clear hH hl;have c1':(w.setCell ⟨lb,i,none⟩ (.slice p k c)).cell? ⟨d,1,none⟩=some (.map (some cb)):=by rw [World.cell?_of_block (heap_setCell_other w ⟨lb,i,none⟩ d _ Cq)];exact c1
 have c0':(w.setCell ⟨lb,i,none⟩ (.slice p k c)).cell? ⟨d,0,none⟩=some (.slice (some ⟨lb,0,none⟩) n n):=by rw [World.cell?_of_block (heap_setCell_other w ⟨lb,i,none⟩ d _ Cq)];exact c0
 go_enter func78,ntmps78;go_upto_region 0 with (fail)
 go_region_held3 (fun y=>y.cell? ⟨d,0,none⟩=some (.slice (some ⟨lb,0,none⟩) n n)∧y.cell? ⟨d,1,none⟩=some (.map (some cb)))
  (first | exact ⟨c0,c1⟩ | exact ⟨c0',c1'⟩)
  (fail)
 go_wp2_with (at_delete;refine gk rfl _ _ _ _ rfl cb _ rfl rfl _ (HH.out _ _ (by exact ⟨rfl,rfl,rfl,rfl⟩)).choose_spec.1 ?_)
 go_end0
 exact ⟨rfl,agT (q:=R) _⟩
end
end
end Go.Proofs.YthgjfjmampmiiaaGreatDoor

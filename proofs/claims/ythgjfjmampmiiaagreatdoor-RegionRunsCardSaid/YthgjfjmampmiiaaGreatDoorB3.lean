import Derived.Test.YthgjfjmampmiiaaGreatDoorB2
namespace Go.Proofs.YthgjfjmampmiiaaGreatDoor
open Go.Proofs.Tryz
set_option maxHeartbeats 4000000
set_option maxRecDepth 100000
section
open Go.RowKit
section
variable {P:Program} {md:Region.Mode} {ops:Array Oper} {Q:Exit→Act→World→Prop} {S:World→Prop}
def wpAnyL (P:Program) (md:Region.Mode) (ops:Array Oper) (Q:Exit→Act→World→Prop) (S:World→Prop) (k:Nat):Nat→Array Bool→Act→World→Prop
 | 0,listed,a,w=>Region.ready md ops listed = []∧Q .normal a w
 | fuel+1,listed,a,w =>
  (Region.ready md ops listed = []→Q .normal a w) ∧
  ∀ i∈Region.ready md ops listed,wpOp P ops Q i (fun a' w'=>(i ≠ k→S w')∧wpAnyL P md ops Q S k fuel (listed.setIfInBounds i true) a' w') a w
theorem bU {k:Nat}:∀ (fuel:Nat) (listed:Array Bool) (a:Act) (w:World),wpAnyL P md ops Q S k fuel listed a w→wpAny P md ops Q fuel listed a w
 | 0,_,_,_,h=>h
 | fuel+1,_,_,_,h=>⟨h.1,fun i hi=>wpOp_mono (fun a' w' h'=>bU fuel _ a' w' h'.2) (h.2 i hi)⟩
theorem wpAnyL_first {k i:Nat} {oi:Oper} {v:Value} (hi:ops[i]?=some oi) (Ms:∀ (j:Nat) (o:Oper) cs b,ops[j]?=some o→o.op ≠ .select cs b)
  (hk:Region.waitsFor md ops k i=true) (hQ:∀ c a w,Q (.panic c) (a.put oi.dst v) w→Q (.panic c) a w) :
  ∀ (fuel:Nat) (listed:Array Bool) (a:Act) (w:World),
   (∀ j oj,ops[j]?=some oj→j ≠ i→listed.getD j true=false→(∀ e∈oj.after,Region.binds md e=true→e.on ≠ i)→oi.apart ops oj=true) →
   i∈Region.ready md ops listed→YieldsIf P ops S oi v a→S w →
   wpAnyL P md ops Q S k fuel (listed.setIfInBounds i true) (a.put oi.dst v) w→wpAnyL P md ops Q S k (fuel+1) listed a w:=by
 intro fuel
 induction fuel with
 | zero =>
  intro listed a w _ hr hy hS H;refine ⟨fun h=>(by rw [h] at hr;cases hr),fun j hj=>?_⟩;by_cases AK:j=i
  ·subst AK;exact hy.wpOp hi hS ⟨fun _=>hS,H⟩
  ·have:=ready_mono hj AK;rw [H.1] at this;cases this
 | succ fuel ih =>
  intro listed a w DX hr hy hS H;refine ⟨fun h=>(by rw [h] at hr;cases hr),fun j hj=>?_⟩;by_cases AK:j=i
  ·subst AK;exact hy.wpOp hi hS ⟨fun _=>hS,H⟩
  ·have h1:=H.2 j (ready_mono hj AK);obtain ⟨Gn,oj,Ev,En⟩:=mem_ready.1 hj;have Gs:∀ e∈oj.after,Region.binds md e=true→e.on ≠ i:=fun e he hb heq=>by
    have h1:=En e he hb;have h0:=(mem_ready.1 hr).1;rw [heq] at h1;rcases Nat.lt_or_ge i listed.size with h' | h'
    ·simp [h'] at h0 h1;rw [h0] at h1;cases h1
    ·simp [Array.getElem?_eq_none h'] at h1
   have GO:j ≠ k:=fun e=>by
    subst e;obtain ⟨oj',Iv,e,he,hb,Mk⟩:=Region.waitsFor_spec hk;rw [Ev] at Iv;cases Iv
    exact Gs e he hb Mk
   have h2:=wpOp_putIf Ev (DX j oj Ev AK Gn Gs) (fun cs b=>Ms i oi cs b hi) (fun cs b=>Ms j oj cs b Ev) hQ hy h1;have JX:∀ m om,ops[m]?=some om→m ≠ i→(listed.setIfInBounds j true).getD m true=false →
     (∀ e∈om.after,Region.binds md e=true→e.on ≠ i)→oi.apart ops om=true:=fun m om hm Pd Mx Mg=>by
    refine DX m om hm Pd ?_ Mg;by_cases L6:j=m
    ·subst L6;exact Gn
    ·rw [getD_set_ne true L6] at Mx;exact Mx
   refine wpOp_mono (fun a' w' h3=>⟨fun _=>h3.2.1 GO,ih (listed.setIfInBounds j true) a' w' JX (ready_mono hr (Ne.symm AK)) h3.1 (h3.2.1 GO) ?_⟩) h2;rw [Array.setIfInBounds_comm _ _ AK];exact h3.2.2
theorem yH (k i D:Nat) (v:Value) {fuel:Nat} {listed:Array Bool} {a:Act} {w:World} {op:Op} {T:TypeId} {ps:String} {af:Array Edge} (hS:S w) (ho:ops[i]?=some { dst:=some D,op:=op,type:=T,pos:=ps,after:=af,guard:=none })
  (hs:Region.noSelect ops=true) (hf:Region.free md ops listed i=true) (hr:(Region.ready md ops listed).contains i=true) (hk:Region.waitsFor md ops k i=true)
  (hQ:∀ c a w,Q (.panic c) (a.put (some D) v) w→Q (.panic c) a w) (hy:∀ w,S w→(execOp a.eval { dst:=some D,op:=op,type:=T,pos:=ps,after:=af,guard:=none }).run P w = .ok (.value v) w)
  (h:wpAnyL P md ops Q S k fuel (listed.setIfInBounds i true) (a.put (some D) v) w):wpAnyL P md ops Q S k (fuel+1) listed a w :=
 wpAnyL_first ho (Region.noSelect_spec hs) hk hQ fuel listed a w (Region.free_spec ho hf) (by simpa using hr) (Or.inl ⟨rfl,hy⟩) hS h
theorem aL (k i D:Nat) (v:Value) {fuel:Nat} {listed:Array Bool} {a:Act} {w:World} {op:Op} {T:TypeId} {ps:String} {af:Array Edge} (hS:S w) (ho:ops[i]?=some { dst:=some D,op:=op,type:=T,pos:=ps,after:=af,guard:=none })
  (hy:∀ w,S w→(execOp a.eval { dst:=some D,op:=op,type:=T,pos:=ps,after:=af,guard:=none }).run P w = .ok (.value v) w)
  (h:wpAnyL P md ops Q S k fuel (listed.setIfInBounds i true) (a.put (some D) v) w)
  (hb:(Region.noSelect ops&&(Region.free md ops listed i&&((Region.ready md ops listed).contains i&&Region.waitsFor md ops k i)))=true:=by kernel_rfl)
  (hQ:∀ c a w,Q (.panic c) (a.put (some D) v) w→Q (.panic c) a w:=by exact fun _ _ _ h=>h):wpAnyL P md ops Q S k (fuel+1) listed a w:=by
 rw [Bool.and_eq_true,Bool.and_eq_true,Bool.and_eq_true] at hb;exact yH k i D v hS ho hb.1 hb.2.1 hb.2.2.1 hb.2.2.2 hQ hy h
theorem ba (k i D:Nat) (v:Value) {fuel:Nat} {listed:Array Bool} {a A:Act} {w:World} {op:Op} {T:TypeId} {ps:String} {af:Array Edge} (hS:S w) (ho:ops[i]?=some { dst:=some D,op:=op,type:=T,pos:=ps,after:=af,guard:=none })
  (hy:∀ w,S w→(execOp a.eval { dst:=some D,op:=op,type:=T,pos:=ps,after:=af,guard:=none }).run P w = .ok (.value v) w)
  (h:wpAnyL P md ops Q S k fuel (listed.setIfInBounds i true) A w)
  (hb:(Region.noSelect ops&&(Region.free md ops listed i&&((Region.ready md ops listed).contains i&&Region.waitsFor md ops k i)))=true:=by kernel_rfl)
  (hQ:∀ c a w,Q (.panic c) (a.put (some D) v) w→Q (.panic c) a w:=by exact fun _ _ _ h=>h)
  (hA:a.put (some D) v=A:=by (try simp only [Act.put,aQ,aR,aO]) <;> rfl):wpAnyL P md ops Q S k (fuel+1) listed a w:=by
 subst hA;exact aL k i D v hS ho hy h hb hQ
theorem ax (k i:Nat) {fuel:Nat} {listed:Array Bool} {a:Act} {w:World} (hr:Region.ready md ops listed = [i])
  (h:wpOp P ops Q i (fun a' w'=>(i ≠ k→S w')∧wpAnyL P md ops Q S k fuel (listed.setIfInBounds i true) a' w') a w):wpAnyL P md ops Q S k (fuel+1) listed a w :=
 ⟨fun h0=>absurd (hr ▸ h0) (by simp),fun j hj=>by
  rw [hr] at hj;simp at hj;subst hj;exact h⟩
theorem bZ {k:Nat} {listed:Array Bool} {a:Act} {w:World} (hr:Region.ready md ops listed = []) (h:Q .normal a w):∀ fuel,wpAnyL P md ops Q S k fuel listed a w
 | 0=>⟨hr,h⟩
 | _+1=>⟨fun _=>h,by rw [hr];simp⟩
end
end
section
open Go.RowKit
section
variable {P:Program} {ops:Array Oper} {rest:List Oper} {a:Act} {w:World} {Q:Exit→Act→World→Prop} {D:Option Tmp} {T:TypeId} {ps:String} {af:Array Edge}
theorem yk (t:TypeId) (x:Operand) (A R:Array Value) (hx:a.eval x = .agg A) (hr:P.built t [(0,.agg A)]=some R) (h:wpList P ops Q rest (a.put D (.agg R)) w) :
  wpList P ops Q ({ dst:=D,op:=.build t #[(0,x)],type:=T,pos:=ps,after:=af,guard:=none } :: rest) a w :=
 wpList_plain rfl fun K hK=>by
  have Am:=run_build (P:=P) w t #[(0,.agg A)] R hr;unfold Oper.wp execOp;simp only [hx,List.map_toArray,List.map_cons,List.map_nil,Am,Sem.run_bind,Sem.run_pure,Result.andThen_ok];exact hK _ _ h
end
def jO (l:List Int):List Value:=l.map (Value.int .u32)
theorem aca (l:List Int):jO (l.take (4*0)) = []:=by simp [jO]
theorem yq (l:List Int) (a b c d:Int):jO l++[.int .u32 a,.int .u32 b,.int .u32 c,.int .u32 d]=jO (l++[a]++[b]++[c]++[d]):=by simp [jO]
theorem adA (l:List Int):jO l=l.map (Value.int .u32):=rfl
attribute [irreducible] jO
def fx (w:World) (g:Nat) (T ks:List Int):Prop :=
 ∃ (kb n cap base:Nat),w.heap[g]?=some (.cells ((T.map (Value.int .u8)).toArray.push (.slice (some ⟨kb,0,none⟩) n cap)) 125 (0,0))∧ks.length=4*n ∧
  w.ownsRow base 130 4 (.slice (some ⟨kb,0,none⟩) n cap) n (jO ks)
theorem j1 {w:World} {g:Nat} {A:Array Value} {v:Value} (hA:A=(ag.TB.map (Value.int .u8)).toArray) (h:w.heap[g]?=some (.cells (A.push v) 125 (0,0))):zc w g ag.TB:=fun j hj=>by
 refine ⟨?_,?_⟩
 ·rw [cell_of_row w g j _ _ _ h,hA,Array.getElem?_push];have hs:¬ j=(ag.TB.map (Value.int .u8)).toArray.size:=by simp [ag.mr];omega
  rw [if_neg hs];have hl:j<ag.TB.length:=by rw [ag.mr];exact hj
  simp [List.getD_eq_getElem?_getD,hl]
 ·exact ai.aW ag.abv j
def vU (K:List Int) (w:World) (e:Ending) (w':World):Prop :=
 ∃ g,e = .returned (.tuple #[qp g,.int .i64 0])∧w.heap.size≤g∧fx w' g ag.TB (ag.j7 ag.TB K)∧qw w w'
theorem Tryz.tz:(prog.info? 130).map (fun i=>(i.zero,i.size,i.bytes))=some (some (.agg #[.int .u32 0,.int .u32 0,.int .u32 0,.int .u32 0]),4,16):=by kernel_rfl
theorem kZ {ops:Array Oper} {a:Act} {K:Act→World→Prop} {Q:Exit→Act→World→Prop} {D:Tmp} {T:TypeId} {ps:String} {af:Array Edge} (w0:World) (y0 y1 y2 y3:Int) (l l':List Value) (i:Nat)
  (s x:Operand) (base:Nat) (v:Value) (n:Nat) (J3:l++[.int .u32 y0,.int .u32 y1,.int .u32 y2,.int .u32 y3]=l') (ho:ops[i]?=some { dst:=some D,op:=Op.call { callee:=Callee.builtin Builtin.append,args:=#[s,x],argTypes:=#[123,123] },type:=T,pos:=ps,after:=af,guard:=none })
  (hs:a.eval s=v) (hx:a.eval x = .slice (some ⟨w0.heap.size,0,none⟩) 1 1) (Ap:w0.ownsRow base 130 4 v n l) (hn:n≤1000) (hb:base≤w0.heap.size)
  (hK:∀ g' AO w',w'.ownsRow base 130 4 (.slice (some ⟨g',0,none⟩) (n+1) AO) (n+1) l'→(w0.alloc (.cells #[.int .u32 y0,.int .u32 y1,.int .u32 y2,.int .u32 y3] 130)).grownBy w' v.ownBlock→K (a.put (some D) (.slice (some ⟨g',0,none⟩) (n+1) AO)) w') :
  wpOp prog ops Q i K a (w0.alloc (.cells #[.int .u32 y0,.int .u32 y1,.int .u32 y2,.int .u32 y3] 130)):=by
 obtain ⟨i0,hi,hz0,hz1,hz2⟩:=info_parts Tryz.tz;refine ga i _ ho rfl ?_;refine wp_append_own _ s x 123 rfl base 130 i0 (.agg #[.int .u32 0,.int .u32 0,.int .u32 0,.int .u32 0]) 4 16 underlying123 hi hz0 hz1 hz2 rfl (by decide) v n l hs (Ap.alloc _) ⟨w0.heap.size,0,none⟩ 1 1 [.int .u32 y0,.int .u32 y1,.int .u32 y2,.int .u32 y3] hx rfl ?_ ?_ (by unfold maxLen;omega) (by omega) (by simp;omega) ?_
 ·intro j u hj;rw [Addr.add_mid,Nat.zero_add,cell_of_row (w0.alloc (.cells #[.int .u32 y0,.int .u32 y1,.int .u32 y2,.int .u32 y3] 130)) w0.heap.size j _ _ _ (heap_alloc_new w0 _)];simpa using hj
 ·intro u hu;simp at hu;rcases hu with rfl | rfl | rfl | rfl<;>rfl
 ·intro v' w' h1 h2 _;subst J3;rcases h1.2 with ⟨_,h0⟩ | ⟨g',AO,cur,rfl,_⟩
  ·omega
  ·exact hK g' AO w' h1 h2
theorem ahU (K:List Int) (hK:K.length=16) (p:Option Addr) (cap:Nat) (Az:16≤cap) (BI:cap≤9223372036854775807) (w:World) (hp:cX w p K) :
  qc 33 #[.slice p 16 cap] w (vU K w):=by
 have Hp:=qh hp;clear hp;have Hcap:=qh (And.intro Az BI);clear Az BI;have HL:Hid ((ag.j7 ag.TB K).length=44):=by
  show _=_;rw [ag.j7,show K.length / 4=4 by omega,ag.ma]
 have HK:=qh hK;clear hK;obtain ⟨A,An,Ak⟩:∃ A:Array Value,Hid (A=(ag.TB.map (Value.int .u8)).toArray)∧Hid (A.size=256):=⟨_,rfl,by show _=_;simp [ag.mr]⟩;have ML:=qh (oM A Ak.out);go_enter func33,ntmps33;go_upto_region 7 with (first
  | (go_at_call 72;refine (kW _).mono ?_;rintro e w1 ⟨rfl,Ag⟩;rw [← An.out])
  | ((with_reducible refine yk _ _ A _ ?_ ML.out ?_);(exact rfl)))
 have Ds:Hid ((w1.alloc (.cells (A.push (.slice none 0 0)) 125)).heap[w1.heap.size]?=some (.cells (A.push (.slice none 0 0)) 125 (0,0))):=heap_alloc_new _ _;have Bd:Hid (qw w (w1.alloc (.cells (A.push (.slice none 0 0)) 125))):=Ag.alloc Ag.size _;have D7:Hid (w.heap.size≤w1.heap.size):=Ag.size;have Hj:Hid (w1.heap.size<(w1.alloc (.cells (A.push (.slice none 0 0)) 125)).heap.size):=lt_of_block Ds.out;clear Ag;generalize w1.alloc (.cells (A.push (.slice none 0 0)) 125)=wa at *;generalize w1.heap.size=c at *;have Dn:Hid (zc wa c ag.TB):=j1 An.out Ds.out;go_upto_region 8 with (go_at_call 73;refine (aeV ag.TB K HK.out c p cap Hcap.out.1 Hcap.out.2 _ Dn.out Hj.out (Hp.out.av Bd.out)).mono ?_;rintro e w2 ⟨G,rfl,hG,HW,Al⟩)
 have ES:Hid (w2.heap[c]?=some (.cells (A.push (.slice none 0 0)) 125 (0,0))):=(Al.block _ Hj.out).trans Ds.out;have Aj:Hid (qw w w2):=Bd.out.trans (Al.mono Bd.out.size);have HG:Hid (G<w2.heap.size∧c<w2.heap.size∧c<G):=⟨lt_of_block HW.out,lt_of_block ES.out,by have:=Hj.out;omega⟩;clear Dn Ds Bd Hj Al hG ML HK Hp Hcap;have EC:Hid (∀ j,j<44→(ag.j7 ag.TB K).take (j+1)=(ag.j7 ag.TB K).take j++[(ag.j7 ag.TB K).getD j 0]):=fun j hj=>(b8 _ j (by rw [HL.out];exact hj)).symm;generalize DY:ag.j7 ag.TB K=ks at *;have Hks:=qh DY;clear DY;have FP:Hid (ks.length=44):=HL;simp only [FP.out];go_wp2;go_loopw [6] (fun v6 wr=>∃ (m:Nat) (v:Value),m≤11∧v6 = .int .i64 (4*(m:Int))∧Hid (wr.heap[c]?=some (.cells (A.push v) 125 (0,0)))∧Hid (wr.ownsRow w2.heap.size 130 4 v m (jO (ks.take (4*m))))∧Hid (wr.heap[G]?=some (.cells (ks.map (Value.int .u32)).toArray 128 (0,0)))∧Hid (qw w wr)∧Hid (w2.heap.size≤wr.heap.size)) (fun v6 _=>44-(intOf v6).toNat)
 case atStart=>exact ⟨0,_,by omega,rfl,ES.out,(by show World.ownsRow _ _ _ _ _ _ _;rw [aca];exact World.ownsRow_nil _ _ _ _),HW.out,Aj.out,Nat.le_refl _⟩
 case round =>
  clear ES HW Aj;obtain ⟨m,v,hm,rfl,HC,HO,HW,HB,Ar⟩:=hrel;by_cases Ae:m<11
  ·have c0:=df HW.out (4*m) (by rw [FP.out];omega);have c1:=df HW.out (4*m+1) (by rw [FP.out];omega);have c2:=df HW.out (4*m+2) (by rw [FP.out];omega);have c3:=df HW.out (4*m+3) (by rw [FP.out];omega);obtain ⟨y0,Ke⟩:∃ y,y=ks.getD (4*m) 0:=⟨_,rfl⟩;obtain ⟨y1,PF⟩:∃ y,y=ks.getD (4*m+1) 0:=⟨_,rfl⟩;obtain ⟨y2,PG⟩:∃ y,y=ks.getD (4*m+2) 0:=⟨_,rfl⟩;obtain ⟨y3,PH⟩:∃ y,y=ks.getD (4*m+3) 0:=⟨_,rfl⟩;rw [← Ke] at c0;rw [← PF] at c1;rw [← PG] at c2;rw [← PH] at c3;have Ko:Hid (jO (ks.take (4*m))++[.int .u32 y0,.int .u32 y1,.int .u32 y2,.int .u32 y3]=jO (ks.take (4*(m+1)))):=by
    show _=_;rw [show 4*(m+1)=4*m+1+1+1+1 by omega,EC.out _ (by omega),EC.out _ (by omega),EC.out _ (by omega),EC.out _ (by omega),← Ke,← PF,← PG,← PH,yq]
   clear Ke PF PG PH;have hs:Hid (c<wr.heap.size∧G<wr.heap.size):=by have:=HG.out;have:=Ar.out;exact ⟨by omega,by omega⟩
   have QB:wr.cell? ⟨c,256,none⟩=some v:=by rw [cell_of_row wr c 256 _ _ _ HC.out,Array.getElem?_push,if_pos Ak.out.symm]
   have MX:Hid (∀ x:World,x.heap[G]?=some (.cells (ks.map (Value.int .u32)).toArray 128 (0,0))→x.cell? ⟨G,4*m,none⟩=some (.int .u32 y0)∧x.cell? ⟨G,4*m+1,none⟩=some (.int .u32 y1)∧x.cell? ⟨G,4*m+2,none⟩=some (.int .u32 y2)∧x.cell? ⟨G,4*m+3,none⟩=some (.int .u32 y3)):=fun x hx=>by
    have e:=World.cell?_of_block (w:=wr) (w':=x) (a:=⟨G,4*m,none⟩) (by show x.heap[G]?=wr.heap[G]?;rw [hx,HW.out]);have e1:=World.cell?_of_block (w:=wr) (w':=x) (a:=⟨G,4*m+1,none⟩) (by show x.heap[G]?=wr.heap[G]?;rw [hx,HW.out]);have e2:=World.cell?_of_block (w:=wr) (w':=x) (a:=⟨G,4*m+2,none⟩) (by show x.heap[G]?=wr.heap[G]?;rw [hx,HW.out]);have e3:=World.cell?_of_block (w:=wr) (w':=x) (a:=⟨G,4*m+3,none⟩) (by show x.heap[G]?=wr.heap[G]?;rw [hx,HW.out]);exact ⟨e.trans c0,e1.trans c1,e2.trans c2,e3.trans c3⟩
   have Ea:Hid (some c ≠ v.ownBlock∧some G ≠ v.ownBlock):=by
    have hb:=HO.out.lt;have hg:=HG.out;exact ⟨fun e=>by have:=(hb c e.symm).1;omega,fun e=>by have:=(hb G e.symm).1;omega⟩
   have Ah:IntKind.i64.wrap (4*(m:Int))=4*(m:Int):=IntWalk.i64_in _ ⟨by omega,by omega⟩;have Aq:IntKind.i64.wrap (4*(m:Int)+1)=4*(m:Int)+1:=IntWalk.i64_in _ ⟨by omega,by omega⟩;have Ba:IntKind.i64.wrap (4*(m:Int)+2)=4*(m:Int)+2:=IntWalk.i64_in _ ⟨by omega,by omega⟩;have AH:IntKind.i64.wrap (4*(m:Int)+3)=4*(m:Int)+3:=IntWalk.i64_in _ ⟨by omega,by omega⟩;have Nx:(4*(m:Int)).toNat=4*m:=by omega
   have FC:(4*(m:Int)+1).toNat=4*m+1:=by omega
   have KG:(4*(m:Int)+2).toNat=4*m+2:=by omega
   have Pz:(4*(m:Int)+3).toNat=4*m+3:=by omega
   have Fi:0≤4*(m:Int):=by omega
   have Tt:0≤4*(m:Int)+1:=by omega
   have Pn:0≤4*(m:Int)+2:=by omega
   have Tu:0≤4*(m:Int)+3:=by omega
   have Pp:4*(m:Int)<44:=by omega
   have Ew:4*(m:Int)+1<44:=by omega
   have Gu:4*(m:Int)+2<44:=by omega
   have Uv:4*(m:Int)+3<44:=by omega
   clear c0 c1 c2 c3;go_upto_region 11 with fail
   refine wp_region_any (by kernel_rfl) ?_;change wpAny _ _ _ _ _ _ _ (World.drew _);have HCd:Hid (wr.drew.heap[c]?=some (.cells (A.push v) 125 (0,0))):=HC.out;have HWd:Hid (wr.drew.heap[G]?=some (.cells (ks.map (Value.int .u32)).toArray 128 (0,0))):=HW.out;have HOd:Hid (wr.drew.ownsRow w2.heap.size 130 4 v m (jO (ks.take (4*m)))):=HO.out.drew;have HBd:Hid (qw w wr.drew):=HB.out.drew;have HSd:Hid (wr.drew.cell? ⟨c,256,none⟩=some v∧wr.drew.cell? ⟨G,4*m,none⟩=some (.int .u32 y0)∧wr.drew.cell? ⟨G,4*m+1,none⟩=some (.int .u32 y1)∧wr.drew.cell? ⟨G,4*m+2,none⟩=some (.int .u32 y2)∧wr.drew.cell? ⟨G,4*m+3,none⟩=some (.int .u32 y3)):=⟨QB,MX.out _ HW.out⟩;have HS2d:Hid (w2.heap.size≤wr.drew.heap.size):=Ar.out;clear HC HW HO HB Ar QB hs;generalize wr.drew=wd at *;refine bU (S:=fun x:World=>x.cell? ⟨c,256,none⟩=some v∧x.cell? ⟨G,4*m,none⟩=some (.int .u32 y0)∧x.cell? ⟨G,4*m+1,none⟩=some (.int .u32 y1)∧x.cell? ⟨G,4*m+2,none⟩=some (.int .u32 y2)∧x.cell? ⟨G,4*m+3,none⟩=some (.int .u32 y3)) (k:=29) _ _ _ _ ?_;refine ba 29 0 25 (qp c) HSd.out rfl (by intro x hx;obtain ⟨s0,s1,s2,s3,s4⟩:=hx;go_simp;try (intro h;omega)) ?_;refine ba 29 1 26 (qp c) HSd.out rfl (by intro x hx;obtain ⟨s0,s1,s2,s3,s4⟩:=hx;go_simp;try (intro h;omega)) ?_;refine ba 29 2 27 (qp c) HSd.out rfl (by intro x hx;obtain ⟨s0,s1,s2,s3,s4⟩:=hx;go_simp;try (intro h;omega)) ?_;refine ba 29 3 28 (.pointer (some ⟨c,256,none⟩)) HSd.out rfl (by intro x hx;obtain ⟨s0,s1,s2,s3,s4⟩:=hx;go_simp;try (intro h;omega)) ?_;refine ba 29 4 29 (v) HSd.out rfl (by intro x hx;obtain ⟨s0,s1,s2,s3,s4⟩:=hx;go_simp;try (intro h;omega)) ?_;refine ba 29 5 30 (.slice (some ⟨G,0,none⟩) 44 44) HSd.out rfl (by intro x hx;obtain ⟨s0,s1,s2,s3,s4⟩:=hx;go_simp;try (intro h;omega)) ?_;refine ba 29 6 31 (.int .i64 (4*(m:Int))) HSd.out rfl (by intro x hx;obtain ⟨s0,s1,s2,s3,s4⟩:=hx;go_simp;try (intro h;omega)) ?_;refine ba 29 7 32 (.pointer (some ⟨G,4*m,none⟩)) HSd.out rfl (by intro x hx;obtain ⟨s0,s1,s2,s3,s4⟩:=hx;go_simp;try (intro h;omega)) ?_;refine ba 29 8 33 (.int .u32 y0) HSd.out rfl (by intro x hx;obtain ⟨s0,s1,s2,s3,s4⟩:=hx;go_simp;try (intro h;omega)) ?_;refine ba 29 9 34 (.slice (some ⟨G,0,none⟩) 44 44) HSd.out rfl (by intro x hx;obtain ⟨s0,s1,s2,s3,s4⟩:=hx;go_simp;try (intro h;omega)) ?_;refine ba 29 10 35 (.int .i64 (4*(m:Int))) HSd.out rfl (by intro x hx;obtain ⟨s0,s1,s2,s3,s4⟩:=hx;go_simp;try (intro h;omega)) ?_;refine ba 29 11 36 (.int .i64 (4*(m:Int)+1)) HSd.out rfl (by intro x hx;obtain ⟨s0,s1,s2,s3,s4⟩:=hx;go_simp;try (intro h;omega)) ?_;refine ba 29 12 37 (.pointer (some ⟨G,4*m+1,none⟩)) HSd.out rfl (by intro x hx;obtain ⟨s0,s1,s2,s3,s4⟩:=hx;go_simp;try (intro h;omega)) ?_;refine ba 29 13 38 (.int .u32 y1) HSd.out rfl (by intro x hx;obtain ⟨s0,s1,s2,s3,s4⟩:=hx;go_simp;try (intro h;omega)) ?_;refine ba 29 14 39 (.slice (some ⟨G,0,none⟩) 44 44) HSd.out rfl (by intro x hx;obtain ⟨s0,s1,s2,s3,s4⟩:=hx;go_simp;try (intro h;omega)) ?_;refine ba 29 15 40 (.int .i64 (4*(m:Int))) HSd.out rfl (by intro x hx;obtain ⟨s0,s1,s2,s3,s4⟩:=hx;go_simp;try (intro h;omega)) ?_;refine ba 29 16 41 (.int .i64 (4*(m:Int)+2)) HSd.out rfl (by intro x hx;obtain ⟨s0,s1,s2,s3,s4⟩:=hx;go_simp;try (intro h;omega)) ?_;refine ba 29 17 42 (.pointer (some ⟨G,4*m+2,none⟩)) HSd.out rfl (by intro x hx;obtain ⟨s0,s1,s2,s3,s4⟩:=hx;go_simp;try (intro h;omega)) ?_;refine ba 29 18 43 (.int .u32 y2) HSd.out rfl (by intro x hx;obtain ⟨s0,s1,s2,s3,s4⟩:=hx;go_simp;try (intro h;omega)) ?_;refine ba 29 19 44 (.slice (some ⟨G,0,none⟩) 44 44) HSd.out rfl (by intro x hx;obtain ⟨s0,s1,s2,s3,s4⟩:=hx;go_simp;try (intro h;omega)) ?_;refine ba 29 20 45 (.int .i64 (4*(m:Int))) HSd.out rfl (by intro x hx;obtain ⟨s0,s1,s2,s3,s4⟩:=hx;go_simp;try (intro h;omega)) ?_;refine ba 29 21 46 (.int .i64 (4*(m:Int)+3)) HSd.out rfl (by intro x hx;obtain ⟨s0,s1,s2,s3,s4⟩:=hx;go_simp;try (intro h;omega)) ?_;refine ba 29 22 47 (.pointer (some ⟨G,4*m+3,none⟩)) HSd.out rfl (by intro x hx;obtain ⟨s0,s1,s2,s3,s4⟩:=hx;go_simp;try (intro h;omega)) ?_;refine ba 29 23 48 (.int .u32 y3) HSd.out rfl (by intro x hx;obtain ⟨s0,s1,s2,s3,s4⟩:=hx;go_simp;try (intro h;omega)) ?_;refine ba 29 24 49 (.agg #[.int .u32 y0,.int .u32 y1,.int .u32 y2,.int .u32 y3]) HSd.out rfl (by intro x hx;obtain ⟨s0,s1,s2,s3,s4⟩:=hx;go_simp;try (intro h;omega)) ?_;refine ax 29 25 (by kernel_rfl) ?_;refine wpOp_step rfl (fun Kc Af=>?_);go_simp;refine Af _ _ ⟨fun _=>?_,?_⟩
   ·have hc:=lt_of_block HCd.out;have hg:=lt_of_block HWd.out;obtain ⟨s0,s1,s2,s3,s4⟩:=HSd.out;exact ⟨(World.cell?_of_block (a:=⟨c,256,none⟩) (heap_alloc_old _ _ hc)).trans s0,(World.cell?_of_block (a:=⟨G,4*m,none⟩) (heap_alloc_old _ _ hg)).trans s1,(World.cell?_of_block (a:=⟨G,4*m+1,none⟩) (heap_alloc_old _ _ hg)).trans s2,(World.cell?_of_block (a:=⟨G,4*m+2,none⟩) (heap_alloc_old _ _ hg)).trans s3,(World.cell?_of_block (a:=⟨G,4*m+3,none⟩) (heap_alloc_old _ _ hg)).trans s4⟩
   clear Af Kc;try simp only [Act.put,aQ,aR,aO]
   refine ax 29 26 (by kernel_rfl) ?_;refine kZ wd y0 y1 y2 y3 _ _ 26 (.tmp 29) (.tmp 50) w2.heap.size v m Ko.out rfl rfl rfl HOd.out (by omega) HS2d.out ?_;intro g' AO w5 Ap Ac;have HO5:=qh Ap;clear Ap;have EB:Hid (w5.heap[c]?=some (.cells (A.push v) 125 (0,0))):=(Ac.block c (by simp;have:=lt_of_block HCd.out;omega) Ea.out.1).trans ((heap_alloc_old _ _ (lt_of_block HCd.out)).trans HCd.out);have Ft:Hid (w5.heap[G]?=some (.cells (ks.map (Value.int .u32)).toArray 128 (0,0))):=(Ac.block G (by simp;have:=lt_of_block HWd.out;omega) Ea.out.2).trans ((heap_alloc_old _ _ (lt_of_block HWd.out)).trans HWd.out);have Ay:Hid (qw w w5):=(HBd.out.alloc HBd.out.size _).grown Ac (by have:=HBd.out.size;simp;omega) (fun j hj=>by have h1:=(HOd.out.lt j hj).1;have:=HG.out;have:=D7.out;omega);have DE:Hid (w2.heap.size≤w5.heap.size):=by have h1:=Ac.size;have h2:=HS2d.out;simp at h1;show _≤_;omega
   refine ⟨fun _=>?_,?_⟩
   ·exact ⟨by rw [cell_of_row w5 c 256 _ _ _ EB.out,Array.getElem?_push,if_pos Ak.out.symm],MX.out w5 Ft.out⟩
   try simp only [Act.put,aQ,aR,aO]
   have HSd5:Hid (w5.cell? ⟨c,256,none⟩=some v∧w5.cell? ⟨G,4*m,none⟩=some (.int .u32 y0)∧w5.cell? ⟨G,4*m+1,none⟩=some (.int .u32 y1)∧w5.cell? ⟨G,4*m+2,none⟩=some (.int .u32 y2)∧w5.cell? ⟨G,4*m+3,none⟩=some (.int .u32 y3)):=⟨by rw [cell_of_row w5 c 256 _ _ _ EB.out,Array.getElem?_push,if_pos Ak.out.symm],MX.out w5 Ft.out⟩;refine ax 29 27 (by kernel_rfl) ?_;refine wpOp_step rfl (fun Kc Af=>?_);go_simp;refine Af _ _ ⟨fun _=>HSd5.out,?_⟩;clear Af Kc;try simp only [Act.put,aQ,aR,aO]
   refine ax 29 28 (by kernel_rfl) ?_;refine wpOp_step rfl (fun Kc Af=>?_);go_simp;refine Af _ _ ⟨fun _=>HSd5.out,?_⟩;clear Af Kc;try simp only [Act.put,aQ,aR,aO]
   have cc5:w5.cell? ⟨c,256,none⟩=some v:=by rw [cell_of_row w5 c 256 _ _ _ EB.out,Array.getElem?_push,if_pos Ak.out.symm]
   have cf5:=frozen_of_row w5 c 256 _ _ EB.out;refine ax 29 29 (by kernel_rfl) ?_;refine wpOp_step rfl (fun Kc Af=>?_);go_simp;refine Af _ _ ⟨fun h=>absurd rfl h,?_⟩;clear Af Kc;try simp only [Act.put,aQ,aR,aO]
   refine bZ (by kernel_rfl) ?_ _;have NO:Hid ((w5.setCell ⟨c,256,none⟩ (.slice (some ⟨g',0,none⟩) (m+1) AO)).heap[c]?=some (.cells (A.push (.slice (some ⟨g',0,none⟩) (m+1) AO)) 125 (0,0))):=by
    show _=_;rw [heap_setCell_same w5 c 256 _ _ _ EB.out];congr 2;apply Array.ext'
    have hl:A.toList.length=256:=by simpa using Ak.out
    simp only [Array.toList_setIfInBounds,Array.toList_push];rw [List.set_append_right _ _ (by omega),hl]
    rfl
   have JN:Hid ((w5.setCell ⟨c,256,none⟩ (.slice (some ⟨g',0,none⟩) (m+1) AO)).heap[G]?=some (.cells (ks.map (Value.int .u32)).toArray 128 (0,0))):=by
    show _=_;rw [heap_setCell_other _ _ _ _ (by have:=HG.out;simp;omega)];exact Ft.out
   have FY:Hid ((w5.setCell ⟨c,256,none⟩ (.slice (some ⟨g',0,none⟩) (m+1) AO)).ownsRow w2.heap.size 130 4 (.slice (some ⟨g',0,none⟩) (m+1) AO) (m+1) (jO (ks.take (4*(m+1))))) :=
    HO5.out.kept (row:=some c) ⟨rfl,rfl,rfl,by simp,fun j _ hj=>heap_setCell_other _ _ _ _ (by simp;intro e;exact hj (by rw [e]))⟩ (Or.inr (by have h1:=HO5.out.lt g' rfl;have:=HG.out;simp [Value.ownBlock];omega))
   have Br:Hid (qw w (w5.setCell ⟨c,256,none⟩ (.slice (some ⟨g',0,none⟩) (m+1) AO))):=Ay.out.setCell D7.out _;have Kr:Hid (w2.heap.size≤(w5.setCell ⟨c,256,none⟩ (.slice (some ⟨g',0,none⟩) (m+1) AO)).heap.size):=by show _≤_;simpa using DE.out
   clear EB Ft HO5 Ay DE cc5 cf5 Ac HCd HWd HOd HBd HSd HS2d MX;generalize w5.setCell ⟨c,256,none⟩ (.slice (some ⟨g',0,none⟩) (m+1) AO)=w6 at *;go_wp2;exact ⟨⟨m+1,_,by omega,by go_num,NO,FY,JN,Br,Kr⟩,by simp [intOf];omega⟩
  ·have Bc:11≤m:=by omega
   have Uj:(44:Int)≤4*(m:Int):=by omega
   have FIN:Hid (∃ kb AO,v = .slice (some ⟨kb,0,none⟩) m AO):=by
    rcases HO.out.2 with ⟨_,h0⟩ | ⟨g',AO,cur,rfl,_⟩
    ·omega
    ·exact ⟨g',AO,rfl⟩
   have Lg:Hid (wr.ownsRow w2.heap.size 130 4 v m (jO ks)):=by
    have h:=HO.out;rw [List.take_of_length_le (by rw [FP.out];omega)] at h;exact h
   have GR:Hid (ks.length=4*m):=by show _=_;rw [FP.out];omega
   clear HO Ae Bc;go_wp2;go_ret2;obtain ⟨kb,AO,rfl⟩:=FIN.out;refine ⟨c,rfl,D7.out,?_,HB.out⟩;rw [Hks.out];exact ⟨kb,m,AO,w2.heap.size,by rw [← An.out];exact HC.out,GR.out,Lg.out⟩
end
section
open Go.RowKit
namespace ag
structure W where
 a:Int
 b:Int
 c:Int
 d:Int
def lay (s:W) (ks:List Int) (k:Nat):W:=⟨bits .xor .u32 s.a (ks.getD (4*k) 0),bits .xor .u32 s.b (ks.getD (4*k+1) 0),bits .xor .u32 s.c (ks.getD (4*k+2) 0),bits .xor .u32 s.d (ks.getD (4*k+3) 0)⟩
def ff (T:List Int) (s:W):W:=⟨iY T s.a s.b s.c s.d,iY T s.b s.c s.d s.a,iY T s.c s.d s.a s.b,iY T s.d s.a s.b s.c⟩
def nK (s:W):W:=⟨iw s.a,iw s.b,iw s.c,iw s.d⟩
def cL (l:List Int):W:=⟨wk l 0,wk l 4,wk l 8,wk l 12⟩
def rounds (T ks:List Int) (s:W):Nat→W
 | 0=>lay s ks 0
 | k+1=>lay (nK (ff T (rounds T ks s k))) ks (k+1)
def last (T ks:List Int) (N:Nat) (s:W):W:=lay (ff T (rounds T ks s N)) ks (N+1)
def nv (T ks:List Int) (N:Nat) (l:List Int):List Int:=uu (last T ks N (cL l)).a (last T ks N (cL l)).b (last T ks N (cL l)).c (last T ks N (cL l)).d
theorem kS (T ks:List Int) (s:W):rounds T ks s 0=lay s ks 0:=rfl
theorem rounds_succ (T ks:List Int) (s:W) (k:Nat):rounds T ks s (k+1)=lay (nK (ff T (rounds T ks s k))) ks (k+1):=rfl
theorem jC (T ks:List Int) (N:Nat) (l:List Int):(nv T ks N l).length=16:=kA _ _
attribute [irreducible] rounds
end ag
def dZ (s:ag.W):Array Value:=#[.int .u32 s.a,.int .u32 s.b,.int .u32 s.c,.int .u32 s.d]
theorem iM (s:ag.W):(dZ s).all (·.oneCell')=true:=ahH _ _ _ _ _
section
variable {P:Program} {md:Region.Mode} {ops:Array Oper} {Q:Exit→Act→World→Prop} {S:World→Prop}
theorem sG (k i j:Nat) {fuel:Nat} {listed:Array Bool} {a:Act} {w:World} (hr:Region.ready md ops listed = [i,j])
  (h:wpOp P ops Q i (fun a' w'=>(i ≠ k→S w')∧wpAnyL P md ops Q S k fuel (listed.setIfInBounds i true) a' w') a w)
  (h2:wpOp P ops Q j (fun a' w'=>(j ≠ k→S w')∧wpAnyL P md ops Q S k fuel (listed.setIfInBounds j true) a' w') a w):wpAnyL P md ops Q S k (fuel+1) listed a w :=
 ⟨fun h0=>absurd (hr ▸ h0) (by simp),fun m hm=>by
  rw [hr] at hm;simp at hm;rcases hm with rfl | rfl<;>assumption⟩
theorem dw {a:Act} {w:World} {D:Option Tmp} {T:TypeId} {ps:String} {af:Array Edge} {gd:Option (Nat × Bool)} (ty:TypeId) (x:Operand) (g:Nat) (t:TypeId) (cs:Array Value) (fr:Nat × Nat) (d:TypeDesc) (hx:a.eval x = qp g)
  (hg:w.heap[g]?=some (.cells cs t fr)) (hu:P.underlying ty=some d) (hd:d.isRow=true) (hi:(P.info? ty).map (·.size)=some cs.size) :
  (execOp a.eval { dst:=D,op:=.load ty x,type:=T,pos:=ps,after:=af,guard:=gd }).run P w = .ok (.value (.agg cs)) w:=by
 have h:=run_loadAt_mid (P:=P) w g 0 ty cs.toList d (fun j v hv=>by rw [cell_of_row w g (0+j) cs t fr hg];simpa using hv) hu hd (by simpa using hi);unfold execOp;simp only [hx,h,Sem.run_bind,Sem.run_pure,Result.andThen_ok,Array.toArray_toList]
end
end
end Go.Proofs.YthgjfjmampmiiaaGreatDoor

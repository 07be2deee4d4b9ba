import Derived.Test.YtnnalemboeccbaaGreatDoorA1
import Derived.Test.YtnnalemboeccbaaGreatDoorB2
import Derived.OrdersHeld
import Derived.StillTail
namespace Go.Proofs.YtnnalemboeccbaaGreatDoor
section
open Go.RowKit
section
variable {P:Program} {md:Region.Mode} {ops:Array Oper} {Q:Exit→Act→World→Prop} {S:World→Prop}
def wpAnyL (P:Program) (md:Region.Mode) (ops:Array Oper) (Q:Exit→Act→World→Prop) (S:World→Prop) (k:Nat):Nat→Array Bool→Act→World→Prop
 | 0,listed,a,w=>Region.ready md ops listed = []∧Q .normal a w
 | fuel+1,listed,a,w =>
  (Region.ready md ops listed = []→Q .normal a w) ∧
  ∀ i∈Region.ready md ops listed,wpOp P ops Q i (fun a' w'=>(i ≠ k→S w')∧wpAnyL P md ops Q S k fuel (listed.setIfInBounds i true) a' w') a w
theorem wpAny_of_L {k:Nat}:∀ (fuel:Nat) (listed:Array Bool) (a:Act) (w:World),wpAnyL P md ops Q S k fuel listed a w→wpAny P md ops Q fuel listed a w
 | 0,_,_,_,h=>h
 | fuel+1,_,_,_,h=>⟨h.1,fun i hi=>wpOp_mono (fun a' w' h'=>wpAny_of_L fuel _ a' w' h'.2) (h.2 i hi)⟩
theorem wpAnyL_first {k i:Nat} {oi:Oper} {v:Value} (hi:ops[i]?=some oi) (hsel:∀ (j:Nat) (o:Oper) cs b,ops[j]?=some o→o.op ≠ .select cs b)
  (hk:Region.waitsFor md ops k i=true) (hQ:∀ c a w,Q (.panic c) (a.put oi.dst v) w→Q (.panic c) a w) :
  ∀ (fuel:Nat) (listed:Array Bool) (a:Act) (w:World),
   (∀ j oj,ops[j]?=some oj→j ≠ i→listed.getD j true=false→(∀ e∈oj.after,Region.binds md e=true→e.on ≠ i)→oi.apart ops oj=true) →
   i∈Region.ready md ops listed→YieldsIf P ops S oi v a→S w →
   wpAnyL P md ops Q S k fuel (listed.setIfInBounds i true) (a.put oi.dst v) w→wpAnyL P md ops Q S k (fuel+1) listed a w:=by
 intro fuel
 induction fuel with
 | zero =>
  intro listed a w _ hr hy hS H
  refine ⟨fun h=>(by rw [h] at hr;cases hr),fun j hj=>?_⟩
  by_cases hji:j=i
  ·subst hji;exact hy.wpOp hi hS ⟨fun _=>hS,H⟩
  ·have:=ready_mono hj hji
   rw [H.1] at this
   cases this
 | succ fuel ih =>
  intro listed a w hfree hr hy hS H
  refine ⟨fun h=>(by rw [h] at hr;cases hr),fun j hj=>?_⟩
  by_cases hji:j=i
  ·subst hji;exact hy.wpOp hi hS ⟨fun _=>hS,H⟩
  ·have h1:=H.2 j (ready_mono hj hji)
   obtain ⟨hjun,oj,hoj,hall⟩:=mem_ready.1 hj
   have hnot:∀ e∈oj.after,Region.binds md e=true→e.on ≠ i:=fun e he hb heq=>by
    have h1:=hall e he hb
    have h0:=(mem_ready.1 hr).1
    rw [heq] at h1
    rcases Nat.lt_or_ge i listed.size with h' | h'
    ·simp [h'] at h0 h1;rw [h0] at h1;cases h1
    ·simp [Array.getElem?_eq_none h'] at h1
   have hjk:j ≠ k:=fun e=>by
    subst e
    obtain ⟨oj',ho',e,he,hb,hon⟩:=Region.waitsFor_spec hk
    rw [hoj] at ho'
    cases ho'
    exact hnot e he hb hon
   have h2:=wpOp_putIf hoj (hfree j oj hoj hji hjun hnot) (fun cs b=>hsel i oi cs b hi) (fun cs b=>hsel j oj cs b hoj) hQ hy h1
   have hfree':∀ m om,ops[m]?=some om→m ≠ i→(listed.setIfInBounds j true).getD m true=false →
     (∀ e∈om.after,Region.binds md e=true→e.on ≠ i)→oi.apart ops om=true:=fun m om hm hmi hun hno=>by
    refine hfree m om hm hmi ?_ hno
    by_cases hjm:j=m
    ·subst hjm;exact hjun
    ·rw [getD_set_ne true hjm] at hun;exact hun
   refine wpOp_mono (fun a' w' h3=>⟨fun _=>h3.2.1 hjk,ih (listed.setIfInBounds j true) a' w' hfree' (ready_mono hr (Ne.symm hji)) h3.1 (h3.2.1 hjk) ?_⟩) h2
   rw [Array.setIfInBounds_comm _ _ hji]
   exact h3.2.2
theorem anyL_take (k i D:Nat) (v:Value) {fuel:Nat} {listed:Array Bool} {a:Act} {w:World} {op:Op} {T:TypeId} {ps:String} {af:Array Edge} (hS:S w) (ho:ops[i]?=some { dst:=some D,op:=op,type:=T,pos:=ps,after:=af,guard:=none })
  (hs:Region.noSelect ops=true) (hf:Region.free md ops listed i=true) (hr:(Region.ready md ops listed).contains i=true) (hk:Region.waitsFor md ops k i=true)
  (hQ:∀ c a w,Q (.panic c) (a.put (some D) v) w→Q (.panic c) a w) (hy:∀ w,S w→(execOp a.eval { dst:=some D,op:=op,type:=T,pos:=ps,after:=af,guard:=none }).run P w = .ok (.value v) w)
  (h:wpAnyL P md ops Q S k fuel (listed.setIfInBounds i true) (a.put (some D) v) w):wpAnyL P md ops Q S k (fuel+1) listed a w :=
 wpAnyL_first ho (Region.noSelect_spec hs) hk hQ fuel listed a w (Region.free_spec ho hf) (by simpa using hr) (Or.inl ⟨rfl,hy⟩) hS h
theorem aL (k i D:Nat) (v:Value) {fuel:Nat} {listed:Array Bool} {a:Act} {w:World} {op:Op} {T:TypeId} {ps:String} {af:Array Edge} (hS:S w) (ho:ops[i]?=some { dst:=some D,op:=op,type:=T,pos:=ps,after:=af,guard:=none })
  (hy:∀ w,S w→(execOp a.eval { dst:=some D,op:=op,type:=T,pos:=ps,after:=af,guard:=none }).run P w = .ok (.value v) w)
  (h:wpAnyL P md ops Q S k fuel (listed.setIfInBounds i true) (a.put (some D) v) w)
  (hb:(Region.noSelect ops&&(Region.free md ops listed i&&((Region.ready md ops listed).contains i&&Region.waitsFor md ops k i)))=true:=by kernel_rfl)
  (hQ:∀ c a w,Q (.panic c) (a.put (some D) v) w→Q (.panic c) a w:=by exact fun _ _ _ h=>h):wpAnyL P md ops Q S k (fuel+1) listed a w:=by
 rw [Bool.and_eq_true,Bool.and_eq_true,Bool.and_eq_true] at hb
 exact anyL_take k i D v hS ho hb.1 hb.2.1 hb.2.2.1 hb.2.2.2 hQ hy h
theorem anyL_one (k i:Nat) {fuel:Nat} {listed:Array Bool} {a:Act} {w:World} (hr:Region.ready md ops listed = [i])
  (h:wpOp P ops Q i (fun a' w'=>(i ≠ k→S w')∧wpAnyL P md ops Q S k fuel (listed.setIfInBounds i true) a' w') a w):wpAnyL P md ops Q S k (fuel+1) listed a w :=
 ⟨fun h0=>absurd (hr ▸ h0) (by simp),fun j hj=>by
  rw [hr] at hj
  simp at hj
  subst hj
  exact h⟩
theorem anyL_done {k:Nat} {listed:Array Bool} {a:Act} {w:World} (hr:Region.ready md ops listed = []) (h:Q .normal a w):∀ fuel,wpAnyL P md ops Q S k fuel listed a w
 | 0=>⟨hr,h⟩
 | _+1=>⟨fun _=>h,by rw [hr];simp⟩
end
end
section
open Go.RowKit
section
variable {P:Program} {ops:Array Oper} {rest:List Oper} {a:Act} {w:World} {Q:Exit→Act→World→Prop} {D:Option Tmp} {T:TypeId} {ps:String} {af:Array Edge}
theorem row_build (t:TypeId) (x:Operand) (A R:Array Value) (hx:a.eval x = .agg A) (hr:P.built t [(0,.agg A)]=some R) (h:wpList P ops Q rest (a.put D (.agg R)) w) :
  wpList P ops Q ({ dst:=D,op:=.build t #[(0,x)],type:=T,pos:=ps,after:=af,guard:=none } :: rest) a w :=
 wpList_plain rfl fun K hK=>by
  have hrun:=run_build (P:=P) w t #[(0,.agg A)] R hr
  unfold Oper.wp execOp
  simp only [hx,List.map_toArray,List.map_cons,List.map_nil,hrun,Sem.run_bind,Sem.run_pure,Result.andThen_ok]
  exact hK _ _ h
end
def W32s (l:List Int):List Value:=l.map (Value.int .u32)
theorem W32s_nil (l:List Int):W32s (l.take (4*0)) = []:=by simp [W32s]
theorem W32s_four (l:List Int) (a b c d:Int):W32s l++[.int .u32 a,.int .u32 b,.int .u32 c,.int .u32 d]=W32s (l++[a]++[b]++[c]++[d]):=by simp [W32s]
theorem W32s_eq (l:List Int):W32s l=l.map (Value.int .u32):=rfl
attribute [irreducible] W32s
def Ciph (w:World) (g:Nat) (T ks:List Int):Prop :=
 ∃ (kb n cap base:Nat),w.heap[g]?=some (.cells ((T.map (Value.int .u8)).toArray.push (.slice (some ⟨kb,0,none⟩) n cap)) 149 (0,0))∧ks.length=4*n ∧
  w.ownsRow base 154 4 (.slice (some ⟨kb,0,none⟩) n cap) n (W32s ks)
theorem tbl_of_cells {w:World} {g:Nat} {A:Array Value} {v:Value} (hA:A=(Aes.TB.map (Value.int .u8)).toArray) (h:w.heap[g]?=some (.cells (A.push v) 149 (0,0))):Tbl w g Aes.TB:=fun j hj=>by
 refine ⟨?_,?_⟩
 ·rw [cell_of_row w g j _ _ _ h,hA,Array.getElem?_push]
  have hs:¬ j=(Aes.TB.map (Value.int .u8)).toArray.size:=by simp [Aes.TB_len];omega
  rw [if_neg hs]
  have hl:j<Aes.TB.length:=by rw [Aes.TB_len];exact hj
  simp [List.getD_eq_getElem?_getD,hl]
 ·exact Sha.byt_getD Aes.TB_byt j
def NewSayB (K:List Int) (w:World) (e:Ending) (w':World):Prop :=
 ∃ g,e = .returned (.tuple #[.pointer (some ⟨g,0,none⟩),.int .i64 0])∧w.heap.size≤g∧Ciph w' g Aes.TB (Aes.kws Aes.TB K)∧Below w.heap.size w w'
theorem Tryz.info_state:(Tryz.prog.info? 154).map (fun i=>(i.zero,i.size,i.bytes))=some (some (.agg #[.int .u32 0,.int .u32 0,.int .u32 0,.int .u32 0]),4,16):=by kernel_rfl
theorem op_append_state {ops:Array Oper} {a:Act} {K:Act→World→Prop} {Q:Exit→Act→World→Prop} {D:Tmp} {T:TypeId} {ps:String} {af:Array Edge} (w0:World) (y0 y1 y2 y3:Int) (l l':List Value) (i:Nat)
  (s x:Operand) (base:Nat) (v:Value) (n:Nat) (hll:l++[.int .u32 y0,.int .u32 y1,.int .u32 y2,.int .u32 y3]=l') (ho:ops[i]?=some { dst:=some D,op:=Op.call { callee:=Callee.builtin Builtin.append,args:=#[s,x],argTypes:=#[147,147] },type:=T,pos:=ps,after:=af,guard:=none })
  (hs:a.eval s=v) (hx:a.eval x = .slice (some ⟨w0.heap.size,0,none⟩) 1 1) (hown:w0.ownsRow base 154 4 v n l) (hn:n≤1000) (hb:base≤w0.heap.size)
  (hK:∀ g' cap' w',w'.ownsRow base 154 4 (.slice (some ⟨g',0,none⟩) (n+1) cap') (n+1) l'→(w0.alloc (.cells #[.int .u32 y0,.int .u32 y1,.int .u32 y2,.int .u32 y3] 154)).grownBy w' v.ownBlock→K (a.put (some D) (.slice (some ⟨g',0,none⟩) (n+1) cap')) w') :
  wpOp Tryz.prog ops Q i K a (w0.alloc (.cells #[.int .u32 y0,.int .u32 y1,.int .u32 y2,.int .u32 y3] 154)):=by
 obtain ⟨i0,hi,hz0,hz1,hz2⟩:=info_parts Tryz.info_state
 refine op_plain i _ ho rfl ?_
 refine wp_append_own _ s x 147 rfl base 154 i0 (.agg #[.int .u32 0,.int .u32 0,.int .u32 0,.int .u32 0]) 4 16 Tryz.underlying147 hi hz0 hz1 hz2 rfl (by decide) v n l hs (hown.alloc _) ⟨w0.heap.size,0,none⟩ 1 1 [.int .u32 y0,.int .u32 y1,.int .u32 y2,.int .u32 y3] hx rfl ?_ ?_ (by unfold maxLen;omega) (by omega) (by simp;omega) ?_
 ·intro j u hj
  rw [Addr.add_mid,Nat.zero_add,cell_of_row (w0.alloc (.cells #[.int .u32 y0,.int .u32 y1,.int .u32 y2,.int .u32 y3] 154)) w0.heap.size j _ _ _ (heap_alloc_new w0 _)]
  simpa using hj
 ·intro u hu
  simp at hu
  rcases hu with rfl | rfl | rfl | rfl<;>rfl
 ·intro v' w' h1 h2 _
  subst hll
  rcases h1.2 with ⟨_,h0⟩ | ⟨g',cap',cur,rfl,_⟩
  ·omega
  ·exact hK g' cap' w' h1 h2
set_option maxHeartbeats 4000000 in
set_option maxRecDepth 100000 in
theorem new_4 (K:List Int) (hK:K.length=16) (p:Option Addr) (cap:Nat) (hcap:16≤cap) (hcm:cap≤9223372036854775807) (w:World) (hp:BAt w p K) :
  Calls Tryz.prog 45 #[.slice p 16 cap] w (NewSayB K w):=by
 have Hp:=Lib.hid hp;clear hp
 have Hcap:=Lib.hid (And.intro hcap hcm);clear hcap hcm
 have HL:Hid ((Aes.kws Aes.TB K).length=44):=by
  show _=_;rw [Aes.kws,show K.length / 4=4 by omega,Aes.kx_len]
 have HK:=Lib.hid hK;clear hK
 obtain ⟨A,HA1,HA2⟩:∃ A:Array Value,Hid (A=(Aes.TB.map (Value.int .u8)).toArray)∧Hid (A.size=256):=⟨_,rfl,by show _=_;simp [Aes.TB_len]⟩
 have HBD:=Lib.hid (build_cipher A HA2.out)
 go_enter Tryz.func45,Tryz.ntmps45
 go_upto_region 7 with (first
  | (go_at_call 92;refine (substitutes_any _).mono ?_;rintro e w1 ⟨rfl,hb1⟩;rw [← HA1.out])
  | ((with_reducible refine row_build _ _ A _ ?_ HBD.out ?_);(exact rfl)))
 have HC0:Hid ((w1.alloc (.cells (A.push (.slice none 0 0)) 149)).heap[w1.heap.size]?=some (.cells (A.push (.slice none 0 0)) 149 (0,0))):=heap_alloc_new _ _
 have HB0:Hid (Below w.heap.size w (w1.alloc (.cells (A.push (.slice none 0 0)) 149))):=hb1.alloc hb1.size _
 have HCS:Hid (w.heap.size≤w1.heap.size):=hb1.size
 have HCS2:Hid (w1.heap.size<(w1.alloc (.cells (A.push (.slice none 0 0)) 149)).heap.size):=lt_of_block HC0.out
 clear hb1
 generalize w1.alloc (.cells (A.push (.slice none 0 0)) 149)=wa at *
 generalize w1.heap.size=c at *
 have HTB:Hid (Tbl wa c Aes.TB):=tbl_of_cells HA1.out HC0.out
 go_upto_region 8 with (go_at_call 93;refine (words_4 Aes.TB K HK.out c p cap Hcap.out.1 Hcap.out.2 _ HTB.out HCS2.out (Hp.out.old HB0.out)).mono ?_;rintro e w2 ⟨G,rfl,hG,HW,hb2⟩)
 have HC2:Hid (w2.heap[c]?=some (.cells (A.push (.slice none 0 0)) 149 (0,0))):=(hb2.block _ HCS2.out).trans HC0.out
 have HB2:Hid (Below w.heap.size w w2):=HB0.out.trans (hb2.mono HB0.out.size)
 have HG:Hid (G<w2.heap.size∧c<w2.heap.size∧c<G):=⟨lt_of_block HW.out,lt_of_block HC2.out,by have:=HCS2.out;omega⟩
 clear HTB HC0 HB0 HCS2 hb2 hG HBD HK Hp Hcap
 have HKS:Hid (∀ j,j<44→(Aes.kws Aes.TB K).take (j+1)=(Aes.kws Aes.TB K).take j++[(Aes.kws Aes.TB K).getD j 0]):=fun j hj=>(take_snoc _ j (by rw [HL.out];exact hj)).symm
 generalize hks:Aes.kws Aes.TB K=ks at *
 have Hks:=Lib.hid hks;clear hks
 have HLL:Hid (ks.length=44):=HL
 simp only [HLL.out]
 go_wp2
 go_loopw [6] (fun v6 wr=>∃ (m:Nat) (v:Value),m≤11∧v6 = .int .i64 (4*(m:Int))∧Hid (wr.heap[c]?=some (.cells (A.push v) 149 (0,0)))∧Hid (wr.ownsRow w2.heap.size 154 4 v m (W32s (ks.take (4*m))))∧Hid (wr.heap[G]?=some (.cells (ks.map (Value.int .u32)).toArray 152 (0,0)))∧Hid (Below w.heap.size w wr)∧Hid (w2.heap.size≤wr.heap.size)) (fun v6 _=>44-(intOf v6).toNat)
 case atStart=>exact ⟨0,_,by omega,rfl,HC2.out,(by show World.ownsRow _ _ _ _ _ _ _;rw [W32s_nil];exact World.ownsRow_nil _ _ _ _),HW.out,HB2.out,Nat.le_refl _⟩
 case round =>
  clear HC2 HW HB2
  obtain ⟨m,v,hm,rfl,HC,HO,HW,HB,HS2⟩:=hrel
  by_cases hlt:m<11
  ·have c0:=u32_cellB HW.out (4*m) (by rw [HLL.out];omega)
   have c1:=u32_cellB HW.out (4*m+1) (by rw [HLL.out];omega)
   have c2:=u32_cellB HW.out (4*m+2) (by rw [HLL.out];omega)
   have c3:=u32_cellB HW.out (4*m+3) (by rw [HLL.out];omega)
   obtain ⟨y0,hy0⟩:∃ y,y=ks.getD (4*m) 0:=⟨_,rfl⟩
   obtain ⟨y1,hy1⟩:∃ y,y=ks.getD (4*m+1) 0:=⟨_,rfl⟩
   obtain ⟨y2,hy2⟩:∃ y,y=ks.getD (4*m+2) 0:=⟨_,rfl⟩
   obtain ⟨y3,hy3⟩:∃ y,y=ks.getD (4*m+3) 0:=⟨_,rfl⟩
   rw [← hy0] at c0;rw [← hy1] at c1;rw [← hy2] at c2;rw [← hy3] at c3
   have HNX:Hid (W32s (ks.take (4*m))++[.int .u32 y0,.int .u32 y1,.int .u32 y2,.int .u32 y3]=W32s (ks.take (4*(m+1)))):=by
    show _=_
    rw [show 4*(m+1)=4*m+1+1+1+1 by omega,HKS.out _ (by omega),HKS.out _ (by omega),HKS.out _ (by omega),HKS.out _ (by omega),← hy0,← hy1,← hy2,← hy3,W32s_four]
   clear hy0 hy1 hy2 hy3
   have hs:Hid (c<wr.heap.size∧G<wr.heap.size):=by have:=HG.out;have:=HS2.out;exact ⟨by omega,by omega⟩
   have hcv:wr.cell? ⟨c,256,none⟩=some v:=by rw [cell_of_row wr c 256 _ _ _ HC.out,Array.getElem?_push,if_pos HA2.out.symm]
   have HSW:Hid (∀ x:World,x.heap[G]?=some (.cells (ks.map (Value.int .u32)).toArray 152 (0,0))→x.cell? ⟨G,4*m,none⟩=some (.int .u32 y0)∧x.cell? ⟨G,4*m+1,none⟩=some (.int .u32 y1)∧x.cell? ⟨G,4*m+2,none⟩=some (.int .u32 y2)∧x.cell? ⟨G,4*m+3,none⟩=some (.int .u32 y3)):=fun x hx=>by
    have e:=World.cell?_of_block (w:=wr) (w':=x) (a:=⟨G,4*m,none⟩) (by show x.heap[G]?=wr.heap[G]?;rw [hx,HW.out])
    have e1:=World.cell?_of_block (w:=wr) (w':=x) (a:=⟨G,4*m+1,none⟩) (by show x.heap[G]?=wr.heap[G]?;rw [hx,HW.out])
    have e2:=World.cell?_of_block (w:=wr) (w':=x) (a:=⟨G,4*m+2,none⟩) (by show x.heap[G]?=wr.heap[G]?;rw [hx,HW.out])
    have e3:=World.cell?_of_block (w:=wr) (w':=x) (a:=⟨G,4*m+3,none⟩) (by show x.heap[G]?=wr.heap[G]?;rw [hx,HW.out])
    exact ⟨e.trans c0,e1.trans c1,e2.trans c2,e3.trans c3⟩
   have HNE:Hid (some c ≠ v.ownBlock∧some G ≠ v.ownBlock):=by
    have hb:=HO.out.lt
    have hg:=HG.out
    exact ⟨fun e=>by have:=(hb c e.symm).1;omega,fun e=>by have:=(hb G e.symm).1;omega⟩
   have hw0:IntKind.i64.wrap (4*(m:Int))=4*(m:Int):=IntWalk.i64_in _ ⟨by omega,by omega⟩
   have hw1:IntKind.i64.wrap (4*(m:Int)+1)=4*(m:Int)+1:=IntWalk.i64_in _ ⟨by omega,by omega⟩
   have hw2:IntKind.i64.wrap (4*(m:Int)+2)=4*(m:Int)+2:=IntWalk.i64_in _ ⟨by omega,by omega⟩
   have hw3:IntKind.i64.wrap (4*(m:Int)+3)=4*(m:Int)+3:=IntWalk.i64_in _ ⟨by omega,by omega⟩
   have ht0:(4*(m:Int)).toNat=4*m:=by omega
   have ht1:(4*(m:Int)+1).toNat=4*m+1:=by omega
   have ht2:(4*(m:Int)+2).toNat=4*m+2:=by omega
   have ht3:(4*(m:Int)+3).toNat=4*m+3:=by omega
   have hp0:0≤4*(m:Int):=by omega
   have hp1:0≤4*(m:Int)+1:=by omega
   have hp2:0≤4*(m:Int)+2:=by omega
   have hp3:0≤4*(m:Int)+3:=by omega
   have hq0:4*(m:Int)<44:=by omega
   have hq1:4*(m:Int)+1<44:=by omega
   have hq2:4*(m:Int)+2<44:=by omega
   have hq3:4*(m:Int)+3<44:=by omega
   clear c0 c1 c2 c3
   go_upto_region 11 with fail
   refine wp_region_any (by kernel_rfl) ?_
   change wpAny _ _ _ _ _ _ _ (World.drew _)
   have HCd:Hid (wr.drew.heap[c]?=some (.cells (A.push v) 149 (0,0))):=HC.out
   have HWd:Hid (wr.drew.heap[G]?=some (.cells (ks.map (Value.int .u32)).toArray 152 (0,0))):=HW.out
   have HOd:Hid (wr.drew.ownsRow w2.heap.size 154 4 v m (W32s (ks.take (4*m)))):=HO.out.drew
   have HBd:Hid (Below w.heap.size w wr.drew):=HB.out.drew
   have HSd:Hid (wr.drew.cell? ⟨c,256,none⟩=some v∧wr.drew.cell? ⟨G,4*m,none⟩=some (.int .u32 y0)∧wr.drew.cell? ⟨G,4*m+1,none⟩=some (.int .u32 y1)∧wr.drew.cell? ⟨G,4*m+2,none⟩=some (.int .u32 y2)∧wr.drew.cell? ⟨G,4*m+3,none⟩=some (.int .u32 y3)):=⟨hcv,HSW.out _ HW.out⟩
   have HS2d:Hid (w2.heap.size≤wr.drew.heap.size):=HS2.out
   clear HC HW HO HB HS2 hcv hs
   generalize wr.drew=wd at *
   refine wpAny_of_L (S:=fun x:World=>x.cell? ⟨c,256,none⟩=some v∧x.cell? ⟨G,4*m,none⟩=some (.int .u32 y0)∧x.cell? ⟨G,4*m+1,none⟩=some (.int .u32 y1)∧x.cell? ⟨G,4*m+2,none⟩=some (.int .u32 y2)∧x.cell? ⟨G,4*m+3,none⟩=some (.int .u32 y3)) (k:=29) _ _ _ _ ?_
   refine aL 29 0 25 (.pointer (some ⟨c,0,none⟩)) HSd.out rfl (by intro x hx;obtain ⟨s0,s1,s2,s3,s4⟩:=hx;go_simp;try (intro h;omega)) ?_
   try simp only [Act.put,zq1,zq2,zq3]
   refine aL 29 1 26 (.pointer (some ⟨c,0,none⟩)) HSd.out rfl (by intro x hx;obtain ⟨s0,s1,s2,s3,s4⟩:=hx;go_simp;try (intro h;omega)) ?_
   try simp only [Act.put,zq1,zq2,zq3]
   refine aL 29 2 27 (.pointer (some ⟨c,0,none⟩)) HSd.out rfl (by intro x hx;obtain ⟨s0,s1,s2,s3,s4⟩:=hx;go_simp;try (intro h;omega)) ?_
   try simp only [Act.put,zq1,zq2,zq3]
   refine aL 29 3 28 (.pointer (some ⟨c,256,none⟩)) HSd.out rfl (by intro x hx;obtain ⟨s0,s1,s2,s3,s4⟩:=hx;go_simp;try (intro h;omega)) ?_
   try simp only [Act.put,zq1,zq2,zq3]
   refine aL 29 4 29 (v) HSd.out rfl (by intro x hx;obtain ⟨s0,s1,s2,s3,s4⟩:=hx;go_simp;try (intro h;omega)) ?_
   try simp only [Act.put,zq1,zq2,zq3]
   refine aL 29 5 30 (.slice (some ⟨G,0,none⟩) 44 44) HSd.out rfl (by intro x hx;obtain ⟨s0,s1,s2,s3,s4⟩:=hx;go_simp;try (intro h;omega)) ?_
   try simp only [Act.put,zq1,zq2,zq3]
   refine aL 29 6 31 (.int .i64 (4*(m:Int))) HSd.out rfl (by intro x hx;obtain ⟨s0,s1,s2,s3,s4⟩:=hx;go_simp;try (intro h;omega)) ?_
   try simp only [Act.put,zq1,zq2,zq3]
   refine aL 29 7 32 (.pointer (some ⟨G,4*m,none⟩)) HSd.out rfl (by intro x hx;obtain ⟨s0,s1,s2,s3,s4⟩:=hx;go_simp;try (intro h;omega)) ?_
   try simp only [Act.put,zq1,zq2,zq3]
   refine aL 29 8 33 (.int .u32 y0) HSd.out rfl (by intro x hx;obtain ⟨s0,s1,s2,s3,s4⟩:=hx;go_simp;try (intro h;omega)) ?_
   try simp only [Act.put,zq1,zq2,zq3]
   refine aL 29 9 34 (.slice (some ⟨G,0,none⟩) 44 44) HSd.out rfl (by intro x hx;obtain ⟨s0,s1,s2,s3,s4⟩:=hx;go_simp;try (intro h;omega)) ?_
   try simp only [Act.put,zq1,zq2,zq3]
   refine aL 29 10 35 (.int .i64 (4*(m:Int))) HSd.out rfl (by intro x hx;obtain ⟨s0,s1,s2,s3,s4⟩:=hx;go_simp;try (intro h;omega)) ?_
   try simp only [Act.put,zq1,zq2,zq3]
   refine aL 29 11 36 (.int .i64 (4*(m:Int)+1)) HSd.out rfl (by intro x hx;obtain ⟨s0,s1,s2,s3,s4⟩:=hx;go_simp;try (intro h;omega)) ?_
   try simp only [Act.put,zq1,zq2,zq3]
   refine aL 29 12 37 (.pointer (some ⟨G,4*m+1,none⟩)) HSd.out rfl (by intro x hx;obtain ⟨s0,s1,s2,s3,s4⟩:=hx;go_simp;try (intro h;omega)) ?_
   try simp only [Act.put,zq1,zq2,zq3]
   refine aL 29 13 38 (.int .u32 y1) HSd.out rfl (by intro x hx;obtain ⟨s0,s1,s2,s3,s4⟩:=hx;go_simp;try (intro h;omega)) ?_
   try simp only [Act.put,zq1,zq2,zq3]
   refine aL 29 14 39 (.slice (some ⟨G,0,none⟩) 44 44) HSd.out rfl (by intro x hx;obtain ⟨s0,s1,s2,s3,s4⟩:=hx;go_simp;try (intro h;omega)) ?_
   try simp only [Act.put,zq1,zq2,zq3]
   refine aL 29 15 40 (.int .i64 (4*(m:Int))) HSd.out rfl (by intro x hx;obtain ⟨s0,s1,s2,s3,s4⟩:=hx;go_simp;try (intro h;omega)) ?_
   try simp only [Act.put,zq1,zq2,zq3]
   refine aL 29 16 41 (.int .i64 (4*(m:Int)+2)) HSd.out rfl (by intro x hx;obtain ⟨s0,s1,s2,s3,s4⟩:=hx;go_simp;try (intro h;omega)) ?_
   try simp only [Act.put,zq1,zq2,zq3]
   refine aL 29 17 42 (.pointer (some ⟨G,4*m+2,none⟩)) HSd.out rfl (by intro x hx;obtain ⟨s0,s1,s2,s3,s4⟩:=hx;go_simp;try (intro h;omega)) ?_
   try simp only [Act.put,zq1,zq2,zq3]
   refine aL 29 18 43 (.int .u32 y2) HSd.out rfl (by intro x hx;obtain ⟨s0,s1,s2,s3,s4⟩:=hx;go_simp;try (intro h;omega)) ?_
   try simp only [Act.put,zq1,zq2,zq3]
   refine aL 29 19 44 (.slice (some ⟨G,0,none⟩) 44 44) HSd.out rfl (by intro x hx;obtain ⟨s0,s1,s2,s3,s4⟩:=hx;go_simp;try (intro h;omega)) ?_
   try simp only [Act.put,zq1,zq2,zq3]
   refine aL 29 20 45 (.int .i64 (4*(m:Int))) HSd.out rfl (by intro x hx;obtain ⟨s0,s1,s2,s3,s4⟩:=hx;go_simp;try (intro h;omega)) ?_
   try simp only [Act.put,zq1,zq2,zq3]
   refine aL 29 21 46 (.int .i64 (4*(m:Int)+3)) HSd.out rfl (by intro x hx;obtain ⟨s0,s1,s2,s3,s4⟩:=hx;go_simp;try (intro h;omega)) ?_
   try simp only [Act.put,zq1,zq2,zq3]
   refine aL 29 22 47 (.pointer (some ⟨G,4*m+3,none⟩)) HSd.out rfl (by intro x hx;obtain ⟨s0,s1,s2,s3,s4⟩:=hx;go_simp;try (intro h;omega)) ?_
   try simp only [Act.put,zq1,zq2,zq3]
   refine aL 29 23 48 (.int .u32 y3) HSd.out rfl (by intro x hx;obtain ⟨s0,s1,s2,s3,s4⟩:=hx;go_simp;try (intro h;omega)) ?_
   try simp only [Act.put,zq1,zq2,zq3]
   refine aL 29 24 49 (.agg #[.int .u32 y0,.int .u32 y1,.int .u32 y2,.int .u32 y3]) HSd.out rfl (by intro x hx;obtain ⟨s0,s1,s2,s3,s4⟩:=hx;go_simp;try (intro h;omega)) ?_
   try simp only [Act.put,zq1,zq2,zq3]
   refine anyL_one 29 25 (by kernel_rfl) ?_
   refine wpOp_step rfl (fun Kc hKc=>?_)
   go_simp
   refine hKc _ _ ⟨fun _=>?_,?_⟩
   ·have hc:=lt_of_block HCd.out
    have hg:=lt_of_block HWd.out
    obtain ⟨s0,s1,s2,s3,s4⟩:=HSd.out
    exact ⟨(World.cell?_of_block (a:=⟨c,256,none⟩) (heap_alloc_old _ _ hc)).trans s0,(World.cell?_of_block (a:=⟨G,4*m,none⟩) (heap_alloc_old _ _ hg)).trans s1,(World.cell?_of_block (a:=⟨G,4*m+1,none⟩) (heap_alloc_old _ _ hg)).trans s2,(World.cell?_of_block (a:=⟨G,4*m+2,none⟩) (heap_alloc_old _ _ hg)).trans s3,(World.cell?_of_block (a:=⟨G,4*m+3,none⟩) (heap_alloc_old _ _ hg)).trans s4⟩
   clear hKc Kc
   try simp only [Act.put,zq1,zq2,zq3]
   refine anyL_one 29 26 (by kernel_rfl) ?_
   refine op_append_state wd y0 y1 y2 y3 _ _ 26 (.tmp 29) (.tmp 50) w2.heap.size v m HNX.out rfl rfl rfl HOd.out (by omega) HS2d.out ?_
   intro g' cap' w5 hown hgrow
   have HO5:=Lib.hid hown;clear hown
   have HC5:Hid (w5.heap[c]?=some (.cells (A.push v) 149 (0,0))):=(hgrow.block c (by simp;have:=lt_of_block HCd.out;omega) HNE.out.1).trans ((heap_alloc_old _ _ (lt_of_block HCd.out)).trans HCd.out)
   have HW5:Hid (w5.heap[G]?=some (.cells (ks.map (Value.int .u32)).toArray 152 (0,0))):=(hgrow.block G (by simp;have:=lt_of_block HWd.out;omega) HNE.out.2).trans ((heap_alloc_old _ _ (lt_of_block HWd.out)).trans HWd.out)
   have HB5:Hid (Below w.heap.size w w5):=(HBd.out.alloc HBd.out.size _).grown hgrow (by have:=HBd.out.size;simp;omega) (fun j hj=>by have h1:=(HOd.out.lt j hj).1;have:=HG.out;have:=HCS.out;omega)
   have HS5:Hid (w2.heap.size≤w5.heap.size):=by have h1:=hgrow.size;have h2:=HS2d.out;simp at h1;show _≤_;omega
   refine ⟨fun _=>?_,?_⟩
   ·exact ⟨by rw [cell_of_row w5 c 256 _ _ _ HC5.out,Array.getElem?_push,if_pos HA2.out.symm],HSW.out w5 HW5.out⟩
   try simp only [Act.put,zq1,zq2,zq3]
   have HSd5:Hid (w5.cell? ⟨c,256,none⟩=some v∧w5.cell? ⟨G,4*m,none⟩=some (.int .u32 y0)∧w5.cell? ⟨G,4*m+1,none⟩=some (.int .u32 y1)∧w5.cell? ⟨G,4*m+2,none⟩=some (.int .u32 y2)∧w5.cell? ⟨G,4*m+3,none⟩=some (.int .u32 y3)):=⟨by rw [cell_of_row w5 c 256 _ _ _ HC5.out,Array.getElem?_push,if_pos HA2.out.symm],HSW.out w5 HW5.out⟩
   refine anyL_one 29 27 (by kernel_rfl) ?_
   refine wpOp_step rfl (fun Kc hKc=>?_)
   go_simp
   refine hKc _ _ ⟨fun _=>HSd5.out,?_⟩
   clear hKc Kc
   try simp only [Act.put,zq1,zq2,zq3]
   refine anyL_one 29 28 (by kernel_rfl) ?_
   refine wpOp_step rfl (fun Kc hKc=>?_)
   go_simp
   refine hKc _ _ ⟨fun _=>HSd5.out,?_⟩
   clear hKc Kc
   try simp only [Act.put,zq1,zq2,zq3]
   have cc5:w5.cell? ⟨c,256,none⟩=some v:=by rw [cell_of_row w5 c 256 _ _ _ HC5.out,Array.getElem?_push,if_pos HA2.out.symm]
   have cf5:=frozen_of_row w5 c 256 _ _ HC5.out
   refine anyL_one 29 29 (by kernel_rfl) ?_
   refine wpOp_step rfl (fun Kc hKc=>?_)
   go_simp
   refine hKc _ _ ⟨fun h=>absurd rfl h,?_⟩
   clear hKc Kc
   try simp only [Act.put,zq1,zq2,zq3]
   refine anyL_done (by kernel_rfl) ?_ _
   have HC6:Hid ((w5.setCell ⟨c,256,none⟩ (.slice (some ⟨g',0,none⟩) (m+1) cap')).heap[c]?=some (.cells (A.push (.slice (some ⟨g',0,none⟩) (m+1) cap')) 149 (0,0))):=by
    show _=_
    rw [heap_setCell_same w5 c 256 _ _ _ HC5.out]
    congr 2
    apply Array.ext'
    have hl:A.toList.length=256:=by simpa using HA2.out
    simp only [Array.toList_setIfInBounds,Array.toList_push]
    rw [List.set_append_right _ _ (by omega),hl]
    rfl
   have HW6:Hid ((w5.setCell ⟨c,256,none⟩ (.slice (some ⟨g',0,none⟩) (m+1) cap')).heap[G]?=some (.cells (ks.map (Value.int .u32)).toArray 152 (0,0))):=by
    show _=_
    rw [heap_setCell_other _ _ _ _ (by have:=HG.out;simp;omega)]
    exact HW5.out
   have HO6:Hid ((w5.setCell ⟨c,256,none⟩ (.slice (some ⟨g',0,none⟩) (m+1) cap')).ownsRow w2.heap.size 154 4 (.slice (some ⟨g',0,none⟩) (m+1) cap') (m+1) (W32s (ks.take (4*(m+1))))) :=
    HO5.out.kept (row:=some c) ⟨rfl,rfl,rfl,by simp,fun j _ hj=>heap_setCell_other _ _ _ _ (by simp;intro e;exact hj (by rw [e]))⟩ (Or.inr (by have h1:=HO5.out.lt g' rfl;have:=HG.out;simp [Value.ownBlock];omega))
   have HB6:Hid (Below w.heap.size w (w5.setCell ⟨c,256,none⟩ (.slice (some ⟨g',0,none⟩) (m+1) cap'))):=HB5.out.setCell HCS.out _
   have HS6:Hid (w2.heap.size≤(w5.setCell ⟨c,256,none⟩ (.slice (some ⟨g',0,none⟩) (m+1) cap')).heap.size):=by show _≤_;simpa using HS5.out
   clear HC5 HW5 HO5 HB5 HS5 cc5 cf5 hgrow HCd HWd HOd HBd HSd HS2d HSW
   generalize w5.setCell ⟨c,256,none⟩ (.slice (some ⟨g',0,none⟩) (m+1) cap')=w6 at *
   go_wp2
   exact ⟨⟨m+1,_,by omega,by go_num,HC6,HO6,HW6,HB6,HS6⟩,by simp [intOf];omega⟩
  ·have hge:11≤m:=by omega
   have hLm:(44:Int)≤4*(m:Int):=by omega
   have FIN:Hid (∃ kb cap',v = .slice (some ⟨kb,0,none⟩) m cap'):=by
    rcases HO.out.2 with ⟨_,h0⟩ | ⟨g',cap',cur,rfl,_⟩
    ·omega
    ·exact ⟨g',cap',rfl⟩
   have HO7:Hid (wr.ownsRow w2.heap.size 154 4 v m (W32s ks)):=by
    have h:=HO.out
    rw [List.take_of_length_le (by rw [HLL.out];omega)] at h
    exact h
   have hlk:Hid (ks.length=4*m):=by show _=_;rw [HLL.out];omega
   clear HO hlt hge
   go_wp2
   go_ret2
   obtain ⟨kb,cap',rfl⟩:=FIN.out
   refine ⟨c,rfl,HCS.out,?_,HB.out⟩
   rw [Hks.out]
   exact ⟨kb,m,cap',w2.heap.size,by rw [← HA1.out];exact HC.out,hlk.out,HO7.out⟩
end
section
open Go.RowKit
namespace Aes
structure W where
 a:Int
 b:Int
 c:Int
 d:Int
def lay (s:W) (ks:List Int) (k:Nat):W:=⟨bits .xor .u32 s.a (ks.getD (4*k) 0),bits .xor .u32 s.b (ks.getD (4*k+1) 0),bits .xor .u32 s.c (ks.getD (4*k+2) 0),bits .xor .u32 s.d (ks.getD (4*k+3) 0)⟩
def mvd (T:List Int) (s:W):W:=⟨col T s.a s.b s.c s.d,col T s.b s.c s.d s.a,col T s.c s.d s.a s.b,col T s.d s.a s.b s.c⟩
def mxd (s:W):W:=⟨mixw s.a,mixw s.b,mixw s.c,mixw s.d⟩
def toW (l:List Int):W:=⟨wk l 0,wk l 4,wk l 8,wk l 12⟩
def rounds (T ks:List Int) (s:W):Nat→W
 | 0=>lay s ks 0
 | k+1=>lay (mxd (mvd T (rounds T ks s k))) ks (k+1)
def last (T ks:List Int) (N:Nat) (s:W):W:=lay (mvd T (rounds T ks s N)) ks (N+1)
def blk (T ks:List Int) (N:Nat) (l:List Int):List Int:=blk4 (last T ks N (toW l)).a (last T ks N (toW l)).b (last T ks N (toW l)).c (last T ks N (toW l)).d
theorem rounds_zero (T ks:List Int) (s:W):rounds T ks s 0=lay s ks 0:=rfl
theorem rounds_succ (T ks:List Int) (s:W) (k:Nat):rounds T ks s (k+1)=lay (mxd (mvd T (rounds T ks s k))) ks (k+1):=rfl
theorem blk_len (T ks:List Int) (N:Nat) (l:List Int):(blk T ks N l).length=16:=bk_len _ _
attribute [irreducible] rounds
end Aes
def stc (s:Aes.W):Array Value:=#[.int .u32 s.a,.int .u32 s.b,.int .u32 s.c,.int .u32 s.d]
theorem stc_one (s:Aes.W):(stc s).all (·.oneCell')=true:=one4 _ _ _ _ _
section
variable {P:Program} {md:Region.Mode} {ops:Array Oper} {Q:Exit→Act→World→Prop} {S:World→Prop}
theorem anyL_two (k i j:Nat) {fuel:Nat} {listed:Array Bool} {a:Act} {w:World} (hr:Region.ready md ops listed = [i,j])
  (h:wpOp P ops Q i (fun a' w'=>(i ≠ k→S w')∧wpAnyL P md ops Q S k fuel (listed.setIfInBounds i true) a' w') a w)
  (h2:wpOp P ops Q j (fun a' w'=>(j ≠ k→S w')∧wpAnyL P md ops Q S k fuel (listed.setIfInBounds j true) a' w') a w):wpAnyL P md ops Q S k (fuel+1) listed a w :=
 ⟨fun h0=>absurd (hr ▸ h0) (by simp),fun m hm=>by
  rw [hr] at hm
  simp at hm
  rcases hm with rfl | rfl<;>assumption⟩
theorem exec_row {a:Act} {w:World} {D:Option Tmp} {T:TypeId} {ps:String} {af:Array Edge} {gd:Option (Nat × Bool)} (ty:TypeId) (x:Operand) (g:Nat) (t:TypeId) (cs:Array Value) (fr:Nat × Nat) (d:TypeDesc) (hx:a.eval x = .pointer (some ⟨g,0,none⟩))
  (hg:w.heap[g]?=some (.cells cs t fr)) (hu:P.underlying ty=some d) (hd:d.isRow=true) (hi:(P.info? ty).map (·.size)=some cs.size) :
  (execOp a.eval { dst:=D,op:=.load ty x,type:=T,pos:=ps,after:=af,guard:=gd }).run P w = .ok (.value (.agg cs)) w:=by
 have h:=run_loadAt_mid (P:=P) w g 0 ty cs.toList d (fun j v hv=>by rw [cell_of_row w g (0+j) cs t fr hg];simpa using hv) hu hd (by simpa using hi)
 unfold execOp
 simp only [hx,h,Sem.run_bind,Sem.run_pure,Result.andThen_ok,Array.toArray_toList]
end
end
end Go.Proofs.YtnnalemboeccbaaGreatDoor

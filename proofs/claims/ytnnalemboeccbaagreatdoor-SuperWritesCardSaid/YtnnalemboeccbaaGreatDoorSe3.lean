/-
  SeM, SeR, SeT (merged)
-/
import Derived.Test.YtnnalemboeccbaaGreatDoorSe5
import Derived.Test.YtnnalemboeccbaaGreatDoorBc1
namespace Go.Proofs.YtnnalemboeccbaaGreatDoor

/-! SeM:  -/
section
open Go.RowKit
set_option maxHeartbeats 1000000 in
set_option maxRecDepth 100000 in
theorem copybytes_any (L:List Int) (p:Option Addr) (n cap:Nat) (hn:L.length=n) (hL:L.length≤1000000) (w:World) (hp:BAt w p L) :
  Calls Tryz.prog 26 #[.slice p n cap] w fun e w'=>∃ v,e = .returned v∧w'.ownsRow w.heap.size 5 1 v n (U8s L)∧Below w.heap.size w w':=by
 subst hn
 obtain ⟨i0,hi,hz0,hz1,hz2⟩:=info_parts Tryz.info_u8
 have Hp:=Lib.hid hp;clear hp
 go_enter Tryz.func26,Tryz.ntmps26
 go_wp2
 go_loopw [3,4] (fun v i wr=>∃ k:Nat,k≤L.length∧i = .int .i64 k∧Hid (wr.ownsRow w.heap.size 5 1 v k (U8s (L.take k)))∧Hid (Below w.heap.size w wr)) (fun _ i _=>L.length-(intOf i).toNat)
 case atStart=>exact ⟨0,Nat.zero_le _,rfl,by unfold U8s;exact World.ownsRow_nil _ _ _ _,Below.refl _ _⟩
 case round =>
  obtain ⟨k,hk,rfl,HO,HB⟩:=hrel
  by_cases hlt:k<L.length
  ·obtain ⟨ab,ao,hpp,hcs⟩:=(Hp.out.old HB.out).2 (by omega)
   subst hpp
   have c0:=hcs k hlt
   clear hcs
   obtain ⟨x,hx⟩:∃ x,L.getD k 0=x:=⟨_,rfl⟩
   rw [hx] at c0
   go_wp2_with (first
    | (at_builtin;refine wpList_append_own _ rfl _ _ 22 rfl w.heap.size 5 i0 (.int .u8 0) 1 1 Tryz.underlying22 hi hz0 hz1 hz2 rfl (by decide) _ _ _ rfl (HO.out.alloc _) ⟨wr.heap.size,0,none⟩ 1 1 [.int .u8 x] rfl rfl (u8_cell _ _ _) (u8_one _) (by unfold maxLen;omega) (by omega) (by have:=HB.out.size;simp;omega) ?_)
    | go_in)
   intro v' w1 hown' hgrow _
   have hb1:=below_own HB.out (HB.out.size) HO.out hgrow
   rw [U8s_snoc,← hx,take_snoc L k hlt] at hown'
   clear hgrow HO HB
   go_wp2
   exact ⟨⟨k+1,by omega,by go_num,hown',hb1⟩,by simp [intOf];omega⟩
  ·have E:k=L.length:=by omega
   have HO2:Hid (wr.ownsRow w.heap.size 5 1 u3 L.length (U8s L)):=by
    have:=HO.out
    rw [E,List.take_length] at this
    exact this
   have hge:L.length≤k:=by omega
   clear hlt HO E
   go_wp2
   go_ret
   exact ⟨_,rfl,HO2.out,HB.out⟩
set_option maxRecDepth 100000 in
theorem boxsum_any (hT:TakeSaid) (b:List Int) (vg:Value) (p:Option Addr) (n c:Nat) (hn:b.length=n) (hnl:n≤1000000000) (w:World) (hb:Bs w p c b) (ht:Tab w 1) :
  Calls Tryz.prog 242 #[vg,.slice p n c] w (RowSay (Sha.dg b) w):=by
 have HT:=Lib.hid hT;clear hT
 have Ht:=Lib.hid ht;clear ht
 have Hb:=Lib.hid hb;clear hb
 have hcc:=Hb.out.cap
 rw [hn] at hcc
 have Hn:=Lib.hid hn;clear hn
 have B0:Hid (Below w.heap.size w (w.alloc (.cells (List.replicate 32 (Value.int .u8 0)).toArray 39))):=(Below.refl _ w).alloc (Nat.le_refl _) _
 have R0:Hid ((w.alloc (.cells (List.replicate 32 (Value.int .u8 0)).toArray 39)).heap[w.heap.size]?=some (.cells (List.replicate 32 (Value.int .u8 0)).toArray 39 (0,0))):=heap_alloc_new w _
 obtain ⟨A,HA1,HA2,HA3⟩:∃ A:Array Value,Hid (A=((Sha.dg b).map (Value.int .u8)).toArray)∧Hid (A.size=32)∧Hid (A.all (·.oneCell')=true) :=
  ⟨_,rfl,by show _=_;simp [dg_len],all_oneCell_toArray (bytes_one _)⟩
 go_enter Tryz.func242,Tryz.ntmps242
 go_wp2_with (first
  | (go_at_call 170;refine (of_any'' HT.out b p n c Hn.out _ (fun g hg=>(Hb.out.old B0.out).bat.bytes g hg) hcc.1 hcc.2 (by omega) (Ht.out.below B0.out Ht.out.lt)).mono ?_;rintro e w1 ⟨rfl,hb1⟩;rw [← HA1.out];have B1:Hid (Below w.heap.size w w1):=B0.out.trans (hb1.mono B0.out.size);have R1:=Lib.hid ((hb1.block _ (lt_of_block R0.out)).trans R0.out);clear hb1)
  | ((with_reducible refine row_store _ _ _ _ _ _ _ ?_ ?_ R1.out (row_size Tryz.sizeSum HA2) ?_ HA3.out ?_);(exact rfl);(exact rfl);(rw [HA2.out];rfl);intro w6 G6 ch6))
 refine bodyPost_ret (results_cell_row rfl _ _ w.heap.size 39 A (0,0) _ rfl G6.out Tryz.underlying39 rfl (row_size Tryz.sizeSum HA2)) rfl ⟨?_,ch6.below B1.out (Nat.le_refl _)⟩
 rw [HA1.out]
end

/-! SeR:  -/
section
open Go.RowKit
set_option maxRecDepth 100000 in
theorem seal_right (e n:Int) (w:World):Calls Tryz.prog 181 #[.int .i64 e,.int .i64 n] w fun r w'=>r = .returned (.bool (inR e&&inR n))∧w'=w:=by
 by_cases h0:e≥0
 ·by_cases h1:e≤1099511627776
  ·by_cases h2:n≥0
   ·by_cases h3:n≤1099511627776
    ·rw [show (inR e&&inR n)=true by unfold inR;simp;omega]
     go_enter Tryz.func181,Tryz.ntmps181
     go_wp2
     go_ret
     exact ⟨rfl,rfl⟩
    ·rw [show (inR e&&inR n)=false by unfold inR;simp;omega]
     go_enter Tryz.func181,Tryz.ntmps181
     go_wp2
     go_ret
     exact ⟨rfl,rfl⟩
   ·rw [show (inR e&&inR n)=false by unfold inR;simp;omega]
    go_enter Tryz.func181,Tryz.ntmps181
    go_wp2
    go_ret
    exact ⟨rfl,rfl⟩
  ·rw [show (inR e&&inR n)=false by unfold inR;simp;omega]
   go_enter Tryz.func181,Tryz.ntmps181
   go_wp2
   go_ret
   exact ⟨rfl,rfl⟩
 ·rw [show (inR e&&inR n)=false by unfold inR;simp;omega]
  go_enter Tryz.func181,Tryz.ntmps181
  go_wp2
  go_ret
  exact ⟨rfl,rfl⟩
namespace Seal
def l8 (n:Int):List Int:=[n / 72057594037927936 % 256,n / 281474976710656 % 256,n / 1099511627776 % 256,n / 4294967296 % 256,n / 16777216 % 256,n / 65536 % 256,n / 256 % 256,n % 256]
theorem l8_eq (n:Int):l8 n=be8 n:=by unfold be8;rfl
end Seal
def EightSay (n:Int) (w:World) (e:Ending) (w':World):Prop :=
 ∃ g c,e = .returned (.slice (some ⟨g,0,none⟩) 8 c)∧Hid (w'.ownsRow w.heap.size 5 1 (.slice (some ⟨g,0,none⟩) 8 c) 8 (U8s (Seal.be8 n)))∧Below w.heap.size w w'
set_option maxHeartbeats 2000000 in
set_option maxRecDepth 100000 in
theorem eight_any (n:Int) (hn:0≤n∧n≤9223372036854775807) (w:World):Calls Tryz.prog 207 #[.int .i64 n] w (EightSay n w):=by
 obtain ⟨i0,hi,hz0,hz1,hz2⟩:=info_parts Tryz.info_u8
 go_enter Tryz.func207,Tryz.ntmps207
 go_wp2
 go_loopw [3,4] (fun v i wr=>∃ k:Nat,k≤8∧i = .int .i64 (7-(k:Int))∧Hid (wr.ownsRow w.heap.size 5 1 v k (U8s ((Seal.l8 n).take k)))∧Hid (Below w.heap.size w wr)) (fun _ i _=>(intOf i+1).toNat)
 case atStart=>exact ⟨0,Nat.zero_le _,rfl,by unfold U8s;exact World.ownsRow_nil _ _ _ _,Below.refl _ _⟩
 case round =>
  obtain ⟨k,hk,rfl,HO,HB⟩:=hrel
  rcases (by omega:k=0∨k=1∨k=2∨k=3∨k=4∨k=5∨k=6∨k=7∨k=8) with rfl | rfl | rfl | rfl | rfl | rfl | rfl | rfl | rfl
  ·go_wp2_with (first
    | (at_builtin;refine wpList_append_own _ rfl _ _ 22 rfl w.heap.size 5 i0 (.int .u8 0) 1 1 Tryz.underlying22 hi hz0 hz1 hz2 rfl (by decide) _ _ _ rfl (HO.out.alloc _) ⟨wr.heap.size,0,none⟩ 1 1 [.int .u8 _] rfl rfl (u8_cell1 _ _ _) (u8_oneX _) (by unfold maxLen;omega) (by omega) (by have:=HB.out.size;simp;omega) ?_)
    | go_in)
   intro v' w1 hown' hgrow _
   have hb1:=below_own HB.out (HB.out.size) HO.out hgrow
   rw [U8s_snoc] at hown'
   have H1:Hid (w1.ownsRow w.heap.size 5 1 v' 1 (U8s ((Seal.l8 n).take 1))):=by show World.ownsRow _ _ _ _ _ _ _;rw [show (Seal.l8 n).take 1 = [n / 72057594037927936] from by unfold Seal.l8;rw [show n / 72057594037927936 % 256=n / 72057594037927936 by omega];rfl];exact hown'
   clear hgrow HO HB hown'
   go_wp2
   exact ⟨⟨1,by omega,rfl,H1.out,hb1⟩,by simp [intOf]⟩
  ·go_wp2_with (first
    | (at_builtin;refine wpList_append_own _ rfl _ _ 22 rfl w.heap.size 5 i0 (.int .u8 0) 1 1 Tryz.underlying22 hi hz0 hz1 hz2 rfl (by decide) _ _ _ rfl (HO.out.alloc _) ⟨wr.heap.size,0,none⟩ 1 1 [.int .u8 _] rfl rfl (u8_cell1 _ _ _) (u8_oneX _) (by unfold maxLen;omega) (by omega) (by have:=HB.out.size;simp;omega) ?_)
    | go_in)
   intro v' w1 hown' hgrow _
   have hb1:=below_own HB.out (HB.out.size) HO.out hgrow
   rw [U8s_snoc] at hown'
   have H1:Hid (w1.ownsRow w.heap.size 5 1 v' 2 (U8s ((Seal.l8 n).take 2))):=hown'
   clear hgrow HO HB hown'
   go_wp2
   exact ⟨⟨2,by omega,rfl,H1.out,hb1⟩,by simp [intOf]⟩
  ·go_wp2_with (first
    | (at_builtin;refine wpList_append_own _ rfl _ _ 22 rfl w.heap.size 5 i0 (.int .u8 0) 1 1 Tryz.underlying22 hi hz0 hz1 hz2 rfl (by decide) _ _ _ rfl (HO.out.alloc _) ⟨wr.heap.size,0,none⟩ 1 1 [.int .u8 _] rfl rfl (u8_cell1 _ _ _) (u8_oneX _) (by unfold maxLen;omega) (by omega) (by have:=HB.out.size;simp;omega) ?_)
    | go_in)
   intro v' w1 hown' hgrow _
   have hb1:=below_own HB.out (HB.out.size) HO.out hgrow
   rw [U8s_snoc] at hown'
   have H1:Hid (w1.ownsRow w.heap.size 5 1 v' 3 (U8s ((Seal.l8 n).take 3))):=hown'
   clear hgrow HO HB hown'
   go_wp2
   exact ⟨⟨3,by omega,rfl,H1.out,hb1⟩,by simp [intOf]⟩
  ·go_wp2_with (first
    | (at_builtin;refine wpList_append_own _ rfl _ _ 22 rfl w.heap.size 5 i0 (.int .u8 0) 1 1 Tryz.underlying22 hi hz0 hz1 hz2 rfl (by decide) _ _ _ rfl (HO.out.alloc _) ⟨wr.heap.size,0,none⟩ 1 1 [.int .u8 _] rfl rfl (u8_cell1 _ _ _) (u8_oneX _) (by unfold maxLen;omega) (by omega) (by have:=HB.out.size;simp;omega) ?_)
    | go_in)
   intro v' w1 hown' hgrow _
   have hb1:=below_own HB.out (HB.out.size) HO.out hgrow
   rw [U8s_snoc] at hown'
   have H1:Hid (w1.ownsRow w.heap.size 5 1 v' 4 (U8s ((Seal.l8 n).take 4))):=hown'
   clear hgrow HO HB hown'
   go_wp2
   exact ⟨⟨4,by omega,rfl,H1.out,hb1⟩,by simp [intOf]⟩
  ·go_wp2_with (first
    | (at_builtin;refine wpList_append_own _ rfl _ _ 22 rfl w.heap.size 5 i0 (.int .u8 0) 1 1 Tryz.underlying22 hi hz0 hz1 hz2 rfl (by decide) _ _ _ rfl (HO.out.alloc _) ⟨wr.heap.size,0,none⟩ 1 1 [.int .u8 _] rfl rfl (u8_cell1 _ _ _) (u8_oneX _) (by unfold maxLen;omega) (by omega) (by have:=HB.out.size;simp;omega) ?_)
    | go_in)
   intro v' w1 hown' hgrow _
   have hb1:=below_own HB.out (HB.out.size) HO.out hgrow
   rw [U8s_snoc] at hown'
   have H1:Hid (w1.ownsRow w.heap.size 5 1 v' 5 (U8s ((Seal.l8 n).take 5))):=hown'
   clear hgrow HO HB hown'
   go_wp2
   exact ⟨⟨5,by omega,rfl,H1.out,hb1⟩,by simp [intOf]⟩
  ·go_wp2_with (first
    | (at_builtin;refine wpList_append_own _ rfl _ _ 22 rfl w.heap.size 5 i0 (.int .u8 0) 1 1 Tryz.underlying22 hi hz0 hz1 hz2 rfl (by decide) _ _ _ rfl (HO.out.alloc _) ⟨wr.heap.size,0,none⟩ 1 1 [.int .u8 _] rfl rfl (u8_cell1 _ _ _) (u8_oneX _) (by unfold maxLen;omega) (by omega) (by have:=HB.out.size;simp;omega) ?_)
    | go_in)
   intro v' w1 hown' hgrow _
   have hb1:=below_own HB.out (HB.out.size) HO.out hgrow
   rw [U8s_snoc] at hown'
   have H1:Hid (w1.ownsRow w.heap.size 5 1 v' 6 (U8s ((Seal.l8 n).take 6))):=hown'
   clear hgrow HO HB hown'
   go_wp2
   exact ⟨⟨6,by omega,rfl,H1.out,hb1⟩,by simp [intOf]⟩
  ·go_wp2_with (first
    | (at_builtin;refine wpList_append_own _ rfl _ _ 22 rfl w.heap.size 5 i0 (.int .u8 0) 1 1 Tryz.underlying22 hi hz0 hz1 hz2 rfl (by decide) _ _ _ rfl (HO.out.alloc _) ⟨wr.heap.size,0,none⟩ 1 1 [.int .u8 _] rfl rfl (u8_cell1 _ _ _) (u8_oneX _) (by unfold maxLen;omega) (by omega) (by have:=HB.out.size;simp;omega) ?_)
    | go_in)
   intro v' w1 hown' hgrow _
   have hb1:=below_own HB.out (HB.out.size) HO.out hgrow
   rw [U8s_snoc] at hown'
   have H1:Hid (w1.ownsRow w.heap.size 5 1 v' 7 (U8s ((Seal.l8 n).take 7))):=hown'
   clear hgrow HO HB hown'
   go_wp2
   exact ⟨⟨7,by omega,rfl,H1.out,hb1⟩,by simp [intOf]⟩
  ·go_wp2_with (first
    | (at_builtin;refine wpList_append_own _ rfl _ _ 22 rfl w.heap.size 5 i0 (.int .u8 0) 1 1 Tryz.underlying22 hi hz0 hz1 hz2 rfl (by decide) _ _ _ rfl (HO.out.alloc _) ⟨wr.heap.size,0,none⟩ 1 1 [.int .u8 _] rfl rfl (u8_cell1 _ _ _) (u8_oneX _) (by unfold maxLen;omega) (by omega) (by have:=HB.out.size;simp;omega) ?_)
    | go_in)
   intro v' w1 hown' hgrow _
   have hb1:=below_own HB.out (HB.out.size) HO.out hgrow
   rw [U8s_snoc] at hown'
   have H1:Hid (w1.ownsRow w.heap.size 5 1 v' 8 (U8s ((Seal.l8 n).take 8))):=hown'
   clear hgrow HO HB hown'
   go_wp2
   exact ⟨⟨8,by omega,rfl,H1.out,hb1⟩,by simp [intOf]⟩
  ·obtain ⟨g,c,hv⟩:=own_some HO.out (by decide)
   subst hv
   have HO2:Hid (wr.ownsRow w.heap.size 5 1 (.slice (some ⟨g,0,none⟩) 8 c) 8 (U8s (Seal.be8 n))):=by
    rw [← Seal.l8_eq]
    exact HO.out
   go_wp2
   go_ret
   exact ⟨g,c,rfl,HO2,HB.out⟩
set_option maxHeartbeats 1000000 in
set_option maxRecDepth 100000 in
theorem same_gen (L M:List Int) (p q:Option Addr) (n c d:Nat) (hn:L.length=n) (hm:M.length=n) (w:World) (hp:BAt w p L) (hq:BAt w q M) (hL:n≤10000000) :
  Calls Tryz.prog 18 #[.slice p n c,.slice q n d] w fun r w'=>r = .returned (.bool (decide (L=M)))∧Below w.heap.size w w':=by
 have Hp:=Lib.hid hp;clear hp
 have Hq:=Lib.hid hq;clear hq
 have Hn:=Lib.hid (And.intro hn hm);clear hn hm
 go_enter Tryz.func18,Tryz.ntmps18
 go_wp2
 go_loopw [5] (fun v5 wr=>∃ k:Nat,k≤n∧v5 = .int .i64 k∧Hid (∀ j,j<k→L.getD j 0=M.getD j 0)∧Hid (Below w.heap.size w wr)) (fun v5 _=>n-(intOf v5).toNat)
 case atStart=>exact ⟨0,by omega,rfl,fun j hj=>by omega,Below.refl _ _⟩
 case round =>
  obtain ⟨k,hk,rfl,HE,HB⟩:=hrel
  by_cases hlt:k<n
  ·obtain ⟨ab,ao,hpp,hcs⟩:=(Hp.out.old HB.out).2 (by have:=Hn.out;omega)
   obtain ⟨bb,bo,hqq,hds⟩:=(Hq.out.old HB.out).2 (by have:=Hn.out;omega)
   subst hpp
   subst hqq
   have c0:=hcs k (by have:=Hn.out;omega)
   have c1:=hds k (by have:=Hn.out;omega)
   have hn:0≤(k:Int):=by omega
   have hm:(k:Int)<(n:Int):=by omega
   by_cases hxy:L.getD k 0=M.getD k 0
   ·have HE2:Hid (∀ j,j<k+1→L.getD j 0=M.getD j 0):=fun j hj=>by
     by_cases h:j=k
     ·subst h;exact hxy
     ·exact HE.out j (by omega)
    rw [← hxy] at c1
    clear hxy hcs hds
    generalize L.getD k 0=x at *
    go_wp2
    go_quiet (fail)
    go_wp2
    exact ⟨⟨k+1,by omega,by go_num,HE2.out,below_dn HB.out _⟩,by simp [intOf];omega⟩
   ·have HNE:Hid (decide (L=M)=false):=by
     show _=_
     rw [decide_eq_false_iff_not]
     rintro rfl
     exact hxy rfl
    clear hcs hds
    have hxy2:=hxy
    generalize L.getD k 0=x at *
    generalize M.getD k 0=y at *
    go_wp2
    go_quiet (fail)
    go_wp2
    go_ret
    exact ⟨congrArg (fun z=>Ending.returned (Value.bool z)) HNE.out.symm,below_dn HB.out _⟩
  ·have E:k=n:=by omega
   have HEQ:Hid (decide (L=M)=true):=by
    show _=_
    rw [decide_eq_true_iff]
    have hh:=Hn.out
    apply List.ext_getElem (by omega)
    intro i h1 h2
    have:=HE.out i (by omega)
    rw [List.getD_eq_getElem?_getD,List.getElem?_eq_getElem h1,List.getD_eq_getElem?_getD,List.getElem?_eq_getElem h2] at this
    simpa using this
   have hge:n≤k:=by omega
   clear hlt E
   go_wp2
   go_ret
   exact ⟨congrArg (fun z=>Ending.returned (Value.bool z)) HEQ.out.symm,HB.out⟩
theorem op_append_bts {ops:Array Oper} {a:Act} {w:World} {K:Act→World→Prop} {Q:Exit→Act→World→Prop} {D:Tmp} {T:TypeId} {ps:String} {af:Array Edge} (i:Nat) (s x:Operand) (ys:List Int) (base:Nat) (v:Value) (n:Nat) (l:List Int) (p:Option Addr) (m c:Nat)
  (ho:ops[i]?=some { dst:=some D,op:=Op.call { callee:=Callee.builtin Builtin.append,args:=#[s,x],argTypes:=#[22,22] },type:=T,pos:=ps,after:=af,guard:=none }) (hs:a.eval s=v)
  (hx:a.eval x = .slice p m c) (hm:ys.length=m) (hc:Bs w p c ys) (hown:w.ownsRow base 5 1 v n (U8s l)) (hn:n+m≤1000000000000) (hb:base≤w.heap.size)
  (hK:∀ v' w',w'.ownsRow base 5 1 v' (n+m) (U8s (l++ys))→w.grownBy w' v.ownBlock→K (a.put (some D) v') w') :
  wpOp Tryz.prog ops Q i K a w:=by
 subst hm
 obtain ⟨i0,hi,hz0,hz1,hz2⟩:=info_parts Tryz.info_u8
 refine op_plain i _ ho rfl ?_
 cases p with
 | none =>
  obtain ⟨rfl,rfl⟩:=hc.nil rfl
  have hrun:=run_append_owned_none (P:=Tryz.prog) (w:=w) base 22 T 5 i0 1 Tryz.underlying22 hi v n (U8s l) hown
  unfold Oper.wp
  simp only [List.length_nil] at hx
  simp [execOp,resolve,invoke,builtin,hs,hx,hrun,Result.andThen]
  exact hK v w (by rw [List.append_nil];exact hown) ⟨rfl,rfl,rfl,Nat.le_refl _,fun _ _ _=>rfl⟩
 | some ad =>
  refine wp_append_own _ s x 22 rfl base 5 i0 (.int .u8 0) 1 1 Tryz.underlying22 hi hz0 hz1 hz2 rfl (by decide) v n (U8s l) hs hown ad ys.length c (ys.map (Value.int .u8)) hx (by simp) (bs_cells hc.bat) (bytes_one _) (by unfold maxLen;omega) (by omega) hb ?_
  intro v' w' h1 h2 _
  refine hK v' w' ?_ h2
  have e:U8s l++ys.map (Value.int .u8)=U8s (l++ys):=by unfold U8s;simp
  rw [← e]
  exact h1
set_option maxRecDepth 100000 in
theorem refsum_any (b:List Int) (vg:Value) (p:Option Addr) (n c:Nat) (hn:b.length=n) (hnl:n≤1000000) (w:World) (hb:Bs w p c b) (ht:Tab w 0) :
  Calls Tryz.prog 130 #[vg,.slice p n c] w (RowSay (Sha.dg b) w):=by
 subst hn
 have Ht:=Lib.hid ht;clear ht
 have Hb:=Lib.hid hb;clear hb
 have B0:Hid (Below w.heap.size w (w.alloc (.cells (List.replicate 32 (Value.int .u8 0)).toArray 39))):=(Below.refl _ w).alloc (Nat.le_refl _) _
 have R0:Hid ((w.alloc (.cells (List.replicate 32 (Value.int .u8 0)).toArray 39)).heap[w.heap.size]?=some (.cells (List.replicate 32 (Value.int .u8 0)).toArray 39 (0,0))):=heap_alloc_new w _
 obtain ⟨A,HA1,HA2,HA3⟩:∃ A:Array Value,Hid (A=((Sha.dg b).map (Value.int .u8)).toArray)∧Hid (A.size=32)∧Hid (A.all (·.oneCell')=true) :=
  ⟨_,rfl,by show _=_;simp [dg_len],all_oneCell_toArray (bytes_one _)⟩
 go_enter Tryz.func130,Tryz.ntmps130
 go_wp2_with (first
  | (go_at_call 168;refine (ref_of_any b p c _ (fun g hg=>(Hb.out.old B0.out).bat.bytes g hg) hnl (Ht.out.below B0.out Ht.out.lt)).mono ?_;rintro e w1 ⟨rfl,hb1⟩;rw [← HA1.out];have B1:Hid (Below w.heap.size w w1):=B0.out.trans (hb1.mono B0.out.size);have R1:=Lib.hid ((hb1.block _ (lt_of_block R0.out)).trans R0.out);clear hb1)
  | ((with_reducible refine row_store _ _ _ _ _ _ _ ?_ ?_ R1.out (row_size Tryz.sizeSum HA2) ?_ HA3.out ?_);(exact rfl);(exact rfl);(rw [HA2.out];rfl);intro w6 G6 ch6))
 refine bodyPost_ret (results_cell_row rfl _ _ w.heap.size 39 A (0,0) _ rfl G6.out Tryz.underlying39 rfl (row_size Tryz.sizeSum HA2)) rfl ⟨?_,ch6.below B1.out (Nat.le_refl _)⟩
 rw [HA1.out]
end

/-! SeT:  -/
section
open Go.RowKit
theorem bs_own {w:World} {B m c:Nat} {p:Option Addr} {l:List Int} (h:w.ownsRow B 5 1 (.slice p m c) m (U8s l)) (hb:Sha.Byt l):Bs w p c l:=by
 obtain ⟨p',c',h1,h2,_⟩:=own_bs h hb
 injection h1 with e1 e2 e3
 rw [e1,e3]
 exact h2
theorem RCiphB.mono {B B':Nat} {w:World} {g n:Nat} {R:List Int} (h:RCiphB B' w g n R) (hb:B≤B'):RCiphB B w g n R:=by
 obtain ⟨h0,wb,wc,tb,tc,h1,h2,h3,h4,h5⟩:=h
 refine ⟨by omega,wb,wc,tb,tc,by omega,by omega,h3,fun i hi=>?_,h5⟩
 obtain ⟨b,c,q0,q1⟩:=h4 i hi
 exact ⟨b,c,by omega,q1⟩
theorem RCiphB.grown {B:Nat} {w x:World} {g n:Nat} {R:List Int} (h:RCiphB B w g n R) (O:Obj) (hg:(w.alloc O).grownBy x (some w.heap.size)):RCiphB B x g n R :=
 h.same fun k _ hk2=>(hg.block k (by have e:(w.alloc O).heap.size=w.heap.size+1:=(by simp);omega) (fun e=>by have e2:=Option.some.inj e;omega)).trans (heap_alloc_old _ _ hk2)
def RBox (B:Nat) (w:World) (g:Nat) (K:List Int):Prop :=
 ∃ d q cq,B≤g∧B≤q∧32≤cq∧cq≤9223372036854775807∧w.heap[g]?=some (.cells #[.pointer (some ⟨d,0,none⟩),.slice (some ⟨q,0,none⟩) 32 cq] 159 (0,0)) ∧
  (∀ j,j<32→w.cell? ⟨q,j,none⟩=some (.int .u8 ((Seal.k2 K).getD j 0)))∧RCiphB B w d (4*(4+7)) (Aes.up (Aes.rb (Aes.kyl (Seal.k1 K) 4)) (16*(4+7)))
theorem RBox.keep {B:Nat} {w x:World} {g:Nat} {K:List Int} (h:RBox B w g K) (hb:Below w.heap.size w x):RBox B x g K:=by
 obtain ⟨d,q,cq,h0,h1,h2,h3,h4,h5,h6⟩:=h
 exact ⟨d,q,cq,h0,h1,h2,h3,(hb.block _ (lt_of_block h4)).trans h4,fun j hj=>(hb.cell (World.block_lt_of_cell? w _ (h5 j hj))).trans (h5 j hj),h6.keep hb⟩
theorem k1_byt (K:List Int):Sha.Byt (Seal.k1 K):=by
 unfold Seal.k1
 exact fun x hx=>hm_byt _ _ x (List.mem_of_mem_take hx)
def RNewBox (K:List Int) (w:World) (e:Ending) (w':World):Prop :=
 ∃ g,e = .returned (.pointer (some ⟨g,0,none⟩))∧Hid (RBox w.heap.size w' g K)∧Below w.heap.size w w'
set_option maxHeartbeats 2000000 in
set_option maxRecDepth 100000 in
theorem refbox_any (K:List Int) (p:Option Addr) (n c:Nat) (hn:K.length=n) (hnl:n≤100000) (w:World) (hp:Bs w p c K) (ht:Tab w 0) :
  Calls Tryz.prog 46 #[.slice p n c] w (RNewBox K w):=by
 subst hn
 have Ht:=Lib.hid ht;clear ht
 have Hp:=Lib.hid hp;clear hp
 have HD1:Hid (∀ x,Below w.heap.size w x→Calls Tryz.prog 94 #[.slice p K.length c,.string { data:=#[101,110,99,114,121,112,116] }] x (HmSay K (bl Seal.encS) x)):=fun x hx =>
  ref2_derive_any K Seal.encS p K.length c rfl hnl (by decide) x ((Hp.out.old hx).bat) Hp.out.cap.1 Hp.out.cap.2 (Ht.out.below hx Ht.out.lt)
 have HD2:Hid (∀ x,Below w.heap.size w x→Calls Tryz.prog 94 #[.slice p K.length c,.string { data:=#[97,117,116,104,101,110,116,105,99,97,116,101] }] x (HmSay K (bl Seal.autS) x)):=fun x hx =>
  ref2_derive_any K Seal.autS p K.length c rfl hnl (by decide) x ((Hp.out.old hx).bat) Hp.out.cap.1 Hp.out.cap.2 (Ht.out.below hx Ht.out.lt)
 obtain ⟨A,HA1,HA2,HA3⟩:∃ A:Array Value,Hid (A=((hm K (bl Seal.encS)).map (Value.int .u8)).toArray)∧Hid (A.size=32)∧Hid (A.all (·.oneCell')=true) :=
  ⟨_,rfl,by show _=_;simp [hm_len],all_oneCell_toArray (bytes_one _)⟩
 obtain ⟨B,HB1,HB2,HB3⟩:∃ A:Array Value,Hid (A=((hm K (bl Seal.autS)).map (Value.int .u8)).toArray)∧Hid (A.size=32)∧Hid (A.all (·.oneCell')=true) :=
  ⟨_,rfl,by show _=_;simp [hm_len],all_oneCell_toArray (bytes_one _)⟩
 have HN:Hid (∀ g x,x.heap[g]?=some (.cells A 39 (0,0))→Calls Tryz.prog 95 #[.slice (some ⟨g,0,none⟩) 16 32] x fun e x'=>∃ d,e = .returned (.tuple #[.pointer (some ⟨d,0,none⟩),.int .i64 0])∧Hid (RCiphB x.heap.size x' d (4*(4+7)) (Aes.up (Aes.rb (Aes.kyl (Seal.k1 K) 4)) (16*(4+7))))∧Hid (Below x.heap.size x x')):=fun g x hx=>by
  rw [HA1.out] at hx
  have hb:BAt x (some ⟨g,0,none⟩) (Seal.k1 K):=by unfold Seal.k1;exact (bat_row hx (hm_byt _ _)).take 16
  refine (refnew_any (Seal.k1 K) 4 (by omega) (Seal.k1_len K) _ 32 (by omega) (by omega) x hb).mono ?_
  rintro e x' ⟨d,h1,h2,h3⟩
  exact ⟨d,h1,h2,h3⟩
 have HK2:Hid (∀ g x,x.heap[g]?=some (.cells B 39 (0,0))→Bs x (some ⟨g,0,none⟩) 32 (Seal.k2 K)):=fun g x hx=>by
  rw [HB1.out] at hx
  refine bs_row (by unfold Seal.k2;exact bat_row hx (hm_byt _ _)) ⟨by rw [Seal.k2_len];exact Nat.le_refl _,by omega⟩
 go_enter Tryz.func46,Tryz.ntmps46
 go_upto_region 4 with (first
  | (go_at_call 94;refine (HD1.out _ (Below.refl _ w)).mono ?_;rintro e1 w1 ⟨rfl,hb1⟩;rw [← HA1.out];have B1:=Lib.hid hb1;clear hb1 HD1)
  | ((with_reducible refine row_store _ _ _ _ _ _ _ ?_ ?_ (heap_alloc_new _ _) (row_size Tryz.sizeSum HA2) ?_ HA3.out ?_);(exact rfl);(exact rfl);(rw [HA2.out];rfl);intro w2 G2 ch2;have B2:Hid (Below w.heap.size w w2):=ch2.below (B1.out.alloc B1.out.size _) B1.out.size;clear ch2)
  | (go_at_call 94;refine (HD2.out _ B2.out).mono ?_;rintro e3 w3 ⟨rfl,hb3⟩;rw [← HB1.out];have B3:Hid (Below w.heap.size w w3):=B2.out.trans (hb3.mono B2.out.size);have G3:=Lib.hid ((hb3.block _ (lt_of_block G2.out)).trans G2.out);clear hb3 HD2)
  | ((with_reducible refine row_store _ _ _ _ _ _ _ ?_ ?_ (heap_alloc_new _ _) (row_size Tryz.sizeSum HB2) ?_ HB3.out ?_);(exact rfl);(exact rfl);(rw [HB2.out];rfl);intro w4 G4 ch4;have B34:Hid (Below w3.heap.size w3 w4):=ch4.below ((Below.refl _ w3).alloc (Nat.le_refl _) _) (Nat.le_refl _);have B4:Hid (Below w.heap.size w w4):=B3.out.trans (B34.out.mono B3.out.size);have G4A:=Lib.hid ((B34.out.block _ (lt_of_block G3.out)).trans G3.out);clear ch4)
  | (go_at_call 95;refine (HN.out _ _ G4A.out).mono ?_;rintro e5 w5 ⟨d,rfl,HC5,hb5⟩;have B5:Hid (Below w.heap.size w w5):=B4.out.trans (hb5.out.mono B4.out.size);have G5:=Lib.hid ((hb5.out.block _ (lt_of_block G4.out)).trans G4.out);have HC5':Hid (RCiphB w.heap.size w5 d (4*(4+7)) (Aes.up (Aes.rb (Aes.kyl (Seal.k1 K) 4)) (16*(4+7)))):=HC5.out.mono B4.out.size;have BE:Hid (Below w5.heap.size w5 (w5.alloc (.cells #[] 5))):=(Below.refl _ w5).alloc (Nat.le_refl _) _;have BS5:=Lib.hid ((HK2.out _ _ G5.out).old BE.out);have OE:=Lib.hid (own_empty w5 w.heap.size B5.out.size);have BW:=Lib.hid (B5.out.trans (BE.out.mono B5.out.size));clear hb5 HN HC5))
 go_wp2_with (at_builtin;refine append_bts _ _ (Seal.k2 K) w.heap.size _ 0 [] _ 32 32 rfl rfl (Seal.k2_len K) BS5.out OE.out (by omega) BW.out.size ?_;intro v6 w6 ho6 hg6;have B6:Hid (Below w.heap.size w w6):=BW.out.grown hg6 BW.out.size (fun q hq=>(OE.out.lt q hq).1);have HC6:Hid (RCiphB w.heap.size w6 d (4*(4+7)) (Aes.up (Aes.rb (Aes.kyl (Seal.k1 K) 4)) (16*(4+7)))):=HC5'.out.grown _ hg6;rw [List.nil_append] at ho6;obtain ⟨q6,c6,rfl⟩:=own_some ho6 (by omega);have O6:=Lib.hid ho6;clear ho6 hg6)
 go_ret
 have BZ:Below w6.heap.size w6 (w6.alloc (.cells #[.pointer (some ⟨d,0,none⟩),.slice (some ⟨q6,0,none⟩) 32 c6] 159)):=(Below.refl _ w6).alloc (Nat.le_refl _) _
 obtain ⟨hc1,hc2⟩:=own_cap O6.out
 refine ⟨w6.heap.size,rfl,⟨d,q6,c6,B6.out.size,(O6.out.lt q6 rfl).1,by omega,by unfold maxLen at hc2;omega,heap_alloc_new _ _,fun j hj=>?_,HC6.out.keep BZ⟩,B6.out.trans (BZ.mono B6.out.size)⟩
 have h1:=u8_at O6.out j (by omega)
 exact (BZ.cell (World.block_lt_of_cell? w6 _ h1)).trans h1
end
end Go.Proofs.YtnnalemboeccbaaGreatDoor

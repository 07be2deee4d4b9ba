/-
  DkF, DkG, DkH, DkI (merged)
-/
import Derived.Test.YtnnalemboeccbaaGreatDoorDk1
import Derived.Test.YtnnalemboeccbaaGreatDoorProg
import Derived.Sort.OwnSortedInts
import Derived.Maps.AppendAt
namespace Go.Proofs.YtnnalemboeccbaaGreatDoor

/-! DkF:  -/
section
open Go.RowKit
section
variable {w y z:World} {T T':Nat→Prop} {d lb rb cb i:Nat} {m:Dk.M} {v:Value} {L:List Int} {F:Nat→Option Value} {A:Array Value}
theorem DkAt.u8 (h:DkAt y T d lb rb cb m) (hm:Mv [d,lb,rb,cb] y z) (g:Nat) (cur:Array Value) (_hg:T g) (h2:y.heap[g]?=some (.cells cur 5 (0,0))):z.heap[g]?=y.heap[g]?:=by
 obtain ⟨A,a1,_⟩:=h.lst
 obtain ⟨F,b1,_⟩:=h.csh
 obtain ⟨es,clock,b1⟩:=b1.isMap
 have r:=h.row
 have q:=h.rds
 refine hm.block g (lt_of_block h2) (fun hin=>?_)
 simp only [List.mem_cons,List.not_mem_nil,or_false] at hin
 rcases hin with rfl | rfl | rfl | rfl
 ·rw [r] at h2;injection Option.some.inj h2 with _ h3 _;exact absurd h3 (by decide)
 ·rw [a1] at h2;injection Option.some.inj h2 with _ h3 _;exact absurd h3 (by decide)
 ·rw [q] at h2;injection Option.some.inj h2 with _ h3 _;exact absurd h3 (by decide)
 ·rw [b1] at h2;cases h2
theorem DkAt.byt (h:DkAt y T d lb rb cb m) {g o:Nat} {x:Int} (hc:y.cell? ⟨g,o,none⟩=some (.int .u8 x)):g∉[d,lb,rb,cb]:=by
 obtain ⟨A,a1,a2,a3⟩:=h.lst
 obtain ⟨F,b1,_⟩:=h.csh
 obtain ⟨es,clock,b1⟩:=b1.isMap
 intro hin
 simp only [List.mem_cons,List.not_mem_nil,or_false] at hin
 rcases hin with rfl | rfl | rfl | rfl
 ·rw [cell_of_row y g o _ _ _ h.row] at hc
  match o,hc with
  | 0,hc=>cases hc
  | 1,hc=>cases hc
  | 2,hc=>cases hc
  | 3,hc=>cases hc
  | 4,hc=>cases hc
  | 5,hc=>cases hc
  | n+6,hc=>simp at hc
 ·rw [cell_of_row y g o _ _ _ a1] at hc
  have ho:o<A.size:=(Array.getElem?_eq_some_iff.1 hc).1
  obtain ⟨v,c1,c2⟩:=a3 o (by omega)
  obtain ⟨p,c,rfl,_⟩:=c2.bs
  rw [c1] at hc
  cases hc
 ·rw [cell_of_row y g o _ _ _ h.rds] at hc
  simp at hc
 ·simp [World.cell?,b1] at hc
theorem DkAt.bs {p:Option Addr} {c:Nat} (h:DkAt y T d lb rb cb m) (hb:Bs y p c L) (hm:Mv [d,lb,rb,cb] y z):Bs z p c L :=
 ⟨⟨hb.bat.1,fun h0=>by
  obtain ⟨ab,ao,h1,h2⟩:=hb.bat.2 h0
  refine ⟨ab,ao,h1,fun j hj=>?_⟩
  rw [World.cell?_of_block (hm.block ab (World.block_lt_of_cell? _ _ (h2 j hj)) (h.byt (h2 j hj)))]
  exact h2 j hj⟩,hb.cap,hb.nil⟩
theorem Mv.more {ks js:List Nat} (h:Mv ks y z) (hs:∀ k∈ks,k∈js):Mv js y z:=⟨h.os,h.tape,h.output,h.size,fun k hk hn=>h.block k hk (fun e=>hn (hs k e))⟩
def CaAt (y:World) (T:Nat→Prop) (m:Dk.M) (F:Nat→Option Value):Prop:=∀ i,(m.ca i=none→F i=none)∧∀ L,m.ca i=some L→∃ v,F i=some v∧Sec y T v L
theorem DkAt.put (h:DkAt y T d lb rb cb m) (hT:∀ g,T g→T' g) (ht:∀ g,T' g→g<z.heap.size) (hm:Mv [lb,cb] y z) (hA:y.heap[lb]?=some (.cells A 22 (0,0))) (hz:z.heap[lb]?=some (.cells (A.setIfInBounds i v) 22 (0,0)))
  (hF:CaAt y T m F) (hc:MapAt z cb m.wr (upd F i none)) (hi:i<m.n) (hs:Sec z T' v L) (hL:L.length≤1024):DkAt z T' d lb rb cb { m with ls:=upd m.ls i L,ca:=upd m.ca i none }:=by
 have hm4:Mv [d,lb,rb,cb] y z:=hm.more (fun k hk=>by simp at hk ⊢;rcases hk with rfl | rfl<;>simp)
 have hu:=h.u8 hm4
 have ne:=h.ne
 have lt:=h.lt
 have hty:=h.top
 obtain ⟨A',a1,a2,a3⟩:=h.lst
 rw [hA] at a1
 obtain rfl:A=A':=by injection Option.some.inj a1
 obtain ⟨o1,o2,o3,o4,o5,o6⟩:=h.ok
 refine ⟨⟨hT _ lt.1,hT _ lt.2.1,hT _ lt.2.2.1,hT _ lt.2.2.2⟩,ht,(hm.block d (hty _ lt.1) (by simp;omega)).trans h.row,⟨_,hz,by simpa using a2,fun j hj=>?_⟩,⟨_,hc,fun j=>?_⟩,(hm.block rb (hty _ lt.2.2.1) (by simp;omega)).trans h.rds,⟨o1,o2,fun j hj=>?_,o4,fun j=>?_,fun j X hX=>?_⟩⟩
 ·obtain ⟨u,c1,c2⟩:=a3 j hj
  by_cases hji:j=i
  ·subst hji
   refine ⟨v,?_,?_⟩
   ·rw [Array.getElem?_setIfInBounds_self_of_lt (by omega)]
   ·show Sec z T' v (upd m.ls j L j)
    rw [upd_same]
    exact hs
  ·refine ⟨u,?_,?_⟩
   ·rw [Array.getElem?_setIfInBounds_ne (fun e=>hji e.symm)]
    exact c1
   ·show Sec z T' u (upd m.ls i L j)
    rw [upd_other _ _ hji]
    exact (c2.keep hu).lift hT
 ·by_cases hji:j=i
  ·subst hji
   show (upd m.ca j none j=none→upd F j none j=none)∧∀ X,upd m.ca j none j=some X→_
   rw [upd_same,upd_same]
   exact ⟨fun _=>rfl,fun X hX=>by cases hX⟩
  ·show (upd m.ca i none j=none→upd F i none j=none)∧∀ X,upd m.ca i none j=some X→∃ v,upd F i none j=some v∧_
   rw [upd_other _ _ hji,upd_other _ _ hji]
   refine ⟨(hF j).1,fun X hX=>?_⟩
   obtain ⟨u,c1,c2⟩:=(hF j).2 X hX
   exact ⟨u,c1,(c2.keep hu).lift hT⟩
 ·show upd m.ca i none j=none
  rw [upd_other _ _ (by have:m.n≤j:=hj;omega)]
  exact o3 j hj
 ·show (upd m.ls i L j).length≤1024
  by_cases hji:j=i
  ·rw [hji,upd_same];exact hL
  ·rw [upd_other _ _ hji];exact o5 j
 ·by_cases hji:j=i
  ·rw [hji] at hX
   have hX':upd m.ca i none i=some X:=hX
   rw [upd_same] at hX'
   cases hX'
  ·have hX':upd m.ca i none j=some X:=hX
   rw [upd_other _ _ hji] at hX'
   exact o6 j X hX'
theorem DkAt.cached (h:DkAt y T d lb rb cb m) (hT:∀ g,T g→T' g) (ht:∀ g,T' g→g<z.heap.size) (hm:Mv [d,cb] y z) (hr:z.heap[d]?=some (.cells #[.slice (some ⟨lb,0,none⟩) m.n m.n,.map (some cb),.slice (some ⟨rb,0,none⟩) m.n m.n,.int .i64 ((m.wr+1:Nat):Int),.int .i64 m.left,.bool m.down] 91 (0,0)))
  (hF:CaAt y T m F) (hc:MapAt z cb (m.wr+1) (upd F i (some v))) (hi:i<m.n) (hs:Sec z T' v L) (hL:L.length≤1024):DkAt z T' d lb rb cb { m with ca:=upd m.ca i (some L),wr:=m.wr+1 }:=by
 have hm4:Mv [d,lb,rb,cb] y z:=hm.more (fun k hk=>by simp at hk ⊢;rcases hk with rfl | rfl<;>simp)
 have hu:=h.u8 hm4
 have ne:=h.ne
 have lt:=h.lt
 have hty:=h.top
 obtain ⟨A,a1,a2,a3⟩:=h.lst
 obtain ⟨o1,o2,o3,o4,o5,o6⟩:=h.ok
 refine ⟨⟨hT _ lt.1,hT _ lt.2.1,hT _ lt.2.2.1,hT _ lt.2.2.2⟩,ht,hr,⟨A,(hm.block lb (hty _ lt.2.1) (by simp;omega)).trans a1,a2,fun j hj=>?_⟩,⟨_,hc,fun j=>?_⟩,(hm.block rb (hty _ lt.2.2.1) (by simp;omega)).trans h.rds,⟨o1,o2,fun j hj=>?_,o4,o5,fun j X hX=>?_⟩⟩
 ·obtain ⟨u,c1,c2⟩:=a3 j hj
  exact ⟨u,c1,(c2.keep hu).lift hT⟩
 ·by_cases hji:j=i
  ·subst hji
   show (upd m.ca j (some L) j=none→upd F j (some v) j=none)∧∀ X,upd m.ca j (some L) j=some X→∃ u,upd F j (some v) j=some u∧_
   rw [upd_same,upd_same]
   exact ⟨fun q=>(by cases q),fun X hX=>(by cases hX;exact ⟨v,rfl,hs⟩)⟩
  ·show (upd m.ca i (some L) j=none→upd F i (some v) j=none)∧∀ X,upd m.ca i (some L) j=some X→∃ u,upd F i (some v) j=some u∧_
   rw [upd_other _ _ hji,upd_other _ _ hji]
   refine ⟨(hF j).1,fun X hX=>?_⟩
   obtain ⟨u,c1,c2⟩:=(hF j).2 X hX
   exact ⟨u,c1,(c2.keep hu).lift hT⟩
 ·show upd m.ca i (some L) j=none
  rw [upd_other _ _ (by have:m.n≤j:=hj;omega)]
  exact o3 j hj
 ·by_cases hji:j=i
  ·rw [hji] at hX
   have hX':upd m.ca i (some L) i=some X:=hX
   rw [upd_same] at hX'
   cases hX'
   exact hL
  ·have hX':upd m.ca i (some L) j=some X:=hX
   rw [upd_other _ _ hji] at hX'
   exact o6 j X hX'
end
end

/-! DkG:  -/
section
open Go.RowKit
namespace Dk
def wrE (m:M) (i:Int) (L:List Int):Int:=if m.down then 12 else if fault m i L ≠ 0 then fault m i L else spendE m
def wrM (m:M) (i:Int) (L:List Int):M:=if m.down then m else if fault m i L ≠ 0 then m else if gone m then spend m else { spend m with ca:=upd m.ca i.toNat (some L),wr:=m.wr+1 }
theorem spend_n (m:M):(spend m).n=m.n:=by unfold spend;split<;>rfl
theorem spend_ca (m:M):(spend m).ca=m.ca:=by unfold spend;split<;>rfl
theorem spend_wr (m:M):(spend m).wr=m.wr:=by unfold spend;split<;>rfl
theorem here_of {m:M} {i:Int} (h:here m i=true):∃ j:Nat,i=(j:Int)∧j<m.n:=by
 unfold here at h
 simp at h
 exact ⟨i.toNat,by omega,by omega⟩
theorem fault_ok {m:M} {i:Int} {L:List Int} (h:fault m i L=0):here m i=true∧L.length≤1024:=by
 unfold fault at h
 cases hh:here m i with
 | false=>rw [hh] at h;simp at h
 | true =>
  rw [hh] at h
  by_cases hl:1024<L.length
  ·simp [hl] at h
  ·exact ⟨rfl,by omega⟩
end Dk
def Own (T:Nat→Prop) (w w':World):Nat→Prop:=fun g=>T g∨(w.heap.size≤g∧g<w'.heap.size)
def WSay (T:Nat→Prop) (d lb rb cb:Nat) (v:Value) (m':Dk.M) (w:World) (e:Ending) (w':World):Prop:=e = .returned v∧Hid (DkAt w' (Own T w w') d lb rb cb m')∧Hid (Mv [d,lb,rb,cb] w w')
section
variable {T:Nat→Prop} {d lb rb cb:Nat} {m:Dk.M}
theorem DkAt.own {w y:World} (h:DkAt y T d lb rb cb m):DkAt y (Own T w y) d lb rb cb m:=h.lift (fun _ h=>Or.inl h) (fun g hg=>by
 rcases hg with h1 | h1
 ·exact h.top g h1
 ·exact h1.2)
set_option maxHeartbeats 2000000 in
set_option maxRecDepth 100000 in
theorem write_any (i:Int) (L:List Int) (p:Option Addr) (n c:Nat) (hn:L.length=n) (hnb:n≤1000000) (hwr:m.wr≤1000000000) (w:World) (hd:DkAt w T d lb rb cb m) (hb:Bs w p c L) :
  Calls Tryz.prog 77 #[.pointer (some ⟨d,0,none⟩),.int .i64 i,.slice p n c] w (WSay T d lb rb cb (.int .i64 (Dk.wrE m i L)) (Dk.wrM m i L) w):=by
 obtain ⟨c0,c1,c2,c3,c4,c5⟩:=hd.cells
 clear c0 c1 c2 c3 c4
 have HD:=Lib.hid hd;clear hd
 have HB:=Lib.hid hb;clear hb
 cases hdn:m.down with
 | true =>
  have e1:Dk.wrE m i L=12:=by unfold Dk.wrE;rw [if_pos hdn]
  have e2:Dk.wrM m i L=m:=by unfold Dk.wrM;rw [if_pos hdn]
  rw [hdn] at c5
  go_enter Tryz.func77,Tryz.ntmps77
  go_wp2
  go_ret
  refine ⟨by first | rfl | (rw [e1];rfl),Lib.hid ?_,Lib.hid (Mv.refl _ _)⟩
  rw [e2]
  exact HD.out.own
 | false =>
  rw [hdn] at c5
  by_cases hf:Dk.fault m i L=0
  ·obtain ⟨hh,hL⟩:=Dk.fault_ok hf
   obtain ⟨j,rfl,hj⟩:=Dk.here_of hh
   cases hg:Dk.gone m with
   | true =>
    have e1:Dk.wrE m j L=12:=by unfold Dk.wrE Dk.spendE;rw [hdn,if_neg (by decide),if_neg (by rw [hf];decide),if_pos hg]
    have e2:Dk.wrM m j L=Dk.spend m:=by unfold Dk.wrM;rw [hdn,if_neg (by decide),if_neg (by rw [hf];decide),if_pos hg]
    have e3:Dk.spendE m=12:=by unfold Dk.spendE;rw [if_pos hg]
    go_enter Tryz.func77,Tryz.ntmps77
    go_wp2_with (first
     | (go_at_call 84;refine (fault_any _ L p n c hn _ HD.out).mono ?_;rw [hf];rintro e w1 ⟨rfl,rfl⟩)
     | (go_at_call 96;refine (spend_any _ HD.out).mono ?_;rw [e3];rintro e w2 ⟨rfl,hd2,hm2⟩;have HM2:=Lib.hid hm2;clear hm2))
    go_ret
    refine ⟨by first | rfl | (rw [e1];rfl),Lib.hid ?_,Lib.hid (HM2.out.more (fun k hk=>by simp at hk ⊢;exact Or.inl hk))⟩
    rw [e2]
    exact hd2.out.own
   | false =>
    have e1:Dk.wrE m j L=0:=by unfold Dk.wrE Dk.spendE;rw [hdn,if_neg (by decide),if_neg (by rw [hf];decide),hg];rfl
    have e2:Dk.wrM m j L = { Dk.spend m with ca:=upd (Dk.spend m).ca j (some L),wr:=(Dk.spend m).wr+1 }:=by unfold Dk.wrM;rw [hdn,if_neg (by decide),if_neg (by rw [hf];decide),hg,Dk.spend_ca,Dk.spend_wr];rfl
    have e3:Dk.spendE m=0:=by unfold Dk.spendE;rw [hg];rfl
    obtain ⟨m2,hm2e⟩:∃ m2,Hid (Dk.spend m=m2):=⟨_,rfl⟩
    have h0:(0:Int)≤(j:Int):=by omega
    have hj2:j<m2.n:=by rw [← hm2e.out,Dk.spend_n];exact hj
    have hwr2:m2.wr≤1000000000:=by rw [← hm2e.out,Dk.spend_wr];exact hwr
    go_enter Tryz.func77,Tryz.ntmps77
    go_upto_region 9 with (first
     | (go_at_call 84;refine (fault_any _ L p n c hn _ HD.out).mono ?_;rw [hf];rintro e w1 ⟨rfl,rfl⟩)
     | (go_at_call 96;refine (spend_any _ HD.out).mono ?_;rw [e3];rintro e w2 ⟨rfl,hd2,hmv2⟩;rw [hm2e.out] at hd2;have HM2:=Lib.hid hmv2;clear hmv2))
    have HBS:Hid (Bs w2.drew p c L):=(HD.out.bs HB.out (HM2.out.more (fun k hk=>by simp at hk ⊢;exact Or.inl hk))).drew
    have HD2:=Lib.hid hd2.out
    have k1:=hd2.out.cells.2.1
    have k3:=hd2.out.cells.2.2.2.1
    clear hd2
    obtain ⟨F,hF1,hF2⟩:=HD2.out.csh
    have HF:=Lib.hid (show MapAt w2 cb m2.wr F∧CaAt w2 T m2 F from ⟨hF1,hF2⟩)
    clear hF1 hF2
    go_region_held3 (fun y=>y.cell? ⟨d,1,none⟩=some (.map (some cb)))
     (first | exact k1 | exact kb.out | exact kc.out)
     ((go_at_call 58;refine (clone_anyD L p n c hn hnb _ HBS.out).mono ?_;rintro e w4 ⟨v4,rfl,ho4,hb4⟩;have B4:Hid (Below w2.heap.size w2 w4):=((Below.refl _ w2).drew).trans hb4;have O4:=Lib.hid ho4;have kb:Hid (w4.cell? ⟨d,1,none⟩=some (.map (some cb))):=(B4.out.cell (World.block_lt_of_cell? _ _ k1)).trans k1;obtain ⟨w5,hrun,hmp,htn⟩:=(HF.out.1.keep (B4.out.block _ HF.out.1.lt)).store Tryz.mapTy j (by have:=HD2.out.ok.n2;omega) v4 (by unfold maxLen;omega);have HMP:=Lib.hid hmp;have HTN:=Lib.hid htn;have kc:Hid (w5.cell? ⟨d,1,none⟩=some (.map (some cb))):=(World.cell?_of_block (htn.grown.block d (World.block_lt_of_cell? _ _ kb.out) (fun e=>HD2.out.ne.2.2.1 (Option.some.inj e)))).trans kb.out;clear hmp htn ho4 hb4))
    have hlt:=HD2.out.top _ HD2.out.lt.1
    have hltc:=HD2.out.top _ HD2.out.lt.2.2.2
    have hnc:=HD2.out.ne.2.2.1
    have M5:Hid (Mv [d,cb] w2 w5):=(Mv.of_below B4.out).trans (Mv.turned HTN.out (by simp))
    have r5:Hid (w5.heap[d]?=w2.heap[d]?):=(HTN.out.grown.block d (Nat.lt_of_lt_of_le hlt B4.out.size) (fun e=>hnc (Option.some.inj e))).trans (B4.out.block d hlt)
    have R5:=Lib.hid (r5.out.trans HD2.out.row)
    have c3:w5.cell? ⟨d,3,none⟩=some (.int .i64 (m2.wr:Int)):=by rw [cell_of_row w5 d 3 _ _ _ R5.out];rfl
    have f3:=frozen_of_row w5 d 3 _ _ R5.out
    have hw1:IntKind.i64.wrap ((m2.wr:Int)+1)=(m2.wr:Int)+1:=IntWalk.i64_in _ ⟨by omega,by omega⟩
    clear k1 k3 kb kc r5
    go_wp2
    go_ret
    have hset:=heap_setCell_same w5 d 3 _ _ (.int .i64 ((m2.wr:Int)+1)) R5.out
    have M6:Mv [d,cb] w2 (w5.setCell ⟨d,3,none⟩ (.int .i64 ((m2.wr:Int)+1))):=M5.out.setCell _ _ (by simp)
    have M7:Mv [d,lb,rb,cb] w1 (w5.setCell ⟨d,3,none⟩ (.int .i64 ((m2.wr:Int)+1))):=(HM2.out.more (fun k hk=>by simp at hk ⊢;exact Or.inl hk)).trans (M6.more (fun k hk=>by simp at hk ⊢;rcases hk with rfl | rfl<;>simp))
    refine ⟨by first | rfl | (rw [e1];rfl),Lib.hid ?_,Lib.hid M7⟩
    rw [e2,hm2e.out]
    have hO:=O4.out
    have hlo:∀ g,v4.ownBlock=some g→w2.heap.size≤g∧g<w4.heap.size:=fun g hg=>hO.lt g hg
    have hk:∀ g,v4.ownBlock=some g→(w5.setCell ⟨d,3,none⟩ (.int .i64 ((m2.wr:Int)+1))).heap[g]?=w4.heap[g]?:=fun g hg=>by
     have h:=hlo g hg
     rw [heap_setCell_other w5 ⟨d,3,none⟩ g _ (show g ≠ d by omega)]
     exact HTN.out.grown.block g h.2 (fun e=>by have:=Option.some.inj e;omega)
    have hsz:w4.heap.size≤(w5.setCell ⟨d,3,none⟩ (.int .i64 ((m2.wr:Int)+1))).heap.size:=by have:=HTN.out.grown.size;simp;exact this
    have h12:=HM2.out.size
    refine HD2.out.cached (fun _ h=>Or.inl h) (fun g hg=>?_) M6 (by rw [hset];simp) HF.out.2 (HMP.out.keep (heap_setCell_other w5 ⟨d,3,none⟩ cb _ (fun e=>hnc e.symm))) hj2 ?_ hL
    ·rcases hg with h | h
     ·exact Nat.lt_of_lt_of_le (HD2.out.top g h) M6.size
     ·exact h.2
    ·refine ⟨own_keepB ?_ hk,HB.out.bat.1,fun g hg=>Or.inr ?_⟩
     ·rw [hn]
      exact own_baseD hO (Nat.zero_le _)
     ·have h:=hlo g hg
      exact ⟨by omega,by omega⟩
  ·have e1:Dk.wrE m i L=Dk.fault m i L:=by unfold Dk.wrE;rw [hdn,if_neg (by decide),if_pos hf]
   have e2:Dk.wrM m i L=m:=by unfold Dk.wrM;rw [hdn,if_neg (by decide),if_pos hf]
   have hf':(Dk.fault m i L==0)=false:=by simpa using hf
   go_enter Tryz.func77,Tryz.ntmps77
   go_wp2_with (go_at_call 84;refine (fault_any _ L p n c hn _ HD.out).mono ?_;rintro e w1 ⟨rfl,rfl⟩)
   go_ret
   refine ⟨by first | rfl | (rw [e1];rfl),Lib.hid ?_,Lib.hid (Mv.refl _ _)⟩
   rw [e2]
   exact HD.out.own
end
end

/-! DkH:  -/
section
open Go.RowKit
namespace Dk
def tpM (m:M) (i:Int) (L:List Int):M:=if fault m i L=0 then { m with ls:=upd m.ls i.toNat L,ca:=upd m.ca i.toNat none } else m
def rdE (m:M) (i:Int):Int:=if here m i then 0 else 7
def peek (m:M) (j:Nat):List Int:=(m.ca j).getD (m.ls j)
def rdX (m:M) (i:Int):List Int:=if here m i then peek m i.toNat else []
def rdM (m:M) (i:Int):M:=if here m i then { m with rd:=upd m.rd i.toNat (m.rd i.toNat+1) } else m
end Dk
section
variable {T:Nat→Prop} {d lb rb cb:Nat} {m:Dk.M}
set_option maxHeartbeats 2000000 in
set_option maxRecDepth 100000 in
theorem tamper_any (i:Int) (L:List Int) (p:Option Addr) (n c:Nat) (hn:L.length=n) (hnb:n≤1000000) (w:World) (hd:DkAt w T d lb rb cb m) (hb:Bs w p c L) :
  Calls Tryz.prog 39 #[.pointer (some ⟨d,0,none⟩),.int .i64 i,.slice p n c] w (WSay T d lb rb cb (.int .i64 (Dk.fault m i L)) (Dk.tpM m i L) w):=by
 by_cases hf:Dk.fault m i L=0
 ·obtain ⟨hh,hL⟩:=Dk.fault_ok hf
  obtain ⟨j,rfl,hj⟩:=Dk.here_of hh
  have e2:Dk.tpM m j L = { m with ls:=upd m.ls j L,ca:=upd m.ca j none }:=by unfold Dk.tpM;rw [if_pos hf];rfl
  have k0:=hd.cells.1
  obtain ⟨A,hA1,hA2,_⟩:=hd.lst
  obtain ⟨F,hF1,hF2⟩:=hd.csh
  have HF:=Lib.hid (show MapAt w cb m.wr F∧CaAt w T m F from ⟨hF1,hF2⟩)
  have HA:=Lib.hid hA1
  have HAS:=Lib.hid hA2
  have HD:=Lib.hid hd
  have HB:=Lib.hid hb
  have HBD:=Lib.hid hb.drew
  have hl1:(0:Int)≤(j:Int):=by omega
  have hl2:(j:Int)<(m.n:Int):=by omega
  have ne:=hd.ne
  have HNE:=Lib.hid hd.ne
  have hltb:=hd.top _ hd.lt.2.1
  have hltc:=hd.top _ hd.lt.2.2.2
  have hltd:=hd.top _ hd.lt.1
  have hn2:=hd.ok.n2
  obtain ⟨a0,ha0⟩:∃ a0,A[j]?=some a0:=⟨A[j]'(by omega),Array.getElem?_eq_getElem _⟩
  clear hd hb hA1 hA2 hF1 hF2 ne
  go_enter Tryz.func39,Tryz.ntmps39
  go_upto_region 4 with (go_at_call 84;refine (fault_any _ L p n c hn _ HD.out).mono ?_;rw [hf];rintro e w1 ⟨rfl,rfl⟩)
  go_region_held3 (fun y=>y.cell? ⟨d,0,none⟩=some (.slice (some ⟨lb,0,none⟩) m.n m.n))
   (first | exact k0 | exact kb.out | exact kc.out _)
   ((go_at_call 58;refine (clone_anyD L p n c hn hnb _ HBD.out).mono ?_;rintro e w4 ⟨v4,rfl,ho4,hb4⟩;obtain ⟨p4,c4,rfl,_,_⟩:=own_bs ho4 HB.out.bat.1;have B4:Hid (Below w1.heap.size w1 w4):=((Below.refl _ w1).drew).trans hb4;have O4:=Lib.hid ho4;have kb:Hid (w4.cell? ⟨d,0,none⟩=some (.slice (some ⟨lb,0,none⟩) m.n m.n)):=(B4.out.cell (World.block_lt_of_cell? _ _ k0)).trans k0;have HA4:Hid (w4.heap[lb]?=some (.cells A 22 (0,0))):=(B4.out.block _ hltb).trans HA.out;have t4:w4.cell? ⟨lb,j,none⟩=some a0:=(cell_of_row w4 lb j _ _ _ HA4.out).trans ha0;have f4:=frozen_of_row w4 lb j _ _ HA4.out;have kc:Hid (∀ u,(w4.setCell ⟨lb,j,none⟩ u).cell? ⟨d,0,none⟩=some (.slice (some ⟨lb,0,none⟩) m.n m.n)):=fun u=>(World.cell?_of_block (heap_setCell_other w4 ⟨lb,j,none⟩ d _ HNE.out.1)).trans kb.out;clear ho4 hb4))
  obtain ⟨w5,HW5⟩:∃ y:World,Hid (w4.setCell ⟨lb,j,none⟩ (.slice p4 n c4)=y):=⟨_,rfl⟩
  have hset:=heap_setCell_same w4 lb j _ _ (.slice p4 n c4) HA4.out
  have M5:Hid (Mv [lb,cb] w1 w5):=by show Mv _ _ _;rw [← HW5.out];exact (Mv.of_below B4.out).setCell _ _ (by simp)
  have O5:Hid (∀ k,k ≠ lb→w5.heap[k]?=w4.heap[k]?):=fun k hk=>by rw [← HW5.out];exact heap_setCell_other w4 ⟨lb,j,none⟩ k _ hk
  have S5:Hid (w4.heap.size≤w5.heap.size):=by show _≤_;rw [← HW5.out];simp
  rw [HW5.out] at hset ⊢
  have L5:=Lib.hid hset
  have k1:w5.cell? ⟨d,1,none⟩=some (.map (some cb)):=(World.cell?_of_block ((O5.out d HNE.out.1).trans (B4.out.block d hltd))).trans HD.out.cells.2.1
  have HMC:Hid (MapAt w5 cb m.wr F):=HF.out.1.keep ((O5.out cb (fun e=>HNE.out.2.2.2.2.1 e.symm)).trans (B4.out.block cb hltc))
  clear HW5 hset k0 kb kc t4 f4
  go_wp2_with (at_delete;obtain ⟨w6,hrun,hmp,htn⟩:=HMC.out.drop Tryz.mapTy j (by omega) _;refine wpList_del rfl _ _ _ _ rfl cb _ rfl rfl w6 hrun ?_;have HMP:=Lib.hid hmp;have HTN:=Lib.hid htn;clear hmp htn hrun)
  go_ret
  have M6:Mv [lb,cb] w1 w6:=M5.out.trans (Mv.turned HTN.out (by simp))
  have M7:Mv [d,lb,rb,cb] w1 w6:=M6.more (fun k hk=>by simp at hk ⊢;rcases hk with rfl | rfl<;>simp)
  have hO:=O4.out
  have hlo:∀ g,(Value.slice p4 n c4).ownBlock=some g→w1.heap.size≤g∧g<w4.heap.size:=fun g hg=>by
   have h:=hO.lt g (by rw [hn];exact hg)
   exact h
  have hk:∀ g,(Value.slice p4 n c4).ownBlock=some g→w6.heap[g]?=w4.heap[g]?:=fun g hg=>by
   have h:=hlo g hg
   have h2:=S5.out
   exact (HTN.out.grown.block g (by omega) (fun e=>by have:=Option.some.inj e;omega)).trans (O5.out g (by omega))
  have hsz:=HTN.out.grown.size
  refine ⟨by rw [hf];rfl,Lib.hid ?_,Lib.hid M7⟩
  rw [e2]
  refine HD.out.put (fun _ h=>Or.inl h) (fun g hg=>?_) M6 HA.out ((HTN.out.grown.block lb (lt_of_block L5.out) (fun e=>HNE.out.2.2.2.2.1 (Option.some.inj e))).trans L5.out) HF.out.2 HMP.out hj ?_ hL
  ·rcases hg with h | h
   ·exact Nat.lt_of_lt_of_le (HD.out.top g h) M6.size
   ·exact h.2
  ·refine ⟨own_keepB (v:=.slice p4 n c4) ?_ hk,HB.out.bat.1,fun g hg=>Or.inr ?_⟩
   ·rw [hn]
    have h:=own_baseD hO (Nat.zero_le _)
    rw [hn] at h
    exact h
   ·have h:=hlo g hg
    have h2:=S5.out
    exact ⟨by omega,by omega⟩
 ·have e2:Dk.tpM m i L=m:=by unfold Dk.tpM;rw [if_neg hf]
  have hf':(Dk.fault m i L==0)=false:=by simpa using hf
  have HD:=Lib.hid hd;clear hd
  go_enter Tryz.func39,Tryz.ntmps39
  go_wp2_with (go_at_call 84;refine (fault_any _ L p n c hn _ HD.out).mono ?_;rintro e w1 ⟨rfl,rfl⟩)
  go_ret
  refine ⟨rfl,Lib.hid ?_,Lib.hid (Mv.refl _ _)⟩
  rw [e2]
  exact HD.out.own
def RdSayD (T:Nat→Prop) (d lb rb cb:Nat) (m:Dk.M) (i:Int) (w:World) (e:Ending) (w':World):Prop:=∃ v,e = .returned (.tuple #[v,.int .i64 (Dk.rdE m i)])∧Hid (w'.ownsRow w.heap.size 5 1 v (Dk.rdX m i).length (U8s (Dk.rdX m i))∧Sha.Byt (Dk.rdX m i))∧Hid (DkAt w' T d lb rb cb (Dk.rdM m i))∧Hid (Mv [d,lb,rb,cb] w w')
theorem DkAt.counted {y z:World} {j:Nat} (h:DkAt y T d lb rb cb m) (hm:Mv [rb] y z) (hr:z.heap[rb]?=some (.cells (((List.range m.n).map fun i=>Value.int .i64 (m.rd i:Int)).toArray.setIfInBounds j (.int .i64 ((m.rd j:Int)+1))) 3 (0,0))) (hj:j<m.n) :
  DkAt z T d lb rb cb { m with rd:=upd m.rd j (m.rd j+1) }:=by
 have ne:=h.ne
 have lt:=h.lt
 have hm4:Mv [d,lb,rb,cb] y z:=hm.more (fun k hk=>by simp at hk ⊢;subst hk;simp)
 have hu:=h.u8 hm4
 have key:∀ g,T g→g ≠ rb→z.heap[g]?=y.heap[g]?:=fun g hg hn=>hm.block g (h.top g hg) (by simpa using hn)
 obtain ⟨A,a1,a2,a3⟩:=h.lst
 obtain ⟨F,b1,b2⟩:=h.csh
 obtain ⟨o1,o2,o3,o4,o5,o6⟩:=h.ok
 refine ⟨lt,fun g hg=>Nat.lt_of_lt_of_le (h.top g hg) hm.size,(key d lt.1 ne.2.1).trans h.row,⟨A,(key lb lt.2.1 ne.2.2.2.1).trans a1,a2,fun i hi=>?_⟩,⟨F,b1.keep (key cb lt.2.2.2 (fun e=>ne.2.2.2.2.2 e.symm)),fun i=>⟨(b2 i).1,fun L hL=>?_⟩⟩,?_,⟨o1,o2,o3,o4,o5,o6⟩⟩
 ·obtain ⟨v,c1,c2⟩:=a3 i hi
  exact ⟨v,c1,c2.keep hu⟩
 ·obtain ⟨v,c1,c2⟩:=(b2 i).2 L hL
  exact ⟨v,c1,c2.keep hu⟩
 ·rw [hr]
  congr 2
  apply Array.ext_getElem?
  intro k
  by_cases hkj:k=j
  ·subst hkj
   rw [Array.getElem?_setIfInBounds_self_of_lt (by simpa using hj)]
   simp [hj,upd_same]
  ·rw [Array.getElem?_setIfInBounds_ne (fun e=>hkj e.symm)]
   by_cases hk:k<m.n
   ·simp [hk,upd_other _ _ hkj]
   ·simp [hk]
set_option maxHeartbeats 2000000 in
set_option maxRecDepth 100000 in
theorem read_anyD (i:Int) (w:World) (hd:DkAt w T d lb rb cb m) (hrd:∀ j,m.rd j≤1000000000) :
  Calls Tryz.prog 17 #[.pointer (some ⟨d,0,none⟩),.int .i64 i] w (RdSayD T d lb rb cb m i w):=by
 cases hh:Dk.here m i with
 | false =>
  have e1:Dk.rdE m i=7:=by unfold Dk.rdE;rw [hh];rfl
  have e2:Dk.rdX m i = []:=by unfold Dk.rdX;rw [hh];rfl
  have e3:Dk.rdM m i=m:=by unfold Dk.rdM;rw [hh];rfl
  have HD:=Lib.hid hd;clear hd
  go_enter Tryz.func17,Tryz.ntmps17
  go_wp2_with (go_at_call 57;refine (has_any i _ HD.out).mono ?_;rw [hh];rintro e w1 ⟨rfl,rfl⟩)
  go_ret2
  refine ⟨.slice none 0 0,by rw [e1];rfl,Lib.hid ?_,Lib.hid ?_,Lib.hid (Mv.refl _ _)⟩
  ·rw [e2]
   exact ⟨by unfold U8s;exact World.ownsRow_nil _ _ _ _,fun x hx=>by simp at hx⟩
  ·rw [e3];exact HD.out
 | true =>
  obtain ⟨j,rfl,hj⟩:=Dk.here_of hh
  have e1:Dk.rdE m j=0:=by unfold Dk.rdE;rw [hh];rfl
  have e2:Dk.rdX m j=Dk.peek m j:=by unfold Dk.rdX;rw [hh];rfl
  have e3:Dk.rdM m j = { m with rd:=upd m.rd j (m.rd j+1) }:=by unfold Dk.rdM;rw [hh];rfl
  have k2:=hd.cells.2.2.1
  have ne:=hd.ne
  have c2:w.cell? ⟨rb,j,none⟩=some (.int .i64 (m.rd j:Int)):=by
   rw [cell_of_row w rb j _ _ _ hd.rds]
   simp [hj]
  have f2:=frozen_of_row w rb j _ _ hd.rds
  have hw1:IntKind.i64.wrap ((m.rd j:Int)+1)=(m.rd j:Int)+1:=IntWalk.i64_in _ (by have:=hrd j;constructor<;>omega)
  have hl1:(0:Int)≤(j:Int):=by omega
  have hl2:(j:Int)<(m.n:Int):=by omega
  obtain ⟨w2,hw2⟩:∃ y:World,Hid (w.setCell ⟨rb,j,none⟩ (.int .i64 ((m.rd j:Int)+1))=y):=⟨_,rfl⟩
  have M2:Hid (Mv [rb] w w2):=by show Mv _ _ _;rw [← hw2.out];exact (Mv.refl _ _).setCell _ _ (by simp)
  have D2:Hid (DkAt w2 T d lb rb cb { m with rd:=upd m.rd j (m.rd j+1) }):=by
   refine hd.counted M2.out ?_ hj
   rw [← hw2.out]
   exact heap_setCell_same w rb j _ _ _ hd.rds
  have HD:=Lib.hid hd;clear hd
  have k0:=D2.out.cells.1
  have k1:=D2.out.cells.2.1
  have M4:Hid (Mv [d,lb,rb,cb] w w2):=M2.out.more (fun k hk=>by simp at hk ⊢;subst hk;simp)
  obtain ⟨F,hF1,hF2⟩:=D2.out.csh
  obtain ⟨A,hA1,hA2,hA3⟩:=D2.out.lst
  have hlk:=hF1.look Tryz.mapTy j (by have:=HD.out.ok.n2;omega)
  cases hc:m.ca j with
  | some L =>
   obtain ⟨v,hv,hs⟩:=(hF2 j).2 L hc
   obtain ⟨p,c,rfl,hb⟩:=hs.bs
   have e4:Dk.peek m j=L:=by unfold Dk.peek;rw [hc];rfl
   have hLL:L.length≤1024:=HD.out.ok.cab j L hc
   rw [hv] at hlk
   dsimp only [Option.getD_some,Option.isSome_some] at hlk
   have HB:=Lib.hid hb;clear hb hs hF1 hF2 hA1 hA2 hA3 ne
   go_enter Tryz.func17,Tryz.ntmps17
   go_upto_region 4 with (go_at_call 57;refine (has_any _ _ HD.out).mono ?_;rw [hh];rintro e w1 ⟨rfl,rfl⟩)
   rw [hw2.out]
   go_wp2_with (go_at_call 58;refine (clone_anyD L p L.length c rfl (by omega) _ HB.out).mono ?_;rintro e w4 ⟨v4,rfl,ho4,hb4⟩;have B4:Hid (Below w2.heap.size w2 w4):=hb4;have O4:=Lib.hid ho4;clear ho4 hb4)
   go_ret2
   refine ⟨v4,by rw [e1];rfl,Lib.hid ?_,Lib.hid ?_,Lib.hid (M4.out.trans (Mv.of_below B4.out))⟩
   ·rw [e2,e4]
    exact ⟨own_baseD O4.out M2.out.size,HB.out.bat.1⟩
   ·rw [e3];exact D2.out.old B4.out
  | none =>
   obtain ⟨v,hv,hs⟩:=hA3 j hj
   obtain ⟨p,c,rfl,hb⟩:=hs.bs
   have hs1:({ m with rd:=upd m.rd j (m.rd j+1) }:Dk.M).ls j=m.ls j:=rfl
   have e4:Dk.peek m j=m.ls j:=by unfold Dk.peek;rw [hc];rfl
   have hLL:(m.ls j).length≤1024:=HD.out.ok.lsb j
   rw [(hF2 j).1 hc] at hlk
   dsimp only [Option.getD_none,Option.isSome_none] at hlk
   have c6:w2.cell? ⟨lb,j,none⟩=some (.slice p (m.ls j).length c):=(cell_of_row w2 lb j _ _ _ hA1).trans hv
   have HB:=Lib.hid (show Bs w2 p c (m.ls j) from hb);clear hb hs hF1 hF2 hA1 hA2 hA3 ne hv hs1
   generalize m.ls j=L at *
   go_enter Tryz.func17,Tryz.ntmps17
   go_upto_region 4 with (go_at_call 57;refine (has_any _ _ HD.out).mono ?_;rw [hh];rintro e w1 ⟨rfl,rfl⟩)
   rw [hw2.out]
   go_wp2_with (go_at_call 58;refine (clone_anyD L p L.length c rfl (by omega) _ HB.out).mono ?_;rintro e w4 ⟨v4,rfl,ho4,hb4⟩;have B4:Hid (Below w2.heap.size w2 w4):=hb4;have O4:=Lib.hid ho4;clear ho4 hb4)
   go_ret2
   refine ⟨v4,by rw [e1];rfl,Lib.hid ?_,Lib.hid ?_,Lib.hid (M4.out.trans (Mv.of_below B4.out))⟩
   ·rw [e2,e4]
    exact ⟨own_baseD O4.out M2.out.size,HB.out.bat.1⟩
   ·rw [e3];exact D2.out.old B4.out
end
end

/-! DkI:  -/
section
open Go.RowKit
theorem Tryz.info_int:(Tryz.prog.info? 3).map (fun i=>(i.zero,i.size,i.bytes))=some (some (.int .i64 0),1,8):=by kernel_rfl
end
end Go.Proofs.YtnnalemboeccbaaGreatDoor

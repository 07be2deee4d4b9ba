/-
  DkX4, DkX5, DkX6, DkX7 (merged)
-/
import Derived.Test.YtnnalemboeccbaaGreatDoorDk4
namespace Go.Proofs.YtnnalemboeccbaaGreatDoor

/-! DkX4:  -/
section
open Go.RowKit
def Dk.rl (m:Dk.M):Int:=if m.left<0 then -1 else m.left
structure RfC (y:World) (U:Nat→Prop) (r qb:Nat) (vl vc:Value) (m:Dk.M) (G:Nat→Option (List Int)):Prop where
 lt:U r∧U qb
 top:∀ g,U g→g<y.heap.size
 row:y.heap[r]?=some (.cells #[.int .i64 (m.n:Int),.int .i64 (Dk.rl m),.int .i64 (m.wr:Int),.bool m.down,vl,vc,.slice (some ⟨qb,0,none⟩) m.n m.n] 76 (0,0))
 las:Lst 0 y U vl (Dk.lst G m.n)
 cac:Lst 0 y U vc (Dk.lst m.ca m.n)
 own:(∀ g,vl.ownBlock=some g→U g)∧∀ g,vc.ownBlock=some g→U g
 cnt:y.heap[qb]?=some (.cells ((List.range m.n).map fun i=>Value.int .i64 (m.rd i:Int)).toArray 3 (0,0))
 ls:∀ i,m.ls i=(G i).getD []
 ok:Dk.Ok m
def RfAt (y:World) (U:Nat→Prop) (r qb:Nat) (m:Dk.M):Prop:=∃ vl vc G,RfC y U r qb vl vc m G
section
variable {y z:World} {U U':Nat→Prop} {r qb:Nat} {vl vc:Value} {m:Dk.M} {G:Nat→Option (List Int)}
theorem RfC.ne (h:RfC y U r qb vl vc m G) {g:Nat} {cur:Array Value} {e:TypeId} (hg:y.heap[g]?=some (.cells cur e (0,0))) (he:76 ≠ e):g ≠ r:=fun q=>by
 rw [q,h.row] at hg
 injection Option.some.inj hg with _ h7 _
 exact he h7
theorem RfC.lasK (h:RfC y U r qb vl vc m G) (hk:∀ g,U g→g ≠ r→z.heap[g]?=y.heap[g]?):Lst 0 z U vl (Dk.lst G m.n) :=
 h.las.keep (fun g hg=>by obtain ⟨_,cur,h2⟩:=h.las.type g hg;exact hk g (h.own.1 g hg) (h.ne h2 (by decide))) (fun g cur hg hc=>hk g hg (h.ne hc (by decide)))
theorem RfC.cacK (h:RfC y U r qb vl vc m G) (hk:∀ g,U g→g ≠ r→z.heap[g]?=y.heap[g]?):Lst 0 z U vc (Dk.lst m.ca m.n) :=
 h.cac.keep (fun g hg=>by obtain ⟨_,cur,h2⟩:=h.cac.type g hg;exact hk g (h.own.2 g hg) (h.ne h2 (by decide))) (fun g cur hg hc=>hk g hg (h.ne hc (by decide)))
theorem RfC.cntK (h:RfC y U r qb vl vc m G) (hk:∀ g,U g→g ≠ r→z.heap[g]?=y.heap[g]?):z.heap[qb]?=some (.cells ((List.range m.n).map fun i=>Value.int .i64 (m.rd i:Int)).toArray 3 (0,0)):=(hk qb h.lt.2 (h.ne h.cnt (by decide))).trans h.cnt
theorem RfC.keep (h:RfC y U r qb vl vc m G) (hs:y.heap.size≤z.heap.size) (hk:∀ g,U g→z.heap[g]?=y.heap[g]?):RfC z U r qb vl vc m G :=
 ⟨h.lt,fun g hg=>Nat.lt_of_lt_of_le (h.top g hg) hs,(hk r h.lt.1).trans h.row,h.lasK (fun g hg _=>hk g hg),h.cacK (fun g hg _=>hk g hg),h.own,h.cntK (fun g hg _=>hk g hg),h.ls,h.ok⟩
theorem RfC.lift (h:RfC y U r qb vl vc m G) (hU:∀ g,U g→U' g) (ht:∀ g,U' g→g<y.heap.size):RfC y U' r qb vl vc m G :=
 ⟨⟨hU _ h.lt.1,hU _ h.lt.2⟩,ht,h.row,h.las.lift hU,h.cac.lift hU,⟨fun g hg=>hU g (h.own.1 g hg),fun g hg=>hU g (h.own.2 g hg)⟩,h.cnt,h.ls,h.ok⟩
theorem RfC.cells (h:RfC y U r qb vl vc m G):y.cell? ⟨r,0,none⟩=some (.int .i64 (m.n:Int))∧y.cell? ⟨r,1,none⟩=some (.int .i64 (Dk.rl m))∧y.cell? ⟨r,2,none⟩=some (.int .i64 (m.wr:Int))∧y.cell? ⟨r,3,none⟩=some (.bool m.down)∧y.cell? ⟨r,4,none⟩=some vl∧y.cell? ⟨r,5,none⟩=some vc∧y.cell? ⟨r,6,none⟩=some (.slice (some ⟨qb,0,none⟩) m.n m.n):=by
 refine ⟨?_,?_,?_,?_,?_,?_,?_⟩<;>rw [cell_of_row y r _ _ _ _ h.row]<;>rfl
theorem RfC.row_set (h:RfC y U r qb vl vc m G) {m':Dk.M} (hm:Mv [r] y z) (hr:z.heap[r]?=some (.cells #[.int .i64 (m'.n:Int),.int .i64 (Dk.rl m'),.int .i64 (m'.wr:Int),.bool m'.down,vl,vc,.slice (some ⟨qb,0,none⟩) m.n m.n] 76 (0,0)))
  (hn:m'.n=m.n) (hl:m'.ls=m.ls) (hc:m'.ca=m.ca) (hd:m'.rd=m.rd) (hi:In64 m'.left):RfC z U r qb vl vc m' G:=by
 have hk:∀ g,U g→g ≠ r→z.heap[g]?=y.heap[g]?:=fun g hg hgr=>hm.block g (h.top g hg) (by simpa using hgr)
 obtain ⟨o1,o2,o3,o4,o5,o6⟩:=h.ok
 exact ⟨h.lt,fun g hg=>Nat.lt_of_lt_of_le (h.top g hg) hm.size,by rw [hr,hn],by rw [hn];exact h.lasK hk,by rw [hn,hc];exact h.cacK hk,h.own,by rw [hn,hd];exact h.cntK hk,by rw [hl];exact h.ls,⟨by rw [hn];exact o1,by rw [hn];exact o2,by rw [hn,hc];exact o3,hi,by rw [hl];exact o5,by rw [hc];exact o6⟩⟩
theorem RfAt.keep (h:RfAt y U r qb m) (hs:y.heap.size≤z.heap.size) (hk:∀ g,U g→z.heap[g]?=y.heap[g]?):RfAt z U r qb m:=by
 obtain ⟨vl,vc,G,h⟩:=h
 exact ⟨vl,vc,G,h.keep hs hk⟩
theorem RfAt.lift (h:RfAt y U r qb m) (hU:∀ g,U g→U' g) (ht:∀ g,U' g→g<y.heap.size):RfAt y U' r qb m:=by
 obtain ⟨vl,vc,G,h⟩:=h
 exact ⟨vl,vc,G,h.lift hU ht⟩
theorem RfAt.lt (h:RfAt y U r qb m):U r∧U qb:=by obtain ⟨vl,vc,G,h⟩:=h;exact h.lt
theorem RfAt.top (h:RfAt y U r qb m):∀ g,U g→g<y.heap.size:=by obtain ⟨vl,vc,G,h⟩:=h;exact h.top
theorem RfAt.old (h:RfAt y U r qb m) (hb:Below y.heap.size y z):RfAt z U r qb m:=h.keep hb.size (fun g hg=>hb.block g (h.top g hg))
theorem RfAt.mv {ks:List Nat} (h:RfAt y U r qb m) (hm:Mv ks y z) (hk:∀ k∈ks,¬ U k):RfAt z U r qb m:=h.keep hm.size (fun g hg=>hm.block g (h.top g hg) (fun hin=>hk g hin hg))
theorem RfAt.own (h:RfAt y U r qb m) (x:World):RfAt y (Own U x y) r qb m:=h.lift (fun _ h=>Or.inl h) (fun g hg=>by
 rcases hg with h1 | h1
 ·exact h.top g h1
 ·exact h1.2)
end
def RfSayD (U:Nat→Prop) (r qb:Nat) (v:Value) (m':Dk.M) (w:World) (e:Ending) (w':World):Prop:=e = .returned v∧Hid (RfAt w' (Own U w w') r qb m')∧Hid (Mv [r,qb] w w')
def RfSay0 (U:Nat→Prop) (r qb:Nat) (v:Value) (m':Dk.M) (w:World) (e:Ending) (w':World):Prop:=e = .returned v∧Hid (RfAt w' U r qb m')∧Hid (Mv [r] w w')
section
variable {U:Nat→Prop} {r qb:Nat} {m:Dk.M} {vl vc:Value} {G:Nat→Option (List Int)}
set_option maxHeartbeats 1000000 in
set_option maxRecDepth 100000 in
theorem refspend_c (w:World) (hd:RfC w U r qb vl vc m G):Calls Tryz.prog 99 #[.pointer (some ⟨r,0,none⟩)] w fun e w'=>e = .returned (.int .i64 (Dk.spendE m))∧Hid (RfC w' U r qb vl vc (Dk.spend m) G)∧Hid (Mv [r] w w'):=by
 obtain ⟨_,c1,_,c3,_,_,_⟩:=hd.cells
 have f1:=frozen_of_row w r 1 _ _ hd.row
 have f3:=frozen_of_row w r 3 _ _ hd.row
 have HD:=Lib.hid hd;clear hd
 have key:∀ (j:Nat) (u:Value),(w.setCell ⟨r,j,none⟩ u).heap[r]?=some (.cells ((#[.int .i64 (m.n:Int),.int .i64 (Dk.rl m),.int .i64 (m.wr:Int),.bool m.down,vl,vc,.slice (some ⟨qb,0,none⟩) m.n m.n]:Array Value).setIfInBounds j u) 76 (0,0)):=fun j u=>heap_setCell_same w r j _ _ u HD.out.row
 have KEY:=Lib.hid key;clear key
 have HL:=Lib.hid HD.out.ok.left
 cases hdn:m.down with
 | true =>
  have hg:Dk.gone m=true:=by unfold Dk.gone;rw [hdn];rfl
  have es:Dk.spend m = { m with down:=true }:=by unfold Dk.spend;rw [if_pos hg]
  have e0:({ m with down:=true }:Dk.M)=m:=by rw [← hdn]
  have ee:Dk.spendE m=12:=by unfold Dk.spendE;rw [if_pos hg]
  rw [hdn] at c3
  go_enter Tryz.func99,Tryz.ntmps99
  go_wp2
  go_ret
  refine ⟨by first | rfl | (rw [ee];rfl),Lib.hid ?_,Lib.hid (Mv.refl _ _)⟩
  rw [es,e0]
  exact HD.out
 | false =>
  rw [hdn] at c3
  by_cases h0:m.left=0
  ·have hg:Dk.gone m=true:=by unfold Dk.gone;rw [h0];simp
   have es:Dk.spend m = { m with down:=true }:=by unfold Dk.spend;rw [if_pos hg]
   have ee:Dk.spendE m=12:=by unfold Dk.spendE;rw [if_pos hg]
   have e1:Dk.rl m=0:=by unfold Dk.rl;rw [h0];rfl
   rw [e1] at c1
   go_enter Tryz.func99,Tryz.ntmps99
   go_wp2
   go_ret
   refine ⟨by first | rfl | (rw [ee];rfl),Lib.hid ?_,Lib.hid ((Mv.refl _ _).setCell _ _ (by simp))⟩
   rw [es]
   exact HD.out.row_set ((Mv.refl _ _).setCell _ _ (by simp)) (by rw [KEY.out];rfl) rfl rfl rfl rfl HL.out
  ·have hg:Dk.gone m=false:=by unfold Dk.gone;rw [hdn];simp [h0]
   have ee:Dk.spendE m=0:=by unfold Dk.spendE;rw [hg];rfl
   by_cases hp:0<m.left
   ·have es:Dk.spend m = { m with left:=m.left-1 }:=by unfold Dk.spend;rw [hg,if_pos hp];rfl
    have e1:Dk.rl m=m.left:=by unfold Dk.rl;rw [if_neg (by omega)]
    have e2:Dk.rl { m with left:=m.left-1 }=m.left-1:=by unfold Dk.rl;rw [if_neg (by dsimp only;omega)]
    rw [e1] at c1
    have h0':(m.left==0)=false:=by simpa using h0
    have hw1:IntKind.i64.wrap (m.left-1)=m.left-1:=IntWalk.i64_in _ (by have h:=HL.out;unfold In64 at h;constructor<;>omega)
    go_enter Tryz.func99,Tryz.ntmps99
    go_wp2
    go_ret
    refine ⟨by first | rfl | (rw [ee];rfl),Lib.hid ?_,Lib.hid ((Mv.refl _ _).setCell _ _ (by simp))⟩
    rw [es]
    exact HD.out.row_set ((Mv.refl _ _).setCell _ _ (by simp)) (by rw [KEY.out,e2];simp [hdn]) rfl rfl rfl rfl (by have h:=HL.out;unfold In64 at h ⊢;dsimp only;omega)
   ·have es:Dk.spend m=m:=by unfold Dk.spend;rw [hg,if_neg hp];rfl
    have e1:Dk.rl m = -1:=by unfold Dk.rl;rw [if_pos (by omega)]
    rw [e1] at c1
    go_enter Tryz.func99,Tryz.ntmps99
    go_wp2
    go_ret
    exact ⟨by first | rfl | (rw [ee];rfl),Lib.hid (by first | exact HD.out | (rw [es];exact HD.out)),Lib.hid (Mv.refl _ _)⟩
set_option maxHeartbeats 1000000 in
set_option maxRecDepth 100000 in
theorem refwrong_any (i:Int) (L:List Int) (p:Option Addr) (n c:Nat) (hn:L.length=n) (w:World) (hd:RfC w U r qb vl vc m G) :
  Calls Tryz.prog 85 #[.pointer (some ⟨r,0,none⟩),.int .i64 i,.slice p n c] w fun e w'=>e = .returned (.int .i64 (Dk.fault m i L))∧w'=w:=by
 subst hn
 obtain ⟨c0,_⟩:=hd.cells
 clear hd
 by_cases h0:i<0
 ·have e:Dk.fault m i L=7:=by unfold Dk.fault Dk.here;rw [decide_eq_false (by omega)];simp
  go_enter Tryz.func85,Tryz.ntmps85
  go_wp2
  go_ret
  exact ⟨by first | rfl | (rw [e];rfl),rfl⟩
 ·have h0':(0:Int)≤i:=by omega
  by_cases h1:(m.n:Int)≤i
  ·have e:Dk.fault m i L=7:=by unfold Dk.fault Dk.here;rw [decide_eq_false (show ¬ i<(m.n:Int) by omega)];simp
   go_enter Tryz.func85,Tryz.ntmps85
   go_wp2
   go_ret
   exact ⟨by first | rfl | (rw [e];rfl),rfl⟩
  ·have h1':i<(m.n:Int):=by omega
   have hh:Dk.here m i=true:=by unfold Dk.here;rw [decide_eq_true h0',decide_eq_true h1'];rfl
   by_cases hl:(1024:Int)<(L.length:Int)
   ·have e:Dk.fault m i L=3:=by unfold Dk.fault;rw [hh,if_neg (by decide),if_pos (by omega)]
    go_enter Tryz.func85,Tryz.ntmps85
    go_wp2
    go_ret
    exact ⟨by first | rfl | (rw [e];rfl),rfl⟩
   ·have e:Dk.fault m i L=0:=by unfold Dk.fault;rw [hh,if_neg (by decide),if_neg (by omega)]
    go_enter Tryz.func85,Tryz.ntmps85
    go_wp2
    go_ret
    exact ⟨by first | rfl | (rw [e];rfl),rfl⟩
set_option maxHeartbeats 1000000 in
set_option maxRecDepth 100000 in
theorem refarm_any (n:Int) (hn:In64 n) (w:World) (hd:RfAt w U r qb m):Calls Tryz.prog 32 #[.pointer (some ⟨r,0,none⟩),.int .i64 n] w (RfSay0 U r qb (.tuple #[]) { m with left:=n } w):=by
 obtain ⟨vl,vc,G,hd⟩:=hd
 obtain ⟨_,c1,_⟩:=hd.cells
 have f1:=frozen_of_row w r 1 _ _ hd.row
 have HD:=Lib.hid hd;clear hd
 have HN:=Lib.hid hn;clear hn
 have KEY:=Lib.hid (fun (u:Value)=>heap_setCell_same w r 1 _ _ u HD.out.row)
 by_cases h0:n<0
 ·have e1:Dk.rl { m with left:=n } = -1:=by unfold Dk.rl;rw [if_pos h0]
  have HK2:Hid (∀ u u',((w.setCell ⟨r,1,none⟩ u).setCell ⟨r,1,none⟩ u').heap[r]?=_):=fun u u'=>heap_setCell_same _ r 1 _ _ u' (KEY.out u)
  have f1':(w.setCell ⟨r,1,none⟩ (.int .i64 n)).frozen? ⟨r,1,none⟩=false:=frozen_of_row _ r 1 _ _ (KEY.out _)
  go_enter Tryz.func32,Tryz.ntmps32
  go_wp2
  go_end0
  refine ⟨rfl,Lib.hid ⟨vl,vc,G,?_⟩,Lib.hid (((Mv.refl _ _).setCell _ _ (by simp)).setCell _ _ (by simp))⟩
  exact HD.out.row_set (((Mv.refl _ _).setCell _ _ (by simp)).setCell _ _ (by simp)) (by rw [HK2.out,e1];simp) rfl rfl rfl rfl HN.out
 ·have e1:Dk.rl { m with left:=n }=n:=by unfold Dk.rl;rw [if_neg h0]
  have h0':(0:Int)≤n:=by omega
  go_enter Tryz.func32,Tryz.ntmps32
  go_wp2
  go_end0
  refine ⟨rfl,Lib.hid ⟨vl,vc,G,?_⟩,Lib.hid ((Mv.refl _ _).setCell _ _ (by simp))⟩
  exact HD.out.row_set ((Mv.refl _ _).setCell _ _ (by simp)) (by rw [KEY.out,e1];simp) rfl rfl rfl rfl HN.out
end
end

/-! DkX5:  -/
section
open Go.RowKit
theorem Dk.fnd_cons (x:Dk.S) (l:List Dk.S) (i:Nat):Dk.fnd (x :: l) i=if x.1=i then some x.2 else Dk.fnd l i:=by
 unfold Dk.fnd
 rw [List.find?_cons]
 by_cases h:x.1=i<;>simp [h]
def FndSay (o:Option (List Int)) (w:World) (e:Ending) (w':World):Prop:=∃ v,e = .returned (.tuple #[v,.bool o.isSome])∧Hid (w'.ownsRow w.heap.size 5 1 v (o.getD []).length (U8s (o.getD []))∧Sha.Byt (o.getD []))∧Hid (Below w.heap.size w w')
set_option maxHeartbeats 2000000 in
set_option maxRecDepth 100000 in
theorem find_any (l:List Dk.S) (i:Nat) (U:Nat→Prop) (v:Value) (w:World) (hl:Lst 0 w U v l) (hn:l.length≤5000) (hsz:∀ x∈l,x.2.length≤1024):Calls Tryz.prog 59 #[v,.int .i64 (i:Int)] w (FndSay (Dk.fnd l i) w):=by
 obtain ⟨a,cap,rfl,ha⟩:=hl.len
 have HL:=Lib.hid hl
 have HA:=Lib.hid ha
 have HSZ:=Lib.hid hsz
 clear hl ha hsz
 go_enter Tryz.func59,Tryz.ntmps59
 go_upto_region 2 with (fail)
 go_loopw [6] (fun v6 wr=>∃ k:Nat,k≤l.length∧v6 = .int .i64 k∧Hid (Dk.fnd l i=Dk.fnd (l.drop k) i)∧Hid (Below w.heap.size w wr)) (fun v6 _=>l.length-(intOf v6).toNat)
 case atStart=>exact ⟨0,Nat.zero_le _,rfl,Lib.hid rfl,Lib.hid (Below.refl _ _)⟩
 case round =>
  obtain ⟨k,hk,rfl,HF,HB⟩:=hrel
  by_cases hlt:k<l.length
  ·obtain ⟨x,hx⟩:∃ x,l[k]?=some x:=⟨_,List.getElem?_eq_getElem hlt⟩
   obtain ⟨gs,rfl⟩:=HA.out (by omega)
   obtain ⟨u,c0,c1,hu⟩:=(HL.out.old HB.out).at hx
   have hk0:(0:Int)≤(k:Int):=by omega
   have hk1:(k:Int)<(l.length:Int):=by omega
   have HT:Hid (Dk.fnd (l.drop k) i=if x.1=i then some x.2 else Dk.fnd (l.drop (k+1)) i):=by
    show _=_
    have e:l.drop k=x :: l.drop (k+1):=by
     rw [List.drop_eq_getElem_cons hlt]
     rw [List.getElem?_eq_getElem hlt] at hx
     rw [Option.some.inj hx]
    rw [e,Dk.fnd_cons]
   have HXS:=Lib.hid (HSZ.out x (List.mem_of_getElem? hx))
   have HU:=Lib.hid hu
   clear hx hu
   obtain ⟨p,c,hue,_⟩:=HU.out.bs
   subst hue
   by_cases e:x.1=i
   ·have hxi:(x.1:Int)=(i:Int):=by omega
    rw [hxi] at c0
    have HBS:Hid (Bs wr p c x.2):=by
     obtain ⟨p',c',h1,h2⟩:=HU.out.bs
     cases h1
     exact h2
    go_wp2_with (go_at_call 26;refine (copybytes_any x.2 p x.2.length c rfl (by have:=HXS.out;omega) _ HBS.out.bat).mono ?_;rintro e4 w4 ⟨v4,rfl,ho4,hb4⟩;have O4:=Lib.hid ho4;have B4:Hid (Below wr.heap.size wr w4):=hb4;clear ho4 hb4)
    go_ret2
    have eo:Dk.fnd l i=some x.2:=by rw [HF.out,HT.out,if_pos e]
    refine ⟨v4,by rw [eo];rfl,Lib.hid ?_,Lib.hid (HB.out.trans (B4.out.mono HB.out.size))⟩
    rw [eo]
    exact ⟨own_baseD O4.out HB.out.size,HU.out.2.1⟩
   ·have hxi:((x.1:Int)==(i:Int))=false:=by simp;omega
    go_wp2
    exact ⟨⟨k+1,by omega,by go_num,Lib.hid (by rw [HF.out,HT.out,if_neg e]),HB⟩,by simp [intOf];omega⟩
  ·go_wp2
   go_ret2
   have eo:Dk.fnd l i=none:=by rw [HF.out,List.drop_eq_nil_of_le (by omega)];rfl
   refine ⟨.slice none 0 0,by rw [eo];rfl,Lib.hid ?_,HB⟩
   rw [eo]
   exact ⟨by unfold U8s;exact World.ownsRow_nil _ _ _ _,fun x hx=>by simp at hx⟩
section
variable {U:Nat→Prop} {r qb:Nat} {m:Dk.M} {vl vc:Value} {G:Nat→Option (List Int)}
theorem RfC.szc {y:World} (h:RfC y U r qb vl vc m G):∀ x∈Dk.lst m.ca m.n,x.2.length≤1024:=fun x hx=>h.ok.cab _ _ (Dk.lst_lt _ _ hx).2
theorem RfC.szl {y:World} (h:RfC y U r qb vl vc m G):∀ x∈Dk.lst G m.n,x.2.length≤1024:=fun x hx=>by
 have h1:=(Dk.lst_lt _ _ hx).2
 have h2:=h.ls x.1
 rw [h1] at h2
 have h3:=h.ok.lsb x.1
 rw [h2] at h3
 exact h3
set_option maxHeartbeats 2000000 in
set_option maxRecDepth 100000 in
theorem refpeek_any (i:Nat) (hi:i<m.n) (w:World) (hd:RfC w U r qb vl vc m G):Calls Tryz.prog 19 #[.pointer (some ⟨r,0,none⟩),.int .i64 (i:Int)] w fun e w'=>∃ v,e = .returned v∧Hid (w'.ownsRow w.heap.size 5 1 v (Dk.peek m i).length (U8s (Dk.peek m i))∧Sha.Byt (Dk.peek m i))∧Hid (Below w.heap.size w w'):=by
 obtain ⟨_,_,_,_,c4,c5,_⟩:=hd.cells
 have HD:=Lib.hid hd;clear hd
 have hn2:=HD.out.ok.n2
 have e1:Dk.fnd (Dk.lst m.ca m.n) i=m.ca i:=by rw [Dk.fnd_lst,if_pos hi]
 have e2:Dk.fnd (Dk.lst G m.n) i=G i:=by rw [Dk.fnd_lst,if_pos hi]
 have H1:Hid (∀ y,Below w.heap.size w y→Calls Tryz.prog 59 #[vc,.int .i64 (i:Int)] y (FndSay (m.ca i) y)):=fun y hy=>by
  have h:=find_any (Dk.lst m.ca m.n) i U vc y (HD.out.cac.old hy) (by have:=Dk.lst_len m.ca m.n;omega) HD.out.szc
  rw [e1] at h
  exact h
 have H2:Hid (∀ y,Below w.heap.size w y→Calls Tryz.prog 59 #[vl,.int .i64 (i:Int)] y (FndSay (G i) y)):=fun y hy=>by
  have h:=find_any (Dk.lst G m.n) i U vl y (HD.out.las.old hy) (by have:=Dk.lst_len G m.n;omega) HD.out.szl
  rw [e2] at h
  exact h
 have HCK:Hid (∀ y,Below w.heap.size w y→y.cell? ⟨r,4,none⟩=some vl):=fun y hy=>(hy.cell (World.block_lt_of_cell? _ _ c4)).trans c4
 cases hc:m.ca i with
 | some L =>
  have ep:Dk.peek m i=L:=by unfold Dk.peek;rw [hc];rfl
  rw [hc] at H1
  go_enter Tryz.func19,Tryz.ntmps19
  go_wp2_with (go_at_call 59;refine (H1.out _ (Below.refl _ _)).mono ?_;rintro e w3 ⟨v3,rfl,ho3,hb3⟩;dsimp only [Option.isSome_some,Option.getD_some] at ho3 ⊢)
  go_ret
  rw [ep]
  exact ⟨v3,rfl,ho3,hb3⟩
 | none =>
  have ep:Dk.peek m i=(G i).getD []:=by unfold Dk.peek;rw [hc];exact HD.out.ls i
  rw [hc] at H1
  have T1:Hid True:=trivial
  go_enter Tryz.func19,Tryz.ntmps19
  go_wp2_with (first
   | (go_at_call 59;have tk:=T1.out;clear tk T1;refine (H1.out _ (Below.refl _ _)).mono ?_;rintro e w3 ⟨v3,rfl,ho3,hb3⟩;dsimp only [Option.isSome_none] at ho3 ⊢;have c4':=HCK.out _ hb3.out)
   | (go_at_call 59;refine (H2.out _ hb3.out).mono ?_;rintro e w4 ⟨v4,rfl,ho4,hb4⟩))
  go_ret
  rw [ep]
  exact ⟨v4,rfl,Lib.hid ⟨own_baseD ho4.out.1 hb3.out.size,ho4.out.2⟩,Lib.hid (hb3.out.trans (hb4.out.mono hb3.out.size))⟩
end
end

/-! DkX6:  -/
section
open Go.RowKit
section
variable {U:Nat→Prop} {r qb:Nat} {m:Dk.M} {vl vc:Value} {G:Nat→Option (List Int)}
theorem RfC.counted {y z:World} {j:Nat} (h:RfC y U r qb vl vc m G) (hm:Mv [qb] y z) (hr:z.heap[qb]?=some (.cells (((List.range m.n).map fun i=>Value.int .i64 (m.rd i:Int)).toArray.setIfInBounds j (.int .i64 ((m.rd j:Int)+1))) 3 (0,0))) (hj:j<m.n) :
  RfC z U r qb vl vc { m with rd:=upd m.rd j (m.rd j+1) } G:=by
 have key:∀ g,U g→g ≠ qb→z.heap[g]?=y.heap[g]?:=fun g hg hn=>hm.block g (h.top g hg) (by simpa using hn)
 have ne:∀ (g:Nat) (cur:Array Value) (e:TypeId),y.heap[g]?=some (.cells cur e (0,0))→3 ≠ e→g ≠ qb:=fun g cur e h1 he q=>by
  rw [q,h.cnt] at h1
  injection Option.some.inj h1 with _ h7 _
  exact he h7
 obtain ⟨o1,o2,o3,o4,o5,o6⟩:=h.ok
 refine ⟨h.lt,fun g hg=>Nat.lt_of_lt_of_le (h.top g hg) hm.size,(key r h.lt.1 (ne _ _ _ h.row (by decide))).trans h.row,?_,?_,h.own,?_,h.ls,⟨o1,o2,o3,o4,o5,o6⟩⟩
 ·exact h.las.keep (fun g hg=>by obtain ⟨_,cur,h2⟩:=h.las.type g hg;exact key g (h.own.1 g hg) (ne _ _ _ h2 (by decide))) (fun g cur hg hc=>key g hg (ne _ _ _ hc (by decide)))
 ·exact h.cac.keep (fun g hg=>by obtain ⟨_,cur,h2⟩:=h.cac.type g hg;exact key g (h.own.2 g hg) (ne _ _ _ h2 (by decide))) (fun g cur hg hc=>key g hg (ne _ _ _ hc (by decide)))
 ·rw [hr]
  congr 2
  apply Array.ext_getElem?
  intro k
  by_cases hkj:k=j
  ·subst hkj
   rw [Array.getElem?_setIfInBounds_self_of_lt (by simpa using hj)]
   simp [hj,upd_same]
  ·rw [Array.getElem?_setIfInBounds_ne (fun e=>hkj e.symm)]
   by_cases hk:k<m.n
   ·simp [hk,upd_other _ _ hkj]
   ·simp [hk]
def RfRdD (U:Nat→Prop) (r qb:Nat) (m:Dk.M) (i:Int) (w:World) (e:Ending) (w':World):Prop:=∃ v,e = .returned (.tuple #[v,.int .i64 (Dk.rdE m i)])∧Hid (w'.ownsRow w.heap.size 5 1 v (Dk.rdX m i).length (U8s (Dk.rdX m i))∧Sha.Byt (Dk.rdX m i))∧Hid (RfAt w' U r qb (Dk.rdM m i))∧Hid (Mv [r,qb] w w')
set_option maxHeartbeats 2000000 in
set_option maxRecDepth 100000 in
theorem refread_anyD (i:Int) (w:World) (hd:RfAt w U r qb m) (hrd:∀ j,m.rd j≤1000000000):Calls Tryz.prog 50 #[.pointer (some ⟨r,0,none⟩),.int .i64 i] w (RfRdD U r qb m i w):=by
 obtain ⟨vl,vc,G,hd⟩:=hd
 obtain ⟨c0,_,_,_,_,_,c6⟩:=hd.cells
 have HD:=Lib.hid hd;clear hd
 by_cases hh:Dk.here m i=true
 ·obtain ⟨j,rfl,hj⟩:=Dk.here_of hh
  have e1:Dk.rdE m j=0:=by unfold Dk.rdE;rw [hh];rfl
  have e2:Dk.rdX m j=Dk.peek m j:=by unfold Dk.rdX;rw [hh];rfl
  have e3:Dk.rdM m j = { m with rd:=upd m.rd j (m.rd j+1) }:=by unfold Dk.rdM;rw [hh];rfl
  have c2:w.cell? ⟨qb,j,none⟩=some (.int .i64 (m.rd j:Int)):=by
   rw [cell_of_row w qb j _ _ _ HD.out.cnt]
   simp [hj]
  have f2:=frozen_of_row w qb j _ _ HD.out.cnt
  have hw1:IntKind.i64.wrap ((m.rd j:Int)+1)=(m.rd j:Int)+1:=IntWalk.i64_in _ (by have:=hrd j;constructor<;>omega)
  have hl1:(0:Int)≤(j:Int):=by omega
  have hl2:(j:Int)<(m.n:Int):=by omega
  clear hrd
  obtain ⟨w2,hw2⟩:∃ y:World,Hid ((w.setCell ⟨qb,j,none⟩ (.int .i64 ((m.rd j:Int)+1))).drew=y):=⟨_,rfl⟩
  have M2:Hid (Mv [qb] w w2):=by show Mv _ _ _;rw [← hw2.out];exact ((Mv.refl _ _).setCell _ _ (by simp)).drew
  have D2:Hid (RfC w2 U r qb vl vc { m with rd:=upd m.rd j (m.rd j+1) } G):=by
   refine HD.out.counted M2.out ?_ hj
   rw [← hw2.out]
   exact heap_setCell_same w qb j _ _ _ HD.out.cnt
  have M4:Hid (Mv [r,qb] w w2):=M2.out.more (fun k hk=>by simp at hk ⊢;subst hk;simp)
  go_enter Tryz.func50,Tryz.ntmps50
  go_upto_region 3 with (fail)
  go_still_tail 14,(by kernel_rfl)
  go_upto_region 4 with (fail)
  rw [hw2.out]
  go_wp2_with (go_at_call 19;refine (refpeek_any (m:={ m with rd:=upd m.rd j (m.rd j+1) }) j hj _ D2.out).mono ?_;rintro e w4 ⟨v4,rfl,ho4,hb4⟩)
  go_ret2
  refine ⟨v4,by rw [e1];rfl,Lib.hid ?_,Lib.hid ?_,Lib.hid (M4.out.trans (Mv.of_below hb4.out))⟩
  ·rw [e2]
   exact ⟨own_baseD ho4.out.1 M2.out.size,ho4.out.2⟩
  ·rw [e3];exact ⟨vl,vc,G,D2.out.keep hb4.out.size (fun g hg=>hb4.out.block g (D2.out.top g hg))⟩
 ·have hh:Dk.here m i=false:=by cases h:Dk.here m i<;>simp_all
  have e1:Dk.rdE m i=7:=by unfold Dk.rdE;rw [hh];rfl
  have e2:Dk.rdX m i = []:=by unfold Dk.rdX;rw [hh];rfl
  have e3:Dk.rdM m i=m:=by unfold Dk.rdM;rw [hh];rfl
  have key:RfRdD U r qb m i w (.returned (.tuple #[.slice none 0 0,.int .i64 7])) w:=by
   refine ⟨.slice none 0 0,by rw [e1],Lib.hid ?_,Lib.hid ?_,Lib.hid (Mv.refl _ _)⟩
   ·rw [e2]
    exact ⟨by unfold U8s;exact World.ownsRow_nil _ _ _ _,fun x hx=>by simp at hx⟩
   ·rw [e3];exact ⟨vl,vc,G,HD.out⟩
  have KEY:=Lib.hid key;clear key
  by_cases h0:i<0
  ·go_enter Tryz.func50,Tryz.ntmps50
   go_wp2
   go_ret2
   exact KEY.out
  ·have h0':(0:Int)≤i:=by omega
   have h1:(m.n:Int)≤i:=by
    unfold Dk.here at hh
    rw [decide_eq_true h0'] at hh
    simp at hh
    exact hh
   go_enter Tryz.func50,Tryz.ntmps50
   go_wp2
   go_ret2
   exact KEY.out
end
def RfNewD (n:Int) (w:World) (e:Ending) (w':World):Prop :=
 if Dk.may n then ∃ r qb,e = .returned (.tuple #[.pointer (some ⟨r,0,none⟩),.int .i64 0])∧Hid (RfAt w' (fun g=>w.heap.size≤g∧g<w'.heap.size) r qb (Dk.fresh n.toNat))∧Below w.heap.size w w'
 else e = .returned (.tuple #[.pointer none,.int .i64 7])∧w'=w
set_option maxHeartbeats 2000000 in
set_option maxRecDepth 100000 in
theorem refnew_yes (n:Nat) (h1:1≤n) (h2:n≤4096) (w:World):Calls Tryz.prog 9 #[.int .i64 (n:Int)] w (RfNewD n w):=by
 have hm:Dk.may n=true:=by unfold Dk.may;simp;omega
 have hl1:(1:Int)≤(n:Int):=by omega
 have hl2:(n:Int)≤4096:=by omega
 have m2:=make_run 46 3 (.int .i64 0) 8 n Tryz.underlying46 Tryz.info_int rfl (by omega) (by omega)
 go_enter Tryz.func9,Tryz.ntmps9
 go_wp2
 go_ret2
 unfold RfNewD
 rw [hm,if_pos rfl,Int.toNat_natCast]
 refine ⟨w.heap.size+1,w.heap.size,rfl,Lib.hid ⟨.slice none 0 0,.slice none 0 0,fun _=>none,⟨⟨by omega,by simp⟩,⟨Nat.le_refl _,by simp;omega⟩⟩,fun g h=>h.2,?_,?_,?_,⟨(fun g hg=>by cases hg),(fun g hg=>by cases hg)⟩,?_,fun i=>rfl,⟨h1,h2,fun i _=>rfl,by unfold In64 Dk.fresh;dsimp only;omega,fun i=>by simp [Dk.fresh],fun i L hL=>by cases hL⟩⟩,below_two w _ _⟩
 ·have h:=heap_alloc_new (w.alloc (.cells (Array.replicate n (Value.int .i64 0)) 3)) (.cells #[.int .i64 (n:Int),.int .i64 (-1),.int .i64 0,.bool false,.slice none 0 0,.slice none 0 0,.slice (some ⟨w.heap.size,0,none⟩) n n] 76)
  have hs:(w.alloc (.cells (Array.replicate n (Value.int .i64 0)) 3)).heap.size=w.heap.size+1:=by simp
  rw [hs] at h
  exact h
 ·rw [Dk.lst_nil];exact lst_at0 _ _ _
 ·show Lst _ _ _ _ (Dk.lst (fun _=>none) n)
  rw [Dk.lst_nil];exact lst_at0 _ _ _
 ·rw [heap_alloc_old _ _ (by simp),heap_alloc_new]
  unfold Dk.fresh
  congr 2
  apply Array.ext
  ·simp
  ·intro j _ _;simp
end

/-! DkX7:  -/
section
open Go.RowKit
section
variable {U:Nat→Prop} {r qb:Nat} {m:Dk.M} {vl vc:Value} {G:Nat→Option (List Int)}
theorem own_chgD {U:Nat→Prop} {w y z:World} (hs:z.heap.size=y.heap.size):Own U w z=Own U w y:=by unfold Own;rw [hs]
theorem RfC.lay {w y z:World} {m':Dk.M} {vl' vc':Value} {G':Nat→Option (List Int)} (h:RfC w U r qb vl vc m G) (hb:Below w.heap.size w y) (hc:Chg r y z)
  (hr:z.heap[r]?=some (.cells #[.int .i64 (m'.n:Int),.int .i64 (Dk.rl m'),.int .i64 (m'.wr:Int),.bool m'.down,vl',vc',.slice (some ⟨qb,0,none⟩) m.n m.n] 76 (0,0)))
  (hl:Lst 0 y (Own U w y) vl' (Dk.lst G' m.n)) (hcc:Lst 0 y (Own U w y) vc' (Dk.lst m'.ca m.n)) (ho:(∀ g,vl'.ownBlock=some g→Own U w y g)∧∀ g,vc'.ownBlock=some g→Own U w y g)
  (hn:m'.n=m.n) (hd:m'.rd=m.rd) (hls:∀ i,m'.ls i=(G' i).getD []) (ok:Dk.Ok m'):RfC z (Own U w z) r qb vl' vc' m' G':=by
 rw [own_chgD hc.size]
 have hry:y.heap[r]?=w.heap[r]?:=hb.block r (h.top r h.lt.1)
 have key:∀ (g:Nat) (cur:Array Value) (e:TypeId),y.heap[g]?=some (.cells cur e (0,0))→76 ≠ e→z.heap[g]?=y.heap[g]?:=fun g cur e h1 he=>hc.block g (fun q=>by
  rw [q,hry,h.row] at h1
  injection Option.some.inj h1 with _ h7 _
  exact he h7)
 have hqb:y.heap[qb]?=some (.cells ((List.range m.n).map fun i=>Value.int .i64 (m.rd i:Int)).toArray 3 (0,0)):=(hb.block qb (h.top qb h.lt.2)).trans h.cnt
 refine ⟨⟨Or.inl h.lt.1,Or.inl h.lt.2⟩,fun g hg=>?_,by rw [hr,hn],?_,?_,ho,?_,hls,ok⟩
 ·rw [hc.size]
  rcases hg with hg | hg
  ·exact Nat.lt_of_lt_of_le (h.top g hg) hb.size
  ·exact hg.2
 ·rw [hn]
  exact hl.keep (fun g hg=>by obtain ⟨_,cur,h2⟩:=hl.type g hg;exact key g cur _ h2 (by decide)) (fun g cur _ h2=>key g cur _ h2 (by decide))
 ·rw [hn]
  exact hcc.keep (fun g hg=>by obtain ⟨_,cur,h2⟩:=hcc.type g hg;exact key g cur _ h2 (by decide)) (fun g cur _ h2=>key g cur _ h2 (by decide))
 ·rw [hn,hd]
  exact (key qb _ _ hqb (by decide)).trans hqb
theorem RfC.las' {w y:World} (h:RfC w U r qb vl vc m G) (hb:Below w.heap.size w y):Lst 0 y (Own U w y) vl (Dk.lst G m.n)∧∀ g,vl.ownBlock=some g→Own U w y g:=⟨(h.las.old hb).lift (fun _ h=>Or.inl h),fun g hg=>Or.inl (h.own.1 g hg)⟩
theorem RfC.cac' {w y:World} (h:RfC w U r qb vl vc m G) (hb:Below w.heap.size w y):Lst 0 y (Own U w y) vc (Dk.lst m.ca m.n)∧∀ g,vc.ownBlock=some g→Own U w y g:=⟨(h.cac.old hb).lift (fun _ h=>Or.inl h),fun g hg=>Or.inl (h.own.2 g hg)⟩
theorem lst_new {w y:World} {B:Nat} {v:Value} {l:List Dk.S} {U':Nat→Prop} (h:Lst B y U' v l) (hB:w.heap.size≤B):∀ g,v.ownBlock=some g→Own U w y g:=fun g hg=>by
 obtain ⟨h1,cur,h2⟩:=h.type g hg
 exact Or.inr ⟨Nat.le_trans hB h1,lt_of_block h2⟩
theorem RfC.byt {y:World} {ab k:Nat} {x:Int} (h:RfC y U r qb vl vc m G) (hc:y.cell? ⟨ab,k,none⟩=some (.int .u8 x)):ab ≠ r:=fun q=>by
 obtain ⟨a,c,rfl,_⟩:=h.las.len
 obtain ⟨b,d,rfl,_⟩:=h.cac.len
 rw [q,cell_of_row y r k _ _ _ h.row] at hc
 rcases k with _ | _ | _ | _ | _ | _ | _ | k<;>simp at hc
theorem RfC.bs {y z:World} {p:Option Addr} {c:Nat} {L:List Int} (h:RfC y U r qb vl vc m G) (hb:Bs y p c L) (hm:Mv [r] y z):Bs z p c L :=
 ⟨⟨hb.bat.1,fun h0=>by
  obtain ⟨ab,ao,h1,h2⟩:=hb.bat.2 h0
  refine ⟨ab,ao,h1,fun j hj=>?_⟩
  rw [World.cell?_of_block (hm.block ab (World.block_lt_of_cell? _ _ (h2 j hj)) (by simpa using h.byt (h2 j hj)))]
  exact h2 j hj⟩,hb.cap,hb.nil⟩
theorem Dk.ok_put {m:Dk.M} (h:Dk.Ok m) {j:Nat} {L:List Int} (hj:j<m.n) (hL:L.length≤1024) (k:Nat):Dk.Ok { m with ca:=upd m.ca j (some L),wr:=k }:=by
 obtain ⟨o1,o2,o3,o4,o5,o6⟩:=h
 refine ⟨o1,o2,fun i hi=>?_,o4,o5,fun i X hX=>?_⟩
 ·show upd m.ca j (some L) i=none
  have hi':m.n≤i:=hi
  rw [upd_other _ _ (by omega)];exact o3 i hi'
 ·have hX':upd m.ca j (some L) i=some X:=hX
  by_cases e:i=j
  ·subst e;rw [upd_same] at hX';cases hX';exact hL
  ·rw [upd_other _ _ e] at hX';exact o6 i X hX'
theorem Dk.ok_over {m:Dk.M} (h:Dk.Ok m) {j:Nat} {L:List Int} (hL:L.length≤1024):Dk.Ok { m with ls:=upd m.ls j L,ca:=upd m.ca j none }:=by
 obtain ⟨o1,o2,o3,o4,o5,o6⟩:=h
 refine ⟨o1,o2,fun i hi=>?_,o4,fun i=>?_,fun i X hX=>?_⟩
 ·show upd m.ca j none i=none
  by_cases e:i=j
  ·subst e;exact upd_same _ _ _
  ·rw [upd_other _ _ e];exact o3 i hi
 ·show (upd m.ls j L i).length≤1024
  by_cases e:i=j
  ·subst e;rw [upd_same];exact hL
  ·rw [upd_other _ _ e];exact o5 i
 ·have hX':upd m.ca j none i=some X:=hX
  by_cases e:i=j
  ·subst e;rw [upd_same] at hX';cases hX'
  ·rw [upd_other _ _ e] at hX';exact o6 i X hX'
theorem Own.sub {U:Nat→Prop} {w x y:World} (h:w.heap.size≤x.heap.size):∀ g,Own U x y g→Own U w y g:=fun g hg=>by
 rcases hg with hg | hg
 ·exact Or.inl hg
 ·exact Or.inr ⟨Nat.le_trans h hg.1,hg.2⟩
theorem Own.more {U:Nat→Prop} {w x y:World} (h:x.heap.size≤y.heap.size):∀ g,Own U w x g→Own U w y g:=fun g hg=>by
 rcases hg with hg | hg
 ·exact Or.inl hg
 ·exact Or.inr ⟨hg.1,Nat.lt_of_lt_of_le hg.2 h⟩
set_option maxHeartbeats 4000000 in
set_option maxRecDepth 100000 in
theorem refwrite_c (i:Int) (L:List Int) (p:Option Addr) (n c:Nat) (hn:L.length=n) (hnb:n≤1000000) (hwr:m.wr≤1000000000) (w:World) (hd:RfC w U r qb vl vc m G) (hb:Bs w p c L) :
  Calls Tryz.prog 80 #[.pointer (some ⟨r,0,none⟩),.int .i64 i,.slice p n c] w (RfSayD U r qb (.int .i64 (Dk.wrE m i L)) (Dk.wrM m i L) w):=by
 obtain ⟨_,_,c2,c3,_,c5,_⟩:=hd.cells
 subst hn
 have HD:=Lib.hid hd
 have HB:=Lib.hid hb
 clear hd hb
 cases hdn:m.down with
 | true =>
  have e1:Dk.wrE m i L=12:=by unfold Dk.wrE;rw [hdn];rfl
  have e2:Dk.wrM m i L=m:=by unfold Dk.wrM;rw [hdn];rfl
  rw [hdn] at c3
  go_enter Tryz.func80,Tryz.ntmps80
  go_wp2
  go_ret
  exact ⟨by first | rfl | (rw [e1];rfl),by rw [e2];exact Lib.hid (RfAt.own ⟨vl,vc,G,HD.out⟩ _),Lib.hid (Mv.refl _ _)⟩
 | false =>
  rw [hdn] at c3
  by_cases hf:Dk.fault m i L=0
  ·cases hg:Dk.gone m with
   | true =>
    have e1:Dk.wrE m i L=12:=by rw [Dk.wrE_eq hf];unfold Dk.spendE;rw [if_pos hg]
    have e2:Dk.wrM m i L=Dk.spend m:=by unfold Dk.wrM;rw [hdn,if_neg (by decide),if_neg (by rw [hf];decide),hg,if_pos rfl]
    have e3:Dk.spendE m=12:=by unfold Dk.spendE;rw [if_pos hg]
    go_enter Tryz.func80,Tryz.ntmps80
    go_wp2_with (first
     | (go_at_call 85;refine (refwrong_any i L p _ c rfl _ HD.out).mono ?_;rw [hf];rintro e w1 ⟨rfl,rfl⟩)
     | (go_at_call 99;refine (refspend_c _ HD.out).mono ?_;rw [e3];rintro e w2 ⟨rfl,hd2,hm2⟩))
    go_ret
    refine ⟨by first | rfl | (rw [e1];rfl),?_,Lib.hid (hm2.out.more (fun k hk=>by simp at hk ⊢;exact Or.inl hk))⟩
    rw [e2]
    exact Lib.hid (RfAt.own ⟨vl,vc,G,hd2.out⟩ _)
   | false =>
    obtain ⟨j,rfl,hj⟩:=Dk.here_of (Dk.fault_ok hf).1
    have hL:=(Dk.fault_ok hf).2
    have e1:Dk.wrE m j L=0:=by rw [Dk.wrE_eq hf];unfold Dk.spendE;rw [hg];rfl
    have e3:Dk.spendE m=0:=by unfold Dk.spendE;rw [hg];rfl
    have e2:Dk.wrM m j L = { Dk.spend m with ca:=upd (Dk.spend m).ca j (some L),wr:=(Dk.spend m).wr+1 }:=by unfold Dk.wrM;rw [hdn,if_neg (by decide),if_neg (by rw [hf];decide),hg,Dk.spend_ca,Dk.spend_wr];rfl
    obtain ⟨m2,hm2e⟩:∃ m2,Hid (Dk.spend m=m2):=⟨_,rfl⟩
    have hj2:j<m2.n:=by rw [← hm2e.out,Dk.spend_n];exact hj
    have hwr2:m2.wr≤1000000000:=by rw [← hm2e.out,Dk.spend_wr];exact hwr
    have hn2:=HD.out.ok.n2
    go_enter Tryz.func80,Tryz.ntmps80
    go_upto_region 8 with (first
     | (go_at_call 85;refine (refwrong_any j L p _ c rfl _ HD.out).mono ?_;rw [hf];rintro e w1 ⟨rfl,rfl⟩)
     | (go_at_call 99;refine (refspend_c _ HD.out).mono ?_;rw [e3];rintro e w2 ⟨rfl,hd2,hm2⟩;rw [hm2e.out] at hd2;have HM2:=Lib.hid hm2.out;have HD2:=Lib.hid hd2.out;clear hm2 hd2))
    have HBS:Hid (Bs w2.drew p c L):=(HD.out.bs HB.out HM2.out).drew
    have k1:=HD2.out.cells.2.2.2.2.2.1
    go_region_law (first
     | (go_simp;go_at_call 26;refine (copybytes_any L p _ c rfl (by omega) _ HBS.out.bat).mono ?_;rintro e w4 ⟨v4,rfl,ho4,hb4⟩;have B4:Hid (Below w2.heap.size w2 w4):=((Below.refl _ w2).drew).trans hb4;obtain ⟨p4,c4,rfl,_,_⟩:=own_bs ho4 HB.out.bat.1;have O4:=Lib.hid ho4;have kb:Hid (w4.cell? ⟨r,5,none⟩=some vc):=(B4.out.cell (World.block_lt_of_cell? _ _ k1)).trans k1;have k4:w4.cell? ⟨r,5,none⟩=some vc:=kb.out;clear ho4 hb4)
     | (go_simp;go_at_call 86;refine (refput_any (Dk.lst m2.ca m2.n) (j,L) (Own U w2 w4) vc p4 c4 w4 (HD2.out.cac' B4.out).1 (sec_of O4.out HB.out.bat.1 (fun g h1 h2=>Or.inr ⟨h1,h2⟩)) (by have:=Dk.lst_len m2.ca m2.n;have:=HD2.out.ok.n2;omega)).mono ?_;rintro e w5 ⟨v5,rfl,hl5,hb5⟩;obtain ⟨a5,q5,rfl,_⟩:=hl5.out.len;obtain ⟨l5,hl5e⟩:∃ l5,Hid ((Dk.ins (Dk.lst m2.ca m2.n) (j,L)).length=l5):=⟨_,rfl⟩;rw [hl5e.out] at hl5 ⊢;have HL5:=Lib.hid hl5.out;have B5:=Lib.hid hb5.out;have R5:=Lib.hid ((B5.out.block r (Nat.lt_of_lt_of_le (HD2.out.top r HD2.out.lt.1) B4.out.size)).trans ((B4.out.block r (HD2.out.top r HD2.out.lt.1)).trans HD2.out.row));have kc:Hid (w5.cell? ⟨r,5,none⟩=some vc):=(by show _=_;rw [cell_of_row w5 r 5 _ _ _ R5.out];try rfl);have k5:=kc.out;have f5:=frozen_of_row w5 r 5 _ _ R5.out;clear hl5 hb5))
    all_goals
     obtain ⟨w6,HW6⟩:∃ y:World,Hid (w5.setCell ⟨r,5,none⟩ (.slice a5 l5 q5)=y):=⟨_,rfl⟩
     have R6:=Lib.hid (heap_setCell_same w5 r 5 _ _ (.slice a5 l5 q5) R5.out)
     rw [HW6.out] at R6 ⊢
     have C6:Hid (Chg r w5 w6):=by show Chg _ _ _;rw [← HW6.out];exact Chg.setCell w5 ⟨r,5,none⟩ _
     have c2:w6.cell? ⟨r,2,none⟩=some (.int .i64 (m2.wr:Int)):=by rw [cell_of_row w6 r 2 _ _ _ R6.out];rfl
     have f2:=frozen_of_row w6 r 2 _ _ R6.out
     have hw1:IntKind.i64.wrap ((m2.wr:Int)+1)=(m2.wr:Int)+1:=IntWalk.i64_in _ ⟨by omega,by omega⟩
     go_wp2
     go_ret
     have hset:=heap_setCell_same w6 r 2 _ _ (.int .i64 ((m2.wr:Int)+1)) R6.out
     have C7:Chg r w5 (w6.setCell ⟨r,2,none⟩ (.int .i64 ((m2.wr:Int)+1))):=C6.out.trans (Chg.setCell w6 ⟨r,2,none⟩ _)
     have B25:Below w2.heap.size w2 w5:=B4.out.trans (B5.out.mono B4.out.size)
     have hlst:Lst w4.heap.size w5 (Own U w2 w5) (.slice a5 l5 q5) (Dk.lst (upd m2.ca j (some L)) m2.n):=by
      have h:=HL5.out
      rw [Dk.ins_lst _ _ _ _ hj2] at h
      exact h.lift (Own.more B5.out.size)
     have hfin:=HD2.out.lay (m':={ m2 with ca:=upd m2.ca j (some L),wr:=m2.wr+1 }) (vl':=vl) (vc':=.slice a5 l5 q5) (G':=G) B25 C7 (by rw [hset];simp [Dk.rl]) (HD2.out.las' B25).1 hlst.low ⟨(HD2.out.las' B25).2,lst_new hlst B4.out.size⟩ rfl rfl HD2.out.ls (Dk.ok_put HD2.out.ok hj2 hL _)
     refine ⟨by first | rfl | (rw [e1];rfl),?_,Lib.hid ?_⟩
     ·first | rw [e2,hm2e.out] | rw [hm2e.out]
      refine Lib.hid (RfAt.lift ⟨_,_,_,hfin⟩ (Own.sub HM2.out.size) (fun g hg=>?_))
      rcases hg with hg | hg
      ·exact hfin.top g (Or.inl hg)
      ·exact hg.2
     ·have M7:Mv [r,qb] w5 (w6.setCell ⟨r,2,none⟩ (.int .i64 ((m2.wr:Int)+1))):=Mv.only C7.only (by simp)
      exact (HM2.out.more (fun k hk=>by simp at hk ⊢;exact Or.inl hk)).trans ((Mv.of_below B25).trans M7)
  ·have hf':(Dk.fault m i L==0)=false:=by simpa using hf
   have e1:Dk.wrE m i L=Dk.fault m i L:=by unfold Dk.wrE;rw [hdn,if_neg (by decide),if_pos (by simpa using hf)]
   have e2:Dk.wrM m i L=m:=by unfold Dk.wrM;rw [hdn,if_neg (by decide),if_pos (by simpa using hf)]
   go_enter Tryz.func80,Tryz.ntmps80
   go_wp2_with (go_at_call 85;refine (refwrong_any i L p _ c rfl _ HD.out).mono ?_;rintro e w1 ⟨rfl,rfl⟩)
   go_ret
   exact ⟨by first | rfl | (rw [e1];rfl),by rw [e2];exact Lib.hid (RfAt.own ⟨vl,vc,G,HD.out⟩ _),Lib.hid (Mv.refl _ _)⟩
set_option maxHeartbeats 4000000 in
set_option maxRecDepth 100000 in
theorem reftamper_c (i:Int) (L:List Int) (p:Option Addr) (n c:Nat) (hn:L.length=n) (hnb:n≤1000000) (w:World) (hd:RfC w U r qb vl vc m G) (hb:Bs w p c L) :
  Calls Tryz.prog 40 #[.pointer (some ⟨r,0,none⟩),.int .i64 i,.slice p n c] w (RfSayD U r qb (.int .i64 (Dk.fault m i L)) (Dk.tpM m i L) w):=by
 subst hn
 have HD:=Lib.hid hd
 have HB:=Lib.hid hb
 clear hd hb
 by_cases hf:Dk.fault m i L=0
 ·obtain ⟨j,rfl,hj⟩:=Dk.here_of (Dk.fault_ok hf).1
  have hL:=(Dk.fault_ok hf).2
  have E2:Hid (Dk.tpM m j L = { m with ls:=upd m.ls j L,ca:=upd m.ca j none }):=by show _=_;unfold Dk.tpM;rw [if_pos hf];rfl
  have HN:=Lib.hid HD.out.ok.n2
  have k1:=HD.out.cells.2.2.2.2.1
  go_enter Tryz.func40,Tryz.ntmps40
  go_upto_region 4 with (go_at_call 85;refine (refwrong_any j L p _ c rfl _ HD.out).mono ?_;rw [hf];rintro e w2 ⟨rfl,rfl⟩)
  obtain ⟨l0,hl0⟩:∃ x:Nat,Hid (x=0):=⟨_,rfl⟩
  go_region_law (first
   | (go_simp;go_at_call 26;refine (copybytes_any L p _ c rfl (by omega) _ HB.out.drew.bat).mono ?_;rintro e w4 ⟨v4,rfl,ho4,hb4⟩;have B4:Hid (Below w2.heap.size w2 w4):=((Below.refl _ w2).drew).trans hb4;obtain ⟨p4,c4,rfl,_,_⟩:=own_bs ho4 HB.out.bat.1;have O4:=Lib.hid ho4;have kb:Hid (w4.cell? ⟨r,4,none⟩=some vl):=(B4.out.cell (World.block_lt_of_cell? _ _ k1)).trans k1;have k4:w4.cell? ⟨r,4,none⟩=some vl:=kb.out;clear ho4 hb4)
   | (go_simp;go_at_call 86;refine (refput_any (Dk.lst G m.n) (j,L) (Own U w2 w4) vl p4 c4 w4 (HD.out.las' B4.out).1 (sec_of O4.out HB.out.bat.1 (fun g h1 h2=>Or.inr ⟨h1,h2⟩)) (by have:=Dk.lst_len G m.n;have:=HN.out;omega)).mono ?_;rintro e w5 ⟨v5,rfl,hl5,hb5⟩;obtain ⟨a5,q5,rfl,_⟩:=hl5.out.len;obtain ⟨l5,hl5e⟩:∃ l5,Hid ((Dk.ins (Dk.lst G m.n) (j,L)).length=l5):=⟨_,rfl⟩;rw [hl5e.out] at hl5 ⊢;have HL5:=Lib.hid hl5.out;have B5:=Lib.hid hb5.out;have R5:=Lib.hid ((B5.out.block r (Nat.lt_of_lt_of_le (HD.out.top r HD.out.lt.1) B4.out.size)).trans ((B4.out.block r (HD.out.top r HD.out.lt.1)).trans HD.out.row));have kc:Hid (w5.cell? ⟨r,4,none⟩=some vl):=(by show _=_;rw [cell_of_row w5 r 4 _ _ _ R5.out];try rfl);have k5:=kc.out;have f5:=frozen_of_row w5 r 4 _ _ R5.out;clear hl5 hb5))
  all_goals
   have B25:Hid (Below w2.heap.size w2 w5):=B4.out.trans (B5.out.mono B4.out.size)
   obtain ⟨w6,HW6⟩:∃ y:World,Hid (w5.setCell ⟨r,4,none⟩ (.slice a5 l5 q5)=y):=⟨_,rfl⟩
   have R6:=Lib.hid (heap_setCell_same w5 r 4 _ _ (.slice a5 l5 q5) R5.out)
   rw [HW6.out] at R6 ⊢
   have C6:Hid (Chg r w5 w6):=by show Chg _ _ _;rw [← HW6.out];exact Chg.setCell w5 ⟨r,4,none⟩ _
   have hlst:Lst w4.heap.size w5 (Own U w2 w5) (.slice a5 l5 q5) (Dk.lst (upd G j (some L)) m.n):=by
    have h:=HL5.out
    rw [Dk.ins_lst _ _ _ _ hj] at h
    exact h.lift (Own.more B5.out.size)
   have hfin:=HD.out.lay (m':={ m with ls:=upd m.ls j L }) (vl':=.slice a5 l5 q5) (vc':=vc) (G':=upd G j (some L)) B25.out C6.out (by rw [R6.out];simp [Dk.rl]) hlst.low (HD.out.cac' B25.out).1 ⟨lst_new hlst B4.out.size,(HD.out.cac' B25.out).2⟩ rfl rfl (fun x=>by
    show upd m.ls j L x=_
    by_cases e:x=j
    ·subst e;rw [upd_same,upd_same];rfl
    ·rw [upd_other _ _ e,upd_other _ _ e];exact HD.out.ls x) ⟨HD.out.ok.n1,HD.out.ok.n2,HD.out.ok.out,HD.out.ok.left,(Dk.ok_over (j:=j) HD.out.ok hL).lsb,HD.out.ok.cab⟩
   have HD6:=Lib.hid hfin
   have c5:=HD6.out.cells.2.2.2.2.2.1
   clear hlst hfin
   go_wp2_with (go_at_call 87;refine (without_any (Dk.lst m.ca m.n) j (Own U w2 w6) vc _ HD6.out.cac (by have:=Dk.lst_len m.ca m.n;have:=HN.out;omega)).mono ?_;rintro e w7 ⟨v7,rfl,hl7,hb7⟩;obtain ⟨a7,q7,rfl,_⟩:=hl7.out.len;obtain ⟨l7,hl7e⟩:∃ l7,Hid ((Dk.del (Dk.lst m.ca m.n) j).length=l7):=⟨_,rfl⟩;rw [hl7e.out] at hl7 ⊢;have HL7:=Lib.hid hl7.out;have B7:Hid (Below w6.heap.size w6 w7):=hb7;have R7:=Lib.hid ((B7.out.block r (HD6.out.top r HD6.out.lt.1)).trans HD6.out.row);have k7:w7.cell? ⟨r,5,none⟩=some vc:=(by rw [cell_of_row w7 r 5 _ _ _ R7.out];try rfl);have f7:=frozen_of_row w7 r 5 _ _ R7.out;clear hl7 hb7)
   ·go_ret
    have hset:=heap_setCell_same w7 r 5 _ _ (.slice a7 l7 q7) R7.out
    have C8:Chg r w7 (w7.setCell ⟨r,5,none⟩ (.slice a7 l7 q7)):=Chg.setCell w7 ⟨r,5,none⟩ _
    have hlst:Lst w6.heap.size w7 (Own (Own U w2 w6) w6 w7) (.slice a7 l7 q7) (Dk.lst (upd m.ca j none) m.n):=by
     have h:=HL7.out
     rw [Dk.del_lst] at h
     exact h.lift (fun g hg=>Or.inl hg)
    have hfin:=HD6.out.lay (m':={ m with ls:=upd m.ls j L,ca:=upd m.ca j none }) B7.out C8 (by rw [hset];simp [Dk.rl]) (HD6.out.las' B7.out).1 hlst.low ⟨(HD6.out.las' B7.out).2,lst_new hlst (Nat.le_refl _)⟩ rfl rfl HD6.out.ls (Dk.ok_over HD.out.ok hL)
    have S6:=C6.out.size
    refine ⟨by first | rfl | (rw [hf];rfl),?_,Lib.hid ?_⟩
    ·rw [E2.out]
     refine Lib.hid (RfAt.lift ⟨_,_,_,hfin⟩ (fun g hg=>?_) (fun g hg=>?_))
     ·rcases hg with (hg | hg) | hg
      ·exact Or.inl hg
      ·exact Or.inr ⟨hg.1,by have:=hg.2;have:=C8.size;have:=B7.out.size;omega⟩
      ·exact Or.inr ⟨by have:=hg.1;have:=B25.out.size;omega,hg.2⟩
     ·rcases hg with hg | hg
      ·exact hfin.top g (Or.inl (Or.inl hg))
      ·exact hg.2
    ·exact ((Mv.of_below B25.out).trans (Mv.only C6.out.only (by simp))).trans ((Mv.of_below B7.out).trans (Mv.only C8.only (by simp)))
 ·have hf':(Dk.fault m i L==0)=false:=by simpa using hf
  have E2:Hid (Dk.tpM m i L=m):=by show _=_;unfold Dk.tpM;rw [if_neg hf]
  go_enter Tryz.func40,Tryz.ntmps40
  go_wp2_with (go_at_call 85;refine (refwrong_any i L p _ c rfl _ HD.out).mono ?_;rintro e w1 ⟨rfl,rfl⟩)
  go_ret
  exact ⟨rfl,by rw [E2.out];exact Lib.hid (RfAt.own ⟨vl,vc,G,HD.out⟩ _),Lib.hid (Mv.refl _ _)⟩
end
end
end Go.Proofs.YtnnalemboeccbaaGreatDoor

/-
  DkX4, DkX5, DkX6, DkX7 (merged)
-/
import Derived.Test.YthgjfjmampmiiaaGreatDoorDk4
namespace Go.Proofs.YthgjfjmampmiiaaGreatDoor
open Go.Proofs.Tryz
set_option maxHeartbeats 4000000
set_option maxRecDepth 100000
section
open Go.RowKit
def Dk.rl (m:Dk.M):Int:=if m.left<0 then -1 else m.left
structure eT (y:World) (U:Nat→Prop) (r qb:Nat) (vl vc:Value) (m:Dk.M) (G:Nat→Option (List Int)):Prop where
 lt:U r∧U qb
 top:∀ g,U g→g<y.heap.size
 row:y.heap[r]?=qo #[.int .i64 (m.n:Int),.int .i64 (Dk.rl m),.int .i64 (m.wr:Int),.bool m.down,vl,vc,.slice (some ⟨qb,0,none⟩) m.n m.n] 77
 las:eN 0 y U vl (Dk.cI G m.n)
 cac:eN 0 y U vc (Dk.cI m.ca m.n)
 own:(∀ g,vl.ownBlock=some g→U g)∧∀ g,vc.ownBlock=some g→U g
 cnt:y.heap[qb]?=qo ((List.range m.n).map fun i=>Value.int .i64 (m.rd i:Int)).toArray 3
 ls:∀ i,m.ls i=(G i).getD []
 ok:Dk.Ok m
def bA (y:World) (U:Nat→Prop) (r qb:Nat) (m:Dk.M):Prop:=∃ vl vc G,eT y U r qb vl vc m G
section
variable {y z:World} {U U':Nat→Prop} {r qb:Nat} {vl vc:Value} {m:Dk.M} {G:Nat→Option (List Int)}
theorem eT.ne (h:eT y U r qb vl vc m G) {g:Nat} {cur:Array Value} {e:TypeId} (hg:y.heap[g]?=qo cur e) (he:77 ≠ e):g ≠ r:=fun q=>by
 rw [q,h.row] at hg;injection Option.some.inj hg with _ h7 _
 exact he h7
theorem eT.aiU (h:eT y U r qb vl vc m G) (hk:∀ g,U g→g ≠ r→z.heap[g]?=y.heap[g]?):eN 0 z U vl (Dk.cI G m.n) :=
 h.las.aG (fun g hg=>by obtain ⟨_,cur,h2⟩:=h.las.type g hg;exact hk g (h.own.1 g hg) (h.ne h2 (by decide))) (fun g cur hg hc=>hk g hg (h.ne hc (by decide)))
theorem eT.ai6 (h:eT y U r qb vl vc m G) (hk:∀ g,U g→g ≠ r→z.heap[g]?=y.heap[g]?):eN 0 z U vc (Dk.cI m.ca m.n) :=
 h.cac.aG (fun g hg=>by obtain ⟨_,cur,h2⟩:=h.cac.type g hg;exact hk g (h.own.2 g hg) (h.ne h2 (by decide))) (fun g cur hg hc=>hk g hg (h.ne hc (by decide)))
theorem eT.ai4 (h:eT y U r qb vl vc m G) (hk:∀ g,U g→g ≠ r→z.heap[g]?=y.heap[g]?):z.heap[qb]?=qo ((List.range m.n).map fun i=>Value.int .i64 (m.rd i:Int)).toArray 3:=(hk qb h.lt.2 (h.ne h.cnt (by decide))).trans h.cnt
theorem eT.aG (h:eT y U r qb vl vc m G) (hs:y.heap.size≤z.heap.size) (hk:∀ g,U g→z.heap[g]?=y.heap[g]?):eT z U r qb vl vc m G :=
 ⟨h.lt,fun g hg=>Nat.lt_of_lt_of_le (h.top g hg) hs,(hk r h.lt.1).trans h.row,h.aiU (fun g hg _=>hk g hg),h.ai6 (fun g hg _=>hk g hg),h.own,h.ai4 (fun g hg _=>hk g hg),h.ls,h.ok⟩
theorem eT.lift (h:eT y U r qb vl vc m G) (hU:∀ g,U g→U' g) (ht:∀ g,U' g→g<y.heap.size):eT y U' r qb vl vc m G :=
 ⟨⟨hU _ h.lt.1,hU _ h.lt.2⟩,ht,h.row,h.las.lift hU,h.cac.lift hU,⟨fun g hg=>hU g (h.own.1 g hg),fun g hg=>hU g (h.own.2 g hg)⟩,h.cnt,h.ls,h.ok⟩
theorem eT.cells (h:eT y U r qb vl vc m G):y.cell? ⟨r,0,none⟩=some (.int .i64 (m.n:Int))∧y.cell? ⟨r,1,none⟩=some (.int .i64 (Dk.rl m))∧y.cell? ⟨r,2,none⟩=some (.int .i64 (m.wr:Int))∧y.cell? ⟨r,3,none⟩=some (.bool m.down)∧y.cell? ⟨r,4,none⟩=some vl∧y.cell? ⟨r,5,none⟩=some vc∧y.cell? ⟨r,6,none⟩=some (.slice (some ⟨qb,0,none⟩) m.n m.n):=by
 refine ⟨?_,?_,?_,?_,?_,?_,?_⟩<;>rw [cell_of_row y r _ _ _ _ h.row]<;>rfl
theorem eT.eD (h:eT y U r qb vl vc m G) {m':Dk.M} (hm:Mv [r] y z) (hr:z.heap[r]?=qo #[.int .i64 (m'.n:Int),.int .i64 (Dk.rl m'),.int .i64 (m'.wr:Int),.bool m'.down,vl,vc,.slice (some ⟨qb,0,none⟩) m.n m.n] 77)
  (hn:m'.n=m.n) (hl:m'.ls=m.ls) (hc:m'.ca=m.ca) (hd:m'.rd=m.rd) (hi:aT m'.left):eT z U r qb vl vc m' G:=by
 have hk:∀ g,U g→g ≠ r→z.heap[g]?=y.heap[g]?:=fun g hg KC=>hm.block g (h.top g hg) (by simpa using KC);obtain ⟨o1,o2,o3,o4,o5,o6⟩:=h.ok;exact ⟨h.lt,fun g hg=>Nat.lt_of_lt_of_le (h.top g hg) hm.size,by rw [hr,hn],by rw [hn];exact h.aiU hk,by rw [hn,hc];exact h.ai6 hk,h.own,by rw [hn,hd];exact h.ai4 hk,by rw [hl];exact h.ls,⟨by rw [hn];exact o1,by rw [hn];exact o2,by rw [hn,hc];exact o3,hi,by rw [hl];exact o5,by rw [hc];exact o6⟩⟩
theorem bA.aG (h:bA y U r qb m) (hs:y.heap.size≤z.heap.size) (hk:∀ g,U g→z.heap[g]?=y.heap[g]?):bA z U r qb m:=by
 obtain ⟨vl,vc,G,h⟩:=h;exact ⟨vl,vc,G,h.aG hs hk⟩
theorem bA.lift (h:bA y U r qb m) (hU:∀ g,U g→U' g) (ht:∀ g,U' g→g<y.heap.size):bA y U' r qb m:=by
 obtain ⟨vl,vc,G,h⟩:=h;exact ⟨vl,vc,G,h.lift hU ht⟩
theorem bA.lt (h:bA y U r qb m):U r∧U qb:=by obtain ⟨vl,vc,G,h⟩:=h;exact h.lt
theorem bA.top (h:bA y U r qb m):∀ g,U g→g<y.heap.size:=by obtain ⟨vl,vc,G,h⟩:=h;exact h.top
theorem bA.av (h:bA y U r qb m) (hb:qw y z):bA z U r qb m:=h.aG hb.size (fun g hg=>hb.block g (h.top g hg))
theorem bA.mv {ks:List Nat} (h:bA y U r qb m) (hm:Mv ks y z) (hk:∀ k∈ks,¬ U k):bA z U r qb m:=h.aG hm.size (fun g hg=>hm.block g (h.top g hg) (fun AF=>hk g AF hg))
theorem bA.own (h:bA y U r qb m) (x:World):bA y (Own U x y) r qb m:=h.lift (fun _ h=>Or.inl h) (fun g hg=>by
 rcases hg with h1 | h1
 ·exact h.top g h1
 ·exact h1.2)
end
def kq (U:Nat→Prop) (r qb:Nat) (v:Value) (m':Dk.M) (w:World) (e:Ending) (w':World):Prop:=e = .returned v∧Hid (bA w' (Own U w w') r qb m')∧Hid (Mv [r,qb] w w')
def ahx (U:Nat→Prop) (r qb:Nat) (v:Value) (m':Dk.M) (w:World) (e:Ending) (w':World):Prop:=e = .returned v∧Hid (bA w' U r qb m')∧Hid (Mv [r] w w')
section
variable {U:Nat→Prop} {r qb:Nat} {m:Dk.M} {vl vc:Value} {G:Nat→Option (List Int)}
theorem gI (w:World) (hd:eT w U r qb vl vc m G):qc 85 #[qp r] w fun e w'=>e = .returned (.int .i64 (Dk.aM m))∧Hid (eT w' U r qb vl vc (Dk.aK m) G)∧Hid (Mv [r] w w'):=by
 obtain ⟨_,c1,_,c3,_,_,_⟩:=hd.cells;have f1:=frozen_of_row w r 1 _ _ hd.row;have f3:=frozen_of_row w r 3 _ _ hd.row;have HD:=qh hd;clear hd;have key:∀ (j:Nat) (u:Value),(w.setCell ⟨r,j,none⟩ u).heap[r]?=qo ((#[.int .i64 (m.n:Int),.int .i64 (Dk.rl m),.int .i64 (m.wr:Int),.bool m.down,vl,vc,.slice (some ⟨qb,0,none⟩) m.n m.n]:Array Value).setIfInBounds j u) 77:=fun j u=>heap_setCell_same w r j _ _ u HD.out.row;have KEY:=qh key;clear key;have HL:=qh HD.out.ok.left;cases BX:m.down with
 | true =>
  have hg:Dk.gone m=true:=by unfold Dk.gone;rw [BX];rfl
  have es:Dk.aK m = { m with down:=true }:=by unfold Dk.aK;rw [if_pos hg]
  have e0:({ m with down:=true }:Dk.M)=m:=by rw [← BX]
  have ee:Dk.aM m=12:=by unfold Dk.aM;rw [if_pos hg]
  rw [BX] at c3;go_enter func85,ntmps85;go_wp2;go_ret;refine ⟨by first | rfl | (rw [ee];rfl),qh ?_,qh (Mv.refl _ _)⟩;rw [es,e0];exact HD.out
 | false =>
  rw [BX] at c3;by_cases h0:m.left=0
  ·have hg:Dk.gone m=true:=by unfold Dk.gone;rw [h0];simp
   have es:Dk.aK m = { m with down:=true }:=by unfold Dk.aK;rw [if_pos hg]
   have ee:Dk.aM m=12:=by unfold Dk.aM;rw [if_pos hg]
   have e1:Dk.rl m=0:=by unfold Dk.rl;rw [h0];rfl
   rw [e1] at c1;go_enter func85,ntmps85;go_wp2;go_ret;refine ⟨by first | rfl | (rw [ee];rfl),qh ?_,qh ((Mv.refl _ _).setCell _ _ (by simp))⟩;rw [es];exact HD.out.eD ((Mv.refl _ _).setCell _ _ (by simp)) (by rw [KEY.out];rfl) rfl rfl rfl rfl HL.out
  ·have hg:Dk.gone m=false:=by unfold Dk.gone;rw [BX];simp [h0]
   have ee:Dk.aM m=0:=by unfold Dk.aM;rw [hg];rfl
   by_cases hp:0<m.left
   ·have es:Dk.aK m = { m with left:=m.left-1 }:=by unfold Dk.aK;rw [hg,if_pos hp];rfl
    have e1:Dk.rl m=m.left:=by unfold Dk.rl;rw [if_neg (by omega)]
    have e2:Dk.rl { m with left:=m.left-1 }=m.left-1:=by unfold Dk.rl;rw [if_neg (by dsimp only;omega)]
    rw [e1] at c1;have h0':(m.left==0)=false:=by simpa using h0
    have Aq:IntKind.i64.wrap (m.left-1)=m.left-1:=IntWalk.i64_in _ (by have h:=HL.out;unfold aT at h;constructor<;>omega);go_enter func85,ntmps85;go_wp2;go_ret;refine ⟨by first | rfl | (rw [ee];rfl),qh ?_,qh ((Mv.refl _ _).setCell _ _ (by simp))⟩;rw [es];exact HD.out.eD ((Mv.refl _ _).setCell _ _ (by simp)) (by rw [KEY.out,e2];simp [BX]) rfl rfl rfl rfl (by have h:=HL.out;unfold aT at h ⊢;dsimp only;omega)
   ·have es:Dk.aK m=m:=by unfold Dk.aK;rw [hg,if_neg hp];rfl
    have e1:Dk.rl m = -1:=by unfold Dk.rl;rw [if_pos (by omega)]
    rw [e1] at c1;go_enter func85,ntmps85;go_wp2;go_ret;exact ⟨by first | rfl | (rw [ee];rfl),qh (by first | exact HD.out | (rw [es];exact HD.out)),qh (Mv.refl _ _)⟩
theorem dI (i:Int) (L:List Int) (p:Option Addr) (n c:Nat) (hn:L.length=n) (w:World) (hd:eT w U r qb vl vc m G) :
  qc 82 #[qp r,.int .i64 i,.slice p n c] w fun e w'=>e = .returned (.int .i64 (Dk.fault m i L))∧w'=w:=by
 subst hn;obtain ⟨c0,_⟩:=hd.cells;clear hd;by_cases h0:i<0
 ·have e:Dk.fault m i L=7:=by unfold Dk.fault Dk.here;rw [decide_eq_false (by omega)];simp
  go_enter func82,ntmps82;go_wp2;go_ret;exact ⟨by first | rfl | (rw [e];rfl),rfl⟩
 ·have h0':(0:Int)≤i:=by omega
  by_cases h1:(m.n:Int)≤i
  ·have e:Dk.fault m i L=7:=by unfold Dk.fault Dk.here;rw [decide_eq_false (show ¬ i<(m.n:Int) by omega)];simp
   go_enter func82,ntmps82;go_wp2;go_ret;exact ⟨by first | rfl | (rw [e];rfl),rfl⟩
  ·have h1':i<(m.n:Int):=by omega
   have hh:Dk.here m i=true:=by unfold Dk.here;rw [decide_eq_true h0',decide_eq_true h1'];rfl
   by_cases hl:(1024:Int)<(L.length:Int)
   ·have e:Dk.fault m i L=3:=by unfold Dk.fault;rw [hh,if_neg (by decide),if_pos (by omega)]
    go_enter func82,ntmps82;go_wp2;go_ret;exact ⟨by first | rfl | (rw [e];rfl),rfl⟩
   ·have e:Dk.fault m i L=0:=by unfold Dk.fault;rw [hh,if_neg (by decide),if_neg (by omega)]
    go_enter func82,ntmps82;go_wp2;go_ret;exact ⟨by first | rfl | (rw [e];rfl),rfl⟩
theorem uU (n:Int) (hn:aT n) (w:World) (hd:bA w U r qb m):qc 44 #[qp r,.int .i64 n] w (ahx U r qb (.tuple #[]) { m with left:=n } w):=by
 obtain ⟨vl,vc,G,hd⟩:=hd;obtain ⟨_,c1,_⟩:=hd.cells;have f1:=frozen_of_row w r 1 _ _ hd.row;have HD:=qh hd;clear hd;have HN:=qh hn;clear hn;have KEY:=qh (fun (u:Value)=>heap_setCell_same w r 1 _ _ u HD.out.row);by_cases h0:n<0
 ·have e1:Dk.rl { m with left:=n } = -1:=by unfold Dk.rl;rw [if_pos h0]
  have A9:Hid (∀ u u',((w.setCell ⟨r,1,none⟩ u).setCell ⟨r,1,none⟩ u').heap[r]?=_):=fun u u'=>heap_setCell_same _ r 1 _ _ u' (KEY.out u);have f1':(w.setCell ⟨r,1,none⟩ (.int .i64 n)).frozen? ⟨r,1,none⟩=false:=frozen_of_row _ r 1 _ _ (KEY.out _);go_enter func44,ntmps44;go_wp2;go_end0
  refine ⟨rfl,qh ⟨vl,vc,G,?_⟩,qh (((Mv.refl _ _).setCell _ _ (by simp)).setCell _ _ (by simp))⟩;exact HD.out.eD (((Mv.refl _ _).setCell _ _ (by simp)).setCell _ _ (by simp)) (by rw [A9.out,e1];simp) rfl rfl rfl rfl HN.out
 ·have e1:Dk.rl { m with left:=n }=n:=by unfold Dk.rl;rw [if_neg h0]
  have h0':(0:Int)≤n:=by omega
  go_enter func44,ntmps44;go_wp2;go_end0
  refine ⟨rfl,qh ⟨vl,vc,G,?_⟩,qh ((Mv.refl _ _).setCell _ _ (by simp))⟩;exact HD.out.eD ((Mv.refl _ _).setCell _ _ (by simp)) (by rw [KEY.out,e1];simp) rfl rfl rfl rfl HN.out
end
end
section
open Go.RowKit
theorem Dk.abh (x:Dk.S) (l:List Dk.S) (i:Nat):Dk.vH (x :: l) i=if x.1=i then some x.2 else Dk.vH l i:=by
 unfold Dk.vH;rw [List.find?_cons];by_cases h:x.1=i<;>simp [h]
def tM (o:Option (List Int)) (w:World) (e:Ending) (w':World):Prop:=∃ v,e = .returned (.tuple #[v,.bool o.isSome])∧Hid (w'.ownsRow w.heap.size 5 1 v (o.getD []).length (aC (o.getD []))∧ai.aY (o.getD []))∧Hid (qw w w')
theorem r9 (l:List Dk.S) (i:Nat) (U:Nat→Prop) (v:Value) (w:World) (hl:eN 0 w U v l) (hn:l.length≤5000) (Bj:∀ x∈l,x.2.length≤1024):qc 51 #[v,.int .i64 (i:Int)] w (tM (Dk.vH l i) w):=by
 obtain ⟨a,cap,rfl,ha⟩:=hl.len;have HL:=qh hl;have HA:=qh ha;have JL:=qh Bj;clear hl ha Bj;go_enter func51,ntmps51;go_upto_region 2 with (fail)
 go_loopw [6] (fun v6 wr=>∃ k:Nat,k≤l.length∧v6 = .int .i64 k∧Hid (Dk.vH l i=Dk.vH (l.drop k) i)∧Hid (qw w wr)) (fun v6 _=>l.length-(intOf v6).toNat)
 case atStart=>exact ⟨0,Nat.zero_le _,rfl,qh rfl,qh (Below.refl _ _)⟩
 case round =>
  obtain ⟨k,hk,rfl,HF,HB⟩:=hrel;by_cases Ae:k<l.length
  ·obtain ⟨x,hx⟩:∃ x,l[k]?=some x:=⟨_,List.getElem?_eq_getElem Ae⟩;obtain ⟨gs,rfl⟩:=HA.out (by omega);obtain ⟨u,c0,c1,hu⟩:=(HL.out.av HB.out).at hx;have GP:(0:Int)≤(k:Int):=by omega
   have Ec:(k:Int)<(l.length:Int):=by omega
   have HT:Hid (Dk.vH (l.drop k) i=if x.1=i then some x.2 else Dk.vH (l.drop (k+1)) i):=by
    show _=_;have e:l.drop k=x :: l.drop (k+1):=by
     rw [List.drop_eq_getElem_cons Ae];rw [List.getElem?_eq_getElem Ae] at hx;rw [Option.some.inj hx]
    rw [e,Dk.abh]
   have GL:=qh (JL.out x (List.mem_of_getElem? hx));have HU:=qh hu;clear hx hu;obtain ⟨p,c,Mw,_⟩:=HU.out.bs;subst Mw;by_cases e:x.1=i
   ·have Fk:(x.1:Int)=(i:Int):=by omega
    rw [Fk] at c0;have Bl:Hid (Bs wr p c x.2):=by
     obtain ⟨p',c',h1,h2⟩:=HU.out.bs;cases h1
     exact h2
    go_wp2_with (go_at_call 25;refine (fK x.2 p x.2.length c rfl (by have:=GL.out;omega) _ Bl.out.bat).mono ?_;rintro e4 w4 ⟨v4,rfl,BM,AJ⟩;have O4:=qh BM;have B4:Hid (qw wr w4):=AJ;clear BM AJ)
    go_ret2;have eo:Dk.vH l i=some x.2:=by rw [HF.out,HT.out,if_pos e]
    refine ⟨v4,by rw [eo];rfl,qh ?_,qh (HB.out.trans (B4.out.mono HB.out.size))⟩;rw [eo];exact ⟨ei O4.out HB.out.size,HU.out.2.1⟩
   ·have Fk:((x.1:Int)==(i:Int))=false:=by simp;omega
    go_wp2;exact ⟨⟨k+1,by omega,by go_num,qh (by rw [HF.out,HT.out,if_neg e]),HB⟩,by simp [intOf];omega⟩
  ·go_wp2;go_ret2;have eo:Dk.vH l i=none:=by rw [HF.out,List.drop_eq_nil_of_le (by omega)];rfl
   refine ⟨.slice none 0 0,by rw [eo];rfl,qh ?_,HB⟩;rw [eo];exact ⟨by unfold aC;exact World.ownsRow_nil _ _ _ _,fun x hx=>by simp at hx⟩
section
variable {U:Nat→Prop} {r qb:Nat} {m:Dk.M} {vl vc:Value} {G:Nat→Option (List Int)}
theorem eT.szc {y:World} (h:eT y U r qb vl vc m G):∀ x∈Dk.cI m.ca m.n,x.2.length≤1024:=fun x hx=>h.ok.cab _ _ (Dk.lO _ _ hx).2
theorem eT.szl {y:World} (h:eT y U r qb vl vc m G):∀ x∈Dk.cI G m.n,x.2.length≤1024:=fun x hx=>by
 have h1:=(Dk.lO _ _ hx).2;have h2:=h.ls x.1;rw [h1] at h2;have h3:=h.ok.lsb x.1;rw [h2] at h3;exact h3
theorem kM (i:Nat) (hi:i<m.n) (w:World) (hd:eT w U r qb vl vc m G):qc 18 #[qp r,.int .i64 (i:Int)] w fun e w'=>∃ v,e = .returned v∧Hid (w'.ownsRow w.heap.size 5 1 v (Dk.cG m i).length (aC (Dk.cG m i))∧ai.aY (Dk.cG m i))∧Hid (qw w w'):=by
 obtain ⟨_,_,_,_,c4,c5,_⟩:=hd.cells;have HD:=qh hd;clear hd;have C0:=HD.out.ok.n2;have e1:Dk.vH (Dk.cI m.ca m.n) i=m.ca i:=by rw [Dk.pz,if_pos hi]
 have e2:Dk.vH (Dk.cI G m.n) i=G i:=by rw [Dk.pz,if_pos hi]
 have H1:Hid (∀ y,qw w y→qc 51 #[vc,.int .i64 (i:Int)] y (tM (m.ca i) y)):=fun y hy=>by
  have h:=r9 (Dk.cI m.ca m.n) i U vc y (HD.out.cac.av hy) (by have:=Dk.eB m.ca m.n;omega) HD.out.szc;rw [e1] at h;exact h
 have H2:Hid (∀ y,qw w y→qc 51 #[vl,.int .i64 (i:Int)] y (tM (G i) y)):=fun y hy=>by
  have h:=r9 (Dk.cI G m.n) i U vl y (HD.out.las.av hy) (by have:=Dk.eB G m.n;omega) HD.out.szl;rw [e2] at h;exact h
 have Rt:Hid (∀ y,qw w y→y.cell? ⟨r,4,none⟩=some vl):=fun y hy=>(hy.cell (World.block_lt_of_cell? _ _ c4)).trans c4;cases hc:m.ca i with
 | some L =>
  have ep:Dk.cG m i=L:=by unfold Dk.cG;rw [hc];rfl
  rw [hc] at H1;go_enter func18,ntmps18;go_wp2_with (go_at_call 51;refine (H1.out _ (Below.refl _ _)).mono ?_;rintro e w3 ⟨v3,rfl,Iw,As⟩;dsimp only [Option.isSome_some,Option.getD_some] at Iw ⊢)
  go_ret;rw [ep];exact ⟨v3,rfl,Iw,As⟩
 | none =>
  have ep:Dk.cG m i=(G i).getD []:=by unfold Dk.cG;rw [hc];exact HD.out.ls i
  rw [hc] at H1;have T1:Hid True:=trivial;go_enter func18,ntmps18;go_wp2_with (first
   | (go_at_call 51;have tk:=T1.out;clear tk T1;refine (H1.out _ (Below.refl _ _)).mono ?_;rintro e w3 ⟨v3,rfl,Iw,As⟩;dsimp only [Option.isSome_none] at Iw ⊢;have c4':=Rt.out _ As.out)
   | (go_at_call 51;refine (H2.out _ As.out).mono ?_;rintro e w4 ⟨v4,rfl,BM,AJ⟩))
  go_ret;rw [ep];exact ⟨v4,rfl,qh ⟨ei BM.out.1 As.out.size,BM.out.2⟩,qh (As.out.trans (AJ.out.mono As.out.size))⟩
end
end
section
open Go.RowKit
section
variable {U:Nat→Prop} {r qb:Nat} {m:Dk.M} {vl vc:Value} {G:Nat→Option (List Int)}
theorem eT.counted {y z:World} {j:Nat} (h:eT y U r qb vl vc m G) (hm:Mv [qb] y z) (hr:z.heap[qb]?=qo (((List.range m.n).map fun i=>Value.int .i64 (m.rd i:Int)).toArray.setIfInBounds j (.int .i64 ((m.rd j:Int)+1))) 3) (hj:j<m.n) :
  eT z U r qb vl vc { m with rd:=aZ m.rd j (m.rd j+1) } G:=by
 have key:∀ g,U g→g ≠ qb→z.heap[g]?=y.heap[g]?:=fun g hg hn=>hm.block g (h.top g hg) (by simpa using hn);have ne:∀ (g:Nat) (cur:Array Value) (e:TypeId),y.heap[g]?=qo cur e→3 ≠ e→g ≠ qb:=fun g cur e h1 he q=>by
  rw [q,h.cnt] at h1;injection Option.some.inj h1 with _ h7 _
  exact he h7
 obtain ⟨o1,o2,o3,o4,o5,o6⟩:=h.ok;refine ⟨h.lt,fun g hg=>Nat.lt_of_lt_of_le (h.top g hg) hm.size,(key r h.lt.1 (ne _ _ _ h.row (by decide))).trans h.row,?_,?_,h.own,?_,h.ls,⟨o1,o2,o3,o4,o5,o6⟩⟩
 ·exact h.las.aG (fun g hg=>by obtain ⟨_,cur,h2⟩:=h.las.type g hg;exact key g (h.own.1 g hg) (ne _ _ _ h2 (by decide))) (fun g cur hg hc=>key g hg (ne _ _ _ hc (by decide)))
 ·exact h.cac.aG (fun g hg=>by obtain ⟨_,cur,h2⟩:=h.cac.type g hg;exact key g (h.own.2 g hg) (ne _ _ _ h2 (by decide))) (fun g cur hg hc=>key g hg (ne _ _ _ hc (by decide)))
 ·rw [hr];congr 2;apply Array.ext_getElem?
  intro k;by_cases I8:k=j
  ·subst I8;rw [Array.getElem?_setIfInBounds_self_of_lt (by simpa using hj)];simp [hj,az]
  ·rw [Array.getElem?_setIfInBounds_ne (fun e=>I8 e.symm)];by_cases hk:k<m.n
   ·simp [hk,aq _ _ I8]
   ·simp [hk]
def afh (U:Nat→Prop) (r qb:Nat) (m:Dk.M) (i:Int) (w:World) (e:Ending) (w':World):Prop:=∃ v,e = .returned (.tuple #[v,.int .i64 (Dk.fC m i)])∧Hid (w'.ownsRow w.heap.size 5 1 v (Dk.bK m i).length (aC (Dk.bK m i))∧ai.aY (Dk.bK m i))∧Hid (bA w' U r qb (Dk.dG m i))∧Hid (Mv [r,qb] w w')
theorem jT (i:Int) (w:World) (hd:bA w U r qb m) (CA:∀ j,m.rd j≤1000000000):qc 41 #[qp r,.int .i64 i] w (afh U r qb m i w):=by
 obtain ⟨vl,vc,G,hd⟩:=hd;obtain ⟨c0,_,_,_,_,_,c6⟩:=hd.cells;have HD:=qh hd;clear hd;by_cases hh:Dk.here m i=true
 ·obtain ⟨j,rfl,hj⟩:=Dk.gE hh;have e1:Dk.fC m j=0:=by unfold Dk.fC;rw [hh];rfl
  have e2:Dk.bK m j=Dk.cG m j:=by unfold Dk.bK;rw [hh];rfl
  have e3:Dk.dG m j = { m with rd:=aZ m.rd j (m.rd j+1) }:=by unfold Dk.dG;rw [hh];rfl
  have c2:w.cell? ⟨qb,j,none⟩=some (.int .i64 (m.rd j:Int)):=by
   rw [cell_of_row w qb j _ _ _ HD.out.cnt];simp [hj]
  have f2:=frozen_of_row w qb j _ _ HD.out.cnt;have Aq:IntKind.i64.wrap ((m.rd j:Int)+1)=(m.rd j:Int)+1:=IntWalk.i64_in _ (by have:=CA j;constructor<;>omega);have EM:(0:Int)≤(j:Int):=by omega
  have Dq:(j:Int)<(m.n:Int):=by omega
  clear CA;obtain ⟨w2,Ba⟩:∃ y:World,Hid ((w.setCell ⟨qb,j,none⟩ (.int .i64 ((m.rd j:Int)+1))).drew=y):=⟨_,rfl⟩;have M2:Hid (Mv [qb] w w2):=by show Mv _ _ _;rw [← Ba.out];exact ((Mv.refl _ _).setCell _ _ (by simp)).drew
  have D2:Hid (eT w2 U r qb vl vc { m with rd:=aZ m.rd j (m.rd j+1) } G):=by
   refine HD.out.counted M2.out ?_ hj;rw [← Ba.out];exact heap_setCell_same w qb j _ _ _ HD.out.cnt
  have M4:Hid (Mv [r,qb] w w2):=M2.out.more (fun k hk=>by simp at hk ⊢;subst hk;simp);go_enter func41,ntmps41;go_upto_region 3 with (fail)
  go_still_tail 14,(by kernel_rfl)
  go_upto_region 4 with (fail)
  rw [Ba.out];go_wp2_with (go_at_call 18;refine (kM (m:={ m with rd:=aZ m.rd j (m.rd j+1) }) j hj _ D2.out).mono ?_;rintro e w4 ⟨v4,rfl,BM,AJ⟩)
  go_ret2;refine ⟨v4,by rw [e1];rfl,qh ?_,qh ?_,qh (M4.out.trans (Mv.aB AJ.out))⟩
  ·rw [e2];exact ⟨ei BM.out.1 M2.out.size,BM.out.2⟩
  ·rw [e3];exact ⟨vl,vc,G,D2.out.aG AJ.out.size (fun g hg=>AJ.out.block g (D2.out.top g hg))⟩
 ·have hh:Dk.here m i=false:=by cases h:Dk.here m i<;>simp_all
  have e1:Dk.fC m i=7:=by unfold Dk.fC;rw [hh];rfl
  have e2:Dk.bK m i = []:=by unfold Dk.bK;rw [hh];rfl
  have e3:Dk.dG m i=m:=by unfold Dk.dG;rw [hh];rfl
  have key:afh U r qb m i w (.returned (.tuple #[.slice none 0 0,.int .i64 7])) w:=by
   refine ⟨.slice none 0 0,by rw [e1],qh ?_,qh ?_,qh (Mv.refl _ _)⟩
   ·rw [e2];exact ⟨by unfold aC;exact World.ownsRow_nil _ _ _ _,fun x hx=>by simp at hx⟩
   ·rw [e3];exact ⟨vl,vc,G,HD.out⟩
  have KEY:=qh key;clear key;by_cases h0:i<0
  ·go_enter func41,ntmps41;go_wp2;go_ret2;exact KEY.out
  ·have h0':(0:Int)≤i:=by omega
   have h1:(m.n:Int)≤i:=by
    unfold Dk.here at hh;rw [decide_eq_true h0'] at hh;simp at hh;exact hh
   go_enter func41,ntmps41;go_wp2;go_ret2;exact KEY.out
end
def tu (n:Int) (w:World) (e:Ending) (w':World):Prop :=
 if Dk.may n then ∃ r qb,e = .returned (.tuple #[qp r,.int .i64 0])∧Hid (bA w' (fun g=>w.heap.size≤g∧g<w'.heap.size) r qb (Dk.fresh n.toNat))∧qw w w'
 else e = .returned (.tuple #[.pointer none,.int .i64 7])∧w'=w
theorem vq (n:Nat) (h1:1≤n) (h2:n≤4096) (w:World):qc 8 #[.int .i64 (n:Int)] w (tu n w):=by
 have hm:Dk.may n=true:=by unfold Dk.may;simp;omega
 have EM:(1:Int)≤(n:Int):=by omega
 have Dq:(n:Int)≤4096:=by omega
 have m2:=mD 46 3 (.int .i64 0) 8 n underlying46 Tryz.mB rfl (by omega) (by omega);go_enter func8,ntmps8;go_wp2;go_ret2;unfold tu;rw [hm,if_pos rfl,Int.toNat_natCast];refine ⟨w.heap.size+1,w.heap.size,rfl,qh ⟨.slice none 0 0,.slice none 0 0,fun _=>none,⟨⟨by omega,by simp⟩,⟨Nat.le_refl _,by simp;omega⟩⟩,fun g h=>h.2,?_,?_,?_,⟨(fun g hg=>by cases hg),(fun g hg=>by cases hg)⟩,?_,fun i=>rfl,⟨h1,h2,fun i _=>rfl,by unfold aT Dk.fresh;dsimp only;omega,fun i=>by simp [Dk.fresh],fun i L hL=>by cases hL⟩⟩,yA w _ _⟩
 ·have h:=heap_alloc_new (w.alloc (.cells (Array.replicate n (Value.int .i64 0)) 3)) (.cells #[.int .i64 (n:Int),.int .i64 (-1),.int .i64 0,.bool false,.slice none 0 0,.slice none 0 0,.slice (some ⟨w.heap.size,0,none⟩) n n] 77);have hs:(w.alloc (.cells (Array.replicate n (Value.int .i64 0)) 3)).heap.size=w.heap.size+1:=by simp
  rw [hs] at h;exact h
 ·rw [Dk.ly];exact iK _ _ _
 ·show eN _ _ _ _ (Dk.cI (fun _=>none) n);rw [Dk.ly];exact iK _ _ _
 ·rw [heap_alloc_old _ _ (by simp),heap_alloc_new];unfold Dk.fresh;congr 2;apply Array.ext
  ·simp
  ·intro j _ _;simp
end
section
open Go.RowKit
section
variable {U:Nat→Prop} {r qb:Nat} {m:Dk.M} {vl vc:Value} {G:Nat→Option (List Int)}
theorem aax {U:Nat→Prop} {w y z:World} (hs:z.heap.size=y.heap.size):Own U w z=Own U w y:=by unfold Own;rw [hs]
theorem eT.lay {w y z:World} {m':Dk.M} {vl' vc':Value} {G':Nat→Option (List Int)} (h:eT w U r qb vl vc m G) (hb:qw w y) (hc:bJ r y z)
  (hr:z.heap[r]?=qo #[.int .i64 (m'.n:Int),.int .i64 (Dk.rl m'),.int .i64 (m'.wr:Int),.bool m'.down,vl',vc',.slice (some ⟨qb,0,none⟩) m.n m.n] 77)
  (hl:eN 0 y (Own U w y) vl' (Dk.cI G' m.n)) (DG:eN 0 y (Own U w y) vc' (Dk.cI m'.ca m.n)) (ho:(∀ g,vl'.ownBlock=some g→Own U w y g)∧∀ g,vc'.ownBlock=some g→Own U w y g)
  (hn:m'.n=m.n) (hd:m'.rd=m.rd) (L9:∀ i,m'.ls i=(G' i).getD []) (ok:Dk.Ok m'):eT z (Own U w z) r qb vl' vc' m' G':=by
 rw [aax hc.size];have Nu:y.heap[r]?=w.heap[r]?:=hb.block r (h.top r h.lt.1);have key:∀ (g:Nat) (cur:Array Value) (e:TypeId),y.heap[g]?=qo cur e→77 ≠ e→z.heap[g]?=y.heap[g]?:=fun g cur e h1 he=>hc.block g (fun q=>by
  rw [q,Nu,h.row] at h1;injection Option.some.inj h1 with _ h7 _
  exact he h7)
 have QU:y.heap[qb]?=qo ((List.range m.n).map fun i=>Value.int .i64 (m.rd i:Int)).toArray 3:=(hb.block qb (h.top qb h.lt.2)).trans h.cnt;refine ⟨⟨Or.inl h.lt.1,Or.inl h.lt.2⟩,fun g hg=>?_,by rw [hr,hn],?_,?_,ho,?_,L9,ok⟩
 ·rw [hc.size];rcases hg with hg | hg
  ·exact Nat.lt_of_lt_of_le (h.top g hg) hb.size
  ·exact hg.2
 ·rw [hn];exact hl.aG (fun g hg=>by obtain ⟨_,cur,h2⟩:=hl.type g hg;exact key g cur _ h2 (by decide)) (fun g cur _ h2=>key g cur _ h2 (by decide))
 ·rw [hn];exact DG.aG (fun g hg=>by obtain ⟨_,cur,h2⟩:=DG.type g hg;exact key g cur _ h2 (by decide)) (fun g cur _ h2=>key g cur _ h2 (by decide))
 ·rw [hn,hd];exact (key qb _ _ QU (by decide)).trans QU
theorem eT.pL {w y:World} (h:eT w U r qb vl vc m G) (hb:qw w y):eN 0 y (Own U w y) vl (Dk.cI G m.n)∧∀ g,vl.ownBlock=some g→Own U w y g:=⟨(h.las.av hb).lift (fun _ h=>Or.inl h),fun g hg=>Or.inl (h.own.1 g hg)⟩
theorem eT.tK {w y:World} (h:eT w U r qb vl vc m G) (hb:qw w y):eN 0 y (Own U w y) vc (Dk.cI m.ca m.n)∧∀ g,vc.ownBlock=some g→Own U w y g:=⟨(h.cac.av hb).lift (fun _ h=>Or.inl h),fun g hg=>Or.inl (h.own.2 g hg)⟩
theorem jY {w y:World} {B:Nat} {v:Value} {l:List Dk.S} {U':Nat→Prop} (h:eN B y U' v l) (hB:w.heap.size≤B):∀ g,v.ownBlock=some g→Own U w y g:=fun g hg=>by
 obtain ⟨h1,cur,h2⟩:=h.type g hg;exact Or.inr ⟨Nat.le_trans hB h1,lt_of_block h2⟩
theorem eT.tf {y:World} {ab k:Nat} {x:Int} (h:eT y U r qb vl vc m G) (hc:y.cell? ⟨ab,k,none⟩=some (.int .u8 x)):ab ≠ r:=fun q=>by
 obtain ⟨a,c,rfl,_⟩:=h.las.len;obtain ⟨b,d,rfl,_⟩:=h.cac.len;rw [q,cell_of_row y r k _ _ _ h.row] at hc;rcases k with _ | _ | _ | _ | _ | _ | _ | k<;>simp at hc
theorem eT.bs {y z:World} {p:Option Addr} {c:Nat} {L:List Int} (h:eT y U r qb vl vc m G) (hb:Bs y p c L) (hm:Mv [r] y z):Bs z p c L :=
 ⟨⟨hb.bat.1,fun h0=>by
  obtain ⟨ab,ao,h1,h2⟩:=hb.bat.2 h0;refine ⟨ab,ao,h1,fun j hj=>?_⟩;rw [World.cell?_of_block (hm.block ab (World.block_lt_of_cell? _ _ (h2 j hj)) (by simpa using h.tf (h2 j hj)))];exact h2 j hj⟩,hb.cap,hb.nil⟩
theorem Dk.agP {m:Dk.M} (h:Dk.Ok m) {j:Nat} {L:List Int} (hj:j<m.n) (hL:L.length≤1024) (k:Nat):Dk.Ok { m with ca:=aZ m.ca j (some L),wr:=k }:=by
 obtain ⟨o1,o2,o3,o4,o5,o6⟩:=h;refine ⟨o1,o2,fun i hi=>?_,o4,o5,fun i X hX=>?_⟩
 ·show aZ m.ca j (some L) i=none;have L3:m.n≤i:=hi;rw [aq _ _ (by omega)];exact o3 i L3
 ·have Cx:aZ m.ca j (some L) i=some X:=hX;by_cases e:i=j
  ·subst e;rw [az] at Cx;cases Cx;exact hL
  ·rw [aq _ _ e] at Cx;exact o6 i X Cx
theorem Dk.lr {m:Dk.M} (h:Dk.Ok m) {j:Nat} {L:List Int} (hL:L.length≤1024):Dk.Ok { m with ls:=aZ m.ls j L,ca:=aZ m.ca j none }:=by
 obtain ⟨o1,o2,o3,o4,o5,o6⟩:=h;refine ⟨o1,o2,fun i hi=>?_,o4,fun i=>?_,fun i X hX=>?_⟩
 ·show aZ m.ca j none i=none;by_cases e:i=j
  ·subst e;exact az _ _ _
  ·rw [aq _ _ e];exact o3 i hi
 ·show (aZ m.ls j L i).length≤1024;by_cases e:i=j
  ·subst e;rw [az];exact hL
  ·rw [aq _ _ e];exact o5 i
 ·have Cx:aZ m.ca j none i=some X:=hX;by_cases e:i=j
  ·subst e;rw [az] at Cx;cases Cx
  ·rw [aq _ _ e] at Cx;exact o6 i X Cx
theorem Own.sub {U:Nat→Prop} {w x y:World} (h:w.heap.size≤x.heap.size):∀ g,Own U x y g→Own U w y g:=fun g hg=>by
 rcases hg with hg | hg
 ·exact Or.inl hg
 ·exact Or.inr ⟨Nat.le_trans h hg.1,hg.2⟩
theorem Own.more {U:Nat→Prop} {w x y:World} (h:x.heap.size≤y.heap.size):∀ g,Own U w x g→Own U w y g:=fun g hg=>by
 rcases hg with hg | hg
 ·exact Or.inl hg
 ·exact Or.inr ⟨hg.1,Nat.lt_of_lt_of_le hg.2 h⟩
theorem tV (i:Int) (L:List Int) (p:Option Addr) (n c:Nat) (hn:L.length=n) (Iu:n≤1000000) (CG:m.wr≤1000000000) (w:World) (hd:eT w U r qb vl vc m G) (hb:Bs w p c L) :
  qc 81 #[qp r,.int .i64 i,.slice p n c] w (kq U r qb (.int .i64 (Dk.kE m i L)) (Dk.gY m i L) w):=by
 obtain ⟨_,_,c2,c3,_,c5,_⟩:=hd.cells;subst hn;have HD:=qh hd;have HB:=qh hb;clear hd hb;cases BX:m.down with
 | true =>
  have e1:Dk.kE m i L=12:=by unfold Dk.kE;rw [BX];rfl
  have e2:Dk.gY m i L=m:=by unfold Dk.gY;rw [BX];rfl
  rw [BX] at c3;go_enter func81,ntmps81;go_wp2;go_ret;exact ⟨by first | rfl | (rw [e1];rfl),by rw [e2];exact qh (bA.own ⟨vl,vc,G,HD.out⟩ _),qh (Mv.refl _ _)⟩
 | false =>
  rw [BX] at c3;by_cases hf:Dk.fault m i L=0
  ·cases hg:Dk.gone m with
   | true =>
    have e1:Dk.kE m i L=12:=by rw [Dk.uq hf];unfold Dk.aM;rw [if_pos hg]
    have e2:Dk.gY m i L=Dk.aK m:=by unfold Dk.gY;rw [BX,if_neg (by decide),if_neg (by rw [hf];decide),hg,if_pos rfl]
    have e3:Dk.aM m=12:=by unfold Dk.aM;rw [if_pos hg]
    go_enter func81,ntmps81;go_wp2_with (first
     | (go_at_call 82;refine (dI i L p _ c rfl _ HD.out).mono ?_;rw [hf];rintro e w1 ⟨rfl,rfl⟩)
     | (go_at_call 85;refine (gI _ HD.out).mono ?_;rw [e3];rintro e w2 ⟨rfl,Cv,AP⟩))
    go_ret;refine ⟨by first | rfl | (rw [e1];rfl),?_,qh (AP.out.more (fun k hk=>by simp at hk ⊢;exact Or.inl hk))⟩;rw [e2];exact qh (bA.own ⟨vl,vc,G,Cv.out⟩ _)
   | false =>
    obtain ⟨j,rfl,hj⟩:=Dk.gE (Dk.fX hf).1;have hL:=(Dk.fX hf).2;have e1:Dk.kE m j L=0:=by rw [Dk.uq hf];unfold Dk.aM;rw [hg];rfl
    have e3:Dk.aM m=0:=by unfold Dk.aM;rw [hg];rfl
    have e2:Dk.gY m j L = { Dk.aK m with ca:=aZ (Dk.aK m).ca j (some L),wr:=(Dk.aK m).wr+1 }:=by unfold Dk.gY;rw [BX,if_neg (by decide),if_neg (by rw [hf];decide),hg,Dk.nf,Dk.fS];rfl
    obtain ⟨m2,hm2e⟩:∃ m2,Hid (Dk.aK m=m2):=⟨_,rfl⟩;have Nl:j<m2.n:=by rw [← hm2e.out,Dk.jA];exact hj
    have PD:m2.wr≤1000000000:=by rw [← hm2e.out,Dk.fS];exact CG
    have C0:=HD.out.ok.n2;go_enter func81,ntmps81;go_upto_region 8 with (first
     | (go_at_call 82;refine (dI j L p _ c rfl _ HD.out).mono ?_;rw [hf];rintro e w1 ⟨rfl,rfl⟩)
     | (go_at_call 85;refine (gI _ HD.out).mono ?_;rw [e3];rintro e w2 ⟨rfl,Cv,AP⟩;rw [hm2e.out] at Cv;have AX:=qh AP.out;have AL:=qh Cv.out;clear AP Cv))
    have Bl:Hid (Bs w2.drew p c L):=(HD.out.bs HB.out AX.out).drew;have k1:=AL.out.cells.2.2.2.2.2.1;go_region_law (first
     | (go_simp;go_at_call 25;refine (fK L p _ c rfl (by omega) _ Bl.out.bat).mono ?_;rintro e w4 ⟨v4,rfl,BM,AJ⟩;have B4:Hid (qw w2 w4):=((Below.refl _ w2).drew).trans AJ;obtain ⟨p4,c4,rfl,_,_⟩:=bH BM HB.out.bat.1;have O4:=qh BM;have kb:Hid (w4.cell? ⟨r,5,none⟩=some vc):=(B4.out.cell (World.block_lt_of_cell? _ _ k1)).trans k1;have k4:w4.cell? ⟨r,5,none⟩=some vc:=kb.out;clear BM AJ)
     | (go_simp;go_at_call 83;refine (gJ (Dk.cI m2.ca m2.n) (j,L) (Own U w2 w4) vc p4 c4 w4 (AL.out.tK B4.out).1 (aaA O4.out HB.out.bat.1 (fun g h1 h2=>Or.inr ⟨h1,h2⟩)) (by have:=Dk.eB m2.ca m2.n;have:=AL.out.ok.n2;omega)).mono ?_;rintro e w5 ⟨v5,rfl,Dg,BC⟩;obtain ⟨a5,q5,rfl,_⟩:=Dg.out.len;obtain ⟨l5,hl5e⟩:∃ l5,Hid ((Dk.ins (Dk.cI m2.ca m2.n) (j,L)).length=l5):=⟨_,rfl⟩;rw [hl5e.out] at Dg ⊢;have Ei:=qh Dg.out;have B5:=qh BC.out;have R5:=qh ((B5.out.block r (Nat.lt_of_lt_of_le (AL.out.top r AL.out.lt.1) B4.out.size)).trans ((B4.out.block r (AL.out.top r AL.out.lt.1)).trans AL.out.row));have kc:Hid (w5.cell? ⟨r,5,none⟩=some vc):=(by show _=_;rw [cell_of_row w5 r 5 _ _ _ R5.out];try rfl);have k5:=kc.out;have f5:=frozen_of_row w5 r 5 _ _ R5.out;clear Dg BC))
    all_goals
     obtain ⟨w6,JN⟩:∃ y:World,Hid (w5.setCell ⟨r,5,none⟩ (.slice a5 l5 q5)=y):=⟨_,rfl⟩;have R6:=qh (heap_setCell_same w5 r 5 _ _ (.slice a5 l5 q5) R5.out);rw [JN.out] at R6 ⊢;have C6:Hid (bJ r w5 w6):=by show bJ _ _ _;rw [← JN.out];exact bJ.setCell w5 ⟨r,5,none⟩ _
     have c2:w6.cell? ⟨r,2,none⟩=some (.int .i64 (m2.wr:Int)):=by rw [cell_of_row w6 r 2 _ _ _ R6.out];rfl
     have f2:=frozen_of_row w6 r 2 _ _ R6.out;have Aq:IntKind.i64.wrap ((m2.wr:Int)+1)=(m2.wr:Int)+1:=IntWalk.i64_in _ ⟨by omega,by omega⟩;go_wp2;go_ret;have Bn:=heap_setCell_same w6 r 2 _ _ (.int .i64 ((m2.wr:Int)+1)) R6.out;have C7:bJ r w5 (w6.setCell ⟨r,2,none⟩ (.int .i64 ((m2.wr:Int)+1))):=C6.out.trans (bJ.setCell w6 ⟨r,2,none⟩ _);have Gy:qw w2 w5:=B4.out.trans (B5.out.mono B4.out.size);have Ce:eN w4.heap.size w5 (Own U w2 w5) (.slice a5 l5 q5) (Dk.cI (aZ m2.ca j (some L)) m2.n):=by
      have h:=Ei.out;rw [Dk.lJ _ _ _ _ Nl] at h;exact h.lift (Own.more B5.out.size)
     have Bi:=AL.out.lay (m':={ m2 with ca:=aZ m2.ca j (some L),wr:=m2.wr+1 }) (vl':=vl) (vc':=.slice a5 l5 q5) (G':=G) Gy C7 (by rw [Bn];simp [Dk.rl]) (AL.out.pL Gy).1 Ce.low ⟨(AL.out.pL Gy).2,jY Ce B4.out.size⟩ rfl rfl AL.out.ls (Dk.agP AL.out.ok Nl hL _);refine ⟨by first | rfl | (rw [e1];rfl),?_,qh ?_⟩
     ·first | rw [e2,hm2e.out] | rw [hm2e.out]
      refine qh (bA.lift ⟨_,_,_,Bi⟩ (Own.sub AX.out.size) (fun g hg=>?_));rcases hg with hg | hg
      ·exact Bi.top g (Or.inl hg)
      ·exact hg.2
     ·have M7:Mv [r,qb] w5 (w6.setCell ⟨r,2,none⟩ (.int .i64 ((m2.wr:Int)+1))):=Mv.only C7.only (by simp);exact (AX.out.more (fun k hk=>by simp at hk ⊢;exact Or.inl hk)).trans ((Mv.aB Gy).trans M7)
  ·have OP:(Dk.fault m i L==0)=false:=by simpa using hf
   have e1:Dk.kE m i L=Dk.fault m i L:=by unfold Dk.kE;rw [BX,if_neg (by decide),if_pos (by simpa using hf)]
   have e2:Dk.gY m i L=m:=by unfold Dk.gY;rw [BX,if_neg (by decide),if_pos (by simpa using hf)]
   go_enter func81,ntmps81;go_wp2_with (go_at_call 82;refine (dI i L p _ c rfl _ HD.out).mono ?_;rintro e w1 ⟨rfl,rfl⟩)
   go_ret;exact ⟨by first | rfl | (rw [e1];rfl),by rw [e2];exact qh (bA.own ⟨vl,vc,G,HD.out⟩ _),qh (Mv.refl _ _)⟩
theorem rA (i:Int) (L:List Int) (p:Option Addr) (n c:Nat) (hn:L.length=n) (Iu:n≤1000000) (w:World) (hd:eT w U r qb vl vc m G) (hb:Bs w p c L) :
  qc 40 #[qp r,.int .i64 i,.slice p n c] w (kq U r qb (.int .i64 (Dk.fault m i L)) (Dk.iX m i L) w):=by
 subst hn;have HD:=qh hd;have HB:=qh hb;clear hd hb;by_cases hf:Dk.fault m i L=0
 ·obtain ⟨j,rfl,hj⟩:=Dk.gE (Dk.fX hf).1;have hL:=(Dk.fX hf).2;have E2:Hid (Dk.iX m j L = { m with ls:=aZ m.ls j L,ca:=aZ m.ca j none }):=by show _=_;unfold Dk.iX;rw [if_pos hf];rfl
  have HN:=qh HD.out.ok.n2;have k1:=HD.out.cells.2.2.2.2.1;go_enter func40,ntmps40;go_upto_region 4 with (go_at_call 82;refine (dI j L p _ c rfl _ HD.out).mono ?_;rw [hf];rintro e w2 ⟨rfl,rfl⟩)
  obtain ⟨l0,Tg⟩:∃ x:Nat,Hid (x=0):=⟨_,rfl⟩;go_region_law (first
   | (go_simp;go_at_call 25;refine (fK L p _ c rfl (by omega) _ HB.out.drew.bat).mono ?_;rintro e w4 ⟨v4,rfl,BM,AJ⟩;have B4:Hid (qw w2 w4):=((Below.refl _ w2).drew).trans AJ;obtain ⟨p4,c4,rfl,_,_⟩:=bH BM HB.out.bat.1;have O4:=qh BM;have kb:Hid (w4.cell? ⟨r,4,none⟩=some vl):=(B4.out.cell (World.block_lt_of_cell? _ _ k1)).trans k1;have k4:w4.cell? ⟨r,4,none⟩=some vl:=kb.out;clear BM AJ)
   | (go_simp;go_at_call 83;refine (gJ (Dk.cI G m.n) (j,L) (Own U w2 w4) vl p4 c4 w4 (HD.out.pL B4.out).1 (aaA O4.out HB.out.bat.1 (fun g h1 h2=>Or.inr ⟨h1,h2⟩)) (by have:=Dk.eB G m.n;have:=HN.out;omega)).mono ?_;rintro e w5 ⟨v5,rfl,Dg,BC⟩;obtain ⟨a5,q5,rfl,_⟩:=Dg.out.len;obtain ⟨l5,hl5e⟩:∃ l5,Hid ((Dk.ins (Dk.cI G m.n) (j,L)).length=l5):=⟨_,rfl⟩;rw [hl5e.out] at Dg ⊢;have Ei:=qh Dg.out;have B5:=qh BC.out;have R5:=qh ((B5.out.block r (Nat.lt_of_lt_of_le (HD.out.top r HD.out.lt.1) B4.out.size)).trans ((B4.out.block r (HD.out.top r HD.out.lt.1)).trans HD.out.row));have kc:Hid (w5.cell? ⟨r,4,none⟩=some vl):=(by show _=_;rw [cell_of_row w5 r 4 _ _ _ R5.out];try rfl);have k5:=kc.out;have f5:=frozen_of_row w5 r 4 _ _ R5.out;clear Dg BC))
  all_goals
   have Gy:Hid (qw w2 w5):=B4.out.trans (B5.out.mono B4.out.size);obtain ⟨w6,JN⟩:∃ y:World,Hid (w5.setCell ⟨r,4,none⟩ (.slice a5 l5 q5)=y):=⟨_,rfl⟩;have R6:=qh (heap_setCell_same w5 r 4 _ _ (.slice a5 l5 q5) R5.out);rw [JN.out] at R6 ⊢;have C6:Hid (bJ r w5 w6):=by show bJ _ _ _;rw [← JN.out];exact bJ.setCell w5 ⟨r,4,none⟩ _
   have Ce:eN w4.heap.size w5 (Own U w2 w5) (.slice a5 l5 q5) (Dk.cI (aZ G j (some L)) m.n):=by
    have h:=Ei.out;rw [Dk.lJ _ _ _ _ hj] at h;exact h.lift (Own.more B5.out.size)
   have Bi:=HD.out.lay (m':={ m with ls:=aZ m.ls j L }) (vl':=.slice a5 l5 q5) (vc':=vc) (G':=aZ G j (some L)) Gy.out C6.out (by rw [R6.out];simp [Dk.rl]) Ce.low (HD.out.tK Gy.out).1 ⟨jY Ce B4.out.size,(HD.out.tK Gy.out).2⟩ rfl rfl (fun x=>by
    show aZ m.ls j L x=_;by_cases e:x=j
    ·subst e;rw [az,az];rfl
    ·rw [aq _ _ e,aq _ _ e];exact HD.out.ls x) ⟨HD.out.ok.n1,HD.out.ok.n2,HD.out.ok.out,HD.out.ok.left,(Dk.lr (j:=j) HD.out.ok hL).lsb,HD.out.ok.cab⟩
   have Hu:=qh Bi;have c5:=Hu.out.cells.2.2.2.2.2.1;clear Ce Bi;go_wp2_with (go_at_call 84;refine (kO (Dk.cI m.ca m.n) j (Own U w2 w6) vc _ Hu.out.cac (by have:=Dk.eB m.ca m.n;have:=HN.out;omega)).mono ?_;rintro e w7 ⟨v7,rfl,GQ,Bh⟩;obtain ⟨a7,q7,rfl,_⟩:=GQ.out.len;obtain ⟨l7,hl7e⟩:∃ l7,Hid ((Dk.del (Dk.cI m.ca m.n) j).length=l7):=⟨_,rfl⟩;rw [hl7e.out] at GQ ⊢;have DD:=qh GQ.out;have B7:Hid (qw w6 w7):=Bh;have R7:=qh ((B7.out.block r (Hu.out.top r Hu.out.lt.1)).trans Hu.out.row);have k7:w7.cell? ⟨r,5,none⟩=some vc:=(by rw [cell_of_row w7 r 5 _ _ _ R7.out];try rfl);have f7:=frozen_of_row w7 r 5 _ _ R7.out;clear GQ Bh)
   ·go_ret;have Bn:=heap_setCell_same w7 r 5 _ _ (.slice a7 l7 q7) R7.out;have C8:bJ r w7 (w7.setCell ⟨r,5,none⟩ (.slice a7 l7 q7)):=bJ.setCell w7 ⟨r,5,none⟩ _;have Ce:eN w6.heap.size w7 (Own (Own U w2 w6) w6 w7) (.slice a7 l7 q7) (Dk.cI (aZ m.ca j none) m.n):=by
     have h:=DD.out;rw [Dk.pj] at h;exact h.lift (fun g hg=>Or.inl hg)
    have Bi:=Hu.out.lay (m':={ m with ls:=aZ m.ls j L,ca:=aZ m.ca j none }) B7.out C8 (by rw [Bn];simp [Dk.rl]) (Hu.out.pL B7.out).1 Ce.low ⟨(Hu.out.pL B7.out).2,jY Ce qn⟩ rfl rfl Hu.out.ls (Dk.lr HD.out.ok hL);have S6:=C6.out.size;refine ⟨by first | rfl | (rw [hf];rfl),?_,qh ?_⟩
    ·rw [E2.out];refine qh (bA.lift ⟨_,_,_,Bi⟩ (fun g hg=>?_) (fun g hg=>?_))
     ·rcases hg with (hg | hg) | hg
      ·exact Or.inl hg
      ·exact Or.inr ⟨hg.1,by have:=hg.2;have:=C8.size;have:=B7.out.size;omega⟩
      ·exact Or.inr ⟨by have:=hg.1;have:=Gy.out.size;omega,hg.2⟩
     ·rcases hg with hg | hg
      ·exact Bi.top g (Or.inl (Or.inl hg))
      ·exact hg.2
    ·exact ((Mv.aB Gy.out).trans (Mv.only C6.out.only (by simp))).trans ((Mv.aB B7.out).trans (Mv.only C8.only (by simp)))
 ·have OP:(Dk.fault m i L==0)=false:=by simpa using hf
  have E2:Hid (Dk.iX m i L=m):=by show _=_;unfold Dk.iX;rw [if_neg hf]
  go_enter func40,ntmps40;go_wp2_with (go_at_call 82;refine (dI i L p _ c rfl _ HD.out).mono ?_;rintro e w1 ⟨rfl,rfl⟩)
  go_ret;exact ⟨rfl,by rw [E2.out];exact qh (bA.own ⟨vl,vc,G,HD.out⟩ _),qh (Mv.refl _ _)⟩
end
end
end Go.Proofs.YthgjfjmampmiiaaGreatDoor

/-
  ScP0, ScV, ScW0, ScW1 (merged)
-/
import Derived.Test.YthgjfjmampmiiaaGreatDoorSc3
import Derived.Lib.MinMax
import Derived.Test.YthgjfjmampmiiaaGreatDoorPa2
namespace Go.Proofs.YthgjfjmampmiiaaGreatDoor
open Go.Proofs.Tryz
set_option maxHeartbeats 4000000
set_option maxRecDepth 100000
section
open Go.RowKit
theorem yO {k a:Int} {b:List Int} (h:b.length<17):Sc.fJ k a b=2:=by unfold Sc.fJ;rw [if_pos h]
theorem aaH {k a:Int} {b:List Int} (h:1024<b.length):Sc.fJ k a b=3:=by unfold Sc.fJ;rw [if_neg (by omega),if_pos h]
theorem sC {k a:Int} {b:List Int} (h:¬ b.length<17) (h1:¬ 1024<b.length) (h2:¬ (Sc.fv k=true∧Sc.kd b=k)):Sc.fJ k a b=5:=by unfold Sc.fJ;rw [if_neg h,if_neg h1,if_neg h2]
theorem yL {k a:Int} {b:List Int} (h:¬ b.length<17) (h1:¬ 1024<b.length) (h2:Sc.fv k=true∧Sc.kd b=k) (h3:Sc.gh (Sc.ep (b.take 17)) (Sc.nu (b.take 17)) a=false):Sc.fJ k a b=7:=by unfold Sc.fJ;rw [if_neg h,if_neg h1,if_pos h2,if_neg (by simp [h3])]
end
section
open Go.RowKit
theorem kI (k:Int) (w:World):qc 87 #[.int .i64 k] w fun e w'=>e = .returned (.bool (Sc.fv k))∧w=w':=by
 by_cases h0:k≥1
 ·by_cases h1:k≤5
  ·rw [Sc.cW.2 ⟨h0,h1⟩];go_enter func87,ntmps87;go_wp2;go_ret;exact ⟨rfl,rfl⟩
  ·rw [show Sc.fv k=false by rw [← Bool.not_eq_true,Sc.cW];omega];go_enter func87,ntmps87;go_wp2;go_ret;exact ⟨rfl,rfl⟩
 ·rw [show Sc.fv k=false by rw [← Bool.not_eq_true,Sc.cW];omega];go_enter func87,ntmps87;go_wp2;go_ret;exact ⟨rfl,rfl⟩
theorem hI (n:Int) (w:World):qc 90 #[.int .i64 n] w fun e w'=>e = .returned (.bool (bj n))∧w=w':=by
 by_cases h0:n≥0
 ·by_cases h1:n≤1099511627776
  ·rw [show bj n=true by unfold bj;simp [h1];omega];go_enter func90,ntmps90;go_wp2;go_ret;exact ⟨rfl,rfl⟩
  ·rw [show bj n=false by unfold bj;simp [h1]];go_enter func90,ntmps90;go_wp2;go_ret;exact ⟨rfl,rfl⟩
 ·rw [show bj n=false by unfold bj;simp;omega];go_enter func90,ntmps90;go_wp2;go_ret;exact ⟨rfl,rfl⟩
theorem jq (n:Int) (w:World):qc 91 #[.int .i64 n] w fun e w'=>e = .returned (.bool (Sc.rj n))∧w=w':=by
 by_cases h0:n≥0
 ·by_cases h1:n<4096
  ·rw [Sc.lD.2 ⟨h0,h1⟩];go_enter func91,ntmps91;go_wp2;go_ret;exact ⟨rfl,rfl⟩
  ·rw [show Sc.rj n=false by rw [← Bool.not_eq_true,Sc.lD];omega];have h2:decide (n<4096)=false:=decide_eq_false h1;go_enter func91,ntmps91;go_wp2;go_ret;refine ⟨?_,rfl⟩;first | rfl | (show Ending.returned (Value.bool (decide (n<4096)))=_;rw [decide_eq_false (by omega)])
 ·rw [show Sc.rj n=false by rw [← Bool.not_eq_true,Sc.lD];omega];go_enter func91,ntmps91;go_wp2;go_ret;exact ⟨rfl,rfl⟩
theorem nO (k n:Int) (hk:0≤k∧k≤255) (w:World):qc 93 #[.int .i64 k,.int .i64 n] w (aX (Sc.mk k n) 9 w):=by
 have hw:IntKind.u8.wrap k=k:=by simp [IntKind.wrap_u8];omega
 have B0:Hid (qw w (w.alloc (.cells #[.int .u8 k] 5))):=qb w _;have H0:Hid (Bs (w.alloc (.cells #[.int .u8 k] 5)) (some ⟨w.heap.size,0,none⟩) 1 [k]):=oI w [k] 1 (0,0) rfl (by omega) (fun x hx=>by simp at hx;omega);have HC:Hid (qc 98 #[.slice (some ⟨w.heap.size,0,none⟩) 1 1,.int .i64 n] (w.alloc (.cells #[.int .u8 k] 5)) (aX (Sc.mk k n) 9 (w.alloc (.cells #[.int .u8 k] 5)))):=by
  have h:=b9 [k] n (some ⟨w.heap.size,0,none⟩) 1 1 9 rfl rfl (by omega) _ H0.out;unfold Sc.mk;exact h
 go_enter func93,ntmps93;go_wp2_with (go_at_call 98;refine HC.out.mono ?_;rintro e1 w1 ⟨p1,c1,rfl,HO,HB,HL⟩)
 go_ret;exact ⟨p1,c1,rfl,bQ HO.out (by simp),HB,B0.out.trans (HL.out.mono (by simp))⟩
def gQ (B:Nat) (w:World) (g:Nat) (K:List Int):Prop:=∃ gb,B≤g∧w.heap[g]?=qo #[qp gb,.pointer none] 88∧jr B w gb K
theorem gQ.av {B:Nat} {w x:World} {g:Nat} {K:List Int} (h:gQ B w g K) (hb:qw w x):gQ B x g K:=by
 obtain ⟨gb,h0,h1,h2⟩:=h;exact ⟨gb,h0,(hb.block _ (lt_of_block h1)).trans h1,h2.aG hb⟩
def aiQ (K:List Int) (w:World) (e:Ending) (w':World):Prop:=∃ g,e = .returned (qp g)∧Hid (gQ w.heap.size w' g K)∧qw w w'
theorem x7 (K:List Int) (p:Option Addr) (n c:Nat) (hn:K.length=n) (Cr:n≤100000) (w:World) (hp:Bs w p c K) (ht:cT w 1) :
  qc 10 #[.slice p n c] w (aiQ K w):=by
 have HR:Hid (qc 34 #[.slice p n c] w (xy K w)):=ub K p n c hn Cr w hp ht;go_enter func10,ntmps10;go_wp2_with (go_at_call 34;refine HR.out.mono ?_;rintro e1 w1 ⟨gb,rfl,G1,b1⟩)
 go_ret;have B2:qw w1 (w1.alloc (.cells #[qp gb,.pointer none] 88)):=qb w1 _;exact ⟨w1.heap.size,rfl,⟨gb,b1.size,heap_alloc_new w1 _,G1.out.aG B2⟩,b1.trans (B2.mono b1.size)⟩
theorem uT (K h L:List Int) (B g:Nat) (e n:Int) (ph pl:Option Addr) (nh nl ch cl:Nat) (BL:h.length=nh) (Cr:L.length=nl)
  (w:World) (hg:gQ B w g K) (hh:Bs w ph ch h) (hl:Bs w pl cl L) (hs:nh≤4096∧nl≤4096) (ht:cT w 1) :
  qc 125 #[qp g,.int .i64 e,.int .i64 n,.slice ph nh ch,.slice pl nl cl] w (ix (an.sl K e n h L) w):=by
 obtain ⟨gb,h0,h1,h2⟩:=hg;have c0:w.cell? ⟨g,0,none⟩=some (qp gb):=by rw [cell_of_row w g 0 _ _ _ h1];rfl
 have HR:Hid (qc 154 #[qp gb,.int .i64 e,.int .i64 n,.slice ph nh ch,.slice pl nl cl] w (ix (an.sl K e n h L) w)):=ra K h L B gb e n ph pl nh nl ch cl BL Cr w h2 hh hl hs ht;clear h1 h2 hh hl;go_enter func125,ntmps125;go_wp2_with (go_at_call 154;refine HR.out.mono ?_;rintro e1 w1 ⟨p1,c1,m1,rfl,l1,o1,b1,bb1⟩)
 go_ret;exact ⟨p1,c1,m1,rfl,l1,o1,b1,bb1⟩
theorem uX (K h L:List Int) (B g:Nat) (e n:Int) (ph pl:Option Addr) (nh nl ch cl:Nat) (BL:h.length=nh) (Cr:L.length=nl)
  (w:World) (hg:gQ B w g K) (hh:Bs w ph ch h) (hl:Bs w pl cl L) (hs:nh≤4096∧nl≤4096) (ht:cT w 1) :
  qc 92 #[qp g,.int .i64 e,.int .i64 n,.slice ph nh ch,.slice pl nl cl] w (bC (an.op K e n h L) w):=by
 obtain ⟨gb,h0,h1,h2⟩:=hg;have c0:w.cell? ⟨g,0,none⟩=some (qp gb):=by rw [cell_of_row w g 0 _ _ _ h1];rfl
 have HR:Hid (qc 129 #[qp gb,.int .i64 e,.int .i64 n,.slice ph nh ch,.slice pl nl cl] w (bC (an.op K e n h L) w)):=sF K h L B gb e n ph pl nh nl ch cl BL Cr w h2 hh hl hs ht;clear h1 h2 hh hl;go_enter func92,ntmps92;go_wp2_with (go_at_call 129;refine HR.out.mono ?_;rintro e1 w1 ⟨p1,c1,m1,rfl,l1,o1,b1,bb1⟩)
 go_ret2;exact ⟨p1,c1,m1,rfl,l1,o1,b1,bb1⟩
end
section
open Go.RowKit
theorem iT {e n a:Int} (h:bj e=false∨bj n=false∨Sc.rj a=false):Sc.gh e n a=false:=by
 unfold Sc.gh;rcases h with h | h | h<;>simp [h]
theorem nc {e n a:Int} (h1:bj e=true) (h2:bj n=true) (h3:Sc.rj a=true):Sc.gh e n a=true:=by unfold Sc.gh;simp [h1,h2,h3]
theorem acZ {k e n a:Int} {m:Nat} (h:Sc.fv k=false):Sc.er k e n a m=5:=by unfold Sc.er;rw [if_neg (by simp [h])]
theorem mJ {k e n a:Int} {m:Nat} (h:Sc.fv k=true) (h2:Sc.gh e n a=false):Sc.er k e n a m=7:=by unfold Sc.er;rw [if_pos h,if_neg (by simp [h2])]
theorem aeD {k e n a:Int} {m:Nat} (h:Sc.fv k=true) (h2:Sc.gh e n a=true) (h3:975<m):Sc.er k e n a m=3:=by unfold Sc.er;rw [if_pos h,if_pos h2,if_pos h3]
theorem adY (vg:Value) (k e n a:Int) (p:Option Addr) (m c:Nat) (h:Sc.er k e n a m ≠ 0) (w:World) :
  qc 80 #[vg,SV k e n a p m c] w (aaj (Sc.er k e n a m) w):=by
 have B0:Hid (qw w (w.alloc (SO k e n a p m c))):=qb w _;have HS:Hid (∀ y,Below (w.alloc (SO k e n a p m c)).heap.size (w.alloc (SO k e n a p m c)) y→cA y w.heap.size k e n a p m c):=fun y hy=>(cA.new w k e n a p m c).av hy;have HI:Hid (∀ x,qc 87 #[.int .i64 k] x fun r x'=>r = .returned (.bool (Sc.fv k))∧x=x'):=fun x=>kI k x;have HN:Hid (∀ y x,qc 90 #[.int .i64 y] x fun r x'=>r = .returned (.bool (bj y))∧x=x'):=fun y x=>hI y x;have HA:Hid (∀ x,qc 91 #[.int .i64 a] x fun r x'=>r = .returned (.bool (Sc.rj a))∧x=x'):=fun x=>jq a x;cases hk:Sc.fv k with
 | false =>
  rw [acZ hk];rw [hk] at HI;have Df:bj e=bj e:=rfl;have AF:bj n=bj n:=rfl;go_enter func80,ntmps80;go_upto_region 1 with (fail)
  change Code.wp _ _ _ _ (w.alloc (SO k e n a p m c));obtain ⟨w0,Ah⟩:∃ x,x=w.alloc (SO k e n a p m c):=⟨_,rfl⟩;rw [← Ah] at B0 HS ⊢;clear Ah;obtain ⟨d0,d1,d2,d3,d4⟩:=(HS.out _ (Below.refl _ _)).all;go_wp2_with (first
   | (go_at_call 87;refine (HI.out _).mono ?_;rintro e1 w1 ⟨rfl,rfl⟩)
   | (go_at_call 91;refine (HA.out _).mono ?_;rintro e2 w2 ⟨rfl,rfl⟩)
   | (go_at_call 90;refine (HN.out _ _).mono ?_;rintro e3 w3 ⟨rfl,rfl⟩;first | rw [Df] | rw [AF]))
  go_ret2;exact ⟨rfl,B0.out⟩
 | true =>
  rw [hk] at HI;cases Df:bj e with
  | false =>
   rw [mJ hk (iT (Or.inl Df))];have AF:bj e=false:=Df;go_enter func80,ntmps80;go_upto_region 1 with (fail)
   change Code.wp _ _ _ _ (w.alloc (SO k e n a p m c));obtain ⟨w0,Ah⟩:∃ x,x=w.alloc (SO k e n a p m c):=⟨_,rfl⟩;rw [← Ah] at B0 HS ⊢;clear Ah;obtain ⟨d0,d1,d2,d3,d4⟩:=(HS.out _ (Below.refl _ _)).all;go_wp2_with (first
    | (go_at_call 87;refine (HI.out _).mono ?_;rintro e1 w1 ⟨rfl,rfl⟩)
    | (go_at_call 91;refine (HA.out _).mono ?_;rintro e2 w2 ⟨rfl,rfl⟩)
    | (go_at_call 90;refine (HN.out _ _).mono ?_;rintro e3 w3 ⟨rfl,rfl⟩;first | rw [Df] | rw [AF]))
   go_ret2;exact ⟨rfl,B0.out⟩
  | true =>
   cases AF:bj n with
   | false =>
    rw [mJ hk (iT (Or.inr (Or.inl AF)))];go_enter func80,ntmps80;go_upto_region 1 with (fail)
    change Code.wp _ _ _ _ (w.alloc (SO k e n a p m c));obtain ⟨w0,Ah⟩:∃ x,x=w.alloc (SO k e n a p m c):=⟨_,rfl⟩;rw [← Ah] at B0 HS ⊢;clear Ah;obtain ⟨d0,d1,d2,d3,d4⟩:=(HS.out _ (Below.refl _ _)).all;go_wp2_with (first
     | (go_at_call 87;refine (HI.out _).mono ?_;rintro e1 w1 ⟨rfl,rfl⟩)
     | (go_at_call 91;refine (HA.out _).mono ?_;rintro e2 w2 ⟨rfl,rfl⟩)
     | (go_at_call 90;refine (HN.out _ _).mono ?_;rintro e3 w3 ⟨rfl,rfl⟩;first | rw [Df] | rw [AF]))
    go_ret2;exact ⟨rfl,B0.out⟩
   | true =>
    cases EL:Sc.rj a with
    | false =>
     rw [mJ hk (iT (Or.inr (Or.inr EL)))];rw [EL] at HA;go_enter func80,ntmps80;go_upto_region 1 with (fail)
     change Code.wp _ _ _ _ (w.alloc (SO k e n a p m c));obtain ⟨w0,Ah⟩:∃ x,x=w.alloc (SO k e n a p m c):=⟨_,rfl⟩;rw [← Ah] at B0 HS ⊢;clear Ah;obtain ⟨d0,d1,d2,d3,d4⟩:=(HS.out _ (Below.refl _ _)).all;go_wp2_with (first
      | (go_at_call 87;refine (HI.out _).mono ?_;rintro e1 w1 ⟨rfl,rfl⟩)
      | (go_at_call 91;refine (HA.out _).mono ?_;rintro e2 w2 ⟨rfl,rfl⟩)
      | (go_at_call 90;refine (HN.out _ _).mono ?_;rintro e3 w3 ⟨rfl,rfl⟩;first | rw [Df] | rw [AF]))
     go_ret2;exact ⟨rfl,B0.out⟩
    | true =>
     have hm:975<m:=by
      by_cases q:975<m
      ·exact q
      ·exact absurd (Sc.lu.2 ⟨hk,nc Df AF EL,by omega⟩) h
     rw [aeD hk (nc Df AF EL) hm];rw [EL] at HA;have AP:(m:Int)>975:=by omega
     go_enter func80,ntmps80;go_upto_region 1 with (fail)
     change Code.wp _ _ _ _ (w.alloc (SO k e n a p m c));obtain ⟨w0,Ah⟩:∃ x,x=w.alloc (SO k e n a p m c):=⟨_,rfl⟩;rw [← Ah] at B0 HS ⊢;clear Ah;obtain ⟨d0,d1,d2,d3,d4⟩:=(HS.out _ (Below.refl _ _)).all;go_wp2_with (first
      | (go_at_call 87;refine (HI.out _).mono ?_;rintro e1 w1 ⟨rfl,rfl⟩)
      | (go_at_call 91;refine (HA.out _).mono ?_;rintro e2 w2 ⟨rfl,rfl⟩)
      | (go_at_call 90;refine (HN.out _ _).mono ?_;rintro e3 w3 ⟨rfl,rfl⟩;first | rw [Df] | rw [AF]))
     go_ret2;exact ⟨rfl,B0.out⟩
def abM (k:Int):Obj:=.cells #[.int .u8 k] 5
theorem yI (K L:List Int) (B g:Nat) (k e n a:Int) (p:Option Addr) (m c:Nat) (hm:L.length=m) (h:Sc.er k e n a m=0) (w:World) (hg:gQ B w g K) (hL:Bs w p c L) (ht:cT w 1) :
  qc 80 #[qp g,SV k e n a p m c] w (tF (0,Sc.fr k e n++an.sl K e n (Sc.mk k a) L) w (Below w.heap.size w)):=by
 obtain ⟨hk,hp,Pe⟩:=Sc.lu.1 h;have h4:=Sc.eU.1 hp;have Ed:=Sc.cW.1 hk;have Df:=j8 _ h4.1;have AF:=j8 _ h4.2.1;have EL:=Sc.lD.2 h4.2.2;have B0:Hid (qw w (w.alloc (SO k e n a p m c))):=qb w _;have HS:Hid (∀ y,Below (w.alloc (SO k e n a p m c)).heap.size (w.alloc (SO k e n a p m c)) y→cA y w.heap.size k e n a p m c):=fun y hy=>(cA.new w k e n a p m c).av hy;have HI:Hid (∀ x,qc 87 #[.int .i64 k] x fun r x'=>r = .returned (.bool true)∧x=x'):=fun x=>by have h:=kI k x;rw [hk] at h;exact h
 have HN:Hid (∀ y x,qc 90 #[.int .i64 y] x fun r x'=>r = .returned (.bool (bj y))∧x=x'):=fun y x=>hI y x;have HA:Hid (∀ x,qc 91 #[.int .i64 a] x fun r x'=>r = .returned (.bool true)∧x=x'):=fun x=>by have h:=jq a x;rw [EL] at h;exact h
 have PY:Hid (∀ x:World,qc 98 #[.slice (some ⟨x.heap.size,0,none⟩) 1 1,.int .i64 e] (x.alloc (abM k)) (aX (Sc.mk k e) 9 (x.alloc (abM k)))):=fun x=>by
  have h:=b9 [k] e (some ⟨x.heap.size,0,none⟩) 1 1 9 rfl rfl (by omega) _ (oI x [k] 1 (0,0) rfl (by omega) (fun x hx=>by simp at hx;omega));unfold Sc.mk;exact h
 have PZ:Hid (∀ x q d,Bs x q d (Sc.mk k e)→qc 98 #[.slice q 9 d,.int .i64 n] x (aX (Sc.fr k e n) 17 x)):=fun x q d h=>by
  have h2:=b9 (Sc.mk k e) n q 9 d 17 (Sc.fH k e) rfl (by omega) x h;unfold Sc.fr;exact h2
 have Kl:Hid (∀ x,qc 93 #[.int .i64 k,.int .i64 a] x (aX (Sc.mk k a) 9 x)):=fun x=>nO k a (by omega) x;have GJ:Hid (∀ y q d,qw w y→Bs y q d (Sc.mk k a)→qc 125 #[qp g,.int .i64 e,.int .i64 n,.slice q 9 d,.slice p m c] y (ix (an.sl K e n (Sc.mk k a) L) y)):=fun y q d hy hq =>
  uT K (Sc.mk k a) L B g e n q p 9 m d c (Sc.fH _ _) hm y (hg.av hy) hq (hL.av hy) (by omega) (ht.below hy ht.lt)
 have Km:Hid ((Sc.fr k e n).length=17):=Sc.dB k e n;have GG:Hid (ai.aY (Sc.fr k e n)):=Sc.afG (by omega) e n;have Db:Hid ((an.sl K e n (Sc.mk k a) L).length=m+32):=by show _=_;rw [an.mi Df AF,hm]
 have Il:Hid (ai.aY (an.sl K e n (Sc.mk k a) L)):=an.uM _ _ _ _ _;have AP:¬ ((m:Int)>975):=by omega
 have Uz:IntKind.u8.wrap k=k:=by simp [IntKind.wrap_u8];omega
 have K6:Hid (m≤975):=Pe;clear hk hp h4 Ed EL hg hL ht h hm Pe;generalize Sc.fr k e n=FR at *;generalize Sc.mk k e=M1 at *;generalize Sc.mk k a=M2 at *;generalize an.sl K e n M2 L=SL at *;go_enter func80,ntmps80;go_upto_region 1 with (fail)
 change Code.wp _ _ _ _ (w.alloc (SO k e n a p m c));obtain ⟨w0,Ah⟩:∃ x,x=w.alloc (SO k e n a p m c):=⟨_,rfl⟩;rw [← Ah] at B0 HS ⊢;clear Ah;obtain ⟨d0,d1,d2,d3,d4⟩:=(HS.out _ (Below.refl _ _)).all;go_upto_region 7 with (first
  | (go_at_call 87;refine (HI.out _).mono ?_;rintro e1 w1 ⟨rfl,rfl⟩)
  | (go_at_call 91;refine (HA.out _).mono ?_;rintro e2 w2 ⟨rfl,rfl⟩)
  | (go_at_call 90;refine (HN.out _ _).mono ?_;rintro e3 w3 ⟨rfl,rfl⟩;first | rw [Df] | rw [AF]))
 have HK:Hid (∀ y,qw w0 y→y.cell? ⟨w.heap.size,0,none⟩=some (.int .i64 k)∧y.cell? ⟨w.heap.size,1,none⟩=some (.int .i64 e)∧y.cell? ⟨w.heap.size,2,none⟩=some (.int .i64 n)∧y.cell? ⟨w.heap.size,3,none⟩=some (.int .i64 a)∧y.cell? ⟨w.heap.size,4,none⟩=some (.slice p m c)):=fun y hy=>(HS.out y hy).all;have IF:Hid (∀ y o,qw w0 y→(y.alloc o).cell? ⟨w.heap.size,0,none⟩=some (.int .i64 k)∧(y.alloc o).cell? ⟨w.heap.size,1,none⟩=some (.int .i64 e)∧(y.alloc o).cell? ⟨w.heap.size,2,none⟩=some (.int .i64 n)∧(y.alloc o).cell? ⟨w.heap.size,3,none⟩=some (.int .i64 a)∧(y.alloc o).cell? ⟨w.heap.size,4,none⟩=some (.slice p m c)):=fun y o hy=>HK.out _ (hy.alloc hy.size o);have B0d:Hid (qw w0 w0.drew):=(Below.refl _ w0).drew;have B0a:Hid (qw w0 (w0.alloc (abM k)).drew):=(qb w0 _).drew;have HI1d:Hid (qc 98 #[.slice (some ⟨w0.heap.size,0,none⟩) 1 1,.int .i64 e] (w0.alloc (abM k)).drew (aX M1 9 (w0.alloc (abM k)).drew)):=PY.out w0.drew;have TK:Hid (0=0):=rfl;go_region_held3 (fun y=>y.cell? ⟨w.heap.size,0,none⟩=some (.int .i64 k)∧y.cell? ⟨w.heap.size,1,none⟩=some (.int .i64 e)∧y.cell? ⟨w.heap.size,2,none⟩=some (.int .i64 n)∧y.cell? ⟨w.heap.size,3,none⟩=some (.int .i64 a)∧y.cell? ⟨w.heap.size,4,none⟩=some (.slice p m c))
  (first | exact HK.out _ (Hid.out (by assumption)) | exact IF.out _ _ (Hid.out (by assumption)))
  ((first
   | (go_at_call 98;have TT:=TK.out;clear TK;refine HI1d.out.mono ?_;rintro e3 w3 ⟨p3,c3,rfl,O3,H3,b3⟩;have B3:Hid (qw w0 w3):=B0a.out.trans (b3.out.mono B0a.out.size))
   | (go_at_call 98;refine (PZ.out _ _ _ H3.out).mono ?_;rintro e4 w4 ⟨p4,c4,rfl,O4,H4,b4⟩;have B4:Hid (qw w0 w4):=B3.out.trans (b4.out.mono B3.out.size))))
 all_goals
  go_upto_region 8 with (fail)
  have OF4:Hid (w4.drew.ownsRow w0.heap.size 5 1 (.slice p4 17 c4) 17 (aC FR)):=aN (bQ O4.out B3.out.size) (Below.refl _ w4).drew;have B4d:Hid (qw w0 w4.drew):=B4.out.drew;clear IF B0a HI1d PY PZ b3 b4 B3 O3 H3 O4 H4 HI HN HA;refine wp_region_any (by kernel_rfl) ?_;change wpAny _ _ _ _ _ _ _ (World.drew _);generalize w4.drew=z at *;have TD:=HK.out _ B4d.out;refine wpAny_of_held (S:=fun y=>y.cell? ⟨w.heap.size,0,none⟩=some (.int .i64 k)∧y.cell? ⟨w.heap.size,1,none⟩=some (.int .i64 e)∧y.cell? ⟨w.heap.size,2,none⟩=some (.int .i64 n)∧y.cell? ⟨w.heap.size,3,none⟩=some (.int .i64 a)∧y.cell? ⟨w.heap.size,4,none⟩=some (.slice p m c)) _ _ _ _ ?_;refine aS 0 41 (.slice p4 17 c4) TD rfl (by intro x hx;obtain ⟨y0,y1,y2,y3,y4⟩:=hx;go_simp;try (intro h;omega)) ?_;refine aS 1 42 (qp g) TD rfl (by intro x hx;obtain ⟨y0,y1,y2,y3,y4⟩:=hx;go_simp;try (intro h;omega)) ?_;refine aS 2 43 (.pointer (some ⟨w.heap.size,1,none⟩)) TD rfl (by intro x hx;obtain ⟨y0,y1,y2,y3,y4⟩:=hx;go_simp;try (intro h;omega)) ?_;refine aS 3 44 (.int .i64 e) TD rfl (by intro x hx;obtain ⟨y0,y1,y2,y3,y4⟩:=hx;go_simp;try (intro h;omega)) ?_;refine aS 4 45 (.pointer (some ⟨w.heap.size,2,none⟩)) TD rfl (by intro x hx;obtain ⟨y0,y1,y2,y3,y4⟩:=hx;go_simp;try (intro h;omega)) ?_;refine aS 5 46 (.int .i64 n) TD rfl (by intro x hx;obtain ⟨y0,y1,y2,y3,y4⟩:=hx;go_simp;try (intro h;omega)) ?_;refine aS 6 47 (qp w.heap.size) TD rfl (by intro x hx;obtain ⟨y0,y1,y2,y3,y4⟩:=hx;go_simp;try (intro h;omega)) ?_;refine aS 7 48 (.int .i64 k) TD rfl (by intro x hx;obtain ⟨y0,y1,y2,y3,y4⟩:=hx;go_simp;try (intro h;omega)) ?_;refine aS 8 49 (.pointer (some ⟨w.heap.size,3,none⟩)) TD rfl (by intro x hx;obtain ⟨y0,y1,y2,y3,y4⟩:=hx;go_simp;try (intro h;omega)) ?_;refine aS 9 50 (.int .i64 a) TD rfl (by intro x hx;obtain ⟨y0,y1,y2,y3,y4⟩:=hx;go_simp;try (intro h;omega)) ?_;refine aS 11 52 (.pointer (some ⟨w.heap.size,4,none⟩)) TD rfl (by intro x hx;obtain ⟨y0,y1,y2,y3,y4⟩:=hx;go_simp;try (intro h;omega)) ?_;refine aS 12 53 (.slice p m c) TD rfl (by intro x hx;obtain ⟨y0,y1,y2,y3,y4⟩:=hx;go_simp;try (intro h;omega)) ?_;refine aD 10 (by kernel_rfl) ?_;refine wpOp_step rfl (fun Kc Af=>?_);go_simp;refine (Kl.out _).mono ?_;rintro e5 w5 ⟨p5,c5,rfl,O5,H5,b5⟩;have B5:Hid (qw w0 w5):=B4d.out.trans (b5.out.mono B4d.out.size);dsimp only;refine Af _ _ ⟨HK.out _ B5.out,?_⟩;clear Af Kc TD;try simp only [Act.put,aQ,aR,aO]
  refine aD 13 (by kernel_rfl) ?_;refine wpOp_step rfl (fun Kc Af=>?_);go_simp;refine (GJ.out _ _ _ (B0.out.trans (B5.out.mono B0.out.size)) H5.out).mono ?_;rintro e6 w6 ⟨p6,c6,m6,rfl,l6,o6,H6,b6⟩;obtain rfl:m6=m+32:=l6.symm.trans Db.out;have B6:Hid (qw w0 w6):=B5.out.trans (b6.mono B5.out.size);have OF6:Hid (w6.ownsRow w0.heap.size 5 1 (.slice p4 17 c4) 17 (aC FR)):=aN (aN OF4.out b5.out) b6;dsimp only;refine Af _ _ ⟨HK.out _ B6.out,?_⟩;clear Af Kc;try simp only [Act.put,aQ,aR,aO]
  refine aD 14 (by kernel_rfl) ?_;refine dt 14 (.tmp 41) (.tmp 54) SL w0.heap.size (.slice p4 17 c4) 17 FR p6 (m+32) c6 rfl rfl rfl l6 H6.out OF6.out (by have:=K6.out;omega) B6.out.size ?_;intro v7 w7 EN Co;have B7:Hid (qw w0 w7):=B6.out.grown Co B6.out.size (fun q hq=>(OF6.out.lt q hq).1);refine ⟨HK.out _ B7.out,?_⟩;have TG:=HK.out _ B7.out;try simp only [Act.put,aQ,aR,aO]
  refine aS 15 4 v7 TG rfl (by intro x hx;obtain ⟨y0,y1,y2,y3,y4⟩:=hx;go_simp;try (intro h;omega)) ?_;refine aS 16 5 (.int .i64 0) TG rfl (by intro x hx;obtain ⟨y0,y1,y2,y3,y4⟩:=hx;go_simp;try (intro h;omega)) ?_;refine kJ (by kernel_rfl) ?_ _;clear TG;go_wp2;have Gi:ai.aY (FR++SL):=ai.aP GG.out Il.out;obtain ⟨q7,d7,rfl,Bh,GQ⟩:=bH EN Gi;have Ja:=GQ;rw [GQ] at EN;go_ret2;rw [GQ];refine ⟨q7,_,d7,rfl,Ja,bQ EN B0.out.size,Bh,B0.out.trans (B7.out.mono B0.out.size)⟩
theorem ab7 (K:List Int) (B g:Nat) (s:Sc.S) (p:Option Addr) (m c:Nat) (hm:s.L.length=m) (w:World) (hg:gQ B w g K) (hL:Bs w p c s.L) (ht:cT w 1) :
  qc 80 #[qp g,Sv s p m c] w (tF (Sc.pt (an.sl K) s) w (Below w.heap.size w)):=by
 subst hm;by_cases h:Sc.kX s=0
 ·rw [Sc.re h];exact yI K s.L B g s.k s.e s.n s.a p s.L.length c rfl h w hg hL ht
 ·exact (adY _ s.k s.e s.n s.a p s.L.length c h w).mono fun r w' q=>pT q (Sc.qU h) id
end
section
open Go.RowKit
theorem ajA {b:List Int} (h:17≤b.length):Sc.ep (b.take 17)=Pk.vi ((b.drop 1).take 16):=by
 unfold Sc.ep;rw [Sc.jQ (by rw [List.length_take];omega),List.drop_take]
theorem ajz {b:List Int} (h:17≤b.length):Sc.nu (b.take 17)=Pk.vi (Pk.nx 8 ((b.drop 1).take 16)):=by
 unfold Sc.nu;rw [Sc.jQ (k:=1) (by rw [List.length_take];omega),List.drop_take]
theorem agj {b:List Int} {k:Int} (h:17≤b.length) (hk:Sc.fv k=true):Sc.kd b=k↔b.getD 0 0=k:=by
 rw [lI (by omega)];constructor
 ·intro h2;by_cases q:Sc.fv (b.getD 0 0)=true
  ·rw [if_pos q] at h2;exact h2
  ·rw [if_neg q] at h2;have:=Sc.cW.1 hk;omega
 ·intro h2;rw [h2,if_pos hk]
theorem abF (K:List Int) (B g:Nat) (k a:Int) (b:List Int) (p:Option Addr) (n c:Nat) (hn:b.length=n) (w:World) (hg:gQ B w g K) (hp:Bs w p c b) (ht:cT w 1) :
  qc 46 #[qp g,.int .i64 k,.int .i64 a,.slice p n c] w (nj (Sc.gt (an.op K) k a b) w):=by
 have B0:Hid (qw w (w.alloc (SO 0 0 0 0 none 0 0))):=qb w _;have HS:Hid (∀ y,Below (w.alloc (SO 0 0 0 0 none 0 0)).heap.size (w.alloc (SO 0 0 0 0 none 0 0)) y→cA y w.heap.size 0 0 0 0 none 0 0):=fun y hy=>(cA.new w 0 0 0 0 none 0 0).av hy;have P0:Hid (Bs (w.alloc (SO 0 0 0 0 none 0 0)) p c b):=hp.av B0.out;have HI:Hid (∀ x,qc 87 #[.int .i64 k] x fun r x'=>r = .returned (.bool (Sc.fv k))∧x=x'):=fun x=>kI k x;have HN:Hid (∀ y x,qc 90 #[.int .i64 y] x fun r x'=>r = .returned (.bool (bj y))∧x=x'):=fun y x=>hI y x;have HA:Hid (∀ x,qc 91 #[.int .i64 a] x fun r x'=>r = .returned (.bool (Sc.rj a))∧x=x'):=fun x=>jq a x;have FW:Hid (∀ e v y,Sc.fJ k a b=e→e ≠ 0→GNo e w v y→nj (Sc.gt (an.op K) k a b) w v y):=fun e v y h1 h2 h3=>lB h3 (by rw [Sc.wV (by rw [h1];exact h2),h1]);by_cases h0:n<17
 ·have HE:Hid (Sc.fJ k a b=2):=yO (by omega);have h0':(n:Int)<17:=by omega
  go_enter func46,ntmps46;go_upto_region 1 with (fail)
  change Code.wp _ _ _ _ (w.alloc (SO 0 0 0 0 none 0 0));obtain ⟨w0,Ah⟩:∃ x,x=w.alloc (SO 0 0 0 0 none 0 0):=⟨_,rfl⟩;rw [← Ah] at B0 HS P0 ⊢;clear Ah;obtain ⟨d0,d1,d2,d3,d4⟩:=(HS.out _ (Below.refl _ _)).all;obtain ⟨f0,f1,f2,f3,f4⟩:=(HS.out _ (Below.refl _ _)).j2;go_wp2;have q:=qN B0.out (HS.out _ (Below.refl _ _));exact bodyPost_ret (results_cell_tmp rfl _ _ w.heap.size 98 _ (0,0) _ rfl q.1.row underlying98 rfl (by rw [ssize];rfl)) rfl (FW.out _ _ _ HE.out (by decide) ⟨rfl,q.2⟩)
 by_cases h1:1024<n
 ·have HE:Hid (Sc.fJ k a b=3):=aaH (by omega);have h0':¬ (n:Int)<17:=by omega
  have h1':(n:Int)>1024:=by omega
  go_enter func46,ntmps46;go_upto_region 1 with (fail)
  change Code.wp _ _ _ _ (w.alloc (SO 0 0 0 0 none 0 0));obtain ⟨w0,Ah⟩:∃ x,x=w.alloc (SO 0 0 0 0 none 0 0):=⟨_,rfl⟩;rw [← Ah] at B0 HS P0 ⊢;clear Ah;obtain ⟨d0,d1,d2,d3,d4⟩:=(HS.out _ (Below.refl _ _)).all;obtain ⟨f0,f1,f2,f3,f4⟩:=(HS.out _ (Below.refl _ _)).j2;go_wp2;have q:=qN B0.out (HS.out _ (Below.refl _ _));exact bodyPost_ret (results_cell_tmp rfl _ _ w.heap.size 98 _ (0,0) _ rfl q.1.row underlying98 rfl (by rw [ssize];rfl)) rfl (FW.out _ _ _ HE.out (by decide) ⟨rfl,q.2⟩)
 have h0':¬ (n:Int)<17:=by omega
 have h1':¬ (n:Int)>1024:=by omega
 cases hk:Sc.fv k with
 | false =>
  rw [hk] at HI;have HE:Hid (Sc.fJ k a b=5):=sC (by omega) (by omega) (fun q=>by rw [hk] at q;cases q.1);go_enter func46,ntmps46;go_upto_region 1 with (fail)
  change Code.wp _ _ _ _ (w.alloc (SO 0 0 0 0 none 0 0));obtain ⟨w0,Ah⟩:∃ x,x=w.alloc (SO 0 0 0 0 none 0 0):=⟨_,rfl⟩;rw [← Ah] at B0 HS P0 ⊢;clear Ah;obtain ⟨d0,d1,d2,d3,d4⟩:=(HS.out _ (Below.refl _ _)).all;obtain ⟨f0,f1,f2,f3,f4⟩:=(HS.out _ (Below.refl _ _)).j2;go_wp2_with (go_at_call 87;refine (HI.out _).mono ?_;rintro e1 w1 ⟨rfl,rfl⟩)
  have q:=qN B0.out (HS.out _ (Below.refl _ _));exact bodyPost_ret (results_cell_tmp rfl _ _ w.heap.size 98 _ (0,0) _ rfl q.1.row underlying98 rfl (by rw [ssize];rfl)) rfl (FW.out _ _ _ HE.out (by decide) ⟨rfl,q.2⟩)
 | true =>
  rw [hk] at HI;obtain ⟨ab,ao,J7,EI⟩:=hp.bat.2 (by omega);subst J7;have Dx:=(P0.out.bat.2 (by omega));obtain ⟨ab',ao',SY,Dx⟩:=Dx;cases SY
  have Dx:=Dx 0 (by omega);rw [Nat.add_zero] at Dx;have NQ:Hid (∀ y,y=w.alloc (SO 0 0 0 0 none 0 0)→y.cell? ⟨ab,ao,none⟩=some (.int .u8 (b.getD 0 0))):=fun y hy=>by rw [hy];exact Dx
  clear Dx EI;have CY:=ai.aW hp.bat.1 0;have Jd:(0:Int)<(n:Int):=by omega
  have Az:=hp.cap;rw [hn] at Az;have Nn:=agj (b:=b) (by omega) hk;by_cases hb:b.getD 0 0=k
  case neg =>
   have HE:Hid (Sc.fJ k a b=5):=sC (by omega) (by omega) (fun q=>hb (Nn.1 q.2));have Qw:(b.getD 0 0==k)=false:=by simpa using hb
   generalize b.getD 0 0=x0 at *;have hw:IntKind.i64.wrap x0=x0:=IntWalk.i64_in _ ⟨by omega,by omega⟩;clear hb Nn CY;go_enter func46,ntmps46;go_upto_region 1 with (fail)
   change Code.wp _ _ _ _ (w.alloc (SO 0 0 0 0 none 0 0));obtain ⟨w0,Ah⟩:∃ x,x=w.alloc (SO 0 0 0 0 none 0 0):=⟨_,rfl⟩;rw [← Ah] at B0 HS P0 ⊢;have hw0k:=Ah;clear Ah;obtain ⟨d0,d1,d2,d3,d4⟩:=(HS.out _ (Below.refl _ _)).all;obtain ⟨f0,f1,f2,f3,f4⟩:=(HS.out _ (Below.refl _ _)).j2;have Dx:w0.cell? ⟨ab,ao,none⟩=some (.int .u8 x0):=NQ.out _ hw0k;clear hw0k;go_wp2_with (go_at_call 87;refine (HI.out _).mono ?_;rintro e1 w1 ⟨rfl,rfl⟩)
   have q:=qN B0.out (HS.out _ (Below.refl _ _));exact bodyPost_ret (results_cell_tmp rfl _ _ w.heap.size 98 _ (0,0) _ rfl q.1.row underlying98 rfl (by rw [ssize];rfl)) rfl (FW.out _ _ _ HE.out (by decide) ⟨rfl,q.2⟩)
  case pos =>
   have Tf:=Sc.cW.1 hk;have OR:Sc.fv k=true∧Sc.kd b=k:=⟨hk,Nn.2 hb⟩;have Dl:Hid (∀ x,qw w x→qc 88 #[.slice (some ⟨ab,ao+1,none⟩) 16 (c-1)] x (acd ((b.drop 1).take 16) x)):=fun x hx =>
    kQ _ _ 16 (c-1) (by rw [List.length_take,List.length_drop];omega) (by omega) x (((hp.av hx).oh (k:=1) (by omega)).take 16)
   have Jy:Hid (((b.drop 1).take 16).length=16):=by show _=_;rw [List.length_take,List.length_drop];omega
   have Fo:Hid (Pk.vi ((b.drop 1).take 16)=Sc.ep (b.take 17)):=(ajA (by omega)).symm;have FU:Hid (Pk.vi (Pk.nx 8 ((b.drop 1).take 16))=Sc.nu (b.take 17)):=(ajz (by omega)).symm;have Kl:Hid (∀ x,qc 93 #[.int .i64 k,.int .i64 a] x (aX (Sc.mk k a) 9 x)):=fun x=>nO k a (by omega) x;have Bp:Hid (∀ y q d,qw w y→Bs y q d (Sc.mk k a)→qc 92 #[qp g,.int .i64 (Sc.ep (b.take 17)),.int .i64 (Sc.nu (b.take 17)),.slice q 9 d,.slice (iV ab ao 17 c) (n-17) (c-17)] y (bC (an.op K (Sc.ep (b.take 17)) (Sc.nu (b.take 17)) (Sc.mk k a) (b.drop 17)) y)):=fun y q d hy hq =>
    uX K (Sc.mk k a) (b.drop 17) B g _ _ q _ 9 (n-17) d _ (Sc.fH _ _) (by rw [List.length_drop,hn]) y (hg.av hy) hq (qC (hp.av hy) (by omega)) (by omega) (ht.below hy ht.lt)
   have KV:Hid (Sc.gh (Sc.ep (b.take 17)) (Sc.nu (b.take 17)) a=true→Sc.fJ k a b=0):=fun h=>Sc.iq.2 ⟨by omega,OR,h⟩;have MP:Hid (Sc.gh (Sc.ep (b.take 17)) (Sc.nu (b.take 17)) a=false→Sc.fJ k a b=7):=fun h=>yL (by omega) (by omega) OR h;have MO:Hid (∀ o v y,Sc.fJ k a b=0→an.op K (Sc.ep (b.take 17)) (Sc.nu (b.take 17)) (Sc.mk k a) (b.drop 17)=o→aem k (Sc.ep (b.take 17)) (Sc.nu (b.take 17)) a o w v y→nj (Sc.gt (an.op K) k a b) w v y):=fun o v y h1 h2 h3=>px h1 h2 h3;have Qw:(b.getD 0 0==k)=true:=by simpa using hb
   have hw:IntKind.i64.wrap (b.getD 0 0)=b.getD 0 0:=IntWalk.i64_in _ ⟨by omega,by omega⟩;have EH:¬ c=1:=by omega
   have JV:(17:Int)≤(c:Int):=by omega
   have Me:(17:Int)≤(n:Int):=by omega
   obtain ⟨oo,Pj⟩:∃ o,an.op K (Sc.ep (b.take 17)) (Sc.nu (b.take 17)) (Sc.mk k a) (b.drop 17)=o:=⟨_,rfl⟩;rw [Pj] at Bp;have IJ:=qh Pj;clear Pj;clear hb Nn OR Tf hg ht hp;generalize Sc.ep (b.take 17)=e0 at *;generalize Sc.nu (b.take 17)=n0 at *;generalize Sc.mk k a=M2 at *;generalize (b.drop 1).take 16=Nb at *;generalize b.getD 0 0=x0 at *;have Sg:Hid ((Pk.nx 8 Nb).length≤16):=by show _≤_;have:=Pk.vB 8 Nb;have:=Jy.out;omega
   have TK:Hid (0=0):=rfl;go_enter func46,ntmps46;go_upto_region 1 with (fail)
   change Code.wp _ _ _ _ (w.alloc (SO 0 0 0 0 none 0 0));obtain ⟨w0,Ah⟩:∃ x,x=w.alloc (SO 0 0 0 0 none 0 0):=⟨_,rfl⟩;rw [← Ah] at B0 HS P0 ⊢;have hw0k:=Ah;clear Ah;obtain ⟨d0,d1,d2,d3,d4⟩:=(HS.out _ (Below.refl _ _)).all;obtain ⟨f0,f1,f2,f3,f4⟩:=(HS.out _ (Below.refl _ _)).j2;have Dx:w0.cell? ⟨ab,ao,none⟩=some (.int .u8 x0):=NQ.out _ hw0k;clear hw0k;go_upto_region 10 with (first
    | (go_at_call 87;refine (HI.out _).mono ?_;rintro e1 w1 ⟨rfl,rfl⟩)
    | (go_at_call 88;refine (Dl.out _ B0.out).mono ?_;rintro e1 w1 ⟨g1,D1,rfl,R1,G1,b1⟩)
    | (go_at_call 89;have TT:=TK.out;clear TK;refine (dv Nb false g1 D1 16 Jy.out _ R1.out).mono ?_;rintro e2 w2 ⟨rfl,R2,O2⟩;rw [Fo.out])
    | (go_at_call 89;refine (dv (Pk.nx 8 Nb) _ g1 D1 _ rfl _ R2.out).mono ?_;rintro e3 w3 ⟨rfl,R3,O3⟩;rw [FU.out]))
   have B3:Hid (qw w0 w3):=(O2.out.trans O3.out).below b1.out G1.out.1 b1.out.size;have W3:Hid (qw w w3):=B0.out.trans (B3.out.mono B0.out.size);clear R1 R2 R3 O2 O3 G1 b1 Dl Jy Fo FU Sg d0 d1 d2 d3 d4 f0 f1 f2 f3 f4 Dx;obtain ⟨d0,d1,d2,d3,d4⟩:=(HS.out _ B3.out).all;obtain ⟨f0,f1,f2,f3,f4⟩:=(HS.out _ B3.out).j2;cases Df:bj e0 with
   | false =>
    have AF:bj e0=false:=Df;have HE:Hid (Sc.fJ k a b=7):=MP.out (iT (Or.inl Df));go_wp2_with (first
     | (go_at_call 91;refine (HA.out _).mono ?_;rintro e2 w2 ⟨rfl,rfl⟩)
     | (go_at_call 90;refine (HN.out _ _).mono ?_;rintro e4 w4 ⟨rfl,rfl⟩;first | rw [Df] | rw [AF]))
    have q:=qN W3.out (HS.out _ B3.out);exact bodyPost_ret (results_cell_tmp rfl _ _ w.heap.size 98 _ (0,0) _ rfl q.1.row underlying98 rfl (by rw [ssize];rfl)) rfl (FW.out _ _ _ HE.out (by decide) ⟨rfl,q.2⟩)
   | true =>
    cases AF:bj n0 with
    | false =>
     have HE:Hid (Sc.fJ k a b=7):=MP.out (iT (Or.inr (Or.inl AF)));go_wp2_with (first
      | (go_at_call 91;refine (HA.out _).mono ?_;rintro e2 w2 ⟨rfl,rfl⟩)
      | (go_at_call 90;refine (HN.out _ _).mono ?_;rintro e4 w4 ⟨rfl,rfl⟩;first | rw [Df] | rw [AF]))
     have q:=qN W3.out (HS.out _ B3.out);exact bodyPost_ret (results_cell_tmp rfl _ _ w.heap.size 98 _ (0,0) _ rfl q.1.row underlying98 rfl (by rw [ssize];rfl)) rfl (FW.out _ _ _ HE.out (by decide) ⟨rfl,q.2⟩)
    | true =>
     cases EL:Sc.rj a with
     | false =>
      rw [EL] at HA;have HE:Hid (Sc.fJ k a b=7):=MP.out (iT (Or.inr (Or.inr EL)));go_wp2_with (first
       | (go_at_call 91;refine (HA.out _).mono ?_;rintro e2 w2 ⟨rfl,rfl⟩)
       | (go_at_call 90;refine (HN.out _ _).mono ?_;rintro e4 w4 ⟨rfl,rfl⟩;first | rw [Df] | rw [AF]))
      have q:=qN W3.out (HS.out _ B3.out);exact bodyPost_ret (results_cell_tmp rfl _ _ w.heap.size 98 _ (0,0) _ rfl q.1.row underlying98 rfl (by rw [ssize];rfl)) rfl (FW.out _ _ _ HE.out (by decide) ⟨rfl,q.2⟩)
     | true =>
      rw [EL] at HA;have HZ:Hid (Sc.fJ k a b=0):=KV.out (nc Df AF EL);go_upto_region 12 with (first
       | (go_at_call 91;refine (HA.out _).mono ?_;rintro e2 w2 ⟨rfl,rfl⟩)
       | (go_at_call 90;refine (HN.out _ _).mono ?_;rintro e4 w4 ⟨rfl,rfl⟩;first | rw [Df] | rw [AF]))
      clear KV MP FW NQ Az Jd EH h0 h1 h0' h1' Qw hw CY Df AF EL hk hn;have SR:¬ ((c:Int)<17):=by omega
      by_cases DG:c=17
      ·subst DG;have DS:Hid (∀ y q d,qw w y→Bs y q d M2→qc 92 #[qp g,.int .i64 e0,.int .i64 n0,.slice q 9 d,.slice (some ⟨ab,ao,none⟩) (n-17) 0] y (bC oo y)):=by have h:=Bp.out;unfold iV at h;rw [if_pos rfl] at h;exact h
       clear Bp;have HK:Hid (∀ y,qw w3 y→y.cell? ⟨w.heap.size,0,none⟩=some (.int .i64 0)):=fun y hy=>(HS.out y (B3.out.trans (hy.mono B3.out.size))).c0;have B3d:Hid (qw w3 w3.drew):=(Below.refl _ w3).drew;go_region_held3 (fun y=>y.cell? ⟨w.heap.size,0,none⟩=some (.int .i64 0))
        (exact HK.out _ (Hid.out (by assumption)))
        ((first
         | (go_at_call 93;refine (Kl.out _).mono ?_;rintro e6 w6 ⟨p6,c6,rfl,O6,H6,b6⟩;have B6:Hid (qw w3 w6):=(Below.refl _ w3).drew.trans b6.out)
         | (go_at_call 92;refine (DS.out _ _ _ (W3.out.trans (B6.out.mono W3.out.size)) H6.out).mono ?_;rintro e7 w7 ⟨u7,d7,m7,rfl,L7,O7,H7,b7⟩;have B7:Hid (qw w3 w7):=B6.out.trans (b7.mono B6.out.size))))
       all_goals
        have W7:Hid (qw w w7):=W3.out.trans (B7.out.mono W3.out.size);have NB:Hid (qw w0 w7):=B3.out.trans (B7.out.mono B3.out.size);have R7:=qh (HS.out _ NB.out);have LZ:Hid (w.heap.size<w6.heap.size):=by show _<_;have h1:=(HS.out _ B3.out).lt;have:=B6.out.size;omega
        clear Kl DS H6 O6 b6 B6 HI HN HA HS P0 d0 d1 d2 d3 d4 f0 f1 f2 f3 f4;obtain ⟨d0,d1,d2,d3,d4⟩:=R7.out.all;obtain ⟨f0,f1,f2,f3,f4⟩:=R7.out.j2;cases oo with
        | none =>
         simp only [Option.isSome_none];go_wp2;have q:=qN W7.out R7.out;exact bodyPost_ret (results_cell_tmp rfl _ _ w.heap.size 98 _ (0,0) _ rfl q.1.row underlying98 rfl (by rw [ssize];rfl)) rfl (MO.out _ _ _ HZ.out IJ.out (Or.inl ⟨rfl,rfl,q.2⟩))
        | some R =>
         simp only [Option.isSome_some];rw [Option.getD_some] at L7 O7 H7;go_wp2;have Gg:=sset (k':=k) (e':=e0) (n':=n0) (a':=a) (p':=u7) (m':=m7) (c':=d7) R7.out.row;have C9:=eE w7 w.heap.size (.int .i64 k) (.int .i64 e0) (.int .i64 n0) (.int .i64 a) (.slice u7 m7 d7);have O9:=ez O7.out C9 LZ.out;have hbs:=bH O9 H7.out.bat.1;refine bodyPost_ret (results_cell_tmp rfl _ _ w.heap.size 98 _ (0,0) _ rfl Gg underlying98 rfl (by rw [ssize];rfl)) rfl (MO.out _ _ _ HZ.out IJ.out (Or.inr ⟨R,u7,m7,d7,rfl,L7,rfl,bQ O9 (Nat.le_of_lt LZ.out),?_,C9.below W7.out qn⟩));obtain ⟨p',c',he,hb,_⟩:=hbs;cases he
         exact hb
      ·have DS:Hid (∀ y q d,qw w y→Bs y q d M2→qc 92 #[qp g,.int .i64 e0,.int .i64 n0,.slice q 9 d,.slice (some ⟨ab,ao+17,none⟩) (n-17) (c-17)] y (bC oo y)):=by have h:=Bp.out;unfold iV at h;rw [if_neg DG] at h;exact h
       clear Bp;have HK:Hid (∀ y,qw w3 y→y.cell? ⟨w.heap.size,0,none⟩=some (.int .i64 0)):=fun y hy=>(HS.out y (B3.out.trans (hy.mono B3.out.size))).c0;have B3d:Hid (qw w3 w3.drew):=(Below.refl _ w3).drew;go_region_held3 (fun y=>y.cell? ⟨w.heap.size,0,none⟩=some (.int .i64 0))
        (exact HK.out _ (Hid.out (by assumption)))
        ((first
         | (go_at_call 93;refine (Kl.out _).mono ?_;rintro e6 w6 ⟨p6,c6,rfl,O6,H6,b6⟩;have B6:Hid (qw w3 w6):=(Below.refl _ w3).drew.trans b6.out)
         | (go_at_call 92;refine (DS.out _ _ _ (W3.out.trans (B6.out.mono W3.out.size)) H6.out).mono ?_;rintro e7 w7 ⟨u7,d7,m7,rfl,L7,O7,H7,b7⟩;have B7:Hid (qw w3 w7):=B6.out.trans (b7.mono B6.out.size))))
       all_goals
        have W7:Hid (qw w w7):=W3.out.trans (B7.out.mono W3.out.size);have NB:Hid (qw w0 w7):=B3.out.trans (B7.out.mono B3.out.size);have R7:=qh (HS.out _ NB.out);have LZ:Hid (w.heap.size<w6.heap.size):=by show _<_;have h1:=(HS.out _ B3.out).lt;have:=B6.out.size;omega
        clear Kl DS H6 O6 b6 B6 HI HN HA HS P0 d0 d1 d2 d3 d4 f0 f1 f2 f3 f4;obtain ⟨d0,d1,d2,d3,d4⟩:=R7.out.all;obtain ⟨f0,f1,f2,f3,f4⟩:=R7.out.j2;cases oo with
        | none =>
         simp only [Option.isSome_none];go_wp2;have q:=qN W7.out R7.out;exact bodyPost_ret (results_cell_tmp rfl _ _ w.heap.size 98 _ (0,0) _ rfl q.1.row underlying98 rfl (by rw [ssize];rfl)) rfl (MO.out _ _ _ HZ.out IJ.out (Or.inl ⟨rfl,rfl,q.2⟩))
        | some R =>
         simp only [Option.isSome_some];rw [Option.getD_some] at L7 O7 H7;go_wp2;have Gg:=sset (k':=k) (e':=e0) (n':=n0) (a':=a) (p':=u7) (m':=m7) (c':=d7) R7.out.row;have C9:=eE w7 w.heap.size (.int .i64 k) (.int .i64 e0) (.int .i64 n0) (.int .i64 a) (.slice u7 m7 d7);have O9:=ez O7.out C9 LZ.out;have hbs:=bH O9 H7.out.bat.1;refine bodyPost_ret (results_cell_tmp rfl _ _ w.heap.size 98 _ (0,0) _ rfl Gg underlying98 rfl (by rw [ssize];rfl)) rfl (MO.out _ _ _ HZ.out IJ.out (Or.inr ⟨R,u7,m7,d7,rfl,L7,rfl,bQ O9 (Nat.le_of_lt LZ.out),?_,C9.below W7.out qn⟩));obtain ⟨p',c',he,hb,_⟩:=hbs;cases he
         exact hb
end
end Go.Proofs.YthgjfjmampmiiaaGreatDoor

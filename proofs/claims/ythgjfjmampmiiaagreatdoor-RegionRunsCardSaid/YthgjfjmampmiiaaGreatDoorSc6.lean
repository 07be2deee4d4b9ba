/-
  ScE, ScF (merged)
-/
import Derived.Test.YthgjfjmampmiiaaGreatDoorSc2
namespace Go.Proofs.YthgjfjmampmiiaaGreatDoor
open Go.Proofs.Tryz
set_option maxHeartbeats 4000000
set_option maxRecDepth 100000
section
open Go.RowKit
theorem ez {w w':World} {B n k:Nat} {v:Value} {xs:List Value} {e:TypeId} {s:Nat} (h:w.ownsRow B e s v n xs) (hc:bJ k w w') (hk:k<B):w'.ownsRow B e s v n xs:=by
 refine ⟨h.1,?_⟩;rcases h.2 with h' | ⟨g,cap,cur,hv,q0,q1,q2⟩
 ·exact Or.inl h'
 ·exact Or.inr ⟨g,cap,cur,hv,q0,(hc.block _ (by omega)).trans q1,q2⟩
theorem cA.ue {w:World} {g:Nat} {k e n a:Int} {p p':Option Addr} {m c m' c':Nat} (s:cA w g k e n a p m c):cA (w.setCell ⟨g,4,none⟩ (.slice p' m' c')) g k e n a p' m' c' :=
 ⟨by rw [heap_setCell_same w g 4 _ _ _ s.row];rfl⟩
def aem (k e n a:Int) (o:Option (List Int)) (w:World) (r:Ending) (w':World):Prop :=
 (o=none∧GNo 19 w r w')∨∃ R u m d,o=some R∧R.length=m∧r = .returned (.tuple #[SV k e n a u m d,.int .i64 0])∧Hid (w'.ownsRow w.heap.size 5 1 (.slice u m d) m (aC R))∧Hid (Bs w' u d R)∧qw w w'
theorem acP (v:Value) (w:World):(method 370 33 v "Open").run prog w = .ok (215,v) w:=by kernel_rfl
theorem aeM (a:Addr) (w:World):(nilAhead 370 33 (.pointer (some a)) "Open").run prog w = .ok (some false) w:=by kernel_rfl
theorem aea (g:Addr) (k a e0 n0:Int) (b:List Int) (p:Option Addr) (n c:Nat) (hn:b.length=n) (hr:Sc.fJ k a b=0) (w:World) (hp:Bs w p c b) (o:Option (List Int))
  (he:Sc.ep (b.take 17)=e0) (GS:Sc.nu (b.take 17)=n0)
  (hop:∀ y q d q2 d2,qw w y→Bs y q d (Sc.mk k a)→Bs y q2 d2 (b.drop 17)→qc 215 #[.pointer (some g),.int .i64 e0,.int .i64 n0,.slice q 9 d,.slice q2 (n-17) d2] y (bC o y)) :
  qc 86 #[.iface 33 (.pointer (some g)),.int .i64 k,.int .i64 a,.slice p n c] w (aem k e0 n0 a o w):=by
 subst he;subst GS;have hlen:17≤n∧n≤1024∧Sc.fv k=true∧Sc.kd b=k∧Sc.gh (Sc.ep (b.take 17)) (Sc.nu (b.take 17)) a=true:=by
  unfold Sc.fJ at hr;rw [hn] at hr;by_cases h0:n<17
  ·rw [if_pos h0] at hr;omega
  ·rw [if_neg h0] at hr;by_cases h1:1024<n
   ·rw [if_pos h1] at hr;omega
   ·rw [if_neg h1] at hr;by_cases h2:Sc.fv k=true∧Sc.kd b=k
    ·rw [if_pos h2] at hr;refine ⟨by omega,by omega,h2.1,h2.2,?_⟩;cases q:Sc.gh (Sc.ep (b.take 17)) (Sc.nu (b.take 17)) a with
     | true=>rfl
     | false=>rw [q] at hr;simp at hr
    ·rw [if_neg h2] at hr;omega
 obtain ⟨EM,Dq,hk,hd,L4⟩:=hlen;clear hr;have Ed:=Sc.cW.1 hk;have J1:Sc.k0 (b.take 17)=k:=by
  have h:=lI (b:=b) (by omega);rw [hd] at h;have h2:Sc.k0 (b.take 17)=b.getD 0 0:=by
   unfold Sc.k0 Pk.vb;cases b with
   | nil=>simp at hn;omega
   | cons x l=>rfl
  rw [h2];by_cases q:Sc.fv (b.getD 0 0)=true
  ·rw [if_pos q] at h;exact h.symm
  ·rw [if_neg q] at h;omega
 have B0:Hid (qw w (w.alloc (SO 0 0 0 0 none 0 0))):=qb w _;have HS:Hid (∀ y,Below (w.alloc (SO 0 0 0 0 none 0 0)).heap.size (w.alloc (SO 0 0 0 0 none 0 0)) y→cA y w.heap.size 0 0 0 0 none 0 0):=fun y hy=>(cA.new w 0 0 0 0 none 0 0).av hy;have P0:Hid (Bs (w.alloc (SO 0 0 0 0 none 0 0)) p c b):=hp.av B0.out;have HI:Hid (∀ x,qc 110 #[.int .i64 k] x fun r x'=>r = .returned (.bool true)∧x=x'):=fun x=>(dA k x).mono fun _ _ q=>by rw [hk] at q;exact ⟨q.1,q.2.symm⟩
 have HD:Hid (∀ x,Bs x p c b→qc 126 #[.slice p n c] x fun r x'=>r = .returned (.int .i64 k)∧x=x'):=fun x hx=>(lV b p n c hn x hx).mono fun _ _ q=>by rw [hd] at q;exact ⟨q.1,q.2.symm⟩
 have AX:Hid (∀ x,qc 112 #[.int .i64 k,.int .i64 a] x (aX (Sc.mk k a) 9 x)):=fun x=>eh k a (by omega) x;obtain ⟨ab,ao,J7,_⟩:=hp.bat.2 (by omega);subst J7;have Az:=hp.cap;rw [hn] at Az;have JV:(17:Int)≤(c:Int):=by omega
 have Dx:¬ ((c:Int)<17):=by omega
 have Me:(17:Int)≤(n:Int):=by omega
 have D6:Hid (∀ x,Bs x (some ⟨ab,ao,none⟩) c b→qc 127 #[.int .i64 a,.slice (some ⟨ab,ao,none⟩) 17 c] x fun r w'=>r = .returned (SV k (Sc.ep (b.take 17)) (Sc.nu (b.take 17)) a none 0 0)∧qw x w'):=fun x hx=>by
  have h:=ib a (b.take 17) _ c (by rw [List.length_take];omega) x (hx.take 17);rw [J1] at h;exact h
 have Bp:Hid (∀ y q d,qw w y→Bs y q d (Sc.mk k a)→qc 215 #[.pointer (some g),.int .i64 (Sc.ep (b.take 17)),.int .i64 (Sc.nu (b.take 17)),.slice q 9 d,.slice (iV ab ao 17 c) (n-17) (c-17)] y (bC o y)):=fun y q d hy hq =>
  hop y q d _ _ hy hq (qC (hp.av hy) (by omega))
 clear hop J1 Az;generalize Sc.ep (b.take 17)=e0 at *;generalize Sc.nu (b.take 17)=n0 at *;have Ij:Hid (∀ x,qc 111 #[SV k e0 n0 a none 0 0] x fun r x'=>r = .returned (.bool true)∧qw x x'):=fun x=>by have h:=dD k e0 n0 a none 0 0 x;rw [L4] at h;exact h
 have h0':¬ (n:Int)<17:=by omega
 have h1':¬ (n:Int)>1024:=by omega
 generalize Sc.mk k a=M2 at *;have EY:=qh (And.intro EM Dq);clear EM Dq;clear hk hd L4 Ed hn hp;have ms:=acP;have mn:=aeM;go_enter func86,ntmps86;go_upto_region 1 with (fail)
 change Code.wp _ _ _ _ (w.alloc (SO 0 0 0 0 none 0 0));obtain ⟨w0,Ah⟩:∃ x,x=w.alloc (SO 0 0 0 0 none 0 0):=⟨_,rfl⟩;rw [← Ah] at B0 HS P0 ⊢;clear Ah;obtain ⟨d0,d1,d2,d3,d4⟩:=(HS.out _ (Below.refl _ _)).all;obtain ⟨f0,f1,f2,f3,f4⟩:=(HS.out _ (Below.refl _ _)).j2;go_upto_region 8 with (first
  | (go_at_call 110;refine (HI.out _).mono ?_;rintro e1 w1 ⟨rfl,rfl⟩)
  | (go_at_call 126;refine (HD.out _ P0.out).mono ?_;rintro e2 w2 ⟨rfl,rfl⟩)
  | (go_at_call 127;refine (D6.out _ P0.out).mono ?_;rintro e3 w3 ⟨rfl,As⟩;have B3:=qh As;clear As))
 all_goals
  change Code.wp _ _ _ _ (w3.alloc (SO k e0 n0 a none 0 0));have S4:Hid (∀ y,Below (w3.alloc (SO k e0 n0 a none 0 0)).heap.size (w3.alloc (SO k e0 n0 a none 0 0)) y→cA y w3.heap.size k e0 n0 a none 0 0):=fun y hy=>(cA.new w3 k e0 n0 a none 0 0).av hy;have B4:Hid (qw w0 (w3.alloc (SO k e0 n0 a none 0 0))):=B3.out.alloc B3.out.size _;obtain ⟨w4,FE⟩:∃ x,x=w3.alloc (SO k e0 n0 a none 0 0):=⟨_,rfl⟩;rw [← FE] at S4 B4 ⊢;clear FE d0 d1 d2 d3 d4 f0 f1 f2 f3 f4;obtain ⟨x0,x1,x2,x3,x4⟩:=(S4.out _ (Below.refl _ _)).all;go_upto_region 10 with (go_at_call 111;refine (Ij.out _).mono ?_;rintro e5 w5 ⟨rfl,BC⟩;have B5:Hid (qw w4 w5):=BC;clear BC)
  have B5d:Hid (qw w4 w5.drew):=B5.out.drew;have HK:Hid (∀ y,qw w4 y→y.cell? ⟨w3.heap.size,1,none⟩=some (.int .i64 e0)∧y.cell? ⟨w3.heap.size,2,none⟩=some (.int .i64 n0)):=fun y hy=>⟨(S4.out y hy).c1,(S4.out y hy).c2⟩;clear x0 x1 x2 x3 x4;by_cases DG:c=17
  ·subst DG;have DS:Hid (∀ y q d,qw w y→Bs y q d M2→qc 215 #[.pointer (some g),.int .i64 e0,.int .i64 n0,.slice q 9 d,.slice (some ⟨ab,ao,none⟩) (n-17) 0] y (bC o y)):=by have h:=Bp.out;unfold iV at h;rw [if_pos rfl] at h;exact h
   clear Bp;go_region_held3 (fun y=>y.cell? ⟨w3.heap.size,1,none⟩=some (.int .i64 e0)∧y.cell? ⟨w3.heap.size,2,none⟩=some (.int .i64 n0))
    (exact HK.out _ (Hid.out (by assumption)))
    ((first
     | (go_at_call 112;refine (AX.out _).mono ?_;rintro e6 w6 ⟨p6,c6,rfl,O6,H6,b6⟩;have B6:Hid (qw w4 w6):=B5d.out.trans (b6.out.mono B5d.out.size))
     | (go_at_call 215;refine (DS.out _ _ _ (B0.out.trans ((B4.out.trans (B6.out.mono B4.out.size)).mono B0.out.size)) H6.out).mono ?_;rintro e7 w7 ⟨u7,d7,m7,rfl,L7,O7,H7,b7⟩;have B7:Hid (qw w4 w7):=B6.out.trans (b7.mono B6.out.size))))
   all_goals
    have W4:Hid (qw w w4):=B0.out.trans (B4.out.mono B0.out.size);have W7:Hid (qw w w7):=W4.out.trans (B7.out.mono W4.out.size);have S7:=qh (S4.out _ B7.out);have R7:=qh (HS.out _ (B4.out.trans (B7.out.mono B4.out.size)));have Z6:Hid (w.heap.size<w3.heap.size∧w3.heap.size<w6.heap.size):=⟨by have:=R7.out.lt;have:=B0.out;have h1:=(HS.out _ (Below.refl _ _)).lt;have:=B3.out.size;omega,by have h1:=(S4.out _ (Below.refl _ _)).lt;have:=B6.out.size;omega⟩;clear HI HD AX D6 Ij DS HK S4 HS P0 B5d B6 B5 H6 O6 b6;cases o with
    | none =>
     simp only [Option.isSome_none];obtain ⟨d0,d1,d2,d3,d4⟩:=R7.out.all;obtain ⟨f0,f1,f2,f3,f4⟩:=R7.out.j2;go_wp2;have q:=qN W7.out R7.out;exact bodyPost_ret (results_cell_tmp rfl _ _ w.heap.size 98 _ (0,0) _ rfl q.1.row underlying98 rfl (by rw [ssize];rfl)) rfl (Or.inl ⟨rfl,rfl,q.2⟩)
    | some R =>
     simp only [Option.isSome_some];rw [Option.getD_some] at L7 O7 H7;obtain ⟨x0,x1,x2,x3,x4⟩:=S7.out.all;obtain ⟨y0,y1,y2,y3,y4⟩:=S7.out.j2;go_upto_region 14 with (fail)
     change Code.wp _ _ _ _ (w7.setCell ⟨w3.heap.size,4,none⟩ (.slice u7 m7 d7));have S8:Hid (cA (w7.setCell ⟨w3.heap.size,4,none⟩ (.slice u7 m7 d7)) w3.heap.size k e0 n0 a u7 m7 d7):=S7.out.ue;have C8:Hid (bJ w3.heap.size w7 (w7.setCell ⟨w3.heap.size,4,none⟩ (.slice u7 m7 d7))):=bJ.setCell w7 ⟨w3.heap.size,4,none⟩ _;obtain ⟨w8,FG⟩:∃ x,x=w7.setCell ⟨w3.heap.size,4,none⟩ (.slice u7 m7 d7):=⟨_,rfl⟩;rw [← FG] at S8 C8 ⊢;clear FG x0 x1 x2 x3 x4 y0 y1 y2 y3 y4;have R8:Hid (cA w8 w.heap.size 0 0 0 0 none 0 0):=⟨(C8.out.block _ (by have:=Z6.out;omega)).trans R7.out.row⟩;obtain ⟨x0,x1,x2,x3,x4⟩:=S8.out.all;obtain ⟨d0,d1,d2,d3,d4⟩:=R8.out.all;obtain ⟨f0,f1,f2,f3,f4⟩:=R8.out.j2;go_wp2;have Gg:=sset (k':=k) (e':=e0) (n':=n0) (a':=a) (p':=u7) (m':=m7) (c':=d7) R8.out.row;have C9:=eE w8 w.heap.size (.int .i64 k) (.int .i64 e0) (.int .i64 n0) (.int .i64 a) (.slice u7 m7 d7);have O9:=ez (ez O7.out C8.out (by have:=Z6.out;omega)) C9 (by have:=Z6.out;omega);have hbs:=bH O9 H7.out.bat.1;refine bodyPost_ret (results_cell_tmp rfl _ _ w.heap.size 98 _ (0,0) _ rfl Gg underlying98 rfl (by rw [ssize];rfl)) rfl (Or.inr ⟨R,u7,m7,d7,rfl,L7,rfl,bQ O9 (by have:=Z6.out;omega),?_,?_⟩)
     ·obtain ⟨p',c',he,hb,_⟩:=hbs;cases he
      exact hb
     ·exact C9.below (C8.out.below W7.out (by have:=Z6.out;omega)) qn
  ·have DS:Hid (∀ y q d,qw w y→Bs y q d M2→qc 215 #[.pointer (some g),.int .i64 e0,.int .i64 n0,.slice q 9 d,.slice (some ⟨ab,ao+17,none⟩) (n-17) (c-17)] y (bC o y)):=by have h:=Bp.out;unfold iV at h;rw [if_neg DG] at h;exact h
   clear Bp;go_region_held3 (fun y=>y.cell? ⟨w3.heap.size,1,none⟩=some (.int .i64 e0)∧y.cell? ⟨w3.heap.size,2,none⟩=some (.int .i64 n0))
    (exact HK.out _ (Hid.out (by assumption)))
    ((first
     | (go_at_call 112;refine (AX.out _).mono ?_;rintro e6 w6 ⟨p6,c6,rfl,O6,H6,b6⟩;have B6:Hid (qw w4 w6):=B5d.out.trans (b6.out.mono B5d.out.size))
     | (go_at_call 215;refine (DS.out _ _ _ (B0.out.trans ((B4.out.trans (B6.out.mono B4.out.size)).mono B0.out.size)) H6.out).mono ?_;rintro e7 w7 ⟨u7,d7,m7,rfl,L7,O7,H7,b7⟩;have B7:Hid (qw w4 w7):=B6.out.trans (b7.mono B6.out.size))))
   all_goals
    have W4:Hid (qw w w4):=B0.out.trans (B4.out.mono B0.out.size);have W7:Hid (qw w w7):=W4.out.trans (B7.out.mono W4.out.size);have S7:=qh (S4.out _ B7.out);have R7:=qh (HS.out _ (B4.out.trans (B7.out.mono B4.out.size)));have Z6:Hid (w.heap.size<w3.heap.size∧w3.heap.size<w6.heap.size):=⟨by have:=R7.out.lt;have:=B0.out;have h1:=(HS.out _ (Below.refl _ _)).lt;have:=B3.out.size;omega,by have h1:=(S4.out _ (Below.refl _ _)).lt;have:=B6.out.size;omega⟩;clear HI HD AX D6 Ij DS HK S4 HS P0 B5d B6 B5 H6 O6 b6;cases o with
    | none =>
     simp only [Option.isSome_none];obtain ⟨d0,d1,d2,d3,d4⟩:=R7.out.all;obtain ⟨f0,f1,f2,f3,f4⟩:=R7.out.j2;go_wp2;have q:=qN W7.out R7.out;exact bodyPost_ret (results_cell_tmp rfl _ _ w.heap.size 98 _ (0,0) _ rfl q.1.row underlying98 rfl (by rw [ssize];rfl)) rfl (Or.inl ⟨rfl,rfl,q.2⟩)
    | some R =>
     simp only [Option.isSome_some];rw [Option.getD_some] at L7 O7 H7;obtain ⟨x0,x1,x2,x3,x4⟩:=S7.out.all;obtain ⟨y0,y1,y2,y3,y4⟩:=S7.out.j2;go_upto_region 14 with (fail)
     change Code.wp _ _ _ _ (w7.setCell ⟨w3.heap.size,4,none⟩ (.slice u7 m7 d7));have S8:Hid (cA (w7.setCell ⟨w3.heap.size,4,none⟩ (.slice u7 m7 d7)) w3.heap.size k e0 n0 a u7 m7 d7):=S7.out.ue;have C8:Hid (bJ w3.heap.size w7 (w7.setCell ⟨w3.heap.size,4,none⟩ (.slice u7 m7 d7))):=bJ.setCell w7 ⟨w3.heap.size,4,none⟩ _;obtain ⟨w8,FG⟩:∃ x,x=w7.setCell ⟨w3.heap.size,4,none⟩ (.slice u7 m7 d7):=⟨_,rfl⟩;rw [← FG] at S8 C8 ⊢;clear FG x0 x1 x2 x3 x4 y0 y1 y2 y3 y4;have R8:Hid (cA w8 w.heap.size 0 0 0 0 none 0 0):=⟨(C8.out.block _ (by have:=Z6.out;omega)).trans R7.out.row⟩;obtain ⟨x0,x1,x2,x3,x4⟩:=S8.out.all;obtain ⟨d0,d1,d2,d3,d4⟩:=R8.out.all;obtain ⟨f0,f1,f2,f3,f4⟩:=R8.out.j2;go_wp2;have Gg:=sset (k':=k) (e':=e0) (n':=n0) (a':=a) (p':=u7) (m':=m7) (c':=d7) R8.out.row;have C9:=eE w8 w.heap.size (.int .i64 k) (.int .i64 e0) (.int .i64 n0) (.int .i64 a) (.slice u7 m7 d7);have O9:=ez (ez O7.out C8.out (by have:=Z6.out;omega)) C9 (by have:=Z6.out;omega);have hbs:=bH O9 H7.out.bat.1;refine bodyPost_ret (results_cell_tmp rfl _ _ w.heap.size 98 _ (0,0) _ rfl Gg underlying98 rfl (by rw [ssize];rfl)) rfl (Or.inr ⟨R,u7,m7,d7,rfl,L7,rfl,bQ O9 (by have:=Z6.out;omega),?_,?_⟩)
     ·obtain ⟨p',c',he,hb,_⟩:=hbs;cases he
      exact hb
     ·exact C9.below (C8.out.below W7.out (by have:=Z6.out;omega)) qn
end
section
open Go.RowKit
theorem aeK (v:Value) (w:World):(method 370 66 v "Open").run prog w = .ok (237,v) w:=by kernel_rfl
theorem adW (a:Addr) (w:World):(nilAhead 370 66 (.pointer (some a)) "Open").run prog w = .ok (some false) w:=by kernel_rfl
theorem adw (g:Addr) (k a e0 n0:Int) (b:List Int) (p:Option Addr) (n c:Nat) (hn:b.length=n) (hr:Sc.fJ k a b=0) (w:World) (hp:Bs w p c b) (o:Option (List Int))
  (he:Sc.ep (b.take 17)=e0) (GS:Sc.nu (b.take 17)=n0)
  (hop:∀ y q d q2 d2,qw w y→Bs y q d (Sc.mk k a)→Bs y q2 d2 (b.drop 17)→qc 237 #[.pointer (some g),.int .i64 e0,.int .i64 n0,.slice q 9 d,.slice q2 (n-17) d2] y (bC o y)) :
  qc 86 #[.iface 66 (.pointer (some g)),.int .i64 k,.int .i64 a,.slice p n c] w (aem k e0 n0 a o w):=by
 subst he;subst GS;have hlen:17≤n∧n≤1024∧Sc.fv k=true∧Sc.kd b=k∧Sc.gh (Sc.ep (b.take 17)) (Sc.nu (b.take 17)) a=true:=by
  unfold Sc.fJ at hr;rw [hn] at hr;by_cases h0:n<17
  ·rw [if_pos h0] at hr;omega
  ·rw [if_neg h0] at hr;by_cases h1:1024<n
   ·rw [if_pos h1] at hr;omega
   ·rw [if_neg h1] at hr;by_cases h2:Sc.fv k=true∧Sc.kd b=k
    ·rw [if_pos h2] at hr;refine ⟨by omega,by omega,h2.1,h2.2,?_⟩;cases q:Sc.gh (Sc.ep (b.take 17)) (Sc.nu (b.take 17)) a with
     | true=>rfl
     | false=>rw [q] at hr;simp at hr
    ·rw [if_neg h2] at hr;omega
 obtain ⟨EM,Dq,hk,hd,L4⟩:=hlen;clear hr;have Ed:=Sc.cW.1 hk;have J1:Sc.k0 (b.take 17)=k:=by
  have h:=lI (b:=b) (by omega);rw [hd] at h;have h2:Sc.k0 (b.take 17)=b.getD 0 0:=by
   unfold Sc.k0 Pk.vb;cases b with
   | nil=>simp at hn;omega
   | cons x l=>rfl
  rw [h2];by_cases q:Sc.fv (b.getD 0 0)=true
  ·rw [if_pos q] at h;exact h.symm
  ·rw [if_neg q] at h;omega
 have B0:Hid (qw w (w.alloc (SO 0 0 0 0 none 0 0))):=qb w _;have HS:Hid (∀ y,Below (w.alloc (SO 0 0 0 0 none 0 0)).heap.size (w.alloc (SO 0 0 0 0 none 0 0)) y→cA y w.heap.size 0 0 0 0 none 0 0):=fun y hy=>(cA.new w 0 0 0 0 none 0 0).av hy;have P0:Hid (Bs (w.alloc (SO 0 0 0 0 none 0 0)) p c b):=hp.av B0.out;have HI:Hid (∀ x,qc 110 #[.int .i64 k] x fun r x'=>r = .returned (.bool true)∧x=x'):=fun x=>(dA k x).mono fun _ _ q=>by rw [hk] at q;exact ⟨q.1,q.2.symm⟩
 have HD:Hid (∀ x,Bs x p c b→qc 126 #[.slice p n c] x fun r x'=>r = .returned (.int .i64 k)∧x=x'):=fun x hx=>(lV b p n c hn x hx).mono fun _ _ q=>by rw [hd] at q;exact ⟨q.1,q.2.symm⟩
 have AX:Hid (∀ x,qc 112 #[.int .i64 k,.int .i64 a] x (aX (Sc.mk k a) 9 x)):=fun x=>eh k a (by omega) x;obtain ⟨ab,ao,J7,_⟩:=hp.bat.2 (by omega);subst J7;have Az:=hp.cap;rw [hn] at Az;have JV:(17:Int)≤(c:Int):=by omega
 have Dx:¬ ((c:Int)<17):=by omega
 have Me:(17:Int)≤(n:Int):=by omega
 have D6:Hid (∀ x,Bs x (some ⟨ab,ao,none⟩) c b→qc 127 #[.int .i64 a,.slice (some ⟨ab,ao,none⟩) 17 c] x fun r w'=>r = .returned (SV k (Sc.ep (b.take 17)) (Sc.nu (b.take 17)) a none 0 0)∧qw x w'):=fun x hx=>by
  have h:=ib a (b.take 17) _ c (by rw [List.length_take];omega) x (hx.take 17);rw [J1] at h;exact h
 have Bp:Hid (∀ y q d,qw w y→Bs y q d (Sc.mk k a)→qc 237 #[.pointer (some g),.int .i64 (Sc.ep (b.take 17)),.int .i64 (Sc.nu (b.take 17)),.slice q 9 d,.slice (iV ab ao 17 c) (n-17) (c-17)] y (bC o y)):=fun y q d hy hq =>
  hop y q d _ _ hy hq (qC (hp.av hy) (by omega))
 clear hop J1 Az;generalize Sc.ep (b.take 17)=e0 at *;generalize Sc.nu (b.take 17)=n0 at *;have Ij:Hid (∀ x,qc 111 #[SV k e0 n0 a none 0 0] x fun r x'=>r = .returned (.bool true)∧qw x x'):=fun x=>by have h:=dD k e0 n0 a none 0 0 x;rw [L4] at h;exact h
 have h0':¬ (n:Int)<17:=by omega
 have h1':¬ (n:Int)>1024:=by omega
 generalize Sc.mk k a=M2 at *;have EY:=qh (And.intro EM Dq);clear EM Dq;clear hk hd L4 Ed hn hp;have ms:=aeK;have mn:=adW;go_enter func86,ntmps86;go_upto_region 1 with (fail)
 change Code.wp _ _ _ _ (w.alloc (SO 0 0 0 0 none 0 0));obtain ⟨w0,Ah⟩:∃ x,x=w.alloc (SO 0 0 0 0 none 0 0):=⟨_,rfl⟩;rw [← Ah] at B0 HS P0 ⊢;clear Ah;obtain ⟨d0,d1,d2,d3,d4⟩:=(HS.out _ (Below.refl _ _)).all;obtain ⟨f0,f1,f2,f3,f4⟩:=(HS.out _ (Below.refl _ _)).j2;go_upto_region 8 with (first
  | (go_at_call 110;refine (HI.out _).mono ?_;rintro e1 w1 ⟨rfl,rfl⟩)
  | (go_at_call 126;refine (HD.out _ P0.out).mono ?_;rintro e2 w2 ⟨rfl,rfl⟩)
  | (go_at_call 127;refine (D6.out _ P0.out).mono ?_;rintro e3 w3 ⟨rfl,As⟩;have B3:=qh As;clear As))
 all_goals
  change Code.wp _ _ _ _ (w3.alloc (SO k e0 n0 a none 0 0));have S4:Hid (∀ y,Below (w3.alloc (SO k e0 n0 a none 0 0)).heap.size (w3.alloc (SO k e0 n0 a none 0 0)) y→cA y w3.heap.size k e0 n0 a none 0 0):=fun y hy=>(cA.new w3 k e0 n0 a none 0 0).av hy;have B4:Hid (qw w0 (w3.alloc (SO k e0 n0 a none 0 0))):=B3.out.alloc B3.out.size _;obtain ⟨w4,FE⟩:∃ x,x=w3.alloc (SO k e0 n0 a none 0 0):=⟨_,rfl⟩;rw [← FE] at S4 B4 ⊢;clear FE d0 d1 d2 d3 d4 f0 f1 f2 f3 f4;obtain ⟨x0,x1,x2,x3,x4⟩:=(S4.out _ (Below.refl _ _)).all;go_upto_region 10 with (go_at_call 111;refine (Ij.out _).mono ?_;rintro e5 w5 ⟨rfl,BC⟩;have B5:Hid (qw w4 w5):=BC;clear BC)
  have B5d:Hid (qw w4 w5.drew):=B5.out.drew;have HK:Hid (∀ y,qw w4 y→y.cell? ⟨w3.heap.size,1,none⟩=some (.int .i64 e0)∧y.cell? ⟨w3.heap.size,2,none⟩=some (.int .i64 n0)):=fun y hy=>⟨(S4.out y hy).c1,(S4.out y hy).c2⟩;clear x0 x1 x2 x3 x4;by_cases DG:c=17
  ·subst DG;have DS:Hid (∀ y q d,qw w y→Bs y q d M2→qc 237 #[.pointer (some g),.int .i64 e0,.int .i64 n0,.slice q 9 d,.slice (some ⟨ab,ao,none⟩) (n-17) 0] y (bC o y)):=by have h:=Bp.out;unfold iV at h;rw [if_pos rfl] at h;exact h
   clear Bp;go_region_held3 (fun y=>y.cell? ⟨w3.heap.size,1,none⟩=some (.int .i64 e0)∧y.cell? ⟨w3.heap.size,2,none⟩=some (.int .i64 n0))
    (exact HK.out _ (Hid.out (by assumption)))
    ((first
     | (go_at_call 112;refine (AX.out _).mono ?_;rintro e6 w6 ⟨p6,c6,rfl,O6,H6,b6⟩;have B6:Hid (qw w4 w6):=B5d.out.trans (b6.out.mono B5d.out.size))
     | (go_at_call 237;refine (DS.out _ _ _ (B0.out.trans ((B4.out.trans (B6.out.mono B4.out.size)).mono B0.out.size)) H6.out).mono ?_;rintro e7 w7 ⟨u7,d7,m7,rfl,L7,O7,H7,b7⟩;have B7:Hid (qw w4 w7):=B6.out.trans (b7.mono B6.out.size))))
   all_goals
    have W4:Hid (qw w w4):=B0.out.trans (B4.out.mono B0.out.size);have W7:Hid (qw w w7):=W4.out.trans (B7.out.mono W4.out.size);have S7:=qh (S4.out _ B7.out);have R7:=qh (HS.out _ (B4.out.trans (B7.out.mono B4.out.size)));have Z6:Hid (w.heap.size<w3.heap.size∧w3.heap.size<w6.heap.size):=⟨by have:=R7.out.lt;have:=B0.out;have h1:=(HS.out _ (Below.refl _ _)).lt;have:=B3.out.size;omega,by have h1:=(S4.out _ (Below.refl _ _)).lt;have:=B6.out.size;omega⟩;clear HI HD AX D6 Ij DS HK S4 HS P0 B5d B6 B5 H6 O6 b6;cases o with
    | none =>
     simp only [Option.isSome_none];obtain ⟨d0,d1,d2,d3,d4⟩:=R7.out.all;obtain ⟨f0,f1,f2,f3,f4⟩:=R7.out.j2;go_wp2;have q:=qN W7.out R7.out;exact bodyPost_ret (results_cell_tmp rfl _ _ w.heap.size 98 _ (0,0) _ rfl q.1.row underlying98 rfl (by rw [ssize];rfl)) rfl (Or.inl ⟨rfl,rfl,q.2⟩)
    | some R =>
     simp only [Option.isSome_some];rw [Option.getD_some] at L7 O7 H7;obtain ⟨x0,x1,x2,x3,x4⟩:=S7.out.all;obtain ⟨y0,y1,y2,y3,y4⟩:=S7.out.j2;go_upto_region 14 with (fail)
     change Code.wp _ _ _ _ (w7.setCell ⟨w3.heap.size,4,none⟩ (.slice u7 m7 d7));have S8:Hid (cA (w7.setCell ⟨w3.heap.size,4,none⟩ (.slice u7 m7 d7)) w3.heap.size k e0 n0 a u7 m7 d7):=S7.out.ue;have C8:Hid (bJ w3.heap.size w7 (w7.setCell ⟨w3.heap.size,4,none⟩ (.slice u7 m7 d7))):=bJ.setCell w7 ⟨w3.heap.size,4,none⟩ _;obtain ⟨w8,FG⟩:∃ x,x=w7.setCell ⟨w3.heap.size,4,none⟩ (.slice u7 m7 d7):=⟨_,rfl⟩;rw [← FG] at S8 C8 ⊢;clear FG x0 x1 x2 x3 x4 y0 y1 y2 y3 y4;have R8:Hid (cA w8 w.heap.size 0 0 0 0 none 0 0):=⟨(C8.out.block _ (by have:=Z6.out;omega)).trans R7.out.row⟩;obtain ⟨x0,x1,x2,x3,x4⟩:=S8.out.all;obtain ⟨d0,d1,d2,d3,d4⟩:=R8.out.all;obtain ⟨f0,f1,f2,f3,f4⟩:=R8.out.j2;go_wp2;have Gg:=sset (k':=k) (e':=e0) (n':=n0) (a':=a) (p':=u7) (m':=m7) (c':=d7) R8.out.row;have C9:=eE w8 w.heap.size (.int .i64 k) (.int .i64 e0) (.int .i64 n0) (.int .i64 a) (.slice u7 m7 d7);have O9:=ez (ez O7.out C8.out (by have:=Z6.out;omega)) C9 (by have:=Z6.out;omega);have hbs:=bH O9 H7.out.bat.1;refine bodyPost_ret (results_cell_tmp rfl _ _ w.heap.size 98 _ (0,0) _ rfl Gg underlying98 rfl (by rw [ssize];rfl)) rfl (Or.inr ⟨R,u7,m7,d7,rfl,L7,rfl,bQ O9 (by have:=Z6.out;omega),?_,?_⟩)
     ·obtain ⟨p',c',he,hb,_⟩:=hbs;cases he
      exact hb
     ·exact C9.below (C8.out.below W7.out (by have:=Z6.out;omega)) qn
  ·have DS:Hid (∀ y q d,qw w y→Bs y q d M2→qc 237 #[.pointer (some g),.int .i64 e0,.int .i64 n0,.slice q 9 d,.slice (some ⟨ab,ao+17,none⟩) (n-17) (c-17)] y (bC o y)):=by have h:=Bp.out;unfold iV at h;rw [if_neg DG] at h;exact h
   clear Bp;go_region_held3 (fun y=>y.cell? ⟨w3.heap.size,1,none⟩=some (.int .i64 e0)∧y.cell? ⟨w3.heap.size,2,none⟩=some (.int .i64 n0))
    (exact HK.out _ (Hid.out (by assumption)))
    ((first
     | (go_at_call 112;refine (AX.out _).mono ?_;rintro e6 w6 ⟨p6,c6,rfl,O6,H6,b6⟩;have B6:Hid (qw w4 w6):=B5d.out.trans (b6.out.mono B5d.out.size))
     | (go_at_call 237;refine (DS.out _ _ _ (B0.out.trans ((B4.out.trans (B6.out.mono B4.out.size)).mono B0.out.size)) H6.out).mono ?_;rintro e7 w7 ⟨u7,d7,m7,rfl,L7,O7,H7,b7⟩;have B7:Hid (qw w4 w7):=B6.out.trans (b7.mono B6.out.size))))
   all_goals
    have W4:Hid (qw w w4):=B0.out.trans (B4.out.mono B0.out.size);have W7:Hid (qw w w7):=W4.out.trans (B7.out.mono W4.out.size);have S7:=qh (S4.out _ B7.out);have R7:=qh (HS.out _ (B4.out.trans (B7.out.mono B4.out.size)));have Z6:Hid (w.heap.size<w3.heap.size∧w3.heap.size<w6.heap.size):=⟨by have:=R7.out.lt;have:=B0.out;have h1:=(HS.out _ (Below.refl _ _)).lt;have:=B3.out.size;omega,by have h1:=(S4.out _ (Below.refl _ _)).lt;have:=B6.out.size;omega⟩;clear HI HD AX D6 Ij DS HK S4 HS P0 B5d B6 B5 H6 O6 b6;cases o with
    | none =>
     simp only [Option.isSome_none];obtain ⟨d0,d1,d2,d3,d4⟩:=R7.out.all;obtain ⟨f0,f1,f2,f3,f4⟩:=R7.out.j2;go_wp2;have q:=qN W7.out R7.out;exact bodyPost_ret (results_cell_tmp rfl _ _ w.heap.size 98 _ (0,0) _ rfl q.1.row underlying98 rfl (by rw [ssize];rfl)) rfl (Or.inl ⟨rfl,rfl,q.2⟩)
    | some R =>
     simp only [Option.isSome_some];rw [Option.getD_some] at L7 O7 H7;obtain ⟨x0,x1,x2,x3,x4⟩:=S7.out.all;obtain ⟨y0,y1,y2,y3,y4⟩:=S7.out.j2;go_upto_region 14 with (fail)
     change Code.wp _ _ _ _ (w7.setCell ⟨w3.heap.size,4,none⟩ (.slice u7 m7 d7));have S8:Hid (cA (w7.setCell ⟨w3.heap.size,4,none⟩ (.slice u7 m7 d7)) w3.heap.size k e0 n0 a u7 m7 d7):=S7.out.ue;have C8:Hid (bJ w3.heap.size w7 (w7.setCell ⟨w3.heap.size,4,none⟩ (.slice u7 m7 d7))):=bJ.setCell w7 ⟨w3.heap.size,4,none⟩ _;obtain ⟨w8,FG⟩:∃ x,x=w7.setCell ⟨w3.heap.size,4,none⟩ (.slice u7 m7 d7):=⟨_,rfl⟩;rw [← FG] at S8 C8 ⊢;clear FG x0 x1 x2 x3 x4 y0 y1 y2 y3 y4;have R8:Hid (cA w8 w.heap.size 0 0 0 0 none 0 0):=⟨(C8.out.block _ (by have:=Z6.out;omega)).trans R7.out.row⟩;obtain ⟨x0,x1,x2,x3,x4⟩:=S8.out.all;obtain ⟨d0,d1,d2,d3,d4⟩:=R8.out.all;obtain ⟨f0,f1,f2,f3,f4⟩:=R8.out.j2;go_wp2;have Gg:=sset (k':=k) (e':=e0) (n':=n0) (a':=a) (p':=u7) (m':=m7) (c':=d7) R8.out.row;have C9:=eE w8 w.heap.size (.int .i64 k) (.int .i64 e0) (.int .i64 n0) (.int .i64 a) (.slice u7 m7 d7);have O9:=ez (ez O7.out C8.out (by have:=Z6.out;omega)) C9 (by have:=Z6.out;omega);have hbs:=bH O9 H7.out.bat.1;refine bodyPost_ret (results_cell_tmp rfl _ _ w.heap.size 98 _ (0,0) _ rfl Gg underlying98 rfl (by rw [ssize];rfl)) rfl (Or.inr ⟨R,u7,m7,d7,rfl,L7,rfl,bQ O9 (by have:=Z6.out;omega),?_,?_⟩)
     ·obtain ⟨p',c',he,hb,_⟩:=hbs;cases he
      exact hb
     ·exact C9.below (C8.out.below W7.out (by have:=Z6.out;omega)) qn
end
end Go.Proofs.YthgjfjmampmiiaaGreatDoor

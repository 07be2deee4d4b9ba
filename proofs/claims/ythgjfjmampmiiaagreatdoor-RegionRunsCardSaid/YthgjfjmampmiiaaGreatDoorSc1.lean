/-
  ScA, ScB (merged)
-/
import Derived.Test.YthgjfjmampmiiaaGreatDoorPa3
namespace Go.Proofs.YthgjfjmampmiiaaGreatDoor
open Go.Proofs.Tryz
set_option maxHeartbeats 1000000
set_option maxRecDepth 100000
section
open Go.RowKit
theorem bQ {w:World} {B B' n s:Nat} {e:TypeId} {v:Value} {xs:List Value} (h:w.ownsRow B' e s v n xs) (hb:B≤B'):w.ownsRow B e s v n xs:=by
 refine ⟨h.1,?_⟩;rcases h.2 with h1 | ⟨g,cap,cur,h1,h2,h3⟩
 ·exact Or.inl h1
 ·exact Or.inr ⟨g,cap,cur,h1,Nat.le_trans hb h2,h3⟩
namespace Sc
def fv (k:Int):Bool:=decide (1≤k∧k≤5)
def rj (a:Int):Bool:=decide (0≤a∧a<4096)
def gh (e n a:Int):Bool:=bj e&&(bj n&&rj a)
def mk (k n:Int):List Int:=k :: Pk.e8 n 8
def fr (k e n:Int):List Int:=mk k e++Pk.e8 n 8
theorem cW {k:Int}:fv k=true↔1≤k∧k≤5:=by unfold fv;simp
theorem lD {a:Int}:rj a=true↔0≤a∧a<4096:=by unfold rj;simp
theorem eU {e n a:Int}:gh e n a=true↔(0≤e∧e≤1099511627776)∧(0≤n∧n≤1099511627776)∧0≤a∧a<4096:=by
 unfold gh rj bj;simp only [Bool.and_eq_true,decide_eq_true_eq]
theorem fH (k n:Int):(mk k n).length=9:=by unfold mk;rw [List.length_cons,Pk.bF]
theorem dB (k e n:Int):(fr k e n).length=17:=by unfold fr;rw [List.length_append,fH,Pk.bF]
theorem afW {k:Int} (h:0≤k∧k≤255) (n:Int):ai.aY (mk k n):=fun x hx=>by
 unfold mk at hx;rcases List.mem_cons.1 hx with rfl | h2
 ·exact h
 ·exact Pk.pA _ _ x h2
theorem afG {k:Int} (h:0≤k∧k≤255) (e n:Int):ai.aY (fr k e n):=ai.aP (afW h e) (Pk.pA _ _)
def kd (b:List Int):Int:=if b.length<17 then 0 else if fv (b.getD 0 0) then b.getD 0 0 else 0
attribute [irreducible] fv rj gh mk fr kd
end Sc
theorem dA (k:Int) (w:World):qc 110 #[.int .i64 k] w fun e w'=>e = .returned (.bool (Sc.fv k))∧w'=w:=by
 by_cases h0:k≥1
 ·by_cases h1:k≤5
  ·rw [Sc.cW.2 ⟨h0,h1⟩];go_enter func110,ntmps110;go_wp2;go_ret;exact ⟨rfl,rfl⟩
  ·rw [show Sc.fv k=false by rw [← Bool.not_eq_true,Sc.cW];omega];go_enter func110,ntmps110;go_wp2;go_ret;exact ⟨rfl,rfl⟩
 ·rw [show Sc.fv k=false by rw [← Bool.not_eq_true,Sc.cW];omega];go_enter func110,ntmps110;go_wp2;go_ret;exact ⟨rfl,rfl⟩
theorem qu (n:Int) (w:World):qc 142 #[.int .i64 n] w fun e w'=>e = .returned (.bool (bj n))∧w'=w:=by
 by_cases h0:n≥0
 ·by_cases h1:n≤1099511627776
  ·rw [show bj n=true by unfold bj;simp [h1];omega];go_enter func142,ntmps142;go_wp2;go_ret;exact ⟨rfl,rfl⟩
  ·rw [show bj n=false by unfold bj;simp [h1]];go_enter func142,ntmps142;go_wp2;go_ret;exact ⟨rfl,rfl⟩
 ·rw [show bj n=false by unfold bj;simp;omega];go_enter func142,ntmps142;go_wp2;go_ret;exact ⟨rfl,rfl⟩
abbrev SV (k e n a:Int) (p:Option Addr) (m c:Nat):Value:=.agg #[.int .i64 k,.int .i64 e,.int .i64 n,.int .i64 a,.slice p m c]
def SO (k e n a:Int) (p:Option Addr) (m c:Nat):Obj:=.cells #[.int .i64 k,.int .i64 e,.int .i64 n,.int .i64 a,.slice p m c] 98
structure cA (w:World) (g:Nat) (k e n a:Int) (p:Option Addr) (m c:Nat):Prop where
 row:w.heap[g]?=some (SO k e n a p m c)
section
variable {w x:World} {g:Nat} {k e n a:Int} {p:Option Addr} {m c:Nat}
theorem cA.c0 (h:cA w g k e n a p m c):w.cell? ⟨g,0,none⟩=some (.int .i64 k):=by rw [cell_of_row w g 0 _ _ _ h.row];rfl
theorem cA.c1 (h:cA w g k e n a p m c):w.cell? ⟨g,1,none⟩=some (.int .i64 e):=by rw [cell_of_row w g 1 _ _ _ h.row];rfl
theorem cA.c2 (h:cA w g k e n a p m c):w.cell? ⟨g,2,none⟩=some (.int .i64 n):=by rw [cell_of_row w g 2 _ _ _ h.row];rfl
theorem cA.c3 (h:cA w g k e n a p m c):w.cell? ⟨g,3,none⟩=some (.int .i64 a):=by rw [cell_of_row w g 3 _ _ _ h.row];rfl
theorem cA.c4 (h:cA w g k e n a p m c):w.cell? ⟨g,4,none⟩=some (.slice p m c):=by rw [cell_of_row w g 4 _ _ _ h.row];rfl
theorem cA.lt (h:cA w g k e n a p m c):g<w.heap.size:=(Array.getElem?_eq_some_iff.1 h.row).1
theorem cA.av (h:cA w g k e n a p m c) (hb:qw w x):cA x g k e n a p m c:=⟨(hb.block _ h.lt).trans h.row⟩
theorem cA.new (w:World) (k e n a:Int) (p:Option Addr) (m c:Nat):cA (w.alloc (SO k e n a p m c)) w.heap.size k e n a p m c:=⟨heap_alloc_new w _⟩
end
theorem dD (k e n a:Int) (p:Option Addr) (m c:Nat) (w:World):qc 111 #[SV k e n a p m c] w fun r w'=>r = .returned (.bool (Sc.gh e n a))∧qw w w':=by
 have HI:Hid (∀ y x,qc 142 #[.int .i64 y] x fun r x'=>r = .returned (.bool (bj y))∧x'=x):=fun y x=>qu y x;have B0:Hid (qw w (w.alloc (SO k e n a p m c))):=qb w _;have S0:Hid (cA (w.alloc (SO k e n a p m c)) w.heap.size k e n a p m c):=cA.new w _ _ _ _ _ _ _;by_cases he:bj e=true
 ·by_cases hn:bj n=true
  ·by_cases ha:a≥0
   ·by_cases IY:a<4096
    ·rw [show Sc.gh e n a=true by unfold Sc.gh Sc.rj;simp [he,hn,IY];omega];go_enter func111,ntmps111;go_wp2_with (go_at_call 142;refine (HI.out _ _).mono ?_;rintro e1 w1 ⟨rfl,rfl⟩;first | rw [he] | rw [hn])
     go_ret;exact ⟨rfl,B0.out⟩
    ·rw [show Sc.gh e n a=false by unfold Sc.gh Sc.rj;simp [IY]];go_enter func111,ntmps111;go_wp2_with (go_at_call 142;refine (HI.out _ _).mono ?_;rintro e1 w1 ⟨rfl,rfl⟩;first | rw [he] | rw [hn])
     go_ret;refine ⟨?_,B0.out⟩;show Ending.returned (Value.bool (decide (a<4096)))=_;rw [decide_eq_false (by omega)]
   ·rw [show Sc.gh e n a=false by unfold Sc.gh Sc.rj;simp;omega];go_enter func111,ntmps111;go_wp2_with (go_at_call 142;refine (HI.out _ _).mono ?_;rintro e1 w1 ⟨rfl,rfl⟩;first | rw [he] | rw [hn])
    go_ret;exact ⟨rfl,B0.out⟩
  ·have C0:bj n=false:=by simpa using hn
   rw [show Sc.gh e n a=false by unfold Sc.gh;simp [C0]];go_enter func111,ntmps111;go_wp2_with (go_at_call 142;refine (HI.out _ _).mono ?_;rintro e1 w1 ⟨rfl,rfl⟩;first | rw [he] | rw [C0])
   go_ret;exact ⟨rfl,B0.out⟩
 ·have DW:bj e=false:=by simpa using he
  rw [show Sc.gh e n a=false by unfold Sc.gh;simp [DW]];go_enter func111,ntmps111;go_wp2_with (go_at_call 142;refine (HI.out _ _).mono ?_;rintro e1 w1 ⟨rfl,rfl⟩;rw [DW])
  go_ret;exact ⟨rfl,B0.out⟩
theorem eh (k n:Int) (hk:0≤k∧k≤255) (w:World):qc 112 #[.int .i64 k,.int .i64 n] w (aX (Sc.mk k n) 9 w):=by
 have hw:IntKind.u8.wrap k=k:=by simp [IntKind.wrap_u8];omega
 have B0:Hid (qw w (w.alloc (.cells #[.int .u8 k] 5))):=qb w _;have H0:Hid (Bs (w.alloc (.cells #[.int .u8 k] 5)) (some ⟨w.heap.size,0,none⟩) 1 [k]):=oI w [k] 1 (0,0) rfl (by omega) (fun x hx=>by simp at hx;omega);have HC:Hid (qc 60 #[.slice (some ⟨w.heap.size,0,none⟩) 1 1,.int .i64 n] (w.alloc (.cells #[.int .u8 k] 5)) (aX (Sc.mk k n) 9 (w.alloc (.cells #[.int .u8 k] 5)))):=by
  have h:=dU [k] n (some ⟨w.heap.size,0,none⟩) 1 1 9 rfl rfl (by omega) _ H0.out;unfold Sc.mk;exact h
 go_enter func112,ntmps112;go_wp2_with (go_at_call 60;refine HC.out.mono ?_;rintro e1 w1 ⟨p1,c1,rfl,HO,HB,HL⟩)
 go_ret;refine ⟨p1,c1,rfl,?_,HB,?_⟩
 ·exact bQ HO.out (by simp)
 ·exact B0.out.trans (HL.out.mono (by simp))
theorem abn {b:List Int} (h:b.length<17):Sc.kd b=0:=by unfold Sc.kd;rw [if_pos h]
theorem lI {b:List Int} (h:¬ b.length<17):Sc.kd b=if Sc.fv (b.getD 0 0) then b.getD 0 0 else 0:=by unfold Sc.kd;rw [if_neg h]
theorem lV (b:List Int) (p:Option Addr) (n c:Nat) (hn:b.length=n) (w:World) (hp:Bs w p c b) :
  qc 126 #[.slice p n c] w fun r w'=>r = .returned (.int .i64 (Sc.kd b))∧w'=w:=by
 have HI:Hid (∀ y x,qc 110 #[.int .i64 y] x fun r x'=>r = .returned (.bool (Sc.fv y))∧x'=x):=fun y x=>dA y x;by_cases h0:(n:Int)<17
 ·rw [abn (by omega)];go_enter func126,ntmps126;go_wp2;go_ret;exact ⟨rfl,rfl⟩
 ·rw [lI (by omega)];obtain ⟨ab,ao,rfl,hc⟩:=hp.bat.2 (by omega);have Dx:=hc 0 (by omega);rw [Nat.add_zero] at Dx;have hb:=ai.aW hp.bat.1 0;generalize b.getD 0 0=x0 at *;have Jd:(0:Int)<(n:Int):=by omega
  have hw:IntKind.i64.wrap x0=x0:=IntWalk.i64_in _ ⟨by omega,by omega⟩;clear hc hb hn hp;cases hq:Sc.fv x0 with
  | true =>
   rw [if_pos rfl];go_enter func126,ntmps126;go_wp2_with (go_at_call 110;refine (HI.out _ _).mono ?_;rintro e1 w1 ⟨rfl,rfl⟩;rw [hq])
   go_ret;exact ⟨rfl,rfl⟩
  | false =>
   rw [if_neg (by simp)];go_enter func126,ntmps126;go_wp2_with (go_at_call 110;refine (HI.out _ _).mono ?_;rintro e1 w1 ⟨rfl,rfl⟩;rw [hq])
   go_ret;exact ⟨rfl,rfl⟩
end
section
open Go.RowKit
section
variable {P:Program}
theorem results_cell_tmp {fn:Func} {p u:Tmp} {ty:TypeId} (h:fn.results = #[.cell p ty,.tmp u]) (tmps:Array Value) (w:World) (g:Nat) (t:TypeId) (cs:Array Value) (fr:Nat × Nat) (d:TypeDesc)
  (hp:tmps.getD p undef = qp g) (hg:w.heap[g]?=some (.cells cs t fr))
  (hu:P.underlying ty=some d) (hd:(match d with | .struct _ | .array _ _=>true | _=>false)=true) (hi:(P.info? ty).map (·.size)=some cs.size) :
  (results fn tmps).run P w = .ok (.tuple #[.agg cs,tmps.getD u undef]) w:=by
 have Pm:tmps[p]?.getD undef = qp g:=by simpa using hp
 simp [results,h,Pm,asAddr,run_loadVar_row w g t ty cs fr d hg hu hd hi]
end
theorem sset {w:World} {g:Nat} {k e n a k' e' n' a':Int} {p p':Option Addr} {m c m' c':Nat} (h:w.heap[g]?=some (SO k e n a p m c)) :
  (((((w.setCell ⟨g,0,none⟩ (.int .i64 k')).setCell ⟨g,1,none⟩ (.int .i64 e')).setCell ⟨g,2,none⟩ (.int .i64 n')).setCell ⟨g,3,none⟩ (.int .i64 a')).setCell ⟨g,4,none⟩ (.slice p' m' c')).heap[g]?=some (SO k' e' n' a' p' m' c') :=
 eC g 98 [.int .i64 k',.int .i64 e',.int .i64 n',.int .i64 a',.slice p' m' c'] 0 [.int .i64 k,.int .i64 e,.int .i64 n,.int .i64 a,.slice p m c] w h (by simp)
theorem eE (w:World) (g:Nat) (v0 v1 v2 v3 v4:Value):bJ g w (((((w.setCell ⟨g,0,none⟩ v0).setCell ⟨g,1,none⟩ v1).setCell ⟨g,2,none⟩ v2).setCell ⟨g,3,none⟩ v3).setCell ⟨g,4,none⟩ v4) :=
 ((((bJ.setCell w ⟨g,0,none⟩ v0).trans (bJ.setCell _ ⟨g,1,none⟩ v1)).trans (bJ.setCell _ ⟨g,2,none⟩ v2)).trans (bJ.setCell _ ⟨g,3,none⟩ v3)).trans (bJ.setCell _ ⟨g,4,none⟩ v4)
theorem ssize:(prog.info? 98).map (·.size)=some 5:=by kernel_rfl
namespace Sc
def ep (b:List Int):Int:=Pk.vi (Pk.nx 1 b)
def nu (b:List Int):Int:=Pk.vi (Pk.nx 8 (Pk.nx 1 b))
def k0 (b:List Int):Int:=Pk.vb b
attribute [irreducible] ep nu k0
end Sc
theorem ib (a:Int) (b:List Int) (p:Option Addr) (c:Nat) (hb:b.length=17) (w:World) (hp:Bs w p c b) :
  qc 127 #[.int .i64 a,.slice p 17 c] w fun r w'=>r = .returned (SV (Sc.k0 b) (Sc.ep b) (Sc.nu b) a none 0 0)∧qw w w':=by
 have B0:Hid (qw w (w.alloc (SO 0 0 0 0 none 0 0))):=qb w _;have S0:Hid ((w.alloc (SO 0 0 0 0 none 0 0)).heap[w.heap.size]?=some (SO 0 0 0 0 none 0 0)):=heap_alloc_new w _;have P0:Hid (Bs (w.alloc (SO 0 0 0 0 none 0 0)) p c b):=hp.av B0.out;have L0:Hid (b.length=17):=hb;have GP:0≤Sc.k0 b∧Sc.k0 b≤255:=by unfold Sc.k0 Pk.vb;exact ai.aW hp.bat.1 0
 have FG:IntKind.i64.wrap (Sc.k0 b)=Sc.k0 b:=IntWalk.i64_in _ ⟨by omega,by omega⟩;have L1:Hid ((Pk.nx 1 b).length≤17):=by show _≤_;have:=Pk.vB 1 b;omega
 have L2:Hid ((Pk.nx 8 (Pk.nx 1 b)).length≤17):=by show _≤_;have:=Pk.vB 8 (Pk.nx 1 b);have:=L1.out;omega
 have E0:Hid (Sc.k0 b=Pk.vb b):=by show _=_;unfold Sc.k0;rfl
 have E1:Hid (Sc.ep b=Pk.vi (Pk.nx 1 b)):=by show _=_;unfold Sc.ep;rfl
 have E2:Hid (Sc.nu b=Pk.vi (Pk.nx 8 (Pk.nx 1 b))):=by show _=_;unfold Sc.nu;rfl
 generalize Sc.k0 b=k0 at *;generalize Sc.ep b=e0 at *;generalize Sc.nu b=n0 at *;clear hp hb GP;go_enter func127,ntmps127;go_upto_region 1 with (fail)
 change Code.wp _ _ _ _ (w.alloc (SO 0 0 0 0 none 0 0));obtain ⟨w0,Ah⟩:∃ x,x=w.alloc (SO 0 0 0 0 none 0 0):=⟨_,rfl⟩;rw [← Ah] at B0 S0 P0 ⊢;clear Ah;go_upto_region 2 with (go_at_call 101;refine (rH b p 17 c L0.out (by omega) _ P0.out).mono ?_;rintro e1 w1 ⟨g,D,rfl,R1,G1,b1⟩)
 have S1:Hid (w1.heap[w.heap.size]?=some (SO 0 0 0 0 none 0 0)):=(b1.out.block _ (lt_of_block S0.out)).trans S0.out;have NE:Hid (w.heap.size ≠ g):=by have:=lt_of_block S0.out;have:=G1.out.1;show _ ≠ _;omega
 have TK:Hid (0=0):=rfl;go_wp2_with (first
  | (go_at_call 156;refine (yK b false g D 17 L0.out (by omega) _ R1.out).mono ?_;rintro e2 w2 ⟨rfl,R2,O2⟩;rw [← E0.out])
  | (go_at_call 102;have TT:=TK.out;clear TK;refine (dJ (Pk.nx 1 b) _ g D _ rfl (by have:=L1.out;omega) _ R2.out).mono ?_;rintro e3 w3 ⟨rfl,R3,O3⟩;rw [← E1.out])
  | (go_at_call 102;refine (dJ (Pk.nx 8 (Pk.nx 1 b)) _ g D _ rfl (by have:=L2.out;omega) _ R3.out).mono ?_;rintro e4 w4 ⟨rfl,R4,O4⟩;rw [← E2.out];have O5:Hid (aE g w1 w4):=(O2.out.trans O3.out).trans O4.out;have S4:Hid (w4.heap[w.heap.size]?=some (SO 0 0 0 0 none 0 0)):=(O5.out.block _ (lt_of_block S1.out) NE.out).trans S1.out;have f0:=frozen_of_row w4 w.heap.size 0 _ _ S4.out;have f1:=frozen_of_row w4 w.heap.size 1 _ _ S4.out;have f2:=frozen_of_row w4 w.heap.size 2 _ _ S4.out;have f3:=frozen_of_row w4 w.heap.size 3 _ _ S4.out;have f4:=frozen_of_row w4 w.heap.size 4 _ _ S4.out;obtain ⟨d0,d1,d2,d3,d4⟩:=(⟨cA.c0 ⟨S4.out⟩,cA.c1 ⟨S4.out⟩,cA.c2 ⟨S4.out⟩,cA.c3 ⟨S4.out⟩,cA.c4 ⟨S4.out⟩⟩:_∧_∧_∧_∧_)))
 have S5:=sset (k':=k0) (e':=e0) (n':=n0) (a':=a) (p':=none) (m':=0) (c':=0) S4.out;refine bodyPost_ret (results_cell_row rfl _ _ w.heap.size 98 _ (0,0) _ rfl S5 underlying98 rfl (by rw [ssize];rfl)) rfl ⟨rfl,?_⟩;have Ag:qw w w1:=B0.out.trans (b1.out.mono B0.out.size);have AJ:qw w w4:=O5.out.below Ag (by have:=G1.out.1;have:=B0.out.size;omega) Ag.size;exact (eE _ _ _ _ _ _ _).below AJ qn
end
end Go.Proofs.YthgjfjmampmiiaaGreatDoor

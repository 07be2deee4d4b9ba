/-
  ScA, ScB (merged)
-/
import Derived.Test.YtnnalemboeccbaaGreatDoorSe5
import Derived.Test.YtnnalemboeccbaaGreatDoorNa2
import Derived.Test.YtnnalemboeccbaaGreatDoorPa1
namespace Go.Proofs.YtnnalemboeccbaaGreatDoor

/-! ScA:  -/
section
open Go.RowKit
theorem own_baseS {w:World} {B B' n s:Nat} {e:TypeId} {v:Value} {xs:List Value} (h:w.ownsRow B' e s v n xs) (hb:B≤B'):w.ownsRow B e s v n xs:=by
 refine ⟨h.1,?_⟩
 rcases h.2 with h1 | ⟨g,cap,cur,h1,h2,h3⟩
 ·exact Or.inl h1
 ·exact Or.inr ⟨g,cap,cur,h1,Nat.le_trans hb h2,h3⟩
namespace Sc
def isK (k:Int):Bool:=decide (1≤k∧k≤5)
def inA (a:Int):Bool:=decide (0≤a∧a<4096)
def inP (e n a:Int):Bool:=inR e&&(inR n&&inA a)
def mk (k n:Int):List Int:=k :: Pk.e8 n 8
def fr (k e n:Int):List Int:=mk k e++Pk.e8 n 8
theorem isK_iff {k:Int}:isK k=true↔1≤k∧k≤5:=by unfold isK;simp
theorem inA_iff {a:Int}:inA a=true↔0≤a∧a<4096:=by unfold inA;simp
theorem inP_iff {e n a:Int}:inP e n a=true↔(0≤e∧e≤1099511627776)∧(0≤n∧n≤1099511627776)∧0≤a∧a<4096:=by
 unfold inP inA inR;simp only [Bool.and_eq_true,decide_eq_true_eq]
theorem mk_len (k n:Int):(mk k n).length=9:=by unfold mk;rw [List.length_cons,Pk.e8_len]
theorem fr_len (k e n:Int):(fr k e n).length=17:=by unfold fr;rw [List.length_append,mk_len,Pk.e8_len]
theorem mk_byt {k:Int} (h:0≤k∧k≤255) (n:Int):Sha.Byt (mk k n):=fun x hx=>by
 unfold mk at hx
 rcases List.mem_cons.1 hx with rfl | h2
 ·exact h
 ·exact Pk.e8_byt _ _ x h2
theorem fr_byt {k:Int} (h:0≤k∧k≤255) (e n:Int):Sha.Byt (fr k e n):=Sha.byt_append (mk_byt h e) (Pk.e8_byt _ _)
def kd (b:List Int):Int:=if b.length<17 then 0 else if isK (b.getD 0 0) then b.getD 0 0 else 0
attribute [irreducible] isK inA inP mk fr kd
end Sc
set_option maxRecDepth 100000 in
theorem iskind_any (k:Int) (w:World):Calls Tryz.prog 125 #[.int .i64 k] w fun e w'=>e = .returned (.bool (Sc.isK k))∧w'=w:=by
 by_cases h0:k≥1
 ·by_cases h1:k≤5
  ·rw [Sc.isK_iff.2 ⟨h0,h1⟩]
   go_enter Tryz.func125,Tryz.ntmps125
   go_wp2
   go_ret
   exact ⟨rfl,rfl⟩
  ·rw [show Sc.isK k=false by rw [← Bool.not_eq_true,Sc.isK_iff];omega]
   go_enter Tryz.func125,Tryz.ntmps125
   go_wp2
   go_ret
   exact ⟨rfl,rfl⟩
 ·rw [show Sc.isK k=false by rw [← Bool.not_eq_true,Sc.isK_iff];omega]
  go_enter Tryz.func125,Tryz.ntmps125
  go_wp2
  go_ret
  exact ⟨rfl,rfl⟩
set_option maxRecDepth 100000 in
theorem isnumber_any (n:Int) (w:World):Calls Tryz.prog 164 #[.int .i64 n] w fun e w'=>e = .returned (.bool (inR n))∧w'=w:=by
 by_cases h0:n≥0
 ·by_cases h1:n≤1099511627776
  ·rw [show inR n=true by unfold inR;simp [h1];omega]
   go_enter Tryz.func164,Tryz.ntmps164
   go_wp2
   go_ret
   exact ⟨rfl,rfl⟩
  ·rw [show inR n=false by unfold inR;simp [h1]]
   go_enter Tryz.func164,Tryz.ntmps164
   go_wp2
   go_ret
   exact ⟨rfl,rfl⟩
 ·rw [show inR n=false by unfold inR;simp;omega]
  go_enter Tryz.func164,Tryz.ntmps164
  go_wp2
  go_ret
  exact ⟨rfl,rfl⟩
abbrev SV (k e n a:Int) (p:Option Addr) (m c:Nat):Value:=.agg #[.int .i64 k,.int .i64 e,.int .i64 n,.int .i64 a,.slice p m c]
def SO (k e n a:Int) (p:Option Addr) (m c:Nat):Obj:=.cells #[.int .i64 k,.int .i64 e,.int .i64 n,.int .i64 a,.slice p m c] 110
structure SAt (w:World) (g:Nat) (k e n a:Int) (p:Option Addr) (m c:Nat):Prop where
 row:w.heap[g]?=some (SO k e n a p m c)
section
variable {w x:World} {g:Nat} {k e n a:Int} {p:Option Addr} {m c:Nat}
theorem SAt.c0 (h:SAt w g k e n a p m c):w.cell? ⟨g,0,none⟩=some (.int .i64 k):=by rw [cell_of_row w g 0 _ _ _ h.row];rfl
theorem SAt.c1 (h:SAt w g k e n a p m c):w.cell? ⟨g,1,none⟩=some (.int .i64 e):=by rw [cell_of_row w g 1 _ _ _ h.row];rfl
theorem SAt.c2 (h:SAt w g k e n a p m c):w.cell? ⟨g,2,none⟩=some (.int .i64 n):=by rw [cell_of_row w g 2 _ _ _ h.row];rfl
theorem SAt.c3 (h:SAt w g k e n a p m c):w.cell? ⟨g,3,none⟩=some (.int .i64 a):=by rw [cell_of_row w g 3 _ _ _ h.row];rfl
theorem SAt.c4 (h:SAt w g k e n a p m c):w.cell? ⟨g,4,none⟩=some (.slice p m c):=by rw [cell_of_row w g 4 _ _ _ h.row];rfl
theorem SAt.lt (h:SAt w g k e n a p m c):g<w.heap.size:=(Array.getElem?_eq_some_iff.1 h.row).1
theorem SAt.old (h:SAt w g k e n a p m c) (hb:Below w.heap.size w x):SAt x g k e n a p m c:=⟨(hb.block _ h.lt).trans h.row⟩
theorem SAt.new (w:World) (k e n a:Int) (p:Option Addr) (m c:Nat):SAt (w.alloc (SO k e n a p m c)) w.heap.size k e n a p m c:=⟨heap_alloc_new w _⟩
end
set_option maxHeartbeats 1000000 in
set_option maxRecDepth 100000 in
theorem inplace_any (k e n a:Int) (p:Option Addr) (m c:Nat) (w:World):Calls Tryz.prog 126 #[SV k e n a p m c] w fun r w'=>r = .returned (.bool (Sc.inP e n a))∧Below w.heap.size w w':=by
 have HI:Hid (∀ y x,Calls Tryz.prog 164 #[.int .i64 y] x fun r x'=>r = .returned (.bool (inR y))∧x'=x):=fun y x=>isnumber_any y x
 have B0:Hid (Below w.heap.size w (w.alloc (SO k e n a p m c))):=(Below.refl _ w).alloc (Nat.le_refl _) _
 have S0:Hid (SAt (w.alloc (SO k e n a p m c)) w.heap.size k e n a p m c):=SAt.new w _ _ _ _ _ _ _
 by_cases he:inR e=true
 ·by_cases hn:inR n=true
  ·by_cases ha:a≥0
   ·by_cases ha2:a<4096
    ·rw [show Sc.inP e n a=true by unfold Sc.inP Sc.inA;simp [he,hn,ha2];omega]
     go_enter Tryz.func126,Tryz.ntmps126
     go_wp2_with (go_at_call 164;refine (HI.out _ _).mono ?_;rintro e1 w1 ⟨rfl,rfl⟩;first | rw [he] | rw [hn])
     go_ret
     exact ⟨rfl,B0.out⟩
    ·rw [show Sc.inP e n a=false by unfold Sc.inP Sc.inA;simp [ha2]]
     go_enter Tryz.func126,Tryz.ntmps126
     go_wp2_with (go_at_call 164;refine (HI.out _ _).mono ?_;rintro e1 w1 ⟨rfl,rfl⟩;first | rw [he] | rw [hn])
     go_ret
     refine ⟨?_,B0.out⟩
     show Ending.returned (Value.bool (decide (a<4096)))=_
     rw [decide_eq_false (by omega)]
   ·rw [show Sc.inP e n a=false by unfold Sc.inP Sc.inA;simp;omega]
    go_enter Tryz.func126,Tryz.ntmps126
    go_wp2_with (go_at_call 164;refine (HI.out _ _).mono ?_;rintro e1 w1 ⟨rfl,rfl⟩;first | rw [he] | rw [hn])
    go_ret
    exact ⟨rfl,B0.out⟩
  ·have hn2:inR n=false:=by simpa using hn
   rw [show Sc.inP e n a=false by unfold Sc.inP;simp [hn2]]
   go_enter Tryz.func126,Tryz.ntmps126
   go_wp2_with (go_at_call 164;refine (HI.out _ _).mono ?_;rintro e1 w1 ⟨rfl,rfl⟩;first | rw [he] | rw [hn2])
   go_ret
   exact ⟨rfl,B0.out⟩
 ·have he2:inR e=false:=by simpa using he
  rw [show Sc.inP e n a=false by unfold Sc.inP;simp [he2]]
  go_enter Tryz.func126,Tryz.ntmps126
  go_wp2_with (go_at_call 164;refine (HI.out _ _).mono ?_;rintro e1 w1 ⟨rfl,rfl⟩;rw [he2])
  go_ret
  exact ⟨rfl,B0.out⟩
set_option maxRecDepth 100000 in
theorem marked_any (k n:Int) (hk:0≤k∧k≤255) (w:World):Calls Tryz.prog 127 #[.int .i64 k,.int .i64 n] w (RowOf (Sc.mk k n) 9 w):=by
 have hw:IntKind.u8.wrap k=k:=by simp [IntKind.wrap_u8];omega
 have B0:Hid (Below w.heap.size w (w.alloc (.cells #[.int .u8 k] 5))):=(Below.refl _ w).alloc (Nat.le_refl _) _
 have H0:Hid (Bs (w.alloc (.cells #[.int .u8 k] 5)) (some ⟨w.heap.size,0,none⟩) 1 [k]):=lit_one w [k] 1 (0,0) rfl (by omega) (fun x hx=>by simp at hx;omega)
 have HC:Hid (Calls Tryz.prog 68 #[.slice (some ⟨w.heap.size,0,none⟩) 1 1,.int .i64 n] (w.alloc (.cells #[.int .u8 k] 5)) (RowOf (Sc.mk k n) 9 (w.alloc (.cells #[.int .u8 k] 5)))):=by
  have h:=int_any [k] n (some ⟨w.heap.size,0,none⟩) 1 1 9 rfl rfl (by omega) _ H0.out
  unfold Sc.mk
  exact h
 go_enter Tryz.func127,Tryz.ntmps127
 go_wp2_with (go_at_call 68;refine HC.out.mono ?_;rintro e1 w1 ⟨p1,c1,rfl,HO,HB,HL⟩)
 go_ret
 refine ⟨p1,c1,rfl,?_,HB,?_⟩
 ·exact own_baseS HO.out (by simp)
 ·exact B0.out.trans (HL.out.mono (by simp))
theorem kd_short {b:List Int} (h:b.length<17):Sc.kd b=0:=by unfold Sc.kd;rw [if_pos h]
theorem kd_long {b:List Int} (h:¬ b.length<17):Sc.kd b=if Sc.isK (b.getD 0 0) then b.getD 0 0 else 0:=by unfold Sc.kd;rw [if_neg h]
set_option maxHeartbeats 1000000 in
set_option maxRecDepth 100000 in
theorem kind_any (b:List Int) (p:Option Addr) (n c:Nat) (hn:b.length=n) (w:World) (hp:Bs w p c b) :
  Calls Tryz.prog 145 #[.slice p n c] w fun r w'=>r = .returned (.int .i64 (Sc.kd b))∧w'=w:=by
 have HI:Hid (∀ y x,Calls Tryz.prog 125 #[.int .i64 y] x fun r x'=>r = .returned (.bool (Sc.isK y))∧x'=x):=fun y x=>iskind_any y x
 by_cases h0:(n:Int)<17
 ·rw [kd_short (by omega)]
  go_enter Tryz.func145,Tryz.ntmps145
  go_wp2
  go_ret
  exact ⟨rfl,rfl⟩
 ·rw [kd_long (by omega)]
  obtain ⟨ab,ao,rfl,hc⟩:=hp.bat.2 (by omega)
  have hc0:=hc 0 (by omega)
  rw [Nat.add_zero] at hc0
  have hb:=Sha.byt_getD hp.bat.1 0
  generalize b.getD 0 0=x0 at *
  have hn1:(0:Int)<(n:Int):=by omega
  have hw:IntKind.i64.wrap x0=x0:=IntWalk.i64_in _ ⟨by omega,by omega⟩
  clear hc hb hn hp
  cases hq:Sc.isK x0 with
  | true =>
   rw [if_pos rfl]
   go_enter Tryz.func145,Tryz.ntmps145
   go_wp2_with (go_at_call 125;refine (HI.out _ _).mono ?_;rintro e1 w1 ⟨rfl,rfl⟩;rw [hq])
   go_ret
   exact ⟨rfl,rfl⟩
  | false =>
   rw [if_neg (by simp)]
   go_enter Tryz.func145,Tryz.ntmps145
   go_wp2_with (go_at_call 125;refine (HI.out _ _).mono ?_;rintro e1 w1 ⟨rfl,rfl⟩;rw [hq])
   go_ret
   exact ⟨rfl,rfl⟩
end

/-! ScB:  -/
section
open Go.RowKit
section
variable {P:Program}
theorem results_cell_tmp {fn:Func} {p u:Tmp} {ty:TypeId} (h:fn.results = #[.cell p ty,.tmp u]) (tmps:Array Value) (w:World) (g:Nat) (t:TypeId) (cs:Array Value) (fr:Nat × Nat) (d:TypeDesc)
  (hp:tmps.getD p undef = .pointer (some ⟨g,0,none⟩)) (hg:w.heap[g]?=some (.cells cs t fr))
  (hu:P.underlying ty=some d) (hd:(match d with | .struct _ | .array _ _=>true | _=>false)=true) (hi:(P.info? ty).map (·.size)=some cs.size) :
  (results fn tmps).run P w = .ok (.tuple #[.agg cs,tmps.getD u undef]) w:=by
 have hp':tmps[p]?.getD undef = .pointer (some ⟨g,0,none⟩):=by simpa using hp
 simp [results,h,hp',asAddr,run_loadVar_row w g t ty cs fr d hg hu hd hi]
end
theorem sset {w:World} {g:Nat} {k e n a k' e' n' a':Int} {p p':Option Addr} {m c m' c':Nat} (h:w.heap[g]?=some (SO k e n a p m c)) :
  (((((w.setCell ⟨g,0,none⟩ (.int .i64 k')).setCell ⟨g,1,none⟩ (.int .i64 e')).setCell ⟨g,2,none⟩ (.int .i64 n')).setCell ⟨g,3,none⟩ (.int .i64 a')).setCell ⟨g,4,none⟩ (.slice p' m' c')).heap[g]?=some (SO k' e' n' a' p' m' c') :=
 heap_setCells g 110 [.int .i64 k',.int .i64 e',.int .i64 n',.int .i64 a',.slice p' m' c'] 0 [.int .i64 k,.int .i64 e,.int .i64 n,.int .i64 a,.slice p m c] w h (by simp)
theorem sset_chg (w:World) (g:Nat) (v0 v1 v2 v3 v4:Value):Chg g w (((((w.setCell ⟨g,0,none⟩ v0).setCell ⟨g,1,none⟩ v1).setCell ⟨g,2,none⟩ v2).setCell ⟨g,3,none⟩ v3).setCell ⟨g,4,none⟩ v4) :=
 ((((Chg.setCell w ⟨g,0,none⟩ v0).trans (Chg.setCell _ ⟨g,1,none⟩ v1)).trans (Chg.setCell _ ⟨g,2,none⟩ v2)).trans (Chg.setCell _ ⟨g,3,none⟩ v3)).trans (Chg.setCell _ ⟨g,4,none⟩ v4)
theorem ssize:(Tryz.prog.info? 110).map (·.size)=some 5:=by kernel_rfl
namespace Sc
def ep (b:List Int):Int:=Pk.vi (Pk.nx 1 b)
def nu (b:List Int):Int:=Pk.vi (Pk.nx 8 (Pk.nx 1 b))
def k0 (b:List Int):Int:=Pk.vb b
attribute [irreducible] ep nu k0
end Sc
set_option maxHeartbeats 1000000 in
set_option maxRecDepth 100000 in
theorem claimed_any (a:Int) (b:List Int) (p:Option Addr) (c:Nat) (hb:b.length=17) (w:World) (hp:Bs w p c b) :
  Calls Tryz.prog 146 #[.int .i64 a,.slice p 17 c] w fun r w'=>r = .returned (SV (Sc.k0 b) (Sc.ep b) (Sc.nu b) a none 0 0)∧Below w.heap.size w w':=by
 have B0:Hid (Below w.heap.size w (w.alloc (SO 0 0 0 0 none 0 0))):=(Below.refl _ w).alloc (Nat.le_refl _) _
 have S0:Hid ((w.alloc (SO 0 0 0 0 none 0 0)).heap[w.heap.size]?=some (SO 0 0 0 0 none 0 0)):=heap_alloc_new w _
 have P0:Hid (Bs (w.alloc (SO 0 0 0 0 none 0 0)) p c b):=hp.old B0.out
 have L0:Hid (b.length=17):=hb
 have hk0:0≤Sc.k0 b∧Sc.k0 b≤255:=by unfold Sc.k0 Pk.vb;exact Sha.byt_getD hp.bat.1 0
 have hw8:IntKind.i64.wrap (Sc.k0 b)=Sc.k0 b:=IntWalk.i64_in _ ⟨by omega,by omega⟩
 have L1:Hid ((Pk.nx 1 b).length≤17):=by show _≤_;have:=Pk.nx_le 1 b;omega
 have L2:Hid ((Pk.nx 8 (Pk.nx 1 b)).length≤17):=by show _≤_;have:=Pk.nx_le 8 (Pk.nx 1 b);have:=L1.out;omega
 have E0:Hid (Sc.k0 b=Pk.vb b):=by show _=_;unfold Sc.k0;rfl
 have E1:Hid (Sc.ep b=Pk.vi (Pk.nx 1 b)):=by show _=_;unfold Sc.ep;rfl
 have E2:Hid (Sc.nu b=Pk.vi (Pk.nx 8 (Pk.nx 1 b))):=by show _=_;unfold Sc.nu;rfl
 generalize Sc.k0 b=k0 at *
 generalize Sc.ep b=e0 at *
 generalize Sc.nu b=n0 at *
 clear hp hb hk0
 go_enter Tryz.func146,Tryz.ntmps146
 go_upto_region 1 with (fail)
 change Code.wp _ _ _ _ (w.alloc (SO 0 0 0 0 none 0 0))
 obtain ⟨w0,hw0⟩:∃ x,x=w.alloc (SO 0 0 0 0 none 0 0):=⟨_,rfl⟩
 rw [← hw0] at B0 S0 P0 ⊢
 clear hw0
 go_upto_region 2 with (go_at_call 115;refine (read_any b p 17 c L0.out (by omega) _ P0.out).mono ?_;rintro e1 w1 ⟨g,D,rfl,R1,G1,b1⟩)
 have S1:Hid (w1.heap[w.heap.size]?=some (SO 0 0 0 0 none 0 0)):=(b1.out.block _ (lt_of_block S0.out)).trans S0.out
 have NE:Hid (w.heap.size ≠ g):=by have:=lt_of_block S0.out;have:=G1.out.1;show _ ≠ _;omega
 have TK:Hid (0=0):=rfl
 go_wp2_with (first
  | (go_at_call 180;refine (rbyte_any b false g D 17 L0.out (by omega) _ R1.out).mono ?_;rintro e2 w2 ⟨rfl,R2,O2⟩;rw [← E0.out])
  | (go_at_call 116;have TT:=TK.out;clear TK;refine (rint_any (Pk.nx 1 b) _ g D _ rfl (by have:=L1.out;omega) _ R2.out).mono ?_;rintro e3 w3 ⟨rfl,R3,O3⟩;rw [← E1.out])
  | (go_at_call 116;refine (rint_any (Pk.nx 8 (Pk.nx 1 b)) _ g D _ rfl (by have:=L2.out;omega) _ R3.out).mono ?_;rintro e4 w4 ⟨rfl,R4,O4⟩;rw [← E2.out];have O5:Hid (Only g w1 w4):=(O2.out.trans O3.out).trans O4.out;have S4:Hid (w4.heap[w.heap.size]?=some (SO 0 0 0 0 none 0 0)):=(O5.out.block _ (lt_of_block S1.out) NE.out).trans S1.out;have f0:=frozen_of_row w4 w.heap.size 0 _ _ S4.out;have f1:=frozen_of_row w4 w.heap.size 1 _ _ S4.out;have f2:=frozen_of_row w4 w.heap.size 2 _ _ S4.out;have f3:=frozen_of_row w4 w.heap.size 3 _ _ S4.out;have f4:=frozen_of_row w4 w.heap.size 4 _ _ S4.out;obtain ⟨d0,d1,d2,d3,d4⟩:=(⟨SAt.c0 ⟨S4.out⟩,SAt.c1 ⟨S4.out⟩,SAt.c2 ⟨S4.out⟩,SAt.c3 ⟨S4.out⟩,SAt.c4 ⟨S4.out⟩⟩:_∧_∧_∧_∧_)))
 have S5:=sset (k':=k0) (e':=e0) (n':=n0) (a':=a) (p':=none) (m':=0) (c':=0) S4.out
 refine bodyPost_ret (results_cell_row rfl _ _ w.heap.size 110 _ (0,0) _ rfl S5 Tryz.underlying110 rfl (by rw [ssize];rfl)) rfl ⟨rfl,?_⟩
 have hb1:Below w.heap.size w w1:=B0.out.trans (b1.out.mono B0.out.size)
 have hb4:Below w.heap.size w w4:=O5.out.below hb1 (by have:=G1.out.1;have:=B0.out.size;omega) hb1.size
 exact (sset_chg _ _ _ _ _ _ _).below hb4 (Nat.le_refl _)
end
end Go.Proofs.YtnnalemboeccbaaGreatDoor

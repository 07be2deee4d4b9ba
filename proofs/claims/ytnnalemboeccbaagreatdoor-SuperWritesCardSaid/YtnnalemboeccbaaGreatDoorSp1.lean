/-
  SpA, SpB, SpRo (merged)
-/
import Derived.Test.YtnnalemboeccbaaGreatDoorGe1
import Derived.Test.YtnnalemboeccbaaGreatDoorRg1
import Derived.Test.YtnnalemboeccbaaGreatDoorPa2
import Derived.Great.BuildSlice
namespace Go.Proofs.YtnnalemboeccbaaGreatDoor

/-! SpA:  -/
section
open Go.RowKit
namespace Sp
structure G where
 a:Int
 b:Int
 c:Int
deriving DecidableEq
def zero:G:=⟨0,0,0⟩
structure Ok (g:G):Prop where
 a:Pk.In64 g.a
 b:Pk.In64 g.b
 c:Pk.In64 g.c
theorem ok_zero:Ok zero:=⟨Rg.in0,Rg.in0,Rg.in0⟩
def ck (g:G):Int:=Ge.ck g.a g.b g.c
theorem ck_or (g:G):ck g=0∨ck g=15:=by unfold ck Ge.ck;split<;>simp
def p1 (g:G):List Int:=Pk.e8 g.a 8
def p2 (g:G):List Int:=p1 g++Pk.e8 g.b 8
def pt (g:G):List Int:=p2 g++Pk.e8 g.c 8
theorem p1_len (g:G):(p1 g).length=8:=Pk.e8_len _ _
theorem p2_len (g:G):(p2 g).length=16:=by unfold p2;rw [List.length_append,p1_len,Pk.e8_len]
theorem pt_len (g:G):(pt g).length=24:=by unfold pt;rw [List.length_append,p2_len,Pk.e8_len]
def rs (L:List Int):Nat→List Int
 | 0=>L
 | k+1=>Pk.nx 8 (rs L k)
def bd (L:List Int):Nat→Bool
 | 0=>false
 | k+1=>Pk.nb 8 (rs L k) (bd L k)
def gc (L:List Int):G:=⟨Pk.vi (rs L 0),Pk.vi (rs L 1),Pk.vi (rs L 2)⟩
def en (L:List Int):Int:=Pk.en (rs L 3) (bd L 3)
def er (L:List Int):Int:=if en L ≠ 0 then en L else ck (gc L)
def gt (L:List Int):G:=if er L=0 then gc L else zero
theorem rs_le (L:List Int):∀ k,(rs L k).length≤L.length
 | 0=>Nat.le_refl _
 | k+1=>Nat.le_trans (Pk.nx_le _ _) (rs_le L k)
theorem gc_ok (L:List Int):Ok (gc L):=⟨Rg.vi_in _,Rg.vi_in _,Rg.vi_in _⟩
theorem gt_ok (L:List Int):Ok (gt L):=by
 unfold gt
 split
 ·exact gc_ok L
 ·exact ok_zero
theorem rs_eq (L:List Int):∀ k,rs L k=(if L.length<8*k then [] else L.drop (8*k))∧bd L k=decide (L.length<8*k)
 | 0=>by
  rw [show 8*0=0 from rfl,if_neg (by omega),List.drop_zero]
  exact ⟨rfl,by rw [decide_eq_false (by omega)];rfl⟩
 | k+1=>by
  obtain ⟨h1,h2⟩:=rs_eq L k
  rw [rs,bd,h1,h2,show 8*(k+1)=8*k+8 from rfl]
  unfold Pk.nx Pk.nb
  by_cases h:L.length<8*k
  ·have h3:L.length<8*k+8:=by omega
   rw [if_pos h,if_pos h3,decide_eq_true h,decide_eq_true h3]
   constructor
   ·split<;>simp
   ·split<;>rfl
  ·rw [if_neg h,List.length_drop]
   by_cases h3:L.length<8*k+8
   ·have h4:L.length-8*k<8:=by omega
    simp [h3,h4]
   ·have h4:¬ L.length-8*k<8:=by omega
    rw [if_neg h4,if_neg h4,if_neg h3,List.drop_drop]
    refine ⟨rfl,?_⟩
    rw [decide_eq_false h,decide_eq_false h3]
theorem en_eq (L:List Int):en L=if L.length<24 then 4 else if 24<L.length then 3 else 0:=by
 obtain ⟨h1,h2⟩:=rs_eq L 3
 rw [show 8*3=24 from rfl] at h1 h2
 unfold en
 rw [h1,h2]
 unfold Pk.en
 by_cases h:L.length<24
 ·simp [h]
 ·rw [if_neg h,if_neg h,decide_eq_false h]
  by_cases h3:24<L.length
  ·have h4:0<L.length-24:=by omega
   simp [h3,h4]
  ·have h4:¬ 0<L.length-24:=by omega
   simp [h3,h4]
theorem er_short {L:List Int} (h:L.length<24):er L=4:=by
 have e:en L=4:=by rw [en_eq,if_pos h]
 unfold er
 rw [e,if_pos (by decide)]
theorem er_long {L:List Int} (h:24<L.length):er L=3:=by
 have e:en L=3:=by rw [en_eq,if_neg (by omega),if_pos h]
 unfold er
 rw [e,if_pos (by decide)]
theorem er_is {L:List Int} (h:L.length=24):er L=ck (gc L):=by
 have e:en L=0:=by rw [en_eq,if_neg (by omega),if_neg (by omega)]
 unfold er
 rw [e,if_neg (by decide)]
theorem er_len {L:List Int} (h:er L=0):L.length=24:=by
 by_cases h1:L.length<24
 ·rw [er_short h1] at h;cases h
 ·by_cases h2:24<L.length
  ·rw [er_long h2] at h;cases h
  ·omega
theorem er_ck {L:List Int} (h:er L=0):ck (gc L)=0:=by rw [← er_is (er_len h)];exact h
theorem gt_none {L:List Int} (h:er L ≠ 0):gt L=zero:=by unfold gt;rw [if_neg h]
theorem gt_some {L:List Int} (h:er L=0):gt L=gc L:=by unfold gt;rw [if_pos h]
theorem back_gc {g:G} (h:Ok g):gc (pt g)=g:=by
 have hl:=pt_len g
 have e0:rs (pt g) 0=Pk.e8 g.a 8++(Pk.e8 g.b 8++Pk.e8 g.c 8):=by
  rw [show rs (pt g) 0=pt g from rfl]
  unfold pt p2 p1
  rw [List.append_assoc]
 have e1:rs (pt g) 1=Pk.e8 g.b 8++Pk.e8 g.c 8:=by
  rw [(rs_eq _ 1).1,if_neg (by omega),← show rs (pt g) 0=pt g from rfl,e0,List.drop_append_of_le_length (by rw [Pk.e8_len];omega),List.drop_of_length_le (by rw [Pk.e8_len];omega),List.nil_append]
 have e2:rs (pt g) 2=Pk.e8 g.c 8++[]:=by
  rw [(rs_eq _ 2).1,if_neg (by omega)]
  unfold pt
  rw [List.drop_append_of_le_length (by rw [p2_len];omega),List.drop_of_length_le (by rw [p2_len];omega),List.nil_append,List.append_nil]
 unfold gc
 rw [e0,e1,e2,Rg.vi_e8 h.a,Rg.vi_e8 h.b,Rg.vi_e8 h.c]
theorem back {g:G} (h:Ok g) (hc:ck g=0):er (pt g)=0∧gt (pt g)=g:=by
 have h1:er (pt g)=0:=by rw [er_is (pt_len g),back_gc h,hc]
 exact ⟨h1,by rw [gt_some h1,back_gc h]⟩
theorem only {L:List Int} (hb:Sha.Byt L) (h:er L=0):ck (gt L)=0∧pt (gt L)=L:=by
 have hl:=er_len h
 rw [gt_some h]
 refine ⟨er_ck h,?_⟩
 have f:∀ k,k<3→Pk.e8 (Pk.vi (rs L k)) 8=(L.drop (8*k)).take 8:=fun k hk=>by
  have e:rs L k=L.drop (8*k):=by rw [(rs_eq L k).1,if_neg (by omega)]
  rw [e]
  exact Rg.e8_vi (by rw [List.length_drop];omega) (fun x hx=>hb x (List.mem_of_mem_drop hx))
 unfold pt p2 p1 gc
 dsimp only
 rw [f 0 (by omega),f 1 (by omega),f 2 (by omega),show 8*0=0 from rfl,List.drop_zero,show 8*1=8 from rfl,show 8*2=8+8 from rfl,← List.take_add,← List.take_add,List.take_of_length_le (by omega)]
theorem s1 (g:G) : []++Pk.e8 g.a 8=p1 g:=rfl
theorem s2 (g:G):p1 g++Pk.e8 g.b 8=p2 g:=rfl
theorem s3 (g:G):p2 g++Pk.e8 g.c 8=pt g:=rfl
theorem n0 (L:List Int):rs L 1=Pk.nx 8 L∧bd L 1=Pk.nb 8 L false∧(gc L).a=Pk.vi L:=⟨rfl,rfl,rfl⟩
theorem n1 (L:List Int):rs L 2=Pk.nx 8 (rs L 1)∧bd L 2=Pk.nb 8 (rs L 1) (bd L 1)∧(gc L).b=Pk.vi (rs L 1):=⟨rfl,rfl,rfl⟩
theorem n2 (L:List Int):rs L 3=Pk.nx 8 (rs L 2)∧bd L 3=Pk.nb 8 (rs L 2) (bd L 2)∧(gc L).c=Pk.vi (rs L 2):=⟨rfl,rfl,rfl⟩
theorem en_is (L:List Int):Pk.en (rs L 3) (bd L 3)=en L:=rfl
theorem er_en {L:List Int} (h:en L ≠ 0):er L=en L:=by unfold er;rw [if_pos h]
theorem er_ok {L:List Int} (h:en L=0):er L=ck (gc L):=by unfold er;rw [if_neg (by omega)]
theorem zero_is:zero = ⟨0,0,0⟩:=rfl
attribute [irreducible] ck p1 p2 pt rs bd en er gt gc zero
end Sp
end

/-! SpB:  -/
section
open Go.RowKit
def GA (g:Sp.G):Array Value:=#[.int .i64 g.a,.int .i64 g.b,.int .i64 g.c]
def GV (g:Sp.G):Value:=.agg (GA g)
structure GK (g:Sp.G) (A:Array Value):Prop where
 size:A.size=3
 one:A.all (·.oneCell')=true
 at_:∀ (y:World) (b:Nat) (t:TypeId),y.heap[b]?=some (.cells A t (0,0))→y.cell? ⟨b,0,none⟩=some (.int .i64 g.a)∧y.cell? ⟨b,1,none⟩=some (.int .i64 g.b)∧y.cell? ⟨b,2,none⟩=some (.int .i64 g.c)
theorem gk (g:Sp.G):∃ A,GV g = .agg A∧GK g A :=
 ⟨GA g,rfl,rfl,by simp [GA,Value.oneCell'],fun y b t h=>⟨by rw [cell_of_row _ _ _ _ _ _ h];rfl,by rw [cell_of_row _ _ _ _ _ _ h];rfl,by rw [cell_of_row _ _ _ _ _ _ h];rfl⟩⟩
theorem Tryz.sizeGeo:(Tryz.prog.info? 67).map (·.size)=some 3:=by kernel_rfl
theorem Tryz.zeroGeo:(Tryz.prog.info? 67).map (fun i=>(i.zero,i.size))=some (some (.agg (GA ⟨0,0,0⟩)),3):=by kernel_rfl
theorem Tryz.builtGeo:Tryz.prog.built 67 []=some (GA ⟨0,0,0⟩):=by kernel_rfl
theorem build_geo (g:Sp.G):Tryz.prog.built 67 [(0,.int .i64 g.a),(1,.int .i64 g.b),(2,.int .i64 g.c)]=some (GA g):=by kernel_rfl
theorem gcheck_any (g:Sp.G) (w:World):Calls Tryz.prog 124 #[GV g] w (Num (Sp.ck g) w):=by
 unfold Sp.ck
 exact check_any g.a g.b g.c w
def SPutNo (w:World) (e:Ending) (w':World):Prop:=e = .returned (.tuple #[.slice none 0 0,.int .i64 15])∧Hid (Below w.heap.size w w')
def SPutYes (L:List Int) (w:World) (e:Ending) (w':World):Prop :=
 ∃ p c,e = .returned (.tuple #[.slice p 24 c,.int .i64 0])∧Hid (w'.ownsRow w.heap.size 5 1 (.slice p 24 c) 24 (U8s L))∧Hid (Bs w' p c L)∧Hid (Below w.heap.size w w')
set_option maxHeartbeats 1000000 in
set_option maxRecDepth 100000 in
theorem sput_no (g:Sp.G) (hn:Sp.ck g=15) (w:World):Calls Tryz.prog 75 #[GV g] w (SPutNo w):=by
 obtain ⟨A,eA,hk⟩:=gk g
 have HC0:Hid (∀ y,Calls Tryz.prog 124 #[.agg A] y (Num 15 y)):=fun y=>by
  have:=gcheck_any g y
  rw [hn,eA] at this
  exact this
 rw [eA]
 have HAS:=Lib.hid hk.size
 have h1:=hk.one
 have R0:Hid ((w.alloc (.cells A 67)).heap[w.heap.size]?=some (.cells A 67 (0,0))):=heap_alloc_new w _
 have B0:Hid (Below w.heap.size w (w.alloc (.cells A 67))):=(Below.refl _ w).alloc (Nat.le_refl _) _
 clear hk eA hn
 go_enter Tryz.func75,Tryz.ntmps75
 go_wp2_with (first
   | ((with_reducible refine row_load _ _ _ _ _ _ _ ?_ R0.out Tryz.underlying67 ?_ (row_size Tryz.sizeGeo HAS) ?_);(exact rfl);(exact rfl))
   | (go_at_call 124;refine (HC0.out _).mono ?_;rintro e1 w1 ⟨rfl,HB1⟩;have B1:=Lib.hid (B0.out.trans (HB1.mono B0.out.size))))
 go_ret2
 exact ⟨rfl,B1.out⟩
set_option maxHeartbeats 4000000 in
set_option maxRecDepth 100000 in
theorem sput_yes (g:Sp.G) (hn:Sp.ck g=0) (w:World):Calls Tryz.prog 75 #[GV g] w (SPutYes (Sp.pt g) w):=by
 obtain ⟨A,eA,hk⟩:=gk g
 have HC0:Hid (∀ y,Calls Tryz.prog 124 #[.agg A] y (Num 0 y)):=fun y=>by
  have:=gcheck_any g y
  rw [hn,eA] at this
  exact this
 have H0:Hid (∀ y,Calls Tryz.prog 68 #[.slice none 0 0,.int .i64 g.a] y (RowOf (Sp.p1 g) 8 y)):=fun y=>by
  have:=int_any [] g.a none 0 0 8 rfl rfl (by omega) y (bs_none y)
  rw [Sp.s1] at this
  exact this
 have H1:Hid (∀ y q d,Bs y q d (Sp.p1 g)→Calls Tryz.prog 68 #[.slice q 8 d,.int .i64 g.b] y (RowOf (Sp.p2 g) 16 y)):=fun y q d hy=>by
  have:=int_any (Sp.p1 g) g.b q 8 d 16 (Sp.p1_len g) rfl (by omega) y hy
  rw [Sp.s2] at this
  exact this
 have H2:Hid (∀ y q d,Bs y q d (Sp.p2 g)→Calls Tryz.prog 68 #[.slice q 16 d,.int .i64 g.c] y (RowOf (Sp.pt g) 24 y)):=fun y q d hy=>by
  have:=int_any (Sp.p2 g) g.c q 16 d 24 (Sp.p2_len g) rfl (by omega) y hy
  rw [Sp.s3] at this
  exact this
 rw [eA]
 have HAS:=Lib.hid hk.size
 have h1:=hk.one
 have HX:=Lib.hid hk.at_
 obtain ⟨w0,hw0⟩:∃ x,x=w.alloc (.cells A 67):=⟨_,rfl⟩
 have R0:Hid (w0.heap[w.heap.size]?=some (.cells A 67 (0,0))):=by rw [hw0];exact heap_alloc_new w _
 have B0:Hid (Below w.heap.size w w0):=by rw [hw0];exact (Below.refl _ w).alloc (Nat.le_refl _) _
 have HL:Hid (∀ y,Below w0.heap.size w0 y→y.cell? ⟨w.heap.size,0,none⟩=some (.int .i64 g.a)∧y.cell? ⟨w.heap.size,1,none⟩=some (.int .i64 g.b)∧y.cell? ⟨w.heap.size,2,none⟩=some (.int .i64 g.c)):=fun y hy=>HX.out y _ _ ((hy.block _ (lt_of_block R0.out)).trans R0.out)
 clear hk eA hn HX
 go_enter Tryz.func75,Tryz.ntmps75
 go_upto_region 1 with (fail)
 change Code.wp _ _ _ _ (w.alloc (.cells A 67))
 rw [← hw0]
 clear hw0
 go_upto_region 4 with (first
   | ((with_reducible refine row_load _ _ _ _ _ _ _ ?_ R0.out Tryz.underlying67 ?_ (row_size Tryz.sizeGeo HAS) ?_);(exact rfl);(exact rfl))
   | (go_at_call 124;refine (HC0.out _).mono ?_;rintro e1 w1 ⟨rfl,HB1⟩))
 refine wp_region_any (by kernel_rfl) ?_
 change wpAny _ _ _ _ _ _ _ (World.drew _)
 have BB:Hid (Below w0.heap.size w0 w1.drew):=Lib.hid HB1.drew
 obtain ⟨z,hz⟩:∃ y,y=w1.drew:=⟨_,rfl⟩
 rw [← hz] at BB ⊢
 clear hz HB1 HC0
 refine wpAny_of_held (S:=fun y=>y.cell? ⟨w.heap.size,0,none⟩=some (.int .i64 g.a)∧y.cell? ⟨w.heap.size,1,none⟩=some (.int .i64 g.b)∧y.cell? ⟨w.heap.size,2,none⟩=some (.int .i64 g.c)) _ _ _ _ ?_
 have SD:=HL.out _ BB.out
 refine aH 0 10 (.pointer (some ⟨w.heap.size,0,none⟩)) SD rfl (by intro x hx;obtain ⟨y0,y1,y2⟩:=hx;go_simp;try (intro h;omega)) ?_
 try simp only [Act.put,zq1,zq2,zq3]
 refine aH 1 11 (.int .i64 g.a) SD rfl (by intro x hx;obtain ⟨y0,y1,y2⟩:=hx;go_simp;try (intro h;omega)) ?_
 try simp only [Act.put,zq1,zq2,zq3]
 refine aH 3 13 (.pointer (some ⟨w.heap.size,1,none⟩)) SD rfl (by intro x hx;obtain ⟨y0,y1,y2⟩:=hx;go_simp;try (intro h;omega)) ?_
 try simp only [Act.put,zq1,zq2,zq3]
 refine aH 4 14 (.int .i64 g.b) SD rfl (by intro x hx;obtain ⟨y0,y1,y2⟩:=hx;go_simp;try (intro h;omega)) ?_
 try simp only [Act.put,zq1,zq2,zq3]
 refine aH 6 16 (.pointer (some ⟨w.heap.size,2,none⟩)) SD rfl (by intro x hx;obtain ⟨y0,y1,y2⟩:=hx;go_simp;try (intro h;omega)) ?_
 try simp only [Act.put,zq1,zq2,zq3]
 refine aH 7 17 (.int .i64 g.c) SD rfl (by intro x hx;obtain ⟨y0,y1,y2⟩:=hx;go_simp;try (intro h;omega)) ?_
 try simp only [Act.put,zq1,zq2,zq3]
 refine anyH_one 2 (by kernel_rfl) ?_
 refine wpOp_step rfl (fun Kc hKc=>?_)
 go_simp
 refine (H0.out _).mono ?_
 rintro e3 w3 ⟨p3,c3,rfl,O3,H3,b3⟩
 have B3:Hid (Below w0.heap.size w0 w3):=BB.out.trans (b3.out.mono BB.out.size)
 dsimp only
 refine hKc _ _ ⟨HL.out _ B3.out,?_⟩
 clear hKc Kc
 try simp only [Act.put,zq1,zq2,zq3]
 clear SD
 have SD:=HL.out _ B3.out
 refine anyH_one 5 (by kernel_rfl) ?_
 refine wpOp_step rfl (fun Kc hKc=>?_)
 go_simp
 refine (H1.out _ _ _ H3.out).mono ?_
 rintro e4 w4 ⟨p4,c4,rfl,O4,H4,b4⟩
 have B4:Hid (Below w0.heap.size w0 w4):=B3.out.trans (b4.out.mono B3.out.size)
 dsimp only
 refine hKc _ _ ⟨HL.out _ B4.out,?_⟩
 clear hKc Kc
 try simp only [Act.put,zq1,zq2,zq3]
 clear SD
 have SD:=HL.out _ B4.out
 refine anyH_one 8 (by kernel_rfl) ?_
 refine wpOp_step rfl (fun Kc hKc=>?_)
 go_simp
 refine (H2.out _ _ _ H4.out).mono ?_
 rintro e5 w5 ⟨p5,c5,rfl,O5,H5,b5⟩
 have B5:Hid (Below w0.heap.size w0 w5):=B4.out.trans (b5.out.mono B4.out.size)
 dsimp only
 refine hKc _ _ ⟨HL.out _ B5.out,?_⟩
 clear hKc Kc
 try simp only [Act.put,zq1,zq2,zq3]
 clear SD
 have SD:=HL.out _ B5.out
 refine aH 9 2 (.slice p5 24 c5) SD rfl (by intro x hx;obtain ⟨y0,y1,y2⟩:=hx;go_simp;try (intro h;omega)) ?_
 try simp only [Act.put,zq1,zq2,zq3]
 refine aH 10 3 (.int .i64 0) SD rfl (by intro x hx;obtain ⟨y0,y1,y2⟩:=hx;go_simp;try (intro h;omega)) ?_
 try simp only [Act.put,zq1,zq2,zq3]
 refine wpAnyH_done (by kernel_rfl) ?_ _
 go_wp2
 go_ret2
 exact ⟨_,_,rfl,own_base O5.out (by have:=B4.out.size;have:=B0.out.size;omega),H5,B0.out.trans (B5.out.mono B0.out.size)⟩
def SGot (L:List Int) (w:World) (e:Ending) (w':World):Prop:=e = .returned (.tuple #[GV (Sp.gt L),.int .i64 (Sp.er L)])∧Hid (Below w.heap.size w w')
set_option maxHeartbeats 4000000 in
set_option maxRecDepth 100000 in
theorem sget_any (L:List Int) (p:Option Addr) (n c:Nat) (hn:L.length=n) (hL:n≤900000) (w:World) (hp:Bs w p c L) :
  Calls Tryz.prog 132 #[.slice p n c] w (SGot L w):=by
 have HP:=Lib.hid hp
 clear hp
 obtain ⟨Z,hZ⟩:∃ Z,Hid (GA ⟨0,0,0⟩=Z):=⟨_,rfl⟩
 have HZS:Hid (Z.size=3):=by show _=_;rw [← hZ.out];rfl
 have HZ1:Hid (Z.all (·.oneCell')=true):=by show _=_;rw [← hZ.out];simp [GA,Value.oneCell']
 have hz:=(zero_of_info Tryz.zeroGeo).1
 have HBT:=Lib.hid Tryz.builtGeo
 rw [hZ.out] at hz HBT
 have hzn:¬ Z = #[]:=fun h=>by have:=HZS.out;rw [h] at this;simp at this
 have hsz:=row_size Tryz.sizeGeo HZS
 have HC0:Hid (∀ y,Below w.heap.size w y→Calls Tryz.prog 115 #[.slice p n c] y (NewSayP L y)):=fun y hy=>read_any L p n c hn (by omega) y (HP.out.old hy)
 have hle:∀ k,(Sp.rs L k).length≤900000:=fun k=>by have:=Sp.rs_le L k;omega
 have HK0:Hid (∀ y g D,RdAt y g D L false→Calls Tryz.prog 116 #[.pointer (some ⟨g,0,none⟩)] y (RdSay (.int .i64 (Sp.gc L).a) (Sp.rs L 1) (Sp.bd L 1) g D y)):=fun y g D hy=>by
  rw [(Sp.n0 L).1,(Sp.n0 L).2.1,(Sp.n0 L).2.2]
  exact rint_any L false g D _ rfl (by omega) y hy
 have HK1:Hid (∀ y g D,RdAt y g D (Sp.rs L 1) (Sp.bd L 1)→Calls Tryz.prog 116 #[.pointer (some ⟨g,0,none⟩)] y (RdSay (.int .i64 (Sp.gc L).b) (Sp.rs L 2) (Sp.bd L 2) g D y)):=fun y g D hy=>by
  rw [(Sp.n1 L).1,(Sp.n1 L).2.1,(Sp.n1 L).2.2]
  exact rint_any _ _ g D _ rfl (Nat.le_trans (hle 1) (by omega)) y hy
 have HK2:Hid (∀ y g D,RdAt y g D (Sp.rs L 2) (Sp.bd L 2)→Calls Tryz.prog 116 #[.pointer (some ⟨g,0,none⟩)] y (RdSay (.int .i64 (Sp.gc L).c) (Sp.rs L 3) (Sp.bd L 3) g D y)):=fun y g D hy=>by
  rw [(Sp.n2 L).1,(Sp.n2 L).2.1,(Sp.n2 L).2.2]
  exact rint_any _ _ g D _ rfl (Nat.le_trans (hle 2) (by omega)) y hy
 have HKE:Hid (∀ y g D,RdAt y g D (Sp.rs L 3) (Sp.bd L 3)→Calls Tryz.prog 119 #[.pointer (some ⟨g,0,none⟩)] y (EndSayP (Sp.en L) y)):=fun y g D hy=>by
  have h:=end_any _ _ g D y hy
  rw [Sp.en_is] at h
  exact h
 have HN0:Hid (Sp.en L ≠ 0→Sp.er L=Sp.en L∧.agg Z=GV (Sp.gt L)):=fun h=>by
  have h1:Sp.er L=Sp.en L:=Sp.er_en h
  refine ⟨h1,?_⟩
  rw [Sp.gt_none (by rw [h1];exact h),← hZ.out,Sp.zero_is]
  rfl
 have HN1:Hid (Sp.en L=0→Sp.ck (Sp.gc L)=15→Sp.er L=15∧.agg Z=GV (Sp.gt L)):=fun h h2=>by
  have h1:Sp.er L=15:=by rw [Sp.er_ok h,h2]
  refine ⟨h1,?_⟩
  rw [Sp.gt_none (by omega),← hZ.out,Sp.zero_is]
  rfl
 have HN2:Hid (Sp.en L=0→Sp.ck (Sp.gc L)=0→Sp.er L=0∧GV (Sp.gc L)=GV (Sp.gt L)):=fun h h2=>by
  have h1:Sp.er L=0:=by rw [Sp.er_ok h,h2]
  exact ⟨h1,by rw [Sp.gt_some h1]⟩
 have HMB:Hid (∀ y,Calls Tryz.prog 124 #[GV (Sp.gc L)] y (Num (Sp.ck (Sp.gc L)) y)):=fun y=>gcheck_any _ y
 have HOR:=Lib.hid (Sp.ck_or (Sp.gc L))
 have HBL:=Lib.hid (build_geo (Sp.gc L))
 obtain ⟨A,eA,hk⟩:=gk (Sp.gc L)
 have HAS:=Lib.hid hk.size
 have HA1:=Lib.hid hk.one
 have eA2:GA (Sp.gc L)=A:=by unfold GV at eA;injection eA
 rw [eA2] at HBL
 rw [eA] at HN2 HMB
 obtain ⟨en,hen⟩:∃ en,Hid (Sp.en L=en):=⟨_,rfl⟩
 rw [hen.out] at HKE HN0 HN1 HN2
 obtain ⟨q,hq⟩:∃ q,Hid (Sp.ck (Sp.gc L)=q):=⟨_,rfl⟩
 rw [hq.out] at HMB HN1 HN2 HOR
 generalize Sp.gc L=r at *
 obtain ⟨ga,gb,gc⟩:=r
 dsimp only at *
 have R0:Hid ((w.alloc (.cells Z 67)).heap[w.heap.size]?=some (.cells Z 67 (0,0))):=heap_alloc_new w _
 have B0:Hid (Below w.heap.size w (w.alloc (.cells Z 67))):=(Below.refl _ w).alloc (Nat.le_refl _) _
 have HSU:Hid (w.heap.size<(w.alloc (.cells Z 67)).heap.size):=by show _<_;simp
 clear hn hL HP hZ hk eA eA2 hen hq hle
 go_enter Tryz.func132,Tryz.ntmps132
 go_upto_region 1 with (fail)
 obtain ⟨w0,hw0⟩:∃ x,x=w.alloc (.cells Z 67):=⟨_,rfl⟩
 rw [← hw0] at B0 R0 HSU ⊢
 clear hw0
 go_upto_region 2 with (go_at_call 115;refine (HC0.out _ B0.out).mono ?_;rintro e1 w1 ⟨g,D,rfl,Q0,HG1,HB1⟩)
 have O0:Hid (Only g w1 w1):=Only.refl _ _
 have NE:Hid (w.heap.size ≠ g):=by have:=HSU.out;have:=HG1.out.1;show _ ≠ _;omega
 have BB1:Hid (Below w.heap.size w w1):=B0.out.trans (HB1.out.mono B0.out.size)
 have R1:Hid (∀ y,Only g w1 y→y.heap[w.heap.size]?=some (.cells Z 67 (0,0))):=fun y hy=>by
  have r1:=(HB1.out.block _ (lt_of_block R0.out)).trans R0.out
  exact (hy.block _ (lt_of_block r1) NE.out).trans r1
 have HGW:Hid (w.heap.size≤g):=Nat.le_trans B0.out.size HG1.out.1
 clear HC0 HB1 R0 B0
 go_upto_region 3 with (first
  | (go_at_call 116;have TT:=Q2.out;refine (HK2.out _ _ _ Q2.out).mono ?_;rintro e4 w4 ⟨rfl,Q3,OO3⟩;have O3:=Lib.hid (O2.out.trans OO3.out);clear OO3)
  | (go_at_call 116;have TT:=Q1.out;refine (HK1.out _ _ _ Q1.out).mono ?_;rintro e3 w3 ⟨rfl,Q2,OO2⟩;have O2:=Lib.hid (O1.out.trans OO2.out);clear OO2)
  | (go_at_call 116;have TT:=Q0.out;refine (HK0.out _ _ _ Q0.out).mono ?_;rintro e2 w2 ⟨rfl,Q1,OO1⟩;have O1:=Lib.hid (O0.out.trans OO1.out);clear OO1)
  | ((with_reducible refine row_buildN _ _ _ _ ?_ HBL.out ?_);(exact rfl))
  | ((with_reducible refine row_store _ _ _ _ _ _ _ ?_ ?_ (heap_alloc_new _ _) (row_size Tryz.sizeGeo HAS) ?_ HA1.out ?_);(exact rfl);(exact rfl);(rw [HAS.out,HZS.out]);intro wa Ga cha))
 have HGP:Hid (w.heap.size<w4.heap.size):=by have:=lt_of_block (R1.out _ O3.out);exact this
 have QA:Hid (RdAt wa g D (Sp.rs L 3) (Sp.bd L 3)):=by
  have a1:=Q3.out.old ((Below.refl _ w4).alloc (Nat.le_refl _) (.cells Z 67))
  exact a1.only cha.only (Nat.ne_of_gt Q3.out.glt) (fun h=>by have:=Q3.out.lt _ h;omega)
 have BA:Hid (Below w.heap.size w wa):=by
  have a1:=O3.out.below BB1.out HGW.out BB1.out.size
  exact cha.below (a1.alloc a1.size _) a1.size
 have RA:Hid (wa.heap[w.heap.size]?=some (.cells Z 67 (0,0))):=by
  have a1:=R1.out _ O3.out
  exact (cha.block _ (Nat.ne_of_lt HGP.out)).trans ((((Below.refl _ w4).alloc (Nat.le_refl _) _).block _ (lt_of_block a1)).trans a1)
 clear HK0 HK1 HK2 HBL Q0 Q1 Q2 Q3 O0 O1 O2 O3 R1 BB1 HG1 HGW NE cha hz hzn
 generalize w4.heap.size=gp at *
 have RE:=Lib.hid (HKE.out wa g D QA.out)
 have RZ:Hid (∀ x,Below wa.heap.size wa x→x.heap[w.heap.size]?=some (.cells Z 67 (0,0))):=fun x hx=>(hx.block _ (lt_of_block RA.out)).trans RA.out
 have RP:Hid (∀ x,Below wa.heap.size wa x→x.heap[gp]?=some (.cells A 67 (0,0))):=fun x hx=>(hx.block _ (lt_of_block Ga)).trans Ga
 have RB:Hid (∀ x,Below wa.heap.size wa x→Below w.heap.size w x):=fun x hx=>BA.out.trans (hx.mono BA.out.size)
 clear HKE QA RA BA Ga
 by_cases h0:en=0
 ·subst h0
  rcases HOR.out with hq | hq
  ·subst hq
   have HE:=Lib.hid (HN2.out rfl rfl)
   clear HN0 HN1 HN2 HOR
   go_wp2_with (first
    | (go_at_call 119;refine RE.out.mono ?_;rintro e17 w17 ⟨rfl,hb7⟩;have HB7:=Lib.hid hb7;clear hb7)
    | ((with_reducible refine row_load _ _ _ _ _ _ _ ?_ (RP.out _ HB9.out) Tryz.underlying67 ?_ (row_size Tryz.sizeGeo HAS) ?_);(exact rfl);(exact rfl))
    | ((with_reducible refine row_load _ _ _ _ _ _ _ ?_ (RP.out _ HB7.out) Tryz.underlying67 ?_ (row_size Tryz.sizeGeo HAS) ?_);(exact rfl);(exact rfl))
    | (go_at_call 124;refine (HMB.out _).mono ?_;rintro e18 w18 ⟨rfl,HB8⟩;have HB9:=Lib.hid (HB7.out.trans (HB8.mono HB7.out.size)))
    | ((with_reducible refine row_store _ _ _ _ _ _ _ ?_ ?_ (RZ.out _ HB9.out) (row_size Tryz.sizeGeo HAS) ?_ HA1.out ?_);(exact rfl);(exact rfl);(rw [HAS.out,HZS.out]);intro w19 G9 ch9))
   refine bodyPost_ret (results_cell_tmp rfl _ _ w.heap.size 67 A (0,0) _ rfl G9 Tryz.underlying67 rfl (row_size Tryz.sizeGeo HAS)) rfl ⟨?_,ch9.below (RB.out _ HB9.out) (Nat.le_refl _)⟩
   rw [HE.out.1,← HE.out.2];rfl
  ·subst hq
   have HE:=Lib.hid (HN1.out rfl rfl)
   clear HN0 HN1 HN2 HOR
   go_wp2_with (first
    | (go_at_call 119;refine RE.out.mono ?_;rintro e17 w17 ⟨rfl,hb7⟩;have HB7:=Lib.hid hb7;clear hb7)
    | ((with_reducible refine row_load _ _ _ _ _ _ _ ?_ (RP.out _ HB7.out) Tryz.underlying67 ?_ (row_size Tryz.sizeGeo HAS) ?_);(exact rfl);(exact rfl))
    | (go_at_call 124;refine (HMB.out _).mono ?_;rintro e18 w18 ⟨rfl,HB8⟩;have HB9:=Lib.hid (HB7.out.trans (HB8.mono HB7.out.size)))
    | ((with_reducible refine row_build0 _ _ HBT.out ?_))
    | ((with_reducible refine row_store _ _ _ _ _ _ _ ?_ ?_ (RZ.out _ HB9.out) (row_size Tryz.sizeGeo HZS) ?_ HZ1.out ?_);(exact rfl);(exact rfl);(exact rfl);intro w19 G9 ch9))
   refine bodyPost_ret (results_cell_tmp rfl _ _ w.heap.size 67 Z (0,0) _ rfl G9 Tryz.underlying67 rfl (row_size Tryz.sizeGeo HZS)) rfl ⟨?_,ch9.below (RB.out _ HB9.out) (Nat.le_refl _)⟩
   rw [HE.out.1,← HE.out.2];rfl
 ·have HE:=Lib.hid (HN0.out h0)
  have hb0:(en==0)=false:=by simpa using h0
  clear HN0 HN1 HN2 HOR
  go_wp2_with (first
   | (go_at_call 119;refine RE.out.mono ?_;rintro e17 w17 ⟨rfl,hb7⟩;have HB7:=Lib.hid hb7;clear hb7)
   | ((with_reducible refine row_build0 _ _ HBT.out ?_))
   | ((with_reducible refine row_store _ _ _ _ _ _ _ ?_ ?_ (RZ.out _ HB7.out) (row_size Tryz.sizeGeo HZS) ?_ HZ1.out ?_);(exact rfl);(exact rfl);(exact rfl);intro w19 G9 ch9))
  refine bodyPost_ret (results_cell_tmp rfl _ _ w.heap.size 67 Z (0,0) _ rfl G9 Tryz.underlying67 rfl (row_size Tryz.sizeGeo HZS)) rfl ⟨?_,ch9.below (RB.out _ HB7.out) (Nat.le_refl _)⟩
  rw [HE.out.1,← HE.out.2];rfl
end

/-! SpRo:  -/
section
open Go.ChangeShapes Go.WideShapes Go.RowKit
theorem cells_geo:Tryz.prog.cellsOf 67=3:=by kernel_rfl
set_option maxRecDepth 100000 in
theorem open_geo_cells {H:Type} {enc:TypeId × Value→H} {W:World} {fuel:Nat} {cs:List Value} {x:DataW H × List MemPlace} (hlen:cs.length=3) (hf:DataW.trod enc Tryz.prog W 0 (fun _=>true) true fuel 67 cs=some x) :
  ∃ g:Sp.G,cs=(GA g).toList∧Sp.Ok g:=by
 obtain ⟨xs,m,_,_,_,hlx,hel⟩:=DataW.trod_struct Tryz.underlying67 hf
 have hl3:xs.length=3:=by simpa using hlx
 have h0:=hel 0 _ rfl
 have h1:=hel 1 _ rfl
 have h2:=hel 2 _ rfl
 rw [List.getElem?_eq_getElem (by omega)] at h0 h1 h2
 obtain ⟨a,e0,_,w0⟩:=DataW.trod_int Tryz.underlying3 h0
 obtain ⟨b,e1,_,w1⟩:=DataW.trod_int Tryz.underlying3 h1
 obtain ⟨c,e2,_,w2⟩:=DataW.trod_int Tryz.underlying3 h2
 refine ⟨⟨a,b,c⟩,?_,in64_wf w0,in64_wf w1,in64_wf w2⟩
 rcases cs with _ | ⟨u,_ | ⟨x,_ | ⟨y,_ | ⟨z,r⟩⟩⟩⟩
 ·simp at hlen
 ·simp at hlen
 ·simp at hlen
 ·obtain rfl:u = .int .i64 a:=by simpa [Tryz.cells_int] using e0
  obtain rfl:x = .int .i64 b:=by simpa [Tryz.cells_int] using e1
  obtain rfl:y = .int .i64 c:=by simpa [Tryz.cells_int] using e2
  rfl
 ·simp at hlen
set_option maxRecDepth 100000 in
theorem open_geo {H:Type} {enc:TypeId × Value→H} {W:World} {base:Nat} {v:Value} {d:DataW H} {ps:List MemPlace} (hok:Value.okWide Tryz.prog W .any base 67 v)
  (h:DataW.Trod enc Tryz.prog W 0 (fun _=>true) true 67 v d ps):∃ g:Sp.G,v=GV g∧Sp.Ok g:=by
 obtain ⟨cs,rfl,hsz,_⟩:∃ cs,v = .agg cs∧cs.size = Tryz.prog.cellsOf 67∧Row.okWide Tryz.prog W .any base 67 cs:=by
  simpa [Value.okWide,Tryz.underlying67] using hok
 rw [cells_geo] at hsz
 obtain ⟨fuel,hf⟩:=h
 obtain ⟨g,e,hg⟩:=open_geo_cells (cs:=cs.toList) (by simpa using hsz) hf
 refine ⟨g,?_,hg⟩
 unfold GV
 congr 1
 apply Array.ext'
 rw [e]
end
end Go.Proofs.YtnnalemboeccbaaGreatDoor

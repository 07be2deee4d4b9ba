/-
  GeA, GeB, GeC, GeD (merged)
-/
import Derived.Test.YtnnalemboeccbaaGreatDoorA1
import Derived.Test.YtnnalemboeccbaaGreatDoorA3
import Derived.Test.YtnnalemboeccbaaGreatDoorA4
import Derived.Test.YtnnalemboeccbaaGreatDoorA5
import Derived.Test.YtnnalemboeccbaaGreatDoorA6
import Derived.Test.YtnnalemboeccbaaGreatDoorBd1
import Derived.Test.YtnnalemboeccbaaGreatDoorB8
import Derived.Test.YtnnalemboeccbaaGreatDoorBc1
import Derived.Test.YtnnalemboeccbaaGreatDoorSe1
import Derived.Test.YtnnalemboeccbaaGreatDoorSe5
import Derived.Test.YtnnalemboeccbaaGreatDoorSe3
import Derived.Test.YtnnalemboeccbaaGreatDoorSe4
import Derived.Test.YtnnalemboeccbaaGreatDoorNa1
import Derived.WalkKit
import Derived.Laws.CopyOwn
import Derived.OwnWalk
import Derived.BigRegion
import Derived.WalkSpells
import Derived.Lib.Hide
import Derived.Deep.MidRow
import Derived.RegionTactic
import Derived.Deep.RegionHeld3
import Derived.OneCell
import Derived.StillTailTactics
import Derived.Laws.MakeOwn
import Derived.Laws.OwnMore
import Derived.BigQuiet
import Derived.Laws.AppendOwnNone
import Derived.OrdersHeld
import Derived.Lib.AppendZeros
import Derived.Laws.Tables
import Derived.Deep.Matrix
import Derived.RangeFuncNested
import Derived.RangeFuncBound
import Derived.RangeFuncCalls
import Derived.RangeFuncLeaves
import Derived.Shelf.Abstract
import Derived.Shelf.RegionOpen
import Derived.OwnWalkIn
import Derived.TacticsInMore
import Derived.LoopNIn
import Derived.LoopIn
import Derived.Test.YtnnalemboeccbaaGreatDoorChecked
import Derived.WalkLawsBesides
import Derived.Deep.QuietTactic
import Derived.Deep.WholeRow
import Derived.Deep.Cut
import Derived.StillTail
import Derived.Laws.StructEq
import Derived.ChangeKeysEq
import Derived.Laws.Closers25b
import Derived.OrdersIn
import Derived.OpenShut
import Derived.Deep.Slices
import Derived.RangeFuncWrites
import Derived.Laws.EntriesVeiled
import Derived.Deep.RegionLawGrows
import Derived.Deep.CutRange
import Derived.Deep.RegionLaw
import Derived.ArgAppend
import Derived.Lib.SlBytesConst
import Derived.Laws.Cover3
import Derived.Lib.MinMax
namespace Go.Proofs.YtnnalemboeccbaaGreatDoor

/-! GeA:  -/
section
open Go.RowKit
namespace Ge
def nd (b m:Int):Int:=(4*m+(b-1)-1) / (b-1)
def ln (b:Int):Int:=(b-1) / 5
def sz (a b c:Int):Prop:=(16≤a∧a≤32)∧(32≤b∧b≤64)∧1≤c∧c≤64
def room (a b c:Int):Int:=(a-nd b c-14)*(ln b+1)
def ok (a b c:Int):Prop:=sz a b c∧c+9<room a b c
instance (a b c:Int):Decidable (sz a b c):=by unfold sz;infer_instance
instance (a b c:Int):Decidable (ok a b c):=by unfold ok;infer_instance
def ck (a b c:Int):Int:=if ok a b c then 0 else 15
theorem nd_le (b m k:Int) (hb:2≤b):nd b m≤k↔4*m≤k*(b-1):=by
 have h:=Int.ediv_lt_iff_lt_mul (a:=4*m+(b-1)-1) (b:=k+1) (c:=b-1) (by omega)
 have e:(k+1)*(b-1)=k*(b-1)+(b-1):=by rw [Int.add_mul,Int.one_mul]
 rw [e] at h
 unfold nd
 generalize k*(b-1)=X at *
 generalize (4*m+(b-1)-1) / (b-1)=Y at *
 omega
theorem nd_in (b m:Int) (hb:32≤b) (h0:0≤m) (h1:m≤64):0≤nd b m∧nd b m≤9:=by
 refine ⟨Int.ediv_nonneg (by omega) (by omega),(nd_le b m 9 (by omega)).2 (by omega)⟩
theorem ln_in (b:Int) (h0:32≤b) (h1:b≤64):6≤ln b∧ln b≤12:=by unfold ln;omega
theorem mul_in (x y:Int) (hx : -7≤x∧x≤18) (hy:7≤y∧y≤13) : -91≤x*y∧x*y≤234:=by
 have h:y=7∨y=8∨y=9∨y=10∨y=11∨y=12∨y=13:=by omega
 rcases h with rfl | rfl | rfl | rfl | rfl | rfl | rfl<;>omega
theorem room_in (a b c:Int) (h:sz a b c) : -91≤room a b c∧room a b c≤234:=by
 obtain ⟨ha,hb,hc⟩:=h
 have h1:=nd_in b c hb.1 (by omega) hc.2
 have h2:=ln_in b hb.1 hb.2
 exact mul_in _ _ (by omega) (by omega)
theorem area (a b:Int) (ha:0≤a∧a≤32) (hb:0≤b∧b≤64):0≤a*b∧a*b≤2048 :=
 ⟨Int.mul_nonneg ha.1 hb.1,by have h:=Int.mul_le_mul ha.2 hb.2 hb.1 (by omega:(0:Int)≤32);omega⟩
end Ge
end

/-! GeB:  -/
section
open Go.RowKit
def GBox (a b c:Int):Obj:=.cells #[.int .i64 a,.int .i64 b,.int .i64 c] 67
def Num (v:Int) (w:World) (e:Ending) (w':World):Prop:=e = .returned (.int .i64 v)∧Below w.heap.size w w'
set_option maxHeartbeats 1000000 in
set_option maxRecDepth 100000 in
theorem room_any (a b c:Int) (hw:IntKind.i64.wrap (b-1)=b-1) (w:World):Calls Tryz.prog 185 #[.agg #[.int .i64 a,.int .i64 b,.int .i64 c]] w (Num (b-1) w):=by
 have B0:Hid (Below w.heap.size w (w.alloc (GBox a b c))):=(Below.refl _ w).alloc (Nat.le_refl _) _
 go_enter Tryz.func185,Tryz.ntmps185
 go_wp2
 go_ret
 exact ⟨rfl,B0.out⟩
set_option maxHeartbeats 1000000 in
set_option maxRecDepth 100000 in
theorem lean_any (a b c:Int) (hb:32≤b∧b≤64) (w:World):Calls Tryz.prog 163 #[.agg #[.int .i64 a,.int .i64 b,.int .i64 c]] w (Num (Ge.ln b) w):=by
 have B0:Hid (Below w.heap.size w (w.alloc (GBox a b c))):=(Below.refl _ w).alloc (Nat.le_refl _) _
 have hw:IntKind.i64.wrap (b-1)=b-1:=IntWalk.i64_in _ ⟨by omega,by omega⟩
 have h2:IntKind.i64.wrap ((b-1).tdiv 5)=Ge.ln b:=by
  rw [Int.tdiv_eq_ediv_of_nonneg (by omega)]
  exact IntWalk.i64_in _ ⟨by omega,by omega⟩
 go_enter Tryz.func163,Tryz.ntmps163
 go_wp2_with (go_at_call 185;refine (room_any a b c hw _).mono ?_;rintro e1 w1 ⟨rfl,hb1⟩)
 go_ret
 exact ⟨rfl,B0.out.trans (hb1.mono B0.out.size)⟩
set_option maxHeartbeats 1000000 in
set_option maxRecDepth 100000 in
theorem need_in (a b c m:Int) (hb:32≤b∧b≤64) (hm:0≤m∧m≤64) (w:World):Calls Tryz.prog 162 #[.agg #[.int .i64 a,.int .i64 b,.int .i64 c],.int .i64 m] w (Num (Ge.nd b m) w):=by
 have B0:Hid (Below w.heap.size w (w.alloc (GBox a b c))):=(Below.refl _ w).alloc (Nat.le_refl _) _
 have hw:IntKind.i64.wrap (b-1)=b-1:=IntWalk.i64_in _ ⟨by omega,by omega⟩
 have hw1:IntKind.i64.wrap (4*m)=4*m:=IntWalk.i64_in _ ⟨by omega,by omega⟩
 have hw2:IntKind.i64.wrap (4*m+(b-1))=4*m+(b-1):=IntWalk.i64_in _ ⟨by omega,by omega⟩
 have hw3:IntKind.i64.wrap (4*m+(b-1)-1)=4*m+(b-1)-1:=IntWalk.i64_in _ ⟨by omega,by omega⟩
 have hn0:¬ (b-1=0):=by omega
 have h2:IntKind.i64.wrap ((4*m+(b-1)-1).tdiv (b-1))=Ge.nd b m:=by
  rw [Int.tdiv_eq_ediv_of_nonneg (by omega)]
  have h:=Ge.nd_in b m hb.1 hm.1 hm.2
  unfold Ge.nd at h ⊢
  exact IntWalk.i64_in _ ⟨by omega,by omega⟩
 obtain ⟨w0,hw0⟩:∃ x,x=w.alloc (GBox a b c):=⟨_,rfl⟩
 have R0:Hid (w0.heap[w.heap.size]?=some (GBox a b c)):=by show _=_;rw [hw0];exact heap_alloc_new w _
 rw [← hw0] at B0
 have HS:Hid (∀ y,Below w0.heap.size w0 y→y.cell? ⟨w.heap.size,0,none⟩=some (.int .i64 a)∧y.cell? ⟨w.heap.size,1,none⟩=some (.int .i64 b)∧y.cell? ⟨w.heap.size,2,none⟩=some (.int .i64 c)):=fun y hy=>by
  have h:=(hy.block _ (lt_of_block R0.out)).trans R0.out
  exact ⟨by rw [cell_of_row _ _ _ _ _ _ h];rfl,by rw [cell_of_row _ _ _ _ _ _ h];rfl,by rw [cell_of_row _ _ _ _ _ _ h];rfl⟩
 have BB:Hid (Below w0.heap.size w0 w0.drew):=(Below.refl _ w0).drew
 have KR:∀ y,Below w0.heap.size w0 y→Calls Tryz.prog 185 #[.agg #[.int .i64 a,.int .i64 b,.int .i64 c]] y fun e w'=>e = .returned (.int .i64 (b-1))∧Hid (Below w0.heap.size w0 w'):=fun y hy=>by
  refine (room_any a b c hw y).mono ?_
  rintro e w' ⟨rfl,hb⟩
  exact ⟨rfl,hy.trans (hb.mono hy.size)⟩
 go_enter Tryz.func162,Tryz.ntmps162
 go_upto_region 1 with (fail)
 unfold GBox at hw0
 rw [← hw0]
 clear hw0 R0
 go_region_held3 (fun y=>y.cell? ⟨w.heap.size,0,none⟩=some (.int .i64 a)∧y.cell? ⟨w.heap.size,1,none⟩=some (.int .i64 b)∧y.cell? ⟨w.heap.size,2,none⟩=some (.int .i64 c))
  (exact HS.out _ (Hid.out (by assumption)))
  ((go_at_call 185;refine (KR _ (Hid.out (by assumption))).mono ?_;rintro e1 w1 ⟨rfl,hb1⟩;clear BB;have BB:=hb1;clear hb1))
 go_wp2
 go_ret
 exact ⟨rfl,B0.out.trans (BB.out.mono B0.out.size)⟩
abbrev Sp3:=Int × Int × Int
def flat3:List Sp3→List Value
 | []=>[]
 | x :: l=>.int .i64 x.1 :: .int .i64 x.2.1 :: .int .i64 x.2.2 :: flat3 l
def inn (x:Sp3):Bool:=!(decide (x.1<x.2.1)||decide (x.1>x.2.2))
theorem flat3_at:∀ (l:List Sp3) (k:Nat) (x:Sp3),l[k]?=some x→(flat3 l)[k*3]?=some (.int .i64 x.1)∧(flat3 l)[k*3+1]?=some (.int .i64 x.2.1)∧(flat3 l)[k*3+2]?=some (.int .i64 x.2.2)
 | [],k,x,h=>by simp at h
 | y :: l,0,x,h=>by simp at h;subst h;exact ⟨rfl,rfl,rfl⟩
 | y :: l,k+1,x,h=>by
  have q:=flat3_at l k x (by simpa using h)
  have e:(k+1)*3=k*3+1+1+1:=by omega
  rw [e]
  exact q
def SBox (L:List Sp3):Obj:=.cells (flat3 L).toArray 205
theorem all_take (L:List Sp3) (k:Nat) (x:Sp3) (hx:L[k]?=some x) (h:(L.take k).all inn=true) (hi:inn x=true):(L.take (k+1)).all inn=true:=by
 rw [List.take_add_one,hx,List.all_append,h]
 simp [hi]
theorem all_not (L:List Sp3) (k:Nat) (x:Sp3) (hx:L[k]?=some x) (hi:inn x=false):L.all inn=false:=by
 rw [List.all_eq_false]
 exact ⟨x,List.mem_of_getElem? hx,by simp [hi]⟩
set_option maxHeartbeats 2000000 in
set_option maxRecDepth 100000 in
theorem within_any (L:List Sp3) (n:Nat) (hn:L.length=n) (hl:n≤1000) (g:Nat) (w:World) (hg:w.heap[g]?=some (SBox L)):Calls Tryz.prog 161 #[.slice (some ⟨g,0,none⟩) n n] w fun e w'=>e = .returned (.bool (L.all inn))∧Below w.heap.size w w':=by
 have HC:Hid (∀ y,Below w.heap.size w y→∀ k x,L[k]?=some x→y.cell? ⟨g,k*3,none⟩=some (.int .i64 x.1)∧y.cell? ⟨g,k*3+1,none⟩=some (.int .i64 x.2.1)∧y.cell? ⟨g,k*3+2,none⟩=some (.int .i64 x.2.2)):=fun y hy k x hx=>by
  have h:=(hy.block _ (lt_of_block hg)).trans hg
  have q:=flat3_at L k x hx
  unfold SBox at h
  exact ⟨by rw [cell_of_row _ _ _ _ _ _ h];simpa using q.1,by rw [cell_of_row _ _ _ _ _ _ h];simpa using q.2.1,by rw [cell_of_row _ _ _ _ _ _ h];simpa using q.2.2⟩
 clear hg
 go_enter Tryz.func161,Tryz.ntmps161
 go_upto_region 2 with (fail)
 go_loopw [4,7] (fun v4 v7 wr=>∃ k:Nat,k≤n∧v7 = .int .i64 k∧Hid ((L.take k).all inn=true)∧Hid (Below w.heap.size w wr)) (fun _ v7 _=>n-(intOf v7).toNat)
 case atStart=>exact ⟨0,by omega,rfl,by show _=_;simp,Lib.hid (Below.refl _ _)⟩
 case round =>
  obtain ⟨k,hk,rfl,HA,HB⟩:=hrel
  by_cases hlt:k<n
  ·have hk0:(0:Int)≤(k:Int):=by omega
   have hk1:(k:Int)<(n:Int):=by omega
   obtain ⟨x,hx⟩:∃ x,L[k]?=some x:=⟨L[k]'(by omega),List.getElem?_eq_getElem (by omega)⟩
   obtain ⟨c0,c1,c2⟩:=HC.out _ HB.out k x hx
   have B1:Hid (Below w.heap.size w (wr.alloc (.cells #[.int .i64 x.1,.int .i64 x.2.1,.int .i64 x.2.2] 205))):=Lib.hid (HB.out.alloc HB.out.size _)
   by_cases h1:x.1<x.2.1
   ·have hf:L.all inn=false:=all_not L k x hx (by unfold inn;simp [h1])
    go_wp2
    go_ret
    exact ⟨by first | rfl | (rw [hf];rfl),B1.out⟩
   ·by_cases h2:x.1>x.2.2
    ·have hf:L.all inn=false:=all_not L k x hx (by unfold inn;simp [h2])
     go_wp2
     go_ret
     exact ⟨by first | rfl | (rw [hf];rfl),B1.out⟩
    ·have ht:=Lib.hid (all_take L k x hx HA.out (by unfold inn;simp;omega))
     go_wp2
     exact ⟨⟨k+1,by omega,by go_num,ht,B1⟩,by simp [intOf];omega⟩
  ·have hkn:k=n:=by omega
   subst hkn
   go_wp2
   go_ret
   have h:L.all inn=true:=by have q:=HA.out;rw [← hn,List.take_length] at q;exact q
   exact ⟨by rw [h];rfl,HB.out⟩
end

/-! GeC:  -/
section
open Go.RowKit
abbrev Bx (y:World) (g:Nat) (a b c:Int):Prop:=y.cell? ⟨g,0,none⟩=some (.int .i64 a)∧y.cell? ⟨g,1,none⟩=some (.int .i64 b)∧y.cell? ⟨g,2,none⟩=some (.int .i64 c)
theorem bx_of {y:World} {g:Nat} {a b c:Int} (h:y.heap[g]?=some (GBox a b c)):Bx y g a b c :=
 ⟨by rw [cell_of_row _ _ _ _ _ _ h];rfl,by rw [cell_of_row _ _ _ _ _ _ h];rfl,by rw [cell_of_row _ _ _ _ _ _ h];rfl⟩
theorem Bx.old {w y:World} {g:Nat} {a b c:Int} (h:Bx w g a b c) (hb:Below w.heap.size w y):Bx y g a b c:=by
 have hl:=World.block_lt_of_cell? w _ h.1
 have q:=fun o=>World.cell?_of_block (a:=⟨g,o,none⟩) (hb.block g hl)
 exact ⟨(q 0).trans h.1,(q 1).trans h.2.1,(q 2).trans h.2.2⟩
theorem inn_eq (x:Sp3):inn x=decide (x.2.1≤x.1∧x.1≤x.2.2):=by
 unfold inn
 by_cases h1:x.1<x.2.1
 ·rw [decide_eq_true h1,Bool.true_or,decide_eq_false (by omega)];rfl
 ·by_cases h2:x.1>x.2.2
  ·rw [decide_eq_false h1,decide_eq_true h2,decide_eq_false (by omega)];rfl
  ·rw [decide_eq_false h1,decide_eq_false h2,decide_eq_true (by omega)];rfl
theorem sz_all (a b c:Int):([(a,16,32),(b,32,64),(c,1,64)]:List Sp3).all inn=decide (Ge.sz a b c):=by
 simp only [List.all_cons,List.all_nil,inn_eq,Bool.and_true,← Bool.decide_and]
 exact decide_eq_decide.2 Iff.rfl
set_option maxHeartbeats 4000000 in
set_option maxRecDepth 100000 in
theorem check_any (a b c:Int) (w:World):Calls Tryz.prog 124 #[.agg #[.int .i64 a,.int .i64 b,.int .i64 c]] w (Num (Ge.ck a b c) w):=by
 obtain ⟨w0,hw0⟩:∃ x,x=w.alloc (GBox a b c):=⟨_,rfl⟩
 have B0:Hid (Below w.heap.size w w0):=by show Below _ _ _;rw [hw0];exact (Below.refl _ w).alloc (Nat.le_refl _) _
 have X0:Hid (Bx w0 w.heap.size a b c):=by show Bx _ _ _ _ _;rw [hw0];exact bx_of (heap_alloc_new w _)
 have KW:∀ y g,y.heap[g]?=some (SBox [(a,16,32),(b,32,64),(c,1,64)])→Calls Tryz.prog 161 #[.slice (some ⟨g,0,none⟩) 3 3] y fun e w'=>e = .returned (.bool (decide (Ge.sz a b c)))∧Below y.heap.size y w':=fun y g hg=>by
  have h:=within_any [(a,16,32),(b,32,64),(c,1,64)] 3 rfl (by omega) g y hg
  rw [sz_all] at h
  exact h
 obtain ⟨R,hR⟩:∃ R,Hid (Ge.ck a b c=R):=⟨_,rfl⟩
 rw [hR.out]
 go_enter Tryz.func124,Tryz.ntmps124
 go_upto_region 1 with (fail)
 unfold GBox at hw0
 rw [← hw0]
 clear hw0
 obtain ⟨x00,x01,x02⟩:=X0.out
 go_upto_region 2 with (go_at_call 161;refine (KW _ _ (heap_alloc_new _ _)).mono ?_;rintro e1 w1 ⟨rfl,hb1⟩;have B1:Hid (Below w0.heap.size w0 w1):=Lib.hid (((Below.refl _ w0).alloc (Nat.le_refl _) _).trans (hb1.mono (by simp)));clear hb1)
 have hL:∀ y,Below w0.heap.size w0 y→Bx y w.heap.size a b c:=fun y hy=>X0.out.old hy
 have HX:=Lib.hid hL
 clear hL X0 x00 x01 x02
 by_cases hs:Ge.sz a b c
 ·have HS:=Lib.hid hs
  obtain ⟨⟨ha0,ha1⟩,⟨hb0,hb1⟩,hc0,hc1⟩:=hs
  have h1:=Ge.nd_in b c hb0 (by omega) hc1
  have h2:=Ge.ln_in b hb0 hb1
  have h3:=Ge.room_in a b c HS.out
  obtain ⟨N,hN⟩:∃ N,Hid (Ge.nd b c=N):=⟨_,rfl⟩
  obtain ⟨M,hM⟩:∃ N,Hid (Ge.ln b=N):=⟨_,rfl⟩
  have hR2:Hid (R=if c+9<(a-N-14)*(M+1) then 0 else 15):=by
   show _=_
   rw [← hR.out,← hN.out,← hM.out]
   by_cases h:c+9<Ge.room a b c
   ·have ho:Ge.ok a b c:=⟨HS.out,h⟩
    have h':c+9<(a-Ge.nd b c-14)*(Ge.ln b+1):=h
    unfold Ge.ck
    rw [if_pos ho,if_pos h']
   ·have ho:¬ Ge.ok a b c:=fun q=>h q.2
    have h':¬ c+9<(a-Ge.nd b c-14)*(Ge.ln b+1):=h
    unfold Ge.ck
    rw [if_neg ho,if_neg h']
  have KN:∀ y,Below w0.heap.size w0 y→Calls Tryz.prog 162 #[.agg #[.int .i64 a,.int .i64 b,.int .i64 c],.int .i64 c] y fun e w'=>e = .returned (.int .i64 N)∧Hid (Below w0.heap.size w0 w'):=fun y hy=>by
   rw [← hN.out]
   refine (need_in a b c c ⟨hb0,hb1⟩ ⟨by omega,hc1⟩ y).mono ?_
   rintro e w' ⟨rfl,hb⟩
   exact ⟨rfl,hy.trans (hb.mono hy.size)⟩
  have KL:∀ y,Below w0.heap.size w0 y→Calls Tryz.prog 163 #[.agg #[.int .i64 a,.int .i64 b,.int .i64 c]] y fun e w'=>e = .returned (.int .i64 M)∧Hid (Below w0.heap.size w0 w'):=fun y hy=>by
   rw [← hM.out]
   refine (lean_any a b c ⟨hb0,hb1⟩ y).mono ?_
   rintro e w' ⟨rfl,hb⟩
   exact ⟨rfl,hy.trans (hb.mono hy.size)⟩
  rw [hN.out] at h1
  rw [hM.out] at h2
  have h4:=h3
  unfold Ge.room at h4
  rw [hN.out,hM.out] at h4
  have hw1:IntKind.i64.wrap (c+9)=c+9:=IntWalk.i64_in _ ⟨by omega,by omega⟩
  have hw2:IntKind.i64.wrap (a-N)=a-N:=IntWalk.i64_in _ ⟨by omega,by omega⟩
  have hw3:IntKind.i64.wrap (a-N-14)=a-N-14:=IntWalk.i64_in _ ⟨by omega,by omega⟩
  have hw4:IntKind.i64.wrap (M+1)=M+1:=IntWalk.i64_in _ ⟨by omega,by omega⟩
  have hw5:IntKind.i64.wrap ((a-N-14)*(M+1))=(a-N-14)*(M+1):=IntWalk.i64_in _ ⟨by omega,by omega⟩
  obtain ⟨X,hX⟩:∃ X,(a-N-14)*(M+1)=X:=⟨_,rfl⟩
  rw [hX] at hw5
  have hR3:Hid (R=if c+9<X then 0 else 15):=by show _=_;rw [← hX];exact hR2.out
  clear h3 h4 hR2
  have hd:decide (Ge.sz a b c)=true:=decide_eq_true HS.out
  rw [hd]
  have BB:Hid (Below w0.heap.size w0 w1.drew):=Lib.hid B1.out.drew
  go_region_held3 (fun y=>y.cell? ⟨w.heap.size,0,none⟩=some (.int .i64 a)∧y.cell? ⟨w.heap.size,1,none⟩=some (.int .i64 b)∧y.cell? ⟨w.heap.size,2,none⟩=some (.int .i64 c))
   (exact HX.out _ (Hid.out (by assumption)))
   ((first
    | (go_at_call 162;refine (KN _ (Hid.out (by assumption))).mono ?_;rintro e1 w1 ⟨rfl,hb1⟩;clear BB;have BB:=hb1;clear hb1)
    | (go_at_call 163;refine (KL _ (Hid.out (by assumption))).mono ?_;rintro e1 w1 ⟨rfl,hb1⟩;clear BB;have BB:=hb1;clear hb1)))
  by_cases hx:c+9<X
  ·have hx':¬ X≤c+9:=by omega
   have hR0:R=0:=by rw [hR3.out,if_pos hx]
   go_wp2
   go_ret
   exact ⟨by first | rfl | (rw [hR0];rfl),B0.out.trans (BB.out.mono B0.out.size)⟩
  ·have hx':X≤c+9:=by omega
   have hR0:R=15:=by rw [hR3.out,if_neg hx]
   go_wp2
   go_ret
   exact ⟨by first | rfl | (rw [hR0];rfl),B0.out.trans (BB.out.mono B0.out.size)⟩
 ·have hd:decide (Ge.sz a b c)=false:=decide_eq_false hs
  have hR0:R=15:=by rw [← hR.out];unfold Ge.ck;exact if_neg (fun q=>hs q.1)
  rw [hd]
  go_quiet ((fail))
  go_wp2
  go_ret
  exact ⟨by rw [hR0];rfl,B0.out.trans ((below_dn B1.out nq).mono B0.out.size)⟩
end

/-! GeD:  -/
section
open Go.RowKit
theorem gbox (a b c:Int) (w:World):Hid (Below w.heap.size w (w.alloc (GBox a b c)))∧Hid (∀ y,Below (w.alloc (GBox a b c)).heap.size (w.alloc (GBox a b c)) y→Bx y w.heap.size a b c) :=
 ⟨(Below.refl _ w).alloc (Nat.le_refl _) _,fun _ hy=>(bx_of (heap_alloc_new w _)).old hy⟩
end
end Go.Proofs.YtnnalemboeccbaaGreatDoor

/-
  RgF, RgG, SpC, RgH (merged)
-/
import Derived.Test.YtnnalemboeccbaaGreatDoorRg1
import Derived.Test.YtnnalemboeccbaaGreatDoorSc3
import Derived.Test.YtnnalemboeccbaaGreatDoorDk2
import Derived.Test.YtnnalemboeccbaaGreatDoorSp1
import Derived.Test.YtnnalemboeccbaaGreatDoorSpI
import Derived.Great.BuildSlice
namespace Go.Proofs.YtnnalemboeccbaaGreatDoor

/-! RgF:  -/
section
open Go.RowKit
theorem ks4 {d lb rb cb:Nat} {ks:List Nat}:∀ k∈[d,lb,rb,cb],k∈d :: lb :: rb :: cb :: ks:=fun k hk=>by
 simp only [List.mem_cons,List.not_mem_nil,or_false] at hk ⊢
 rcases hk with h | h | h | h<;>simp [h]
theorem ks5 {d lb rb cb:Nat} {ks:List Nat}:∀ k∈ks,k∈d :: lb :: rb :: cb :: ks:=fun k hk=>by simp [hk]
end

/-! RgG:  -/
section
open Go.RowKit
theorem mv_chg {ks:List Nat} {w y z:World} {g:Nat} (h:Mv ks w y) (hc:Chg g y z) (hg:w.heap.size≤g):Mv ks w z :=
 ⟨hc.os.trans h.os,hc.tape.trans h.tape,hc.output.trans h.output,by rw [hc.size];exact h.size,fun k hk hn=>(hc.block k (by omega)).trans (h.block k hk hn)⟩
end

/-! SpC:  -/
section
open Go.RowKit
def SHdSay (o:Option Sp.G) (w:World) (e:Ending) (w':World):Prop:=e = .returned (.tuple #[GV (o.getD Sp.zero),.bool o.isSome])∧Hid (Below w.heap.size w w')
set_option maxHeartbeats 4000000 in
set_option maxRecDepth 100000 in
theorem sheld_gen (TT:TypeId) (vv:Value) (X:Int × Sc.S) (p:Option Addr) (n c:Nat) (w:World) (hGL:X.2.L.length≤900000)
  (hget:∀ y,Below w.heap.size w y→Calls Tryz.prog 100 #[.iface TT vv,.int .i64 1,.int .i64 0,.slice p n c] y (LGet X y)) :
  Calls Tryz.prog 82 #[.iface TT vv,.slice p n c] w (SHdSay (Sp.hd X) w):=by
 obtain ⟨Z,hZ⟩:∃ Z,Hid (GA ⟨0,0,0⟩=Z):=⟨_,rfl⟩
 have HZS:Hid (Z.size=3):=by show _=_;rw [← hZ.out];rfl
 have HZ1:Hid (Z.all (·.oneCell')=true):=by show _=_;rw [← hZ.out];simp [GA,Value.oneCell']
 have hz:=(zero_of_info Tryz.zeroGeo).1
 have HBT:=Lib.hid Tryz.builtGeo
 rw [hZ.out] at hz HBT
 have hzn:¬ Z = #[]:=fun h=>by have:=HZS.out;rw [h] at this;simp at this
 have hsz:=row_size Tryz.sizeGeo HZS
 have HZV:Hid (GV Sp.zero = .agg Z):=by show _=_;rw [← hZ.out,Sp.zero_is];rfl
 clear hZ
 obtain ⟨x1,kk,ee,nn,aa,L⟩:=X
 dsimp only at hGL
 have HGET:=Lib.hid hget
 obtain ⟨w0,hw0⟩:∃ x,x=w.alloc (.cells Z 67):=⟨_,rfl⟩
 have R0:Hid (w0.heap[w.heap.size]?=some (.cells Z 67 (0,0))):=by rw [hw0];exact heap_alloc_new w _
 have B0:Hid (Below w.heap.size w w0):=by rw [hw0];exact (Below.refl _ w).alloc (Nat.le_refl _) _
 have HR:Hid (∀ y,Below w0.heap.size w0 y→y.heap[w.heap.size]?=some (.cells Z 67 (0,0))):=fun y hy=>(hy.block _ (lt_of_block R0.out)).trans R0.out
 have HBW:Hid (∀ y,Below w0.heap.size w0 y→Below w.heap.size w y):=fun y hy=>B0.out.trans (hy.mono B0.out.size)
 have HLN:Hid (∀ q d',(Sv (⟨kk,ee,nn,aa,L⟩:Sc.S) q L.length d')=SV kk ee nn aa q L.length d'):=fun _ _=>rfl
 clear hget
 by_cases hx:x1=0
 case neg =>
  have HN:Hid (Sp.hd (x1,⟨kk,ee,nn,aa,L⟩)=none):=Sp.hd_1 hx
  have hb0:(x1==0)=false:=by simpa using hx
  have hb1:(x1 != 0)=true:=by simpa using hx
  clear hGL hx
  go_enter Tryz.func82,Tryz.ntmps82
  go_upto_region 1 with (fail)
  change Code.wp _ _ _ _ (w.alloc (.cells Z 67))
  rw [← hw0]
  clear hw0
  go_upto_region 2 with (go_at_call 100;refine (HGET.out _ B0.out).mono ?_;rintro e2 w2 ⟨u2,m2,d2,rfl,hm2,HO2,HS2,hb2⟩;have HB2:=Lib.hid hb2;have HN2:=Lib.hid hm2;clear hb2 hm2)
  obtain ⟨w3,hw3⟩:∃ y,y=w2.alloc (SO kk ee nn aa u2 m2 d2):=⟨_,rfl⟩
  have HB3:Hid (Below w0.heap.size w0 w3):=by rw [hw3];exact HB2.out.alloc HB2.out.size _
  have HS3:Hid (Bs w3 u2 d2 L):=by rw [hw3];exact HS2.out.old ((Below.refl _ w2).alloc (Nat.le_refl _) _)
  have HA3:Hid (SAt w3 w2.heap.size kk ee nn aa u2 m2 d2):=by rw [hw3];exact SAt.new w2 _ _ _ _ _ _ _
  change Code.wp _ _ _ _ (w2.alloc (SO kk ee nn aa u2 m2 d2))
  rw [← hw3]
  clear hw3 HO2 HS2 HGET HB2
  generalize w2.heap.size=gs at *
  have c2:=HA3.out.c2
  have c4:=HA3.out.c4
  go_wp2_with (first
   | ((with_reducible refine row_build0 _ _ HBT.out ?_))
   | ((with_reducible refine row_store _ _ _ _ _ _ _ ?_ ?_ (HR.out _ HB3.out) (row_size Tryz.sizeGeo HZS) ?_ HZ1.out ?_);(exact rfl);(exact rfl);(exact rfl);intro w9 G9 ch9))
  refine bodyPost_ret (results_cell_tmp rfl _ _ w.heap.size 67 Z (0,0) _ rfl G9 Tryz.underlying67 rfl (row_size Tryz.sizeGeo HZS)) rfl ⟨?_,ch9.below (HBW.out _ HB3.out) (Nat.le_refl _)⟩
  rw [HN.out]
  show _=Ending.returned (.tuple #[GV Sp.zero,.bool false])
  rw [HZV.out]
  rfl
 case pos =>
  subst hx
  by_cases hn:nn=0
  case neg =>
   have HN:Hid (Sp.hd (0,⟨kk,ee,nn,aa,L⟩)=none):=Sp.hd_2 rfl hn
   have hb0:(nn==0)=false:=by simpa using hn
   have hb1:(nn != 0)=true:=by simpa using hn
   clear hGL hn
   go_enter Tryz.func82,Tryz.ntmps82
   go_upto_region 1 with (fail)
   change Code.wp _ _ _ _ (w.alloc (.cells Z 67))
   rw [← hw0]
   clear hw0
   go_upto_region 2 with (go_at_call 100;refine (HGET.out _ B0.out).mono ?_;rintro e2 w2 ⟨u2,m2,d2,rfl,hm2,HO2,HS2,hb2⟩;have HB2:=Lib.hid hb2;have HN2:=Lib.hid hm2;clear hb2 hm2)
   obtain ⟨w3,hw3⟩:∃ y,y=w2.alloc (SO kk ee nn aa u2 m2 d2):=⟨_,rfl⟩
   have HB3:Hid (Below w0.heap.size w0 w3):=by rw [hw3];exact HB2.out.alloc HB2.out.size _
   have HS3:Hid (Bs w3 u2 d2 L):=by rw [hw3];exact HS2.out.old ((Below.refl _ w2).alloc (Nat.le_refl _) _)
   have HA3:Hid (SAt w3 w2.heap.size kk ee nn aa u2 m2 d2):=by rw [hw3];exact SAt.new w2 _ _ _ _ _ _ _
   change Code.wp _ _ _ _ (w2.alloc (SO kk ee nn aa u2 m2 d2))
   rw [← hw3]
   clear hw3 HO2 HS2 HGET HB2
   generalize w2.heap.size=gs at *
   have c2:=HA3.out.c2
   have c4:=HA3.out.c4
   go_wp2_with (first
    | ((with_reducible refine row_build0 _ _ HBT.out ?_))
    | ((with_reducible refine row_store _ _ _ _ _ _ _ ?_ ?_ (HR.out _ HB3.out) (row_size Tryz.sizeGeo HZS) ?_ HZ1.out ?_);(exact rfl);(exact rfl);(exact rfl);intro w9 G9 ch9))
   refine bodyPost_ret (results_cell_tmp rfl _ _ w.heap.size 67 Z (0,0) _ rfl G9 Tryz.underlying67 rfl (row_size Tryz.sizeGeo HZS)) rfl ⟨?_,ch9.below (HBW.out _ HB3.out) (Nat.le_refl _)⟩
   rw [HN.out]
   show _=Ending.returned (.tuple #[GV Sp.zero,.bool false])
   rw [HZV.out]
   rfl
  case pos =>
   subst hn
   have HF:Hid (∀ A b,GV (Sp.gt L) = .agg A→b=(Sp.er L==0)→Ending.returned (.tuple #[.agg A,.bool b])=Ending.returned (.tuple #[GV ((Sp.hd (0,⟨kk,ee,0,aa,L⟩)).getD Sp.zero),.bool (Sp.hd (0,⟨kk,ee,0,aa,L⟩)).isSome])):=fun A b h1 h2=>by
    by_cases h:Sp.er L=0
    ·rw [Sp.hd_4 (X:=(0,⟨kk,ee,0,aa,L⟩)) rfl rfl h,h2,← h1,h]
     rfl
    ·rw [Sp.hd_3 (X:=(0,⟨kk,ee,0,aa,L⟩)) rfl rfl h,h2,← h1,Sp.gt_none h]
     have h3:(Sp.er L==0)=false:=by simpa using h
     rw [h3]
     rfl
   obtain ⟨A,eA,hk⟩:=gk (Sp.gt L)
   have HAS:=Lib.hid hk.size
   have HA1:=Lib.hid hk.one
   have HG2:Hid (∀ y q n c,L.length=n→Bs y q c L→Calls Tryz.prog 132 #[.slice q n c] y (SGot L y)):=fun y q n c hn hy=>sget_any L q n c hn (by omega) y hy
   unfold SGot at HG2
   rw [eA] at HG2
   have HFF:=Lib.hid (fun b=>HF.out A b eA)
   clear HF hk eA hGL
   generalize Sp.er L=er at *
   go_enter Tryz.func82,Tryz.ntmps82
   go_upto_region 1 with (fail)
   change Code.wp _ _ _ _ (w.alloc (.cells Z 67))
   rw [← hw0]
   clear hw0
   go_upto_region 2 with (go_at_call 100;refine (HGET.out _ B0.out).mono ?_;rintro e2 w2 ⟨u2,m2,d2,rfl,hm2,HO2,HS2,hb2⟩;have HB2:=Lib.hid hb2;have HN2:=Lib.hid hm2;clear hb2 hm2)
   obtain ⟨w3,hw3⟩:∃ y,y=w2.alloc (SO kk ee 0 aa u2 m2 d2):=⟨_,rfl⟩
   have HB3:Hid (Below w0.heap.size w0 w3):=by rw [hw3];exact HB2.out.alloc HB2.out.size _
   have HS3:Hid (Bs w3 u2 d2 L):=by rw [hw3];exact HS2.out.old ((Below.refl _ w2).alloc (Nat.le_refl _) _)
   have HA3:Hid (SAt w3 w2.heap.size kk ee 0 aa u2 m2 d2):=by rw [hw3];exact SAt.new w2 _ _ _ _ _ _ _
   change Code.wp _ _ _ _ (w2.alloc (SO kk ee 0 aa u2 m2 d2))
   rw [← hw3]
   clear hw3 HO2 HS2 HGET HB2
   generalize w2.heap.size=gs at *
   have c2:=HA3.out.c2
   have c4:=HA3.out.c4
   go_upto_region 5 with (first
    | (go_at_call 132;refine (HG2.out _ _ _ _ HN2.out HS3.out).mono ?_;rintro e4 w4 ⟨rfl,HB4⟩)
    | ((with_reducible refine row_store _ _ _ _ _ _ _ ?_ ?_ (heap_alloc_new _ _) (row_size Tryz.sizeGeo HAS) ?_ HA1.out ?_);(exact rfl);(exact rfl);(rw [HAS.out,HZS.out]);intro w5 G5 ch5))
   have HB5:Hid (Below w0.heap.size w0 w5):=(HB3.out.trans ((ch5.below (HB4.out.alloc HB4.out.size _) HB4.out.size).mono HB3.out.size))
   clear ch5 HB4 HG2 c2 c4
   generalize w4.heap.size=gr at *
   go_wp2_with (first
    | ((with_reducible refine row_load _ _ _ _ _ _ _ ?_ G5.out Tryz.underlying67 ?_ (row_size Tryz.sizeGeo HAS) ?_);(exact rfl);(exact rfl))
    | ((with_reducible refine row_store _ _ _ _ _ _ _ ?_ ?_ (HR.out _ HB5.out) (row_size Tryz.sizeGeo HAS) ?_ HA1.out ?_);(exact rfl);(exact rfl);(rw [HAS.out,HZS.out]);intro w9 G9 ch9))
   refine bodyPost_ret (results_cell_tmp rfl _ _ w.heap.size 67 A (0,0) _ rfl G9 Tryz.underlying67 rfl (row_size Tryz.sizeGeo HAS)) rfl ⟨by first | exact HFF.out _ rfl | (have h:=HFF.out (er==0) rfl;exact h),ch9.below (HBW.out _ HB5.out) (Nat.le_refl _)⟩
end

/-! RgH:  -/
section
open Go.RowKit
namespace Rg
theorem rdX_same {m m':Dk.M} (h1:m'.n=m.n) (h2:m'.ls=m.ls) (h3:m'.ca=m.ca) (i:Int):Dk.rdX m' i=Dk.rdX m i∧Dk.here m' i=Dk.here m i:=by
 unfold Dk.rdX Dk.here Dk.peek
 rw [h1,h2,h3]
 exact ⟨rfl,rfl⟩
end Rg
end
end Go.Proofs.YtnnalemboeccbaaGreatDoor

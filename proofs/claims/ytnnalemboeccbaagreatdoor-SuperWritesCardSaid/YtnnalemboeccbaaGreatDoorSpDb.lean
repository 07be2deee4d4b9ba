import Derived.Test.YtnnalemboeccbaaGreatDoorSp2
namespace Go.Proofs.YtnnalemboeccbaaGreatDoor
open Go.RowKit
theorem msm_box (v:Value) (w:World):(method 396 33 v "Sum").run Tryz.prog w = .ok (242,v) w:=by kernel_rfl
theorem nsm_box (a:Addr) (w:World):(nilAhead 396 33 (.pointer (some a)) "Sum").run Tryz.prog w = .ok (some false) w:=by kernel_rfl
set_option maxHeartbeats 4000000 in
set_option maxRecDepth 100000 in
theorem swrite_no_box (a0:Addr) (gg:Sp.G) (e:Int) {T:Nat→Prop} {d lb rb cb:Nat} {m:Dk.M} (w:World) (hd:DkAt w T d lb rb cb m) (hc:Sp.ck gg=15) :
  Calls Tryz.prog 33 #[.pointer (some ⟨d,0,none⟩),.iface 33 (.pointer (some a0)),.int .i64 e,GV gg] w (SwSay Rg.z32 15 T d lb rb cb m [] (fun z=>Below w.heap.size w z) w):=by
 obtain ⟨S0,hS0⟩:∃ S0,Hid (sA Rg.z32=S0):=⟨_,rfl⟩
 have HSS:Hid (S0.size=32):=by show _=_;rw [← hS0.out];exact sa_size z32_len
 have HS1:Hid (S0.all (·.oneCell')=true):=by show _=_;rw [← hS0.out];exact sa_one _
 have hzs:=(zero_of_info Tryz.zeroSumS).1
 have HBS:=Lib.hid Tryz.builtSumS
 rw [hS0.out] at hzs HBS
 have hzsn:¬ S0 = #[]:=fun h=>by have:=HSS.out;rw [h] at this;simp at this
 have hszs:=row_size Tryz.sizeSum HSS
 have HSV:Hid (A32 Rg.z32 = .agg S0):=by show _=_;rw [← hS0.out,a32_is]
 clear hS0
 obtain ⟨A,eA,hk⟩:=gk gg
 have HAS:=Lib.hid hk.size
 have h1:=hk.one
 have HD:=Lib.hid hd
 have HLT:Hid (d<w.heap.size∧lb<w.heap.size∧rb<w.heap.size∧cb<w.heap.size):=⟨hd.top _ hd.lt.1,hd.top _ hd.lt.2.1,hd.top _ hd.lt.2.2.1,hd.top _ hd.lt.2.2.2⟩
 have HNT:Hid (∀ k,w.heap.size≤k→¬ T k):=fun k hk h=>by have:=hd.top k h;omega
 obtain ⟨w0,hw0⟩:∃ x,x=(w.alloc (.cells A 67)).alloc (.cells S0 39):=⟨_,rfl⟩
 have R0:Hid (w0.heap[w.heap.size]?=some (.cells A 67 (0,0))):=by rw [hw0];exact heap_alloc2_old w _ _
 have Z0:Hid (w0.heap[w.heap.size+1]?=some (.cells S0 39 (0,0))):=by rw [hw0];exact heap_alloc2_new w _ _
 have B0:Hid (Below w.heap.size w w0):=by rw [hw0];exact ((Below.refl _ w).alloc (Nat.le_refl _) _).alloc (by simp) _
 have HBW:Hid (∀ y,Below w0.heap.size w0 y→Below w.heap.size w y):=fun y hy=>B0.out.trans (hy.mono B0.out.size)
 have HZ:Hid (∀ y,Below w0.heap.size w0 y→y.heap[w.heap.size+1]?=some (.cells S0 39 (0,0))):=fun y hy=>(hy.block _ (lt_of_block Z0.out)).trans Z0.out
 have HZL:Hid (w.heap.size+1<w0.heap.size):=lt_of_block Z0.out
 have HP:Hid (∀ y,Calls Tryz.prog 75 #[.agg A] y (SPutNo y)):=fun y=>by rw [← eA];exact sput_no gg hc y
 rw [eA]
 clear hd hk eA hc
 go_enter Tryz.func33,Tryz.ntmps33
 go_upto_region 1 with (fail)
 change Code.wp _ _ _ _ ((w.alloc (.cells A 67)).alloc (.cells S0 39))
 rw [← hw0]
 clear hw0
 go_wp2_with (first
  | ((with_reducible refine row_load _ _ _ _ _ _ _ ?_ R0.out Tryz.underlying67 ?_ (row_size Tryz.sizeGeo HAS) ?_);(exact rfl);(exact rfl))
  | (go_at_call 75;refine (HP.out _).mono ?_;rintro e1 w1 ⟨rfl,HB1⟩)
  | ((with_reducible refine row_build0 _ _ HBS.out ?_))
  | ((with_reducible refine row_store _ _ _ _ _ _ _ ?_ ?_ (HZ.out _ HB1.out) (row_size Tryz.sizeSum HSS) ?_ HS1.out ?_);(exact rfl);(exact rfl);(exact rfl);intro w9 G9 ch9))
 refine bodyPost_ret (results_cell_tmp rfl _ _ (w.heap.size+1) 39 S0 (0,0) _ rfl G9 Tryz.underlying39 rfl (row_size Tryz.sizeSum HSS)) rfl ?_
 have HB9:Below w.heap.size w w9:=ch9.below (HBW.out _ HB1.out) (by omega)
 refine ⟨by rw [HSV.out];rfl,(HD.out.old HB9).own,Lib.hid (Mv.of_below HB9),HB9⟩
set_option maxHeartbeats 4000000 in
set_option maxRecDepth 100000 in
theorem swrite_er_box (a0:Addr) (gg:Sp.G) (e:Int) {T:Nat→Prop} {d lb rb cb:Nat} {m:Dk.M} (w:World) (hd:DkAt w T d lb rb cb m) (X:Int × List Int) (ks:List Nat) (P1:World→Prop) (hks:∀ k∈ks,¬ T k∧k<w.heap.size) (hc:Sp.ck gg=0)
  (hput:∀ y p c,Below w.heap.size w y→Bs y p c (Sp.pt gg)→Calls Tryz.prog 76 #[.iface 33 (.pointer (some a0)),SV 1 e 0 0 p 24 c] y (LPut X y (fun z=>P1 z∧Mv ks y z)))
  (hst:∀ y z k,P1 y→Only k y z→w.heap.size≤k→P1 z) (hx:X.1 ≠ 0) :
  Calls Tryz.prog 33 #[.pointer (some ⟨d,0,none⟩),.iface 33 (.pointer (some a0)),.int .i64 e,GV gg] w (SwSay Rg.z32 X.1 T d lb rb cb m ks P1 w):=by
 obtain ⟨S0,hS0⟩:∃ S0,Hid (sA Rg.z32=S0):=⟨_,rfl⟩
 have HSS:Hid (S0.size=32):=by show _=_;rw [← hS0.out];exact sa_size z32_len
 have HS1:Hid (S0.all (·.oneCell')=true):=by show _=_;rw [← hS0.out];exact sa_one _
 have hzs:=(zero_of_info Tryz.zeroSumS).1
 have HBS:=Lib.hid Tryz.builtSumS
 rw [hS0.out] at hzs HBS
 have hzsn:¬ S0 = #[]:=fun h=>by have:=HSS.out;rw [h] at this;simp at this
 have hszs:=row_size Tryz.sizeSum HSS
 have HSV:Hid (A32 Rg.z32 = .agg S0):=by show _=_;rw [← hS0.out,a32_is]
 clear hS0
 obtain ⟨A,eA,hk⟩:=gk gg
 have HAS:=Lib.hid hk.size
 have h1:=hk.one
 have HD:=Lib.hid hd
 have HLT:Hid (d<w.heap.size∧lb<w.heap.size∧rb<w.heap.size∧cb<w.heap.size):=⟨hd.top _ hd.lt.1,hd.top _ hd.lt.2.1,hd.top _ hd.lt.2.2.1,hd.top _ hd.lt.2.2.2⟩
 have HNT:Hid (∀ k,w.heap.size≤k→¬ T k):=fun k hk h=>by have:=hd.top k h;omega
 obtain ⟨w0,hw0⟩:∃ x,x=(w.alloc (.cells A 67)).alloc (.cells S0 39):=⟨_,rfl⟩
 have R0:Hid (w0.heap[w.heap.size]?=some (.cells A 67 (0,0))):=by rw [hw0];exact heap_alloc2_old w _ _
 have Z0:Hid (w0.heap[w.heap.size+1]?=some (.cells S0 39 (0,0))):=by rw [hw0];exact heap_alloc2_new w _ _
 have B0:Hid (Below w.heap.size w w0):=by rw [hw0];exact ((Below.refl _ w).alloc (Nat.le_refl _) _).alloc (by simp) _
 have HBW:Hid (∀ y,Below w0.heap.size w0 y→Below w.heap.size w y):=fun y hy=>B0.out.trans (hy.mono B0.out.size)
 have HZ:Hid (∀ y,Below w0.heap.size w0 y→y.heap[w.heap.size+1]?=some (.cells S0 39 (0,0))):=fun y hy=>(hy.block _ (lt_of_block Z0.out)).trans Z0.out
 have HZL:Hid (w.heap.size+1<w0.heap.size):=lt_of_block Z0.out
 have HP:Hid (∀ y,Calls Tryz.prog 75 #[.agg A] y (SPutYes (Sp.pt gg) y)):=fun y=>by rw [← eA];exact sput_yes gg hc y
 have HPUT:=Lib.hid hput
 have HST:=Lib.hid hst
 have HKS:=Lib.hid hks
 rw [eA]
 clear hput hst hd hk eA hc hks
 obtain ⟨x1,L⟩:=X
 dsimp only at hx HPUT ⊢
 have hb0:(x1==0)=false:=by simpa using hx
 have hb1:(x1 != 0)=true:=by simpa using hx
 clear hx
 go_enter Tryz.func33,Tryz.ntmps33
 go_upto_region 1 with (fail)
 change Code.wp _ _ _ _ ((w.alloc (.cells A 67)).alloc (.cells S0 39))
 rw [← hw0]
 clear hw0
 go_upto_region 4 with (first
  | ((with_reducible refine row_load _ _ _ _ _ _ _ ?_ R0.out Tryz.underlying67 ?_ (row_size Tryz.sizeGeo HAS) ?_);(exact rfl);(exact rfl))
  | (go_at_call 75;refine (HP.out _).mono ?_;rintro e1 w1 ⟨p1,c1,rfl,HO1,HS1',HB1⟩))
 go_upto_region 5 with (go_at_call 76;refine (HPUT.out _ _ _ (HBW.out _ HB1.out) HS1'.out).mono ?_;rintro e3 w3 ⟨u3,m3,d3,rfl,hm3,HO3,HS3,hP3,hM3⟩)
 have HP3:=Lib.hid hP3
 have HM3:=Lib.hid hM3
 have HN3:=Lib.hid hm3
 have HK3:Hid (Kp w.heap.size w1 w3):=Kp.of_mv HM3.out (fun k hk=>(HKS.out k hk).2)
 have HD3:Hid (DkAt w3 T d lb rb cb m):=(HD.out.old (HBW.out _ HB1.out)).mv HM3.out (fun k hk=>(HKS.out k hk).1)
 have HW3:Hid (w.heap.size≤w1.heap.size∧w1.heap.size≤w3.heap.size):=⟨(HBW.out _ HB1.out).size,HM3.out.size⟩
 have Z3:Hid (w3.heap[w.heap.size+1]?=some (.cells S0 39 (0,0))):=(HK3.out.block _ (by omega) (by have:=HZL.out;have:=HB1.out.size;omega)).trans (HZ.out _ HB1.out)
 have HMW:Hid (Mv (d :: lb :: rb :: cb :: ks) w w3):=(Mv.of_below (HBW.out _ HB1.out)).trans (HM3.out.more ks5)
 clear hP3 hM3 hm3 HZ HO1 HS1' HP HPUT R0 Z0
 go_wp2_with (first
  | ((with_reducible refine row_build0 _ _ HBS.out ?_))
  | ((with_reducible refine row_store _ _ _ _ _ _ _ ?_ ?_ Z3.out (row_size Tryz.sizeSum HSS) ?_ HS1.out ?_);(exact rfl);(exact rfl);(exact rfl);intro w9 G9 ch9))
 refine bodyPost_ret (results_cell_tmp rfl _ _ (w.heap.size+1) 39 S0 (0,0) _ rfl G9 Tryz.underlying39 rfl (row_size Tryz.sizeSum HSS)) rfl ?_
 refine ⟨by rw [HSV.out];rfl,?_,mv_chg HMW.out ch9 (by omega),HST.out _ _ _ HP3.out ch9.only (by omega)⟩
 exact (HD3.out.only ch9.only (HNT.out _ (by omega))).own
set_option maxHeartbeats 4000000 in
set_option maxRecDepth 100000 in
theorem swrite_dk_box (a0:Addr) (gg:Sp.G) (e:Int) {T:Nat→Prop} {d lb rb cb:Nat} {m:Dk.M} (w:World) (hd:DkAt w T d lb rb cb m) (X:Int × List Int) (ks:List Nat) (P1:World→Prop) (hks:∀ k∈ks,¬ T k∧k<w.heap.size) (hX:X.2.length≤1000000) (hwr:m.wr≤1000000000) (hc:Sp.ck gg=0)
  (hput:∀ y p c,Below w.heap.size w y→Bs y p c (Sp.pt gg)→Calls Tryz.prog 76 #[.iface 33 (.pointer (some a0)),SV 1 e 0 0 p 24 c] y (LPut X y (fun z=>P1 z∧Mv ks y z)))
  (hst:∀ y z k,P1 y→Only k y z→w.heap.size≤k→P1 z) (hmv:∀ y z,P1 y→Mv [d,lb,rb,cb] y z→P1 z) (hx:X.1=0) (hw:Dk.wrE m 0 X.2 ≠ 0) :
  Calls Tryz.prog 33 #[.pointer (some ⟨d,0,none⟩),.iface 33 (.pointer (some a0)),.int .i64 e,GV gg] w (SwSay Rg.z32 (Dk.wrE m 0 X.2) T d lb rb cb (Dk.wrM m 0 X.2) ks P1 w):=by
 obtain ⟨S0,hS0⟩:∃ S0,Hid (sA Rg.z32=S0):=⟨_,rfl⟩
 have HSS:Hid (S0.size=32):=by show _=_;rw [← hS0.out];exact sa_size z32_len
 have HS1:Hid (S0.all (·.oneCell')=true):=by show _=_;rw [← hS0.out];exact sa_one _
 have hzs:=(zero_of_info Tryz.zeroSumS).1
 have HBS:=Lib.hid Tryz.builtSumS
 rw [hS0.out] at hzs HBS
 have hzsn:¬ S0 = #[]:=fun h=>by have:=HSS.out;rw [h] at this;simp at this
 have hszs:=row_size Tryz.sizeSum HSS
 have HSV:Hid (A32 Rg.z32 = .agg S0):=by show _=_;rw [← hS0.out,a32_is]
 clear hS0
 obtain ⟨A,eA,hk⟩:=gk gg
 have HAS:=Lib.hid hk.size
 have h1:=hk.one
 have HD:=Lib.hid hd
 have HLT:Hid (d<w.heap.size∧lb<w.heap.size∧rb<w.heap.size∧cb<w.heap.size):=⟨hd.top _ hd.lt.1,hd.top _ hd.lt.2.1,hd.top _ hd.lt.2.2.1,hd.top _ hd.lt.2.2.2⟩
 have HNT:Hid (∀ k,w.heap.size≤k→¬ T k):=fun k hk h=>by have:=hd.top k h;omega
 obtain ⟨w0,hw0⟩:∃ x,x=(w.alloc (.cells A 67)).alloc (.cells S0 39):=⟨_,rfl⟩
 have R0:Hid (w0.heap[w.heap.size]?=some (.cells A 67 (0,0))):=by rw [hw0];exact heap_alloc2_old w _ _
 have Z0:Hid (w0.heap[w.heap.size+1]?=some (.cells S0 39 (0,0))):=by rw [hw0];exact heap_alloc2_new w _ _
 have B0:Hid (Below w.heap.size w w0):=by rw [hw0];exact ((Below.refl _ w).alloc (Nat.le_refl _) _).alloc (by simp) _
 have HBW:Hid (∀ y,Below w0.heap.size w0 y→Below w.heap.size w y):=fun y hy=>B0.out.trans (hy.mono B0.out.size)
 have HZ:Hid (∀ y,Below w0.heap.size w0 y→y.heap[w.heap.size+1]?=some (.cells S0 39 (0,0))):=fun y hy=>(hy.block _ (lt_of_block Z0.out)).trans Z0.out
 have HZL:Hid (w.heap.size+1<w0.heap.size):=lt_of_block Z0.out
 have HP:Hid (∀ y,Calls Tryz.prog 75 #[.agg A] y (SPutYes (Sp.pt gg) y)):=fun y=>by rw [← eA];exact sput_yes gg hc y
 have HPUT:=Lib.hid hput
 have HST:=Lib.hid hst
 have HKS:=Lib.hid hks
 rw [eA]
 have HMV:=Lib.hid hmv
 clear hmv hput hst hd hk eA hc hks
 obtain ⟨x1,L⟩:=X
 dsimp only at hX hx hw HPUT ⊢
 subst hx
 have HW:Hid (∀ z p n c,L.length=n→DkAt z T d lb rb cb m→Bs z p c L→Calls Tryz.prog 77 #[.pointer (some ⟨d,0,none⟩),.int .i64 0,.slice p n c] z (WSay T d lb rb cb (.int .i64 (Dk.wrE m 0 L)) (Dk.wrM m 0 L) z)):=fun z p n c hn hz hb=>write_any 0 L p n c hn (by omega) hwr z hz hb
 generalize Dk.wrE m 0 L=E at *
 generalize Dk.wrM m 0 L=M' at *
 have hb0:(E==0)=false:=by simpa using hw
 have hb1:(E != 0)=true:=by simpa using hw
 clear hX hwr hw
 go_enter Tryz.func33,Tryz.ntmps33
 go_upto_region 1 with (fail)
 change Code.wp _ _ _ _ ((w.alloc (.cells A 67)).alloc (.cells S0 39))
 rw [← hw0]
 clear hw0
 go_upto_region 4 with (first
  | ((with_reducible refine row_load _ _ _ _ _ _ _ ?_ R0.out Tryz.underlying67 ?_ (row_size Tryz.sizeGeo HAS) ?_);(exact rfl);(exact rfl))
  | (go_at_call 75;refine (HP.out _).mono ?_;rintro e1 w1 ⟨p1,c1,rfl,HO1,HS1',HB1⟩))
 go_upto_region 5 with (go_at_call 76;refine (HPUT.out _ _ _ (HBW.out _ HB1.out) HS1'.out).mono ?_;rintro e3 w3 ⟨u3,m3,d3,rfl,hm3,HO3,HS3,hP3,hM3⟩)
 have HP3:=Lib.hid hP3
 have HM3:=Lib.hid hM3
 have HN3:=Lib.hid hm3
 have HK3:Hid (Kp w.heap.size w1 w3):=Kp.of_mv HM3.out (fun k hk=>(HKS.out k hk).2)
 have HD3:Hid (DkAt w3 T d lb rb cb m):=(HD.out.old (HBW.out _ HB1.out)).mv HM3.out (fun k hk=>(HKS.out k hk).1)
 have HW3:Hid (w.heap.size≤w1.heap.size∧w1.heap.size≤w3.heap.size):=⟨(HBW.out _ HB1.out).size,HM3.out.size⟩
 have Z3:Hid (w3.heap[w.heap.size+1]?=some (.cells S0 39 (0,0))):=(HK3.out.block _ (by omega) (by have:=HZL.out;have:=HB1.out.size;omega)).trans (HZ.out _ HB1.out)
 have HMW:Hid (Mv (d :: lb :: rb :: cb :: ks) w w3):=(Mv.of_below (HBW.out _ HB1.out)).trans (HM3.out.more ks5)
 clear hP3 hM3 hm3 HZ HO1 HS1' HP HPUT R0 Z0
 go_upto_region 8 with (go_at_call 77;refine (HW.out _ _ _ _ HN3.out HD3.out HS3.out).mono ?_;rintro e4 w4 ⟨rfl,HD4,HM4⟩)
 have HK4:Hid (Kp w.heap.size w3 w4):=Kp.of_mv HM4.out (fun k hk=>by
  have:=HLT.out
  simp only [List.mem_cons,List.not_mem_nil,or_false] at hk
  rcases hk with rfl | rfl | rfl | rfl<;>omega)
 have Z4:Hid (w4.heap[w.heap.size+1]?=some (.cells S0 39 (0,0))):=(HK4.out.block _ (by omega) (lt_of_block Z3.out)).trans Z3.out
 have HMX:Hid (Mv (d :: lb :: rb :: cb :: ks) w w4):=HMW.out.trans (HM4.out.more ks4)
 have HP4:Hid (P1 w4):=HMV.out _ _ HP3.out HM4.out
 have HW4:Hid (w3.heap.size≤w4.heap.size):=HM4.out.size
 have HNO:Hid (∀ k,k<w3.heap.size→¬ T k→¬ Own T w3 w4 k):=fun k h1 h2 h=>by
  rcases h with h | h
  ·exact h2 h
  ·omega
 have HUP:Hid (∀ y m',w4.heap.size≤y.heap.size→DkAt y (Own T w3 w4) d lb rb cb m'→DkAt y (Own T w y) d lb rb cb m'):=fun y m' hy hd=>hd.lift (fun g hg=>by
  rcases hg with h | h
  ·exact Or.inl h
  ·have:=HW3.out;exact Or.inr ⟨by omega,by omega⟩) (fun g hg=>by
  rcases hg with h | h
  ·exact hd.top g (Or.inl h)
  ·exact h.2)
 go_wp2_with (first
  | ((with_reducible refine row_build0 _ _ HBS.out ?_))
  | ((with_reducible refine row_store _ _ _ _ _ _ _ ?_ ?_ Z4.out (row_size Tryz.sizeSum HSS) ?_ HS1.out ?_);(exact rfl);(exact rfl);(exact rfl);intro w9 G9 ch9))
 refine bodyPost_ret (results_cell_tmp rfl _ _ (w.heap.size+1) 39 S0 (0,0) _ rfl G9 Tryz.underlying39 rfl (row_size Tryz.sizeSum HSS)) rfl ?_
 refine ⟨by rw [HSV.out];rfl,?_,mv_chg HMX.out ch9 (by omega),HST.out _ _ _ HP4.out ch9.only (by omega)⟩
 exact HUP.out _ _ (Nat.le_of_eq ch9.size.symm) (HD4.out.only ch9.only (HNO.out _ (lt_of_block Z3.out) (HNT.out _ (by omega))))
set_option maxHeartbeats 4000000 in
set_option maxRecDepth 100000 in
theorem swrite_ok_box (a0:Addr) (gg:Sp.G) (e:Int) {T:Nat→Prop} {d lb rb cb:Nat} {m:Dk.M} (w:World) (hd:DkAt w T d lb rb cb m) (X:Int × List Int) (ks:List Nat) (P1:World→Prop) (hks:∀ k∈ks,¬ T k∧k<w.heap.size) (hX:X.2.length≤1000000) (hwr:m.wr≤1000000000) (hc:Sp.ck gg=0)
  (hput:∀ y p c,Below w.heap.size w y→Bs y p c (Sp.pt gg)→Calls Tryz.prog 76 #[.iface 33 (.pointer (some a0)),SV 1 e 0 0 p 24 c] y (LPut X y (fun z=>P1 z∧Mv ks y z)))
  (hst:∀ y z k,P1 y→Only k y z→w.heap.size≤k→P1 z) (hmv:∀ y z,P1 y→Mv [d,lb,rb,cb] y z→P1 z) (SM:List Int) (P2:World→Prop) (hsl:SM.length=32)
  (hsum:∀ z p n c,P1 z→X.2.length=n→Bs z p c X.2→Calls Tryz.prog 242 #[.pointer (some a0),.slice p n c] z (fun r z'=>r = .returned (A32 SM)∧P2 z'∧Mv ks z z'))
  (hst2:∀ y z k,P2 y→Only k y z→w.heap.size≤k→P2 z) (hx:X.1=0) (hw:Dk.wrE m 0 X.2=0) :
  Calls Tryz.prog 33 #[.pointer (some ⟨d,0,none⟩),.iface 33 (.pointer (some a0)),.int .i64 e,GV gg] w (SwSay SM 0 T d lb rb cb (Dk.wrM m 0 X.2) ks P2 w):=by
 obtain ⟨S0,hS0⟩:∃ S0,Hid (sA Rg.z32=S0):=⟨_,rfl⟩
 have HSS:Hid (S0.size=32):=by show _=_;rw [← hS0.out];exact sa_size z32_len
 have HS1:Hid (S0.all (·.oneCell')=true):=by show _=_;rw [← hS0.out];exact sa_one _
 have hzs:=(zero_of_info Tryz.zeroSumS).1
 have HBS:=Lib.hid Tryz.builtSumS
 rw [hS0.out] at hzs HBS
 have hzsn:¬ S0 = #[]:=fun h=>by have:=HSS.out;rw [h] at this;simp at this
 have hszs:=row_size Tryz.sizeSum HSS
 have HSV:Hid (A32 Rg.z32 = .agg S0):=by show _=_;rw [← hS0.out,a32_is]
 clear hS0
 obtain ⟨A,eA,hk⟩:=gk gg
 have HAS:=Lib.hid hk.size
 have h1:=hk.one
 have HD:=Lib.hid hd
 have HLT:Hid (d<w.heap.size∧lb<w.heap.size∧rb<w.heap.size∧cb<w.heap.size):=⟨hd.top _ hd.lt.1,hd.top _ hd.lt.2.1,hd.top _ hd.lt.2.2.1,hd.top _ hd.lt.2.2.2⟩
 have HNT:Hid (∀ k,w.heap.size≤k→¬ T k):=fun k hk h=>by have:=hd.top k h;omega
 obtain ⟨w0,hw0⟩:∃ x,x=(w.alloc (.cells A 67)).alloc (.cells S0 39):=⟨_,rfl⟩
 have R0:Hid (w0.heap[w.heap.size]?=some (.cells A 67 (0,0))):=by rw [hw0];exact heap_alloc2_old w _ _
 have Z0:Hid (w0.heap[w.heap.size+1]?=some (.cells S0 39 (0,0))):=by rw [hw0];exact heap_alloc2_new w _ _
 have B0:Hid (Below w.heap.size w w0):=by rw [hw0];exact ((Below.refl _ w).alloc (Nat.le_refl _) _).alloc (by simp) _
 have HBW:Hid (∀ y,Below w0.heap.size w0 y→Below w.heap.size w y):=fun y hy=>B0.out.trans (hy.mono B0.out.size)
 have HZ:Hid (∀ y,Below w0.heap.size w0 y→y.heap[w.heap.size+1]?=some (.cells S0 39 (0,0))):=fun y hy=>(hy.block _ (lt_of_block Z0.out)).trans Z0.out
 have HZL:Hid (w.heap.size+1<w0.heap.size):=lt_of_block Z0.out
 have HP:Hid (∀ y,Calls Tryz.prog 75 #[.agg A] y (SPutYes (Sp.pt gg) y)):=fun y=>by rw [← eA];exact sput_yes gg hc y
 have HPUT:=Lib.hid hput
 have HST:=Lib.hid hst
 have HKS:=Lib.hid hks
 rw [eA]
 have HMV:=Lib.hid hmv
 have HSUM:=Lib.hid hsum
 have HST2:=Lib.hid hst2
 have HQS:=Lib.hid (sa_size hsl)
 have HQ1:=Lib.hid (sa_one SM)
 have HQV:=Lib.hid (a32_is SM)
 clear hsl hsum hst2 hmv hput hst hd hk eA hc hks
 obtain ⟨x1,L⟩:=X
 dsimp only at hX hx hw HSUM HPUT ⊢
 subst hx
 have HW:Hid (∀ z p n c,L.length=n→DkAt z T d lb rb cb m→Bs z p c L→Calls Tryz.prog 77 #[.pointer (some ⟨d,0,none⟩),.int .i64 0,.slice p n c] z (WSay T d lb rb cb (.int .i64 (Dk.wrE m 0 L)) (Dk.wrM m 0 L) z)):=fun z p n c hn hz hb=>write_any 0 L p n c hn (by omega) hwr z hz hb
 rw [hw] at HW
 rw [HQV.out] at HSUM
 generalize Dk.wrM m 0 L=M' at *
 generalize hQ:sA SM=Q at *
 have ms:=msm_box
 have mn:=nsm_box
 clear hX hwr hw
 go_enter Tryz.func33,Tryz.ntmps33
 go_upto_region 1 with (fail)
 change Code.wp _ _ _ _ ((w.alloc (.cells A 67)).alloc (.cells S0 39))
 rw [← hw0]
 clear hw0
 go_upto_region 4 with (first
  | ((with_reducible refine row_load _ _ _ _ _ _ _ ?_ R0.out Tryz.underlying67 ?_ (row_size Tryz.sizeGeo HAS) ?_);(exact rfl);(exact rfl))
  | (go_at_call 75;refine (HP.out _).mono ?_;rintro e1 w1 ⟨p1,c1,rfl,HO1,HS1',HB1⟩))
 go_upto_region 5 with (go_at_call 76;refine (HPUT.out _ _ _ (HBW.out _ HB1.out) HS1'.out).mono ?_;rintro e3 w3 ⟨u3,m3,d3,rfl,hm3,HO3,HS3,hP3,hM3⟩)
 have HP3:=Lib.hid hP3
 have HM3:=Lib.hid hM3
 have HN3:=Lib.hid hm3
 have HK3:Hid (Kp w.heap.size w1 w3):=Kp.of_mv HM3.out (fun k hk=>(HKS.out k hk).2)
 have HD3:Hid (DkAt w3 T d lb rb cb m):=(HD.out.old (HBW.out _ HB1.out)).mv HM3.out (fun k hk=>(HKS.out k hk).1)
 have HW3:Hid (w.heap.size≤w1.heap.size∧w1.heap.size≤w3.heap.size):=⟨(HBW.out _ HB1.out).size,HM3.out.size⟩
 have Z3:Hid (w3.heap[w.heap.size+1]?=some (.cells S0 39 (0,0))):=(HK3.out.block _ (by omega) (by have:=HZL.out;have:=HB1.out.size;omega)).trans (HZ.out _ HB1.out)
 have HMW:Hid (Mv (d :: lb :: rb :: cb :: ks) w w3):=(Mv.of_below (HBW.out _ HB1.out)).trans (HM3.out.more ks5)
 clear hP3 hM3 hm3 HZ HO1 HS1' HP HPUT R0 Z0
 go_upto_region 8 with (go_at_call 77;refine (HW.out _ _ _ _ HN3.out HD3.out HS3.out).mono ?_;rintro e4 w4 ⟨rfl,HD4,HM4⟩)
 have HK4:Hid (Kp w.heap.size w3 w4):=Kp.of_mv HM4.out (fun k hk=>by
  have:=HLT.out
  simp only [List.mem_cons,List.not_mem_nil,or_false] at hk
  rcases hk with rfl | rfl | rfl | rfl<;>omega)
 have Z4:Hid (w4.heap[w.heap.size+1]?=some (.cells S0 39 (0,0))):=(HK4.out.block _ (by omega) (lt_of_block Z3.out)).trans Z3.out
 have HMX:Hid (Mv (d :: lb :: rb :: cb :: ks) w w4):=HMW.out.trans (HM4.out.more ks4)
 have HP4:Hid (P1 w4):=HMV.out _ _ HP3.out HM4.out
 have HW4:Hid (w3.heap.size≤w4.heap.size):=HM4.out.size
 have HNO:Hid (∀ k,k<w3.heap.size→¬ T k→¬ Own T w3 w4 k):=fun k h1 h2 h=>by
  rcases h with h | h
  ·exact h2 h
  ·omega
 have HUP:Hid (∀ y m',w4.heap.size≤y.heap.size→DkAt y (Own T w3 w4) d lb rb cb m'→DkAt y (Own T w y) d lb rb cb m'):=fun y m' hy hd=>hd.lift (fun g hg=>by
  rcases hg with h | h
  ·exact Or.inl h
  ·have:=HW3.out;exact Or.inr ⟨by omega,by omega⟩) (fun g hg=>by
  rcases hg with h | h
  ·exact hd.top g (Or.inl h)
  ·exact h.2)
 have HS4:Hid (Bs w4 u3 d3 L):=by
  obtain ⟨p5,c5,hv,hb,_⟩:=own_bs (own_kp HO3.out HK4.out HW3.out.1) HS3.out.bat.1
  injection hv with q1 q2 q3
  subst q1
  subst q3
  exact hb
 clear HS3 HO3
 go_wp2_with (first
  | (go_at_call 242;refine (HSUM.out _ _ _ _ HP4.out HN3.out HS4.out).mono ?_;rintro e5 w5 ⟨rfl,hP5,hM5⟩;have HP5:=Lib.hid hP5;have HM5:=Lib.hid hM5;have Z5:Hid (w5.heap[w.heap.size+1]?=some (.cells S0 39 (0,0))):=(HM5.out.block _ (lt_of_block Z4.out) (fun h=>by have:=(HKS.out _ h).2;omega)).trans Z4.out)
  | ((with_reducible refine row_store _ _ _ _ _ _ _ ?_ ?_ Z5.out (row_size Tryz.sizeSum HQS) ?_ HQ1.out ?_);(exact rfl);(exact rfl);(rw [HQS.out,HSS.out]);intro w9 G9 ch9))
 refine bodyPost_ret (results_cell_tmp rfl _ _ (w.heap.size+1) 39 Q (0,0) _ rfl G9 Tryz.underlying39 rfl (row_size Tryz.sizeSum HQS)) rfl ?_
 refine ⟨by rw [HQV.out];rfl,?_,mv_chg (HMX.out.trans (HM5.out.more ks5)) ch9 (by omega),HST2.out _ _ _ HP5.out ch9.only (by omega)⟩
 have HD5:=HD4.out.mv HM5.out (fun k hk=>HNO.out k (by have:=(HKS.out k hk).2;have:=HW3.out;omega) (HKS.out k hk).1)
 exact HUP.out _ _ (Nat.le_trans HM5.out.size (Nat.le_of_eq ch9.size.symm)) (HD5.only ch9.only (HNO.out _ (lt_of_block Z3.out) (HNT.out _ (by omega))))
set_option maxHeartbeats 4000000 in
set_option maxRecDepth 100000 in
theorem sread_none_box (a0:Addr) {T:Nat→Prop} {d lb rb cb:Nat} {m:Dk.M} (w:World) (hd:DkAt w T d lb rb cb m) (hrd:∀ j,m.rd j≤1000000000) (P:World→Prop) (hp:P w) (hmv:∀ y z,P y→Mv [d,lb,rb,cb] y z→P z) (hst:∀ y z k,P y→Only k y z→w.heap.size≤k→P z) (hb:Dk.rdX m 0 = []) :
  Calls Tryz.prog 37 #[.pointer (some ⟨d,0,none⟩),.iface 33 (.pointer (some a0))] w (SrSay Sp.zero Rg.z32 9 T d lb rb cb (Dk.rdM m 0) [] P w):=by
 obtain ⟨Z,hZ⟩:∃ Z,Hid (GA ⟨0,0,0⟩=Z):=⟨_,rfl⟩
 have HZS:Hid (Z.size=3):=by show _=_;rw [← hZ.out];rfl
 have HZ1:Hid (Z.all (·.oneCell')=true):=by show _=_;rw [← hZ.out];simp [GA,Value.oneCell']
 have hz:=(zero_of_info Tryz.zeroGeo).1
 have HBT:=Lib.hid Tryz.builtGeo
 rw [hZ.out] at hz HBT
 have hzn:¬ Z = #[]:=fun h=>by have:=HZS.out;rw [h] at this;simp at this
 have hsz:=row_size Tryz.sizeGeo HZS
 have HZV:Hid (GV Sp.zero = .agg Z):=by show _=_;rw [← hZ.out,Sp.zero_is];rfl
 clear hZ
 obtain ⟨S0,hS0⟩:∃ S0,Hid (sA Rg.z32=S0):=⟨_,rfl⟩
 have HSS:Hid (S0.size=32):=by show _=_;rw [← hS0.out];exact sa_size z32_len
 have HS1:Hid (S0.all (·.oneCell')=true):=by show _=_;rw [← hS0.out];exact sa_one _
 have hzs:=(zero_of_info Tryz.zeroSumS).1
 have HBS:=Lib.hid Tryz.builtSumS
 rw [hS0.out] at hzs HBS
 have hzsn:¬ S0 = #[]:=fun h=>by have:=HSS.out;rw [h] at this;simp at this
 have hszs:=row_size Tryz.sizeSum HSS
 have HSV:Hid (A32 Rg.z32 = .agg S0):=by show _=_;rw [← hS0.out,a32_is]
 clear hS0
 have HD:=Lib.hid hd
 have HST:=Lib.hid hst
 have HMV:=Lib.hid hmv
 have HPW:=Lib.hid hp
 have HNT:Hid (∀ k,w.heap.size≤k→¬ T k):=fun k hk h=>by have:=hd.top k h;omega
 have HLT:Hid (∀ k∈[d,lb,rb,cb],k<w.heap.size):=fun k hk=>by
  simp only [List.mem_cons,List.not_mem_nil,or_false] at hk
  rcases hk with rfl | rfl | rfl | rfl
  ·exact hd.top _ hd.lt.1
  ·exact hd.top _ hd.lt.2.1
  ·exact hd.top _ hd.lt.2.2.1
  ·exact hd.top _ hd.lt.2.2.2
 obtain ⟨w0,hw0⟩:∃ x,x=(w.alloc (.cells Z 67)).alloc (.cells S0 39):=⟨_,rfl⟩
 have R0:Hid (w0.heap[w.heap.size]?=some (.cells Z 67 (0,0))):=by rw [hw0];exact heap_alloc2_old w _ _
 have Z0:Hid (w0.heap[w.heap.size+1]?=some (.cells S0 39 (0,0))):=by rw [hw0];exact heap_alloc2_new w _ _
 have B0:Hid (Below w.heap.size w w0):=by rw [hw0];exact ((Below.refl _ w).alloc (Nat.le_refl _) _).alloc (by simp) _
 have HRD:Hid (Calls Tryz.prog 17 #[.pointer (some ⟨d,0,none⟩),.int .i64 0] w0 (RdSayD T d lb rb cb m 0 w0)):=read_anyD 0 w0 (hd.old B0.out) hrd
 have HKP:Hid (∀ y,Mv [d,lb,rb,cb] w0 y→y.heap[w.heap.size]?=some (.cells Z 67 (0,0))∧y.heap[w.heap.size+1]?=some (.cells S0 39 (0,0))):=fun y hy =>
  ⟨(hy.block _ (lt_of_block R0.out) (fun h=>by have:=HLT.out _ h;omega)).trans R0.out,(hy.block _ (lt_of_block Z0.out) (fun h=>by have:=HLT.out _ h;omega)).trans Z0.out⟩
 have HP0:Hid (P w0):=hst w w0 w.heap.size hp (only_of_below B0.out) (Nat.le_refl _)
 have HVB:Hid (∀ (y:World) (v:Value),y.ownsRow w0.heap.size 5 1 v (Dk.rdX m 0).length (U8s (Dk.rdX m 0))∧Sha.Byt (Dk.rdX m 0)→∃ p c,v = .slice p (Dk.rdX m 0).length c∧Bs y p c (Dk.rdX m 0)):=fun y v hv=>by
  obtain ⟨p,c,h1,h2,_⟩:=own_bs hv.1 hv.2
  exact ⟨p,c,h1,h2⟩
 unfold RdSayD at HRD
 clear hd hst hmv hp hrd
 rw [hb] at HVB HRD
 have HVB:Hid (∀ (y:World) (v:Value),y.ownsRow w0.heap.size 5 1 v ([]:List Int).length (U8s [])∧Sha.Byt []→∃ p c,v = .slice p 0 c∧Bs y p c []):=HVB
 go_enter Tryz.func37,Tryz.ntmps37
 go_upto_region 1 with (fail)
 change Code.wp _ _ _ _ ((w.alloc (.cells Z 67)).alloc (.cells S0 39))
 rw [← hw0]
 clear hw0
 go_upto_region 2 with (go_at_call 17;refine HRD.out.mono ?_;rintro e1 w1 ⟨v1,rfl,hv1,HD1,HM1⟩;obtain ⟨q1,c1,hq1,hB1⟩:=HVB.out _ _ hv1.out;subst hq1;have HB1:=Lib.hid hB1;clear hB1 hv1)
 have K1:=Lib.hid (HKP.out _ HM1.out)
 have HP1:Hid (P w1):=HMV.out _ _ HP0.out HM1.out
 have HMW:Hid (Mv [d,lb,rb,cb] w w1):=(Mv.of_below B0.out).trans HM1.out
 have HL1:Hid (w.heap.size+1<w1.heap.size):=lt_of_block K1.out.2
 clear HRD HVB HKP HP0 R0 Z0
 go_wp2_with (first
  | ((with_reducible refine row_build0 _ _ HBT.out ?_))
  | ((with_reducible refine row_build0 _ _ HBS.out ?_))
  | ((with_reducible refine row_store _ _ _ _ _ _ _ ?_ ?_ ((ch8.block _ (by omega)).trans K1.out.2) (row_size Tryz.sizeSum HSS) ?_ HS1.out ?_);(exact rfl);(exact rfl);(exact rfl);intro w9 G9 ch9)
  | ((with_reducible refine row_store _ _ _ _ _ _ _ ?_ ?_ K1.out.1 (row_size Tryz.sizeGeo HZS) ?_ HZ1.out ?_);(exact rfl);(exact rfl);(exact rfl);intro w8 G8 ch8))
 have e8:w9.heap[w.heap.size]?=some (.cells Z 67 (0,0)):=(ch9.block _ (by omega)).trans G8.out
 refine bodyPost_ret (results_cell2_tmp rfl _ _ w.heap.size 67 Z (0,0) _ (w.heap.size+1) 39 S0 (0,0) _ rfl e8 Tryz.underlying67 rfl (row_size Tryz.sizeGeo HZS) rfl G9 Tryz.underlying39 rfl (row_size Tryz.sizeSum HSS)) rfl ?_
 refine ⟨by rw [HSV.out,HZV.out];rfl,?_,mv_chg (mv_chg (HMW.out.more ks4) ch8 (Nat.le_refl _)) ch9 (by omega),HST.out _ _ _ (HST.out _ _ _ HP1.out ch8.only (Nat.le_refl _)) ch9.only (by omega)⟩
 exact ((HD1.out.only ch8.only (HNT.out _ (Nat.le_refl _))).only ch9.only (HNT.out _ (by omega))).own
set_option maxHeartbeats 4000000 in
set_option maxRecDepth 100000 in
theorem sread_bad_box (a0:Addr) {T:Nat→Prop} {d lb rb cb:Nat} {m:Dk.M} (w:World) (hd:DkAt w T d lb rb cb m) (hrd:∀ j,m.rd j≤1000000000) (P:World→Prop) (hp:P w) (hmv:∀ y z,P y→Mv [d,lb,rb,cb] y z→P z) (hst:∀ y z k,P y→Only k y z→w.heap.size≤k→P z) (X:Int × Sc.S) (hGL:X.2.L.length≤900000) (hb:0<(Dk.rdX m 0).length)
  (hget:∀ z q n c,P z→(Dk.rdX m 0).length=n→Bs z q c (Dk.rdX m 0)→Calls Tryz.prog 100 #[.iface 33 (.pointer (some a0)),.int .i64 1,.int .i64 0,.slice q n c] z (LGet X z)) (hn:Sp.hd X=none) :
  Calls Tryz.prog 37 #[.pointer (some ⟨d,0,none⟩),.iface 33 (.pointer (some a0))] w (SrSay Sp.zero Rg.z32 14 T d lb rb cb (Dk.rdM m 0) [] P w):=by
 obtain ⟨Z,hZ⟩:∃ Z,Hid (GA ⟨0,0,0⟩=Z):=⟨_,rfl⟩
 have HZS:Hid (Z.size=3):=by show _=_;rw [← hZ.out];rfl
 have HZ1:Hid (Z.all (·.oneCell')=true):=by show _=_;rw [← hZ.out];simp [GA,Value.oneCell']
 have hz:=(zero_of_info Tryz.zeroGeo).1
 have HBT:=Lib.hid Tryz.builtGeo
 rw [hZ.out] at hz HBT
 have hzn:¬ Z = #[]:=fun h=>by have:=HZS.out;rw [h] at this;simp at this
 have hsz:=row_size Tryz.sizeGeo HZS
 have HZV:Hid (GV Sp.zero = .agg Z):=by show _=_;rw [← hZ.out,Sp.zero_is];rfl
 clear hZ
 obtain ⟨S0,hS0⟩:∃ S0,Hid (sA Rg.z32=S0):=⟨_,rfl⟩
 have HSS:Hid (S0.size=32):=by show _=_;rw [← hS0.out];exact sa_size z32_len
 have HS1:Hid (S0.all (·.oneCell')=true):=by show _=_;rw [← hS0.out];exact sa_one _
 have hzs:=(zero_of_info Tryz.zeroSumS).1
 have HBS:=Lib.hid Tryz.builtSumS
 rw [hS0.out] at hzs HBS
 have hzsn:¬ S0 = #[]:=fun h=>by have:=HSS.out;rw [h] at this;simp at this
 have hszs:=row_size Tryz.sizeSum HSS
 have HSV:Hid (A32 Rg.z32 = .agg S0):=by show _=_;rw [← hS0.out,a32_is]
 clear hS0
 have HD:=Lib.hid hd
 have HST:=Lib.hid hst
 have HMV:=Lib.hid hmv
 have HPW:=Lib.hid hp
 have HNT:Hid (∀ k,w.heap.size≤k→¬ T k):=fun k hk h=>by have:=hd.top k h;omega
 have HLT:Hid (∀ k∈[d,lb,rb,cb],k<w.heap.size):=fun k hk=>by
  simp only [List.mem_cons,List.not_mem_nil,or_false] at hk
  rcases hk with rfl | rfl | rfl | rfl
  ·exact hd.top _ hd.lt.1
  ·exact hd.top _ hd.lt.2.1
  ·exact hd.top _ hd.lt.2.2.1
  ·exact hd.top _ hd.lt.2.2.2
 obtain ⟨w0,hw0⟩:∃ x,x=(w.alloc (.cells Z 67)).alloc (.cells S0 39):=⟨_,rfl⟩
 have R0:Hid (w0.heap[w.heap.size]?=some (.cells Z 67 (0,0))):=by rw [hw0];exact heap_alloc2_old w _ _
 have Z0:Hid (w0.heap[w.heap.size+1]?=some (.cells S0 39 (0,0))):=by rw [hw0];exact heap_alloc2_new w _ _
 have B0:Hid (Below w.heap.size w w0):=by rw [hw0];exact ((Below.refl _ w).alloc (Nat.le_refl _) _).alloc (by simp) _
 have HRD:Hid (Calls Tryz.prog 17 #[.pointer (some ⟨d,0,none⟩),.int .i64 0] w0 (RdSayD T d lb rb cb m 0 w0)):=read_anyD 0 w0 (hd.old B0.out) hrd
 have HKP:Hid (∀ y,Mv [d,lb,rb,cb] w0 y→y.heap[w.heap.size]?=some (.cells Z 67 (0,0))∧y.heap[w.heap.size+1]?=some (.cells S0 39 (0,0))):=fun y hy =>
  ⟨(hy.block _ (lt_of_block R0.out) (fun h=>by have:=HLT.out _ h;omega)).trans R0.out,(hy.block _ (lt_of_block Z0.out) (fun h=>by have:=HLT.out _ h;omega)).trans Z0.out⟩
 have HP0:Hid (P w0):=hst w w0 w.heap.size hp (only_of_below B0.out) (Nat.le_refl _)
 have HVB:Hid (∀ (y:World) (v:Value),y.ownsRow w0.heap.size 5 1 v (Dk.rdX m 0).length (U8s (Dk.rdX m 0))∧Sha.Byt (Dk.rdX m 0)→∃ p c,v = .slice p (Dk.rdX m 0).length c∧Bs y p c (Dk.rdX m 0)):=fun y v hv=>by
  obtain ⟨p,c,h1,h2,_⟩:=own_bs hv.1 hv.2
  exact ⟨p,c,h1,h2⟩
 unfold RdSayD at HRD
 clear hd hst hmv hp hrd
 have HGET:=Lib.hid hget
 have hlen:¬ ((Dk.rdX m 0).length:Int)=0:=by omega
 have hlen2:(((Dk.rdX m 0).length:Int)==0)=false:=by simpa using hlen
 have HHE:Hid (∀ z q c,P z→w.heap.size≤z.heap.size→Bs z q c (Dk.rdX m 0)→Calls Tryz.prog 82 #[.iface 33 (.pointer (some a0)),.slice q (Dk.rdX m 0).length c] z (SHdSay (Sp.hd X) z)):=fun z q c hz hsz hbs =>
  sheld_gen 33 _ X q _ c z hGL (fun y hy=>HGET.out y q _ c (HST.out z y z.heap.size hz (only_of_below hy) hsz) rfl (hbs.old hy))
 unfold SHdSay at HHE
 rw [hn] at HHE
 clear hget HGET hGL hn hb
 generalize Dk.rdX m 0=B at *
 have HHZ:Hid (GV ((none:Option Sp.G).getD Sp.zero) = .agg Z):=HZV.out
 rw [HHZ.out] at HHE
 go_enter Tryz.func37,Tryz.ntmps37
 go_upto_region 1 with (fail)
 change Code.wp _ _ _ _ ((w.alloc (.cells Z 67)).alloc (.cells S0 39))
 rw [← hw0]
 clear hw0
 go_upto_region 2 with (go_at_call 17;refine HRD.out.mono ?_;rintro e1 w1 ⟨v1,rfl,hv1,HD1,HM1⟩;obtain ⟨q1,c1,hq1,hB1⟩:=HVB.out _ _ hv1.out;subst hq1;have HB1:=Lib.hid hB1;clear hB1 hv1)
 have K1:=Lib.hid (HKP.out _ HM1.out)
 have HP1:Hid (P w1):=HMV.out _ _ HP0.out HM1.out
 have HMW:Hid (Mv [d,lb,rb,cb] w w1):=(Mv.of_below B0.out).trans HM1.out
 have HL1:Hid (w.heap.size+1<w1.heap.size):=lt_of_block K1.out.2
 clear HRD HVB HKP HP0 R0 Z0
 go_upto_region 5 with (first
  | (go_at_call 82;refine (HHE.out _ _ _ HP1.out (by have:=HL1.out;omega) HB1.out).mono ?_;rintro e4 w4 ⟨rfl,HB4⟩)
  | ((with_reducible refine row_store _ _ _ _ _ _ _ ?_ ?_ (heap_alloc_new _ _) (row_size Tryz.sizeGeo HZS) ?_ HZ1.out ?_);(exact rfl);(exact rfl);(exact rfl);intro w5 G5 ch5))
 have HB5:Hid (Below w1.heap.size w1 w5):=ch5.below (HB4.out.alloc HB4.out.size _) HB4.out.size
 have K5:Hid (w5.heap[w.heap.size]?=some (.cells Z 67 (0,0))∧w5.heap[w.heap.size+1]?=some (.cells S0 39 (0,0))):=⟨(HB5.out.block _ (lt_of_block K1.out.1)).trans K1.out.1,(HB5.out.block _ (lt_of_block K1.out.2)).trans K1.out.2⟩
 have HP5:Hid (P w5):=HST.out _ _ _ HP1.out (only_of_below (g:=w1.heap.size) HB5.out) (by have:=HL1.out;omega)
 go_wp2_with (first
  | ((with_reducible refine row_build0 _ _ HBT.out ?_))
  | ((with_reducible refine row_build0 _ _ HBS.out ?_))
  | ((with_reducible refine row_store _ _ _ _ _ _ _ ?_ ?_ ((ch8.block _ (by omega)).trans K5.out.2) (row_size Tryz.sizeSum HSS) ?_ HS1.out ?_);(exact rfl);(exact rfl);(exact rfl);intro w9 G9 ch9)
  | ((with_reducible refine row_store _ _ _ _ _ _ _ ?_ ?_ K5.out.1 (row_size Tryz.sizeGeo HZS) ?_ HZ1.out ?_);(exact rfl);(exact rfl);(exact rfl);intro w8 G8 ch8))
 have e8:w9.heap[w.heap.size]?=some (.cells Z 67 (0,0)):=(ch9.block _ (by omega)).trans G8.out
 refine bodyPost_ret (results_cell2_tmp rfl _ _ w.heap.size 67 Z (0,0) _ (w.heap.size+1) 39 S0 (0,0) _ rfl e8 Tryz.underlying67 rfl (row_size Tryz.sizeGeo HZS) rfl G9 Tryz.underlying39 rfl (row_size Tryz.sizeSum HSS)) rfl ?_
 refine ⟨by rw [HSV.out,HZV.out];rfl,?_,mv_chg (mv_chg ((HMW.out.trans (Mv.of_below HB5.out)).more ks4) ch8 (Nat.le_refl _)) ch9 (by omega),HST.out _ _ _ (HST.out _ _ _ HP5.out ch8.only (Nat.le_refl _)) ch9.only (by omega)⟩
 exact (((HD1.out.old HB5.out).only ch8.only (HNT.out _ (Nat.le_refl _))).only ch9.only (HNT.out _ (by omega))).own
set_option maxHeartbeats 4000000 in
set_option maxRecDepth 100000 in
theorem sread_ok_box (a0:Addr) {T:Nat→Prop} {d lb rb cb:Nat} {m:Dk.M} (w:World) (hd:DkAt w T d lb rb cb m) (hrd:∀ j,m.rd j≤1000000000) (P:World→Prop) (hp:P w) (hmv:∀ y z,P y→Mv [d,lb,rb,cb] y z→P z) (hst:∀ y z k,P y→Only k y z→w.heap.size≤k→P z) (X:Int × Sc.S) (hGL:X.2.L.length≤900000) (hb:0<(Dk.rdX m 0).length)
  (hget:∀ z q n c,P z→(Dk.rdX m 0).length=n→Bs z q c (Dk.rdX m 0)→Calls Tryz.prog 100 #[.iface 33 (.pointer (some a0)),.int .i64 1,.int .i64 0,.slice q n c] z (LGet X z)) (ks:List Nat) (hks:∀ k∈ks,¬ T k∧k<w.heap.size) (SM:List Int) (P2:World→Prop) (hsl:SM.length=32)
  (hsum:∀ z p n c,P z→(Dk.rdX m 0).length=n→Bs z p c (Dk.rdX m 0)→Calls Tryz.prog 242 #[.pointer (some a0),.slice p n c] z (fun r z'=>r = .returned (A32 SM)∧P2 z'∧Mv ks z z'))
  (hst2:∀ y z k,P2 y→Only k y z→w.heap.size≤k→P2 z) (gg:Sp.G) (hn:Sp.hd X=some gg) :
  Calls Tryz.prog 37 #[.pointer (some ⟨d,0,none⟩),.iface 33 (.pointer (some a0))] w (SrSay gg SM 0 T d lb rb cb (Dk.rdM m 0) ks P2 w):=by
 obtain ⟨Z,hZ⟩:∃ Z,Hid (GA ⟨0,0,0⟩=Z):=⟨_,rfl⟩
 have HZS:Hid (Z.size=3):=by show _=_;rw [← hZ.out];rfl
 have HZ1:Hid (Z.all (·.oneCell')=true):=by show _=_;rw [← hZ.out];simp [GA,Value.oneCell']
 have hz:=(zero_of_info Tryz.zeroGeo).1
 have HBT:=Lib.hid Tryz.builtGeo
 rw [hZ.out] at hz HBT
 have hzn:¬ Z = #[]:=fun h=>by have:=HZS.out;rw [h] at this;simp at this
 have hsz:=row_size Tryz.sizeGeo HZS
 have HZV:Hid (GV Sp.zero = .agg Z):=by show _=_;rw [← hZ.out,Sp.zero_is];rfl
 clear hZ
 obtain ⟨S0,hS0⟩:∃ S0,Hid (sA Rg.z32=S0):=⟨_,rfl⟩
 have HSS:Hid (S0.size=32):=by show _=_;rw [← hS0.out];exact sa_size z32_len
 have HS1:Hid (S0.all (·.oneCell')=true):=by show _=_;rw [← hS0.out];exact sa_one _
 have hzs:=(zero_of_info Tryz.zeroSumS).1
 have HBS:=Lib.hid Tryz.builtSumS
 rw [hS0.out] at hzs HBS
 have hzsn:¬ S0 = #[]:=fun h=>by have:=HSS.out;rw [h] at this;simp at this
 have hszs:=row_size Tryz.sizeSum HSS
 have HSV:Hid (A32 Rg.z32 = .agg S0):=by show _=_;rw [← hS0.out,a32_is]
 clear hS0
 have HKS:=Lib.hid hks
 have HSUM:=Lib.hid hsum
 have HST2:=Lib.hid hst2
 have HQS:=Lib.hid (sa_size hsl)
 have HQ1:=Lib.hid (sa_one SM)
 have HQV:=Lib.hid (a32_is SM)
 rw [HQV.out] at HSUM
 clear hks hsum hst2 hsl
 have HD:=Lib.hid hd
 have HST:=Lib.hid hst
 have HMV:=Lib.hid hmv
 have HPW:=Lib.hid hp
 have HNT:Hid (∀ k,w.heap.size≤k→¬ T k):=fun k hk h=>by have:=hd.top k h;omega
 have HLT:Hid (∀ k∈[d,lb,rb,cb],k<w.heap.size):=fun k hk=>by
  simp only [List.mem_cons,List.not_mem_nil,or_false] at hk
  rcases hk with rfl | rfl | rfl | rfl
  ·exact hd.top _ hd.lt.1
  ·exact hd.top _ hd.lt.2.1
  ·exact hd.top _ hd.lt.2.2.1
  ·exact hd.top _ hd.lt.2.2.2
 obtain ⟨w0,hw0⟩:∃ x,x=(w.alloc (.cells Z 67)).alloc (.cells S0 39):=⟨_,rfl⟩
 have R0:Hid (w0.heap[w.heap.size]?=some (.cells Z 67 (0,0))):=by rw [hw0];exact heap_alloc2_old w _ _
 have Z0:Hid (w0.heap[w.heap.size+1]?=some (.cells S0 39 (0,0))):=by rw [hw0];exact heap_alloc2_new w _ _
 have B0:Hid (Below w.heap.size w w0):=by rw [hw0];exact ((Below.refl _ w).alloc (Nat.le_refl _) _).alloc (by simp) _
 have HRD:Hid (Calls Tryz.prog 17 #[.pointer (some ⟨d,0,none⟩),.int .i64 0] w0 (RdSayD T d lb rb cb m 0 w0)):=read_anyD 0 w0 (hd.old B0.out) hrd
 have HKP:Hid (∀ y,Mv [d,lb,rb,cb] w0 y→y.heap[w.heap.size]?=some (.cells Z 67 (0,0))∧y.heap[w.heap.size+1]?=some (.cells S0 39 (0,0))):=fun y hy =>
  ⟨(hy.block _ (lt_of_block R0.out) (fun h=>by have:=HLT.out _ h;omega)).trans R0.out,(hy.block _ (lt_of_block Z0.out) (fun h=>by have:=HLT.out _ h;omega)).trans Z0.out⟩
 have HP0:Hid (P w0):=hst w w0 w.heap.size hp (only_of_below B0.out) (Nat.le_refl _)
 have HVB:Hid (∀ (y:World) (v:Value),y.ownsRow w0.heap.size 5 1 v (Dk.rdX m 0).length (U8s (Dk.rdX m 0))∧Sha.Byt (Dk.rdX m 0)→∃ p c,v = .slice p (Dk.rdX m 0).length c∧Bs y p c (Dk.rdX m 0)):=fun y v hv=>by
  obtain ⟨p,c,h1,h2,_⟩:=own_bs hv.1 hv.2
  exact ⟨p,c,h1,h2⟩
 unfold RdSayD at HRD
 clear hd hst hmv hp hrd
 have HGET:=Lib.hid hget
 have hlen:¬ ((Dk.rdX m 0).length:Int)=0:=by omega
 have hlen2:(((Dk.rdX m 0).length:Int)==0)=false:=by simpa using hlen
 have HHE:Hid (∀ z q c,P z→w.heap.size≤z.heap.size→Bs z q c (Dk.rdX m 0)→Calls Tryz.prog 82 #[.iface 33 (.pointer (some a0)),.slice q (Dk.rdX m 0).length c] z (SHdSay (Sp.hd X) z)):=fun z q c hz hsz hbs =>
  sheld_gen 33 _ X q _ c z hGL (fun y hy=>HGET.out y q _ c (HST.out z y z.heap.size hz (only_of_below hy) hsz) rfl (hbs.old hy))
 unfold SHdSay at HHE
 rw [hn] at HHE
 obtain ⟨A,eA,hk⟩:=gk gg
 have HAS:=Lib.hid hk.size
 have HA1:=Lib.hid hk.one
 have HGA:=Lib.hid eA
 have HHZ:Hid (GV ((some gg).getD Sp.zero) = .agg A):=eA
 rw [HHZ.out] at HHE
 clear hget HGET hGL hn hb hk eA HHZ
 generalize Dk.rdX m 0=B at *
 generalize hQ:sA SM=Q at *
 have ms:=msm_box
 have mn:=nsm_box
 go_enter Tryz.func37,Tryz.ntmps37
 go_upto_region 1 with (fail)
 change Code.wp _ _ _ _ ((w.alloc (.cells Z 67)).alloc (.cells S0 39))
 rw [← hw0]
 clear hw0
 go_upto_region 2 with (go_at_call 17;refine HRD.out.mono ?_;rintro e1 w1 ⟨v1,rfl,hv1,HD1,HM1⟩;obtain ⟨q1,c1,hq1,hB1⟩:=HVB.out _ _ hv1.out;subst hq1;have HB1:=Lib.hid hB1;clear hB1 hv1)
 have K1:=Lib.hid (HKP.out _ HM1.out)
 have HP1:Hid (P w1):=HMV.out _ _ HP0.out HM1.out
 have HMW:Hid (Mv [d,lb,rb,cb] w w1):=(Mv.of_below B0.out).trans HM1.out
 have HL1:Hid (w.heap.size+1<w1.heap.size):=lt_of_block K1.out.2
 clear HRD HVB HKP HP0 R0 Z0
 go_upto_region 5 with (first
  | (go_at_call 82;refine (HHE.out _ _ _ HP1.out (by have:=HL1.out;omega) HB1.out).mono ?_;rintro e4 w4 ⟨rfl,HB4⟩)
  | ((with_reducible refine row_store _ _ _ _ _ _ _ ?_ ?_ (heap_alloc_new _ _) (row_size Tryz.sizeGeo HAS) ?_ HA1.out ?_);(exact rfl);(exact rfl);(rw [HAS.out,HZS.out]);intro w5 G5 ch5))
 have HX5:Hid (Below w1.heap.size w1 w5):=ch5.below (HB4.out.alloc HB4.out.size _) HB4.out.size
 have K5:Hid (w5.heap[w.heap.size]?=some (.cells Z 67 (0,0))∧w5.heap[w.heap.size+1]?=some (.cells S0 39 (0,0))):=⟨(HX5.out.block _ (lt_of_block K1.out.1)).trans K1.out.1,(HX5.out.block _ (lt_of_block K1.out.2)).trans K1.out.2⟩
 have HP5:Hid (P w5):=HST.out _ _ _ HP1.out (only_of_below (g:=w1.heap.size) HX5.out) (by have:=HL1.out;omega)
 have HB5:Hid (Bs w5 q1 c1 B):=HB1.out.old HX5.out
 have HD5:Hid (DkAt w5 T d lb rb cb (Dk.rdM m 0)):=HD1.out.old HX5.out
 have MW5:Hid (Mv [d,lb,rb,cb] w w5):=HMW.out.trans (Mv.of_below HX5.out)
 have HGR:Hid (w.heap.size+1<w4.heap.size):=Nat.lt_of_lt_of_le HL1.out HB4.out.size
 clear ch5 HB4 HX5 HHE K1 HD1 HM1 HP1 HMW HB1
 generalize w4.heap.size=gr at *
 go_upto_region 7 with (fail)
 refine wp_region_any (by kernel_rfl) ?_
 change wpAny _ _ _ _ _ _ _ (World.drew _)
 have Gz:Hid (w5.drew.heap[gr]?=some (.cells A 67 (0,0))):=G5.out
 have Pz:Hid (P w5.drew):=HST.out _ _ _ HP5.out (only_of_below (g:=w.heap.size) (Below.refl _ w5).drew) (Nat.le_refl _)
 have Bz:Hid (Bs w5.drew q1 c1 B):=HB5.out.drew
 have Mz:Hid (Mv [d,lb,rb,cb] w w5.drew):=MW5.out.drew
 have Kz:Hid (w5.drew.heap[w.heap.size]?=some (.cells Z 67 (0,0))∧w5.drew.heap[w.heap.size+1]?=some (.cells S0 39 (0,0))):=K5.out
 have Dz:Hid (DkAt w5.drew T d lb rb cb (Dk.rdM m 0)):=HD5.out.old (Below.refl _ w5).drew
 obtain ⟨z,hz'⟩:∃ y,y=w5.drew:=⟨_,rfl⟩
 rw [← hz'] at Gz Pz Bz Mz Kz Dz ⊢
 clear hz' K5 HD5 MW5 HB5 HP5 G5
 refine wpAny_of_held (S:=fun y=>y.heap[gr]?=some (.cells A 67 (0,0))) _ _ _ _ ?_
 refine aH 0 31 (.agg A) Gz.out rfl (fun y hy=>exec_arrN _ _ gr 0 A _ rfl (row_rng hy) Tryz.underlying67 rfl (row_size Tryz.sizeGeo HAS)) ?_
 try simp only [Act.put,zq1,zq2,zq3]
 refine aH 1 32 (.iface 33 (.pointer (some a0))) Gz.out rfl (by intro y hy;go_simp) ?_
 try simp only [Act.put,zq1,zq2,zq3]
 refine aH 2 33 (.slice q1 B.length c1) Gz.out rfl (by intro y hy;go_simp) ?_
 try simp only [Act.put,zq1,zq2,zq3]
 refine anyH_one 3 (by kernel_rfl) ?_
 refine wpOp_step rfl (fun Kc hKc=>?_)
 go_simp
 refine (HSUM.out z _ _ _ Pz.out rfl Bz.out).mono ?_
 rintro e6 w6 ⟨rfl,hP6,hM6⟩
 have HP6:=Lib.hid hP6
 have HM6:=Lib.hid hM6
 clear hP6 hM6
 have G6:Hid (w6.heap[gr]?=some (.cells A 67 (0,0))):=(HM6.out.block _ (lt_of_block Gz.out) (fun h=>by have:=(HKS.out _ h).2;have:=HGR.out;omega)).trans Gz.out
 have K6:Hid (w6.heap[w.heap.size]?=some (.cells Z 67 (0,0))∧w6.heap[w.heap.size+1]?=some (.cells S0 39 (0,0))):=⟨(HM6.out.block _ (lt_of_block Kz.out.1) (fun h=>by have:=(HKS.out _ h).2;omega)).trans Kz.out.1,(HM6.out.block _ (lt_of_block Kz.out.2) (fun h=>by have:=(HKS.out _ h).2;omega)).trans Kz.out.2⟩
 dsimp only
 refine hKc _ _ ⟨G6.out,?_⟩
 clear hKc Kc
 try simp only [Act.put,zq1,zq2,zq3]
 refine anyH_one 4 (by kernel_rfl) ?_
 refine op_row_store 4 67 (.tmp 4) (.tmp 31) rfl w.heap.size 67 Z A rfl rfl K6.out.1 (row_size Tryz.sizeGeo HAS) (by rw [HAS.out,HZS.out]) HA1.out ?_
 intro w8 G8 ch8
 refine ⟨(ch8.block _ (by have:=HGR.out;omega)).trans G6.out,?_⟩
 try simp only [Act.put,zq1,zq2,zq3]
 have G8':Hid (w8.heap[gr]?=some (.cells A 67 (0,0))):=(ch8.block _ (by have:=HGR.out;omega)).trans G6.out
 have K8:Hid (w8.heap[w.heap.size+1]?=some (.cells S0 39 (0,0))):=(ch8.block _ (by omega)).trans K6.out.2
 refine anyH_one 5 (by kernel_rfl) ?_
 refine op_row_store 5 39 (.tmp 5) (.tmp 34) rfl (w.heap.size+1) 39 S0 Q rfl rfl K8.out (row_size Tryz.sizeSum HQS) (by rw [HQS.out,HSS.out]) HQ1.out ?_
 intro w9 G9 ch9
 have G9':Hid (w9.heap[gr]?=some (.cells A 67 (0,0))):=(ch9.block _ (by have:=HGR.out;omega)).trans G8'.out
 refine ⟨G9'.out,?_⟩
 try simp only [Act.put,zq1,zq2,zq3]
 refine aH 6 6 (.int .i64 0) G9'.out rfl (by intro y hy;go_simp) ?_
 try simp only [Act.put,zq1,zq2,zq3]
 refine wpAnyH_done (by kernel_rfl) ?_ _
 go_wp2
 have e8:w9.heap[w.heap.size]?=some (.cells A 67 (0,0)):=(ch9.block _ (by omega)).trans G8.out
 refine bodyPost_ret (results_cell2_tmp rfl _ _ w.heap.size 67 A (0,0) _ (w.heap.size+1) 39 Q (0,0) _ rfl e8 Tryz.underlying67 rfl (row_size Tryz.sizeGeo HAS) rfl G9 Tryz.underlying39 rfl (row_size Tryz.sizeSum HQS)) rfl ?_
 refine ⟨by rw [HQV.out,HGA.out];rfl,?_,mv_chg (mv_chg ((Mz.out.more ks4).trans (HM6.out.more ks5)) ch8 (Nat.le_refl _)) ch9 (by omega),HST2.out _ _ _ (HST2.out _ _ _ HP6.out ch8.only (Nat.le_refl _)) ch9.only (by omega)⟩
 exact (((Dz.out.mv HM6.out (fun k hk=>(HKS.out k hk).1)).only ch8.only (HNT.out _ (Nat.le_refl _))).only ch9.only (HNT.out _ (by omega))).own
end Go.Proofs.YtnnalemboeccbaaGreatDoor

import Derived.Test.YtnnalemboeccbaaGreatDoorSpF
namespace Go.Proofs.YtnnalemboeccbaaGreatDoor
open Go.RowKit
theorem Tryz.fieldsGeo:(Tryz.prog.fieldsOf 67).toList.map (fun f=>(f.name,f.type,f.offset)) = [("Segs",3,0),("Slots",3,1),("Blocks",3,2)]:=by kernel_rfl
set_option maxRecDepth 100000 in
theorem geo_eq (x y:Sp.G) (w:World):(Op.equalIn 10000 67 (GV x) (GV y)).run Tryz.prog w = .ok (decide (x=y)) w:=by
 unfold GV
 rw [show (10000:Nat)=9999+1 from rfl,run_equalIn_struct w _ _ _ _ Tryz.underlying67 Tryz.stoodInHeld67]
 have hf:=Tryz.fieldsGeo
 revert hf
 generalize (Tryz.prog.fieldsOf 67).toList=fs
 intro hf
 rcases fs with _ | ⟨f1,_ | ⟨f2,_ | ⟨f3,_ | ⟨f4,q⟩⟩⟩⟩
 any_goals (simp at hf;done)
 simp only [List.map_cons,List.map_nil,List.cons.injEq,and_true] at hf
 obtain ⟨h1,h2,h3⟩:=hf
 have e:∀ (x:Sp.G) (j:Nat) (k:Int),([.int .i64 x.a,.int .i64 x.b,.int .i64 x.c]:List Value)[j]?=some (.int .i64 k)→(part 3 (GA x) j).run Tryz.prog w = .ok (.int .i64 k) w:=fun x j k hj=>part_one hj w
 rw [eqf_cons _ _ _ _ _ _ _ _ _ _ _ _ _ h1 (by decide) (e x 0 _ rfl) (e y 0 _ rfl) (int_eqd 9998 _ _ w)
  (eqf_cons _ _ _ _ _ _ _ _ _ _ _ _ _ h2 (by decide) (e x 1 _ rfl) (e y 1 _ rfl) (int_eqd 9998 _ _ w)
  (eqf_cons _ _ _ _ _ _ _ _ _ _ _ _ _ h3 (by decide) (e x 2 _ rfl) (e y 2 _ rfl) (int_eqd 9998 _ _ w) (eqf_nil _ _ _ w)))]
 congr 1
 obtain ⟨a,b,c⟩:=x
 obtain ⟨a',b',c'⟩:=y
 simp only [Sp.G.mk.injEq,Bool.decide_and,Bool.and_true]
namespace Sp
def small:G:=⟨18,32,4⟩
theorem small_ok:Ok small:=⟨by show Pk.In64 18;unfold Pk.In64;omega,by show Pk.In64 32;unfold Pk.In64;omega,by show Pk.In64 4;unfold Pk.In64;omega⟩
theorem small_ck:ck small=0:=by unfold ck small Ge.ck;rw [if_pos (by decide)]
theorem small_may:okw small 1:=⟨small_ck,by unfold inE;omega⟩
theorem rv_back {S:Nm.St} {g:G} {e:Int} {T:List (G × Int)} (hW:Wr S T) (ho:Ok g) (hk:okw g e):rv (vS S g e) (by_ (vS S g e) g e)=(g,(wv S g e).1,0):=by
 have h:=hW.add ho hk.1 hk.2
 have hm:(g,e)∈T++[(g,e)]:=List.mem_append_right _ (List.mem_singleton.2 rfl)
 have hb:by_ (vS S g e) g e ≠ []:=fun q=>by have:=by_len (vS S g e) g e;rw [q] at this;simp at this
 rw [rv_ok hb (vh_of ho hk.1 hk.2 (h.known _ hm).1)]
 unfold wv
 rw [if_pos hk]
theorem wv_ok {S:Nm.St} {g:G} {e:Int} (hk:okw g e):(wv S g e).2=0:=by unfold wv;rw [if_pos hk]
theorem wv_len (S:Nm.St) (g:G) (e:Int):(wv S g e).1.length=32:=by
 unfold wv
 split
 ·exact sm_len _ _
 ·exact Rg.oks_z.1
theorem wM_ok {m:Dk.M} {S:Nm.St} {g:G} {e:Int} (hk:okw g e):wM m S g e=Dk.put m 0 (by_ (vS S g e) g e)∧wS S g e=vS S g e:=by
 unfold wM wS
 rw [if_pos hk,if_pos hk]
 exact ⟨rfl,rfl⟩
theorem up_rd {m:Dk.M} {n:Nat} (h:Dk.Up m n) (i:Int):Dk.Up (Dk.rdM m i) n∧(∀ j,Dk.peek (Dk.rdM m i) j=Dk.peek m j)∧(Dk.rdM m i).wr=m.wr∧(∀ j,(Dk.rdM m i).rd j≤m.rd j+1):=by
 unfold Dk.rdM
 split
 ·refine ⟨⟨h.n,h.left,h.down⟩,fun _=>rfl,rfl,fun j=>?_⟩
  show upd m.rd i.toNat _ j≤_
  unfold upd
  split
  ·rename_i q;rw [q];exact Nat.le_refl _
  ·omega
 ·exact ⟨h,fun _=>rfl,rfl,fun _=>Nat.le_succ _⟩
end Sp
section
variable {P:Program}
theorem results_cell1 {fn:Func} {p:Tmp} {ty:TypeId} (h:fn.results = #[.cell p ty]) (tmps:Array Value) (w:World) (g:Nat) (t:TypeId) (cs:Array Value) (fr:Nat × Nat) (d:TypeDesc)
  (hp:tmps.getD p undef = .pointer (some ⟨g,0,none⟩)) (hg:w.heap[g]?=some (.cells cs t fr))
  (hu:P.underlying ty=some d) (hd:(match d with | .struct _ | .array _ _=>true | _=>false)=true) (hi:(P.info? ty).map (·.size)=some cs.size) :
  (results fn tmps).run P w = .ok (.agg cs) w:=by
 have hp':tmps[p]?.getD undef = .pointer (some ⟨g,0,none⟩):=by simpa using hp
 simp [results,h,hp',asAddr,run_loadVar_row w g t ty cs fr d hg hu hd hi]
end
set_option maxHeartbeats 1000000 in
set_option maxRecDepth 100000 in
theorem small_any (w:World):Calls Tryz.prog 74 #[] w (fun e w'=>e = .returned (GV Sp.small)∧Below w.heap.size w w'):=by
 obtain ⟨A,eA,hk⟩:=gk Sp.small
 have HAS:=Lib.hid hk.size
 have HA1:=Lib.hid hk.one
 obtain ⟨Z,hZ⟩:∃ Z,Hid (GA ⟨0,0,0⟩=Z):=⟨_,rfl⟩
 have HZS:Hid (Z.size=3):=by show _=_;rw [← hZ.out];rfl
 have HZ1:Hid (Z.all (·.oneCell')=true):=by show _=_;rw [← hZ.out];simp [GA,Value.oneCell']
 have hz:=(zero_of_info Tryz.zeroGeo).1
 have HBT:=Lib.hid Tryz.builtGeo
 rw [hZ.out] at hz HBT
 have hzn:¬ Z = #[]:=fun h=>by have:=HZS.out;rw [h] at this;simp at this
 have hsz:=row_size Tryz.sizeGeo HZS
 have HZV:Hid (GV Sp.zero = .agg Z):=by show _=_;rw [← hZ.out,Sp.zero_is];rfl
 clear hZ
 have HBL:=Lib.hid (build_geo Sp.small)
 have eA2:GA Sp.small=A:=by unfold GV at eA;injection eA
 rw [eA2] at HBL
 have HBL:Hid (Tryz.prog.built 67 [(0,.int .i64 18),(1,.int .i64 32),(2,.int .i64 4)]=some A):=HBL
 rw [eA]
 clear hk eA eA2
 have R0:Hid ((w.alloc (.cells Z 67)).heap[w.heap.size]?=some (.cells Z 67 (0,0))):=heap_alloc_new w _
 go_enter Tryz.func74,Tryz.ntmps74
 go_wp2_with (first
  | ((with_reducible refine row_buildN _ _ _ _ ?_ HBL.out ?_);(exact rfl))
  | ((with_reducible refine row_store _ _ _ _ _ _ _ ?_ ?_ R0.out (row_size Tryz.sizeGeo HAS) ?_ HA1.out ?_);(exact rfl);(exact rfl);(rw [HAS.out,HZS.out]);intro w9 G9 ch9))
 refine bodyPost_ret (results_cell1 rfl _ _ w.heap.size 67 A (0,0) _ rfl G9 Tryz.underlying67 rfl (row_size Tryz.sizeGeo HAS)) rfl ⟨rfl,ch9.below ((Below.refl _ w).alloc (Nat.le_refl _) _) (Nat.le_refl _)⟩
def SSm (A:Array Value) (w:World) (e:Ending) (w':World):Prop:=e = .returned (.agg A)∧Hid (Below w.heap.size w w')
set_option maxHeartbeats 4000000 in
set_option maxRecDepth 100000 in
theorem sknown_any (w:World):Calls Tryz.prog 30 #[] w (YesSay w):=by
 obtain ⟨A,eA,hk⟩:=gk Sp.small
 have HAS:=Lib.hid hk.size
 have HA1:=Lib.hid hk.one
 have HSM:Hid (∀ y,Calls Tryz.prog 74 #[] y (SSm A y)):=fun y=>by have h:=small_any y;rw [eA] at h;exact h.mono fun _ _ q=>⟨q.1,q.2⟩
 obtain ⟨Z,hZ⟩:∃ Z,Hid (GA ⟨0,0,0⟩=Z):=⟨_,rfl⟩
 have HZS:Hid (Z.size=3):=by show _=_;rw [← hZ.out];rfl
 have HZ1:Hid (Z.all (·.oneCell')=true):=by show _=_;rw [← hZ.out];simp [GA,Value.oneCell']
 have hz:=(zero_of_info Tryz.zeroGeo).1
 have HBT:=Lib.hid Tryz.builtGeo
 rw [hZ.out] at hz HBT
 have hzn:¬ Z = #[]:=fun h=>by have:=HZS.out;rw [h] at this;simp at this
 have hsz:=row_size Tryz.sizeGeo HZS
 have HZV:Hid (GV Sp.zero = .agg Z):=by show _=_;rw [← hZ.out,Sp.zero_is];rfl
 clear hZ
 obtain ⟨S0,hS0⟩:∃ S0,Hid (sA Rg.z32=S0):=⟨_,rfl⟩
 have HSS:Hid (S0.size=32):=by show _=_;rw [← hS0.out];exact sa_size z32_len
 have HS1:Hid (S0.all (·.oneCell')=true):=by show _=_;rw [← hS0.out];exact sa_one _
 have hzs:=(zero_of_info Tryz.zeroSumS).1
 have HBS:=Lib.hid Tryz.builtSumS
 rw [hS0.out] at hzs HBS
 have hzsn:¬ S0 = #[]:=fun h=>by have:=HSS.out;rw [h] at this;simp at this
 have hszs:=row_size Tryz.sizeSum HSS
 have HSV:Hid (A32 Rg.z32 = .agg S0):=by show _=_;rw [← hS0.out,a32_is]
 clear hS0
 have hu0:Dk.Up (Dk.fresh 5) 5:=Dk.Up.fresh 5
 obtain ⟨u1,p1,q1,r1⟩:=Sp.up_rd hu0 0
 have hwk:=Sp.wM_ok (m:=Dk.rdM (Dk.fresh 5) 0) (S:=Nm.St.none) Sp.small_may
 have hW1:=Sp.wr_none.add Sp.small_ok Sp.small_may.1 Sp.small_may.2
 have hQL:=Sp.wv_len Nm.St.none Sp.small 1
 have HR0:Hid (∀ K y d g,Vu w K y d g (Dk.fresh 5) Nm.St.none→Calls Tryz.prog 37 #[.pointer (some ⟨d,0,none⟩),.iface 83 (.pointer (some ⟨g,0,none⟩))] y (fun e z=>e = .returned (.tuple #[.agg Z,.agg S0,.int .i64 9])∧Hid (Vu w K z d g (Dk.rdM (Dk.fresh 5) 0) Nm.St.none))):=fun K y d g h=>by
  have h2:=vu_read Sp.wr_none hu0 h (fun j=>Nat.zero_le _) (Nat.zero_le _)
  rw [show Dk.peek (Dk.fresh 5) 0 = [] from rfl,Sp.rv_nil] at h2
  refine h2.mono ?_
  rintro e z ⟨rfl,hv,_⟩
  exact ⟨by rw [HSV.out,HZV.out],hv⟩
 have HW:Hid (∀ K y d g,Vu w K y d g (Dk.rdM (Dk.fresh 5) 0) Nm.St.none→Calls Tryz.prog 33 #[.pointer (some ⟨d,0,none⟩),.iface 83 (.pointer (some ⟨g,0,none⟩)),.int .i64 1,.agg A] y (fun e z=>e = .returned (.tuple #[.agg (sA (Sp.wv Nm.St.none Sp.small 1).1),.int .i64 0])∧Hid (Vu w K z d g (Dk.put (Dk.rdM (Dk.fresh 5) 0) 0 (Sp.by_ (Sp.vS Nm.St.none Sp.small 1) Sp.small 1)) (Sp.vS Nm.St.none Sp.small 1)))):=fun K y d g h=>by
  have h2:=vu_write Sp.small 1 u1 h (by rw [q1];exact Nat.zero_le _) (Nat.zero_le _) (Nat.zero_le _)
  rw [hwk.1,hwk.2,Sp.wv_ok Sp.small_may,eA] at h2
  refine h2.mono ?_
  rintro e z ⟨rfl,hv,_⟩
  exact ⟨by rw [a32_is],hv⟩
 have HR1:Hid (∀ K y d g,Vu w K y d g (Dk.put (Dk.rdM (Dk.fresh 5) 0) 0 (Sp.by_ (Sp.vS Nm.St.none Sp.small 1) Sp.small 1)) (Sp.vS Nm.St.none Sp.small 1)→Calls Tryz.prog 37 #[.pointer (some ⟨d,0,none⟩),.iface 83 (.pointer (some ⟨g,0,none⟩))] y (fun e z=>e = .returned (.tuple #[.agg A,.agg (sA (Sp.wv Nm.St.none Sp.small 1).1),.int .i64 0])∧Hid (Below w.heap.size w z)∧Hid (Kp K y z))):=fun K y d g h=>by
  have hts:=(Sp.vS_ss Nm.St.none Sp.small 1).2
  rw [hwk.2] at hts
  have hts0:Nm.St.none.ts.length=0:=rfl
  have h2:=vu_read hW1 (u1.put _ _) h (fun j=>by
   have:=r1 j
   have e:(Dk.put (Dk.rdM (Dk.fresh 5) 0) 0 (Sp.by_ (Sp.vS Nm.St.none Sp.small 1) Sp.small 1)).rd j=(Dk.rdM (Dk.fresh 5) 0).rd j:=rfl
   have e2:(Dk.fresh 5).rd j=0:=rfl
   omega) (by omega)
  rw [Rg.peek_put,if_pos rfl,Sp.rv_back Sp.wr_none Sp.small_ok Sp.small_may] at h2
  refine h2.mono ?_
  rintro e z ⟨rfl,hv,hk⟩
  exact ⟨by rw [a32_is,eA],hv.out.low,hk⟩
 have HE1:Hid (∀ y,(Op.equalIn 10000 67 (.agg A) (.agg A)).run Tryz.prog y = .ok true y):=fun y=>by have h:=geo_eq Sp.small Sp.small y;rw [decide_eq_true rfl,eA] at h;exact h
 have HE2:Hid (∀ y,(Op.equalIn 10000 39 (.agg (sA (Sp.wv Nm.St.none Sp.small 1).1)) (.agg (sA (Sp.wv Nm.St.none Sp.small 1).1))).run Tryz.prog y = .ok true y):=fun y=>by have h:=a32_eq _ _ hQL hQL y;rw [decide_eq_true rfl] at h;exact h
 have HQS:=Lib.hid (sa_size hQL)
 have HQ1:=Lib.hid (sa_one (Sp.wv Nm.St.none Sp.small 1).1)
 clear hk eA u1 p1 q1 r1 hwk hW1 hQL
 generalize sA (Sp.wv Nm.St.none Sp.small 1).1=Q at *
 generalize Dk.put (Dk.rdM (Dk.fresh 5) 0) 0 (Sp.by_ (Sp.vS Nm.St.none Sp.small 1) Sp.small 1)=m2 at *
 generalize Sp.vS Nm.St.none Sp.small 1=S2 at *
 generalize Dk.rdM (Dk.fresh 5) 0=m1 at *
 obtain ⟨m0,hm0⟩:∃ m0,m0=Dk.fresh 5:=⟨_,rfl⟩
 have HM:=Lib.hid hm0
 rw [← hm0] at HR0
 clear hm0
 go_enter Tryz.func30,Tryz.ntmps30
 go_upto_region 5 with (first
  | (go_at_call 8;refine (new4 5 (by omega) (by omega) _).mono ?_;rintro e1 w1 ⟨d,lb,rb,cb,rfl,hd1,hb1⟩;have HB1:=Lib.hid hb1)
  | (go_at_call 41;refine (new_anyN _).mono ?_;rintro e2 w2 ⟨g,b,c,rfl,hg2,hs2,hb2⟩;have HV2:Hid (Vu w w2.heap.size w2 d g m0 Nm.St.none):=by rw [HM.out];exact vu_make hd1.out HB1.out hs2.out hg2.out hb2))
 clear hd1 hs2 hg2 hb2 hb1 HM hu0 HB1
 generalize w2.heap.size=K at *
 go_upto_region 6 with (first
  | (go_at_call 37;refine (HR0.out _ _ _ _ HV2.out).mono ?_;rintro e3 w3 ⟨rfl,HV3⟩)
  | ((with_reducible refine row_store _ _ _ _ _ _ _ ?_ ?_ (heap_alloc2_old _ _ _) (row_size Tryz.sizeGeo HZS) ?_ HZ1.out ?_);(exact rfl);(exact rfl);(exact rfl);intro wg3 Gg3 cg3)
  | ((with_reducible refine row_store _ _ _ _ _ _ _ ?_ ?_ ((cg3.block _ (by simp)).trans (heap_alloc2_new _ _ _)) (row_size Tryz.sizeSum HSS) ?_ HS1.out ?_);(exact rfl);(exact rfl);(exact rfl);intro ws3 Gs3 cs3))
 have Bt3:Hid (Below w3.heap.size w3 ws3):=cs3.below (cg3.below (((Below.refl _ w3).alloc (Nat.le_refl _) _).alloc (by simp) _) (Nat.le_refl _)) (by simp)
 have Gh3:Hid (ws3.heap[w3.heap.size]?=some (.cells Z 67 (0,0))):=(cs3.block _ (by simp)).trans Gg3.out
 have HV4:=Lib.hid (HV3.out.old Bt3.out)
 clear HV2 HV3 HR0 Gg3 cg3 cs3 Gh3 Gs3 Bt3
 go_upto_region 7 with (first
  | (go_at_call 74;refine (HSM.out _).mono ?_;rintro e5 w5 ⟨rfl,HB5⟩;have HV5:=Lib.hid (HV4.out.old HB5.out))
  | (go_at_call 33;refine (HW.out _ _ _ _ HV5.out).mono ?_;rintro e6 w6 ⟨rfl,HV6⟩)
  | ((with_reducible refine row_store _ _ _ _ _ _ _ ?_ ?_ (heap_alloc_new _ _) (row_size Tryz.sizeSum HQS) ?_ HQ1.out ?_);(exact rfl);(exact rfl);(rw [HQS.out,HSS.out]);intro w7 G7 c7))
 have B7:Hid (Below w6.heap.size w6 w7):=c7.below ((Below.refl _ w6).alloc (Nat.le_refl _) _) (Nat.le_refl _)
 have HV7:=Lib.hid (HV6.out.old B7.out)
 have HL7:Hid (Below w.heap.size w w7):=HV7.out.low
 have HG7:Hid (w6.heap.size<w7.heap.size):=lt_of_block G7.out
 have HKG:Hid (K≤w6.heap.size):=HV6.out.size
 clear HV4 HV5 HV6 HB5 HW c7 B7
 generalize w6.heap.size=g7 at *
 go_upto_region 8 with (first
  | (go_at_call 37;refine (HR1.out _ _ _ _ HV7.out).mono ?_;rintro e8 w8 ⟨rfl,HL8,HK8⟩;have G78:=Lib.hid ((HK8.out.block _ HKG.out HG7.out).trans G7.out))
  | ((with_reducible refine row_store _ _ _ _ _ _ _ ?_ ?_ (heap_alloc2_old _ _ _) (row_size Tryz.sizeGeo HAS) ?_ HA1.out ?_);(exact rfl);(exact rfl);(rw [HAS.out,HZS.out]);intro wg8 Gg8 cg8)
  | ((with_reducible refine row_store _ _ _ _ _ _ _ ?_ ?_ ((cg8.block _ (by simp)).trans (heap_alloc2_new _ _ _)) (row_size Tryz.sizeSum HQS) ?_ HQ1.out ?_);(exact rfl);(exact rfl);(rw [HQS.out,HSS.out]);intro ws8 Gs8 cs8))
 have Bt8:Hid (Below w8.heap.size w8 ws8):=cs8.below (cg8.below (((Below.refl _ w8).alloc (Nat.le_refl _) _).alloc (by simp) _) (Nat.le_refl _)) (by simp)
 have Gh8:Hid (ws8.heap[w8.heap.size]?=some (.cells A 67 (0,0))):=(cs8.block _ (by simp)).trans Gg8.out
 have BZ:Hid (Below w.heap.size w ws8.drew):=(HL8.out.trans (Bt8.out.mono HL8.out.size)).drew
 have GZ:Hid (ws8.drew.heap[g7]?=some (.cells Q 39 (0,0))):=(Bt8.out.block _ (lt_of_block G78.out)).trans G78.out
 have GA8:Hid (ws8.drew.heap[w8.heap.size]?=some (.cells A 67 (0,0))):=Gh8.out
 have GS8:Hid (ws8.drew.heap[w8.heap.size+1]?=some (.cells Q 39 (0,0))):=Gs8.out
 clear HR1 HV7 HL7 HL8 Bt8 Gh8 Gs8 Gg8 cg8 cs8 G78 G7 HK8 HKG HG7
 refine wp_region_any (by kernel_rfl) ?_
 change wpAny _ _ _ _ _ _ _ (World.drew _)
 obtain ⟨z,hz'⟩:∃ x,x=ws8.drew:=⟨_,rfl⟩
 rw [← hz'] at BZ GZ GA8 GS8 ⊢
 clear hz'
 generalize w8.heap.size=g9 at *
 have he1:=HE1.out
 have he2:=HE2.out
 have KZ:Hid (∀ y,Below z.heap.size z y→y.heap[g9]?=some (.cells A 67 (0,0))∧y.heap[g7]?=some (.cells Q 39 (0,0))∧y.heap[g9+1]?=some (.cells Q 39 (0,0))):=fun y hy=>⟨(hy.block _ (lt_of_block GA8.out)).trans GA8.out,(hy.block _ (lt_of_block GZ.out)).trans GZ.out,(hy.block _ (lt_of_block GS8.out)).trans GS8.out⟩
 have D0:Hid (Below z.heap.size z z):=Below.refl _ _
 refine wpAny_of_held (S:=fun y=>y.heap[g9]?=some (.cells A 67 (0,0))∧y.heap[g7]?=some (.cells Q 39 (0,0))∧y.heap[g9+1]?=some (.cells Q 39 (0,0))) _ _ _ _ ?_
 have SD:=KZ.out _ D0.out
 refine aH 0 43 (.int .i64 9) SD rfl (by intro x hx;have y0:=hx;(first | exact exec_arrN 67 (.tmp 9) g9 0 A _ rfl (row_rng hx.1) Tryz.underlying67 rfl (row_size Tryz.sizeGeo HAS) | exact exec_arrN 39 (.tmp 7) g7 0 Q _ rfl (row_rng hx.2.1) Tryz.underlying39 rfl (row_size Tryz.sizeSum HQS) | exact exec_arrN 39 (.tmp 10) (g9+1) 0 Q _ rfl (row_rng hx.2.2) Tryz.underlying39 rfl (row_size Tryz.sizeSum HQS) | go_simp);try (intro h;omega)) ?_
 try simp only [Act.put,zq1,zq2,zq3]
 refine aH 1 44 (.bool true) SD rfl (by intro x hx;have y0:=hx;(first | exact exec_arrN 67 (.tmp 9) g9 0 A _ rfl (row_rng hx.1) Tryz.underlying67 rfl (row_size Tryz.sizeGeo HAS) | exact exec_arrN 39 (.tmp 7) g7 0 Q _ rfl (row_rng hx.2.1) Tryz.underlying39 rfl (row_size Tryz.sizeSum HQS) | exact exec_arrN 39 (.tmp 10) (g9+1) 0 Q _ rfl (row_rng hx.2.2) Tryz.underlying39 rfl (row_size Tryz.sizeSum HQS) | go_simp);try (intro h;omega)) ?_
 try simp only [Act.put,zq1,zq2,zq3]
 refine aH 2 45 (.bool true) SD rfl (by intro x hx;have y0:=hx;(first | exact exec_arrN 67 (.tmp 9) g9 0 A _ rfl (row_rng hx.1) Tryz.underlying67 rfl (row_size Tryz.sizeGeo HAS) | exact exec_arrN 39 (.tmp 7) g7 0 Q _ rfl (row_rng hx.2.1) Tryz.underlying39 rfl (row_size Tryz.sizeSum HQS) | exact exec_arrN 39 (.tmp 10) (g9+1) 0 Q _ rfl (row_rng hx.2.2) Tryz.underlying39 rfl (row_size Tryz.sizeSum HQS) | go_simp);try (intro h;omega)) ?_
 try simp only [Act.put,zq1,zq2,zq3]
 refine aH 3 46 (.int .i64 0) SD rfl (by intro x hx;have y0:=hx;(first | exact exec_arrN 67 (.tmp 9) g9 0 A _ rfl (row_rng hx.1) Tryz.underlying67 rfl (row_size Tryz.sizeGeo HAS) | exact exec_arrN 39 (.tmp 7) g7 0 Q _ rfl (row_rng hx.2.1) Tryz.underlying39 rfl (row_size Tryz.sizeSum HQS) | exact exec_arrN 39 (.tmp 10) (g9+1) 0 Q _ rfl (row_rng hx.2.2) Tryz.underlying39 rfl (row_size Tryz.sizeSum HQS) | go_simp);try (intro h;omega)) ?_
 try simp only [Act.put,zq1,zq2,zq3]
 refine aH 4 47 (.bool true) SD rfl (by intro x hx;have y0:=hx;(first | exact exec_arrN 67 (.tmp 9) g9 0 A _ rfl (row_rng hx.1) Tryz.underlying67 rfl (row_size Tryz.sizeGeo HAS) | exact exec_arrN 39 (.tmp 7) g7 0 Q _ rfl (row_rng hx.2.1) Tryz.underlying39 rfl (row_size Tryz.sizeSum HQS) | exact exec_arrN 39 (.tmp 10) (g9+1) 0 Q _ rfl (row_rng hx.2.2) Tryz.underlying39 rfl (row_size Tryz.sizeSum HQS) | go_simp);try (intro h;omega)) ?_
 try simp only [Act.put,zq1,zq2,zq3]
 refine aH 5 48 (.bool true) SD rfl (by intro x hx;have y0:=hx;(first | exact exec_arrN 67 (.tmp 9) g9 0 A _ rfl (row_rng hx.1) Tryz.underlying67 rfl (row_size Tryz.sizeGeo HAS) | exact exec_arrN 39 (.tmp 7) g7 0 Q _ rfl (row_rng hx.2.1) Tryz.underlying39 rfl (row_size Tryz.sizeSum HQS) | exact exec_arrN 39 (.tmp 10) (g9+1) 0 Q _ rfl (row_rng hx.2.2) Tryz.underlying39 rfl (row_size Tryz.sizeSum HQS) | go_simp);try (intro h;omega)) ?_
 try simp only [Act.put,zq1,zq2,zq3]
 refine aH 6 49 (.bool true) SD rfl (by intro x hx;have y0:=hx;(first | exact exec_arrN 67 (.tmp 9) g9 0 A _ rfl (row_rng hx.1) Tryz.underlying67 rfl (row_size Tryz.sizeGeo HAS) | exact exec_arrN 39 (.tmp 7) g7 0 Q _ rfl (row_rng hx.2.1) Tryz.underlying39 rfl (row_size Tryz.sizeSum HQS) | exact exec_arrN 39 (.tmp 10) (g9+1) 0 Q _ rfl (row_rng hx.2.2) Tryz.underlying39 rfl (row_size Tryz.sizeSum HQS) | go_simp);try (intro h;omega)) ?_
 try simp only [Act.put,zq1,zq2,zq3]
 refine aH 7 50 (.int .i64 0) SD rfl (by intro x hx;have y0:=hx;(first | exact exec_arrN 67 (.tmp 9) g9 0 A _ rfl (row_rng hx.1) Tryz.underlying67 rfl (row_size Tryz.sizeGeo HAS) | exact exec_arrN 39 (.tmp 7) g7 0 Q _ rfl (row_rng hx.2.1) Tryz.underlying39 rfl (row_size Tryz.sizeSum HQS) | exact exec_arrN 39 (.tmp 10) (g9+1) 0 Q _ rfl (row_rng hx.2.2) Tryz.underlying39 rfl (row_size Tryz.sizeSum HQS) | go_simp);try (intro h;omega)) ?_
 try simp only [Act.put,zq1,zq2,zq3]
 refine aH 8 51 (.bool true) SD rfl (by intro x hx;have y0:=hx;(first | exact exec_arrN 67 (.tmp 9) g9 0 A _ rfl (row_rng hx.1) Tryz.underlying67 rfl (row_size Tryz.sizeGeo HAS) | exact exec_arrN 39 (.tmp 7) g7 0 Q _ rfl (row_rng hx.2.1) Tryz.underlying39 rfl (row_size Tryz.sizeSum HQS) | exact exec_arrN 39 (.tmp 10) (g9+1) 0 Q _ rfl (row_rng hx.2.2) Tryz.underlying39 rfl (row_size Tryz.sizeSum HQS) | go_simp);try (intro h;omega)) ?_
 try simp only [Act.put,zq1,zq2,zq3]
 refine aH 9 52 (.bool true) SD rfl (by intro x hx;have y0:=hx;(first | exact exec_arrN 67 (.tmp 9) g9 0 A _ rfl (row_rng hx.1) Tryz.underlying67 rfl (row_size Tryz.sizeGeo HAS) | exact exec_arrN 39 (.tmp 7) g7 0 Q _ rfl (row_rng hx.2.1) Tryz.underlying39 rfl (row_size Tryz.sizeSum HQS) | exact exec_arrN 39 (.tmp 10) (g9+1) 0 Q _ rfl (row_rng hx.2.2) Tryz.underlying39 rfl (row_size Tryz.sizeSum HQS) | go_simp);try (intro h;omega)) ?_
 try simp only [Act.put,zq1,zq2,zq3]
 refine aH 10 53 (.bool true) SD rfl (by intro x hx;have y0:=hx;(first | exact exec_arrN 67 (.tmp 9) g9 0 A _ rfl (row_rng hx.1) Tryz.underlying67 rfl (row_size Tryz.sizeGeo HAS) | exact exec_arrN 39 (.tmp 7) g7 0 Q _ rfl (row_rng hx.2.1) Tryz.underlying39 rfl (row_size Tryz.sizeSum HQS) | exact exec_arrN 39 (.tmp 10) (g9+1) 0 Q _ rfl (row_rng hx.2.2) Tryz.underlying39 rfl (row_size Tryz.sizeSum HQS) | go_simp);try (intro h;omega)) ?_
 try simp only [Act.put,zq1,zq2,zq3]
 refine aH 11 54 (.agg A) SD rfl (by intro x hx;have y0:=hx;(first | exact exec_arrN 67 (.tmp 9) g9 0 A _ rfl (row_rng hx.1) Tryz.underlying67 rfl (row_size Tryz.sizeGeo HAS) | exact exec_arrN 39 (.tmp 7) g7 0 Q _ rfl (row_rng hx.2.1) Tryz.underlying39 rfl (row_size Tryz.sizeSum HQS) | exact exec_arrN 39 (.tmp 10) (g9+1) 0 Q _ rfl (row_rng hx.2.2) Tryz.underlying39 rfl (row_size Tryz.sizeSum HQS) | go_simp);try (intro h;omega)) ?_
 try simp only [Act.put,zq1,zq2,zq3]
 refine anyH_one 12 (by kernel_rfl) ?_
 refine wpOp_step rfl (fun Kc hKc=>?_)
 go_simp
 refine (HSM.out _).mono ?_
 rintro e21 z1 ⟨rfl,HBz1⟩
 have D1:=Lib.hid (D0.out.trans (HBz1.out.mono D0.out.size))
 dsimp only
 refine hKc _ _ ⟨KZ.out _ D1.out,?_⟩
 clear hKc Kc
 try simp only [Act.put,zq1,zq2,zq3]
 clear SD
 have SD:=KZ.out _ D1.out
 refine aH 13 56 (.bool true) SD rfl (by intro x hx;have y0:=hx;(first | exact exec_arrN 67 (.tmp 9) g9 0 A _ rfl (row_rng hx.1) Tryz.underlying67 rfl (row_size Tryz.sizeGeo HAS) | exact exec_arrN 39 (.tmp 7) g7 0 Q _ rfl (row_rng hx.2.1) Tryz.underlying39 rfl (row_size Tryz.sizeSum HQS) | exact exec_arrN 39 (.tmp 10) (g9+1) 0 Q _ rfl (row_rng hx.2.2) Tryz.underlying39 rfl (row_size Tryz.sizeSum HQS) | go_simp);try (intro h;omega)) ?_
 try simp only [Act.put,zq1,zq2,zq3]
 refine aH 14 57 (.bool true) SD rfl (by intro x hx;have y0:=hx;(first | exact exec_arrN 67 (.tmp 9) g9 0 A _ rfl (row_rng hx.1) Tryz.underlying67 rfl (row_size Tryz.sizeGeo HAS) | exact exec_arrN 39 (.tmp 7) g7 0 Q _ rfl (row_rng hx.2.1) Tryz.underlying39 rfl (row_size Tryz.sizeSum HQS) | exact exec_arrN 39 (.tmp 10) (g9+1) 0 Q _ rfl (row_rng hx.2.2) Tryz.underlying39 rfl (row_size Tryz.sizeSum HQS) | go_simp);try (intro h;omega)) ?_
 try simp only [Act.put,zq1,zq2,zq3]
 refine aH 15 58 (.bool true) SD rfl (by intro x hx;have y0:=hx;(first | exact exec_arrN 67 (.tmp 9) g9 0 A _ rfl (row_rng hx.1) Tryz.underlying67 rfl (row_size Tryz.sizeGeo HAS) | exact exec_arrN 39 (.tmp 7) g7 0 Q _ rfl (row_rng hx.2.1) Tryz.underlying39 rfl (row_size Tryz.sizeSum HQS) | exact exec_arrN 39 (.tmp 10) (g9+1) 0 Q _ rfl (row_rng hx.2.2) Tryz.underlying39 rfl (row_size Tryz.sizeSum HQS) | go_simp);try (intro h;omega)) ?_
 try simp only [Act.put,zq1,zq2,zq3]
 refine aH 16 59 (.agg Q) SD rfl (by intro x hx;have y0:=hx;(first | exact exec_arrN 67 (.tmp 9) g9 0 A _ rfl (row_rng hx.1) Tryz.underlying67 rfl (row_size Tryz.sizeGeo HAS) | exact exec_arrN 39 (.tmp 7) g7 0 Q _ rfl (row_rng hx.2.1) Tryz.underlying39 rfl (row_size Tryz.sizeSum HQS) | exact exec_arrN 39 (.tmp 10) (g9+1) 0 Q _ rfl (row_rng hx.2.2) Tryz.underlying39 rfl (row_size Tryz.sizeSum HQS) | go_simp);try (intro h;omega)) ?_
 try simp only [Act.put,zq1,zq2,zq3]
 refine aH 17 60 (.agg Q) SD rfl (by intro x hx;have y0:=hx;(first | exact exec_arrN 67 (.tmp 9) g9 0 A _ rfl (row_rng hx.1) Tryz.underlying67 rfl (row_size Tryz.sizeGeo HAS) | exact exec_arrN 39 (.tmp 7) g7 0 Q _ rfl (row_rng hx.2.1) Tryz.underlying39 rfl (row_size Tryz.sizeSum HQS) | exact exec_arrN 39 (.tmp 10) (g9+1) 0 Q _ rfl (row_rng hx.2.2) Tryz.underlying39 rfl (row_size Tryz.sizeSum HQS) | go_simp);try (intro h;omega)) ?_
 try simp only [Act.put,zq1,zq2,zq3]
 refine aH 18 61 (.bool true) SD rfl (by intro x hx;have y0:=hx;(first | exact exec_arrN 67 (.tmp 9) g9 0 A _ rfl (row_rng hx.1) Tryz.underlying67 rfl (row_size Tryz.sizeGeo HAS) | exact exec_arrN 39 (.tmp 7) g7 0 Q _ rfl (row_rng hx.2.1) Tryz.underlying39 rfl (row_size Tryz.sizeSum HQS) | exact exec_arrN 39 (.tmp 10) (g9+1) 0 Q _ rfl (row_rng hx.2.2) Tryz.underlying39 rfl (row_size Tryz.sizeSum HQS) | go_simp);try (intro h;omega)) ?_
 try simp only [Act.put,zq1,zq2,zq3]
 refine aH 19 62 (.bool true) SD rfl (by intro x hx;have y0:=hx;(first | exact exec_arrN 67 (.tmp 9) g9 0 A _ rfl (row_rng hx.1) Tryz.underlying67 rfl (row_size Tryz.sizeGeo HAS) | exact exec_arrN 39 (.tmp 7) g7 0 Q _ rfl (row_rng hx.2.1) Tryz.underlying39 rfl (row_size Tryz.sizeSum HQS) | exact exec_arrN 39 (.tmp 10) (g9+1) 0 Q _ rfl (row_rng hx.2.2) Tryz.underlying39 rfl (row_size Tryz.sizeSum HQS) | go_simp);try (intro h;omega)) ?_
 try simp only [Act.put,zq1,zq2,zq3]
 refine aH 20 0 (.bool true) SD rfl (by intro x hx;have y0:=hx;(first | exact exec_arrN 67 (.tmp 9) g9 0 A _ rfl (row_rng hx.1) Tryz.underlying67 rfl (row_size Tryz.sizeGeo HAS) | exact exec_arrN 39 (.tmp 7) g7 0 Q _ rfl (row_rng hx.2.1) Tryz.underlying39 rfl (row_size Tryz.sizeSum HQS) | exact exec_arrN 39 (.tmp 10) (g9+1) 0 Q _ rfl (row_rng hx.2.2) Tryz.underlying39 rfl (row_size Tryz.sizeSum HQS) | go_simp);try (intro h;omega)) ?_
 try simp only [Act.put,List.setIfInBounds_toArray,List.set_cons_zero]
 refine wpAnyH_done (by kernel_rfl) ?_ _
 go_wp2
 go_ret
 exact ⟨rfl,BZ.out.trans (D1.out.mono BZ.out.size)⟩
end Go.Proofs.YtnnalemboeccbaaGreatDoor

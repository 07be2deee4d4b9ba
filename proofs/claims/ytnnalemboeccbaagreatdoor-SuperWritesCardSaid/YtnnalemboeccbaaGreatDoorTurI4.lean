import Derived.Test.YtnnalemboeccbaaGreatDoorB8
import Derived.Deep.CutRange
namespace Go.Proofs.YtnnalemboeccbaaGreatDoor
section
open Go.RowKit
set_option maxHeartbeats 8000000 in
set_option maxRecDepth 100000 in
theorem refnew_4 (K:List Int) (hK:K.length=16) (p:Option Addr) (cap:Nat) (hcap:16≤cap) (hcm:cap≤9223372036854775807) (w:World) (hp:BAt w p K) :
  Calls Tryz.prog 95 #[.slice p 16 cap] w (RefSay K 4 w):=by
 obtain ⟨ka,ko,rfl,hkc⟩:=hp.2 (by omega)
 have hkb:=hp.1
 have hlt:ka<w.heap.size:=World.block_lt_of_cell? w _ (hkc 0 (by omega))
 have HKW:Hid (∀ x,Below w.heap.size w x→∀ j,j<16→x.cell? ⟨ka,ko+j,none⟩=some (.int .u8 (K.getD j 0))):=fun x hx j hj=>(hx.cell hlt).trans (hkc j (by omega))
 have HKB:Hid (∀ j,K.getD j 0=(((K.getD j 0).toNat:Nat):Int)):=fun j=>by have:=Sha.byt_getD hkb j;omega
 have HOK:Hid (Sha.Byt K):=hkb
 clear hkc hkb hlt hp
 have Hcap:=Lib.hid (And.intro hcap hcm)
 go_enter Tryz.func95,Tryz.ntmps95
 go_upto_region 5 with (go_at_call 142;refine (table_ref _).mono ?_;rintro e w1 ⟨tb,tc,rfl,ho1,hb1⟩)
 have HT1:Hid (w1.ownsRow w.heap.size 5 1 (.slice (some ⟨tb,0,none⟩) 256 tc) 256 (U8s Aes.TB)):=ho1
 obtain ⟨O,hO⟩:∃ O,w1.heap[tb]?=some O:=by
  rcases ho1.2 with ⟨h',_⟩ | ⟨g',cap',cur',hv,_,hg',_⟩
  ·cases h'
  ·simp only [Value.slice.injEq,Option.some.injEq,Addr.mk.injEq,and_true,true_and] at hv
   obtain ⟨rfl,rfl⟩:=hv
   exact ⟨_,hg'⟩
 have HTW:Hid (∀ x:World,x.heap[tb]?=some O→∀ j,j<256→x.cell? ⟨tb,j,none⟩=some (.int .u8 (Aes.TB.getD j 0))):=fun x hx j hj=>by
  rw [World.cell?_of_block (w:=w1) (a:=⟨tb,j,none⟩) (by show x.heap[tb]?=w1.heap[tb]?;rw [hx,hO])]
  exact u8_at HT1.out j hj
 have hts:=ho1.lt tb rfl
 have HN0:Hid (NS w (w1.alloc (.cells #[.slice none 0 0,.slice (some ⟨tb,0,none⟩) 256 tc] 189)) (w1.heap.size+1) w1.heap.size tb tc O (.slice none 0 0) 0 [] []) :=
  ⟨heap_alloc_new _ _,(heap_alloc_old _ _ hts.2).trans hO,⟨World.ownsRow_nil _ _ _ _,rfl,fun i hi=>by omega⟩,hb1.alloc hb1.size _,by omega,by omega,by omega,hb1.size,by simp⟩
 have HTL:Hid (w.heap.size≤tb):=hts.1
 clear HT1 hO hts ho1 hb1
 generalize w1.alloc (.cells #[.slice none 0 0,.slice (some ⟨tb,0,none⟩) 256 tc] 189)=wa at *
 generalize w1.heap.size+1=B at *
 generalize w1.heap.size=c at *
 go_wp2
 go_loopw [6] (fun v6 wr=>∃ (k:Nat) (v:Value) (vs:List Value),k≤4∧v6 = .int .i64 k∧Hid (NS w wr B c tb tc O v k (Aes.fq K k) vs)) (fun v6 _=>4-(intOf v6).toNat)
 case atStart=>exact ⟨0,_,_,by omega,rfl,HN0.out⟩
 case round =>
  clear HN0
  obtain ⟨k,v,vs,hk,rfl,HN⟩:=hrel
  by_cases hlt:k<4
  ·go_upto_region 8 with fail
   have hw0:IntKind.i64.wrap (4*(k:Int))=4*(k:Int):=IntWalk.i64_in _ ⟨by omega,by omega⟩
   have hw1:IntKind.i64.wrap (4*(k:Int)+4)=4*(k:Int)+4:=IntWalk.i64_in _ ⟨by omega,by omega⟩
   have ht0:(4*(k:Int)).toNat=4*k:=by omega
   have ht1:(4*(k:Int)+4).toNat=4*k+4:=by omega
   have hp0:0≤4*(k:Int):=by omega
   have hp1:0≤4*(k:Int)+4:=by omega
   have hp2:4*(k:Int)≤4*(k:Int)+4:=by omega
   have hp3:4*(k:Int)+4≤(cap:Int):=by omega
   have hp4:4*k+4≤cap:=by omega
   have hp5:4*(k:Int)≤(cap:Int):=by omega
   have hp6:4*k+4-4*k=4:=by omega
   refine wp_region_any (by kernel_rfl) ?_
   change wpAny _ _ _ _ _ _ _ (World.drew _)
   have HNd:Hid (NS w wr.drew B c tb tc O v k (Aes.fq K k) vs):=HN.out.keep (Below.refl _ wr).drew
   clear HN
   generalize wr.drew=wd at *
   have HSd:Hid (wd.cell? ⟨c,0,none⟩=some v):=by show _=_;rw [cell_of_row wd c 0 _ _ _ HNd.out.str];rfl
   refine wpAny_of_L (S:=fun x:World=>x.cell? ⟨c,0,none⟩=some v) (k:=18) _ _ _ _ ?_
   refine aL 18 0 35 (.pointer (some ⟨c,0,none⟩)) HSd.out rfl (by intro x hx;go_simp;try (intro h;omega)) ?_
   try simp only [Act.put,zq1,zq2,zq3]
   refine aL 18 1 36 (.pointer (some ⟨c,0,none⟩)) HSd.out rfl (by intro x hx;go_simp;try (intro h;omega)) ?_
   try simp only [Act.put,zq1,zq2,zq3]
   refine aL 18 2 37 (.pointer (some ⟨c,0,none⟩)) HSd.out rfl (by intro x hx;go_simp;try (intro h;omega)) ?_
   try simp only [Act.put,zq1,zq2,zq3]
   refine aL 18 3 38 (.pointer (some ⟨c,0,none⟩)) HSd.out rfl (by intro x hx;go_simp;try (intro h;omega)) ?_
   try simp only [Act.put,zq1,zq2,zq3]
   refine aL 18 4 39 v HSd.out rfl (by intro x hx;go_simp;try (intro h;omega)) ?_
   try simp only [Act.put,zq1,zq2,zq3]
   refine aL 18 6 41 (.slice (some ⟨ka,ko,none⟩) 16 cap) HSd.out rfl (by intro x hx;go_simp;try (intro h;omega)) ?_
   try simp only [Act.put,zq1,zq2,zq3]
   refine aL 18 7 42 (.int .i64 (k:Int)) HSd.out rfl (by intro x hx;go_simp;try (intro h;omega)) ?_
   try simp only [Act.put,zq1,zq2,zq3]
   refine aL 18 8 43 (.int .i64 (4*(k:Int))) HSd.out rfl (by intro x hx;go_simp;try (intro h;omega)) ?_
   try simp only [Act.put,zq1,zq2,zq3]
   refine aL 18 9 44 (.int .i64 (k:Int)) HSd.out rfl (by intro x hx;go_simp;try (intro h;omega)) ?_
   try simp only [Act.put,zq1,zq2,zq3]
   refine aL 18 10 45 (.int .i64 (4*(k:Int))) HSd.out rfl (by intro x hx;go_simp;try (intro h;omega)) ?_
   try simp only [Act.put,zq1,zq2,zq3]
   refine aL 18 11 46 (.int .i64 (4*(k:Int)+4)) HSd.out rfl (by intro x hx;go_simp;try (intro h;omega)) ?_
   try simp only [Act.put,zq1,zq2,zq3]
   refine aL 18 12 47 (.slice (some ⟨ka,ko+4*k,none⟩) 4 (cap-4*k)) HSd.out rfl (by intro x hx;go_simp;try (intro h;omega)) ?_
   try simp only [Act.put,zq1,zq2,zq3]
   refine anyL_one 18 5 (by kernel_rfl) ?_
   refine wpOp_step rfl (fun Kc hKc=>?_)
   go_simp
   have HOe:Hid ((wd.alloc (.cells #[] 5)).ownsRow B 5 1 (.slice (some ⟨wd.heap.size,0,none⟩) 0 0) 0 (U8s [])):=own_empty wd B HNd.out.hi
   have HNe:Hid (NS w (wd.alloc (.cells #[] 5)) B c tb tc O v k (Aes.fq K k) vs):=HNd.out.keep ((Below.refl _ wd).alloc (Nat.le_refl _) _)
   refine hKc _ _ ⟨fun _=>cell_alloc_old _ HSd.out,?_⟩
   clear hKc Kc
   try simp only [Act.put,zq1,zq2,zq3]
   have HBe:Hid (Below wd.heap.size wd (wd.alloc (.cells #[] 5))):=(Below.refl _ wd).alloc (Nat.le_refl _) _
   have HSe:Hid (wd.heap.size≤(wd.alloc (.cells #[] 5)).heap.size):=HBe.out.size
   obtain ⟨ge,hge⟩:∃ ge,ge=wd.heap.size:=⟨_,rfl⟩
   rw [← hge] at HOe HBe HSe ⊢
   generalize wd.alloc (.cells #[] 5)=we at *
   have Hge:=Lib.hid hge;clear hge
   refine anyL_one 18 13 (by kernel_rfl) ?_
   refine op_append_bs 13 (.tmp 40) (.tmp 47) [K.getD (4*k) 0,K.getD (4*k+1) 0,K.getD (4*k+2) 0,K.getD (4*k+3) 0] B _ 0 [] ka (ko+4*k) 4 (cap-4*k) rfl rfl rfl rfl ?_ HOe.out (by omega) HNe.out.hi ?_
   ·intro j hj
    rw [Nat.add_assoc,HKW.out we HNe.out.below _ (by omega)]
    rcases (by omega:j=0∨j=1∨j=2∨j=3) with rfl | rfl | rfl | rfl<;>rfl
   intro v5 w5 hown5 hgrow5
   obtain ⟨b5,c5,hv⟩:=own_someB hown5 (by omega)
   subst hv
   have HN5:Hid (NS w w5 B c tb tc O v k (Aes.fq K k) vs):=HNd.out.keep (by rw [← Hge.out];exact HBe.out.grown hgrow5 HSe.out (fun j e=>by cases e;exact Nat.le_refl _))
   have HQ5:Hid (w5.ownsRow B 5 1 (.slice (some ⟨b5,0,none⟩) 4 c5) 4 (U8s (Aes.qi ⟨(K.getD (4*k) 0).toNat,(K.getD (4*k+1) 0).toNat,(K.getD (4*k+2) 0).toNat,(K.getD (4*k+3) 0).toNat⟩))):=by
    unfold Aes.qi
    rw [← HKB.out,← HKB.out,← HKB.out,← HKB.out]
    exact hown5
   clear hown5 hgrow5 HNe HOe HNd HBe HSe Hge
   have HS5:Hid (w5.cell? ⟨c,0,none⟩=some v):=by show _=_;rw [cell_of_row w5 c 0 _ _ _ HN5.out.str];rfl
   refine ⟨fun _=>HS5.out,?_⟩
   try simp only [Act.put,zq1,zq2,zq3]
   refine anyL_one 18 14 (by kernel_rfl) ?_
   refine wpOp_step rfl (fun Kc hKc=>?_)
   go_simp
   refine hKc _ _ ⟨fun _=>cell_alloc_old _ HS5.out,?_⟩
   clear hKc Kc
   try simp only [Act.put,zq1,zq2,zq3]
   refine anyL_one 18 15 (by kernel_rfl) ?_
   refine op_append_row w5 (.slice (some ⟨b5,0,none⟩) 4 c5) vs 15 (.tmp 39) (.tmp 49) B v k rfl rfl rfl rfl HN5.out.rws.1 (by omega) HN5.out.hi ?_
   intro v6 w6 hown6 hgrow6
   obtain ⟨g6,cp6,hv6⟩:=own_someB hown6 (by omega)
   subst hv6
   obtain ⟨hstr,hns⟩:=HN5.out.grow HQ5.out hown6 hgrow6
   have HSTR:=Lib.hid hstr
   have HN6:=Lib.hid hns
   clear hstr hns hown6 hgrow6 HN5 HQ5 HS5
   have hs6:w6.cell? ⟨c,0,none⟩=some v:=by rw [cell_of_row w6 c 0 _ _ _ HSTR.out];rfl
   have hf6:=frozen_of_row w6 c 0 _ _ HSTR.out
   refine ⟨fun _=>hs6,?_⟩
   try simp only [Act.put,zq1,zq2,zq3]
   refine anyL_one 18 16 (by kernel_rfl) ?_
   refine wpOp_step rfl (fun Kc hKc=>?_)
   go_simp
   refine hKc _ _ ⟨fun _=>hs6,?_⟩
   clear hKc Kc
   try simp only [Act.put,zq1,zq2,zq3]
   refine anyL_one 18 17 (by kernel_rfl) ?_
   refine wpOp_step rfl (fun Kc hKc=>?_)
   go_simp
   refine hKc _ _ ⟨fun _=>hs6,?_⟩
   clear hKc Kc
   try simp only [Act.put,zq1,zq2,zq3]
   refine anyL_one 18 18 (by kernel_rfl) ?_
   refine wpOp_step rfl (fun Kc hKc=>?_)
   go_simp
   refine hKc _ _ ⟨fun h=>absurd rfl h,?_⟩
   clear hKc Kc
   try simp only [Act.put,zq1,zq2,zq3]
   refine anyL_done (by kernel_rfl) ?_ _
   clear HSTR hs6 hf6
   generalize w6.setCell ⟨c,0,none⟩ (.slice (some ⟨g6,0,none⟩) (k+1) cp6)=w7 at *
   rw [← Aes.fq_succ] at HN6
   go_wp2
   exact ⟨⟨k+1,_,_,by omega,by go_num,HN6.out⟩,by simp [intOf];omega⟩
  ·obtain rfl:k=4:=by omega
   obtain ⟨g0,cp0,hv0⟩:=own_someB HN.out.rws.1 (by omega)
   subst hv0
   have hge:(4:Int)≤((4:Nat):Int):=by decide
   go_upto_region 10 with fail
   go_wp2
   obtain ⟨w00,rfl⟩:∃ w00:World,w00=wr:=⟨_,rfl⟩
   rw [show (((4:Nat)):Int)=4 from rfl]
   go_loopw [7,8] (fun v7 v8 wr=>∃ (i g cp:Nat) (vs:List Value),4≤i∧i≤44∧v8 = .int .i64 i∧v7 = .int .u8 (((Aes.ky K 4 (i-4)).r:Nat):Int)∧Hid (NS w wr B c tb tc O (.slice (some ⟨g,0,none⟩) i cp) i (Aes.ky K 4 (i-4)).l vs)) (fun _ v8 _=>44-(intOf v8).toNat)
   case atStart=>exact ⟨4,g0,cp0,_,by omega,by omega,rfl,rfl,HN.out⟩
   case round =>
    clear HN
    obtain ⟨i,g,cp,vs,hi1,hi2,rfl,rfl,HN⟩:=hrel
    by_cases hlt:i<44
    ·have HNL:Hid ((Aes.ky K 4 (i-4)).l++[Aes.qx ((Aes.ky K 4 (i-4)).l.getD (i-4) Aes.q0) (Aes.qt 4 i ((Aes.ky K 4 (i-4)).l.getD (i-1) Aes.q0) (Aes.ky K 4 (i-4)).r)]=(Aes.ky K 4 (i+1-4)).l):=by
      show _=_
      rw [show i+1-4=i-4+1 by omega,Aes.ky_succ_l,show 4+(i-4)=i by omega]
     have HNR:Hid ((Aes.ky K 4 (i+1-4)).r=if i % 4=0 then Aes.tb (Aes.ky K 4 (i-4)).r else (Aes.ky K 4 (i-4)).r):=by
      show _=_
      rw [show i+1-4=i-4+1 by omega,Aes.ky_succ_r,show 4+(i-4)=i by omega]
     have HOKS:=Lib.hid (Aes.ky_ok K HOK.out 4 (i-4))
     generalize (Aes.ky K 4 (i-4)).l=L at *
     generalize (Aes.ky K 4 (i-4)).r=r at *
     obtain ⟨bt,ct,ht1,ht2⟩:=HN.out.rws.at (i-1) (by omega)
     have HT1:=Lib.hid ht1;have HT2:=Lib.hid ht2;clear ht1 ht2
     have HOT:=Lib.hid (Aes.ok_getD HOKS.out.1 (i-1))
     have HOW:=Lib.hid (Aes.ok_getD HOKS.out.1 (i-4))
     obtain ⟨q,hq⟩:∃ q,L.getD (i-4) Aes.q0=q:=⟨_,rfl⟩
     obtain ⟨t,ht⟩:∃ t,L.getD (i-1) Aes.q0=t:=⟨_,rfl⟩
     have Hq:=Lib.hid hq
     rw [ht] at HT2 HOT HNL
     rw [hq] at HOW HNL
     clear hq ht
     have hri:((r:Nat):Int)=(r:Int):=rfl
     have hr256:=HOKS.out.2
     have c0:wr.cell? ⟨c,0,none⟩=some (.slice (some ⟨g,0,none⟩) i cp):=by rw [cell_of_row wr c 0 _ _ _ HN.out.str];rfl
     have d0:(wr.alloc (.cells #[] 5)).cell? ⟨c,0,none⟩=some (.slice (some ⟨g,0,none⟩) i cp):=cell_alloc_old _ c0
     have d1:(wr.alloc (.cells #[] 5)).cell? ⟨g,i-1,none⟩=some (.slice (some ⟨bt,0,none⟩) 4 ct):=cell_alloc_old _ HT1.out
     have x1:IntKind.i64.wrap ((i:Int)-1)=(i:Int)-1:=IntWalk.i64_in _ ⟨by omega,by omega⟩
     have x2:0≤(i:Int)-1:=by omega
     have x3:((i:Int)-1).toNat=i-1:=by omega
     have x4:(i:Int)-1<(i:Int):=by omega
     go_upto_region 14 with ((with_reducible refine append_bs _ _ (Aes.qi t) B _ 0 [] bt 0 4 ct ?_ ?_ (Aes.qi_len t) ?_ (own_empty wr B HN.out.hi) ?_ ?_ ?_);(exact rfl);(exact rfl);(intro j hj;rw [Nat.zero_add];exact cell_alloc_old _ (by rw [HT2.out j hj,Aes.qi_get t j hj]));omega;(have:=HN.out.hi;simp;omega);intro v2 w2 hown2 hgrow2)
     have HB2:Hid (Below wr.heap.size wr w2):=((Below.refl _ wr).alloc (Nat.le_refl _) _).grown hgrow2 (by simp) (fun j e=>by cases e;exact Nat.le_refl _)
     obtain ⟨b2,c2,hv2⟩:=own_someB hown2 (by omega)
     subst hv2
     rw [show 0+4=4 from rfl] at hown2 ⊢
     have HN2:=Lib.hid (HN.out.keep HB2.out)
     have HO2:Hid (w2.ownsRow B 5 1 (.slice (some ⟨b2,0,none⟩) 4 c2) 4 (U8s (Aes.qi t))):=hown2
     clear HT1 HT2 c0 d0 d1 hown2 hgrow2 HB2 HN x1 x2 x3 x4
     go_upto_if 74 with fail
     go_cut [7,9] from 54 to 206 (fun v7 v9 wx=>∃ bx cx,v9 = .slice (some ⟨bx,0,none⟩) 4 cx∧v7 = .int .u8 (((Aes.ky K 4 (i+1-4)).r:Nat):Int)∧Hid (NS w wx B c tb tc O (.slice (some ⟨g,0,none⟩) i cp) i L vs)∧Hid (wx.ownsRow B 5 1 (.slice (some ⟨bx,0,none⟩) 4 cx) 4 (U8s (Aes.qi (Aes.qt 4 i t r)))))
     case first =>
      have HST:Hid (∀ x,Below w2.heap.size w2 x→x.cell? ⟨c,1,none⟩=some (.slice (some ⟨tb,0,none⟩) 256 tc)∧(∀ j,j<256→x.cell? ⟨tb,j,none⟩=some (.int .u8 (((Aes.tn j:Nat):Int))))∧∀ j,j<4→x.cell? ⟨b2,j,none⟩=some (.int .u8 ((Aes.qb t j:Nat):Int))):=fun x hx=>by
       have hn:=HN2.out.keep hx
       refine ⟨by rw [cell_of_row x c 1 _ _ _ hn.str];rfl,fun j hj=>by rw [HTW.out x hn.tab j hj,Aes.tn_int],fun j hj=>?_⟩
       rw [u8_at (own_keepX HO2.out hx) j hj,Aes.qi_get t j hj]
      by_cases hit:i % 4=0
      ·have hb1:(((i:Int) % 4)==0)=true:=by simp;omega
       have hb2:(i:Int) % 4=0:=by omega
       have HR2:Hid ((Aes.ky K 4 (i+1-4)).r=Aes.tb r):=by show _=_;rw [HNR.out,if_pos hit]
       have HQT:Hid (Aes.qt 4 i t r=Aes.qr t r):=by show _=_;unfold Aes.qt;rw [if_pos hit]
       clear HNR hit
       go_upto_region 15 with fail
       clear hb1 hb2
       refine wp_region_any (by kernel_rfl) ?_
       change wpAny _ _ _ _ _ _ _ (World.drew _)
       have HSd:Hid (Below w2.heap.size w2 w2.drew):=(Below.refl _ w2).drew
       generalize w2.drew=wd at *
       have HL0:=Aes.qb_lt HOT.out 0
       have HL1:=Aes.qb_lt HOT.out 1
       have HL2:=Aes.qb_lt HOT.out 2
       have HL3:=Aes.qb_lt HOT.out 3
       refine wpAny_of_L (S:=fun x:World=>Below w2.heap.size w2 x) (k:=39) _ _ _ _ ?_
       refine aL 39 0 75 (.pointer (some ⟨c,0,none⟩)) HSd.out rfl (by intro x hx;have s0:=(HST.out x hx).1;have q0:=(HST.out x hx).2.2 0 (by omega);have y0:=(HST.out x hx).2.1 _ HL0;have q1:=(HST.out x hx).2.2 1 (by omega);have y1:=(HST.out x hx).2.1 _ HL1;have q2:=(HST.out x hx).2.2 2 (by omega);have y2:=(HST.out x hx).2.1 _ HL2;have q3:=(HST.out x hx).2.2 3 (by omega);have y3:=(HST.out x hx).2.1 _ HL3;go_simp;try (intro h;omega)) ?_
       try simp only [Act.put,zq1,zq2,zq3]
       refine aL 39 1 76 (.pointer (some ⟨c,0,none⟩)) HSd.out rfl (by intro x hx;have s0:=(HST.out x hx).1;have q0:=(HST.out x hx).2.2 0 (by omega);have y0:=(HST.out x hx).2.1 _ HL0;have q1:=(HST.out x hx).2.2 1 (by omega);have y1:=(HST.out x hx).2.1 _ HL1;have q2:=(HST.out x hx).2.2 2 (by omega);have y2:=(HST.out x hx).2.1 _ HL2;have q3:=(HST.out x hx).2.2 3 (by omega);have y3:=(HST.out x hx).2.1 _ HL3;go_simp;try (intro h;omega)) ?_
       try simp only [Act.put,zq1,zq2,zq3]
       refine aL 39 2 77 (.pointer (some ⟨c,1,none⟩)) HSd.out rfl (by intro x hx;have s0:=(HST.out x hx).1;have q0:=(HST.out x hx).2.2 0 (by omega);have y0:=(HST.out x hx).2.1 _ HL0;have q1:=(HST.out x hx).2.2 1 (by omega);have y1:=(HST.out x hx).2.1 _ HL1;have q2:=(HST.out x hx).2.2 2 (by omega);have y2:=(HST.out x hx).2.1 _ HL2;have q3:=(HST.out x hx).2.2 3 (by omega);have y3:=(HST.out x hx).2.1 _ HL3;go_simp;try (intro h;omega)) ?_
       try simp only [Act.put,zq1,zq2,zq3]
       refine aL 39 3 78 (.slice (some ⟨tb,0,none⟩) 256 tc) HSd.out rfl (by intro x hx;have s0:=(HST.out x hx).1;have q0:=(HST.out x hx).2.2 0 (by omega);have y0:=(HST.out x hx).2.1 _ HL0;have q1:=(HST.out x hx).2.2 1 (by omega);have y1:=(HST.out x hx).2.1 _ HL1;have q2:=(HST.out x hx).2.2 2 (by omega);have y2:=(HST.out x hx).2.1 _ HL2;have q3:=(HST.out x hx).2.2 3 (by omega);have y3:=(HST.out x hx).2.1 _ HL3;go_simp;try (intro h;omega)) ?_
       try simp only [Act.put,zq1,zq2,zq3]
       refine aL 39 4 79 (.slice (some ⟨b2,0,none⟩) 4 c2) HSd.out rfl (by intro x hx;have s0:=(HST.out x hx).1;have q0:=(HST.out x hx).2.2 0 (by omega);have y0:=(HST.out x hx).2.1 _ HL0;have q1:=(HST.out x hx).2.2 1 (by omega);have y1:=(HST.out x hx).2.1 _ HL1;have q2:=(HST.out x hx).2.2 2 (by omega);have y2:=(HST.out x hx).2.1 _ HL2;have q3:=(HST.out x hx).2.2 3 (by omega);have y3:=(HST.out x hx).2.1 _ HL3;go_simp;try (intro h;omega)) ?_
       try simp only [Act.put,zq1,zq2,zq3]
       refine aL 39 5 80 (.pointer (some ⟨b2,1,none⟩)) HSd.out rfl (by intro x hx;have s0:=(HST.out x hx).1;have q0:=(HST.out x hx).2.2 0 (by omega);have y0:=(HST.out x hx).2.1 _ HL0;have q1:=(HST.out x hx).2.2 1 (by omega);have y1:=(HST.out x hx).2.1 _ HL1;have q2:=(HST.out x hx).2.2 2 (by omega);have y2:=(HST.out x hx).2.1 _ HL2;have q3:=(HST.out x hx).2.2 3 (by omega);have y3:=(HST.out x hx).2.1 _ HL3;go_simp;try (intro h;omega)) ?_
       try simp only [Act.put,zq1,zq2,zq3]
       refine aL 39 6 81 (.int .u8 ((Aes.qb t 1:Nat):Int)) HSd.out rfl (by intro x hx;have s0:=(HST.out x hx).1;have q0:=(HST.out x hx).2.2 0 (by omega);have y0:=(HST.out x hx).2.1 _ HL0;have q1:=(HST.out x hx).2.2 1 (by omega);have y1:=(HST.out x hx).2.1 _ HL1;have q2:=(HST.out x hx).2.2 2 (by omega);have y2:=(HST.out x hx).2.1 _ HL2;have q3:=(HST.out x hx).2.2 3 (by omega);have y3:=(HST.out x hx).2.1 _ HL3;go_simp;try (intro h;omega)) ?_
       try simp only [Act.put,zq1,zq2,zq3]
       refine aL 39 7 82 (.pointer (some ⟨tb,Aes.qb t 1,none⟩)) HSd.out rfl (by intro x hx;have s0:=(HST.out x hx).1;have q0:=(HST.out x hx).2.2 0 (by omega);have y0:=(HST.out x hx).2.1 _ HL0;have q1:=(HST.out x hx).2.2 1 (by omega);have y1:=(HST.out x hx).2.1 _ HL1;have q2:=(HST.out x hx).2.2 2 (by omega);have y2:=(HST.out x hx).2.1 _ HL2;have q3:=(HST.out x hx).2.2 3 (by omega);have y3:=(HST.out x hx).2.1 _ HL3;go_simp;try (intro h;omega)) ?_
       try simp only [Act.put,zq1,zq2,zq3]
       refine aL 39 8 83 (.int .u8 ((Aes.tn (Aes.qb t 1):Nat):Int)) HSd.out rfl (by intro x hx;have s0:=(HST.out x hx).1;have q0:=(HST.out x hx).2.2 0 (by omega);have y0:=(HST.out x hx).2.1 _ HL0;have q1:=(HST.out x hx).2.2 1 (by omega);have y1:=(HST.out x hx).2.1 _ HL1;have q2:=(HST.out x hx).2.2 2 (by omega);have y2:=(HST.out x hx).2.1 _ HL2;have q3:=(HST.out x hx).2.2 3 (by omega);have y3:=(HST.out x hx).2.1 _ HL3;go_simp;try (intro h;omega)) ?_
       try simp only [Act.put,zq1,zq2,zq3]
       refine aL 39 9 84 (.int .u8 (r:Int)) HSd.out rfl (by intro x hx;have s0:=(HST.out x hx).1;have q0:=(HST.out x hx).2.2 0 (by omega);have y0:=(HST.out x hx).2.1 _ HL0;have q1:=(HST.out x hx).2.2 1 (by omega);have y1:=(HST.out x hx).2.1 _ HL1;have q2:=(HST.out x hx).2.2 2 (by omega);have y2:=(HST.out x hx).2.1 _ HL2;have q3:=(HST.out x hx).2.2 3 (by omega);have y3:=(HST.out x hx).2.1 _ HL3;go_simp;try (intro h;omega)) ?_
       try simp only [Act.put,zq1,zq2,zq3]
       refine aL 39 10 85 (.int .u8 (bits .xor .u8 ((Aes.tn (Aes.qb t 1):Nat):Int) (r:Int))) HSd.out rfl (by intro x hx;have s0:=(HST.out x hx).1;have q0:=(HST.out x hx).2.2 0 (by omega);have y0:=(HST.out x hx).2.1 _ HL0;have q1:=(HST.out x hx).2.2 1 (by omega);have y1:=(HST.out x hx).2.1 _ HL1;have q2:=(HST.out x hx).2.2 2 (by omega);have y2:=(HST.out x hx).2.1 _ HL2;have q3:=(HST.out x hx).2.2 3 (by omega);have y3:=(HST.out x hx).2.1 _ HL3;go_simp;try (intro h;omega)) ?_
       try simp only [Act.put,zq1,zq2,zq3]
       refine aL 39 11 86 (.pointer (some ⟨c,0,none⟩)) HSd.out rfl (by intro x hx;have s0:=(HST.out x hx).1;have q0:=(HST.out x hx).2.2 0 (by omega);have y0:=(HST.out x hx).2.1 _ HL0;have q1:=(HST.out x hx).2.2 1 (by omega);have y1:=(HST.out x hx).2.1 _ HL1;have q2:=(HST.out x hx).2.2 2 (by omega);have y2:=(HST.out x hx).2.1 _ HL2;have q3:=(HST.out x hx).2.2 3 (by omega);have y3:=(HST.out x hx).2.1 _ HL3;go_simp;try (intro h;omega)) ?_
       try simp only [Act.put,zq1,zq2,zq3]
       refine aL 39 12 87 (.pointer (some ⟨c,0,none⟩)) HSd.out rfl (by intro x hx;have s0:=(HST.out x hx).1;have q0:=(HST.out x hx).2.2 0 (by omega);have y0:=(HST.out x hx).2.1 _ HL0;have q1:=(HST.out x hx).2.2 1 (by omega);have y1:=(HST.out x hx).2.1 _ HL1;have q2:=(HST.out x hx).2.2 2 (by omega);have y2:=(HST.out x hx).2.1 _ HL2;have q3:=(HST.out x hx).2.2 3 (by omega);have y3:=(HST.out x hx).2.1 _ HL3;go_simp;try (intro h;omega)) ?_
       try simp only [Act.put,zq1,zq2,zq3]
       refine aL 39 13 88 (.pointer (some ⟨c,1,none⟩)) HSd.out rfl (by intro x hx;have s0:=(HST.out x hx).1;have q0:=(HST.out x hx).2.2 0 (by omega);have y0:=(HST.out x hx).2.1 _ HL0;have q1:=(HST.out x hx).2.2 1 (by omega);have y1:=(HST.out x hx).2.1 _ HL1;have q2:=(HST.out x hx).2.2 2 (by omega);have y2:=(HST.out x hx).2.1 _ HL2;have q3:=(HST.out x hx).2.2 3 (by omega);have y3:=(HST.out x hx).2.1 _ HL3;go_simp;try (intro h;omega)) ?_
       try simp only [Act.put,zq1,zq2,zq3]
       refine aL 39 14 89 (.slice (some ⟨tb,0,none⟩) 256 tc) HSd.out rfl (by intro x hx;have s0:=(HST.out x hx).1;have q0:=(HST.out x hx).2.2 0 (by omega);have y0:=(HST.out x hx).2.1 _ HL0;have q1:=(HST.out x hx).2.2 1 (by omega);have y1:=(HST.out x hx).2.1 _ HL1;have q2:=(HST.out x hx).2.2 2 (by omega);have y2:=(HST.out x hx).2.1 _ HL2;have q3:=(HST.out x hx).2.2 3 (by omega);have y3:=(HST.out x hx).2.1 _ HL3;go_simp;try (intro h;omega)) ?_
       try simp only [Act.put,zq1,zq2,zq3]
       refine aL 39 15 90 (.slice (some ⟨b2,0,none⟩) 4 c2) HSd.out rfl (by intro x hx;have s0:=(HST.out x hx).1;have q0:=(HST.out x hx).2.2 0 (by omega);have y0:=(HST.out x hx).2.1 _ HL0;have q1:=(HST.out x hx).2.2 1 (by omega);have y1:=(HST.out x hx).2.1 _ HL1;have q2:=(HST.out x hx).2.2 2 (by omega);have y2:=(HST.out x hx).2.1 _ HL2;have q3:=(HST.out x hx).2.2 3 (by omega);have y3:=(HST.out x hx).2.1 _ HL3;go_simp;try (intro h;omega)) ?_
       try simp only [Act.put,zq1,zq2,zq3]
       refine aL 39 16 91 (.pointer (some ⟨b2,2,none⟩)) HSd.out rfl (by intro x hx;have s0:=(HST.out x hx).1;have q0:=(HST.out x hx).2.2 0 (by omega);have y0:=(HST.out x hx).2.1 _ HL0;have q1:=(HST.out x hx).2.2 1 (by omega);have y1:=(HST.out x hx).2.1 _ HL1;have q2:=(HST.out x hx).2.2 2 (by omega);have y2:=(HST.out x hx).2.1 _ HL2;have q3:=(HST.out x hx).2.2 3 (by omega);have y3:=(HST.out x hx).2.1 _ HL3;go_simp;try (intro h;omega)) ?_
       try simp only [Act.put,zq1,zq2,zq3]
       refine aL 39 17 92 (.int .u8 ((Aes.qb t 2:Nat):Int)) HSd.out rfl (by intro x hx;have s0:=(HST.out x hx).1;have q0:=(HST.out x hx).2.2 0 (by omega);have y0:=(HST.out x hx).2.1 _ HL0;have q1:=(HST.out x hx).2.2 1 (by omega);have y1:=(HST.out x hx).2.1 _ HL1;have q2:=(HST.out x hx).2.2 2 (by omega);have y2:=(HST.out x hx).2.1 _ HL2;have q3:=(HST.out x hx).2.2 3 (by omega);have y3:=(HST.out x hx).2.1 _ HL3;go_simp;try (intro h;omega)) ?_
       try simp only [Act.put,zq1,zq2,zq3]
       refine aL 39 18 93 (.pointer (some ⟨tb,Aes.qb t 2,none⟩)) HSd.out rfl (by intro x hx;have s0:=(HST.out x hx).1;have q0:=(HST.out x hx).2.2 0 (by omega);have y0:=(HST.out x hx).2.1 _ HL0;have q1:=(HST.out x hx).2.2 1 (by omega);have y1:=(HST.out x hx).2.1 _ HL1;have q2:=(HST.out x hx).2.2 2 (by omega);have y2:=(HST.out x hx).2.1 _ HL2;have q3:=(HST.out x hx).2.2 3 (by omega);have y3:=(HST.out x hx).2.1 _ HL3;go_simp;try (intro h;omega)) ?_
       try simp only [Act.put,zq1,zq2,zq3]
       refine aL 39 19 94 (.int .u8 ((Aes.tn (Aes.qb t 2):Nat):Int)) HSd.out rfl (by intro x hx;have s0:=(HST.out x hx).1;have q0:=(HST.out x hx).2.2 0 (by omega);have y0:=(HST.out x hx).2.1 _ HL0;have q1:=(HST.out x hx).2.2 1 (by omega);have y1:=(HST.out x hx).2.1 _ HL1;have q2:=(HST.out x hx).2.2 2 (by omega);have y2:=(HST.out x hx).2.1 _ HL2;have q3:=(HST.out x hx).2.2 3 (by omega);have y3:=(HST.out x hx).2.1 _ HL3;go_simp;try (intro h;omega)) ?_
       try simp only [Act.put,zq1,zq2,zq3]
       refine aL 39 20 95 (.pointer (some ⟨c,0,none⟩)) HSd.out rfl (by intro x hx;have s0:=(HST.out x hx).1;have q0:=(HST.out x hx).2.2 0 (by omega);have y0:=(HST.out x hx).2.1 _ HL0;have q1:=(HST.out x hx).2.2 1 (by omega);have y1:=(HST.out x hx).2.1 _ HL1;have q2:=(HST.out x hx).2.2 2 (by omega);have y2:=(HST.out x hx).2.1 _ HL2;have q3:=(HST.out x hx).2.2 3 (by omega);have y3:=(HST.out x hx).2.1 _ HL3;go_simp;try (intro h;omega)) ?_
       try simp only [Act.put,zq1,zq2,zq3]
       refine aL 39 21 96 (.pointer (some ⟨c,0,none⟩)) HSd.out rfl (by intro x hx;have s0:=(HST.out x hx).1;have q0:=(HST.out x hx).2.2 0 (by omega);have y0:=(HST.out x hx).2.1 _ HL0;have q1:=(HST.out x hx).2.2 1 (by omega);have y1:=(HST.out x hx).2.1 _ HL1;have q2:=(HST.out x hx).2.2 2 (by omega);have y2:=(HST.out x hx).2.1 _ HL2;have q3:=(HST.out x hx).2.2 3 (by omega);have y3:=(HST.out x hx).2.1 _ HL3;go_simp;try (intro h;omega)) ?_
       try simp only [Act.put,zq1,zq2,zq3]
       refine aL 39 22 97 (.pointer (some ⟨c,1,none⟩)) HSd.out rfl (by intro x hx;have s0:=(HST.out x hx).1;have q0:=(HST.out x hx).2.2 0 (by omega);have y0:=(HST.out x hx).2.1 _ HL0;have q1:=(HST.out x hx).2.2 1 (by omega);have y1:=(HST.out x hx).2.1 _ HL1;have q2:=(HST.out x hx).2.2 2 (by omega);have y2:=(HST.out x hx).2.1 _ HL2;have q3:=(HST.out x hx).2.2 3 (by omega);have y3:=(HST.out x hx).2.1 _ HL3;go_simp;try (intro h;omega)) ?_
       try simp only [Act.put,zq1,zq2,zq3]
       refine aL 39 23 98 (.slice (some ⟨tb,0,none⟩) 256 tc) HSd.out rfl (by intro x hx;have s0:=(HST.out x hx).1;have q0:=(HST.out x hx).2.2 0 (by omega);have y0:=(HST.out x hx).2.1 _ HL0;have q1:=(HST.out x hx).2.2 1 (by omega);have y1:=(HST.out x hx).2.1 _ HL1;have q2:=(HST.out x hx).2.2 2 (by omega);have y2:=(HST.out x hx).2.1 _ HL2;have q3:=(HST.out x hx).2.2 3 (by omega);have y3:=(HST.out x hx).2.1 _ HL3;go_simp;try (intro h;omega)) ?_
       try simp only [Act.put,zq1,zq2,zq3]
       refine aL 39 24 99 (.slice (some ⟨b2,0,none⟩) 4 c2) HSd.out rfl (by intro x hx;have s0:=(HST.out x hx).1;have q0:=(HST.out x hx).2.2 0 (by omega);have y0:=(HST.out x hx).2.1 _ HL0;have q1:=(HST.out x hx).2.2 1 (by omega);have y1:=(HST.out x hx).2.1 _ HL1;have q2:=(HST.out x hx).2.2 2 (by omega);have y2:=(HST.out x hx).2.1 _ HL2;have q3:=(HST.out x hx).2.2 3 (by omega);have y3:=(HST.out x hx).2.1 _ HL3;go_simp;try (intro h;omega)) ?_
       try simp only [Act.put,zq1,zq2,zq3]
       refine aL 39 25 100 (.pointer (some ⟨b2,3,none⟩)) HSd.out rfl (by intro x hx;have s0:=(HST.out x hx).1;have q0:=(HST.out x hx).2.2 0 (by omega);have y0:=(HST.out x hx).2.1 _ HL0;have q1:=(HST.out x hx).2.2 1 (by omega);have y1:=(HST.out x hx).2.1 _ HL1;have q2:=(HST.out x hx).2.2 2 (by omega);have y2:=(HST.out x hx).2.1 _ HL2;have q3:=(HST.out x hx).2.2 3 (by omega);have y3:=(HST.out x hx).2.1 _ HL3;go_simp;try (intro h;omega)) ?_
       try simp only [Act.put,zq1,zq2,zq3]
       refine aL 39 26 101 (.int .u8 ((Aes.qb t 3:Nat):Int)) HSd.out rfl (by intro x hx;have s0:=(HST.out x hx).1;have q0:=(HST.out x hx).2.2 0 (by omega);have y0:=(HST.out x hx).2.1 _ HL0;have q1:=(HST.out x hx).2.2 1 (by omega);have y1:=(HST.out x hx).2.1 _ HL1;have q2:=(HST.out x hx).2.2 2 (by omega);have y2:=(HST.out x hx).2.1 _ HL2;have q3:=(HST.out x hx).2.2 3 (by omega);have y3:=(HST.out x hx).2.1 _ HL3;go_simp;try (intro h;omega)) ?_
       try simp only [Act.put,zq1,zq2,zq3]
       refine aL 39 27 102 (.pointer (some ⟨tb,Aes.qb t 3,none⟩)) HSd.out rfl (by intro x hx;have s0:=(HST.out x hx).1;have q0:=(HST.out x hx).2.2 0 (by omega);have y0:=(HST.out x hx).2.1 _ HL0;have q1:=(HST.out x hx).2.2 1 (by omega);have y1:=(HST.out x hx).2.1 _ HL1;have q2:=(HST.out x hx).2.2 2 (by omega);have y2:=(HST.out x hx).2.1 _ HL2;have q3:=(HST.out x hx).2.2 3 (by omega);have y3:=(HST.out x hx).2.1 _ HL3;go_simp;try (intro h;omega)) ?_
       try simp only [Act.put,zq1,zq2,zq3]
       refine aL 39 28 103 (.int .u8 ((Aes.tn (Aes.qb t 3):Nat):Int)) HSd.out rfl (by intro x hx;have s0:=(HST.out x hx).1;have q0:=(HST.out x hx).2.2 0 (by omega);have y0:=(HST.out x hx).2.1 _ HL0;have q1:=(HST.out x hx).2.2 1 (by omega);have y1:=(HST.out x hx).2.1 _ HL1;have q2:=(HST.out x hx).2.2 2 (by omega);have y2:=(HST.out x hx).2.1 _ HL2;have q3:=(HST.out x hx).2.2 3 (by omega);have y3:=(HST.out x hx).2.1 _ HL3;go_simp;try (intro h;omega)) ?_
       try simp only [Act.put,zq1,zq2,zq3]
       refine aL 39 29 104 (.pointer (some ⟨c,0,none⟩)) HSd.out rfl (by intro x hx;have s0:=(HST.out x hx).1;have q0:=(HST.out x hx).2.2 0 (by omega);have y0:=(HST.out x hx).2.1 _ HL0;have q1:=(HST.out x hx).2.2 1 (by omega);have y1:=(HST.out x hx).2.1 _ HL1;have q2:=(HST.out x hx).2.2 2 (by omega);have y2:=(HST.out x hx).2.1 _ HL2;have q3:=(HST.out x hx).2.2 3 (by omega);have y3:=(HST.out x hx).2.1 _ HL3;go_simp;try (intro h;omega)) ?_
       try simp only [Act.put,zq1,zq2,zq3]
       refine aL 39 30 105 (.pointer (some ⟨c,0,none⟩)) HSd.out rfl (by intro x hx;have s0:=(HST.out x hx).1;have q0:=(HST.out x hx).2.2 0 (by omega);have y0:=(HST.out x hx).2.1 _ HL0;have q1:=(HST.out x hx).2.2 1 (by omega);have y1:=(HST.out x hx).2.1 _ HL1;have q2:=(HST.out x hx).2.2 2 (by omega);have y2:=(HST.out x hx).2.1 _ HL2;have q3:=(HST.out x hx).2.2 3 (by omega);have y3:=(HST.out x hx).2.1 _ HL3;go_simp;try (intro h;omega)) ?_
       try simp only [Act.put,zq1,zq2,zq3]
       refine aL 39 31 106 (.pointer (some ⟨c,1,none⟩)) HSd.out rfl (by intro x hx;have s0:=(HST.out x hx).1;have q0:=(HST.out x hx).2.2 0 (by omega);have y0:=(HST.out x hx).2.1 _ HL0;have q1:=(HST.out x hx).2.2 1 (by omega);have y1:=(HST.out x hx).2.1 _ HL1;have q2:=(HST.out x hx).2.2 2 (by omega);have y2:=(HST.out x hx).2.1 _ HL2;have q3:=(HST.out x hx).2.2 3 (by omega);have y3:=(HST.out x hx).2.1 _ HL3;go_simp;try (intro h;omega)) ?_
       try simp only [Act.put,zq1,zq2,zq3]
       refine aL 39 32 107 (.slice (some ⟨tb,0,none⟩) 256 tc) HSd.out rfl (by intro x hx;have s0:=(HST.out x hx).1;have q0:=(HST.out x hx).2.2 0 (by omega);have y0:=(HST.out x hx).2.1 _ HL0;have q1:=(HST.out x hx).2.2 1 (by omega);have y1:=(HST.out x hx).2.1 _ HL1;have q2:=(HST.out x hx).2.2 2 (by omega);have y2:=(HST.out x hx).2.1 _ HL2;have q3:=(HST.out x hx).2.2 3 (by omega);have y3:=(HST.out x hx).2.1 _ HL3;go_simp;try (intro h;omega)) ?_
       try simp only [Act.put,zq1,zq2,zq3]
       refine aL 39 33 108 (.slice (some ⟨b2,0,none⟩) 4 c2) HSd.out rfl (by intro x hx;have s0:=(HST.out x hx).1;have q0:=(HST.out x hx).2.2 0 (by omega);have y0:=(HST.out x hx).2.1 _ HL0;have q1:=(HST.out x hx).2.2 1 (by omega);have y1:=(HST.out x hx).2.1 _ HL1;have q2:=(HST.out x hx).2.2 2 (by omega);have y2:=(HST.out x hx).2.1 _ HL2;have q3:=(HST.out x hx).2.2 3 (by omega);have y3:=(HST.out x hx).2.1 _ HL3;go_simp;try (intro h;omega)) ?_
       try simp only [Act.put,zq1,zq2,zq3]
       refine aL 39 34 109 (.pointer (some ⟨b2,0,none⟩)) HSd.out rfl (by intro x hx;have s0:=(HST.out x hx).1;have q0:=(HST.out x hx).2.2 0 (by omega);have y0:=(HST.out x hx).2.1 _ HL0;have q1:=(HST.out x hx).2.2 1 (by omega);have y1:=(HST.out x hx).2.1 _ HL1;have q2:=(HST.out x hx).2.2 2 (by omega);have y2:=(HST.out x hx).2.1 _ HL2;have q3:=(HST.out x hx).2.2 3 (by omega);have y3:=(HST.out x hx).2.1 _ HL3;go_simp;try (intro h;omega)) ?_
       try simp only [Act.put,zq1,zq2,zq3]
       refine aL 39 35 110 (.int .u8 ((Aes.qb t 0:Nat):Int)) HSd.out rfl (by intro x hx;have s0:=(HST.out x hx).1;have q0:=(HST.out x hx).2.2 0 (by omega);have y0:=(HST.out x hx).2.1 _ HL0;have q1:=(HST.out x hx).2.2 1 (by omega);have y1:=(HST.out x hx).2.1 _ HL1;have q2:=(HST.out x hx).2.2 2 (by omega);have y2:=(HST.out x hx).2.1 _ HL2;have q3:=(HST.out x hx).2.2 3 (by omega);have y3:=(HST.out x hx).2.1 _ HL3;go_simp;try (intro h;omega)) ?_
       try simp only [Act.put,zq1,zq2,zq3]
       refine aL 39 36 111 (.pointer (some ⟨tb,Aes.qb t 0,none⟩)) HSd.out rfl (by intro x hx;have s0:=(HST.out x hx).1;have q0:=(HST.out x hx).2.2 0 (by omega);have y0:=(HST.out x hx).2.1 _ HL0;have q1:=(HST.out x hx).2.2 1 (by omega);have y1:=(HST.out x hx).2.1 _ HL1;have q2:=(HST.out x hx).2.2 2 (by omega);have y2:=(HST.out x hx).2.1 _ HL2;have q3:=(HST.out x hx).2.2 3 (by omega);have y3:=(HST.out x hx).2.1 _ HL3;go_simp;try (intro h;omega)) ?_
       try simp only [Act.put,zq1,zq2,zq3]
       refine aL 39 37 112 (.int .u8 ((Aes.tn (Aes.qb t 0):Nat):Int)) HSd.out rfl (by intro x hx;have s0:=(HST.out x hx).1;have q0:=(HST.out x hx).2.2 0 (by omega);have y0:=(HST.out x hx).2.1 _ HL0;have q1:=(HST.out x hx).2.2 1 (by omega);have y1:=(HST.out x hx).2.1 _ HL1;have q2:=(HST.out x hx).2.2 2 (by omega);have y2:=(HST.out x hx).2.1 _ HL2;have q3:=(HST.out x hx).2.2 3 (by omega);have y3:=(HST.out x hx).2.1 _ HL3;go_simp;try (intro h;omega)) ?_
       try simp only [Act.put,zq1,zq2,zq3]
       have HBy:Hid (Below w2.heap.size w2 (wd.alloc (.cells #[.int .u8 (bits .xor .u8 ((Aes.tn (Aes.qb t 1):Nat):Int) (r:Int)),.int .u8 ((Aes.tn (Aes.qb t 2):Nat):Int),.int .u8 ((Aes.tn (Aes.qb t 3):Nat):Int),.int .u8 ((Aes.tn (Aes.qb t 0):Nat):Int)] 5))):=HSd.out.alloc HSd.out.size _
       have HNz:Hid (NS w (wd.alloc (.cells #[.int .u8 (bits .xor .u8 ((Aes.tn (Aes.qb t 1):Nat):Int) (r:Int)),.int .u8 ((Aes.tn (Aes.qb t 2):Nat):Int),.int .u8 ((Aes.tn (Aes.qb t 3):Nat):Int),.int .u8 ((Aes.tn (Aes.qb t 0):Nat):Int)] 5)) B c tb tc O (.slice (some ⟨g,0,none⟩) i cp) i L vs):=HN2.out.keep HBy.out
       have HOz:Hid ((wd.alloc (.cells #[.int .u8 (bits .xor .u8 ((Aes.tn (Aes.qb t 1):Nat):Int) (r:Int)),.int .u8 ((Aes.tn (Aes.qb t 2):Nat):Int),.int .u8 ((Aes.tn (Aes.qb t 3):Nat):Int),.int .u8 ((Aes.tn (Aes.qb t 0):Nat):Int)] 5)).ownsRow B 5 1 (.slice (some ⟨wd.heap.size,0,none⟩) 4 4) 4 (U8s (Aes.qi (Aes.qr t r)))):=by
        have e:U8s (Aes.qi (Aes.qr t r))=(#[.int .u8 (bits .xor .u8 ((Aes.tn (Aes.qb t 1):Nat):Int) (r:Int)),.int .u8 ((Aes.tn (Aes.qb t 2):Nat):Int),.int .u8 ((Aes.tn (Aes.qb t 3):Nat):Int),.int .u8 ((Aes.tn (Aes.qb t 0):Nat):Int)]:Array Value).toList:=by
         rw [Aes.xor_u8 _ _ (Aes.tn_lt _) hr256]
         unfold U8s
         rfl
        rw [e]
        exact World.ownsRow_lit wd _ 4 (Nat.le_trans HN2.out.hi HSd.out.size) (by unfold maxLen;omega) rfl
       refine anyL_one 39 38 (by kernel_rfl) ?_
       refine wpOp_step rfl (fun Kc hKc=>?_)
       go_simp
       refine hKc _ _ ⟨fun _=>HBy.out,?_⟩
       clear hKc Kc
       try simp only [Act.put,zq1,zq2,zq3]
       clear HSd
       generalize wd.alloc (.cells #[.int .u8 (bits .xor .u8 ((Aes.tn (Aes.qb t 1):Nat):Int) (r:Int)),.int .u8 ((Aes.tn (Aes.qb t 2):Nat):Int),.int .u8 ((Aes.tn (Aes.qb t 3):Nat):Int),.int .u8 ((Aes.tn (Aes.qb t 0):Nat):Int)] 5)=wz at *
       generalize wd.heap.size=bz at *
       refine anyL_one 39 39 (by kernel_rfl) ?_
       refine wpOp_step rfl (fun Kc hKc=>?_)
       go_simp
       refine hKc _ _ ⟨fun h=>absurd rfl h,?_⟩
       clear hKc Kc
       try simp only [Act.put,zq1,zq2,zq3]
       refine anyL_done (by kernel_rfl) ?_ _
       clear HL0 HL1 HL2 HL3 HST HBy
       go_wp2_with (go_at_call 143;refine (twice_ref r hr256 _).mono ?_;rintro e wy ⟨rfl,rfl⟩)
       go_meet
       case rel=>exact ⟨_,_,rfl,by rw [HR2.out],HNz.out,by rw [HQT.out];exact HOz.out⟩
      ·have hb1:(((i:Int) % 4)==0)=false:=by simp;omega
       have hb2:¬ (i:Int) % 4=0:=by omega
       have HR2:Hid ((Aes.ky K 4 (i+1-4)).r=r):=by show _=_;rw [HNR.out,if_neg hit]
       have HQT:Hid (Aes.qt 4 i t r=t):=by show _=_;unfold Aes.qt;rw [if_neg hit,if_neg (by omega)]
       clear HNR hit
       go_wp2
       go_meet
       case rel=>exact ⟨_,_,rfl,by rw [HR2.out],HN2.out,by rw [HQT.out];exact HO2.out⟩
     case rest =>
      obtain ⟨bx,cx,rfl,rfl,HNx,HOx⟩:=hcut
      clear HN2 HO2
      have HOT2:=Lib.hid (Aes.qt_ok 4 i HOT.out hr256)
      generalize Aes.qt 4 i t r=t2 at *
      generalize hr2:(Aes.ky K 4 (i+1-4)).r=r2 at *
      have Hr2:=Lib.hid hr2;clear hr2
      obtain ⟨bq,cq,hq0,hq2⟩:=HNx.out.rws.2.2 (i-4) (by omega)
      rw [Hq.out] at hq2
      have hq1:wc.cell? ⟨g,i-4,none⟩=some (.slice (some ⟨bq,0,none⟩) 4 cq):=by rw [HNx.out.rws.1.cellAt (i-4) (by omega)];exact hq0
      have HQ2:=Lib.hid hq2;clear hq2 hq0
      have c0:wc.cell? ⟨c,0,none⟩=some (.slice (some ⟨g,0,none⟩) i cp):=by rw [cell_of_row wc c 0 _ _ _ HNx.out.str];rfl
      have x1:IntKind.i64.wrap ((i:Int)-4)=(i:Int)-4:=IntWalk.i64_in _ ⟨by omega,by omega⟩
      have x2:0≤(i:Int)-4:=by omega
      have x3:((i:Int)-4).toNat=i-4:=by omega
      have x4:(i:Int)-4<(i:Int):=by omega
      go_upto_region 20 with fail
      clear x1 x2 x3 x4 hq1
      refine wp_region_any (by kernel_rfl) ?_
      change wpAny _ _ _ _ _ _ _ (World.drew _)
      have HSd:Hid (Tri B c (.slice (some ⟨g,0,none⟩) i cp) bq cq q bx cx t2 wc.drew):=(Tri.mk c0 HQ2.out HOx.out:Tri B c (.slice (some ⟨g,0,none⟩) i cp) bq cq q bx cx t2 wc).keep (Below.refl _ wc).drew
      have HNd:Hid (NS w wc.drew B c tb tc O (.slice (some ⟨g,0,none⟩) i cp) i L vs):=HNx.out.keep (Below.refl _ wc).drew
      clear c0 HQ2 HOx HNx
      generalize wc.drew=wd at *
      refine wpAny_of_L (S:=Tri B c (.slice (some ⟨g,0,none⟩) i cp) bq cq q bx cx t2) (k:=38) _ _ _ _ ?_
      refine aL 38 0 169 (.pointer (some ⟨c,0,none⟩)) HSd.out rfl (by intro x hx;have s0:=hx.c;have q0:=(hx.at 0 (by omega)).1;have q1:=(hx.at 1 (by omega)).1;have q2:=(hx.at 2 (by omega)).1;have q3:=(hx.at 3 (by omega)).1;have t0:=(hx.at 0 (by omega)).2;have t1:=(hx.at 1 (by omega)).2;have t2:=(hx.at 2 (by omega)).2;have t3:=(hx.at 3 (by omega)).2;clear hx;go_simp;try (intro h;omega)) ?_
      try simp only [Act.put,zq1,zq2,zq3]
      refine aL 38 1 170 (.pointer (some ⟨c,0,none⟩)) HSd.out rfl (by intro x hx;have s0:=hx.c;have q0:=(hx.at 0 (by omega)).1;have q1:=(hx.at 1 (by omega)).1;have q2:=(hx.at 2 (by omega)).1;have q3:=(hx.at 3 (by omega)).1;have t0:=(hx.at 0 (by omega)).2;have t1:=(hx.at 1 (by omega)).2;have t2:=(hx.at 2 (by omega)).2;have t3:=(hx.at 3 (by omega)).2;clear hx;go_simp;try (intro h;omega)) ?_
      try simp only [Act.put,zq1,zq2,zq3]
      refine aL 38 2 171 (.pointer (some ⟨c,0,none⟩)) HSd.out rfl (by intro x hx;have s0:=hx.c;have q0:=(hx.at 0 (by omega)).1;have q1:=(hx.at 1 (by omega)).1;have q2:=(hx.at 2 (by omega)).1;have q3:=(hx.at 3 (by omega)).1;have t0:=(hx.at 0 (by omega)).2;have t1:=(hx.at 1 (by omega)).2;have t2:=(hx.at 2 (by omega)).2;have t3:=(hx.at 3 (by omega)).2;clear hx;go_simp;try (intro h;omega)) ?_
      try simp only [Act.put,zq1,zq2,zq3]
      refine aL 38 3 172 (.pointer (some ⟨c,0,none⟩)) HSd.out rfl (by intro x hx;have s0:=hx.c;have q0:=(hx.at 0 (by omega)).1;have q1:=(hx.at 1 (by omega)).1;have q2:=(hx.at 2 (by omega)).1;have q3:=(hx.at 3 (by omega)).1;have t0:=(hx.at 0 (by omega)).2;have t1:=(hx.at 1 (by omega)).2;have t2:=(hx.at 2 (by omega)).2;have t3:=(hx.at 3 (by omega)).2;clear hx;go_simp;try (intro h;omega)) ?_
      try simp only [Act.put,zq1,zq2,zq3]
      refine aL 38 4 173 (.slice (some ⟨g,0,none⟩) i cp) HSd.out rfl (by intro x hx;have s0:=hx.c;have q0:=(hx.at 0 (by omega)).1;have q1:=(hx.at 1 (by omega)).1;have q2:=(hx.at 2 (by omega)).1;have q3:=(hx.at 3 (by omega)).1;have t0:=(hx.at 0 (by omega)).2;have t1:=(hx.at 1 (by omega)).2;have t2:=(hx.at 2 (by omega)).2;have t3:=(hx.at 3 (by omega)).2;clear hx;go_simp;try (intro h;omega)) ?_
      try simp only [Act.put,zq1,zq2,zq3]
      refine aL 38 5 174 (.slice (some ⟨bq,0,none⟩) 4 cq) HSd.out rfl (by intro x hx;have s0:=hx.c;have q0:=(hx.at 0 (by omega)).1;have q1:=(hx.at 1 (by omega)).1;have q2:=(hx.at 2 (by omega)).1;have q3:=(hx.at 3 (by omega)).1;have t0:=(hx.at 0 (by omega)).2;have t1:=(hx.at 1 (by omega)).2;have t2:=(hx.at 2 (by omega)).2;have t3:=(hx.at 3 (by omega)).2;clear hx;go_simp;try (intro h;omega)) ?_
      try simp only [Act.put,zq1,zq2,zq3]
      refine aL 38 6 175 (.pointer (some ⟨bq,0,none⟩)) HSd.out rfl (by intro x hx;have s0:=hx.c;have q0:=(hx.at 0 (by omega)).1;have q1:=(hx.at 1 (by omega)).1;have q2:=(hx.at 2 (by omega)).1;have q3:=(hx.at 3 (by omega)).1;have t0:=(hx.at 0 (by omega)).2;have t1:=(hx.at 1 (by omega)).2;have t2:=(hx.at 2 (by omega)).2;have t3:=(hx.at 3 (by omega)).2;clear hx;go_simp;try (intro h;omega)) ?_
      try simp only [Act.put,zq1,zq2,zq3]
      refine aL 38 7 176 (.int .u8 ((Aes.qb q 0:Nat):Int)) HSd.out rfl (by intro x hx;have s0:=hx.c;have q0:=(hx.at 0 (by omega)).1;have q1:=(hx.at 1 (by omega)).1;have q2:=(hx.at 2 (by omega)).1;have q3:=(hx.at 3 (by omega)).1;have t0:=(hx.at 0 (by omega)).2;have t1:=(hx.at 1 (by omega)).2;have t2:=(hx.at 2 (by omega)).2;have t3:=(hx.at 3 (by omega)).2;clear hx;go_simp;try (intro h;omega)) ?_
      try simp only [Act.put,zq1,zq2,zq3]
      refine aL 38 8 177 (.slice (some ⟨bx,0,none⟩) 4 cx) HSd.out rfl (by intro x hx;have s0:=hx.c;have q0:=(hx.at 0 (by omega)).1;have q1:=(hx.at 1 (by omega)).1;have q2:=(hx.at 2 (by omega)).1;have q3:=(hx.at 3 (by omega)).1;have t0:=(hx.at 0 (by omega)).2;have t1:=(hx.at 1 (by omega)).2;have t2:=(hx.at 2 (by omega)).2;have t3:=(hx.at 3 (by omega)).2;clear hx;go_simp;try (intro h;omega)) ?_
      try simp only [Act.put,zq1,zq2,zq3]
      refine aL 38 9 178 (.pointer (some ⟨bx,0,none⟩)) HSd.out rfl (by intro x hx;have s0:=hx.c;have q0:=(hx.at 0 (by omega)).1;have q1:=(hx.at 1 (by omega)).1;have q2:=(hx.at 2 (by omega)).1;have q3:=(hx.at 3 (by omega)).1;have t0:=(hx.at 0 (by omega)).2;have t1:=(hx.at 1 (by omega)).2;have t2:=(hx.at 2 (by omega)).2;have t3:=(hx.at 3 (by omega)).2;clear hx;go_simp;try (intro h;omega)) ?_
      try simp only [Act.put,zq1,zq2,zq3]
      refine aL 38 10 179 (.int .u8 ((Aes.qb t2 0:Nat):Int)) HSd.out rfl (by intro x hx;have s0:=hx.c;have q0:=(hx.at 0 (by omega)).1;have q1:=(hx.at 1 (by omega)).1;have q2:=(hx.at 2 (by omega)).1;have q3:=(hx.at 3 (by omega)).1;have t0:=(hx.at 0 (by omega)).2;have t1:=(hx.at 1 (by omega)).2;have t2:=(hx.at 2 (by omega)).2;have t3:=(hx.at 3 (by omega)).2;clear hx;go_simp;try (intro h;omega)) ?_
      try simp only [Act.put,zq1,zq2,zq3]
      refine aL 38 11 180 (.int .u8 (bits .xor .u8 ((Aes.qb q 0:Nat):Int) ((Aes.qb t2 0:Nat):Int))) HSd.out rfl (by intro x hx;have s0:=hx.c;have q0:=(hx.at 0 (by omega)).1;have q1:=(hx.at 1 (by omega)).1;have q2:=(hx.at 2 (by omega)).1;have q3:=(hx.at 3 (by omega)).1;have t0:=(hx.at 0 (by omega)).2;have t1:=(hx.at 1 (by omega)).2;have t2:=(hx.at 2 (by omega)).2;have t3:=(hx.at 3 (by omega)).2;clear hx;go_simp;try (intro h;omega)) ?_
      try simp only [Act.put,zq1,zq2,zq3]
      refine aL 38 12 181 (.slice (some ⟨bq,0,none⟩) 4 cq) HSd.out rfl (by intro x hx;have s0:=hx.c;have q0:=(hx.at 0 (by omega)).1;have q1:=(hx.at 1 (by omega)).1;have q2:=(hx.at 2 (by omega)).1;have q3:=(hx.at 3 (by omega)).1;have t0:=(hx.at 0 (by omega)).2;have t1:=(hx.at 1 (by omega)).2;have t2:=(hx.at 2 (by omega)).2;have t3:=(hx.at 3 (by omega)).2;clear hx;go_simp;try (intro h;omega)) ?_
      try simp only [Act.put,zq1,zq2,zq3]
      refine aL 38 13 182 (.pointer (some ⟨bq,1,none⟩)) HSd.out rfl (by intro x hx;have s0:=hx.c;have q0:=(hx.at 0 (by omega)).1;have q1:=(hx.at 1 (by omega)).1;have q2:=(hx.at 2 (by omega)).1;have q3:=(hx.at 3 (by omega)).1;have t0:=(hx.at 0 (by omega)).2;have t1:=(hx.at 1 (by omega)).2;have t2:=(hx.at 2 (by omega)).2;have t3:=(hx.at 3 (by omega)).2;clear hx;go_simp;try (intro h;omega)) ?_
      try simp only [Act.put,zq1,zq2,zq3]
      refine aL 38 14 183 (.int .u8 ((Aes.qb q 1:Nat):Int)) HSd.out rfl (by intro x hx;have s0:=hx.c;have q0:=(hx.at 0 (by omega)).1;have q1:=(hx.at 1 (by omega)).1;have q2:=(hx.at 2 (by omega)).1;have q3:=(hx.at 3 (by omega)).1;have t0:=(hx.at 0 (by omega)).2;have t1:=(hx.at 1 (by omega)).2;have t2:=(hx.at 2 (by omega)).2;have t3:=(hx.at 3 (by omega)).2;clear hx;go_simp;try (intro h;omega)) ?_
      try simp only [Act.put,zq1,zq2,zq3]
      refine aL 38 15 184 (.slice (some ⟨bx,0,none⟩) 4 cx) HSd.out rfl (by intro x hx;have s0:=hx.c;have q0:=(hx.at 0 (by omega)).1;have q1:=(hx.at 1 (by omega)).1;have q2:=(hx.at 2 (by omega)).1;have q3:=(hx.at 3 (by omega)).1;have t0:=(hx.at 0 (by omega)).2;have t1:=(hx.at 1 (by omega)).2;have t2:=(hx.at 2 (by omega)).2;have t3:=(hx.at 3 (by omega)).2;clear hx;go_simp;try (intro h;omega)) ?_
      try simp only [Act.put,zq1,zq2,zq3]
      refine aL 38 16 185 (.pointer (some ⟨bx,1,none⟩)) HSd.out rfl (by intro x hx;have s0:=hx.c;have q0:=(hx.at 0 (by omega)).1;have q1:=(hx.at 1 (by omega)).1;have q2:=(hx.at 2 (by omega)).1;have q3:=(hx.at 3 (by omega)).1;have t0:=(hx.at 0 (by omega)).2;have t1:=(hx.at 1 (by omega)).2;have t2:=(hx.at 2 (by omega)).2;have t3:=(hx.at 3 (by omega)).2;clear hx;go_simp;try (intro h;omega)) ?_
      try simp only [Act.put,zq1,zq2,zq3]
      refine aL 38 17 186 (.int .u8 ((Aes.qb t2 1:Nat):Int)) HSd.out rfl (by intro x hx;have s0:=hx.c;have q0:=(hx.at 0 (by omega)).1;have q1:=(hx.at 1 (by omega)).1;have q2:=(hx.at 2 (by omega)).1;have q3:=(hx.at 3 (by omega)).1;have t0:=(hx.at 0 (by omega)).2;have t1:=(hx.at 1 (by omega)).2;have t2:=(hx.at 2 (by omega)).2;have t3:=(hx.at 3 (by omega)).2;clear hx;go_simp;try (intro h;omega)) ?_
      try simp only [Act.put,zq1,zq2,zq3]
      refine aL 38 18 187 (.int .u8 (bits .xor .u8 ((Aes.qb q 1:Nat):Int) ((Aes.qb t2 1:Nat):Int))) HSd.out rfl (by intro x hx;have s0:=hx.c;have q0:=(hx.at 0 (by omega)).1;have q1:=(hx.at 1 (by omega)).1;have q2:=(hx.at 2 (by omega)).1;have q3:=(hx.at 3 (by omega)).1;have t0:=(hx.at 0 (by omega)).2;have t1:=(hx.at 1 (by omega)).2;have t2:=(hx.at 2 (by omega)).2;have t3:=(hx.at 3 (by omega)).2;clear hx;go_simp;try (intro h;omega)) ?_
      try simp only [Act.put,zq1,zq2,zq3]
      refine aL 38 19 188 (.slice (some ⟨bq,0,none⟩) 4 cq) HSd.out rfl (by intro x hx;have s0:=hx.c;have q0:=(hx.at 0 (by omega)).1;have q1:=(hx.at 1 (by omega)).1;have q2:=(hx.at 2 (by omega)).1;have q3:=(hx.at 3 (by omega)).1;have t0:=(hx.at 0 (by omega)).2;have t1:=(hx.at 1 (by omega)).2;have t2:=(hx.at 2 (by omega)).2;have t3:=(hx.at 3 (by omega)).2;clear hx;go_simp;try (intro h;omega)) ?_
      try simp only [Act.put,zq1,zq2,zq3]
      refine aL 38 20 189 (.pointer (some ⟨bq,2,none⟩)) HSd.out rfl (by intro x hx;have s0:=hx.c;have q0:=(hx.at 0 (by omega)).1;have q1:=(hx.at 1 (by omega)).1;have q2:=(hx.at 2 (by omega)).1;have q3:=(hx.at 3 (by omega)).1;have t0:=(hx.at 0 (by omega)).2;have t1:=(hx.at 1 (by omega)).2;have t2:=(hx.at 2 (by omega)).2;have t3:=(hx.at 3 (by omega)).2;clear hx;go_simp;try (intro h;omega)) ?_
      try simp only [Act.put,zq1,zq2,zq3]
      refine aL 38 21 190 (.int .u8 ((Aes.qb q 2:Nat):Int)) HSd.out rfl (by intro x hx;have s0:=hx.c;have q0:=(hx.at 0 (by omega)).1;have q1:=(hx.at 1 (by omega)).1;have q2:=(hx.at 2 (by omega)).1;have q3:=(hx.at 3 (by omega)).1;have t0:=(hx.at 0 (by omega)).2;have t1:=(hx.at 1 (by omega)).2;have t2:=(hx.at 2 (by omega)).2;have t3:=(hx.at 3 (by omega)).2;clear hx;go_simp;try (intro h;omega)) ?_
      try simp only [Act.put,zq1,zq2,zq3]
      refine aL 38 22 191 (.slice (some ⟨bx,0,none⟩) 4 cx) HSd.out rfl (by intro x hx;have s0:=hx.c;have q0:=(hx.at 0 (by omega)).1;have q1:=(hx.at 1 (by omega)).1;have q2:=(hx.at 2 (by omega)).1;have q3:=(hx.at 3 (by omega)).1;have t0:=(hx.at 0 (by omega)).2;have t1:=(hx.at 1 (by omega)).2;have t2:=(hx.at 2 (by omega)).2;have t3:=(hx.at 3 (by omega)).2;clear hx;go_simp;try (intro h;omega)) ?_
      try simp only [Act.put,zq1,zq2,zq3]
      refine aL 38 23 192 (.pointer (some ⟨bx,2,none⟩)) HSd.out rfl (by intro x hx;have s0:=hx.c;have q0:=(hx.at 0 (by omega)).1;have q1:=(hx.at 1 (by omega)).1;have q2:=(hx.at 2 (by omega)).1;have q3:=(hx.at 3 (by omega)).1;have t0:=(hx.at 0 (by omega)).2;have t1:=(hx.at 1 (by omega)).2;have t2:=(hx.at 2 (by omega)).2;have t3:=(hx.at 3 (by omega)).2;clear hx;go_simp;try (intro h;omega)) ?_
      try simp only [Act.put,zq1,zq2,zq3]
      refine aL 38 24 193 (.int .u8 ((Aes.qb t2 2:Nat):Int)) HSd.out rfl (by intro x hx;have s0:=hx.c;have q0:=(hx.at 0 (by omega)).1;have q1:=(hx.at 1 (by omega)).1;have q2:=(hx.at 2 (by omega)).1;have q3:=(hx.at 3 (by omega)).1;have t0:=(hx.at 0 (by omega)).2;have t1:=(hx.at 1 (by omega)).2;have t2:=(hx.at 2 (by omega)).2;have t3:=(hx.at 3 (by omega)).2;clear hx;go_simp;try (intro h;omega)) ?_
      try simp only [Act.put,zq1,zq2,zq3]
      refine aL 38 25 194 (.int .u8 (bits .xor .u8 ((Aes.qb q 2:Nat):Int) ((Aes.qb t2 2:Nat):Int))) HSd.out rfl (by intro x hx;have s0:=hx.c;have q0:=(hx.at 0 (by omega)).1;have q1:=(hx.at 1 (by omega)).1;have q2:=(hx.at 2 (by omega)).1;have q3:=(hx.at 3 (by omega)).1;have t0:=(hx.at 0 (by omega)).2;have t1:=(hx.at 1 (by omega)).2;have t2:=(hx.at 2 (by omega)).2;have t3:=(hx.at 3 (by omega)).2;clear hx;go_simp;try (intro h;omega)) ?_
      try simp only [Act.put,zq1,zq2,zq3]
      refine aL 38 26 195 (.slice (some ⟨bq,0,none⟩) 4 cq) HSd.out rfl (by intro x hx;have s0:=hx.c;have q0:=(hx.at 0 (by omega)).1;have q1:=(hx.at 1 (by omega)).1;have q2:=(hx.at 2 (by omega)).1;have q3:=(hx.at 3 (by omega)).1;have t0:=(hx.at 0 (by omega)).2;have t1:=(hx.at 1 (by omega)).2;have t2:=(hx.at 2 (by omega)).2;have t3:=(hx.at 3 (by omega)).2;clear hx;go_simp;try (intro h;omega)) ?_
      try simp only [Act.put,zq1,zq2,zq3]
      refine aL 38 27 196 (.pointer (some ⟨bq,3,none⟩)) HSd.out rfl (by intro x hx;have s0:=hx.c;have q0:=(hx.at 0 (by omega)).1;have q1:=(hx.at 1 (by omega)).1;have q2:=(hx.at 2 (by omega)).1;have q3:=(hx.at 3 (by omega)).1;have t0:=(hx.at 0 (by omega)).2;have t1:=(hx.at 1 (by omega)).2;have t2:=(hx.at 2 (by omega)).2;have t3:=(hx.at 3 (by omega)).2;clear hx;go_simp;try (intro h;omega)) ?_
      try simp only [Act.put,zq1,zq2,zq3]
      refine aL 38 28 197 (.int .u8 ((Aes.qb q 3:Nat):Int)) HSd.out rfl (by intro x hx;have s0:=hx.c;have q0:=(hx.at 0 (by omega)).1;have q1:=(hx.at 1 (by omega)).1;have q2:=(hx.at 2 (by omega)).1;have q3:=(hx.at 3 (by omega)).1;have t0:=(hx.at 0 (by omega)).2;have t1:=(hx.at 1 (by omega)).2;have t2:=(hx.at 2 (by omega)).2;have t3:=(hx.at 3 (by omega)).2;clear hx;go_simp;try (intro h;omega)) ?_
      try simp only [Act.put,zq1,zq2,zq3]
      refine aL 38 29 198 (.slice (some ⟨bx,0,none⟩) 4 cx) HSd.out rfl (by intro x hx;have s0:=hx.c;have q0:=(hx.at 0 (by omega)).1;have q1:=(hx.at 1 (by omega)).1;have q2:=(hx.at 2 (by omega)).1;have q3:=(hx.at 3 (by omega)).1;have t0:=(hx.at 0 (by omega)).2;have t1:=(hx.at 1 (by omega)).2;have t2:=(hx.at 2 (by omega)).2;have t3:=(hx.at 3 (by omega)).2;clear hx;go_simp;try (intro h;omega)) ?_
      try simp only [Act.put,zq1,zq2,zq3]
      refine aL 38 30 199 (.pointer (some ⟨bx,3,none⟩)) HSd.out rfl (by intro x hx;have s0:=hx.c;have q0:=(hx.at 0 (by omega)).1;have q1:=(hx.at 1 (by omega)).1;have q2:=(hx.at 2 (by omega)).1;have q3:=(hx.at 3 (by omega)).1;have t0:=(hx.at 0 (by omega)).2;have t1:=(hx.at 1 (by omega)).2;have t2:=(hx.at 2 (by omega)).2;have t3:=(hx.at 3 (by omega)).2;clear hx;go_simp;try (intro h;omega)) ?_
      try simp only [Act.put,zq1,zq2,zq3]
      refine aL 38 31 200 (.int .u8 ((Aes.qb t2 3:Nat):Int)) HSd.out rfl (by intro x hx;have s0:=hx.c;have q0:=(hx.at 0 (by omega)).1;have q1:=(hx.at 1 (by omega)).1;have q2:=(hx.at 2 (by omega)).1;have q3:=(hx.at 3 (by omega)).1;have t0:=(hx.at 0 (by omega)).2;have t1:=(hx.at 1 (by omega)).2;have t2:=(hx.at 2 (by omega)).2;have t3:=(hx.at 3 (by omega)).2;clear hx;go_simp;try (intro h;omega)) ?_
      try simp only [Act.put,zq1,zq2,zq3]
      refine aL 38 32 201 (.int .u8 (bits .xor .u8 ((Aes.qb q 3:Nat):Int) ((Aes.qb t2 3:Nat):Int))) HSd.out rfl (by intro x hx;have s0:=hx.c;have q0:=(hx.at 0 (by omega)).1;have q1:=(hx.at 1 (by omega)).1;have q2:=(hx.at 2 (by omega)).1;have q3:=(hx.at 3 (by omega)).1;have t0:=(hx.at 0 (by omega)).2;have t1:=(hx.at 1 (by omega)).2;have t2:=(hx.at 2 (by omega)).2;have t3:=(hx.at 3 (by omega)).2;clear hx;go_simp;try (intro h;omega)) ?_
      try simp only [Act.put,zq1,zq2,zq3]
      have HB5:Hid (Below wd.heap.size wd (wd.alloc (.cells #[.int .u8 (bits .xor .u8 ((Aes.qb q 0:Nat):Int) ((Aes.qb t2 0:Nat):Int)),.int .u8 (bits .xor .u8 ((Aes.qb q 1:Nat):Int) ((Aes.qb t2 1:Nat):Int)),.int .u8 (bits .xor .u8 ((Aes.qb q 2:Nat):Int) ((Aes.qb t2 2:Nat):Int)),.int .u8 (bits .xor .u8 ((Aes.qb q 3:Nat):Int) ((Aes.qb t2 3:Nat):Int))] 5))):=(Below.refl _ wd).alloc (Nat.le_refl _) _
      have HN5:Hid (NS w (wd.alloc (.cells #[.int .u8 (bits .xor .u8 ((Aes.qb q 0:Nat):Int) ((Aes.qb t2 0:Nat):Int)),.int .u8 (bits .xor .u8 ((Aes.qb q 1:Nat):Int) ((Aes.qb t2 1:Nat):Int)),.int .u8 (bits .xor .u8 ((Aes.qb q 2:Nat):Int) ((Aes.qb t2 2:Nat):Int)),.int .u8 (bits .xor .u8 ((Aes.qb q 3:Nat):Int) ((Aes.qb t2 3:Nat):Int))] 5)) B c tb tc O (.slice (some ⟨g,0,none⟩) i cp) i L vs):=HNd.out.keep HB5.out
      have HQ5:Hid ((wd.alloc (.cells #[.int .u8 (bits .xor .u8 ((Aes.qb q 0:Nat):Int) ((Aes.qb t2 0:Nat):Int)),.int .u8 (bits .xor .u8 ((Aes.qb q 1:Nat):Int) ((Aes.qb t2 1:Nat):Int)),.int .u8 (bits .xor .u8 ((Aes.qb q 2:Nat):Int) ((Aes.qb t2 2:Nat):Int)),.int .u8 (bits .xor .u8 ((Aes.qb q 3:Nat):Int) ((Aes.qb t2 3:Nat):Int))] 5)).ownsRow B 5 1 (.slice (some ⟨wd.heap.size,0,none⟩) 4 4) 4 (U8s (Aes.qi (Aes.qx q t2)))):=by
       have e:U8s (Aes.qi (Aes.qx q t2))=(#[.int .u8 (bits .xor .u8 ((Aes.qb q 0:Nat):Int) ((Aes.qb t2 0:Nat):Int)),.int .u8 (bits .xor .u8 ((Aes.qb q 1:Nat):Int) ((Aes.qb t2 1:Nat):Int)),.int .u8 (bits .xor .u8 ((Aes.qb q 2:Nat):Int) ((Aes.qb t2 2:Nat):Int)),.int .u8 (bits .xor .u8 ((Aes.qb q 3:Nat):Int) ((Aes.qb t2 3:Nat):Int))]:Array Value).toList:=by
        rw [Aes.xor_u8 _ _ (Aes.qb_lt HOW.out 0) (Aes.qb_lt HOT2.out 0),Aes.xor_u8 _ _ (Aes.qb_lt HOW.out 1) (Aes.qb_lt HOT2.out 1),Aes.xor_u8 _ _ (Aes.qb_lt HOW.out 2) (Aes.qb_lt HOT2.out 2),Aes.xor_u8 _ _ (Aes.qb_lt HOW.out 3) (Aes.qb_lt HOT2.out 3)]
        unfold U8s
        rfl
       rw [e]
       exact World.ownsRow_lit wd _ 4 HNd.out.hi (by unfold maxLen;omega) rfl
      have HSD5:Hid (Tri B c (.slice (some ⟨g,0,none⟩) i cp) bq cq q bx cx t2 (wd.alloc (.cells #[.int .u8 (bits .xor .u8 ((Aes.qb q 0:Nat):Int) ((Aes.qb t2 0:Nat):Int)),.int .u8 (bits .xor .u8 ((Aes.qb q 1:Nat):Int) ((Aes.qb t2 1:Nat):Int)),.int .u8 (bits .xor .u8 ((Aes.qb q 2:Nat):Int) ((Aes.qb t2 2:Nat):Int)),.int .u8 (bits .xor .u8 ((Aes.qb q 3:Nat):Int) ((Aes.qb t2 3:Nat):Int))] 5))):=HSd.out.keep HB5.out
      refine anyL_one 38 33 (by kernel_rfl) ?_
      refine wpOp_step rfl (fun Kc hKc=>?_)
      go_simp
      refine hKc _ _ ⟨fun _=>HSD5.out,?_⟩
      clear hKc Kc
      try simp only [Act.put,zq1,zq2,zq3]
      clear HB5 HNd HSd
      generalize wd.alloc (.cells #[.int .u8 (bits .xor .u8 ((Aes.qb q 0:Nat):Int) ((Aes.qb t2 0:Nat):Int)),.int .u8 (bits .xor .u8 ((Aes.qb q 1:Nat):Int) ((Aes.qb t2 1:Nat):Int)),.int .u8 (bits .xor .u8 ((Aes.qb q 2:Nat):Int) ((Aes.qb t2 2:Nat):Int)),.int .u8 (bits .xor .u8 ((Aes.qb q 3:Nat):Int) ((Aes.qb t2 3:Nat):Int))] 5)=w5 at *
      generalize wd.heap.size=b5 at *
      refine anyL_one 38 34 (by kernel_rfl) ?_
      refine wpOp_step rfl (fun Kc hKc=>?_)
      go_simp
      refine hKc _ _ ⟨fun _=>HSD5.out.keep ((Below.refl _ _).alloc (Nat.le_refl _) _),?_⟩
      clear hKc Kc
      try simp only [Act.put,zq1,zq2,zq3]
      refine anyL_one 38 35 (by kernel_rfl) ?_
      refine op_append_row w5 (.slice (some ⟨b5,0,none⟩) 4 4) vs 35 (.tmp 173) (.tmp 203) B (.slice (some ⟨g,0,none⟩) i cp) i rfl rfl rfl rfl HN5.out.rws.1 (by omega) HN5.out.hi ?_
      intro v6 w6 hown6 hgrow6
      obtain ⟨g6,cp6,hv6⟩:=own_someB hown6 (by omega)
      subst hv6
      obtain ⟨hstr,hns⟩:=HN5.out.grow HQ5.out hown6 hgrow6
      have HSTR:=Lib.hid hstr
      have HN6:=Lib.hid hns
      have HSD6:=Lib.hid (HSD5.out.grown HN5.out.rws.1 hgrow6 (by rw [cell_of_row w6 c 0 _ _ _ HSTR.out];rfl))
      clear hstr hns hown6 hgrow6 HN5 HQ5 HSD5
      have hs6:w6.cell? ⟨c,0,none⟩=some (.slice (some ⟨g,0,none⟩) i cp):=by rw [cell_of_row w6 c 0 _ _ _ HSTR.out];rfl
      have hf6:=frozen_of_row w6 c 0 _ _ HSTR.out
      refine ⟨fun _=>HSD6.out,?_⟩
      try simp only [Act.put,zq1,zq2,zq3]
      refine anyL_one 38 36 (by kernel_rfl) ?_
      refine wpOp_step rfl (fun Kc hKc=>?_)
      go_simp
      refine hKc _ _ ⟨fun _=>HSD6.out,?_⟩
      clear hKc Kc
      try simp only [Act.put,zq1,zq2,zq3]
      refine anyL_one 38 37 (by kernel_rfl) ?_
      refine wpOp_step rfl (fun Kc hKc=>?_)
      go_simp
      refine hKc _ _ ⟨fun _=>HSD6.out,?_⟩
      clear hKc Kc
      try simp only [Act.put,zq1,zq2,zq3]
      refine anyL_one 38 38 (by kernel_rfl) ?_
      refine wpOp_step rfl (fun Kc hKc=>?_)
      go_simp
      refine hKc _ _ ⟨fun h=>absurd rfl h,?_⟩
      clear hKc Kc
      try simp only [Act.put,zq1,zq2,zq3]
      refine anyL_done (by kernel_rfl) ?_ _
      clear HSTR hs6 hf6 HSD6
      generalize w6.setCell ⟨c,0,none⟩ (.slice (some ⟨g6,0,none⟩) (i+1) cp6)=w7 at *
      rw [HNL.out] at HN6
      go_wp2
      exact ⟨⟨i+1,_,_,_,by omega,by omega,by go_num,by rw [Hr2.out],HN6.out⟩,by simp [intOf];omega⟩
    ·obtain rfl:i=44:=by omega
     have hge:(44:Int)≤((44:Nat):Int):=by decide
     go_wp2
     go_ret2
     refine ⟨c,rfl,?_,HN.out.below⟩
     have hl:44-4=3*4+28:=rfl
     rw [hl] at HN
     have hBw:w.heap.size≤B:=by have:=HN.out.cB;have:=HN.out.lo;omega
     refine ⟨HN.out.lo,g,cp,tb,tc,Nat.le_trans hBw (HN.out.rws.1.lt g rfl).1,HTL.out,HN.out.str,fun i hi=>?_,fun j hj=>HTW.out _ HN.out.tab j hj⟩
     obtain ⟨b,cb,h1,h2⟩:=HN.out.rws.2.2 i hi
     refine ⟨b,cb,Nat.le_trans hBw (h2.lt b rfl).1,by rw [HN.out.rws.1.cellAt i (by omega)];exact h1,fun j hj=>?_⟩
     rw [u8_at h2 j hj,Aes.qi_get _ j hj,Aes.up_get _ _ _ (by omega),Aes.rb_at _ _ _ hj]
     rfl
end
end Go.Proofs.YtnnalemboeccbaaGreatDoor

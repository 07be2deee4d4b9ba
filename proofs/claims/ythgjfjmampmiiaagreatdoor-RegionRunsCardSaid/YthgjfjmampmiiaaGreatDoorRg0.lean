/-
  RgD, RgE (merged)
-/
import Derived.Test.YthgjfjmampmiiaaGreatDoorRg1
import Derived.Test.YthgjfjmampmiiaaGreatDoorSc1
namespace Go.Proofs.YthgjfjmampmiiaaGreatDoor
open Go.Proofs.Tryz
set_option maxHeartbeats 4000000
set_option maxRecDepth 100000
section
open Go.RowKit
def qy (w:World) (e:Ending) (w':World):Prop:=e = .returned (.tuple #[.slice none 0 0,.int .i64 7])∧Hid (qw w w')
def eW (L:List Int) (w:World) (e:Ending) (w':World):Prop :=
 ∃ p c,e = .returned (.tuple #[.slice p 192 c,.int .i64 0])∧Hid (w'.ownsRow w.heap.size 5 1 (.slice p 192 c) 192 (aC L))∧Hid (Bs w' p c L)∧Hid (qw w w')
theorem adF (r:Rg.R) (h:Rg.Ok r) (hn:Rg.may r=false) (w:World):qc 24 #[RV r] w (qy w):=by
 obtain ⟨A,SU,RT,B1,B2,eA,hk⟩:=s7 h;have Ds:Hid (∀ y,qc 59 #[.agg A] y (dQ false y)):=fun y=>by
  have:=kL r h y;rw [hn,eA] at this;exact this
 rw [eA];have Aw:=qh hk.size;have h1:=hk.one;have R0:Hid ((w.alloc (.cells A 45)).heap[w.heap.size]?=qo A 45):=heap_alloc_new w _;have B0:Hid (qw w (w.alloc (.cells A 45))):=qb w _;clear hk h eA hn;go_enter func24,ntmps24;go_wp2_with (first
   | ((with_reducible refine ay _ _ _ _ _ _ _ ?_ R0.out underlying45 ?_ (ae Tryz.ah Aw) ?_);(exact rfl);(exact rfl))
   | (go_at_call 59;refine (Ds.out _).mono ?_;rintro e1 w1 ⟨rfl,Ai⟩;have B1:=qh (B0.out.trans (Ai.out.mono B0.out.size))))
 go_ret2;exact ⟨rfl,B1.out⟩
theorem rT (r:Rg.R) (h:Rg.Ok r) (hn:Rg.may r=true) (w:World):qc 24 #[RV r] w (eW (Rg.pt r) w):=by
 obtain ⟨A,SU,RT,B1,B2,eA,hk⟩:=s7 h;have Ds:Hid (∀ y,qc 59 #[.agg A] y (dQ true y)):=fun y=>by
  have:=kL r h y;rw [hn,eA] at this;exact this
 have H0:Hid (∀ y,qc 60 #[.slice none 0 0,.int .i64 r.gen] y (aX (Rg.bE r 1) 8 y)):=fun y=>by
  have:=dU [] r.gen none 0 0 8 rfl rfl (by omega) y (dx y);rw [Rg.st0] at this;exact this
 have H1:Hid (∀ y q d,Bs y q d (Rg.bE r 1)→qc 60 #[.slice q 8 d,.int .i64 r.st] y (aX (Rg.bE r 2) 16 y)):=fun y q d hy=>by
  have:=dU (Rg.bE r 1) r.st q 8 d 16 (Rg.pl1 h) rfl (by omega) y hy;rw [Rg.st1] at this;exact this
 have H2:Hid (∀ y q d,Bs y q d (Rg.bE r 2)→qc 60 #[.slice q 16 d,.int .i64 r.ep] y (aX (Rg.bE r 3) 24 y)):=fun y q d hy=>by
  have:=dU (Rg.bE r 2) r.ep q 16 d 24 (Rg.pl2 h) rfl (by omega) y hy;rw [Rg.st2] at this;exact this
 have H3:Hid (∀ y q d,Bs y q d (Rg.bE r 3)→qc 62 #[.slice q 24 d,.agg SU] y (aX (Rg.bE r 4) 56 y)):=fun y q d hy=>by
  have:=jP (Rg.bE r 3) r.su h.su.1 h.su.2 q 24 d 56 (Rg.pl3 h) rfl (by omega) y hy;rw [Rg.st3,hk.vals.1] at this;exact this
 have H4:Hid (∀ y q d,Bs y q d (Rg.bE r 4)→qc 61 #[.slice q 56 d,.agg RT] y (aX (Rg.bE r 5) 96 y)):=fun y q d hy=>by
  have:=aer (Rg.bE r 4) r.rt h.rt.2.1 h.rt.2.2 q 56 d 96 (Rg.pl4 h) rfl (by omega) y hy;rw [Rg.st4,hk.vals.2.1] at this;exact this
 have H5:Hid (∀ y q d,Bs y q d (Rg.bE r 5)→qc 60 #[.slice q 96 d,.int .i64 r.bs] y (aX (Rg.bE r 6) 104 y)):=fun y q d hy=>by
  have:=dU (Rg.bE r 5) r.bs q 96 d 104 (Rg.pl5 h) rfl (by omega) y hy;rw [Rg.st5] at this;exact this
 have H6:Hid (∀ y q d,Bs y q d (Rg.bE r 6)→qc 60 #[.slice q 104 d,.int .i64 r.bl] y (aX (Rg.bE r 7) 112 y)):=fun y q d hy=>by
  have:=dU (Rg.bE r 6) r.bl q 104 d 112 (Rg.pl6 h) rfl (by omega) y hy;rw [Rg.st6] at this;exact this
 have H7:Hid (∀ y q d,Bs y q d (Rg.bE r 7)→qc 60 #[.slice q 112 d,.int .i64 r.ts] y (aX (Rg.bE r 8) 120 y)):=fun y q d hy=>by
  have:=dU (Rg.bE r 7) r.ts q 112 d 120 (Rg.pl7 h) rfl (by omega) y hy;rw [Rg.st7] at this;exact this
 have H8:Hid (∀ y q d,Bs y q d (Rg.bE r 8)→qc 60 #[.slice q 120 d,.int .i64 r.tl] y (aX (Rg.bE r 9) 128 y)):=fun y q d hy=>by
  have:=dU (Rg.bE r 8) r.tl q 120 d 128 (Rg.pl8 h) rfl (by omega) y hy;rw [Rg.st8] at this;exact this
 have H9:Hid (∀ y q d,Bs y q d (Rg.bE r 9)→qc 62 #[.slice q 128 d,.agg B1] y (aX (Rg.bE r 10) 160 y)):=fun y q d hy=>by
  have:=jP (Rg.bE r 9) r.b1 h.b1.1 h.b1.2 q 128 d 160 (Rg.pl9 h) rfl (by omega) y hy;rw [Rg.st9,hk.vals.2.2.1] at this;exact this
 have MH:Hid (∀ y q d,Bs y q d (Rg.bE r 10)→qc 62 #[.slice q 160 d,.agg B2] y (aX (Rg.bE r 11) 192 y)):=fun y q d hy=>by
  have:=jP (Rg.bE r 10) r.b2 h.b2.1 h.b2.2 q 160 d 192 (Rg.ai7 h) rfl (by omega) y hy;rw [Rg.ahD,hk.vals.2.2.2] at this;exact this
 rw [eA];have Aw:=qh hk.size;have HX:=qh hk.ints;have CC:=qh hk.rngs;have JK:=qh hk.sizes.1;have JJ:=qh hk.sizes.2.1;have JH:=qh hk.sizes.2.2.1;have JI:=qh hk.sizes.2.2.2;have CI:Hid (∀ e w',eW (Rg.bE r 11) w e w'→eW (Rg.pt r) w e w'):=fun e w' q=>by rw [← Rg.ahL];exact q
 have h1:=hk.one;have R0:Hid ((w.alloc (.cells A 45)).heap[w.heap.size]?=qo A 45):=heap_alloc_new w _;have B0:Hid (qw w (w.alloc (.cells A 45))):=qb w _;clear hk h eA hn;refine Calls.mono ?_ (fun e w' q=>CI.out e w' q);go_enter func24,ntmps24;go_upto_region 3 with (first
   | ((with_reducible refine ay _ _ _ _ _ _ _ ?_ R0.out underlying45 ?_ (ae Tryz.ah Aw) ?_);(exact rfl);(exact rfl))
   | (go_at_call 59;refine (Ds.out _).mono ?_;rintro e1 w1 ⟨rfl,Ai⟩))
 have Bw1:Hid (qw w w1):=B0.out.trans (Ai.out.mono B0.out.size);have Gw1:Hid (w1.heap[w.heap.size]?=qo A 45):=(Ai.out.block _ (lt_of_block R0.out)).trans R0.out;clear Ai R0 B0 Ds;refine wp_region_any (by kernel_rfl) ?_;change wpAny _ _ _ _ _ _ _ (World.drew _);have Bz:Hid (qw w w1.drew):=Bw1.out.drew;have Gz:Hid (w1.drew.heap[w.heap.size]?=qo A 45):=Gw1.out;obtain ⟨z,hz⟩:∃ y,y=w1.drew:=⟨_,rfl⟩;rw [← hz] at Bz Gz ⊢;clear hz;refine wpAny_of_held (S:=fun y=>y.heap[w.heap.size]?=qo A 45) _ _ _ _ ?_;refine aS 0 8 (qp w.heap.size) Gz.out rfl (by intro y hy;go_simp) ?_;refine aS 1 9 (.int .i64 r.gen) Gz.out rfl (by intro y hy;obtain ⟨c,_,_,_,_,_,_,_⟩:=HX.out y _ _ hy;go_simp) ?_;refine aS 3 11 (.pointer (some ⟨w.heap.size,1,none⟩)) Gz.out rfl (by intro y hy;go_simp) ?_;refine aS 4 12 (.int .i64 r.st) Gz.out rfl (by intro y hy;obtain ⟨_,c,_,_,_,_,_,_⟩:=HX.out y _ _ hy;go_simp) ?_;refine aS 6 14 (.pointer (some ⟨w.heap.size,2,none⟩)) Gz.out rfl (by intro y hy;go_simp) ?_;refine aS 7 15 (.int .i64 r.ep) Gz.out rfl (by intro y hy;obtain ⟨_,_,c,_,_,_,_,_⟩:=HX.out y _ _ hy;go_simp) ?_;refine aD 2 (by kernel_rfl) ?_;refine wpOp_step rfl (fun Kc Af=>?_);go_simp;refine (H0.out _).mono ?_;rintro e2 w2 ⟨p2,c2,rfl,AA,HBw2,AD⟩;have Bw2:Hid (qw w w2):=Bz.out.trans (AD.out.mono Bz.out.size);have Gw2:Hid (w2.heap[w.heap.size]?=qo A 45):=(AD.out.block _ (lt_of_block Gz.out)).trans Gz.out;dsimp only;refine Af _ _ ⟨Gw2.out,?_⟩;clear Af Kc;try simp only [Act.put,aQ,aR,aO]
 refine aD 5 (by kernel_rfl) ?_;refine wpOp_step rfl (fun Kc Af=>?_);go_simp;refine (H1.out _ _ _ HBw2.out).mono ?_;rintro e3 w3 ⟨p3,c3,rfl,Cg,HBw3,AV⟩;have Bw3:Hid (qw w w3):=Bw2.out.trans (AV.out.mono Bw2.out.size);have Gw3:Hid (w3.heap[w.heap.size]?=qo A 45):=(AV.out.block _ (lt_of_block Gw2.out)).trans Gw2.out;dsimp only;refine Af _ _ ⟨Gw3.out,?_⟩;clear Af Kc;try simp only [Act.put,aQ,aR,aO]
 refine aD 8 (by kernel_rfl) ?_;refine wpOp_step rfl (fun Kc Af=>?_);go_simp;refine (H2.out _ _ _ HBw3.out).mono ?_;rintro e4 w4 ⟨p4,c4,rfl,Ct,HBw4,Jz⟩;have Bw4:Hid (qw w w4):=Bw3.out.trans (Jz.out.mono Bw3.out.size);have Gw4:Hid (w4.heap[w.heap.size]?=qo A 45):=(Jz.out.block _ (lt_of_block Gw3.out)).trans Gw3.out;dsimp only;refine Af _ _ ⟨Gw4.out,?_⟩;clear Af Kc;try simp only [Act.put,aQ,aR,aO]
 refine aS 9 4 (.slice p4 24 c4) Gw4.out rfl (by intro y hy;go_simp) ?_;refine wpAnyH_done (by kernel_rfl) ?_ _;have OW4:=qh (dO Ct.out Bw3.out.size);clear Gz Bz H0 H1 H2 Bw2 Gw2 HBw2 AA AD Bw3 Gw3 HBw3 Cg AV Ct Jz;go_upto_region 4 with (fail)
 refine wp_region_any (by kernel_rfl) ?_;change wpAny _ _ _ _ _ _ _ (World.drew _);have Bz:Hid (qw w w4.drew):=Bw4.out.drew;have Gz:Hid (w4.drew.heap[w.heap.size]?=qo A 45):=Gw4.out;have HBz:Hid (Bs w4.drew p4 c4 (Rg.bE r 3)):=HBw4.out.drew;obtain ⟨z,hz⟩:∃ y,y=w4.drew:=⟨_,rfl⟩;rw [← hz] at Bz Gz HBz ⊢;clear hz;refine wpAny_of_held (S:=fun y=>y.heap[w.heap.size]?=qo A 45) _ _ _ _ ?_;refine aS 0 17 (.slice p4 24 c4) Gz.out rfl (by intro y hy;go_simp) ?_;refine aS 1 18 (.pointer (some ⟨w.heap.size,3,none⟩)) Gz.out rfl (by intro y hy;go_simp) ?_;refine aS 2 19 (.agg SU) Gz.out rfl (fun y hy=>aj _ _ w.heap.size 3 SU _ rfl (CC.out y _ _ hy).1 underlying39 rfl (ae Tryz.ar JK)) ?_;refine aS 4 21 (.pointer (some ⟨w.heap.size,35,none⟩)) Gz.out rfl (by intro y hy;go_simp) ?_;refine aS 5 22 (.agg RT) Gz.out rfl (fun y hy=>aj _ _ w.heap.size 35 RT _ rfl (CC.out y _ _ hy).2.1 underlying41 rfl (ae Tryz.bm JJ)) ?_;refine aD 3 (by kernel_rfl) ?_;refine wpOp_step rfl (fun Kc Af=>?_);go_simp;refine (H3.out _ _ _ HBz.out).mono ?_;rintro e5 w5 ⟨p5,c5,rfl,HO5,HBw5,Ei⟩;have Bw5:Hid (qw w w5):=Bz.out.trans (Ei.out.mono Bz.out.size);have Gw5:Hid (w5.heap[w.heap.size]?=qo A 45):=(Ei.out.block _ (lt_of_block Gz.out)).trans Gz.out;dsimp only;refine Af _ _ ⟨Gw5.out,?_⟩;clear Af Kc;try simp only [Act.put,aQ,aR,aO]
 refine aD 6 (by kernel_rfl) ?_;refine wpOp_step rfl (fun Kc Af=>?_);go_simp;refine (H4.out _ _ _ HBw5.out).mono ?_;rintro e6 w6 ⟨p6,c6,rfl,FY,HBw6,JA⟩;have Bw6:Hid (qw w w6):=Bw5.out.trans (JA.out.mono Bw5.out.size);have Gw6:Hid (w6.heap[w.heap.size]?=qo A 45):=(JA.out.block _ (lt_of_block Gw5.out)).trans Gw5.out;dsimp only;refine Af _ _ ⟨Gw6.out,?_⟩;clear Af Kc;try simp only [Act.put,aQ,aR,aO]
 refine aS 7 4 (.slice p6 96 c6) Gw6.out rfl (by intro y hy;go_simp) ?_;refine wpAnyH_done (by kernel_rfl) ?_ _;have OW6:=qh (dO FY.out Bw5.out.size);clear Gz Bz HBz H3 H4 Bw5 Gw5 HBw5 HO5 Ei FY JA;go_upto_region 5 with (fail)
 refine wp_region_any (by kernel_rfl) ?_;change wpAny _ _ _ _ _ _ _ (World.drew _);have Bz:Hid (qw w w6.drew):=Bw6.out.drew;have Gz:Hid (w6.drew.heap[w.heap.size]?=qo A 45):=Gw6.out;have HBz:Hid (Bs w6.drew p6 c6 (Rg.bE r 5)):=HBw6.out.drew;obtain ⟨z,hz⟩:∃ y,y=w6.drew:=⟨_,rfl⟩;rw [← hz] at Bz Gz HBz ⊢;clear hz;refine wpAny_of_held (S:=fun y=>y.heap[w.heap.size]?=qo A 45) _ _ _ _ ?_;refine aS 0 24 (.slice p6 96 c6) Gz.out rfl (by intro y hy;go_simp) ?_;refine aS 1 25 (.pointer (some ⟨w.heap.size,68,none⟩)) Gz.out rfl (by intro y hy;go_simp) ?_;refine aS 2 26 (.pointer (some ⟨w.heap.size,68,none⟩)) Gz.out rfl (by intro y hy;go_simp) ?_;refine aS 3 27 (.int .i64 r.bs) Gz.out rfl (by intro y hy;obtain ⟨_,_,_,_,c,_,_,_⟩:=HX.out y _ _ hy;go_simp) ?_;refine aS 5 29 (.pointer (some ⟨w.heap.size,68,none⟩)) Gz.out rfl (by intro y hy;go_simp) ?_;refine aS 6 30 (.pointer (some ⟨w.heap.size,69,none⟩)) Gz.out rfl (by intro y hy;go_simp) ?_;refine aS 7 31 (.int .i64 r.bl) Gz.out rfl (by intro y hy;obtain ⟨_,_,_,_,_,c,_,_⟩:=HX.out y _ _ hy;go_simp) ?_;refine aD 4 (by kernel_rfl) ?_;refine wpOp_step rfl (fun Kc Af=>?_);go_simp;refine (H5.out _ _ _ HBz.out).mono ?_;rintro e7 w7 ⟨p7,c7,rfl,Lg,HBw7,DD⟩;have Bw7:Hid (qw w w7):=Bz.out.trans (DD.out.mono Bz.out.size);have Gw7:Hid (w7.heap[w.heap.size]?=qo A 45):=(DD.out.block _ (lt_of_block Gz.out)).trans Gz.out;dsimp only;refine Af _ _ ⟨Gw7.out,?_⟩;clear Af Kc;try simp only [Act.put,aQ,aR,aO]
 refine aD 8 (by kernel_rfl) ?_;refine wpOp_step rfl (fun Kc Af=>?_);go_simp;refine (H6.out _ _ _ HBw7.out).mono ?_;rintro e8 w8 ⟨p8,c8,rfl,MU,HBw8,D9⟩;have Bw8:Hid (qw w w8):=Bw7.out.trans (D9.out.mono Bw7.out.size);have Gw8:Hid (w8.heap[w.heap.size]?=qo A 45):=(D9.out.block _ (lt_of_block Gw7.out)).trans Gw7.out;dsimp only;refine Af _ _ ⟨Gw8.out,?_⟩;clear Af Kc;try simp only [Act.put,aQ,aR,aO]
 refine aS 9 4 (.slice p8 112 c8) Gw8.out rfl (by intro y hy;go_simp) ?_;refine wpAnyH_done (by kernel_rfl) ?_ _;have OW8:=qh (dO MU.out Bw7.out.size);clear Gz Bz HBz H5 H6 Bw7 Gw7 HBw7 Lg DD MU D9;go_upto_region 6 with (fail)
 refine wp_region_any (by kernel_rfl) ?_;change wpAny _ _ _ _ _ _ _ (World.drew _);have Bz:Hid (qw w w8.drew):=Bw8.out.drew;have Gz:Hid (w8.drew.heap[w.heap.size]?=qo A 45):=Gw8.out;have HBz:Hid (Bs w8.drew p8 c8 (Rg.bE r 7)):=HBw8.out.drew;obtain ⟨z,hz⟩:∃ y,y=w8.drew:=⟨_,rfl⟩;rw [← hz] at Bz Gz HBz ⊢;clear hz;refine wpAny_of_held (S:=fun y=>y.heap[w.heap.size]?=qo A 45) _ _ _ _ ?_;refine aS 0 33 (.slice p8 112 c8) Gz.out rfl (by intro y hy;go_simp) ?_;refine aS 1 34 (.pointer (some ⟨w.heap.size,70,none⟩)) Gz.out rfl (by intro y hy;go_simp) ?_;refine aS 2 35 (.pointer (some ⟨w.heap.size,70,none⟩)) Gz.out rfl (by intro y hy;go_simp) ?_;refine aS 3 36 (.int .i64 r.ts) Gz.out rfl (by intro y hy;obtain ⟨_,_,_,_,_,_,c,_⟩:=HX.out y _ _ hy;go_simp) ?_;refine aS 5 38 (.pointer (some ⟨w.heap.size,70,none⟩)) Gz.out rfl (by intro y hy;go_simp) ?_;refine aS 6 39 (.pointer (some ⟨w.heap.size,71,none⟩)) Gz.out rfl (by intro y hy;go_simp) ?_;refine aS 7 40 (.int .i64 r.tl) Gz.out rfl (by intro y hy;obtain ⟨_,_,_,_,_,_,_,c⟩:=HX.out y _ _ hy;go_simp) ?_;refine aD 4 (by kernel_rfl) ?_;refine wpOp_step rfl (fun Kc Af=>?_);go_simp;refine (H7.out _ _ _ HBz.out).mono ?_;rintro e9 w9 ⟨p9,c9,rfl,Lh,HBw9,Ib⟩;have Bw9:Hid (qw w w9):=Bz.out.trans (Ib.out.mono Bz.out.size);have Gw9:Hid (w9.heap[w.heap.size]?=qo A 45):=(Ib.out.block _ (lt_of_block Gz.out)).trans Gz.out;dsimp only;refine Af _ _ ⟨Gw9.out,?_⟩;clear Af Kc;try simp only [Act.put,aQ,aR,aO]
 refine aD 8 (by kernel_rfl) ?_;refine wpOp_step rfl (fun Kc Af=>?_);go_simp;refine (H8.out _ _ _ HBw9.out).mono ?_;rintro e10 w10 ⟨p10,c10,rfl,Lb,HBw10,Jw⟩;have Bw10:Hid (qw w w10):=Bw9.out.trans (Jw.out.mono Bw9.out.size);have Gw10:Hid (w10.heap[w.heap.size]?=qo A 45):=(Jw.out.block _ (lt_of_block Gw9.out)).trans Gw9.out;dsimp only;refine Af _ _ ⟨Gw10.out,?_⟩;clear Af Kc;try simp only [Act.put,aQ,aR,aO]
 refine aS 9 4 (.slice p10 128 c10) Gw10.out rfl (by intro y hy;go_simp) ?_;refine wpAnyH_done (by kernel_rfl) ?_ _;have OW10:=qh (dO Lb.out Bw9.out.size);clear Gz Bz HBz H7 H8 Bw9 Gw9 HBw9 Lh Ib Lb Jw;go_upto_region 7 with (fail)
 refine wp_region_any (by kernel_rfl) ?_;change wpAny _ _ _ _ _ _ _ (World.drew _);have Bz:Hid (qw w w10.drew):=Bw10.out.drew;have Gz:Hid (w10.drew.heap[w.heap.size]?=qo A 45):=Gw10.out;have HBz:Hid (Bs w10.drew p10 c10 (Rg.bE r 9)):=HBw10.out.drew;obtain ⟨z,hz⟩:∃ y,y=w10.drew:=⟨_,rfl⟩;rw [← hz] at Bz Gz HBz ⊢;clear hz;refine wpAny_of_held (S:=fun y=>y.heap[w.heap.size]?=qo A 45) _ _ _ _ ?_;refine aS 0 42 (.slice p10 128 c10) Gz.out rfl (by intro y hy;go_simp) ?_;refine aS 1 43 (.pointer (some ⟨w.heap.size,72,none⟩)) Gz.out rfl (by intro y hy;go_simp) ?_;refine aS 2 44 (.agg B1) Gz.out rfl (fun y hy=>aj _ _ w.heap.size 72 B1 _ rfl (CC.out y _ _ hy).2.2.1 underlying39 rfl (ae Tryz.ar JH)) ?_;refine aS 4 46 (.pointer (some ⟨w.heap.size,104,none⟩)) Gz.out rfl (by intro y hy;go_simp) ?_;refine aS 5 47 (.agg B2) Gz.out rfl (fun y hy=>aj _ _ w.heap.size 104 B2 _ rfl (CC.out y _ _ hy).2.2.2 underlying39 rfl (ae Tryz.ar JI)) ?_;refine aD 3 (by kernel_rfl) ?_;refine wpOp_step rfl (fun Kc Af=>?_);go_simp;refine (H9.out _ _ _ HBz.out).mono ?_;rintro e11 w11 ⟨p11,c11,rfl,Lc,HBw11,DC⟩;have Bw11:Hid (qw w w11):=Bz.out.trans (DC.out.mono Bz.out.size);have Gw11:Hid (w11.heap[w.heap.size]?=qo A 45):=(DC.out.block _ (lt_of_block Gz.out)).trans Gz.out;dsimp only;refine Af _ _ ⟨Gw11.out,?_⟩;clear Af Kc;try simp only [Act.put,aQ,aR,aO]
 refine aD 6 (by kernel_rfl) ?_;refine wpOp_step rfl (fun Kc Af=>?_);go_simp;refine (MH.out _ _ _ HBw11.out).mono ?_;rintro e12 w12 ⟨p12,c12,rfl,Ie,HBw12,EX⟩;have Bw12:Hid (qw w w12):=Bw11.out.trans (EX.out.mono Bw11.out.size);have Gw12:Hid (w12.heap[w.heap.size]?=qo A 45):=(EX.out.block _ (lt_of_block Gw11.out)).trans Gw11.out;dsimp only;refine Af _ _ ⟨Gw12.out,?_⟩;clear Af Kc;try simp only [Act.put,aQ,aR,aO]
 refine aS 7 2 (.slice p12 192 c12) Gw12.out rfl (by intro y hy;go_simp) ?_;refine aS 8 3 (.int .i64 0) Gw12.out rfl (by intro y hy;go_simp) ?_;refine wpAnyH_done (by kernel_rfl) ?_ _;have OW12:=qh (dO Ie.out Bw11.out.size);clear Gz Bz HBz H9 MH Bw11 Gw11 HBw11 Lc DC Ie EX;go_wp2;go_ret2;exact ⟨_,_,rfl,OW12.out,HBw12.out,Bw12.out⟩
end
section
open Go.RowKit
theorem ox (place:Nat→Option (Nat × Nat)) (i:Nat) (v:Value) (off size:Nat) (Z:Array Value) (rest:List (Nat × Value)) (h:place i=some (off,size)) (hs:v.cells.size=size) (hz:off+size≤Z.size) :
  Instr.fill place Z ((i,v) :: rest)=Instr.fill place (Z.toList.take off++v.cells.toList++Z.toList.drop (off+size)).toArray rest:=by
 have h1:=jU off v.cells.toList 0 Z (by simpa [hs] using hz)
 conv=>lhs;unfold Instr.fill
 rw [h];dsimp only;split
 ·rename_i hh
  simp [hs] at hh;omega
 ·congr 1;show Array.foldl (fun (cs:Array Value) (x:Value × Nat)=>cs.setIfInBounds (off+x.2) x.1) Z v.cells.zipIdx=_;rw [← Array.foldl_toList,Array.toList_zipIdx,h1];simp [hs]
theorem rV {ty:TypeId} {Z:Array Value} {n:Nat} {ps:List (Nat × Nat)} (hz:(prog.info? ty).map (fun i=>(i.zero,i.size))=some (some (.agg Z),n)) (hp:(match prog.underlying ty with
  | some (.struct fields)=>fields.toList.mapM (fun f=>(prog.info? f.type).map fun i=>(f.offset,i.size))
  | _=>none)=some ps) (parts:List (Nat × Value)):prog.built ty parts=Instr.fill (ps.toArray[·]?) Z parts:=by
 unfold Program.built;cases hi:prog.info? ty with
 | none=>rw [hi] at hz;cases hz
 | some i =>
  rw [hi] at hz;simp only [Option.map_some,Option.some.injEq,Prod.mk.injEq] at hz;cases hu:prog.underlying ty with
  | none=>rw [hu] at hp;cases hp
  | some d =>
   rw [hu] at hp;cases d<;>try (exact absurd hp (fun h=>by cases h))
   case struct fields =>
    dsimp only at hp ⊢;rw [hz.1,hp]
    rfl
theorem Tryz.oz:(match prog.underlying 45 with
  | some (.struct fields)=>fields.toList.mapM (fun f=>(prog.info? f.type).map fun i=>(f.offset,i.size))
  | _=>none)=some [(0,1),(1,1),(2,1),(3,32),(35,33),(68,2),(70,2),(72,32),(104,32)]:=by kernel_rfl
theorem cQ (place:Nat→Option (Nat × Nat)) (pre av new post:List Value) (i off size:Nat) (v:Value) (rest:List (Nat × Value)) (h:place i=some (off,size)) (h1:pre.length=off) (h2:av.length=size) (h3:v.cells.toList=new) (h4:new.length=size) :
  Instr.fill place (pre++(av++post)).toArray ((i,v) :: rest)=Instr.fill place ((pre++new)++post).toArray rest:=by
 have hs:v.cells.size=size:=by rw [← h4,← h3,Array.length_toList]
 have e:List.take off (pre++(av++post))++v.cells.toList++List.drop (off+size) (pre++(av++post))=(pre++new)++post:=by
  rw [List.take_append_of_le_length (by omega),List.take_of_length_le (by omega),← List.append_assoc pre av post,List.drop_append_of_le_length (by rw [List.length_append];omega),List.drop_of_length_le (by rw [List.length_append];omega),List.nil_append,h3]
 rw [ox place i v off size _ rest h hs (by rw [List.size_toArray,List.length_append,List.length_append];omega)];exact congrArg (fun z:List Value=>Instr.fill place z.toArray rest) e
theorem yg (r:Rg.R) (h:Rg.Ok r):prog.built 45 [(0,.int .i64 r.gen),(1,.int .i64 r.st),(2,.int .i64 r.ep),(3,dz r.su),(4,fU r.rt),(5,Pv r.bs r.bl),(6,Pv r.ts r.tl),(7,dz r.b1),(8,dz r.b2)]=some (cv r).toArray:=by
 have c1:(dz r.su).cells.toList=bW r.su:=by simp [dz,Value.cells]
 have c2:(fU r.rt).cells.toList=Value.int .i64 r.rt.1 :: bW r.rt.2:=by simp [fU,Value.cells]
 have c3:(dz r.b1).cells.toList=bW r.b1:=by simp [dz,Value.cells]
 have c4:(dz r.b2).cells.toList=bW r.b2:=by simp [dz,Value.cells]
 have l1:(bW r.su).length=32:=by rw [List.length_map,h.su.1]
 have l2:(Value.int .i64 r.rt.1 :: bW r.rt.2).length=33:=by rw [List.length_cons,List.length_map,h.rt.2.1]
 have l3:(bW r.b1).length=32:=by rw [List.length_map,h.b1.1]
 have l4:(bW r.b2).length=32:=by rw [List.length_map,h.b2.1]
 have z1:(bW Rg.zero.su).length=32:=by rw [List.length_map,Rg.bw.su.1]
 have z2:(Value.int .i64 Rg.zero.rt.1 :: bW Rg.zero.rt.2).length=33:=by rw [List.length_cons,List.length_map,Rg.bw.rt.2.1]
 have z3:(bW Rg.zero.b1).length=32:=by rw [List.length_map,Rg.bw.b1.1]
 have z4:(bW Rg.zero.b2).length=32:=by rw [List.length_map,Rg.bw.b2.1]
 rw [rV Tryz.dN Tryz.oz];unfold cv;generalize dz r.su=V1 at *;generalize fU r.rt=V2 at *;generalize dz r.b1=V3 at *;generalize dz r.b2=V4 at *;generalize bW r.su=x1 at *;generalize Value.int .i64 r.rt.1 :: bW r.rt.2=x2 at *;generalize bW r.b1=x3 at *;generalize bW r.b2=x4 at *;generalize bW Rg.zero.su=q1 at *;generalize Value.int .i64 Rg.zero.rt.1 :: bW Rg.zero.rt.2=q2 at *;generalize bW Rg.zero.b1=q3 at *;generalize bW Rg.zero.b2=q4 at *;obtain ⟨pl,D3⟩:∃ pl:Nat→Option (Nat × Nat),pl=fun (i:Nat)=>([(0,1),(1,1),(2,1),(3,32),(35,33),(68,2),(70,2),(72,32),(104,32)]:List (Nat × Nat)).toArray[i]?:=⟨_,rfl⟩;rw [← D3];have p0:pl 0=some (0,1):=by rw [D3];rfl
 have p1:pl 1=some (1,1):=by rw [D3];rfl
 have p2:pl 2=some (2,1):=by rw [D3];rfl
 have p3:pl 3=some (3,32):=by rw [D3];rfl
 have p4:pl 4=some (35,33):=by rw [D3];rfl
 have p5:pl 5=some (68,2):=by rw [D3];rfl
 have p6:pl 6=some (70,2):=by rw [D3];rfl
 have p7:pl 7=some (72,32):=by rw [D3];rfl
 have p8:pl 8=some (104,32):=by rw [D3];rfl
 clear D3;change Instr.fill pl (([]:List Value)++(([Value.int .i64 Rg.zero.gen]:List Value)++([Value.int .i64 Rg.zero.st]++([Value.int .i64 Rg.zero.ep]++(q1++(q2++([Value.int .i64 Rg.zero.bs,Value.int .i64 Rg.zero.bl]++([Value.int .i64 Rg.zero.ts,Value.int .i64 Rg.zero.tl]++(q3++(q4))))))):List Value))).toArray _=_;rw [cQ pl ([]:List Value) ([Value.int .i64 Rg.zero.gen]:List Value) ([Value.int .i64 r.gen]:List Value) _ 0 0 1 (Value.int .i64 r.gen) _ p0 rfl rfl rfl rfl];have g1:(([]:List Value)++([Value.int .i64 r.gen]:List Value)).length=1:=by rw [List.length_append,show ([]:List Value).length=0 from rfl,show ([Value.int .i64 r.gen]:List Value).length=1 from rfl]
 rw [cQ pl (([]:List Value)++([Value.int .i64 r.gen]:List Value)) ([Value.int .i64 Rg.zero.st]:List Value) ([Value.int .i64 r.st]:List Value) _ 1 1 1 (Value.int .i64 r.st) _ p1 g1 rfl rfl rfl];have g2:((([]:List Value)++([Value.int .i64 r.gen]:List Value))++([Value.int .i64 r.st]:List Value)).length=2:=by rw [List.length_append,show (([]:List Value)++([Value.int .i64 r.gen]:List Value)).length=1 from g1,show ([Value.int .i64 r.st]:List Value).length=1 from rfl]
 rw [cQ pl ((([]:List Value)++([Value.int .i64 r.gen]:List Value))++([Value.int .i64 r.st]:List Value)) ([Value.int .i64 Rg.zero.ep]:List Value) ([Value.int .i64 r.ep]:List Value) _ 2 2 1 (Value.int .i64 r.ep) _ p2 g2 rfl rfl rfl];have g3:(((([]:List Value)++([Value.int .i64 r.gen]:List Value))++([Value.int .i64 r.st]:List Value))++([Value.int .i64 r.ep]:List Value)).length=3:=by rw [List.length_append,show ((([]:List Value)++([Value.int .i64 r.gen]:List Value))++([Value.int .i64 r.st]:List Value)).length=2 from g2,show ([Value.int .i64 r.ep]:List Value).length=1 from rfl]
 rw [cQ pl (((([]:List Value)++([Value.int .i64 r.gen]:List Value))++([Value.int .i64 r.st]:List Value))++([Value.int .i64 r.ep]:List Value)) (q1:List Value) (x1:List Value) _ 3 3 32 (V1) _ p3 g3 z1 c1 l1];have g4:((((([]:List Value)++([Value.int .i64 r.gen]:List Value))++([Value.int .i64 r.st]:List Value))++([Value.int .i64 r.ep]:List Value))++(x1:List Value)).length=35:=by rw [List.length_append,show (((([]:List Value)++([Value.int .i64 r.gen]:List Value))++([Value.int .i64 r.st]:List Value))++([Value.int .i64 r.ep]:List Value)).length=3 from g3,show (x1:List Value).length=32 from l1]
 rw [cQ pl ((((([]:List Value)++([Value.int .i64 r.gen]:List Value))++([Value.int .i64 r.st]:List Value))++([Value.int .i64 r.ep]:List Value))++(x1:List Value)) (q2:List Value) (x2:List Value) _ 4 35 33 (V2) _ p4 g4 z2 c2 l2];have g5:(((((([]:List Value)++([Value.int .i64 r.gen]:List Value))++([Value.int .i64 r.st]:List Value))++([Value.int .i64 r.ep]:List Value))++(x1:List Value))++(x2:List Value)).length=68:=by rw [List.length_append,show ((((([]:List Value)++([Value.int .i64 r.gen]:List Value))++([Value.int .i64 r.st]:List Value))++([Value.int .i64 r.ep]:List Value))++(x1:List Value)).length=35 from g4,show (x2:List Value).length=33 from l2]
 rw [cQ pl (((((([]:List Value)++([Value.int .i64 r.gen]:List Value))++([Value.int .i64 r.st]:List Value))++([Value.int .i64 r.ep]:List Value))++(x1:List Value))++(x2:List Value)) ([Value.int .i64 Rg.zero.bs,Value.int .i64 Rg.zero.bl]:List Value) ([Value.int .i64 r.bs,Value.int .i64 r.bl]:List Value) _ 5 68 2 (Pv r.bs r.bl) _ p5 g5 rfl rfl rfl];have g6:((((((([]:List Value)++([Value.int .i64 r.gen]:List Value))++([Value.int .i64 r.st]:List Value))++([Value.int .i64 r.ep]:List Value))++(x1:List Value))++(x2:List Value))++([Value.int .i64 r.bs,Value.int .i64 r.bl]:List Value)).length=70:=by rw [List.length_append,show (((((([]:List Value)++([Value.int .i64 r.gen]:List Value))++([Value.int .i64 r.st]:List Value))++([Value.int .i64 r.ep]:List Value))++(x1:List Value))++(x2:List Value)).length=68 from g5,show ([Value.int .i64 r.bs,Value.int .i64 r.bl]:List Value).length=2 from rfl]
 rw [cQ pl ((((((([]:List Value)++([Value.int .i64 r.gen]:List Value))++([Value.int .i64 r.st]:List Value))++([Value.int .i64 r.ep]:List Value))++(x1:List Value))++(x2:List Value))++([Value.int .i64 r.bs,Value.int .i64 r.bl]:List Value)) ([Value.int .i64 Rg.zero.ts,Value.int .i64 Rg.zero.tl]:List Value) ([Value.int .i64 r.ts,Value.int .i64 r.tl]:List Value) _ 6 70 2 (Pv r.ts r.tl) _ p6 g6 rfl rfl rfl];have g7:(((((((([]:List Value)++([Value.int .i64 r.gen]:List Value))++([Value.int .i64 r.st]:List Value))++([Value.int .i64 r.ep]:List Value))++(x1:List Value))++(x2:List Value))++([Value.int .i64 r.bs,Value.int .i64 r.bl]:List Value))++([Value.int .i64 r.ts,Value.int .i64 r.tl]:List Value)).length=72:=by rw [List.length_append,show ((((((([]:List Value)++([Value.int .i64 r.gen]:List Value))++([Value.int .i64 r.st]:List Value))++([Value.int .i64 r.ep]:List Value))++(x1:List Value))++(x2:List Value))++([Value.int .i64 r.bs,Value.int .i64 r.bl]:List Value)).length=70 from g6,show ([Value.int .i64 r.ts,Value.int .i64 r.tl]:List Value).length=2 from rfl]
 rw [cQ pl (((((((([]:List Value)++([Value.int .i64 r.gen]:List Value))++([Value.int .i64 r.st]:List Value))++([Value.int .i64 r.ep]:List Value))++(x1:List Value))++(x2:List Value))++([Value.int .i64 r.bs,Value.int .i64 r.bl]:List Value))++([Value.int .i64 r.ts,Value.int .i64 r.tl]:List Value)) (q3:List Value) (x3:List Value) _ 7 72 32 (V3) _ p7 g7 z3 c3 l3];have g8:((((((((([]:List Value)++([Value.int .i64 r.gen]:List Value))++([Value.int .i64 r.st]:List Value))++([Value.int .i64 r.ep]:List Value))++(x1:List Value))++(x2:List Value))++([Value.int .i64 r.bs,Value.int .i64 r.bl]:List Value))++([Value.int .i64 r.ts,Value.int .i64 r.tl]:List Value))++(x3:List Value)).length=104:=by rw [List.length_append,show (((((((([]:List Value)++([Value.int .i64 r.gen]:List Value))++([Value.int .i64 r.st]:List Value))++([Value.int .i64 r.ep]:List Value))++(x1:List Value))++(x2:List Value))++([Value.int .i64 r.bs,Value.int .i64 r.bl]:List Value))++([Value.int .i64 r.ts,Value.int .i64 r.tl]:List Value)).length=72 from g7,show (x3:List Value).length=32 from l3]
 rw [show ∀ X:List Value,(X++q4).toArray=(X++(q4++[])).toArray from fun X=>by rw [List.append_nil]];rw [cQ pl ((((((((([]:List Value)++([Value.int .i64 r.gen]:List Value))++([Value.int .i64 r.st]:List Value))++([Value.int .i64 r.ep]:List Value))++(x1:List Value))++(x2:List Value))++([Value.int .i64 r.bs,Value.int .i64 r.bl]:List Value))++([Value.int .i64 r.ts,Value.int .i64 r.tl]:List Value))++(x3:List Value)) (q4:List Value) (x4:List Value) _ 8 104 32 (V4) _ p8 g8 z4 c4 l4];have g9:(((((((((([]:List Value)++([Value.int .i64 r.gen]:List Value))++([Value.int .i64 r.st]:List Value))++([Value.int .i64 r.ep]:List Value))++(x1:List Value))++(x2:List Value))++([Value.int .i64 r.bs,Value.int .i64 r.bl]:List Value))++([Value.int .i64 r.ts,Value.int .i64 r.tl]:List Value))++(x3:List Value))++(x4:List Value)).length=136:=by rw [List.length_append,show ((((((((([]:List Value)++([Value.int .i64 r.gen]:List Value))++([Value.int .i64 r.st]:List Value))++([Value.int .i64 r.ep]:List Value))++(x1:List Value))++(x2:List Value))++([Value.int .i64 r.bs,Value.int .i64 r.bl]:List Value))++([Value.int .i64 r.ts,Value.int .i64 r.tl]:List Value))++(x3:List Value)).length=104 from g8,show (x4:List Value).length=32 from l4]
 unfold Instr.fill;simp only [List.append_assoc,List.append_nil,List.nil_append]
 rfl
section
variable {P:Program} {ops:Array Oper} {rest:List Oper} {a:Act} {w:World} {Q:Exit→Act→World→Prop} {D:Option Tmp} {T:TypeId} {ps:String} {af:Array Edge}
theorem mK (t:TypeId) (parts:List (Nat × Operand)) (vs:List (Nat × Value)) (R:Array Value) (he:parts.map (fun p=>(p.1,a.eval p.2))=vs) (hr:P.built t vs=some R) (h:wpList P ops Q rest (a.put D (.agg R)) w) :
  wpList P ops Q ({ dst:=D,op:=.build t parts.toArray,type:=T,pos:=ps,after:=af,guard:=none } :: rest) a w :=
 wpList_plain rfl fun K hK=>by
  have Am:=run_build (P:=P) w t vs.toArray R hr;unfold Oper.wp execOp;have DW:List.map (fun x:Nat × Operand=>match x with | (i,x)=>(i,a.eval x)) parts=vs:=he;simp only [List.map_toArray,DW,Am,Sem.run_bind,Sem.run_pure,Result.andThen_ok];exact hK _ _ h
end
def eJ (L:List Int) (w:World) (e:Ending) (w':World):Prop:=e = .returned (.tuple #[RV (Rg.gt L),.int .i64 (Rg.er L)])∧Hid (qw w w')
theorem aaT (L:List Int) (p:Option Addr) (n c:Nat) (hn:L.length=n) (hL:n≤900000) (w:World) (hp:Bs w p c L) :
  qc 54 #[.slice p n c] w (eJ L w):=by
 have HP:=qh hp;have EA:Hid (ai.aY L):=hp.bat.1;clear hp;obtain ⟨Z,hZ⟩:∃ Z,Hid ((cv Rg.zero).toArray=Z):=⟨_,rfl⟩;have AB:Hid (Z.size=136):=by show _=_;rw [← hZ.out,List.size_toArray,dr Rg.bw]
 have Cn:Hid (Z.all (·.oneCell')=true):=by show _=_;rw [← hZ.out];exact all_oneCell_toArray (jn Rg.zero)
 have hz:=(zero_of_info Tryz.dN).1;have Ee:=qh Tryz.lT;rw [hZ.out] at hz Ee;have GV:¬ Z = #[]:=fun h=>by have:=AB.out;rw [h] at this;simp at this
 have Bj:=ae Tryz.ah AB;have BH:Hid (Rg.Ok (Rg.rc L)):=Rg.acg EA.out;have Ds:Hid (∀ y,qw w y→qc 101 #[.slice p n c] y (vN L y)):=fun y hy=>rH L p n c hn (by omega) y (HP.out.av hy);have hle:∀ k,(Rg.rs L k).length≤900000:=fun k=>by have:=Rg.ae8 L k;omega
 have BN:Hid (∀ y g D,cR y g D L false→qc 102 #[qp g] y (dK (.int .i64 (Rg.rc L).gen) (Rg.rs L 1) (Rg.bd L 1) g D y)):=fun y g D hy=>by
  rw [Rg.aiA,Rg.aiw,Rg.aji,Rg.rs0,Rg.bd0];exact dJ L false g D _ rfl (by omega) y hy
 have D8:Hid (∀ y g D,cR y g D (Rg.rs L 1) (Rg.bd L 1)→qc 102 #[qp g] y (dK (.int .i64 (Rg.rc L).st) (Rg.rs L 2) (Rg.bd L 2) g D y)):=fun y g D hy=>by
  rw [Rg.ahK,Rg.aiR,Rg.ajb];exact dJ (Rg.rs L 1) (Rg.bd L 1) g D _ rfl (Nat.le_trans (hle 1) (by omega)) y hy
 have A9:Hid (∀ y g D,cR y g D (Rg.rs L 2) (Rg.bd L 2)→qc 102 #[qp g] y (dK (.int .i64 (Rg.rc L).ep) (Rg.rs L 3) (Rg.bd L 3) g D y)):=fun y g D hy=>by
  rw [Rg.aie,Rg.ahF,Rg.ahZ];exact dJ (Rg.rs L 2) (Rg.bd L 2) g D _ rfl (Nat.le_trans (hle 2) (by omega)) y hy
 have EV:Hid (∀ y g D,cR y g D (Rg.rs L 3) (Rg.bd L 3)→qc 103 #[qp g] y (dK (dz (Rg.rc L).su) (Rg.rs L 4) (Rg.bd L 4) g D y)):=fun y g D hy=>by
  rw [Rg.ai5,Rg.aiK,Rg.ajd];exact mq (Rg.rs L 3) (Rg.bd L 3) g D _ rfl (Nat.le_trans (hle 3) (by omega)) y hy
 have FO:Hid (∀ y g D,cR y g D (Rg.rs L 4) (Rg.bd L 4)→qc 104 #[qp g] y (dK (fU (Rg.rc L).rt) (Rg.rs L 5) (Rg.bd L 5) g D y)):=fun y g D hy=>by
  rw [Rg.aiB,Rg.aiV,Rg.ahI];exact aac (Rg.rs L 4) (Rg.bd L 4) g D _ rfl (Nat.le_trans (hle 4) (by omega)) y hy
 have IE:Hid (∀ y g D,cR y g D (Rg.rs L 5) (Rg.bd L 5)→qc 102 #[qp g] y (dK (.int .i64 (Rg.rc L).bs) (Rg.rs L 6) (Rg.bd L 6) g D y)):=fun y g D hy=>by
  rw [Rg.aib,Rg.ahN,Rg.ahX];exact dJ (Rg.rs L 5) (Rg.bd L 5) g D _ rfl (Nat.le_trans (hle 5) (by omega)) y hy
 have Js:Hid (∀ y g D,cR y g D (Rg.rs L 6) (Rg.bd L 6)→qc 102 #[qp g] y (dK (.int .i64 (Rg.rc L).bl) (Rg.rs L 7) (Rg.bd L 7) g D y)):=fun y g D hy=>by
  rw [Rg.aiF,Rg.ajc,Rg.ahE];exact dJ (Rg.rs L 6) (Rg.bd L 6) g D _ rfl (Nat.le_trans (hle 6) (by omega)) y hy
 have K1:Hid (∀ y g D,cR y g D (Rg.rs L 7) (Rg.bd L 7)→qc 102 #[qp g] y (dK (.int .i64 (Rg.rc L).ts) (Rg.rs L 8) (Rg.bd L 8) g D y)):=fun y g D hy=>by
  rw [Rg.ai2,Rg.ah2,Rg.aiP];exact dJ (Rg.rs L 7) (Rg.bd L 7) g D _ rfl (Nat.le_trans (hle 7) (by omega)) y hy
 have K2:Hid (∀ y g D,cR y g D (Rg.rs L 8) (Rg.bd L 8)→qc 102 #[qp g] y (dK (.int .i64 (Rg.rc L).tl) (Rg.rs L 9) (Rg.bd L 9) g D y)):=fun y g D hy=>by
  rw [Rg.ahW,Rg.ai3,Rg.aim];exact dJ (Rg.rs L 8) (Rg.bd L 8) g D _ rfl (Nat.le_trans (hle 8) (by omega)) y hy
 have Jt:Hid (∀ y g D,cR y g D (Rg.rs L 9) (Rg.bd L 9)→qc 103 #[qp g] y (dK (dz (Rg.rc L).b1) (Rg.rs L 10) (Rg.bd L 10) g D y)):=fun y g D hy=>by
  rw [Rg.ajn,Rg.aiy,Rg.ajq];exact mq (Rg.rs L 9) (Rg.bd L 9) g D _ rfl (Nat.le_trans (hle 9) (by omega)) y hy
 have Eh:Hid (∀ y g D,cR y g D (Rg.rs L 10) (Rg.bd L 10)→qc 103 #[qp g] y (dK (dz (Rg.rc L).b2) (Rg.rs L 11) (Rg.bd L 11) g D y)):=fun y g D hy=>by
  rw [Rg.ae3,Rg.afr,Rg.afd];exact mq (Rg.rs L 10) (Rg.bd L 10) g D _ rfl (Nat.le_trans (hle 10) (by omega)) y hy
 have Jv:Hid (∀ y g D,cR y g D (Rg.rs L 11) (Rg.bd L 11)→qc 105 #[qp g] y (lG (Pk.en (Rg.rs L 11) (Rg.bd L 11)) y)):=fun y g D hy=>adM _ _ g D y hy;have DL:Hid (Pk.en (Rg.rs L 11) (Rg.bd L 11) ≠ 0→Rg.er L=Pk.en (Rg.rs L 11) (Rg.bd L 11)∧.agg Z=RV (Rg.gt L)):=fun h=>by
  have h1:Rg.er L=Pk.en (Rg.rs L 11) (Rg.bd L 11):=by unfold Rg.er;rw [if_pos h]
  refine ⟨h1,?_⟩;rw [Rg.gu (by rw [h1];exact h),← hZ.out];unfold RV
  rfl
 have Dj:Hid (Pk.en (Rg.rs L 11) (Rg.bd L 11)=0→Rg.may (Rg.rc L)=false→Rg.er L=7∧.agg Z=RV (Rg.gt L)):=fun h h2=>by
  have h1:Rg.er L=7:=by unfold Rg.er;rw [if_neg (by omega),h2];rfl
  refine ⟨h1,?_⟩;rw [Rg.gu (by omega),← hZ.out];unfold RV
  rfl
 have Bw:Hid (Pk.en (Rg.rs L 11) (Rg.bd L 11)=0→Rg.may (Rg.rc L)=true→Rg.er L=0∧RV (Rg.rc L)=RV (Rg.gt L)):=fun h h2=>by
  have h1:Rg.er L=0:=by unfold Rg.er;rw [if_neg (by omega),if_pos h2]
  refine ⟨h1,?_⟩;unfold Rg.gt;rw [if_pos h1]
 have Ic:Hid (∀ y,qc 59 #[RV (Rg.rc L)] y (dQ (Rg.may (Rg.rc L)) y)):=fun y=>kL _ BH.out y;have KO:=qh (yg (Rg.rc L) BH.out);obtain ⟨A,SU,RT,B1,B2,eA,hk⟩:=s7 BH.out;have Aw:=qh hk.size;have An:=qh hk.one;have eA2:(cv (Rg.rc L)).toArray=A:=by unfold RV at eA;injection eA
 rw [eA2,hk.vals.1,hk.vals.2.1,hk.vals.2.2.1,hk.vals.2.2.2] at KO;rw [hk.vals.1] at EV;rw [hk.vals.2.1] at FO;rw [hk.vals.2.2.1] at Jt;rw [hk.vals.2.2.2] at Eh;rw [eA] at Bw Ic;obtain ⟨en,Fx⟩:∃ en,Hid (Pk.en (Rg.rs L 11) (Rg.bd L 11)=en):=⟨_,rfl⟩;rw [Fx.out] at Jv DL Dj Bw;obtain ⟨q,hq⟩:∃ q,Hid (Rg.may (Rg.rc L)=q):=⟨_,rfl⟩;rw [hq.out] at Ic Dj Bw;generalize Rg.rc L=r at *;obtain ⟨gen,st,ep,su,rt,bs,bl,ts,tl,b1,b2⟩:=r;dsimp only at *;have R0:Hid ((w.alloc (.cells Z 45)).heap[w.heap.size]?=qo Z 45):=heap_alloc_new w _;have B0:Hid (qw w (w.alloc (.cells Z 45))):=qb w _;have GK:Hid (w.heap.size<(w.alloc (.cells Z 45)).heap.size):=by show _<_;simp
 clear hn hL HP EA hZ hk eA eA2 Fx hq hle BH;go_enter func54,ntmps54;go_upto_region 1 with (fail)
 obtain ⟨w0,Ah⟩:∃ x,x=w.alloc (.cells Z 45):=⟨_,rfl⟩;rw [← Ah] at B0 R0 GK ⊢;clear Ah;go_upto_region 2 with (go_at_call 101;refine (Ds.out _ B0.out).mono ?_;rintro e1 w1 ⟨g,D,rfl,Q0,Cw,Ai⟩)
 have O0:Hid (aE g w1 w1):=aE.refl _ _;have NE:Hid (w.heap.size ≠ g):=by have:=GK.out;have:=Cw.out.1;show _ ≠ _;omega
 have NF:Hid (qw w w1):=B0.out.trans (Ai.out.mono B0.out.size);have R1:Hid (∀ y,aE g w1 y→y.heap[w.heap.size]?=qo Z 45):=fun y hy=>by
  have r1:=(Ai.out.block _ (lt_of_block R0.out)).trans R0.out;exact (hy.block _ (lt_of_block r1) NE.out).trans r1
 have PX:Hid (w.heap.size≤g):=Nat.le_trans B0.out.size Cw.out.1;clear Ds Ai R0 B0;go_upto_region 3 with (first
  | (go_at_call 103;have TT:=Kv.out;refine (Eh.out _ _ _ Kv.out).mono ?_;rintro e12 w12 ⟨rfl,JQ,OO11⟩;have Nc:=qh (Ql.out.trans OO11.out);clear OO11)
  | (go_at_call 103;have TT:=Q9.out;refine (Jt.out _ _ _ Q9.out).mono ?_;rintro e11 w11 ⟨rfl,Kv,OO10⟩;have Ql:=qh (O9.out.trans OO10.out);clear OO10)
  | (go_at_call 102;have TT:=Q8.out;refine (K2.out _ _ _ Q8.out).mono ?_;rintro e10 w10 ⟨rfl,Q9,OO9⟩;have O9:=qh (O8.out.trans OO9.out);clear OO9)
  | (go_at_call 102;have TT:=Q7.out;refine (K1.out _ _ _ Q7.out).mono ?_;rintro e9 w9 ⟨rfl,Q8,OO8⟩;have O8:=qh (O7.out.trans OO8.out);clear OO8)
  | (go_at_call 102;have TT:=Q6.out;refine (Js.out _ _ _ Q6.out).mono ?_;rintro e8 w8 ⟨rfl,Q7,OO7⟩;have O7:=qh (O6.out.trans OO7.out);clear OO7)
  | (go_at_call 102;have TT:=Q5.out;refine (IE.out _ _ _ Q5.out).mono ?_;rintro e7 w7 ⟨rfl,Q6,OO6⟩;have O6:=qh (O5.out.trans OO6.out);clear OO6)
  | (go_at_call 104;have TT:=Q4.out;refine (FO.out _ _ _ Q4.out).mono ?_;rintro e6 w6 ⟨rfl,Q5,OO5⟩;have O5:=qh (O4.out.trans OO5.out);clear OO5)
  | (go_at_call 103;have TT:=Q3.out;refine (EV.out _ _ _ Q3.out).mono ?_;rintro e5 w5 ⟨rfl,Q4,OO4⟩;have O4:=qh (O3.out.trans OO4.out);clear OO4)
  | (go_at_call 102;have TT:=Q2.out;refine (A9.out _ _ _ Q2.out).mono ?_;rintro e4 w4 ⟨rfl,Q3,OO3⟩;have O3:=qh (O2.out.trans OO3.out);clear OO3)
  | (go_at_call 102;have TT:=Q1.out;refine (D8.out _ _ _ Q1.out).mono ?_;rintro e3 w3 ⟨rfl,Q2,OO2⟩;have O2:=qh (O1.out.trans OO2.out);clear OO2)
  | (go_at_call 102;have TT:=Q0.out;refine (BN.out _ _ _ Q0.out).mono ?_;rintro e2 w2 ⟨rfl,Q1,OO1⟩;have O1:=qh (O0.out.trans OO1.out);clear OO1)
  | ((with_reducible refine mK _ _ _ _ ?_ KO.out ?_);(exact rfl))
  | ((with_reducible refine ak _ _ _ _ _ _ _ ?_ ?_ (heap_alloc_new _ _) (ae Tryz.ah Aw) ?_ An.out ?_);(exact rfl);(exact rfl);(rw [Aw.out,AB.out]);intro wa Ga cha))
 have RO:Hid (w.heap.size<w12.heap.size):=by have:=lt_of_block (R1.out _ Nc.out);exact this
 have QA:Hid (cR wa g D (Rg.rs L 11) (Rg.bd L 11)):=by
  have a1:=JQ.out.av ((Below.refl _ w12).alloc qn (.cells Z 45));exact a1.only cha.only (Nat.ne_of_gt JQ.out.glt) (fun h=>by have:=JQ.out.lt _ h;omega)
 have BA:Hid (qw w wa):=by
  have a1:=Nc.out.below NF.out PX.out NF.out.size;exact cha.below (a1.alloc a1.size _) a1.size
 have RA:Hid (wa.heap[w.heap.size]?=qo Z 45):=by
  have a1:=R1.out _ Nc.out;exact (cha.block _ (Nat.ne_of_lt RO.out)).trans (((qb w12 _).block _ (lt_of_block a1)).trans a1)
 clear BN D8 A9 EV FO IE Js K1 K2 Jt Eh KO Q0 Q1 Q2 Q3 Q4 Q5 Q6 Q7 Q8 Q9 Kv JQ O0 O1 O2 O3 O4 O5 O6 O7 O8 O9 Ql Nc R1 NF Cw PX NE cha hz GV;generalize w12.heap.size=gp at *;have RE:=qh (Jv.out wa g D QA.out);have RZ:Hid (∀ x,qw wa x→x.heap[w.heap.size]?=qo Z 45):=fun x hx=>(hx.block _ (lt_of_block RA.out)).trans RA.out;have RP:Hid (∀ x,qw wa x→x.heap[gp]?=qo A 45):=fun x hx=>(hx.block _ (lt_of_block Ga)).trans Ga;have RB:Hid (∀ x,qw wa x→qw w x):=fun x hx=>BA.out.trans (hx.mono BA.out.size);clear Jv QA RA BA Ga;by_cases h0:en=0
 ·subst h0;cases q with
  | false =>
   have HE:=qh (Dj.out rfl rfl);clear DL Dj Bw;go_wp2_with (first
    | (go_at_call 105;refine RE.out.mono ?_;rintro e17 w17 ⟨rfl,Bh⟩;have AU:=qh Bh;clear Bh)
    | ((with_reducible refine ay _ _ _ _ _ _ _ ?_ (RP.out _ AU.out) underlying45 ?_ (ae Tryz.ah Aw) ?_);(exact rfl);(exact rfl))
    | (go_at_call 59;refine (Ic.out _).mono ?_;rintro e18 w18 ⟨rfl,AQ⟩;have Dh:=qh (AU.out.trans (AQ.out.mono AU.out.size)))
    | ((with_reducible refine bT _ _ Ee.out ?_))
    | ((with_reducible refine ak _ _ _ _ _ _ _ ?_ ?_ (RZ.out _ Dh.out) (ae Tryz.ah AB) ?_ Cn.out ?_);(exact rfl);(exact rfl);(exact rfl);intro w19 G9 AW))
   refine bodyPost_ret (results_cell_tmp rfl _ _ w.heap.size 45 Z (0,0) _ rfl G9 underlying45 rfl (ae Tryz.ah AB)) rfl ⟨?_,AW.below (RB.out _ Dh.out) qn⟩;rw [HE.out.1,← HE.out.2];rfl
  | true =>
   have HE:=qh (Bw.out rfl rfl);clear DL Dj Bw;go_wp2_with (first
    | (go_at_call 105;refine RE.out.mono ?_;rintro e17 w17 ⟨rfl,Bh⟩;have AU:=qh Bh;clear Bh)
    | ((with_reducible refine ay _ _ _ _ _ _ _ ?_ (RP.out _ Dh.out) underlying45 ?_ (ae Tryz.ah Aw) ?_);(exact rfl);(exact rfl))
    | ((with_reducible refine ay _ _ _ _ _ _ _ ?_ (RP.out _ AU.out) underlying45 ?_ (ae Tryz.ah Aw) ?_);(exact rfl);(exact rfl))
    | (go_at_call 59;refine (Ic.out _).mono ?_;rintro e18 w18 ⟨rfl,AQ⟩;have Dh:=qh (AU.out.trans (AQ.out.mono AU.out.size)))
    | ((with_reducible refine ak _ _ _ _ _ _ _ ?_ ?_ (RZ.out _ Dh.out) (ae Tryz.ah Aw) ?_ An.out ?_);(exact rfl);(exact rfl);(rw [Aw.out,AB.out]);intro w19 G9 AW))
   refine bodyPost_ret (results_cell_tmp rfl _ _ w.heap.size 45 A (0,0) _ rfl G9 underlying45 rfl (ae Tryz.ah Aw)) rfl ⟨?_,AW.below (RB.out _ Dh.out) qn⟩;rw [HE.out.1,← HE.out.2];rfl
 ·have HE:=qh (DL.out h0);have CY:(en==0)=false:=by simpa using h0
  clear DL Dj Bw;go_wp2_with (first
   | (go_at_call 105;refine RE.out.mono ?_;rintro e17 w17 ⟨rfl,Bh⟩;have AU:=qh Bh;clear Bh)
   | ((with_reducible refine bT _ _ Ee.out ?_))
   | ((with_reducible refine ak _ _ _ _ _ _ _ ?_ ?_ (RZ.out _ AU.out) (ae Tryz.ah AB) ?_ Cn.out ?_);(exact rfl);(exact rfl);(exact rfl);intro w19 G9 AW))
  refine bodyPost_ret (results_cell_tmp rfl _ _ w.heap.size 45 Z (0,0) _ rfl G9 underlying45 rfl (ae Tryz.ah AB)) rfl ⟨?_,AW.below (RB.out _ AU.out) qn⟩;rw [HE.out.1,← HE.out.2];rfl
end
end Go.Proofs.YthgjfjmampmiiaaGreatDoor

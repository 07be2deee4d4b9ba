/-
  RgZ0, RgZ1 (merged)
-/
import Derived.Test.YthgjfjmampmiiaaGreatDoorSp3
namespace Go.Proofs.YthgjfjmampmiiaaGreatDoor
open Go.Proofs.Tryz
set_option maxHeartbeats 4000000
set_option maxRecDepth 100000
section
open Go.RowKit
section
variable {w y z:World} {T T':Nat→Prop} {d lb rb cb:Nat} {m:Dk.M} {K:List Int} {g:Nat}
def Rg.bX (K:List Int) (r:Rg.R) (n:Int):Int × List Int:=Sc.pt (an.sl K) (Rg.sec r n)
def Rg.bG (K:List Int) (a:Int) (B:List Int):Int × Sc.S:=Sc.gt (an.op K) 2 a B
theorem Rg.aaN (K:List Int) {r:Rg.R} (hr:Rg.Ok r) (n:Int):(Rg.bX K r n).2.length≤1000000:=by
 unfold Rg.bX;by_cases h:Sc.kX (Rg.sec r n)=0
 ·rw [Sc.re h];have h1:=(Sc.eZ h).2.1;have h4:=Sc.eU.1 h1;rw [List.length_append,Sc.dB,an.mi (j8 _ h4.1) (j8 _ h4.2.1),Rg.gA hr];omega
 ·rw [Sc.qU h];exact Nat.zero_le _
theorem ye (hT:aV) (r:Rg.R) (hr:Rg.Ok r) (n:Int) (hd:aJ w T d lb rb cb m) (hb:dX w g K) (ht:cT w 0) (CG:m.wr≤1000000000) :
  qc 30 #[qp d,.iface 33 (qp g),RV r,.int .i64 n] w fun e w'=>e = .returned (.int .i64 (Rg.wE m r (Rg.bX K r n)))∧Hid (aJ w' (Own T w w') d lb rb cb (Rg.wM m r (Rg.bX K r n)))∧Hid (Mv [d,lb,rb,cb] w w') :=
 (od 33 (qp g) r hr n (Rg.bX K r n) [] (fun _ _=>True) w hd (fun k hk=>by cases hk) (Rg.aaN K hr n) CG (fun _ y p c hy hp=>by
  have hq:=aaK hT K g (Rg.sec r n) p 192 c (Rg.gA hr n) y (hb.av hy) (by unfold Rg.sec;exact hp) (ht.below hy ht.lt);have hv:Sv (Rg.sec r n) p 192 c=SV 2 r.ep n (Rg.home r) p 192 c:=by unfold Rg.sec Sv;rfl
  rw [hv,show Sc.pt (an.sl K) (Rg.sec r n)=Rg.bX K r n from rfl] at hq;refine hq.mono ?_;rintro r z ⟨u,mm,dd,h1,h2,h3,h4,h5⟩;exact ⟨u,mm,dd,h1,h2,h3,h4,trivial,Mv.aB h5⟩)).mono fun e w' h=>⟨h.1,h.2.1,h.2.2.1⟩
theorem afA (hT:aV) (hd:aJ w T d lb rb cb m) (hb:dX w g K) (ht:cT w 0) (CA:∀ j,m.rd j≤999999990)
  (j6:∀ k:Nat,k<2→(Rg.bG K ((k:Int)+1) (Dk.bK m ((k:Int)+1))).2.L.length≤900000)
  (sY:∀ k:Nat,k<2→ai.aY (Rg.bG K ((k:Int)+1) (Dk.bK m ((k:Int)+1))).2.L) :
  qc 14 #[qp d,.iface 33 (qp g)] w (afb (Rg.al m (Rg.bG K)) T d lb rb cb (Rg.fL m 2) w) :=
 xc 33 (qp g) (Rg.bG K) w hd CA j6 sY fun k _ y q n c hm hn hbs=>by
  have hq:Qd w [d,lb,rb,cb] y:=(Qd.refl w _).mv hm;exact aai hT K g 2 _ _ q n c hn y (aa4 hb hd hq) hbs (ahp ht hd hq)
end
end
section
open Go.RowKit
theorem gg (r:Rg.R) (h:Rg.Ok r) (w:World):qc 48 #[RV r] w fun e w'=>e = .returned (.int .i64 (Rg.home r))∧qw w w':=by
 obtain ⟨A,SU,RT,B1,B2,eA,hk⟩:=s7 h;have R0:Hid ((w.alloc (.cells A 45)).heap[w.heap.size]?=qo A 45):=heap_alloc_new w _;have B0:Hid (qw w (w.alloc (.cells A 45))):=(Below.refl _ w).alloc qn _;have c0:=(hk.ints _ w.heap.size _ R0.out).1;have h1:=hk.one;have HG:=qh h.gen;rw [eA];have e:Rg.home r=if r.gen % 2=0 then 1 else 2:=by unfold Rg.home;rfl
 rw [e];generalize r.gen=g at *;clear hk h eA e;have Ba:Int.tmod g 2=0↔g % 2=0:=⟨fun q=>Int.emod_eq_zero_of_dvd (Int.dvd_of_tmod_eq_zero q),fun q=>Int.tmod_eq_zero_of_dvd (Int.dvd_of_emod_eq_zero q)⟩;by_cases h2:g % 2=0
 ·rw [if_pos h2];have h3:Int.tmod g 2=0:=Ba.2 h2;go_enter func48,ntmps48;go_wp2;go_ret;exact ⟨rfl,B0.out⟩
 ·rw [if_neg h2];have h3:¬ Int.tmod g 2=0:=fun q=>h2 (Ba.1 q);have h4:(Int.tmod g 2==0)=false:=by simpa using h3
  go_enter func48,ntmps48;go_wp2;go_ret;exact ⟨rfl,B0.out⟩
def rv (r:Rg.R) (X:Int × List Int) (T:Nat→Prop) (q qb:Nat) (m:Dk.M) (w:World) (e:Ending) (w':World):Prop :=
 e = .returned (.int .i64 (Rg.wE m r X))∧Hid (bA w' (Own T w w') q qb (Rg.wM m r X))∧Hid (Mv [q,qb] w w')
theorem r7 (a0:Addr) (r:Rg.R) (h:Rg.Ok r) (num:Int) (X:Int × List Int) {T:Nat→Prop} {q qb:Nat} {m:Dk.M} (w:World) (hd:bA w T q qb m) (hX:X.2.length≤1000000) (CG:m.wr≤1000000000)
  (hput:Rg.may r=true→∀ y p c,qw w y→Bs y p c (Rg.pt r)→qc 80 #[.pointer (some a0),SV 2 r.ep num (Rg.home r) p 192 c] y (tF X y (Below y.heap.size y))) :
  qc 39 #[qp q,.pointer (some a0),RV r,.int .i64 num] w (rv r X T q qb m w):=by
 obtain ⟨A,SU,RT,B1,B2,eA,hk⟩:=s7 h;have HH:Hid (∀ y,qc 48 #[.agg A] y fun e w'=>e = .returned (.int .i64 (Rg.home r))∧qw y w'):=fun y=>by rw [← eA];exact gg r h y
 obtain ⟨w0,Ah⟩:∃ x,x=w.alloc (.cells A 45):=⟨_,rfl⟩;have R0:Hid (w0.heap[w.heap.size]?=qo A 45):=by rw [Ah];exact heap_alloc_new w _
 have B0:Hid (qw w w0):=by rw [Ah];exact (Below.refl _ w).alloc qn _
 have HR:Hid (∀ y,qw w0 y→y.heap[w.heap.size]?=qo A 45):=fun y hy=>(hy.block _ (lt_of_block R0.out)).trans R0.out;have HE:Hid (∀ y:World,y.heap[w.heap.size]?=qo A 45→y.cell? ⟨w.heap.size,2,none⟩=some (.int .i64 r.ep)):=fun y hy=>(hk.ints y w.heap.size _ hy).2.2.1;have Aw:=qh hk.size;have h1:=hk.one;have HB:Hid (∀ y,qw w0 y→qw w y):=fun y hy=>B0.out.trans (hy.mono B0.out.size);have HD:=qh hd;clear hd hk;cases hm:Rg.may r with
 | false =>
  have HP:Hid (∀ y,qc 52 #[.agg A] y (qy y)):=fun y=>by rw [← eA];exact aeA r h hm y
  have HF:Hid (∀ y,qw w y→rv r X T q qb m w (.returned (.int .i64 7)) y):=fun y hy=>by
   refine ⟨by rw [Rg.afx X hm],?_,qh (Mv.aB hy)⟩;show bA _ _ _ _ _;rw [Rg.ae5 X hm];exact (HD.out.av hy).own _
  rw [eA];clear hput hm eA h HH HE;go_enter func39,ntmps39;go_upto_region 1 with (fail)
  change Code.wp _ _ _ _ (w.alloc (.cells A 45));rw [← Ah];clear Ah;go_wp2_with (first
   | ((with_reducible refine ay _ _ _ _ _ _ _ ?_ R0.out underlying45 ?_ (ae Tryz.ah Aw) ?_);(exact rfl);(exact rfl))
   | (go_at_call 52;refine (HP.out _).mono ?_;rintro e1 w1 ⟨rfl,Ai⟩))
  go_ret;exact HF.out _ (HB.out _ Ai.out)
 | true =>
  have HP:Hid (∀ y,qc 52 #[.agg A] y (eW (Rg.pt r) y)):=fun y=>by rw [← eA];exact aaa r h hm y
  have Ej:=qh (hput hm);clear hput;obtain ⟨x1,L⟩:=X;dsimp only at hX Ej;by_cases hx:x1=0
  ·subst hx;have HF:Hid (∀ z e w',qw w z→kq T q qb (.int .i64 (Dk.kE m (Rg.home r) L)) (Dk.gY m (Rg.home r) L) z e w'→rv r (0,L) T q qb m w e w'):=fun z e w' hz ⟨h1,h2,h3⟩=>by
    refine ⟨by rw [h1,Rg.zg hm rfl],?_,(Mv.aB hz).trans h3.out⟩;show bA _ _ _ _ _;rw [Rg.zC hm rfl];exact h2.out.lift (zl hz.size) (fun g hg=>hg.elim (fun q=>h2.out.top g (Or.inl q)) (fun q=>q.2))
   have HZ:Hid (∀ z,qw w z→bA z T q qb m):=fun z hz=>HD.out.av hz;have HW:Hid (∀ z p n c,L.length=n→bA z T q qb m→Bs z p c L→qc 81 #[qp q,.int .i64 (Rg.home r),.slice p n c] z (kq T q qb (.int .i64 (Dk.kE m (Rg.home r) L)) (Dk.gY m (Rg.home r) L) z)):=fun z p n c hn hz hb=>by obtain ⟨vl,vc,G,hz⟩:=hz;exact tV (Rg.home r) L p n c hn (by omega) CG z hz hb
   rw [eA];clear hm eA h hX CG HD;generalize Rg.home r=J6 at *;generalize r.ep=ep at *;generalize Rg.pt r=PT at *;go_enter func39,ntmps39;go_upto_region 1 with (fail)
   change Code.wp _ _ _ _ (w.alloc (.cells A 45));rw [← Ah];clear Ah;go_upto_region 4 with (first
    | ((with_reducible refine ay _ _ _ _ _ _ _ ?_ R0.out underlying45 ?_ (ae Tryz.ah Aw) ?_);(exact rfl);(exact rfl))
    | (go_at_call 52;refine (HP.out _).mono ?_;rintro e1 w1 ⟨p1,c1,rfl,Ax,AM,Ai⟩))
   refine wp_region_any (by kernel_rfl) ?_;change wpAny _ _ _ _ _ _ _ (World.drew _);have HBz:Hid (qw w0 w1.drew):=Ai.out.drew;have HSz:Hid (Bs w1.drew p1 c1 PT):=AM.out.drew;generalize w1.drew=z at *;have R1:=qh (HR.out _ HBz.out);clear Ai AM Ax HP;refine wpAny_of_held (S:=fun y=>y.heap[w.heap.size]?=qo A 45) _ _ _ _ ?_;refine aS 0 22 (.pointer (some a0)) R1.out rfl (by intro y hy;go_simp) ?_;refine aS 1 23 (.pointer (some ⟨w.heap.size,2,none⟩)) R1.out rfl (by intro y hy;go_simp) ?_;refine aS 2 24 (.int .i64 ep) R1.out rfl (by intro y hy;have c2:=HE.out y hy;go_simp) ?_;refine aS 3 25 (.int .i64 num) R1.out rfl (by intro y hy;go_simp) ?_;refine aS 4 26 (.agg A) R1.out rfl (fun y hy=>aj _ _ w.heap.size 0 A _ rfl (oJ hy) underlying45 rfl (ae Tryz.ah Aw)) ?_;refine aS 6 28 (.slice p1 192 c1) R1.out rfl (by intro y hy;go_simp) ?_;refine aD 5 (by kernel_rfl) ?_;refine wpOp_step rfl (fun Kc Af=>?_);go_simp;refine (HH.out z).mono ?_;rintro e2 w2 ⟨rfl,Al⟩;have Aj:Hid (qw w0 w2):=HBz.out.trans (Al.mono HBz.out.size);have Ar:=qh (HSz.out.av Al);have R2:=qh (HR.out _ Aj.out);clear Al;dsimp only;refine Af _ _ ⟨R2.out,?_⟩;clear Af Kc;try simp only [Act.put,aQ,aR,aO]
   refine aS 7 29 (SV 2 ep num J6 p1 192 c1) R2.out rfl (by intro y hy;go_simp) ?_;refine aD 8 (by kernel_rfl) ?_;refine wpOp_step rfl (fun Kc Af=>?_);go_simp;refine (Ej.out _ _ _ (HB.out _ Aj.out) Ar.out).mono ?_;rintro e3 w3 ⟨u3,m3,d3,rfl,FA,Cg,AY,Gd⟩;have Ao:Hid (qw w0 w3):=Aj.out.trans (Gd.mono Aj.out.size);have R3:=qh (HR.out _ Ao.out);have MR:=qh FA;clear Gd FA;dsimp only;refine Af _ _ ⟨R3.out,?_⟩;clear Af Kc;try simp only [Act.put,aQ,aR,aO]
   refine aS 9 21 (.tuple #[.slice u3 m3 d3,.int .i64 0]) R3.out rfl (by intro y hy;go_simp) ?_;refine aS 10 31 (.slice u3 m3 d3) R3.out rfl (by intro y hy;go_simp) ?_;refine aS 11 32 (.int .i64 0) R3.out rfl (by intro y hy;go_simp) ?_;refine aS 12 11 (.slice u3 m3 d3) R3.out rfl (by intro y hy;go_simp) ?_;refine aS 13 12 (.int .i64 0) R3.out rfl (by intro y hy;go_simp) ?_;refine wpAnyH_done (by kernel_rfl) ?_ _;have HBq:Hid (qw w0 w3):=Ao;go_wp2_with (first
    | ((with_reducible refine ay _ _ _ _ _ _ _ ?_ R3.out underlying45 ?_ (ae Tryz.ah Aw) ?_);(exact rfl);(exact rfl))
    | (go_at_call 48;refine (HH.out _).mono ?_;rintro e4 w4 ⟨rfl,AJ⟩;have Av:Hid (qw w0 w4):=HBq.out.trans (AJ.mono HBq.out.size);have F2:=qh (AY.out.av AJ))
    | (go_at_call 81;refine (HW.out _ _ _ _ MR.out (HZ.out _ (HB.out _ Av.out)) F2.out).mono ?_;intro e5 w5 PC;have Ft:=qh (HF.out _ _ _ (HB.out _ Av.out) PC);obtain ⟨rfl,_,_⟩:=PC))
   go_ret;exact Ft.out
  ·have HF:Hid (∀ z,qw w z→rv r (x1,L) T q qb m w (.returned (.int .i64 x1)) z):=fun z hz=>by
    refine ⟨by rw [Rg.ae6 hm hx],?_,Mv.aB hz⟩;show bA _ _ _ _ _;rw [Rg.afs hm hx];exact (HD.out.av hz).own _
   have CY:(x1==0)=false:=by simpa using hx
   have Ag:(x1 != 0)=true:=by simpa using hx
   rw [eA];clear hm eA h hX CG hx HD;generalize Rg.home r=J6 at *;generalize r.ep=ep at *;generalize Rg.pt r=PT at *;go_enter func39,ntmps39;go_upto_region 1 with (fail)
   change Code.wp _ _ _ _ (w.alloc (.cells A 45));rw [← Ah];clear Ah;go_upto_region 4 with (first
    | ((with_reducible refine ay _ _ _ _ _ _ _ ?_ R0.out underlying45 ?_ (ae Tryz.ah Aw) ?_);(exact rfl);(exact rfl))
    | (go_at_call 52;refine (HP.out _).mono ?_;rintro e1 w1 ⟨p1,c1,rfl,Ax,AM,Ai⟩))
   refine wp_region_any (by kernel_rfl) ?_;change wpAny _ _ _ _ _ _ _ (World.drew _);have HBz:Hid (qw w0 w1.drew):=Ai.out.drew;have HSz:Hid (Bs w1.drew p1 c1 PT):=AM.out.drew;generalize w1.drew=z at *;have R1:=qh (HR.out _ HBz.out);clear Ai AM Ax HP;refine wpAny_of_held (S:=fun y=>y.heap[w.heap.size]?=qo A 45) _ _ _ _ ?_;refine aS 0 22 (.pointer (some a0)) R1.out rfl (by intro y hy;go_simp) ?_;refine aS 1 23 (.pointer (some ⟨w.heap.size,2,none⟩)) R1.out rfl (by intro y hy;go_simp) ?_;refine aS 2 24 (.int .i64 ep) R1.out rfl (by intro y hy;have c2:=HE.out y hy;go_simp) ?_;refine aS 3 25 (.int .i64 num) R1.out rfl (by intro y hy;go_simp) ?_;refine aS 4 26 (.agg A) R1.out rfl (fun y hy=>aj _ _ w.heap.size 0 A _ rfl (oJ hy) underlying45 rfl (ae Tryz.ah Aw)) ?_;refine aS 6 28 (.slice p1 192 c1) R1.out rfl (by intro y hy;go_simp) ?_;refine aD 5 (by kernel_rfl) ?_;refine wpOp_step rfl (fun Kc Af=>?_);go_simp;refine (HH.out z).mono ?_;rintro e2 w2 ⟨rfl,Al⟩;have Aj:Hid (qw w0 w2):=HBz.out.trans (Al.mono HBz.out.size);have Ar:=qh (HSz.out.av Al);have R2:=qh (HR.out _ Aj.out);clear Al;dsimp only;refine Af _ _ ⟨R2.out,?_⟩;clear Af Kc;try simp only [Act.put,aQ,aR,aO]
   refine aS 7 29 (SV 2 ep num J6 p1 192 c1) R2.out rfl (by intro y hy;go_simp) ?_;refine aD 8 (by kernel_rfl) ?_;refine wpOp_step rfl (fun Kc Af=>?_);go_simp;refine (Ej.out _ _ _ (HB.out _ Aj.out) Ar.out).mono ?_;rintro e3 w3 ⟨u3,m3,d3,rfl,FA,Cg,AY,Gd⟩;have Ao:Hid (qw w0 w3):=Aj.out.trans (Gd.mono Aj.out.size);have R3:=qh (HR.out _ Ao.out);have MR:=qh FA;clear Gd FA;dsimp only;refine Af _ _ ⟨R3.out,?_⟩;clear Af Kc;try simp only [Act.put,aQ,aR,aO]
   refine aS 9 21 (.tuple #[.slice u3 m3 d3,.int .i64 x1]) R3.out rfl (by intro y hy;go_simp) ?_;refine aS 10 31 (.slice u3 m3 d3) R3.out rfl (by intro y hy;go_simp) ?_;refine aS 11 32 (.int .i64 x1) R3.out rfl (by intro y hy;go_simp) ?_;refine aS 12 11 (.slice u3 m3 d3) R3.out rfl (by intro y hy;go_simp) ?_;refine aS 13 12 (.int .i64 x1) R3.out rfl (by intro y hy;go_simp) ?_;refine wpAnyH_done (by kernel_rfl) ?_ _;go_wp2;go_ret;exact HF.out _ (HB.out _ Ao.out)
end
end Go.Proofs.YthgjfjmampmiiaaGreatDoor

/-
  RgF, RgG, RgH (merged)
-/
import Derived.Test.YthgjfjmampmiiaaGreatDoorSc3
import Derived.Test.YthgjfjmampmiiaaGreatDoorDk6
import Derived.Test.YthgjfjmampmiiaaGreatDoorRg4
namespace Go.Proofs.YthgjfjmampmiiaaGreatDoor
open Go.Proofs.Tryz
set_option maxHeartbeats 4000000
set_option maxRecDepth 100000
section
open Go.RowKit
namespace Rg
def wE (m:Dk.M) (r:R) (X:Int × List Int):Int:=if may r then (if X.1=0 then Dk.kE m (home r) X.2 else X.1) else 7
def wM (m:Dk.M) (r:R) (X:Int × List Int):Dk.M:=if may r then (if X.1=0 then Dk.gY m (home r) X.2 else m) else m
theorem afx {m:Dk.M} {r:R} (X:Int × List Int) (h:may r=false):wE m r X=7:=by unfold wE;rw [h];rfl
theorem ae5 {m:Dk.M} {r:R} (X:Int × List Int) (h:may r=false):wM m r X=m:=by unfold wM;rw [h];rfl
theorem ae6 {m:Dk.M} {r:R} {X:Int × List Int} (h:may r=true) (hx:X.1 ≠ 0):wE m r X=X.1:=by unfold wE;rw [if_pos h,if_neg hx]
theorem afs {m:Dk.M} {r:R} {X:Int × List Int} (h:may r=true) (hx:X.1 ≠ 0):wM m r X=m:=by unfold wM;rw [if_pos h,if_neg hx]
theorem zg {m:Dk.M} {r:R} {X:Int × List Int} (h:may r=true) (hx:X.1=0):wE m r X=Dk.kE m (home r) X.2:=by unfold wE;rw [if_pos h,if_pos hx]
theorem zC {m:Dk.M} {r:R} {X:Int × List Int} (h:may r=true) (hx:X.1=0):wM m r X=Dk.gY m (home r) X.2:=by unfold wM;rw [if_pos h,if_pos hx]
def sec (r:R) (n:Int):Sc.S:=⟨2,r.ep,n,home r,pt r⟩
theorem gA {r:R} (h:Ok r) (n:Int):(sec r n).L.length=192:=kt h
attribute [irreducible] wE wM
end Rg
def xd (r:Rg.R) (X:Int × List Int) (T:Nat→Prop) (d lb rb cb:Nat) (m:Dk.M) (ks:List Nat) (C:World→World→Prop) (w:World) (e:Ending) (w':World):Prop :=
 e = .returned (.int .i64 (Rg.wE m r X))∧Hid (aJ w' (Own T w w') d lb rb cb (Rg.wM m r X))∧Hid (Mv (d :: lb :: rb :: cb :: ks) w w')∧Hid (∃ y z,qw w y∧(if Rg.may r then C y z else z=y)∧Mv [d,lb,rb,cb] z w')
theorem ks4 {d lb rb cb:Nat} {ks:List Nat}:∀ k∈[d,lb,rb,cb],k∈d :: lb :: rb :: cb :: ks:=fun k hk=>by
 simp only [List.mem_cons,List.not_mem_nil,or_false] at hk ⊢;rcases hk with h | h | h | h<;>simp [h]
theorem ks5 {d lb rb cb:Nat} {ks:List Nat}:∀ k∈ks,k∈d :: lb :: rb :: cb :: ks:=fun k hk=>by simp [hk]
theorem zl {T:Nat→Prop} {w z y:World} (h:w.heap.size≤z.heap.size):∀ g,Own T z y g→Own T w y g:=fun g hg=>by
 rcases hg with h1 | h1
 ·exact Or.inl h1
 ·exact Or.inr ⟨Nat.le_trans h h1.1,h1.2⟩
theorem od (TT:TypeId) (vv:Value) (r:Rg.R) (h:Rg.Ok r) (num:Int) (X:Int × List Int) (ks:List Nat) (C:World→World→Prop) {T:Nat→Prop} {d lb rb cb:Nat} {m:Dk.M} (w:World) (hd:aJ w T d lb rb cb m) (DY:∀ k∈ks,¬ T k)
  (hX:X.2.length≤1000000) (CG:m.wr≤1000000000)
  (hput:Rg.may r=true→∀ y p c,qw w y→Bs y p c (Rg.pt r)→qc 67 #[.iface TT vv,SV 2 r.ep num (Rg.home r) p 192 c] y (tF X y (fun z=>C y z∧Mv ks y z))) :
  qc 30 #[qp d,.iface TT vv,RV r,.int .i64 num] w (xd r X T d lb rb cb m ks C w):=by
 obtain ⟨A,SU,RT,B1,B2,eA,hk⟩:=s7 h;have HH:Hid (∀ y,qc 66 #[.agg A] y fun e w'=>e = .returned (.int .i64 (Rg.home r))∧qw y w'):=fun y=>by rw [← eA];exact qZ r h y
 obtain ⟨w0,Ah⟩:∃ x,x=w.alloc (.cells A 45):=⟨_,rfl⟩;have R0:Hid (w0.heap[w.heap.size]?=qo A 45):=by rw [Ah];exact heap_alloc_new w _
 have B0:Hid (qw w w0):=by rw [Ah];exact qb w _
 have HR:Hid (∀ y,qw w0 y→y.heap[w.heap.size]?=qo A 45):=fun y hy=>(hy.block _ (lt_of_block R0.out)).trans R0.out;have HE:Hid (∀ y,qw w0 y→y.cell? ⟨w.heap.size,2,none⟩=some (.int .i64 r.ep)):=fun y hy=>(hk.ints y w.heap.size _ (HR.out y hy)).2.2.1;have Aw:=qh hk.size;have h1:=hk.one;have HB:Hid (∀ y,qw w0 y→qw w y):=fun y hy=>B0.out.trans (hy.mono B0.out.size);have HD:=qh hd;have EC:=qh DY;have RF:Hid (qw w0 w0):=Below.refl _ _;clear hd DY hk;cases hm:Rg.may r with
 | false =>
  have HP:Hid (∀ y,qc 24 #[.agg A] y (qy y)):=fun y=>by rw [← eA];exact adF r h hm y
  have HF:Hid (∀ y,qw w y→xd r X T d lb rb cb m ks C w (.returned (.int .i64 7)) y):=fun y hy=>by
   refine ⟨by rw [Rg.afx X hm],?_,qh (Mv.aB hy),qh ⟨y,y,hy,?_,Mv.refl _ _⟩⟩
   ·show aJ _ _ _ _ _ _ _;rw [Rg.ae5 X hm];exact (HD.out.av hy).own
   ·rw [hm];rfl
  rw [eA];clear hput hm eA h HH HE;go_enter func30,ntmps30;go_upto_region 1 with (fail)
  change Code.wp _ _ _ _ (w.alloc (.cells A 45));rw [← Ah];clear Ah;go_wp2_with (first
   | ((with_reducible refine ay _ _ _ _ _ _ _ ?_ R0.out underlying45 ?_ (ae Tryz.ah Aw) ?_);(exact rfl);(exact rfl))
   | (go_at_call 24;refine (HP.out _).mono ?_;rintro e1 w1 ⟨rfl,Ai⟩))
  go_ret;exact HF.out _ (HB.out _ Ai.out)
 | true =>
  have HP:Hid (∀ y,qc 24 #[.agg A] y (eW (Rg.pt r) y)):=fun y=>by rw [← eA];exact rT r h hm y
  have Ej:=qh (hput hm);have Sl:Hid (∀ y z,Mv [] y z→∀ p c L,Bs y p c L→True):=fun _ _ _ _ _ _ _=>trivial;clear hput Sl;obtain ⟨x1,L⟩:=X;dsimp only at hX Ej;by_cases hx:x1=0
  ·subst hx;have HF:Hid (∀ y z e w',qw w y→C y z→Mv ks y z→aev T d lb rb cb (.int .i64 (Dk.kE m (Rg.home r) L)) (Dk.gY m (Rg.home r) L) z e w'→xd r (0,L) T d lb rb cb m ks C w e w'):=fun y z e w' hy hc hz ⟨h1,h2,h3⟩=>by
    have hz2:w.heap.size≤z.heap.size:=Nat.le_trans hy.size hz.size;refine ⟨by rw [h1,Rg.zg hm rfl],?_,?_,qh ⟨y,z,hy,by rw [if_pos hm];exact hc,h3.out⟩⟩
    ·show aJ _ _ _ _ _ _ _;rw [Rg.zC hm rfl];exact h2.out.lift (zl hz2) (fun g hg=>hg.elim (fun q=>h2.out.top g (Or.inl q)) (fun q=>q.2))
    ·exact ((Mv.aB hy).trans (hz.more ks5)).trans (h3.out.more ks4)
   have HZ:Hid (∀ y z,qw w y→Mv ks y z→aJ z T d lb rb cb m):=fun y z hy hz=>(HD.out.av hy).mv hz EC.out;have HW:Hid (∀ z p n c,L.length=n→aJ z T d lb rb cb m→Bs z p c L→qc 68 #[qp d,.int .i64 (Rg.home r),.slice p n c] z (aev T d lb rb cb (.int .i64 (Dk.kE m (Rg.home r) L)) (Dk.gY m (Rg.home r) L) z)):=fun z p n c hn hz hb=>y5 (Rg.home r) L p n c hn (by omega) CG z hz hb;rw [eA];clear hm eA h hX CG;generalize Rg.home r=J6 at *;generalize r.ep=ep at *;go_enter func30,ntmps30;go_upto_region 1 with (fail)
   change Code.wp _ _ _ _ (w.alloc (.cells A 45));rw [← Ah];clear Ah;go_upto_region 4 with (first
    | ((with_reducible refine ay _ _ _ _ _ _ _ ?_ R0.out underlying45 ?_ (ae Tryz.ah Aw) ?_);(exact rfl);(exact rfl))
    | (go_at_call 24;refine (HP.out _).mono ?_;rintro e1 w1 ⟨p1,c1,rfl,Ax,AM,Ai⟩))
   have R1:=qh (HR.out _ Ai.out);go_upto_region 5 with (first
    | ((with_reducible refine ay _ _ _ _ _ _ _ ?_ R1.out underlying45 ?_ (ae Tryz.ah Aw) ?_);(exact rfl);(exact rfl))
    | (go_at_call 66;refine (HH.out _).mono ?_;rintro e2 w2 ⟨rfl,Al⟩))
   have Aj:Hid (qw w0 w2):=Ai.out.trans (Al.mono Ai.out.size);have Ar:=qh (AM.out.av Al);have c2:=HE.out _ Aj.out;clear Al;go_upto_region 8 with (go_at_call 67;refine (Ej.out _ _ _ (HB.out _ Aj.out) Ar.out).mono ?_;rintro e3 w3 ⟨u3,m3,d3,rfl,FA,Cg,AY,Gd,LI⟩)
   have KR:=qh Gd;have P6:=qh LI;have MR:=qh FA;clear Gd LI FA c2;go_wp2_with (go_at_call 68;refine (HW.out _ _ _ _ MR.out (HZ.out _ _ (HB.out _ Aj.out) P6.out) AY.out).mono ?_;intro e4 w4 FE;have Og:=qh (HF.out _ _ _ _ (HB.out _ Aj.out) KR.out P6.out FE);obtain ⟨rfl,_,_⟩:=FE)
   go_ret;exact Og.out
  ·have HF:Hid (∀ y z,qw w y→C y z→Mv ks y z→xd r (x1,L) T d lb rb cb m ks C w (.returned (.int .i64 x1)) z):=fun y z hy hc hz=>by
    have hb:Mv (d :: lb :: rb :: cb :: ks) w z:=(Mv.aB hy).trans (hz.more ks5);refine ⟨by rw [Rg.ae6 hm hx],?_,hb,qh ⟨y,z,hy,by rw [if_pos hm];exact hc,Mv.refl _ _⟩⟩;show aJ _ _ _ _ _ _ _;rw [Rg.afs hm hx];exact ((HD.out.av hy).mv hz EC.out).own
   have CY:(x1==0)=false:=by simpa using hx
   rw [eA];clear hm eA h hX CG hx;generalize Rg.home r=J6 at *;generalize r.ep=ep at *;go_enter func30,ntmps30;go_upto_region 1 with (fail)
   change Code.wp _ _ _ _ (w.alloc (.cells A 45));rw [← Ah];clear Ah;go_upto_region 4 with (first
    | ((with_reducible refine ay _ _ _ _ _ _ _ ?_ R0.out underlying45 ?_ (ae Tryz.ah Aw) ?_);(exact rfl);(exact rfl))
    | (go_at_call 24;refine (HP.out _).mono ?_;rintro e1 w1 ⟨p1,c1,rfl,Ax,AM,Ai⟩))
   have R1:=qh (HR.out _ Ai.out);go_upto_region 5 with (first
    | ((with_reducible refine ay _ _ _ _ _ _ _ ?_ R1.out underlying45 ?_ (ae Tryz.ah Aw) ?_);(exact rfl);(exact rfl))
    | (go_at_call 66;refine (HH.out _).mono ?_;rintro e2 w2 ⟨rfl,Al⟩))
   have Aj:Hid (qw w0 w2):=Ai.out.trans (Al.mono Ai.out.size);have Ar:=qh (AM.out.av Al);have c2:=HE.out _ Aj.out;clear Al;go_wp2_with (go_at_call 67;refine (Ej.out _ _ _ (HB.out _ Aj.out) Ar.out).mono ?_;rintro e3 w3 ⟨u3,m3,d3,rfl,FA,Cg,AY,Gd,LI⟩;have Og:=qh (HF.out _ _ (HB.out _ Aj.out) Gd LI);clear Gd LI)
   go_ret;exact Og.out
end
section
open Go.RowKit
namespace Rg
def hb (at_:Int) (G:Int × Sc.S):Option R:=if G.1=0 then (if er G.2.L=0 then (if (gt G.2.L).ep=G.2.e then (if home (gt G.2.L)=at_ then some (gt G.2.L) else none) else none) else none) else none
def hd (m:Dk.M) (at_:Int) (G:List Int→Int × Sc.S):Option R:=if Dk.here m at_ then hb at_ (G (Dk.bK m at_)) else none
section
variable {at_:Int} {G:Int × Sc.S}
theorem ajf (h:G.1 ≠ 0):hb at_ G=none:=by unfold hb;rw [if_neg h]
theorem aiX (h:G.1=0) (h2:er G.2.L ≠ 0):hb at_ G=none:=by unfold hb;rw [if_pos h,if_neg h2]
theorem aiY (h:G.1=0) (h2:er G.2.L=0) (h3:(gt G.2.L).ep ≠ G.2.e):hb at_ G=none:=by unfold hb;rw [if_pos h,if_pos h2,if_neg h3]
theorem aic (h:G.1=0) (h2:er G.2.L=0) (h3:(gt G.2.L).ep=G.2.e) (h4:home (gt G.2.L) ≠ at_):hb at_ G=none:=by unfold hb;rw [if_pos h,if_pos h2,if_pos h3,if_neg h4]
theorem agd (h:G.1=0) (h2:er G.2.L=0) (h3:(gt G.2.L).ep=G.2.e) (h4:home (gt G.2.L)=at_):hb at_ G=some (gt G.2.L):=by unfold hb;rw [if_pos h,if_pos h2,if_pos h3,if_pos h4]
theorem ad1 {r:R} (h:hb at_ G=some r):G.1=0∧er G.2.L=0∧(gt G.2.L).ep=G.2.e∧home (gt G.2.L)=at_∧r=gt G.2.L:=by
 unfold hb at h;split at h
 ·split at h
  ·split at h
   ·split at h
    ·rename_i h1 h2 h3 h4
     exact ⟨h1,h2,h3,h4,(Option.some.inj h).symm⟩
    ·cases h
   ·cases h
  ·cases h
 ·cases h
end
theorem ab0 {m:Dk.M} {at_:Int} (G:List Int→Int × Sc.S) (h:Dk.here m at_=false):hd m at_ G=none:=by unfold hd;rw [h];rfl
theorem pN {m:Dk.M} {at_:Int} (G:List Int→Int × Sc.S) (h:Dk.here m at_=true):hd m at_ G=hb at_ (G (Dk.bK m at_)):=by unfold hd;rw [h];rfl
attribute [irreducible] hb hd
end Rg
def RVo (o:Option Rg.R):Value:=RV (o.getD Rg.zero)
def sn (o:Option Rg.R) (T:Nat→Prop) (d lb rb cb:Nat) (m':Dk.M) (w:World) (e:Ending) (w':World):Prop :=
 e = .returned (.tuple #[RVo o,.bool o.isSome])∧Hid (aJ w' T d lb rb cb m')∧Hid (Mv [d,lb,rb,cb] w w')
theorem ag4 {ks:List Nat} {w y z:World} {g:Nat} (h:Mv ks w y) (hc:bJ g y z) (hg:w.heap.size≤g):Mv ks w z :=
 ⟨hc.os.trans h.os,hc.tape.trans h.tape,hc.output.trans h.output,by rw [hc.size];exact h.size,fun k hk hn=>(hc.block k (by omega)).trans (h.block k hk hn)⟩
theorem aal (TT:TypeId) (vv:Value) (at_:Int) (G:List Int→Int × Sc.S) {T:Nat→Prop} {d lb rb cb:Nat} {m:Dk.M} (w:World) (hd:aJ w T d lb rb cb m) (CA:∀ j,m.rd j≤1000000000)
  (j6:(G (Dk.bK m at_)).2.L.length≤900000)
  (hget:∀ y q n c,Mv [d,lb,rb,cb] w y→(Dk.bK m at_).length=n→Bs y q c (Dk.bK m at_)→qc 86 #[.iface TT vv,.int .i64 2,.int .i64 at_,.slice q n c] y (nj (G (Dk.bK m at_)) y)) :
  qc 45 #[qp d,.iface TT vv,.int .i64 at_] w (sn (Rg.hd m at_ G) T d lb rb cb (Dk.dG m at_) w):=by
 obtain ⟨Z,hZ⟩:∃ Z,Hid ((cv Rg.zero).toArray=Z):=⟨_,rfl⟩;have AB:Hid (Z.size=136):=by show _=_;rw [← hZ.out,List.size_toArray,dr Rg.bw]
 have Cn:Hid (Z.all (·.oneCell')=true):=by show _=_;rw [← hZ.out];exact all_oneCell_toArray (jn Rg.zero)
 have hz:=(zero_of_info Tryz.dN).1;have Ee:=qh Tryz.lT;rw [hZ.out] at hz Ee;have GV:¬ Z = #[]:=fun h=>by have:=AB.out;rw [h] at this;simp at this
 have Bj:=ae Tryz.ah AB;have Lq:Hid (RVo none = .agg Z):=by show _=_;unfold RVo RV;rw [← hZ.out];rfl
 obtain ⟨w0,Ah⟩:∃ x,x=w.alloc (.cells Z 45):=⟨_,rfl⟩;have B0:Hid (qw w w0):=by rw [Ah];exact qb w _
 have R0:Hid (w0.heap[w.heap.size]?=qo Z 45):=by rw [Ah];exact heap_alloc_new w _
 have FX:Hid (¬ T w.heap.size):=fun h=>absurd (hd.top _ h) (Nat.lt_irrefl _);have Du:=qh hd.lt;have M0:Hid (∀ k,T k→k<w.heap.size):=hd.top;have Dl:Hid (qc 16 #[qp d,.int .i64 at_] w0 (uA T d lb rb cb m at_ w0)):=nI at_ w0 (hd.av B0.out) CA;have Lz:Hid (∀ y,Mv [d,lb,rb,cb] w0 y→y.heap[w.heap.size]?=qo Z 45):=fun y hy=>(hy.block _ (lt_of_block R0.out) (fun hk=>by
  simp only [List.mem_cons,List.not_mem_nil,or_false] at hk;rcases hk with q | q | q | q
  ·exact FX.out (q ▸ Du.out.1)
  ·exact FX.out (q ▸ Du.out.2.1)
  ·exact FX.out (q ▸ Du.out.2.2.1)
  ·exact FX.out (q ▸ Du.out.2.2.2))).trans R0.out
 have HF:Hid (∀ w1 y z v b,aJ w1 T d lb rb cb (Dk.dG m at_)→Mv [d,lb,rb,cb] w0 w1→qw w1 y→bJ w.heap.size y z→v=RVo (Rg.hd m at_ G)→b=(Rg.hd m at_ G).isSome→sn (Rg.hd m at_ G) T d lb rb cb (Dk.dG m at_) w (.returned (.tuple #[v,.bool b])) z):=fun w1 y z v b h1 h2 h3 h4 h5 h6=>by
  rw [h5,h6];refine ⟨rfl,(h1.av h3).only h4.only FX.out,ag4 (((Mv.aB B0.out).trans h2).trans (Mv.aB h3)) h4 qn⟩
 have BQ:Hid (∀ y,Mv [d,lb,rb,cb] w0 y→Mv [d,lb,rb,cb] w y):=fun y hy=>(Mv.aB B0.out).trans hy;unfold uA at Dl;clear hd CA;cases hh:Dk.here m at_ with
 | false =>
  have HN:Hid (Rg.hd m at_ G=none):=Rg.ab0 G hh;have Ry:Hid (Dk.fC m at_=7):=by show _=_;unfold Dk.fC;rw [hh];rfl
  clear hget j6 hh;go_enter func45,ntmps45;go_upto_region 1 with (fail)
  change Code.wp _ _ _ _ (w.alloc (.cells Z 45));rw [← Ah];clear Ah;go_wp2_with (first
   | (go_at_call 16;refine Dl.out.mono ?_;rintro e1 w1 ⟨v1,rfl,FD,DH,Cf⟩;rw [Ry.out])
   | ((with_reducible refine bT _ _ Ee.out ?_))
   | ((with_reducible refine ak _ _ _ _ _ _ _ ?_ ?_ (Lz.out _ Cf.out) (ae Tryz.ah AB) ?_ Cn.out ?_);(exact rfl);(exact rfl);(exact rfl);intro w9 G9 AW))
  refine bodyPost_ret (results_cell_tmp rfl _ _ w.heap.size 45 Z (0,0) _ rfl G9 underlying45 rfl (ae Tryz.ah AB)) rfl (HF.out w1 _ _ _ _ DH.out Cf.out (Below.refl _ _) AW (by rw [HN.out,Lq.out]) (by rw [HN.out];rfl))
 | true =>
  have ET:Hid (Dk.fC m at_=0):=by show _=_;unfold Dk.fC;rw [hh];rfl
  have Cs:=Rg.pN G hh;have Cb:=qh hget;clear hget hh;generalize Dk.bK m at_=B at *;obtain ⟨eg,sg⟩:∃ x,x=G B:=⟨_,rfl⟩;rw [← sg] at Cs Cb j6;obtain ⟨x1,kk,ee,nn,aa,L⟩:=eg;clear sg;dsimp only at j6;have A8:Hid (∀ y q n c,L.length=n→Bs y q c L→qc 54 #[.slice q n c] y (eJ L y)):=fun y q n c hn hy=>aaT L q n c hn (by omega) y hy;have Lx:Hid (∀ (y:World) (v:Value),y.ownsRow w0.heap.size 5 1 v B.length (aC B)∧ai.aY B→∃ p c,v = .slice p B.length c∧Bs y p c B):=fun y v hv=>by
   obtain ⟨p,c,h1,h2,_⟩:=bH hv.1 hv.2;exact ⟨p,c,h1,h2⟩
  have T8:Hid (∀ q d',(Sv (⟨kk,ee,nn,aa,L⟩:Sc.S) q L.length d')=SV kk ee nn aa q L.length d'):=fun _ _=>rfl;by_cases hx:x1=0
  case neg =>
   have HN:Hid (Rg.hd m at_ G=none):=by show _=_;rw [Cs];exact Rg.ajf hx
   have CY:(x1==0)=false:=by simpa using hx
   clear Cs j6 A8 hx;have ED:Hid (∀ y z,Mv [d,lb,rb,cb] w0 y→qw y z→z.heap[w.heap.size]?=qo Z 45):=fun y z h1 h2=>(h2.block _ (lt_of_block (Lz.out _ h1))).trans (Lz.out _ h1);go_enter func45,ntmps45;go_upto_region 1 with (fail)
   change Code.wp _ _ _ _ (w.alloc (.cells Z 45));rw [← Ah];clear Ah;go_upto_region 5 with (first
    | (go_at_call 16;refine Dl.out.mono ?_;rintro e1 w1 ⟨v1,rfl,FD,DH,Cf⟩;obtain ⟨q1,c1,Ew,EF⟩:=Lx.out _ _ FD.out;subst Ew;rw [ET.out];have Ai:=qh EF;have BO:=qh (BQ.out _ Cf.out);clear EF)
    | (go_at_call 86;refine (Cb.out _ _ _ _ BO.out rfl Ai.out).mono ?_;rintro e2 w2 ⟨u2,m2,d2,rfl,AP,AA,Ar,Al⟩;have Aj:=qh Al;have Bw:=qh AP;clear Al AP))
   obtain ⟨w3,AH⟩:∃ y,y=w2.alloc (SO kk ee nn aa u2 m2 d2):=⟨_,rfl⟩;have Ao:Hid (qw w1 w3):=by rw [AH];exact Aj.out.alloc Aj.out.size _
   change Code.wp _ _ _ _ (w2.alloc (SO kk ee nn aa u2 m2 d2));rw [← AH];clear AH;go_wp2_with (first
    | ((with_reducible refine bT _ _ Ee.out ?_))
    | ((with_reducible refine ak _ _ _ _ _ _ _ ?_ ?_ (ED.out _ _ Cf.out Ao.out) (ae Tryz.ah AB) ?_ Cn.out ?_);(exact rfl);(exact rfl);(exact rfl);intro w9 G9 AW))
   refine bodyPost_ret (results_cell_tmp rfl _ _ w.heap.size 45 Z (0,0) _ rfl G9 underlying45 rfl (ae Tryz.ah AB)) rfl (HF.out w1 _ _ _ _ DH.out Cf.out Ao.out AW (by rw [HN.out,Lq.out]) (by rw [HN.out];rfl))
  case pos =>
   subst hx;have ED:Hid (∀ y z,Mv [d,lb,rb,cb] w0 y→qw y z→z.heap[w.heap.size]?=qo Z 45):=fun y z h1 h2=>(h2.block _ (lt_of_block (Lz.out _ h1))).trans (Lz.out _ h1);have ID:Hid (∀ y,ai.aY L→qc 66 #[RV (Rg.gt L)] y fun e w'=>e = .returned (.int .i64 (Rg.home (Rg.gt L)))∧qw y w'):=fun y hy=>qZ _ (Rg.my hy) y;have IP:Hid (ai.aY L→∃ A,RV (Rg.gt L) = .agg A∧A.size=136∧A.all (·.oneCell')=true∧∀ (z:World) (g:Nat) (t:TypeId),z.heap[g]?=qo A t→z.cell? ⟨g,2,none⟩=some (.int .i64 (Rg.gt L).ep)):=fun hy=>by
    obtain ⟨A,_,_,_,_,e1,hk⟩:=s7 (Rg.my hy);exact ⟨A,e1,hk.size,hk.one,fun z g t hz=>(hk.ints z g t hz).2.2.1⟩
   have Fq:Hid (∀ r,Rg.hd m at_ G=some r→RVo (Rg.hd m at_ G)=RV r):=fun r hr=>by rw [hr];rfl
   by_cases h2:Rg.er L=0
   case neg =>
    have HN:Hid (Rg.hd m at_ G=none):=by show _=_;rw [Cs];exact Rg.aiX rfl h2
    have CY:(Rg.er L != 0)=true:=by simpa using h2
    clear Cs j6 h2 Fq;go_enter func45,ntmps45;go_upto_region 1 with (fail)
    change Code.wp _ _ _ _ (w.alloc (.cells Z 45));rw [← Ah];clear Ah;go_upto_region 5 with (first
     | (go_at_call 16;refine Dl.out.mono ?_;rintro e1 w1 ⟨v1,rfl,FD,DH,Cf⟩;obtain ⟨q1,c1,Ew,EF⟩:=Lx.out _ _ FD.out;subst Ew;rw [ET.out];have Ai:=qh EF;have BO:=qh (BQ.out _ Cf.out);clear EF)
     | (go_at_call 86;refine (Cb.out _ _ _ _ BO.out rfl Ai.out).mono ?_;rintro e2 w2 ⟨u2,m2,d2,rfl,AP,AA,Ar,Al⟩;have Aj:=qh Al;have Bw:=qh AP;clear Al AP))
    obtain ⟨w3,AH⟩:∃ y,y=w2.alloc (SO kk ee nn aa u2 m2 d2):=⟨_,rfl⟩;have Ao:Hid (qw w1 w3):=by rw [AH];exact Aj.out.alloc Aj.out.size _
    have AY:Hid (Bs w3 u2 d2 L):=by rw [AH];exact Ar.out.av (qb w2 _)
    have Au:Hid (cA w3 w2.heap.size kk ee nn aa u2 m2 d2):=by rw [AH];exact cA.new w2 _ _ _ _ _ _ _
    have Iy:Hid (w2.heap.size<w3.heap.size):=Au.out.lt;change Code.wp _ _ _ _ (w2.alloc (SO kk ee nn aa u2 m2 d2));rw [← AH];clear AH Ai AA Ar Cb Dl;generalize w2.heap.size=gs at *;obtain ⟨A,eA,Cj,CU,DB⟩:=IP.out AY.out.bat.1;have Aw:=qh Cj;have An:=qh CU;have HH:=qh (fun y=>ID.out y AY.out.bat.1);have Bb:=qh (fun y (hy:qw w3 y)=>A8.out y u2 m2 d2 Bw.out (AY.out.av hy));unfold eJ at Bb;rw [eA] at Bb HH;clear IP Cj CU A8 ID;generalize Rg.er L=er at *;have c4:=Au.out.c4;go_upto_region 8 with (first
     | (go_at_call 54;refine (Bb.out _ (Below.refl _ _)).mono ?_;rintro e4 w4 ⟨rfl,Av⟩)
     | ((with_reducible refine ak _ _ _ _ _ _ _ ?_ ?_ (heap_alloc_new _ _) (ae Tryz.ah Aw) ?_ An.out ?_);(exact rfl);(exact rfl);(rw [Aw.out,AB.out]);intro w5 G5 AZ))
    have Ay:Hid (qw w3 w5):=AZ.below (Av.out.alloc Av.out.size _) Av.out.size;have Br:Hid (qw w1 w5):=Ao.out.trans (Ay.out.mono Ao.out.size);have R5:Hid (∀ y,qw w5 y→y.heap[w4.heap.size]?=qo A 45):=fun y hy=>(hy.block _ (lt_of_block G5)).trans G5;have c1:=(Au.out.av Ay.out).c1;have c2:=DB _ _ _ G5;clear AZ Av Bb c4;generalize w4.heap.size=gr at *;go_wp2_with (first
     | ((with_reducible refine bT _ _ Ee.out ?_))
     | ((with_reducible refine ak _ _ _ _ _ _ _ ?_ ?_ (ED.out _ _ Cf.out Br.out) (ae Tryz.ah AB) ?_ Cn.out ?_);(exact rfl);(exact rfl);(exact rfl);intro w9 G9 AW))
    refine bodyPost_ret (results_cell_tmp rfl _ _ w.heap.size 45 Z (0,0) _ rfl G9 underlying45 rfl (ae Tryz.ah AB)) rfl (HF.out w1 _ _ _ _ DH.out Cf.out Br.out AW (by rw [HN.out,Lq.out]) (by rw [HN.out];rfl))
   case pos =>
    by_cases h3:(Rg.gt L).ep=ee
    case neg =>
     have HN:Hid (Rg.hd m at_ G=none):=by show _=_;rw [Cs];exact Rg.aiY rfl h2 h3
     have As:((Rg.gt L).ep != ee)=true:=by simpa using h3
     have Ef:=qh h2;clear Cs j6 h2 Fq h3;go_enter func45,ntmps45;go_upto_region 1 with (fail)
     change Code.wp _ _ _ _ (w.alloc (.cells Z 45));rw [← Ah];clear Ah;go_upto_region 5 with (first
      | (go_at_call 16;refine Dl.out.mono ?_;rintro e1 w1 ⟨v1,rfl,FD,DH,Cf⟩;obtain ⟨q1,c1,Ew,EF⟩:=Lx.out _ _ FD.out;subst Ew;rw [ET.out];have Ai:=qh EF;have BO:=qh (BQ.out _ Cf.out);clear EF)
      | (go_at_call 86;refine (Cb.out _ _ _ _ BO.out rfl Ai.out).mono ?_;rintro e2 w2 ⟨u2,m2,d2,rfl,AP,AA,Ar,Al⟩;have Aj:=qh Al;have Bw:=qh AP;clear Al AP))
     obtain ⟨w3,AH⟩:∃ y,y=w2.alloc (SO kk ee nn aa u2 m2 d2):=⟨_,rfl⟩;have Ao:Hid (qw w1 w3):=by rw [AH];exact Aj.out.alloc Aj.out.size _
     have AY:Hid (Bs w3 u2 d2 L):=by rw [AH];exact Ar.out.av (qb w2 _)
     have Au:Hid (cA w3 w2.heap.size kk ee nn aa u2 m2 d2):=by rw [AH];exact cA.new w2 _ _ _ _ _ _ _
     have Iy:Hid (w2.heap.size<w3.heap.size):=Au.out.lt;change Code.wp _ _ _ _ (w2.alloc (SO kk ee nn aa u2 m2 d2));rw [← AH];clear AH Ai AA Ar Cb Dl;generalize w2.heap.size=gs at *;obtain ⟨A,eA,Cj,CU,DB⟩:=IP.out AY.out.bat.1;have Aw:=qh Cj;have An:=qh CU;have HH:=qh (fun y=>ID.out y AY.out.bat.1);have Bb:=qh (fun y (hy:qw w3 y)=>A8.out y u2 m2 d2 Bw.out (AY.out.av hy));unfold eJ at Bb;rw [eA] at Bb HH;clear IP Cj CU A8 ID;rw [Ef.out] at Bb;clear Ef;generalize (Rg.gt L).ep=ep at *;have c4:=Au.out.c4;go_upto_region 8 with (first
      | (go_at_call 54;refine (Bb.out _ (Below.refl _ _)).mono ?_;rintro e4 w4 ⟨rfl,Av⟩)
      | ((with_reducible refine ak _ _ _ _ _ _ _ ?_ ?_ (heap_alloc_new _ _) (ae Tryz.ah Aw) ?_ An.out ?_);(exact rfl);(exact rfl);(rw [Aw.out,AB.out]);intro w5 G5 AZ))
     have Ay:Hid (qw w3 w5):=AZ.below (Av.out.alloc Av.out.size _) Av.out.size;have Br:Hid (qw w1 w5):=Ao.out.trans (Ay.out.mono Ao.out.size);have R5:Hid (∀ y,qw w5 y→y.heap[w4.heap.size]?=qo A 45):=fun y hy=>(hy.block _ (lt_of_block G5)).trans G5;have c1:=(Au.out.av Ay.out).c1;have c2:=DB _ _ _ G5;clear AZ Av Bb c4;generalize w4.heap.size=gr at *;go_wp2_with (first
      | ((with_reducible refine bT _ _ Ee.out ?_))
      | ((with_reducible refine ak _ _ _ _ _ _ _ ?_ ?_ (ED.out _ _ Cf.out Br.out) (ae Tryz.ah AB) ?_ Cn.out ?_);(exact rfl);(exact rfl);(exact rfl);intro w9 G9 AW))
     refine bodyPost_ret (results_cell_tmp rfl _ _ w.heap.size 45 Z (0,0) _ rfl G9 underlying45 rfl (ae Tryz.ah AB)) rfl (HF.out w1 _ _ _ _ DH.out Cf.out Br.out AW (by rw [HN.out,Lq.out]) (by rw [HN.out];rfl))
    case pos =>
     have Ef:=qh h2;have Fo:=qh h3;by_cases h4:Rg.home (Rg.gt L)=at_
     case neg =>
      have HN:Hid (Rg.hd m at_ G=none):=by show _=_;rw [Cs];exact Rg.aic rfl h2 h3 h4
      have AJ:(Rg.home (Rg.gt L) != at_)=true:=by simpa using h4
      have Qv:(ee != ee)=false:=by simp
      clear Cs j6 h2 Fq h3 h4;go_enter func45,ntmps45;go_upto_region 1 with (fail)
      change Code.wp _ _ _ _ (w.alloc (.cells Z 45));rw [← Ah];clear Ah;go_upto_region 5 with (first
       | (go_at_call 16;refine Dl.out.mono ?_;rintro e1 w1 ⟨v1,rfl,FD,DH,Cf⟩;obtain ⟨q1,c1,Ew,EF⟩:=Lx.out _ _ FD.out;subst Ew;rw [ET.out];have Ai:=qh EF;have BO:=qh (BQ.out _ Cf.out);clear EF)
       | (go_at_call 86;refine (Cb.out _ _ _ _ BO.out rfl Ai.out).mono ?_;rintro e2 w2 ⟨u2,m2,d2,rfl,AP,AA,Ar,Al⟩;have Aj:=qh Al;have Bw:=qh AP;clear Al AP))
      obtain ⟨w3,AH⟩:∃ y,y=w2.alloc (SO kk ee nn aa u2 m2 d2):=⟨_,rfl⟩;have Ao:Hid (qw w1 w3):=by rw [AH];exact Aj.out.alloc Aj.out.size _
      have AY:Hid (Bs w3 u2 d2 L):=by rw [AH];exact Ar.out.av (qb w2 _)
      have Au:Hid (cA w3 w2.heap.size kk ee nn aa u2 m2 d2):=by rw [AH];exact cA.new w2 _ _ _ _ _ _ _
      have Iy:Hid (w2.heap.size<w3.heap.size):=Au.out.lt;change Code.wp _ _ _ _ (w2.alloc (SO kk ee nn aa u2 m2 d2));rw [← AH];clear AH Ai AA Ar Cb Dl;generalize w2.heap.size=gs at *;obtain ⟨A,eA,Cj,CU,DB⟩:=IP.out AY.out.bat.1;have Aw:=qh Cj;have An:=qh CU;have HH:=qh (fun y=>ID.out y AY.out.bat.1);have Bb:=qh (fun y (hy:qw w3 y)=>A8.out y u2 m2 d2 Bw.out (AY.out.av hy));unfold eJ at Bb;rw [eA] at Bb HH;clear IP Cj CU A8 ID;rw [Ef.out] at Bb;rw [Fo.out] at DB;clear Ef Fo;generalize Rg.home (Rg.gt L)=J6 at *;have c4:=Au.out.c4;go_upto_region 8 with (first
       | (go_at_call 54;refine (Bb.out _ (Below.refl _ _)).mono ?_;rintro e4 w4 ⟨rfl,Av⟩)
       | ((with_reducible refine ak _ _ _ _ _ _ _ ?_ ?_ (heap_alloc_new _ _) (ae Tryz.ah Aw) ?_ An.out ?_);(exact rfl);(exact rfl);(rw [Aw.out,AB.out]);intro w5 G5 AZ))
      have Ay:Hid (qw w3 w5):=AZ.below (Av.out.alloc Av.out.size _) Av.out.size;have Br:Hid (qw w1 w5):=Ao.out.trans (Ay.out.mono Ao.out.size);have R5:Hid (∀ y,qw w5 y→y.heap[w4.heap.size]?=qo A 45):=fun y hy=>(hy.block _ (lt_of_block G5)).trans G5;have c1:=(Au.out.av Ay.out).c1;have c2:=DB _ _ _ G5;clear AZ Av Bb c4;generalize w4.heap.size=gr at *;go_wp2_with (first
       | ((with_reducible refine gL _ _ _ _ _ _ _ ?_ ?_ G5.out underlying45 ?_ (ae Tryz.ah Aw) ?_);(exact rfl);(exact rfl);(exact rfl))
       | (go_at_call 66;refine (HH.out _).mono ?_;rintro e6 w6 ⟨rfl,BJ⟩;have AU:=qh (Br.out.trans (BJ.mono Br.out.size));have R6:=qh (R5.out _ BJ);clear BJ)
       | ((with_reducible refine bT _ _ Ee.out ?_))
       | ((with_reducible refine ak _ _ _ _ _ _ _ ?_ ?_ (ED.out _ _ Cf.out AU.out) (ae Tryz.ah AB) ?_ Cn.out ?_);(exact rfl);(exact rfl);(exact rfl);intro w9 G9 AW))
      refine bodyPost_ret (results_cell_tmp rfl _ _ w.heap.size 45 Z (0,0) _ rfl G9 underlying45 rfl (ae Tryz.ah AB)) rfl (HF.out w1 _ _ _ _ DH.out Cf.out AU.out AW (by rw [HN.out,Lq.out]) (by rw [HN.out];rfl))
     case pos =>
      have HN:Hid (Rg.hd m at_ G=some (Rg.gt L)):=by show _=_;rw [Cs];exact Rg.agd rfl h2 h3 h4
      have HV:Hid (RVo (Rg.hd m at_ G)=RV (Rg.gt L)):=Fq.out _ HN.out;have Hy:=qh h4;have Qv:(ee != ee)=false:=by simp
      have LM:(at_ != at_)=false:=by simp
      clear Cs j6 h2 Fq h3 h4;go_enter func45,ntmps45;go_upto_region 1 with (fail)
      change Code.wp _ _ _ _ (w.alloc (.cells Z 45));rw [← Ah];clear Ah;go_upto_region 5 with (first
       | (go_at_call 16;refine Dl.out.mono ?_;rintro e1 w1 ⟨v1,rfl,FD,DH,Cf⟩;obtain ⟨q1,c1,Ew,EF⟩:=Lx.out _ _ FD.out;subst Ew;rw [ET.out];have Ai:=qh EF;have BO:=qh (BQ.out _ Cf.out);clear EF)
       | (go_at_call 86;refine (Cb.out _ _ _ _ BO.out rfl Ai.out).mono ?_;rintro e2 w2 ⟨u2,m2,d2,rfl,AP,AA,Ar,Al⟩;have Aj:=qh Al;have Bw:=qh AP;clear Al AP))
      obtain ⟨w3,AH⟩:∃ y,y=w2.alloc (SO kk ee nn aa u2 m2 d2):=⟨_,rfl⟩;have Ao:Hid (qw w1 w3):=by rw [AH];exact Aj.out.alloc Aj.out.size _
      have AY:Hid (Bs w3 u2 d2 L):=by rw [AH];exact Ar.out.av (qb w2 _)
      have Au:Hid (cA w3 w2.heap.size kk ee nn aa u2 m2 d2):=by rw [AH];exact cA.new w2 _ _ _ _ _ _ _
      have Iy:Hid (w2.heap.size<w3.heap.size):=Au.out.lt;change Code.wp _ _ _ _ (w2.alloc (SO kk ee nn aa u2 m2 d2));rw [← AH];clear AH Ai AA Ar Cb Dl;generalize w2.heap.size=gs at *;obtain ⟨A,eA,Cj,CU,DB⟩:=IP.out AY.out.bat.1;have Aw:=qh Cj;have An:=qh CU;have HH:=qh (fun y=>ID.out y AY.out.bat.1);have Bb:=qh (fun y (hy:qw w3 y)=>A8.out y u2 m2 d2 Bw.out (AY.out.av hy));unfold eJ at Bb;rw [eA] at Bb HH;clear IP Cj CU A8 ID;rw [Ef.out] at Bb;rw [Fo.out] at DB;rw [Hy.out] at HH;rw [eA] at HV;clear Ef Fo Hy;have c4:=Au.out.c4;go_upto_region 8 with (first
       | (go_at_call 54;refine (Bb.out _ (Below.refl _ _)).mono ?_;rintro e4 w4 ⟨rfl,Av⟩)
       | ((with_reducible refine ak _ _ _ _ _ _ _ ?_ ?_ (heap_alloc_new _ _) (ae Tryz.ah Aw) ?_ An.out ?_);(exact rfl);(exact rfl);(rw [Aw.out,AB.out]);intro w5 G5 AZ))
      have Ay:Hid (qw w3 w5):=AZ.below (Av.out.alloc Av.out.size _) Av.out.size;have Br:Hid (qw w1 w5):=Ao.out.trans (Ay.out.mono Ao.out.size);have R5:Hid (∀ y,qw w5 y→y.heap[w4.heap.size]?=qo A 45):=fun y hy=>(hy.block _ (lt_of_block G5)).trans G5;have c1:=(Au.out.av Ay.out).c1;have c2:=DB _ _ _ G5;clear AZ Av Bb c4;generalize w4.heap.size=gr at *;go_wp2_with (first
       | ((with_reducible refine gL _ _ _ _ _ _ _ ?_ ?_ G5.out underlying45 ?_ (ae Tryz.ah Aw) ?_);(exact rfl);(exact rfl);(exact rfl))
       | (go_at_call 66;refine (HH.out _).mono ?_;rintro e6 w6 ⟨rfl,BJ⟩;have AU:=qh (Br.out.trans (BJ.mono Br.out.size));have R6:=qh (R5.out _ BJ);clear BJ)
       | ((with_reducible refine ay _ _ _ _ _ _ _ ?_ R6.out underlying45 ?_ (ae Tryz.ah Aw) ?_);(exact rfl);(exact rfl))
       | ((with_reducible refine ak _ _ _ _ _ _ _ ?_ ?_ (ED.out _ _ Cf.out AU.out) (ae Tryz.ah Aw) ?_ An.out ?_);(exact rfl);(exact rfl);(rw [Aw.out,AB.out]);intro w9 G9 AW))
      refine bodyPost_ret (results_cell_tmp rfl _ _ w.heap.size 45 A (0,0) _ rfl G9 underlying45 rfl (ae Tryz.ah Aw)) rfl (HF.out w1 _ _ _ _ DH.out Cf.out AU.out AW (by rw [HV.out]) (by rw [HN.out];rfl))
end
section
open Go.RowKit
namespace Rg
def pF (m:Dk.M) (G:Int→List Int→Int × Sc.S) (k:Nat):Option R:=hd m ((k:Int)+1) (G ((k:Int)+1))
def nz (m:Dk.M) (G:Int→List Int→Int × Sc.S):Nat→List R
 | 0=>[]
 | k+1=>nz m G k++(pF m G k).toList
def fL (m:Dk.M):Nat→Dk.M
 | 0=>m
 | k+1=>Dk.dG (fL m k) ((k:Int)+1)
def al (m:Dk.M) (G:Int→List Int→Int × Sc.S):List R:=nz m G 2
theorem aaS (m:Dk.M) (i:Int):(Dk.dG m i).n=m.n∧(Dk.dG m i).ls=m.ls∧(Dk.dG m i).ca=m.ca∧(Dk.dG m i).wr=m.wr∧(Dk.dG m i).left=m.left∧(Dk.dG m i).down=m.down:=by
 unfold Dk.dG;split<;>exact ⟨rfl,rfl,rfl,rfl,rfl,rfl⟩
theorem ahh (m:Dk.M) (i:Int) (B:Nat) (h:∀ j,m.rd j≤B):∀ j,(Dk.dG m i).rd j≤B+1:=fun j=>by
 unfold Dk.dG;split
 ·show aZ m.rd i.toNat (m.rd i.toNat+1) j≤B+1;unfold aZ;split
  ·have:=h i.toNat;omega
  ·have:=h j;omega
 ·have:=h j;omega
theorem mV (m:Dk.M):∀ k,(fL m k).n=m.n∧(fL m k).ls=m.ls∧(fL m k).ca=m.ca∧(fL m k).wr=m.wr∧(fL m k).left=m.left∧(fL m k).down=m.down
 | 0=>⟨rfl,rfl,rfl,rfl,rfl,rfl⟩
 | k+1=>by
  obtain ⟨h1,h2,h3,h4,h5,h6⟩:=mV m k;obtain ⟨g1,g2,g3,g4,g5,g6⟩:=aaS (fL m k) ((k:Int)+1);exact ⟨g1.trans h1,g2.trans h2,g3.trans h3,g4.trans h4,g5.trans h5,g6.trans h6⟩
theorem tj (m:Dk.M) (B:Nat) (h:∀ j,m.rd j≤B):∀ k j,(fL m k).rd j≤B+k
 | 0,j=>h j
 | k+1,j=>ahh (fL m k) _ (B+k) (fun j=>tj m B h k j) j
theorem rN {m m':Dk.M} (h1:m'.n=m.n) (h2:m'.ls=m.ls) (h3:m'.ca=m.ca) (i:Int):Dk.bK m' i=Dk.bK m i∧Dk.here m' i=Dk.here m i:=by
 unfold Dk.bK Dk.here Dk.cG;rw [h1,h2,h3];exact ⟨rfl,rfl⟩
theorem xm (m:Dk.M) (k:Nat) (i:Int):Dk.bK (fL m k) i=Dk.bK m i∧Dk.here (fL m k) i=Dk.here m i:=by
 obtain ⟨h1,h2,h3,_⟩:=mV m k;exact rN h1 h2 h3 i
theorem vC {m m':Dk.M} (at_:Int) (G:List Int→Int × Sc.S) (h:Dk.bK m' at_=Dk.bK m at_∧Dk.here m' at_=Dk.here m at_):hd m' at_ G=hd m at_ G:=by
 unfold hd;rw [h.1,h.2]
theorem afn {m:Dk.M} {at_:Int} {G:List Int→Int × Sc.S} (hb:ai.aY (G (Dk.bK m at_)).2.L) {r:R} (h:hd m at_ G=some r):Ok r:=by
 cases hh:Dk.here m at_ with
 | false=>rw [ab0 G hh] at h;cases h
 | true =>
  rw [pN G hh] at h;rw [(ad1 h).2.2.2.2];exact my hb
end Rg
theorem mX {B e s n:Nat} {ks:List Nat} {y z:World} {v:Value} {xs:List Value} (h:y.ownsRow B e s v n xs) (hm:Mv ks y z) (hk:∀ k∈ks,k<B):z.ownsRow B e s v n xs:=by
 refine ⟨h.1,?_⟩;rcases h.2 with h1 | ⟨g,cap,cur,h1,h2,h3,h4⟩
 ·exact Or.inl h1
 ·exact Or.inr ⟨g,cap,cur,h1,h2,(hm.block g (lt_of_block h3) (fun q=>by have:=hk g q;omega)).trans h3,h4⟩
theorem zz {ks:List Nat} {w y z:World} (h:Mv ks w y) (hb:Below w.heap.size y z):Mv ks w z :=
 ⟨hb.os.trans h.os,hb.tape.trans h.tape,hb.output.trans h.output,Nat.le_trans h.size hb.size,fun k hk hn=>(hb.block k hk).trans (h.block k hk hn)⟩
def afb (L:List Rg.R) (T:Nat→Prop) (d lb rb cb:Nat) (m':Dk.M) (w:World) (e:Ending) (w':World):Prop :=
 ∃ v,e = .returned v∧Hid (nF w.heap.size w' v L)∧Hid (∀ x∈L,Rg.Ok x)∧Hid (aJ w' T d lb rb cb m')∧Hid (Mv [d,lb,rb,cb] w w')
theorem xc (TT:TypeId) (vv:Value) (G:Int→List Int→Int × Sc.S) {T:Nat→Prop} {d lb rb cb:Nat} {m:Dk.M} (w:World) (hd:aJ w T d lb rb cb m) (CA:∀ j,m.rd j≤999999990)
  (j6:∀ k:Nat,k<2→(G ((k:Int)+1) (Dk.bK m ((k:Int)+1))).2.L.length≤900000)
  (sY:∀ k:Nat,k<2→ai.aY (G ((k:Int)+1) (Dk.bK m ((k:Int)+1))).2.L)
  (hget:∀ k:Nat,k<2→∀ y q n c,Mv [d,lb,rb,cb] w y→(Dk.bK m ((k:Int)+1)).length=n→Bs y q c (Dk.bK m ((k:Int)+1))→qc 86 #[.iface TT vv,.int .i64 2,.int .i64 ((k:Int)+1),.slice q n c] y (nj (G ((k:Int)+1) (Dk.bK m ((k:Int)+1))) y)) :
  qc 14 #[qp d,.iface TT vv] w (afb (Rg.al m G) T d lb rb cb (Rg.fL m 2) w):=by
 have HC:Hid (∀ k:Nat,k<2→∀ y,aJ y T d lb rb cb (Rg.fL m k)→Mv [d,lb,rb,cb] w y→qc 45 #[qp d,.iface TT vv,.int .i64 ((k:Int)+1)] y (sn (Rg.pF m G k) T d lb rb cb (Rg.fL m (k+1)) y)):=fun k hk y hy hm=>by
  have hx:=Rg.xm m k ((k:Int)+1);have h:=aal TT vv ((k:Int)+1) (G ((k:Int)+1)) y hy (fun j=>Nat.le_trans (Rg.tj m 999999990 CA k j) (by omega)) (by rw [hx.1];exact j6 k hk) (fun z q n c hz hn hb=>by
   rw [hx.1] at hn hb ⊢;exact hget k hk z q n c (hm.trans hz) hn hb)
  rw [Rg.vC ((k:Int)+1) (G ((k:Int)+1)) hx] at h;exact h
 have HO:Hid (∀ k:Nat,k<2→∀ r,Rg.pF m G k=some r→Rg.Ok r):=fun k hk r hr=>Rg.afn (sY k hk) hr;have Db:Hid (∀ k,Rg.nz m G (k+1)=Rg.nz m G k++(Rg.pF m G k).toList):=fun k=>rfl;have KJ:Hid (Rg.al m G=Rg.nz m G 2):=rfl;have Bf:Hid (Rg.nz m G 0 = []):=rfl;have AD:Hid (∀ k:Nat,k≤2→(∀ x∈Rg.nz m G k,Rg.Ok x)∧(Rg.nz m G k).length≤k):=fun k=>by
  induction k with
  | zero=>exact fun _=>⟨fun x hx=>(by cases hx),Nat.le_refl _⟩
  | succ k ih =>
   intro hk;obtain ⟨h1,h2⟩:=ih (by omega);rw [Db.out];cases q:Rg.pF m G k with
   | none=>simp only [Option.toList_none,List.append_nil];exact ⟨h1,by omega⟩
   | some r =>
    simp only [Option.toList_some];refine ⟨Rg.uJ h1 (fun x hx=>by rw [List.mem_singleton] at hx;rw [hx];exact HO.out k (by omega) r q),?_⟩;rw [List.length_append,List.length_singleton];omega
 have Jo:Hid (aJ w T d lb rb cb (Rg.fL m 0)):=hd;have M0:Hid (∀ k,T k→k<w.heap.size):=hd.top;have EC:Hid (∀ k∈[d,lb,rb,cb],k<w.heap.size):=fun k hk=>by
  simp only [List.mem_cons,List.not_mem_nil,or_false] at hk;rcases hk with rfl | rfl | rfl | rfl
  ·exact hd.top _ hd.lt.1
  ·exact hd.top _ hd.lt.2.1
  ·exact hd.top _ hd.lt.2.2.1
  ·exact hd.top _ hd.lt.2.2.2
 rw [KJ.out];clear j6 sY hget CA hd KJ;generalize Rg.nz m G=LL at *;generalize Rg.pF m G=HH at *;generalize Rg.fL m=MM at *;obtain ⟨Z,hZ⟩:∃ Z,Hid ((cv Rg.zero).toArray=Z):=⟨_,rfl⟩;have AB:Hid (Z.size=136):=by show _=_;rw [← hZ.out,List.size_toArray,dr Rg.bw]
 have hz:=(zero_of_info Tryz.dN).1;rw [hZ.out] at hz;have GV:¬ Z = #[]:=fun h=>by have:=AB.out;rw [h] at this;simp at this
 have Bj:=ae Tryz.ah AB;have Qk:Hid (br Rg.zero=Z):=hZ.out;go_enter func14,ntmps14;go_wp2;go_loopw [5,6] (fun v5 v6 wr=>∃ k:Nat,k≤2∧v6 = .int .i64 ((k:Int)+1)∧Hid (nF w.heap.size wr v5 (LL k))∧Hid (aJ wr T d lb rb cb (MM k))∧Hid (Mv [d,lb,rb,cb] w wr)) (fun _ v6 _=>4-(intOf v6).toNat)
 case atStart=>exact ⟨0,by omega,rfl,by rw [Bf.out];exact wI _ _,Jo.out,Mv.refl _ _⟩
 case round =>
  obtain ⟨k,hk,rfl,Ax,Dt,BO⟩:=hrel;by_cases Ae:k<2
  ·have hle:(k:Int)+1≤2:=by omega
   have HK:=qh (HC.out k Ae wr Dt.out BO.out);have GI:=qh (Db.out k);have BH:=qh (HO.out k Ae);have AV:=qh (AD.out k hk);cases hq:HH k with
   | none =>
    rw [hq] at HK GI;have HV:Hid (RVo none = .agg Z):=by show _=_;unfold RVo;rw [← Qk.out,← cM];rfl
    have Cn:Hid (Z.all (·.oneCell')=true):=by show _=_;rw [← Qk.out];exact dm _
    unfold sn at HK;rw [HV.out] at HK;clear HC HO AD Db hq;go_wp2_with (first
     | (go_at_call 45;refine HK.out.mono ?_;rintro e1 w1 ⟨rfl,AL,AX⟩)
     | ((with_reducible refine ak _ _ _ _ _ _ _ ?_ ?_ (heap_alloc_new _ _) (ae Tryz.ah AB) ?_ Cn.out ?_);(exact rfl);(exact rfl);(exact rfl);intro w2 G2 BB))
    have Aj:Hid (qw w1 w2):=BB.below (qb w1 _) qn;exact ⟨⟨k+1,by omega,by go_num,by rw [GI.out];simp only [Option.toList_none,List.append_nil];exact (mX Ax.out AX.out EC.out |> fun h=>aN h Aj.out),AL.out.av Aj.out,(BO.out.trans AX.out).trans (Mv.aB Aj.out)⟩,by simp [intOf];omega⟩
   | some r =>
    rw [hq] at HK GI;have CB:Hid (Rg.Ok r):=BH.out r hq;have HV:Hid (RVo (some r) = .agg (br r)):=by show _=_;unfold RVo;rw [← cM];rfl
    have An:Hid ((br r).all (·.oneCell')=true):=dm _;have Kg:=qh (iQ CB.out);have Aw:Hid ((br r).size=136):=aA CB.out;unfold sn at HK;rw [HV.out] at HK;clear HC HO AD Db hq BH;obtain ⟨N,hN⟩:∃ N,(LL k).length=N:=⟨_,rfl⟩;have EY:Hid (N≤100000):=by have:=AV.out.2;show _≤_;omega
    have FU:=qh hN;clear hN;go_upto_region 7 with (first
     | (go_at_call 45;refine HK.out.mono ?_;rintro e1 w1 ⟨rfl,AL,AX⟩)
     | ((with_reducible refine ak _ _ _ _ _ _ _ ?_ ?_ (heap_alloc_new _ _) (ae Tryz.ah Aw) ?_ An.out ?_);(exact rfl);(exact rfl);(rw [Aw.out,AB.out]);intro w2 G2 BB))
    have Aj:Hid (qw w1 w2):=BB.below (qb w1 _) qn;have AA:Hid (nF w.heap.size w2 u5 (LL k)):=aN (mX Ax.out AX.out EC.out) Aj.out;have Fs:Hid (w.heap.size≤w2.heap.size):=Nat.le_trans (Nat.le_trans BO.out.size AX.out.size) Aj.out.size;go_wp2_with (first
     | ((with_reducible refine ay _ _ _ _ _ _ _ ?_ G2.out underlying45 ?_ Kg.out ?_);(exact rfl);(exact rfl))
     | ((with_reducible refine ace _ r CB.out ?_ ?_);(exact rfl))
     | ((with_reducible refine aaW _ _ w.heap.size _ (LL k) r ?_ ?_ AA.out AV.out.1 CB.out N FU.out EY.out Fs.out ?_);(exact rfl);(exact rfl);intro q1 d1 w3 O3 K3 _))
    have Ao:Hid (Below w.heap.size w2 w3):=K3;exact ⟨⟨k+1,by omega,by go_num,by rw [GI.out];simp only [Option.toList_some];exact O3.out,(AL.out.av Aj.out).below Ao.out M0.out,zz ((BO.out.trans AX.out).trans (Mv.aB Aj.out)) Ao.out⟩,by simp [intOf];omega⟩
  ·have E:k=2:=by omega
   subst E;have Bc:¬ ((2:Nat):Int)+1≤2:=by omega
   clear Ae;go_wp2;go_ret;exact ⟨_,rfl,Ax,(AD.out 2 (by omega)).1,Dt,BO⟩
end
end Go.Proofs.YthgjfjmampmiiaaGreatDoor

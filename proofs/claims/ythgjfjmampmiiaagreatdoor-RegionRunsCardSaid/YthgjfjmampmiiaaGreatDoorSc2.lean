/-
  ScC, ScD (merged)
-/
import Derived.Test.YthgjfjmampmiiaaGreatDoorSc1
namespace Go.Proofs.YthgjfjmampmiiaaGreatDoor
open Go.Proofs.Tryz
set_option maxHeartbeats 2000000
set_option maxRecDepth 100000
section
open Go.RowKit
def aaj (n:Int) (w:World) (r:Ending) (w':World):Prop:=r = .returned (.tuple #[.slice none 0 0,.int .i64 n])∧qw w w'
def Sc.er (k e n a:Int) (m:Nat):Int:=if Sc.fv k then (if Sc.gh e n a then (if 975<m then 3 else 0) else 7) else 5
attribute [irreducible] Sc.er
theorem ab8 (T:TypeId) (v:Value) (k e n a:Int) (p:Option Addr) (m c:Nat) (h:Sc.er k e n a m ≠ 0) (w:World) :
  qc 67 #[.iface T v,SV k e n a p m c] w (aaj (Sc.er k e n a m) w):=by
 have B0:Hid (qw w (w.alloc (SO k e n a p m c))):=qb w _;have HS:Hid (∀ y,Below (w.alloc (SO k e n a p m c)).heap.size (w.alloc (SO k e n a p m c)) y→cA y w.heap.size k e n a p m c):=fun y hy=>(cA.new w k e n a p m c).av hy;have HI:Hid (∀ x,qc 110 #[.int .i64 k] x fun r x'=>r = .returned (.bool (Sc.fv k))∧x'=x):=fun x=>dA k x;have HP:Hid (∀ x,qc 111 #[SV k e n a p m c] x fun r x'=>r = .returned (.bool (Sc.gh e n a))∧qw x x'):=fun x=>dD k e n a p m c x;unfold Sc.er at h ⊢;cases hk:Sc.fv k with
 | false =>
  rw [hk] at HI;rw [if_neg (by simp)];go_enter func67,ntmps67;go_upto_region 1 with (fail)
  change Code.wp _ _ _ _ (w.alloc (SO k e n a p m c));obtain ⟨w0,Ah⟩:∃ x,x=w.alloc (SO k e n a p m c):=⟨_,rfl⟩;rw [← Ah] at B0 HS ⊢;clear Ah;have d0:=(HS.out _ (Below.refl _ _)).c0;go_wp2_with (go_at_call 110;refine (HI.out _).mono ?_;rintro e1 w1 ⟨rfl,rfl⟩)
  go_ret2;exact ⟨rfl,B0.out⟩
 | true =>
  rw [hk] at HI h;rw [if_pos rfl] at h ⊢;cases hp:Sc.gh e n a with
  | false =>
   rw [hp] at HP;rw [if_neg (by simp)];go_enter func67,ntmps67;go_upto_region 1 with (fail)
   change Code.wp _ _ _ _ (w.alloc (SO k e n a p m c));obtain ⟨w0,Ah⟩:∃ x,x=w.alloc (SO k e n a p m c):=⟨_,rfl⟩;rw [← Ah] at B0 HS ⊢;clear Ah;obtain ⟨d0,d1,d2,d3,d4⟩:=(fun (s:cA w0 w.heap.size k e n a p m c)=>(⟨s.c0,s.c1,s.c2,s.c3,s.c4⟩:_∧_∧_∧_∧_)) (HS.out _ (Below.refl _ _));go_wp2_with (first
    | (go_at_call 110;refine (HI.out _).mono ?_;rintro e1 w1 ⟨rfl,rfl⟩)
    | (go_at_call 111;refine (HP.out _).mono ?_;rintro e2 w2 ⟨rfl,Al⟩))
   go_ret2;exact ⟨rfl,B0.out.trans (Al.mono B0.out.size)⟩
  | true =>
   rw [hp] at HP h;rw [if_pos rfl] at h ⊢;have hm:975<m:=by
    by_cases q:975<m
    ·exact q
    ·rw [if_neg q] at h;exact absurd rfl h
   rw [if_pos hm];have AP:(m:Int)>975:=by omega
   go_enter func67,ntmps67;go_upto_region 1 with (fail)
   change Code.wp _ _ _ _ (w.alloc (SO k e n a p m c));obtain ⟨w0,Ah⟩:∃ x,x=w.alloc (SO k e n a p m c):=⟨_,rfl⟩;rw [← Ah] at B0 HS ⊢;clear Ah;obtain ⟨d0,d1,d2,d3,d4⟩:=(fun (s:cA w0 w.heap.size k e n a p m c)=>(⟨s.c0,s.c1,s.c2,s.c3,s.c4⟩:_∧_∧_∧_∧_)) (HS.out _ (Below.refl _ _));go_wp2_with (first
    | (go_at_call 110;refine (HI.out _).mono ?_;rintro e1 w1 ⟨rfl,rfl⟩)
    | (go_at_call 111;refine (HP.out _).mono ?_;rintro e2 w2 ⟨rfl,Al⟩;have q4:=(HS.out _ Al).c4))
   go_ret2;exact ⟨rfl,B0.out.trans (Al.mono B0.out.size)⟩
def ai1 (R:List Int) (m:Nat) (w:World) (F:World→Prop) (r:Ending) (w':World):Prop :=
 ∃ u d,r = .returned (.tuple #[.slice u m d,.int .i64 0])∧Hid (w'.ownsRow w.heap.size 5 1 (.slice u m d) m (aC R))∧Hid (Bs w' u d R)∧Hid (F w')
theorem adG (v:Value) (w:World):(method 370 33 v "Seal").run prog w = .ok (216,v) w:=by kernel_rfl
theorem adX (a:Addr) (w:World):(nilAhead 370 33 (.pointer (some a)) "Seal").run prog w = .ok (some false) w:=by kernel_rfl
theorem adf (g:Addr) (k e n a:Int) (p:Option Addr) (m c ns mt:Nat) (hk:Sc.fv k=true) (hp:Sc.gh e n a=true) (hl:m≤975) (w:World)
  (S:List Int) (hS:S.length=ns) (Eu:ns≤2000) (Mc:17+ns=mt) (Q:World→World→Prop) (F:World→Prop)
  (hsl:∀ y q d,qw w y→Bs y q d (Sc.mk k a)→qc 216 #[.pointer (some g),.int .i64 e,.int .i64 n,.slice q 9 d,.slice p m c] y fun r y'=>∃ u d',r = .returned (.slice u ns d')∧Hid (Bs y' u d' S)∧Hid (Q y y'))
  (hq:∀ y y' q d R r,qw w y→R.length=r→y.ownsRow w.heap.size 5 1 (.slice q r d) r (aC R)→Bs y q d R→Q y y'→Bs y' q d R)
  (hqc:∀ y y' i v,qw w y→Q y y'→y.cell? ⟨w.heap.size,i,none⟩=some v→y'.cell? ⟨w.heap.size,i,none⟩=some v)
  (hqs:∀ y y',Q y y'→y.heap.size≤y'.heap.size)
  (hf:∀ y y' z,qw w y→Q y y'→Below y'.heap.size y' z→F z) :
  qc 67 #[.iface 33 (.pointer (some g)),SV k e n a p m c] w (ai1 (Sc.fr k e n++S) mt w F):=by
 have Ed:=Sc.cW.1 hk;have B0:Hid (qw w (w.alloc (SO k e n a p m c))):=qb w _;have HS:Hid (∀ y,Below (w.alloc (SO k e n a p m c)).heap.size (w.alloc (SO k e n a p m c)) y→cA y w.heap.size k e n a p m c):=fun y hy=>(cA.new w k e n a p m c).av hy;have HI:Hid (∀ x,qc 110 #[.int .i64 k] x fun r x'=>r = .returned (.bool true)∧x=x'):=fun x=>by have h:=dA k x;rw [hk] at h;exact h.mono fun _ _ q=>⟨q.1,q.2.symm⟩
 have HP:Hid (∀ x,qc 111 #[SV k e n a p m c] x fun r x'=>r = .returned (.bool true)∧qw x x'):=fun x=>by have h:=dD k e n a p m c x;rw [hp] at h;exact h
 have BO:Hid (∀ x,qc 112 #[.int .i64 k,.int .i64 e] x (aX (Sc.mk k e) 9 x)):=fun x=>eh k e (by omega) x;have AX:Hid (∀ x,qc 112 #[.int .i64 k,.int .i64 a] x (aX (Sc.mk k a) 9 x)):=fun x=>eh k a (by omega) x;have Eg:Hid (∀ x q d,Bs x q d (Sc.mk k e)→qc 60 #[.slice q 9 d,.int .i64 n] x (aX (Sc.fr k e n) 17 x)):=fun x q d h=>by
  have h2:=dU (Sc.mk k e) n q 9 d 17 (Sc.fH k e) rfl (by omega) x h;unfold Sc.fr;exact h2
 have GJ:=qh hsl;clear hsl;have HQ:=qh hq;clear hq;have Fa:=qh hqc;clear hqc;have Lm:=qh hqs;clear hqs;have HF:=qh hf;clear hf;have Km:Hid ((Sc.fr k e n).length=17):=Sc.dB k e n;have Db:=qh hS;clear hS;have K7:=qh Mc;clear Mc;have AP:¬ ((m:Int)>975):=by omega
 have ms:=adG;have mn:=adX;clear hk hp Ed;generalize Sc.fr k e n=FR at *;generalize Sc.mk k e=M1 at *;generalize Sc.mk k a=M2 at *;go_enter func67,ntmps67;go_upto_region 1 with (fail)
 change Code.wp _ _ _ _ (w.alloc (SO k e n a p m c));obtain ⟨w0,Ah⟩:∃ x,x=w.alloc (SO k e n a p m c):=⟨_,rfl⟩;rw [← Ah] at B0 HS ⊢;clear Ah;obtain ⟨d0,d1,d2,d3,d4⟩:=(fun (s:cA w0 w.heap.size k e n a p m c)=>(⟨s.c0,s.c1,s.c2,s.c3,s.c4⟩:_∧_∧_∧_∧_)) (HS.out _ (Below.refl _ _));go_upto_region 7 with (first
  | (go_at_call 110;refine (HI.out _).mono ?_;rintro e1 w1 ⟨rfl,rfl⟩)
  | (go_at_call 111;refine (HP.out _).mono ?_;rintro e2 w2 ⟨rfl,Al⟩;have q4:=(HS.out _ Al).c4))
 have B2:Hid (qw w0 w2):=Al;have B2d:Hid (qw w0 w2.drew):=Al.drew;clear Al q4 d0 d1 d2 d3 d4;have HK:Hid (∀ y,qw w0 y→y.cell? ⟨w.heap.size,0,none⟩=some (.int .i64 k)∧y.cell? ⟨w.heap.size,1,none⟩=some (.int .i64 e)∧y.cell? ⟨w.heap.size,2,none⟩=some (.int .i64 n)):=fun y hy=>⟨(HS.out y hy).c0,(HS.out y hy).c1,(HS.out y hy).c2⟩;go_region_held3 (fun y=>y.cell? ⟨w.heap.size,0,none⟩=some (.int .i64 k)∧y.cell? ⟨w.heap.size,1,none⟩=some (.int .i64 e)∧y.cell? ⟨w.heap.size,2,none⟩=some (.int .i64 n))
  (exact HK.out _ (Hid.out (by assumption)))
  ((first
   | (go_at_call 112;refine (BO.out _).mono ?_;rintro e3 w3 ⟨p3,c3,rfl,O3,H3,b3⟩;have B3:Hid (qw w0 w3):=Below.trans (Hid.out (by assumption)) (b3.out.mono (Below.size (Hid.out (by assumption)))))
   | (go_at_call 60;refine (Eg.out _ _ _ H3.out).mono ?_;rintro e4 w4 ⟨p4,c4,rfl,O4,H4,b4⟩;have B4:Hid (qw w0 w4):=B3.out.trans (b4.out.mono B3.out.size))))
 all_goals
  have OF4:Hid (w4.ownsRow w.heap.size 5 1 (.slice p4 17 c4) 17 (aC FR)):=bQ O4.out (by have:=B3.out.size;have:=B0.out.size;omega);have B4d:Hid (qw w0 w4.drew):=B4.out.drew;have A9:Hid (∀ y,qw w0 y→y.cell? ⟨w.heap.size,0,none⟩=some (.int .i64 k)∧y.cell? ⟨w.heap.size,1,none⟩=some (.int .i64 e)∧y.cell? ⟨w.heap.size,2,none⟩=some (.int .i64 n)∧y.cell? ⟨w.heap.size,3,none⟩=some (.int .i64 a)∧y.cell? ⟨w.heap.size,4,none⟩=some (.slice p m c)):=fun y hy=>⟨(HS.out y hy).c0,(HS.out y hy).c1,(HS.out y hy).c2,(HS.out y hy).c3,(HS.out y hy).c4⟩;clear HK B2 B2d B3 b4 O4 O3 H3;go_upto_region 8 with (fail)
  go_region_held3 (fun y=>y.cell? ⟨w.heap.size,0,none⟩=some (.int .i64 k)∧y.cell? ⟨w.heap.size,1,none⟩=some (.int .i64 e)∧y.cell? ⟨w.heap.size,2,none⟩=some (.int .i64 n)∧y.cell? ⟨w.heap.size,3,none⟩=some (.int .i64 a)∧y.cell? ⟨w.heap.size,4,none⟩=some (.slice p m c))
   (first | exact A9.out _ (Hid.out (by assumption)) | exact Hid.out (by assumption))
   ((first
    | (go_at_call 112;refine (AX.out _).mono ?_;rintro e5 w5 ⟨p5,c5,rfl,O5,H5,b5⟩;have B5:Hid (qw w0 w5):=B4d.out.trans (b5.out.mono B4d.out.size);have G5:Hid (qw w4 w5):=(Below.refl _ w4).drew.trans b5.out)
    | (go_at_call 216;refine (GJ.out _ _ _ (B0.out.trans (B5.out.mono B0.out.size)) H5.out).mono ?_;rintro e6 w6 ⟨u6,d6,rfl,H6,Q6⟩;have S6:Hid (w6.cell? ⟨w.heap.size,0,none⟩=some (.int .i64 k)∧w6.cell? ⟨w.heap.size,1,none⟩=some (.int .i64 e)∧w6.cell? ⟨w.heap.size,2,none⟩=some (.int .i64 n)∧w6.cell? ⟨w.heap.size,3,none⟩=some (.int .i64 a)∧w6.cell? ⟨w.heap.size,4,none⟩=some (.slice p m c)):=(fun (q:_∧_∧_∧_∧_)=>⟨Fa.out _ _ _ _ (B0.out.trans (B5.out.mono B0.out.size)) Q6.out q.1,Fa.out _ _ _ _ (B0.out.trans (B5.out.mono B0.out.size)) Q6.out q.2.1,Fa.out _ _ _ _ (B0.out.trans (B5.out.mono B0.out.size)) Q6.out q.2.2.1,Fa.out _ _ _ _ (B0.out.trans (B5.out.mono B0.out.size)) Q6.out q.2.2.2.1,Fa.out _ _ _ _ (B0.out.trans (B5.out.mono B0.out.size)) Q6.out q.2.2.2.2⟩) (A9.out _ B5.out))))
  all_goals
   have W5:Hid (qw w w5):=B0.out.trans (B5.out.mono B0.out.size);have NJ:Hid (Bs w6 p4 c4 FR):=HQ.out _ _ _ _ _ _ W5.out Km.out (aN OF4.out G5.out) (H4.out.av G5.out) Q6.out;have BA:Hid (qw w6 (w6.alloc (.cells #[.slice p4 17 c4,.slice u6 ns d6] 22))):=qb w6 _;have W6:Hid (w.heap.size≤w6.heap.size):=Nat.le_trans W5.out.size (Lm.out _ _ Q6.out);have HC:Hid (qc 109 #[.slice (some ⟨w6.heap.size,0,none⟩) 2 2] (w6.alloc (.cells #[.slice p4 17 c4,.slice u6 ns d6] 22)) (aX (FR++S) mt (w6.alloc (.cells #[.slice p4 17 c4,.slice u6 ns d6] 22)))) :=
    fB w6.heap.size p4 u6 17 ns c4 d6 FR S mt Km.out Db.out K7.out _ (heap_alloc_new w6 _) (NJ.out.av BA.out) (H6.out.av BA.out) (by have:=K7.out;omega)
   clear HS HI HP BO AX Eg GJ HQ Fa Lm A9 S6 OF4 B4d O5 H5 H4;go_wp2_with (go_at_call 109;refine HC.out.mono ?_;rintro e7 w7 ⟨p7,c7,rfl,O7,H7,b7⟩)
   go_ret2;exact ⟨p7,c7,rfl,bQ O7.out (by have:=W6.out;simp;omega),H7,HF.out _ _ _ W5.out Q6.out (BA.out.trans (b7.out.mono BA.out.size))⟩
theorem aeS (v:Value) (w:World):(method 370 66 v "Seal").run prog w = .ok (238,v) w:=by kernel_rfl
theorem ae1 (a:Addr) (w:World):(nilAhead 370 66 (.pointer (some a)) "Seal").run prog w = .ok (some false) w:=by kernel_rfl
theorem ada (g:Addr) (k e n a:Int) (p:Option Addr) (m c ns mt:Nat) (hk:Sc.fv k=true) (hp:Sc.gh e n a=true) (hl:m≤975) (w:World)
  (S:List Int) (hS:S.length=ns) (Eu:ns≤2000) (Mc:17+ns=mt) (Q:World→World→Prop) (F:World→Prop)
  (hsl:∀ y q d,qw w y→Bs y q d (Sc.mk k a)→qc 238 #[.pointer (some g),.int .i64 e,.int .i64 n,.slice q 9 d,.slice p m c] y fun r y'=>∃ u d',r = .returned (.slice u ns d')∧Hid (Bs y' u d' S)∧Hid (Q y y'))
  (hq:∀ y y' q d R r,qw w y→R.length=r→y.ownsRow w.heap.size 5 1 (.slice q r d) r (aC R)→Bs y q d R→Q y y'→Bs y' q d R)
  (hqc:∀ y y' i v,qw w y→Q y y'→y.cell? ⟨w.heap.size,i,none⟩=some v→y'.cell? ⟨w.heap.size,i,none⟩=some v)
  (hqs:∀ y y',Q y y'→y.heap.size≤y'.heap.size)
  (hf:∀ y y' z,qw w y→Q y y'→Below y'.heap.size y' z→F z) :
  qc 67 #[.iface 66 (.pointer (some g)),SV k e n a p m c] w (ai1 (Sc.fr k e n++S) mt w F):=by
 have Ed:=Sc.cW.1 hk;have B0:Hid (qw w (w.alloc (SO k e n a p m c))):=qb w _;have HS:Hid (∀ y,Below (w.alloc (SO k e n a p m c)).heap.size (w.alloc (SO k e n a p m c)) y→cA y w.heap.size k e n a p m c):=fun y hy=>(cA.new w k e n a p m c).av hy;have HI:Hid (∀ x,qc 110 #[.int .i64 k] x fun r x'=>r = .returned (.bool true)∧x=x'):=fun x=>by have h:=dA k x;rw [hk] at h;exact h.mono fun _ _ q=>⟨q.1,q.2.symm⟩
 have HP:Hid (∀ x,qc 111 #[SV k e n a p m c] x fun r x'=>r = .returned (.bool true)∧qw x x'):=fun x=>by have h:=dD k e n a p m c x;rw [hp] at h;exact h
 have BO:Hid (∀ x,qc 112 #[.int .i64 k,.int .i64 e] x (aX (Sc.mk k e) 9 x)):=fun x=>eh k e (by omega) x;have AX:Hid (∀ x,qc 112 #[.int .i64 k,.int .i64 a] x (aX (Sc.mk k a) 9 x)):=fun x=>eh k a (by omega) x;have Eg:Hid (∀ x q d,Bs x q d (Sc.mk k e)→qc 60 #[.slice q 9 d,.int .i64 n] x (aX (Sc.fr k e n) 17 x)):=fun x q d h=>by
  have h2:=dU (Sc.mk k e) n q 9 d 17 (Sc.fH k e) rfl (by omega) x h;unfold Sc.fr;exact h2
 have GJ:=qh hsl;clear hsl;have HQ:=qh hq;clear hq;have Fa:=qh hqc;clear hqc;have Lm:=qh hqs;clear hqs;have HF:=qh hf;clear hf;have Km:Hid ((Sc.fr k e n).length=17):=Sc.dB k e n;have Db:=qh hS;clear hS;have K7:=qh Mc;clear Mc;have AP:¬ ((m:Int)>975):=by omega
 have ms:=aeS;have mn:=ae1;clear hk hp Ed;generalize Sc.fr k e n=FR at *;generalize Sc.mk k e=M1 at *;generalize Sc.mk k a=M2 at *;go_enter func67,ntmps67;go_upto_region 1 with (fail)
 change Code.wp _ _ _ _ (w.alloc (SO k e n a p m c));obtain ⟨w0,Ah⟩:∃ x,x=w.alloc (SO k e n a p m c):=⟨_,rfl⟩;rw [← Ah] at B0 HS ⊢;clear Ah;obtain ⟨d0,d1,d2,d3,d4⟩:=(fun (s:cA w0 w.heap.size k e n a p m c)=>(⟨s.c0,s.c1,s.c2,s.c3,s.c4⟩:_∧_∧_∧_∧_)) (HS.out _ (Below.refl _ _));go_upto_region 7 with (first
  | (go_at_call 110;refine (HI.out _).mono ?_;rintro e1 w1 ⟨rfl,rfl⟩)
  | (go_at_call 111;refine (HP.out _).mono ?_;rintro e2 w2 ⟨rfl,Al⟩;have q4:=(HS.out _ Al).c4))
 have B2:Hid (qw w0 w2):=Al;have B2d:Hid (qw w0 w2.drew):=Al.drew;clear Al q4 d0 d1 d2 d3 d4;have HK:Hid (∀ y,qw w0 y→y.cell? ⟨w.heap.size,0,none⟩=some (.int .i64 k)∧y.cell? ⟨w.heap.size,1,none⟩=some (.int .i64 e)∧y.cell? ⟨w.heap.size,2,none⟩=some (.int .i64 n)):=fun y hy=>⟨(HS.out y hy).c0,(HS.out y hy).c1,(HS.out y hy).c2⟩;go_region_held3 (fun y=>y.cell? ⟨w.heap.size,0,none⟩=some (.int .i64 k)∧y.cell? ⟨w.heap.size,1,none⟩=some (.int .i64 e)∧y.cell? ⟨w.heap.size,2,none⟩=some (.int .i64 n))
  (exact HK.out _ (Hid.out (by assumption)))
  ((first
   | (go_at_call 112;refine (BO.out _).mono ?_;rintro e3 w3 ⟨p3,c3,rfl,O3,H3,b3⟩;have B3:Hid (qw w0 w3):=Below.trans (Hid.out (by assumption)) (b3.out.mono (Below.size (Hid.out (by assumption)))))
   | (go_at_call 60;refine (Eg.out _ _ _ H3.out).mono ?_;rintro e4 w4 ⟨p4,c4,rfl,O4,H4,b4⟩;have B4:Hid (qw w0 w4):=B3.out.trans (b4.out.mono B3.out.size))))
 all_goals
  have OF4:Hid (w4.ownsRow w.heap.size 5 1 (.slice p4 17 c4) 17 (aC FR)):=bQ O4.out (by have:=B3.out.size;have:=B0.out.size;omega);have B4d:Hid (qw w0 w4.drew):=B4.out.drew;have A9:Hid (∀ y,qw w0 y→y.cell? ⟨w.heap.size,0,none⟩=some (.int .i64 k)∧y.cell? ⟨w.heap.size,1,none⟩=some (.int .i64 e)∧y.cell? ⟨w.heap.size,2,none⟩=some (.int .i64 n)∧y.cell? ⟨w.heap.size,3,none⟩=some (.int .i64 a)∧y.cell? ⟨w.heap.size,4,none⟩=some (.slice p m c)):=fun y hy=>⟨(HS.out y hy).c0,(HS.out y hy).c1,(HS.out y hy).c2,(HS.out y hy).c3,(HS.out y hy).c4⟩;clear HK B2 B2d B3 b4 O4 O3 H3;go_upto_region 8 with (fail)
  go_region_held3 (fun y=>y.cell? ⟨w.heap.size,0,none⟩=some (.int .i64 k)∧y.cell? ⟨w.heap.size,1,none⟩=some (.int .i64 e)∧y.cell? ⟨w.heap.size,2,none⟩=some (.int .i64 n)∧y.cell? ⟨w.heap.size,3,none⟩=some (.int .i64 a)∧y.cell? ⟨w.heap.size,4,none⟩=some (.slice p m c))
   (first | exact A9.out _ (Hid.out (by assumption)) | exact Hid.out (by assumption))
   ((first
    | (go_at_call 112;refine (AX.out _).mono ?_;rintro e5 w5 ⟨p5,c5,rfl,O5,H5,b5⟩;have B5:Hid (qw w0 w5):=B4d.out.trans (b5.out.mono B4d.out.size);have G5:Hid (qw w4 w5):=(Below.refl _ w4).drew.trans b5.out)
    | (go_at_call 238;refine (GJ.out _ _ _ (B0.out.trans (B5.out.mono B0.out.size)) H5.out).mono ?_;rintro e6 w6 ⟨u6,d6,rfl,H6,Q6⟩;have S6:Hid (w6.cell? ⟨w.heap.size,0,none⟩=some (.int .i64 k)∧w6.cell? ⟨w.heap.size,1,none⟩=some (.int .i64 e)∧w6.cell? ⟨w.heap.size,2,none⟩=some (.int .i64 n)∧w6.cell? ⟨w.heap.size,3,none⟩=some (.int .i64 a)∧w6.cell? ⟨w.heap.size,4,none⟩=some (.slice p m c)):=(fun (q:_∧_∧_∧_∧_)=>⟨Fa.out _ _ _ _ (B0.out.trans (B5.out.mono B0.out.size)) Q6.out q.1,Fa.out _ _ _ _ (B0.out.trans (B5.out.mono B0.out.size)) Q6.out q.2.1,Fa.out _ _ _ _ (B0.out.trans (B5.out.mono B0.out.size)) Q6.out q.2.2.1,Fa.out _ _ _ _ (B0.out.trans (B5.out.mono B0.out.size)) Q6.out q.2.2.2.1,Fa.out _ _ _ _ (B0.out.trans (B5.out.mono B0.out.size)) Q6.out q.2.2.2.2⟩) (A9.out _ B5.out))))
  all_goals
   have W5:Hid (qw w w5):=B0.out.trans (B5.out.mono B0.out.size);have NJ:Hid (Bs w6 p4 c4 FR):=HQ.out _ _ _ _ _ _ W5.out Km.out (aN OF4.out G5.out) (H4.out.av G5.out) Q6.out;have BA:Hid (qw w6 (w6.alloc (.cells #[.slice p4 17 c4,.slice u6 ns d6] 22))):=qb w6 _;have W6:Hid (w.heap.size≤w6.heap.size):=Nat.le_trans W5.out.size (Lm.out _ _ Q6.out);have HC:Hid (qc 109 #[.slice (some ⟨w6.heap.size,0,none⟩) 2 2] (w6.alloc (.cells #[.slice p4 17 c4,.slice u6 ns d6] 22)) (aX (FR++S) mt (w6.alloc (.cells #[.slice p4 17 c4,.slice u6 ns d6] 22)))) :=
    fB w6.heap.size p4 u6 17 ns c4 d6 FR S mt Km.out Db.out K7.out _ (heap_alloc_new w6 _) (NJ.out.av BA.out) (H6.out.av BA.out) (by have:=K7.out;omega)
   clear HS HI HP BO AX Eg GJ HQ Fa Lm A9 S6 OF4 B4d O5 H5 H4;go_wp2_with (go_at_call 109;refine HC.out.mono ?_;rintro e7 w7 ⟨p7,c7,rfl,O7,H7,b7⟩)
   go_ret2;exact ⟨p7,c7,rfl,bQ O7.out (by have:=W6.out;simp;omega),H7,HF.out _ _ _ W5.out Q6.out (BA.out.trans (b7.out.mono BA.out.size))⟩
end
section
open Go.RowKit
namespace Sc
def fJ (k a:Int) (b:List Int):Int:=if b.length<17 then 2 else if 1024<b.length then 3 else if fv k=true∧kd b=k then (if gh (ep (b.take 17)) (nu (b.take 17)) a then 0 else 7) else 5
attribute [irreducible] fJ
end Sc
def GNo (n:Int) (w:World) (r:Ending) (w':World):Prop:=r = .returned (.tuple #[SV 0 0 0 0 none 0 0,.int .i64 n])∧qw w w'
theorem cA.all {w:World} {g:Nat} {k e n a:Int} {p:Option Addr} {m c:Nat} (s:cA w g k e n a p m c):(w.cell? ⟨g,0,none⟩=some (.int .i64 k)∧w.cell? ⟨g,1,none⟩=some (.int .i64 e)∧w.cell? ⟨g,2,none⟩=some (.int .i64 n)∧w.cell? ⟨g,3,none⟩=some (.int .i64 a)∧w.cell? ⟨g,4,none⟩=some (.slice p m c)) :=
 ⟨s.c0,s.c1,s.c2,s.c3,s.c4⟩
theorem cA.j2 {w:World} {g:Nat} {k e n a:Int} {p:Option Addr} {m c:Nat} (s:cA w g k e n a p m c):w.frozen? ⟨g,0,none⟩=false∧w.frozen? ⟨g,1,none⟩=false∧w.frozen? ⟨g,2,none⟩=false∧w.frozen? ⟨g,3,none⟩=false∧w.frozen? ⟨g,4,none⟩=false :=
 ⟨frozen_of_row w g 0 _ _ s.row,frozen_of_row w g 1 _ _ s.row,frozen_of_row w g 2 _ _ s.row,frozen_of_row w g 3 _ _ s.row,frozen_of_row w g 4 _ _ s.row⟩
theorem qN {w w1:World} (B:qw w w1) (s:cA w1 w.heap.size 0 0 0 0 none 0 0) :
  cA (((((w1.setCell ⟨w.heap.size,0,none⟩ (.int .i64 0)).setCell ⟨w.heap.size,1,none⟩ (.int .i64 0)).setCell ⟨w.heap.size,2,none⟩ (.int .i64 0)).setCell ⟨w.heap.size,3,none⟩ (.int .i64 0)).setCell ⟨w.heap.size,4,none⟩ (.slice none 0 0)) w.heap.size 0 0 0 0 none 0 0 ∧
  qw w (((((w1.setCell ⟨w.heap.size,0,none⟩ (.int .i64 0)).setCell ⟨w.heap.size,1,none⟩ (.int .i64 0)).setCell ⟨w.heap.size,2,none⟩ (.int .i64 0)).setCell ⟨w.heap.size,3,none⟩ (.int .i64 0)).setCell ⟨w.heap.size,4,none⟩ (.slice none 0 0)) :=
 ⟨⟨sset s.row⟩,(eE _ _ _ _ _ _ _).below B qn⟩
theorem aas (T:TypeId) (v:Value) (k a:Int) (b:List Int) (p:Option Addr) (n c:Nat) (hn:b.length=n) (h:Sc.fJ k a b ≠ 0) (w:World) (hp:Bs w p c b) :
  qc 86 #[.iface T v,.int .i64 k,.int .i64 a,.slice p n c] w (GNo (Sc.fJ k a b) w):=by
 have B0:Hid (qw w (w.alloc (SO 0 0 0 0 none 0 0))):=qb w _;have HS:Hid (∀ y,Below (w.alloc (SO 0 0 0 0 none 0 0)).heap.size (w.alloc (SO 0 0 0 0 none 0 0)) y→cA y w.heap.size 0 0 0 0 none 0 0):=fun y hy=>(cA.new w 0 0 0 0 none 0 0).av hy;have P0:Hid (Bs (w.alloc (SO 0 0 0 0 none 0 0)) p c b):=hp.av B0.out;have HI:Hid (∀ x,qc 110 #[.int .i64 k] x fun r x'=>r = .returned (.bool (Sc.fv k))∧x=x'):=fun x=>(dA k x).mono fun _ _ q=>⟨q.1,q.2.symm⟩;have HD:Hid (∀ x,Bs x p c b→qc 126 #[.slice p n c] x fun r x'=>r = .returned (.int .i64 (Sc.kd b))∧x=x'):=fun x hx=>(lV b p n c hn x hx).mono fun _ _ q=>⟨q.1,q.2.symm⟩;unfold Sc.fJ at h ⊢;rw [hn] at h ⊢;have HN:=qh hn;clear hn;have HP:=qh hp;clear hp;by_cases h0:n<17
 ·rw [if_pos h0];have h0':(n:Int)<17:=by omega
  go_enter func86,ntmps86;go_upto_region 1 with (fail)
  change Code.wp _ _ _ _ (w.alloc (SO 0 0 0 0 none 0 0));obtain ⟨w0,Ah⟩:∃ x,x=w.alloc (SO 0 0 0 0 none 0 0):=⟨_,rfl⟩;rw [← Ah] at B0 HS P0 ⊢;clear Ah;obtain ⟨d0,d1,d2,d3,d4⟩:=(HS.out _ (Below.refl _ _)).all;obtain ⟨f0,f1,f2,f3,f4⟩:=(HS.out _ (Below.refl _ _)).j2;go_wp2;have q:=qN B0.out (HS.out _ (Below.refl _ _));refine bodyPost_ret (results_cell_tmp rfl _ _ w.heap.size 98 _ (0,0) _ rfl q.1.row underlying98 rfl (by rw [ssize];rfl)) rfl ⟨rfl,q.2⟩
 rw [if_neg h0] at h ⊢;by_cases h1:1024<n
 ·rw [if_pos h1];have h0':¬ (n:Int)<17:=by omega
  have h1':(n:Int)>1024:=by omega
  go_enter func86,ntmps86;go_upto_region 1 with (fail)
  change Code.wp _ _ _ _ (w.alloc (SO 0 0 0 0 none 0 0));obtain ⟨w0,Ah⟩:∃ x,x=w.alloc (SO 0 0 0 0 none 0 0):=⟨_,rfl⟩;rw [← Ah] at B0 HS P0 ⊢;clear Ah;obtain ⟨d0,d1,d2,d3,d4⟩:=(HS.out _ (Below.refl _ _)).all;obtain ⟨f0,f1,f2,f3,f4⟩:=(HS.out _ (Below.refl _ _)).j2;go_wp2;have q:=qN B0.out (HS.out _ (Below.refl _ _));refine bodyPost_ret (results_cell_tmp rfl _ _ w.heap.size 98 _ (0,0) _ rfl q.1.row underlying98 rfl (by rw [ssize];rfl)) rfl ⟨rfl,q.2⟩
 rw [if_neg h1] at h ⊢;have h0':¬ (n:Int)<17:=by omega
 have h1':¬ (n:Int)>1024:=by omega
 by_cases hk:Sc.fv k=true
 ·by_cases hd:Sc.kd b=k
  ·rw [if_pos ⟨hk,hd⟩] at h ⊢;have hp:Sc.gh (Sc.ep (b.take 17)) (Sc.nu (b.take 17)) a=false:=by
    cases q:Sc.gh (Sc.ep (b.take 17)) (Sc.nu (b.take 17)) a with
    | false=>rfl
    | true=>rw [if_pos q] at h;exact absurd rfl h
   rw [if_neg (by rw [hp];simp)];rw [hk] at HI;rw [hd] at HD;obtain ⟨ab,ao,J7,_⟩:=HP.out.bat.2 (by have:=HN.out;omega);subst J7;have Az:=HP.out.cap;have JV:(17:Int)≤(c:Int):=by have:=HN.out;omega
   have Dx:¬ ((c:Int)<17):=by omega
   have D6:Hid (∀ x,Bs x (some ⟨ab,ao,none⟩) c b→qc 127 #[.int .i64 a,.slice (some ⟨ab,ao,none⟩) 17 c] x fun r w'=>r = .returned (SV (Sc.k0 (b.take 17)) (Sc.ep (b.take 17)) (Sc.nu (b.take 17)) a none 0 0)∧qw x w'):=fun x hx =>
    ib a (b.take 17) _ c (by rw [List.length_take];have:=HN.out;omega) x (hx.take 17)
   generalize Sc.k0 (b.take 17)=k0 at *;generalize Sc.ep (b.take 17)=e0 at *;generalize Sc.nu (b.take 17)=n0 at *;have Ij:Hid (∀ x,qc 111 #[SV k0 e0 n0 a none 0 0] x fun r x'=>r = .returned (.bool false)∧qw x x'):=fun x=>by have h:=dD k0 e0 n0 a none 0 0 x;rw [hp] at h;exact h
   clear hk hd hp Az;go_enter func86,ntmps86;go_upto_region 1 with (fail)
   change Code.wp _ _ _ _ (w.alloc (SO 0 0 0 0 none 0 0));obtain ⟨w0,Ah⟩:∃ x,x=w.alloc (SO 0 0 0 0 none 0 0):=⟨_,rfl⟩;rw [← Ah] at B0 HS P0 ⊢;clear Ah;obtain ⟨d0,d1,d2,d3,d4⟩:=(HS.out _ (Below.refl _ _)).all;obtain ⟨f0,f1,f2,f3,f4⟩:=(HS.out _ (Below.refl _ _)).j2;go_upto_region 8 with (first
    | (go_at_call 110;refine (HI.out _).mono ?_;rintro e1 w1 ⟨rfl,rfl⟩)
    | (go_at_call 126;refine (HD.out _ P0.out).mono ?_;rintro e2 w2 ⟨rfl,rfl⟩)
    | (go_at_call 127;refine (D6.out _ P0.out).mono ?_;rintro e3 w3 ⟨rfl,As⟩;have B3:=qh As;clear As))
   all_goals
    change Code.wp _ _ _ _ (w3.alloc (SO k0 e0 n0 a none 0 0));have S4:Hid (∀ y,Below (w3.alloc (SO k0 e0 n0 a none 0 0)).heap.size (w3.alloc (SO k0 e0 n0 a none 0 0)) y→cA y w3.heap.size k0 e0 n0 a none 0 0):=fun y hy=>(cA.new w3 k0 e0 n0 a none 0 0).av hy;have B4:Hid (qw w0 (w3.alloc (SO k0 e0 n0 a none 0 0))):=B3.out.alloc B3.out.size _;obtain ⟨w4,FE⟩:∃ x,x=w3.alloc (SO k0 e0 n0 a none 0 0):=⟨_,rfl⟩;rw [← FE] at S4 B4 ⊢;clear FE d0 d1 d2 d3 d4 f0 f1 f2 f3 f4;obtain ⟨x0,x1,x2,x3,x4⟩:=(S4.out _ (Below.refl _ _)).all;go_wp2_with (go_at_call 111;refine (Ij.out _).mono ?_;rintro e5 w5 ⟨rfl,BC⟩;have B5:Hid (qw w0 w5):=B4.out.trans (BC.mono B4.out.size);clear BC;obtain ⟨d0,d1,d2,d3,d4⟩:=(HS.out _ B5.out).all;obtain ⟨f0,f1,f2,f3,f4⟩:=(HS.out _ B5.out).j2)
    have q:=qN (B0.out.trans (B5.out.mono B0.out.size)) (HS.out _ B5.out);refine bodyPost_ret (results_cell_tmp rfl _ _ w.heap.size 98 _ (0,0) _ rfl q.1.row underlying98 rfl (by rw [ssize];rfl)) rfl ⟨rfl,q.2⟩
  ·rw [if_neg (fun q=>hd q.2)];rw [hk] at HI;have Cv:(Sc.kd b==k)=false:=by simpa using hd
   generalize Sc.kd b=kb at *;go_enter func86,ntmps86;go_upto_region 1 with (fail)
   change Code.wp _ _ _ _ (w.alloc (SO 0 0 0 0 none 0 0));obtain ⟨w0,Ah⟩:∃ x,x=w.alloc (SO 0 0 0 0 none 0 0):=⟨_,rfl⟩;rw [← Ah] at B0 HS P0 ⊢;clear Ah;obtain ⟨d0,d1,d2,d3,d4⟩:=(HS.out _ (Below.refl _ _)).all;obtain ⟨f0,f1,f2,f3,f4⟩:=(HS.out _ (Below.refl _ _)).j2;go_wp2_with (first
    | (go_at_call 110;refine (HI.out _).mono ?_;rintro e1 w1 ⟨rfl,rfl⟩)
    | (go_at_call 126;refine (HD.out _ P0.out).mono ?_;rintro e2 w2 ⟨rfl,rfl⟩))
   have q:=qN B0.out (HS.out _ (Below.refl _ _));refine bodyPost_ret (results_cell_tmp rfl _ _ w.heap.size 98 _ (0,0) _ rfl q.1.row underlying98 rfl (by rw [ssize];rfl)) rfl ⟨rfl,q.2⟩
 ·rw [if_neg (fun q=>hk q.1)];have Ed:Sc.fv k=false:=by simpa using hk
  rw [Ed] at HI;go_enter func86,ntmps86;go_upto_region 1 with (fail)
  change Code.wp _ _ _ _ (w.alloc (SO 0 0 0 0 none 0 0));obtain ⟨w0,Ah⟩:∃ x,x=w.alloc (SO 0 0 0 0 none 0 0):=⟨_,rfl⟩;rw [← Ah] at B0 HS P0 ⊢;clear Ah;obtain ⟨d0,d1,d2,d3,d4⟩:=(HS.out _ (Below.refl _ _)).all;obtain ⟨f0,f1,f2,f3,f4⟩:=(HS.out _ (Below.refl _ _)).j2;go_wp2_with (go_at_call 110;refine (HI.out _).mono ?_;rintro e1 w1 ⟨rfl,rfl⟩)
  have q:=qN B0.out (HS.out _ (Below.refl _ _));refine bodyPost_ret (results_cell_tmp rfl _ _ w.heap.size 98 _ (0,0) _ rfl q.1.row underlying98 rfl (by rw [ssize];rfl)) rfl ⟨rfl,q.2⟩
end
end Go.Proofs.YthgjfjmampmiiaaGreatDoor

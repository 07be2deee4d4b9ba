/-
  ScC, ScD (merged)
-/
import Derived.Test.YtnnalemboeccbaaGreatDoorSc1
namespace Go.Proofs.YtnnalemboeccbaaGreatDoor

/-! ScC:  -/
section
open Go.RowKit
def NoSay (n:Int) (w:World) (r:Ending) (w':World):Prop:=r = .returned (.tuple #[.slice none 0 0,.int .i64 n])∧Below w.heap.size w w'
def Sc.er (k e n a:Int) (m:Nat):Int:=if Sc.isK k then (if Sc.inP e n a then (if 975<m then 3 else 0) else 7) else 5
attribute [irreducible] Sc.er
set_option maxHeartbeats 1000000 in
set_option maxRecDepth 100000 in
theorem put_no (T:TypeId) (v:Value) (k e n a:Int) (p:Option Addr) (m c:Nat) (h:Sc.er k e n a m ≠ 0) (w:World) :
  Calls Tryz.prog 76 #[.iface T v,SV k e n a p m c] w (NoSay (Sc.er k e n a m) w):=by
 have B0:Hid (Below w.heap.size w (w.alloc (SO k e n a p m c))):=(Below.refl _ w).alloc (Nat.le_refl _) _
 have HS:Hid (∀ y,Below (w.alloc (SO k e n a p m c)).heap.size (w.alloc (SO k e n a p m c)) y→SAt y w.heap.size k e n a p m c):=fun y hy=>(SAt.new w k e n a p m c).old hy
 have HI:Hid (∀ x,Calls Tryz.prog 125 #[.int .i64 k] x fun r x'=>r = .returned (.bool (Sc.isK k))∧x'=x):=fun x=>iskind_any k x
 have HP:Hid (∀ x,Calls Tryz.prog 126 #[SV k e n a p m c] x fun r x'=>r = .returned (.bool (Sc.inP e n a))∧Below x.heap.size x x'):=fun x=>inplace_any k e n a p m c x
 unfold Sc.er at h ⊢
 cases hk:Sc.isK k with
 | false =>
  rw [hk] at HI
  rw [if_neg (by simp)]
  go_enter Tryz.func76,Tryz.ntmps76
  go_upto_region 1 with (fail)
  change Code.wp _ _ _ _ (w.alloc (SO k e n a p m c))
  obtain ⟨w0,hw0⟩:∃ x,x=w.alloc (SO k e n a p m c):=⟨_,rfl⟩
  rw [← hw0] at B0 HS ⊢
  clear hw0
  have d0:=(HS.out _ (Below.refl _ _)).c0
  go_wp2_with (go_at_call 125;refine (HI.out _).mono ?_;rintro e1 w1 ⟨rfl,rfl⟩)
  go_ret2
  exact ⟨rfl,B0.out⟩
 | true =>
  rw [hk] at HI h
  rw [if_pos rfl] at h ⊢
  cases hp:Sc.inP e n a with
  | false =>
   rw [hp] at HP
   rw [if_neg (by simp)]
   go_enter Tryz.func76,Tryz.ntmps76
   go_upto_region 1 with (fail)
   change Code.wp _ _ _ _ (w.alloc (SO k e n a p m c))
   obtain ⟨w0,hw0⟩:∃ x,x=w.alloc (SO k e n a p m c):=⟨_,rfl⟩
   rw [← hw0] at B0 HS ⊢
   clear hw0
   obtain ⟨d0,d1,d2,d3,d4⟩:=(fun (s:SAt w0 w.heap.size k e n a p m c)=>(⟨s.c0,s.c1,s.c2,s.c3,s.c4⟩:_∧_∧_∧_∧_)) (HS.out _ (Below.refl _ _))
   go_wp2_with (first
    | (go_at_call 125;refine (HI.out _).mono ?_;rintro e1 w1 ⟨rfl,rfl⟩)
    | (go_at_call 126;refine (HP.out _).mono ?_;rintro e2 w2 ⟨rfl,hb2⟩))
   go_ret2
   exact ⟨rfl,B0.out.trans (hb2.mono B0.out.size)⟩
  | true =>
   rw [hp] at HP h
   rw [if_pos rfl] at h ⊢
   have hm:975<m:=by
    by_cases q:975<m
    ·exact q
    ·rw [if_neg q] at h;exact absurd rfl h
   rw [if_pos hm]
   have hm2:(m:Int)>975:=by omega
   go_enter Tryz.func76,Tryz.ntmps76
   go_upto_region 1 with (fail)
   change Code.wp _ _ _ _ (w.alloc (SO k e n a p m c))
   obtain ⟨w0,hw0⟩:∃ x,x=w.alloc (SO k e n a p m c):=⟨_,rfl⟩
   rw [← hw0] at B0 HS ⊢
   clear hw0
   obtain ⟨d0,d1,d2,d3,d4⟩:=(fun (s:SAt w0 w.heap.size k e n a p m c)=>(⟨s.c0,s.c1,s.c2,s.c3,s.c4⟩:_∧_∧_∧_∧_)) (HS.out _ (Below.refl _ _))
   go_wp2_with (first
    | (go_at_call 125;refine (HI.out _).mono ?_;rintro e1 w1 ⟨rfl,rfl⟩)
    | (go_at_call 126;refine (HP.out _).mono ?_;rintro e2 w2 ⟨rfl,hb2⟩;have q4:=(HS.out _ hb2).c4))
   go_ret2
   exact ⟨rfl,B0.out.trans (hb2.mono B0.out.size)⟩
def SPut (R:List Int) (m:Nat) (w:World) (F:World→Prop) (r:Ending) (w':World):Prop :=
 ∃ u d,r = .returned (.tuple #[.slice u m d,.int .i64 0])∧Hid (w'.ownsRow w.heap.size 5 1 (.slice u m d) m (U8s R))∧Hid (Bs w' u d R)∧Hid (F w')
theorem msl_box (v:Value) (w:World):(method 396 33 v "Seal").run Tryz.prog w = .ok (241,v) w:=by kernel_rfl
theorem nsl_box (a:Addr) (w:World):(nilAhead 396 33 (.pointer (some a)) "Seal").run Tryz.prog w = .ok (some false) w:=by kernel_rfl
set_option maxHeartbeats 2000000 in
set_option maxRecDepth 100000 in
theorem put_box (g:Addr) (k e n a:Int) (p:Option Addr) (m c ns mt:Nat) (hk:Sc.isK k=true) (hp:Sc.inP e n a=true) (hl:m≤975) (w:World)
  (S:List Int) (hS:S.length=ns) (hns:ns≤2000) (hmt:17+ns=mt) (Q:World→World→Prop) (F:World→Prop)
  (hsl:∀ y q d,Below w.heap.size w y→Bs y q d (Sc.mk k a)→Calls Tryz.prog 241 #[.pointer (some g),.int .i64 e,.int .i64 n,.slice q 9 d,.slice p m c] y fun r y'=>∃ u d',r = .returned (.slice u ns d')∧Hid (Bs y' u d' S)∧Hid (Q y y'))
  (hq:∀ y y' q d R r,Below w.heap.size w y→R.length=r→y.ownsRow w.heap.size 5 1 (.slice q r d) r (U8s R)→Bs y q d R→Q y y'→Bs y' q d R)
  (hqc:∀ y y' i v,Below w.heap.size w y→Q y y'→y.cell? ⟨w.heap.size,i,none⟩=some v→y'.cell? ⟨w.heap.size,i,none⟩=some v)
  (hqs:∀ y y',Q y y'→y.heap.size≤y'.heap.size)
  (hf:∀ y y' z,Below w.heap.size w y→Q y y'→Below y'.heap.size y' z→F z) :
  Calls Tryz.prog 76 #[.iface 33 (.pointer (some g)),SV k e n a p m c] w (SPut (Sc.fr k e n++S) mt w F):=by
 have hk2:=Sc.isK_iff.1 hk
 have B0:Hid (Below w.heap.size w (w.alloc (SO k e n a p m c))):=(Below.refl _ w).alloc (Nat.le_refl _) _
 have HS:Hid (∀ y,Below (w.alloc (SO k e n a p m c)).heap.size (w.alloc (SO k e n a p m c)) y→SAt y w.heap.size k e n a p m c):=fun y hy=>(SAt.new w k e n a p m c).old hy
 have HI:Hid (∀ x,Calls Tryz.prog 125 #[.int .i64 k] x fun r x'=>r = .returned (.bool true)∧x=x'):=fun x=>by have h:=iskind_any k x;rw [hk] at h;exact h.mono fun _ _ q=>⟨q.1,q.2.symm⟩
 have HP:Hid (∀ x,Calls Tryz.prog 126 #[SV k e n a p m c] x fun r x'=>r = .returned (.bool true)∧Below x.heap.size x x'):=fun x=>by have h:=inplace_any k e n a p m c x;rw [hp] at h;exact h
 have HM1:Hid (∀ x,Calls Tryz.prog 127 #[.int .i64 k,.int .i64 e] x (RowOf (Sc.mk k e) 9 x)):=fun x=>marked_any k e (by omega) x
 have HM2:Hid (∀ x,Calls Tryz.prog 127 #[.int .i64 k,.int .i64 a] x (RowOf (Sc.mk k a) 9 x)):=fun x=>marked_any k a (by omega) x
 have HIN:Hid (∀ x q d,Bs x q d (Sc.mk k e)→Calls Tryz.prog 68 #[.slice q 9 d,.int .i64 n] x (RowOf (Sc.fr k e n) 17 x)):=fun x q d h=>by
  have h2:=int_any (Sc.mk k e) n q 9 d 17 (Sc.mk_len k e) rfl (by omega) x h
  unfold Sc.fr
  exact h2
 have HSL:=Lib.hid hsl;clear hsl
 have HQ:=Lib.hid hq;clear hq
 have HQC:=Lib.hid hqc;clear hqc
 have HQS:=Lib.hid hqs;clear hqs
 have HF:=Lib.hid hf;clear hf
 have HLF:Hid ((Sc.fr k e n).length=17):=Sc.fr_len k e n
 have HLS:=Lib.hid hS;clear hS
 have HMT:=Lib.hid hmt;clear hmt
 have hm2:¬ ((m:Int)>975):=by omega
 have ms:=msl_box
 have mn:=nsl_box
 clear hk hp hk2
 generalize Sc.fr k e n=FR at *
 generalize Sc.mk k e=M1 at *
 generalize Sc.mk k a=M2 at *
 go_enter Tryz.func76,Tryz.ntmps76
 go_upto_region 1 with (fail)
 change Code.wp _ _ _ _ (w.alloc (SO k e n a p m c))
 obtain ⟨w0,hw0⟩:∃ x,x=w.alloc (SO k e n a p m c):=⟨_,rfl⟩
 rw [← hw0] at B0 HS ⊢
 clear hw0
 obtain ⟨d0,d1,d2,d3,d4⟩:=(fun (s:SAt w0 w.heap.size k e n a p m c)=>(⟨s.c0,s.c1,s.c2,s.c3,s.c4⟩:_∧_∧_∧_∧_)) (HS.out _ (Below.refl _ _))
 go_upto_region 7 with (first
  | (go_at_call 125;refine (HI.out _).mono ?_;rintro e1 w1 ⟨rfl,rfl⟩)
  | (go_at_call 126;refine (HP.out _).mono ?_;rintro e2 w2 ⟨rfl,hb2⟩;have q4:=(HS.out _ hb2).c4))
 have B2:Hid (Below w0.heap.size w0 w2):=hb2
 have B2d:Hid (Below w0.heap.size w0 w2.drew):=hb2.drew
 clear hb2 q4 d0 d1 d2 d3 d4
 have HK:Hid (∀ y,Below w0.heap.size w0 y→y.cell? ⟨w.heap.size,0,none⟩=some (.int .i64 k)∧y.cell? ⟨w.heap.size,1,none⟩=some (.int .i64 e)∧y.cell? ⟨w.heap.size,2,none⟩=some (.int .i64 n)):=fun y hy=>⟨(HS.out y hy).c0,(HS.out y hy).c1,(HS.out y hy).c2⟩
 go_region_held3 (fun y=>y.cell? ⟨w.heap.size,0,none⟩=some (.int .i64 k)∧y.cell? ⟨w.heap.size,1,none⟩=some (.int .i64 e)∧y.cell? ⟨w.heap.size,2,none⟩=some (.int .i64 n))
  (exact HK.out _ (Hid.out (by assumption)))
  ((first
   | (go_at_call 127;refine (HM1.out _).mono ?_;rintro e3 w3 ⟨p3,c3,rfl,O3,H3,b3⟩;have B3:Hid (Below w0.heap.size w0 w3):=Below.trans (Hid.out (by assumption)) (b3.out.mono (Below.size (Hid.out (by assumption)))))
   | (go_at_call 68;refine (HIN.out _ _ _ H3.out).mono ?_;rintro e4 w4 ⟨p4,c4,rfl,O4,H4,b4⟩;have B4:Hid (Below w0.heap.size w0 w4):=B3.out.trans (b4.out.mono B3.out.size))))
 all_goals
  have OF4:Hid (w4.ownsRow w.heap.size 5 1 (.slice p4 17 c4) 17 (U8s FR)):=own_baseS O4.out (by have:=B3.out.size;have:=B0.out.size;omega)
  have B4d:Hid (Below w0.heap.size w0 w4.drew):=B4.out.drew
  have HK2:Hid (∀ y,Below w0.heap.size w0 y→y.cell? ⟨w.heap.size,0,none⟩=some (.int .i64 k)∧y.cell? ⟨w.heap.size,1,none⟩=some (.int .i64 e)∧y.cell? ⟨w.heap.size,2,none⟩=some (.int .i64 n)∧y.cell? ⟨w.heap.size,3,none⟩=some (.int .i64 a)∧y.cell? ⟨w.heap.size,4,none⟩=some (.slice p m c)):=fun y hy=>⟨(HS.out y hy).c0,(HS.out y hy).c1,(HS.out y hy).c2,(HS.out y hy).c3,(HS.out y hy).c4⟩
  clear HK B2 B2d B3 b4 O4 O3 H3
  go_upto_region 8 with (fail)
  go_region_held3 (fun y=>y.cell? ⟨w.heap.size,0,none⟩=some (.int .i64 k)∧y.cell? ⟨w.heap.size,1,none⟩=some (.int .i64 e)∧y.cell? ⟨w.heap.size,2,none⟩=some (.int .i64 n)∧y.cell? ⟨w.heap.size,3,none⟩=some (.int .i64 a)∧y.cell? ⟨w.heap.size,4,none⟩=some (.slice p m c))
   (first | exact HK2.out _ (Hid.out (by assumption)) | exact Hid.out (by assumption))
   ((first
    | (go_at_call 127;refine (HM2.out _).mono ?_;rintro e5 w5 ⟨p5,c5,rfl,O5,H5,b5⟩;have B5:Hid (Below w0.heap.size w0 w5):=B4d.out.trans (b5.out.mono B4d.out.size);have G5:Hid (Below w4.heap.size w4 w5):=(Below.refl _ w4).drew.trans b5.out)
    | (go_at_call 241;refine (HSL.out _ _ _ (B0.out.trans (B5.out.mono B0.out.size)) H5.out).mono ?_;rintro e6 w6 ⟨u6,d6,rfl,H6,Q6⟩;have S6:Hid (w6.cell? ⟨w.heap.size,0,none⟩=some (.int .i64 k)∧w6.cell? ⟨w.heap.size,1,none⟩=some (.int .i64 e)∧w6.cell? ⟨w.heap.size,2,none⟩=some (.int .i64 n)∧w6.cell? ⟨w.heap.size,3,none⟩=some (.int .i64 a)∧w6.cell? ⟨w.heap.size,4,none⟩=some (.slice p m c)):=(fun (q:_∧_∧_∧_∧_)=>⟨HQC.out _ _ _ _ (B0.out.trans (B5.out.mono B0.out.size)) Q6.out q.1,HQC.out _ _ _ _ (B0.out.trans (B5.out.mono B0.out.size)) Q6.out q.2.1,HQC.out _ _ _ _ (B0.out.trans (B5.out.mono B0.out.size)) Q6.out q.2.2.1,HQC.out _ _ _ _ (B0.out.trans (B5.out.mono B0.out.size)) Q6.out q.2.2.2.1,HQC.out _ _ _ _ (B0.out.trans (B5.out.mono B0.out.size)) Q6.out q.2.2.2.2⟩) (HK2.out _ B5.out))))
  all_goals
   have W5:Hid (Below w.heap.size w w5):=B0.out.trans (B5.out.mono B0.out.size)
   have H46:Hid (Bs w6 p4 c4 FR):=HQ.out _ _ _ _ _ _ W5.out HLF.out (own_keepX OF4.out G5.out) (H4.out.old G5.out) Q6.out
   have BA:Hid (Below w6.heap.size w6 (w6.alloc (.cells #[.slice p4 17 c4,.slice u6 ns d6] 22))):=(Below.refl _ w6).alloc (Nat.le_refl _) _
   have W6:Hid (w.heap.size≤w6.heap.size):=Nat.le_trans W5.out.size (HQS.out _ _ Q6.out)
   have HC:Hid (Calls Tryz.prog 123 #[.slice (some ⟨w6.heap.size,0,none⟩) 2 2] (w6.alloc (.cells #[.slice p4 17 c4,.slice u6 ns d6] 22)) (RowOf (FR++S) mt (w6.alloc (.cells #[.slice p4 17 c4,.slice u6 ns d6] 22)))) :=
    concat2_any w6.heap.size p4 u6 17 ns c4 d6 FR S mt HLF.out HLS.out HMT.out _ (heap_alloc_new w6 _) (H46.out.old BA.out) (H6.out.old BA.out) (by have:=HMT.out;omega)
   clear HS HI HP HM1 HM2 HIN HSL HQ HQC HQS HK2 S6 OF4 B4d O5 H5 H4
   go_wp2_with (go_at_call 123;refine HC.out.mono ?_;rintro e7 w7 ⟨p7,c7,rfl,O7,H7,b7⟩)
   go_ret2
   exact ⟨p7,c7,rfl,own_baseS O7.out (by have:=W6.out;simp;omega),H7,HF.out _ _ _ W5.out Q6.out (BA.out.trans (b7.out.mono BA.out.size))⟩
theorem msl_nam (v:Value) (w:World):(method 396 83 v "Seal").run Tryz.prog w = .ok (262,v) w:=by kernel_rfl
theorem nsl_nam (a:Addr) (w:World):(nilAhead 396 83 (.pointer (some a)) "Seal").run Tryz.prog w = .ok (some false) w:=by kernel_rfl
set_option maxHeartbeats 2000000 in
set_option maxRecDepth 100000 in
theorem put_nam (g:Addr) (k e n a:Int) (p:Option Addr) (m c ns mt:Nat) (hk:Sc.isK k=true) (hp:Sc.inP e n a=true) (hl:m≤975) (w:World)
  (S:List Int) (hS:S.length=ns) (hns:ns≤2000) (hmt:17+ns=mt) (Q:World→World→Prop) (F:World→Prop)
  (hsl:∀ y q d,Below w.heap.size w y→Bs y q d (Sc.mk k a)→Calls Tryz.prog 262 #[.pointer (some g),.int .i64 e,.int .i64 n,.slice q 9 d,.slice p m c] y fun r y'=>∃ u d',r = .returned (.slice u ns d')∧Hid (Bs y' u d' S)∧Hid (Q y y'))
  (hq:∀ y y' q d R r,Below w.heap.size w y→R.length=r→y.ownsRow w.heap.size 5 1 (.slice q r d) r (U8s R)→Bs y q d R→Q y y'→Bs y' q d R)
  (hqc:∀ y y' i v,Below w.heap.size w y→Q y y'→y.cell? ⟨w.heap.size,i,none⟩=some v→y'.cell? ⟨w.heap.size,i,none⟩=some v)
  (hqs:∀ y y',Q y y'→y.heap.size≤y'.heap.size)
  (hf:∀ y y' z,Below w.heap.size w y→Q y y'→Below y'.heap.size y' z→F z) :
  Calls Tryz.prog 76 #[.iface 83 (.pointer (some g)),SV k e n a p m c] w (SPut (Sc.fr k e n++S) mt w F):=by
 have hk2:=Sc.isK_iff.1 hk
 have B0:Hid (Below w.heap.size w (w.alloc (SO k e n a p m c))):=(Below.refl _ w).alloc (Nat.le_refl _) _
 have HS:Hid (∀ y,Below (w.alloc (SO k e n a p m c)).heap.size (w.alloc (SO k e n a p m c)) y→SAt y w.heap.size k e n a p m c):=fun y hy=>(SAt.new w k e n a p m c).old hy
 have HI:Hid (∀ x,Calls Tryz.prog 125 #[.int .i64 k] x fun r x'=>r = .returned (.bool true)∧x=x'):=fun x=>by have h:=iskind_any k x;rw [hk] at h;exact h.mono fun _ _ q=>⟨q.1,q.2.symm⟩
 have HP:Hid (∀ x,Calls Tryz.prog 126 #[SV k e n a p m c] x fun r x'=>r = .returned (.bool true)∧Below x.heap.size x x'):=fun x=>by have h:=inplace_any k e n a p m c x;rw [hp] at h;exact h
 have HM1:Hid (∀ x,Calls Tryz.prog 127 #[.int .i64 k,.int .i64 e] x (RowOf (Sc.mk k e) 9 x)):=fun x=>marked_any k e (by omega) x
 have HM2:Hid (∀ x,Calls Tryz.prog 127 #[.int .i64 k,.int .i64 a] x (RowOf (Sc.mk k a) 9 x)):=fun x=>marked_any k a (by omega) x
 have HIN:Hid (∀ x q d,Bs x q d (Sc.mk k e)→Calls Tryz.prog 68 #[.slice q 9 d,.int .i64 n] x (RowOf (Sc.fr k e n) 17 x)):=fun x q d h=>by
  have h2:=int_any (Sc.mk k e) n q 9 d 17 (Sc.mk_len k e) rfl (by omega) x h
  unfold Sc.fr
  exact h2
 have HSL:=Lib.hid hsl;clear hsl
 have HQ:=Lib.hid hq;clear hq
 have HQC:=Lib.hid hqc;clear hqc
 have HQS:=Lib.hid hqs;clear hqs
 have HF:=Lib.hid hf;clear hf
 have HLF:Hid ((Sc.fr k e n).length=17):=Sc.fr_len k e n
 have HLS:=Lib.hid hS;clear hS
 have HMT:=Lib.hid hmt;clear hmt
 have hm2:¬ ((m:Int)>975):=by omega
 have ms:=msl_nam
 have mn:=nsl_nam
 clear hk hp hk2
 generalize Sc.fr k e n=FR at *
 generalize Sc.mk k e=M1 at *
 generalize Sc.mk k a=M2 at *
 go_enter Tryz.func76,Tryz.ntmps76
 go_upto_region 1 with (fail)
 change Code.wp _ _ _ _ (w.alloc (SO k e n a p m c))
 obtain ⟨w0,hw0⟩:∃ x,x=w.alloc (SO k e n a p m c):=⟨_,rfl⟩
 rw [← hw0] at B0 HS ⊢
 clear hw0
 obtain ⟨d0,d1,d2,d3,d4⟩:=(fun (s:SAt w0 w.heap.size k e n a p m c)=>(⟨s.c0,s.c1,s.c2,s.c3,s.c4⟩:_∧_∧_∧_∧_)) (HS.out _ (Below.refl _ _))
 go_upto_region 7 with (first
  | (go_at_call 125;refine (HI.out _).mono ?_;rintro e1 w1 ⟨rfl,rfl⟩)
  | (go_at_call 126;refine (HP.out _).mono ?_;rintro e2 w2 ⟨rfl,hb2⟩;have q4:=(HS.out _ hb2).c4))
 have B2:Hid (Below w0.heap.size w0 w2):=hb2
 have B2d:Hid (Below w0.heap.size w0 w2.drew):=hb2.drew
 clear hb2 q4 d0 d1 d2 d3 d4
 have HK:Hid (∀ y,Below w0.heap.size w0 y→y.cell? ⟨w.heap.size,0,none⟩=some (.int .i64 k)∧y.cell? ⟨w.heap.size,1,none⟩=some (.int .i64 e)∧y.cell? ⟨w.heap.size,2,none⟩=some (.int .i64 n)):=fun y hy=>⟨(HS.out y hy).c0,(HS.out y hy).c1,(HS.out y hy).c2⟩
 go_region_held3 (fun y=>y.cell? ⟨w.heap.size,0,none⟩=some (.int .i64 k)∧y.cell? ⟨w.heap.size,1,none⟩=some (.int .i64 e)∧y.cell? ⟨w.heap.size,2,none⟩=some (.int .i64 n))
  (exact HK.out _ (Hid.out (by assumption)))
  ((first
   | (go_at_call 127;refine (HM1.out _).mono ?_;rintro e3 w3 ⟨p3,c3,rfl,O3,H3,b3⟩;have B3:Hid (Below w0.heap.size w0 w3):=Below.trans (Hid.out (by assumption)) (b3.out.mono (Below.size (Hid.out (by assumption)))))
   | (go_at_call 68;refine (HIN.out _ _ _ H3.out).mono ?_;rintro e4 w4 ⟨p4,c4,rfl,O4,H4,b4⟩;have B4:Hid (Below w0.heap.size w0 w4):=B3.out.trans (b4.out.mono B3.out.size))))
 all_goals
  have OF4:Hid (w4.ownsRow w.heap.size 5 1 (.slice p4 17 c4) 17 (U8s FR)):=own_baseS O4.out (by have:=B3.out.size;have:=B0.out.size;omega)
  have B4d:Hid (Below w0.heap.size w0 w4.drew):=B4.out.drew
  have HK2:Hid (∀ y,Below w0.heap.size w0 y→y.cell? ⟨w.heap.size,0,none⟩=some (.int .i64 k)∧y.cell? ⟨w.heap.size,1,none⟩=some (.int .i64 e)∧y.cell? ⟨w.heap.size,2,none⟩=some (.int .i64 n)∧y.cell? ⟨w.heap.size,3,none⟩=some (.int .i64 a)∧y.cell? ⟨w.heap.size,4,none⟩=some (.slice p m c)):=fun y hy=>⟨(HS.out y hy).c0,(HS.out y hy).c1,(HS.out y hy).c2,(HS.out y hy).c3,(HS.out y hy).c4⟩
  clear HK B2 B2d B3 b4 O4 O3 H3
  go_upto_region 8 with (fail)
  go_region_held3 (fun y=>y.cell? ⟨w.heap.size,0,none⟩=some (.int .i64 k)∧y.cell? ⟨w.heap.size,1,none⟩=some (.int .i64 e)∧y.cell? ⟨w.heap.size,2,none⟩=some (.int .i64 n)∧y.cell? ⟨w.heap.size,3,none⟩=some (.int .i64 a)∧y.cell? ⟨w.heap.size,4,none⟩=some (.slice p m c))
   (first | exact HK2.out _ (Hid.out (by assumption)) | exact Hid.out (by assumption))
   ((first
    | (go_at_call 127;refine (HM2.out _).mono ?_;rintro e5 w5 ⟨p5,c5,rfl,O5,H5,b5⟩;have B5:Hid (Below w0.heap.size w0 w5):=B4d.out.trans (b5.out.mono B4d.out.size);have G5:Hid (Below w4.heap.size w4 w5):=(Below.refl _ w4).drew.trans b5.out)
    | (go_at_call 262;refine (HSL.out _ _ _ (B0.out.trans (B5.out.mono B0.out.size)) H5.out).mono ?_;rintro e6 w6 ⟨u6,d6,rfl,H6,Q6⟩;have S6:Hid (w6.cell? ⟨w.heap.size,0,none⟩=some (.int .i64 k)∧w6.cell? ⟨w.heap.size,1,none⟩=some (.int .i64 e)∧w6.cell? ⟨w.heap.size,2,none⟩=some (.int .i64 n)∧w6.cell? ⟨w.heap.size,3,none⟩=some (.int .i64 a)∧w6.cell? ⟨w.heap.size,4,none⟩=some (.slice p m c)):=(fun (q:_∧_∧_∧_∧_)=>⟨HQC.out _ _ _ _ (B0.out.trans (B5.out.mono B0.out.size)) Q6.out q.1,HQC.out _ _ _ _ (B0.out.trans (B5.out.mono B0.out.size)) Q6.out q.2.1,HQC.out _ _ _ _ (B0.out.trans (B5.out.mono B0.out.size)) Q6.out q.2.2.1,HQC.out _ _ _ _ (B0.out.trans (B5.out.mono B0.out.size)) Q6.out q.2.2.2.1,HQC.out _ _ _ _ (B0.out.trans (B5.out.mono B0.out.size)) Q6.out q.2.2.2.2⟩) (HK2.out _ B5.out))))
  all_goals
   have W5:Hid (Below w.heap.size w w5):=B0.out.trans (B5.out.mono B0.out.size)
   have H46:Hid (Bs w6 p4 c4 FR):=HQ.out _ _ _ _ _ _ W5.out HLF.out (own_keepX OF4.out G5.out) (H4.out.old G5.out) Q6.out
   have BA:Hid (Below w6.heap.size w6 (w6.alloc (.cells #[.slice p4 17 c4,.slice u6 ns d6] 22))):=(Below.refl _ w6).alloc (Nat.le_refl _) _
   have W6:Hid (w.heap.size≤w6.heap.size):=Nat.le_trans W5.out.size (HQS.out _ _ Q6.out)
   have HC:Hid (Calls Tryz.prog 123 #[.slice (some ⟨w6.heap.size,0,none⟩) 2 2] (w6.alloc (.cells #[.slice p4 17 c4,.slice u6 ns d6] 22)) (RowOf (FR++S) mt (w6.alloc (.cells #[.slice p4 17 c4,.slice u6 ns d6] 22)))) :=
    concat2_any w6.heap.size p4 u6 17 ns c4 d6 FR S mt HLF.out HLS.out HMT.out _ (heap_alloc_new w6 _) (H46.out.old BA.out) (H6.out.old BA.out) (by have:=HMT.out;omega)
   clear HS HI HP HM1 HM2 HIN HSL HQ HQC HQS HK2 S6 OF4 B4d O5 H5 H4
   go_wp2_with (go_at_call 123;refine HC.out.mono ?_;rintro e7 w7 ⟨p7,c7,rfl,O7,H7,b7⟩)
   go_ret2
   exact ⟨p7,c7,rfl,own_baseS O7.out (by have:=W6.out;simp;omega),H7,HF.out _ _ _ W5.out Q6.out (BA.out.trans (b7.out.mono BA.out.size))⟩
end

/-! ScD:  -/
section
open Go.RowKit
namespace Sc
def ger (k a:Int) (b:List Int):Int:=if b.length<17 then 2 else if 1024<b.length then 3 else if isK k=true∧kd b=k then (if inP (ep (b.take 17)) (nu (b.take 17)) a then 0 else 7) else 5
attribute [irreducible] ger
end Sc
def GNo (n:Int) (w:World) (r:Ending) (w':World):Prop:=r = .returned (.tuple #[SV 0 0 0 0 none 0 0,.int .i64 n])∧Below w.heap.size w w'
theorem SAt.all {w:World} {g:Nat} {k e n a:Int} {p:Option Addr} {m c:Nat} (s:SAt w g k e n a p m c):(w.cell? ⟨g,0,none⟩=some (.int .i64 k)∧w.cell? ⟨g,1,none⟩=some (.int .i64 e)∧w.cell? ⟨g,2,none⟩=some (.int .i64 n)∧w.cell? ⟨g,3,none⟩=some (.int .i64 a)∧w.cell? ⟨g,4,none⟩=some (.slice p m c)) :=
 ⟨s.c0,s.c1,s.c2,s.c3,s.c4⟩
theorem SAt.fro {w:World} {g:Nat} {k e n a:Int} {p:Option Addr} {m c:Nat} (s:SAt w g k e n a p m c):w.frozen? ⟨g,0,none⟩=false∧w.frozen? ⟨g,1,none⟩=false∧w.frozen? ⟨g,2,none⟩=false∧w.frozen? ⟨g,3,none⟩=false∧w.frozen? ⟨g,4,none⟩=false :=
 ⟨frozen_of_row w g 0 _ _ s.row,frozen_of_row w g 1 _ _ s.row,frozen_of_row w g 2 _ _ s.row,frozen_of_row w g 3 _ _ s.row,frozen_of_row w g 4 _ _ s.row⟩
theorem gno {w w1:World} (B:Below w.heap.size w w1) (s:SAt w1 w.heap.size 0 0 0 0 none 0 0) :
  SAt (((((w1.setCell ⟨w.heap.size,0,none⟩ (.int .i64 0)).setCell ⟨w.heap.size,1,none⟩ (.int .i64 0)).setCell ⟨w.heap.size,2,none⟩ (.int .i64 0)).setCell ⟨w.heap.size,3,none⟩ (.int .i64 0)).setCell ⟨w.heap.size,4,none⟩ (.slice none 0 0)) w.heap.size 0 0 0 0 none 0 0 ∧
  Below w.heap.size w (((((w1.setCell ⟨w.heap.size,0,none⟩ (.int .i64 0)).setCell ⟨w.heap.size,1,none⟩ (.int .i64 0)).setCell ⟨w.heap.size,2,none⟩ (.int .i64 0)).setCell ⟨w.heap.size,3,none⟩ (.int .i64 0)).setCell ⟨w.heap.size,4,none⟩ (.slice none 0 0)) :=
 ⟨⟨sset s.row⟩,(sset_chg _ _ _ _ _ _ _).below B (Nat.le_refl _)⟩
set_option maxHeartbeats 2000000 in
set_option maxRecDepth 100000 in
theorem get_no (T:TypeId) (v:Value) (k a:Int) (b:List Int) (p:Option Addr) (n c:Nat) (hn:b.length=n) (h:Sc.ger k a b ≠ 0) (w:World) (hp:Bs w p c b) :
  Calls Tryz.prog 100 #[.iface T v,.int .i64 k,.int .i64 a,.slice p n c] w (GNo (Sc.ger k a b) w):=by
 have B0:Hid (Below w.heap.size w (w.alloc (SO 0 0 0 0 none 0 0))):=(Below.refl _ w).alloc (Nat.le_refl _) _
 have HS:Hid (∀ y,Below (w.alloc (SO 0 0 0 0 none 0 0)).heap.size (w.alloc (SO 0 0 0 0 none 0 0)) y→SAt y w.heap.size 0 0 0 0 none 0 0):=fun y hy=>(SAt.new w 0 0 0 0 none 0 0).old hy
 have P0:Hid (Bs (w.alloc (SO 0 0 0 0 none 0 0)) p c b):=hp.old B0.out
 have HI:Hid (∀ x,Calls Tryz.prog 125 #[.int .i64 k] x fun r x'=>r = .returned (.bool (Sc.isK k))∧x=x'):=fun x=>(iskind_any k x).mono fun _ _ q=>⟨q.1,q.2.symm⟩
 have HD:Hid (∀ x,Bs x p c b→Calls Tryz.prog 145 #[.slice p n c] x fun r x'=>r = .returned (.int .i64 (Sc.kd b))∧x=x'):=fun x hx=>(kind_any b p n c hn x hx).mono fun _ _ q=>⟨q.1,q.2.symm⟩
 unfold Sc.ger at h ⊢
 rw [hn] at h ⊢
 have HN:=Lib.hid hn;clear hn
 have HP:=Lib.hid hp;clear hp
 by_cases h0:n<17
 ·rw [if_pos h0]
  have h0':(n:Int)<17:=by omega
  go_enter Tryz.func100,Tryz.ntmps100
  go_upto_region 1 with (fail)
  change Code.wp _ _ _ _ (w.alloc (SO 0 0 0 0 none 0 0))
  obtain ⟨w0,hw0⟩:∃ x,x=w.alloc (SO 0 0 0 0 none 0 0):=⟨_,rfl⟩
  rw [← hw0] at B0 HS P0 ⊢
  clear hw0
  obtain ⟨d0,d1,d2,d3,d4⟩:=(HS.out _ (Below.refl _ _)).all
  obtain ⟨f0,f1,f2,f3,f4⟩:=(HS.out _ (Below.refl _ _)).fro
  go_wp2
  have q:=gno B0.out (HS.out _ (Below.refl _ _))
  refine bodyPost_ret (results_cell_tmp rfl _ _ w.heap.size 110 _ (0,0) _ rfl q.1.row Tryz.underlying110 rfl (by rw [ssize];rfl)) rfl ⟨rfl,q.2⟩
 rw [if_neg h0] at h ⊢
 by_cases h1:1024<n
 ·rw [if_pos h1]
  have h0':¬ (n:Int)<17:=by omega
  have h1':(n:Int)>1024:=by omega
  go_enter Tryz.func100,Tryz.ntmps100
  go_upto_region 1 with (fail)
  change Code.wp _ _ _ _ (w.alloc (SO 0 0 0 0 none 0 0))
  obtain ⟨w0,hw0⟩:∃ x,x=w.alloc (SO 0 0 0 0 none 0 0):=⟨_,rfl⟩
  rw [← hw0] at B0 HS P0 ⊢
  clear hw0
  obtain ⟨d0,d1,d2,d3,d4⟩:=(HS.out _ (Below.refl _ _)).all
  obtain ⟨f0,f1,f2,f3,f4⟩:=(HS.out _ (Below.refl _ _)).fro
  go_wp2
  have q:=gno B0.out (HS.out _ (Below.refl _ _))
  refine bodyPost_ret (results_cell_tmp rfl _ _ w.heap.size 110 _ (0,0) _ rfl q.1.row Tryz.underlying110 rfl (by rw [ssize];rfl)) rfl ⟨rfl,q.2⟩
 rw [if_neg h1] at h ⊢
 have h0':¬ (n:Int)<17:=by omega
 have h1':¬ (n:Int)>1024:=by omega
 by_cases hk:Sc.isK k=true
 ·by_cases hd:Sc.kd b=k
  ·rw [if_pos ⟨hk,hd⟩] at h ⊢
   have hp:Sc.inP (Sc.ep (b.take 17)) (Sc.nu (b.take 17)) a=false:=by
    cases q:Sc.inP (Sc.ep (b.take 17)) (Sc.nu (b.take 17)) a with
    | false=>rfl
    | true=>rw [if_pos q] at h;exact absurd rfl h
   rw [if_neg (by rw [hp];simp)]
   rw [hk] at HI
   rw [hd] at HD
   obtain ⟨ab,ao,hpe,_⟩:=HP.out.bat.2 (by have:=HN.out;omega)
   subst hpe
   have hcap:=HP.out.cap
   have hc17:(17:Int)≤(c:Int):=by have:=HN.out;omega
   have hc0:¬ ((c:Int)<17):=by omega
   have HCL:Hid (∀ x,Bs x (some ⟨ab,ao,none⟩) c b→Calls Tryz.prog 146 #[.int .i64 a,.slice (some ⟨ab,ao,none⟩) 17 c] x fun r w'=>r = .returned (SV (Sc.k0 (b.take 17)) (Sc.ep (b.take 17)) (Sc.nu (b.take 17)) a none 0 0)∧Below x.heap.size x w'):=fun x hx =>
    claimed_any a (b.take 17) _ c (by rw [List.length_take];have:=HN.out;omega) x (hx.take 17)
   generalize Sc.k0 (b.take 17)=k0 at *
   generalize Sc.ep (b.take 17)=e0 at *
   generalize Sc.nu (b.take 17)=n0 at *
   have HPL:Hid (∀ x,Calls Tryz.prog 126 #[SV k0 e0 n0 a none 0 0] x fun r x'=>r = .returned (.bool false)∧Below x.heap.size x x'):=fun x=>by have h:=inplace_any k0 e0 n0 a none 0 0 x;rw [hp] at h;exact h
   clear hk hd hp hcap
   go_enter Tryz.func100,Tryz.ntmps100
   go_upto_region 1 with (fail)
   change Code.wp _ _ _ _ (w.alloc (SO 0 0 0 0 none 0 0))
   obtain ⟨w0,hw0⟩:∃ x,x=w.alloc (SO 0 0 0 0 none 0 0):=⟨_,rfl⟩
   rw [← hw0] at B0 HS P0 ⊢
   clear hw0
   obtain ⟨d0,d1,d2,d3,d4⟩:=(HS.out _ (Below.refl _ _)).all
   obtain ⟨f0,f1,f2,f3,f4⟩:=(HS.out _ (Below.refl _ _)).fro
   go_upto_region 8 with (first
    | (go_at_call 125;refine (HI.out _).mono ?_;rintro e1 w1 ⟨rfl,rfl⟩)
    | (go_at_call 145;refine (HD.out _ P0.out).mono ?_;rintro e2 w2 ⟨rfl,rfl⟩)
    | (go_at_call 146;refine (HCL.out _ P0.out).mono ?_;rintro e3 w3 ⟨rfl,hb3⟩;have B3:=Lib.hid hb3;clear hb3))
   all_goals
    change Code.wp _ _ _ _ (w3.alloc (SO k0 e0 n0 a none 0 0))
    have S4:Hid (∀ y,Below (w3.alloc (SO k0 e0 n0 a none 0 0)).heap.size (w3.alloc (SO k0 e0 n0 a none 0 0)) y→SAt y w3.heap.size k0 e0 n0 a none 0 0):=fun y hy=>(SAt.new w3 k0 e0 n0 a none 0 0).old hy
    have B4:Hid (Below w0.heap.size w0 (w3.alloc (SO k0 e0 n0 a none 0 0))):=B3.out.alloc B3.out.size _
    obtain ⟨w4,hw4⟩:∃ x,x=w3.alloc (SO k0 e0 n0 a none 0 0):=⟨_,rfl⟩
    rw [← hw4] at S4 B4 ⊢
    clear hw4 d0 d1 d2 d3 d4 f0 f1 f2 f3 f4
    obtain ⟨x0,x1,x2,x3,x4⟩:=(S4.out _ (Below.refl _ _)).all
    go_wp2_with (go_at_call 126;refine (HPL.out _).mono ?_;rintro e5 w5 ⟨rfl,hb5⟩;have B5:Hid (Below w0.heap.size w0 w5):=B4.out.trans (hb5.mono B4.out.size);clear hb5;obtain ⟨d0,d1,d2,d3,d4⟩:=(HS.out _ B5.out).all;obtain ⟨f0,f1,f2,f3,f4⟩:=(HS.out _ B5.out).fro)
    have q:=gno (B0.out.trans (B5.out.mono B0.out.size)) (HS.out _ B5.out)
    refine bodyPost_ret (results_cell_tmp rfl _ _ w.heap.size 110 _ (0,0) _ rfl q.1.row Tryz.underlying110 rfl (by rw [ssize];rfl)) rfl ⟨rfl,q.2⟩
  ·rw [if_neg (fun q=>hd q.2)]
   rw [hk] at HI
   have hd2:(Sc.kd b==k)=false:=by simpa using hd
   generalize Sc.kd b=kb at *
   go_enter Tryz.func100,Tryz.ntmps100
   go_upto_region 1 with (fail)
   change Code.wp _ _ _ _ (w.alloc (SO 0 0 0 0 none 0 0))
   obtain ⟨w0,hw0⟩:∃ x,x=w.alloc (SO 0 0 0 0 none 0 0):=⟨_,rfl⟩
   rw [← hw0] at B0 HS P0 ⊢
   clear hw0
   obtain ⟨d0,d1,d2,d3,d4⟩:=(HS.out _ (Below.refl _ _)).all
   obtain ⟨f0,f1,f2,f3,f4⟩:=(HS.out _ (Below.refl _ _)).fro
   go_wp2_with (first
    | (go_at_call 125;refine (HI.out _).mono ?_;rintro e1 w1 ⟨rfl,rfl⟩)
    | (go_at_call 145;refine (HD.out _ P0.out).mono ?_;rintro e2 w2 ⟨rfl,rfl⟩))
   have q:=gno B0.out (HS.out _ (Below.refl _ _))
   refine bodyPost_ret (results_cell_tmp rfl _ _ w.heap.size 110 _ (0,0) _ rfl q.1.row Tryz.underlying110 rfl (by rw [ssize];rfl)) rfl ⟨rfl,q.2⟩
 ·rw [if_neg (fun q=>hk q.1)]
  have hk2:Sc.isK k=false:=by simpa using hk
  rw [hk2] at HI
  go_enter Tryz.func100,Tryz.ntmps100
  go_upto_region 1 with (fail)
  change Code.wp _ _ _ _ (w.alloc (SO 0 0 0 0 none 0 0))
  obtain ⟨w0,hw0⟩:∃ x,x=w.alloc (SO 0 0 0 0 none 0 0):=⟨_,rfl⟩
  rw [← hw0] at B0 HS P0 ⊢
  clear hw0
  obtain ⟨d0,d1,d2,d3,d4⟩:=(HS.out _ (Below.refl _ _)).all
  obtain ⟨f0,f1,f2,f3,f4⟩:=(HS.out _ (Below.refl _ _)).fro
  go_wp2_with (go_at_call 125;refine (HI.out _).mono ?_;rintro e1 w1 ⟨rfl,rfl⟩)
  have q:=gno B0.out (HS.out _ (Below.refl _ _))
  refine bodyPost_ret (results_cell_tmp rfl _ _ w.heap.size 110 _ (0,0) _ rfl q.1.row Tryz.underlying110 rfl (by rw [ssize];rfl)) rfl ⟨rfl,q.2⟩
end
end Go.Proofs.YtnnalemboeccbaaGreatDoor

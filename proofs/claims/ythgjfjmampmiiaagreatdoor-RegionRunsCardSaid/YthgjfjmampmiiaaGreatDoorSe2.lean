/-
  C11, SeF, SeG, SeH (merged)
-/
import Derived.Test.YthgjfjmampmiiaaGreatDoorB10
import Derived.Deep.RegionLawGrows
import Derived.Test.YthgjfjmampmiiaaGreatDoorSe1
namespace Go.Proofs.YthgjfjmampmiiaaGreatDoor
open Go.Proofs.Tryz
set_option maxHeartbeats 2000000
set_option maxRecDepth 100000
section
section
open Go.RowKit
theorem xi {w:World} {B n:Nat} {v:Value} {l:List Int} (h:w.ownsRow B 5 1 v n (aC l)) (hb:ai.aY l) :
  ∃ (p:Option Addr) (c:Nat),v = .slice p n c∧l.length=n∧cX w p l∧(p=none→l = []∧c=0)∧n≤c∧c≤9223372036854775807∧(∀ b o s,p=some ⟨b,o,s⟩→B≤b∧o=0∧s=none):=by
 have hl:l.length=n:=by have:=h.1;unfold aC at this;simpa using this
 rcases h.2 with ⟨rfl,rfl⟩ | ⟨g,cap,cur,rfl,q0,_,h1,h2,_⟩
 ·obtain rfl:l = []:=List.eq_nil_of_length_eq_zero hl;exact ⟨none,0,rfl,rfl,⟨hb,fun h0=>by simp at h0⟩,fun _=>⟨rfl,rfl⟩,Nat.le_refl _,by omega,fun b o s e=>by cases e⟩
 ·refine ⟨_,cap,rfl,hl,⟨hb,fun h0=>⟨g,0,rfl,fun j hj=>?_⟩⟩,(fun e=>by cases e),h1,(by unfold maxLen at h2;omega),(fun b o s e=>by cases e;exact ⟨q0,rfl,rfl⟩)⟩;rw [Nat.zero_add];exact dc h j (by omega)
structure fI (L X:List Int) (w:World) (q:Option Addr) (cq:Nat) (w':World):Prop where
 own:w'.ownsRow w.heap.size 5 1 (.slice q L.length cq) L.length (aC X)
 bat:cX w' q X
 len:X.length=L.length
 none:q = .none→X = []∧cq=0
 cap:L.length≤cq∧cq≤9223372036854775807
 below:qw w w'
theorem aeJ (c:Nat) (ks:List Int) (N:Nat) (e n:Int) (L:List Int) (p:Option Addr) (cap:Nat) (hL:L.length≤1000000000) (Fi:p=none→L = []∧cap=0) (hn:ks.length=4*(N+2)) (hN:N≤100) (w:World) (hp:cX w p L) (hC:fx w c ag.TB ks) :
  qc 221 #[qp c,.int .i64 e,.int .i64 n,.slice p L.length cap] w fun r w'=>∃ q cq,r = .returned (.slice q L.length cq)∧Hid (fI L (bg.xs (bg.eV ks N (e % 18446744073709551616) (n % 18446744073709551616)) L) w q cq w'):=by
 refine (acY c ks N e n L p cap hL Fi hn hN w hp hC).mono ?_;rintro r w' ⟨v,rfl,ho,hb⟩;obtain ⟨q,cq,rfl,h1,h2,h3,h4,h5,_⟩:=xi ho (bg.uN _ _);exact ⟨q,cq,rfl,ho,h2,h1,h3,⟨h4,h5⟩,hb⟩
end
section
open Go.RowKit
end
section
open Go.RowKit
def fp (ks:List Int) (N:Nat) (e n:Int):Nat→List Int:=bg.eV ks N (e % 18446744073709551616) (n % 18446744073709551616)
theorem vJ {ks:List Int} {N:Nat} (hn:ks.length=4*(N+2)) (hN:N≤100) (c:Nat) (e n:Int) (L:List Int) (k:Nat) (hk:L.length=k) (p:Option Addr) (cap:Nat) (hL:k≤1000000000) (Fi:p=none→L = []∧cap=0) (w:World) (hp:cX w p L) (hC:fx w c ag.TB ks) :
  qc 221 #[qp c,.int .i64 e,.int .i64 n,.slice p k cap] w fun r w'=>∃ q cq,r = .returned (.slice q k cq)∧Hid (fI L (bg.xs (fp ks N e n) L) w q cq w'):=by
 subst hk;exact aeJ c ks N e n L p cap hL Fi hn hN w hp hC
attribute [irreducible] fp
end
section
open Go.RowKit
end
section
open Go.RowKit
end
section
open Go.RowKit
end
end
section
open Go.RowKit
theorem kr (K b:List Int):ai.aY (hm K b):=by unfold hm;exact qE _
theorem cX.take {w:World} {p:Option Addr} {l:List Int} (h:cX w p l) (k:Nat):cX w p (l.take k):=by
 rw [← List.take_append_drop k l] at h;exact h.pre
namespace an
def encS:ByteArray:={ data:=#[101,110,99,114,121,112,116] }
def tC:ByteArray:={ data:=#[97,117,116,104,101,110,116,105,99,97,116,101] }
def k1 (K:List Int):List Int:=(hm K (bl encS)).take 16
def ks (K:List Int):List Int:=ag.j7 ag.TB (k1 K)
def k2 (K:List Int):List Int:=hm K (bl tC)
theorem qg (K:List Int):(k1 K).length=16:=by unfold k1;rw [List.length_take,dS];rfl
theorem ik (K:List Int):(k2 K).length=32:=dS _ _
theorem abx (K:List Int):(ks K).length=4*(9+2):=aeT (k1 K) 4 (qg K)
theorem uk (K:List Int):ai.aY (k2 K):=kr _ _
attribute [irreducible] k1 ks k2
end an
def dX (w:World) (g:Nat) (K:List Int):Prop:=∃ c,Boxed w g c (an.k2 K)∧fx w c ag.TB (an.ks K)
theorem dX.av {w x:World} {g:Nat} {K:List Int} (h:dX w g K) (hb:qw w x):dX x g K:=by
 obtain ⟨c,h1,h2⟩:=h;exact ⟨c,h1.av hb,h2.below hb qn⟩
def agi (K:List Int) (w:World) (e:Ending) (w':World):Prop :=
 ∃ g,e = .returned (qp g)∧Hid (dX w' g K)∧qw w w'
theorem tW (hT:aV) (K:List Int) (p:Option Addr) (n c:Nat) (hn:K.length=n) (Cr:n≤100000) (w:World) (hp:Bs w p c K) (ht:cT w 0) :
  qc 9 #[.slice p n c] w (agi K w):=by
 subst hn;have HT:=qh hT;clear hT;have Ht:=qh ht;clear ht;have Hp:=qh hp;clear hp;have Dt:Hid (∀ x,qw w x→qc 32 #[.slice p K.length c,.string { data:=#[101,110,99,114,121,112,116] }] x (fW K (bl an.encS) x)):=fun x hx =>
  mu HT.out K an.encS p K.length c rfl Cr (by decide) x ((Hp.out.av hx).bat) Hp.out.cap.1 Hp.out.cap.2 (Ht.out.below hx Ht.out.lt)
 have AL:Hid (∀ x,qw w x→qc 32 #[.slice p K.length c,.string { data:=#[97,117,116,104,101,110,116,105,99,97,116,101] }] x (fW K (bl an.tC) x)):=fun x hx =>
  mu HT.out K an.tC p K.length c rfl Cr (by decide) x ((Hp.out.av hx).bat) Hp.out.cap.1 Hp.out.cap.2 (Ht.out.below hx Ht.out.lt)
 obtain ⟨A,An,Ak,Au⟩:∃ A:Array Value,Hid (A=((hm K (bl an.encS)).map (Value.int .u8)).toArray)∧Hid (A.size=32)∧Hid (A.all (·.oneCell')=true) :=
  ⟨_,rfl,by show _=_;simp [dS],all_oneCell_toArray (aw _)⟩
 obtain ⟨B,Ai,Aj,Ao⟩:∃ A:Array Value,Hid (A=((hm K (bl an.tC)).map (Value.int .u8)).toArray)∧Hid (A.size=32)∧Hid (A.all (·.oneCell')=true) :=
  ⟨_,rfl,by show _=_;simp [dS],all_oneCell_toArray (aw _)⟩
 have HN:Hid (∀ g x,x.heap[g]?=qo A 39→qc 33 #[.slice (some ⟨g,0,none⟩) 16 32] x fun e x'=>∃ c,e = .returned (.tuple #[qp c,.int .i64 0])∧Hid (fx x' c ag.TB (an.ks K))∧Hid (qw x x')):=fun g x hx=>by
  rw [An.out] at hx;have hb:cX x (some ⟨g,0,none⟩) (an.k1 K):=by unfold an.k1;exact (cU hx (kr _ _)).take 16
  refine (abQ (an.k1 K) 4 (by omega) (an.qg K) _ 32 (by omega) (by omega) x hb).mono ?_;rintro e x' ⟨c,h1,_,h2,h3⟩;exact ⟨c,h1,by unfold an.ks;exact h2,h3⟩
 have Sy:=Aj.out;go_enter func9,ntmps9;go_wp2_with (first
  | (go_at_call 32;refine (Dt.out _ (Below.refl _ w)).mono ?_;rintro e1 w1 ⟨rfl,Ag⟩;rw [← An.out];have B1:=qh Ag;clear Ag Dt)
  | ((with_reducible refine ak _ _ _ _ _ _ _ ?_ ?_ (heap_alloc_new _ _) (ae Tryz.ar Ak) ?_ Au.out ?_);(exact rfl);(exact rfl);(rw [Ak.out];rfl);intro w2 G2 BB;have B2:Hid (qw w w2):=BB.below (B1.out.alloc B1.out.size _) B1.out.size;clear BB)
  | (go_at_call 33;refine (HN.out _ _ G2.out).mono ?_;rintro e3 w3 ⟨c3,rfl,KR,As⟩;have B3:Hid (qw w w3):=B2.out.trans (As.out.mono B2.out.size);clear As HN)
  | (go_at_call 32;refine (AL.out _ B3.out).mono ?_;rintro e4 w4 ⟨rfl,AJ⟩;rw [← Ai.out];have B4:Hid (qw w w4):=B3.out.trans (AJ.mono B3.out.size);have MN:Hid (fx w4 c3 ag.TB (an.ks K)):=KR.out.below AJ qn;clear AJ AL))
 generalize Qp:Array.foldl _ _ (B.zipIdx 0) 0 32=FF;have SA:FF = #[qp c3]++B:=by
  rw [← Qp];exact abS _ B Aj.out (List.replicate 32 (Value.int .u8 0)) (by simp)
 clear Qp;subst SA;go_ret;have B5:qw w4 (w4.alloc (.cells (#[qp c3]++B) 83)):=qb w4 _;refine ⟨w4.heap.size,rfl,⟨c3,?_,MN.out.below B5 qn⟩,B4.out.trans (B5.mono B4.out.size)⟩;unfold Boxed an.k2;rw [← Ai.out];exact heap_alloc_new w4 _
end
section
open Go.RowKit
namespace an
def ct (K:List Int) (e n:Int) (L:List Int):List Int:=bg.xs (fp (ks K) 9 e n) L
theorem m9 (K:List Int) (e n:Int) (L:List Int):(ct K e n L).length=L.length:=bg.oV _ _
theorem po (K:List Int) (e n:Int) (L:List Int):ai.aY (ct K e n L):=bg.uN _ _
def tg (K:List Int) (e n:Int) (h t:List Int):List Int:=hm (k2 K) (zA h e n t)
theorem dq (K:List Int) (e n:Int) (h t:List Int):(tg K e n h t).length=32:=dS _ _
theorem gT (K:List Int) (e n:Int) (h t:List Int):ai.aY (tg K e n h t):=kr _ _
attribute [irreducible] ct tg
def sl (K:List Int) (e n:Int) (h L:List Int):List Int:=if bj e&&bj n then ct K e n L++tg K e n h (ct K e n L) else []
def op (K:List Int) (e n:Int) (h S:List Int):Option (List Int) :=
 if bj e&&bj n&&decide (32≤S.length)&&decide (S.drop (S.length-32)=tg K e n h (S.take (S.length-32))) then some (ct K e n (S.take (S.length-32))) else none
theorem oK {e n:Int} (he:bj e=true) (hn:bj n=true) (K h L:List Int):sl K e n h L=ct K e n L++tg K e n h (ct K e n L):=by unfold sl;rw [he,hn];rfl
theorem zX {e n:Int} (h0:(bj e&&bj n)=false) (K h L:List Int):sl K e n h L = []:=by unfold sl;rw [h0];rfl
theorem mi {e n:Int} (he:bj e=true) (hn:bj n=true) (K h L:List Int):(sl K e n h L).length=L.length+32:=by rw [oK he hn,List.length_append,m9,dq]
theorem uM (K:List Int) (e n:Int) (h L:List Int):ai.aY (sl K e n h L):=by
 unfold sl;split
 ·exact ai.aP (po _ _ _ _) (gT _ _ _ _ _)
 ·exact fun x hx=>by simp at hx
theorem af6 {K:List Int} {e n:Int} {h S p:List Int} (ho:op K e n h S=some p):ai.aY p:=by
 unfold op at ho;split at ho
 ·injection ho with h1
  rw [← h1];exact po _ _ _ _
 ·cases ho
theorem aa8 {e n:Int} (h0:(bj e&&bj n)=false) (K h S:List Int):op K e n h S=none:=by unfold op;rw [h0];rfl
theorem sx (K:List Int) (e n:Int) (h S:List Int) (hS:S.length<32):op K e n h S=none:=by
 unfold op;rw [show decide (32≤S.length)=false by simp;omega];simp
end an
theorem ug {L X:List Int} {w w':World} {q:Option Addr} {cq:Nat} (h:fI L X w q cq w'):Bs w' q cq X:=⟨h.bat,by rw [h.len];exact h.cap,h.none⟩
def ix (R:List Int) (w:World) (e:Ending) (w':World):Prop :=
 ∃ p c m,e = .returned (.slice p m c)∧R.length=m∧Hid (w'.ownsRow w.heap.size 5 1 (.slice p m c) m (aC R))∧Hid (Bs w' p c R)∧qw w w'
theorem n9 {R:List Int} {w w':World} {v:Value} {n:Nat} (ho:w'.ownsRow w.heap.size 5 1 v n (aC R)) (hR:ai.aY R) (hb:qw w w'):ix R w (.returned v) w':=by
 obtain ⟨p,c,rfl,hbs,hl⟩:=bH ho hR;subst hl;exact ⟨p,c,R.length,rfl,rfl,ho,hbs,hb⟩
theorem xW (hT:aV) (K h L:List Int) (g:Nat) (e n:Int) (ph pl:Option Addr) (nh nl ch cl:Nat) (BL:h.length=nh) (Cr:L.length=nl) (he:bj e=true) (hn:bj n=true)
  (w:World) (hg:dX w g K) (hh:Bs w ph ch h) (hl:Bs w pl cl L) (hs:nh+nl≤100000) (ht:cT w 0) :
  qc 216 #[qp g,.int .i64 e,.int .i64 n,.slice ph nh ch,.slice pl nl cl] w (ix (an.sl K e n h L) w):=by
 subst BL;subst Cr;obtain ⟨c,I4,DI⟩:=hg;have HT:=qh hT;clear hT;have Ht:=qh ht;clear ht;have Cw:=qh I4;clear I4;have A8:=qh DI;clear DI;have Hh:=qh hh;clear hh;have Hl:=qh hl;clear hl;have Hs:=qh hs;clear hs;have DW:0≤e∧e≤1099511627776:=by unfold bj at he;simpa using he
 have C0:0≤n∧n≤1099511627776:=by unfold bj at hn;simpa using hn
 have HE:Hid (∀ x,qc 218 #[.int .i64 e] x fun r x'=>r = .returned (.bool true)∧x'=x):=fun x=>by have h:=dE e x;rw [he] at h;exact h
 have HN:Hid (∀ x,qc 218 #[.int .i64 n] x fun r x'=>r = .returned (.bool true)∧x'=x):=fun x=>by have h:=dE n x;rw [hn] at h;exact h
 have CC:Hid (∀ x,qw w x→qc 221 #[qp c,.int .i64 e,.int .i64 n,.slice pl L.length cl] x fun r x'=>∃ q cq,r = .returned (.slice q L.length cq)∧Hid (fI L (an.ct K e n L) x q cq x')):=fun x hx=>by
  unfold an.ct;exact vJ (an.abx K) (by omega) c e n L L.length rfl pl cl (by have:=Hs.out;omega) Hl.out.nil x (Hl.out.av hx).bat (A8.out.below hx qn)
 obtain ⟨X,HX⟩:∃ X,Hid (X=an.ct K e n L):=⟨_,rfl⟩;have Bx:Hid (X.length=L.length):=by show _=_;rw [HX.out,an.m9]
 rw [← HX.out] at CC;obtain ⟨T,DF⟩:∃ T,Hid (T=an.tg K e n h X):=⟨_,rfl⟩;have Bq:Hid (T.length=32):=by show _=_;rw [DF.out,an.dq]
 have Dn:Hid (ai.aY T):=by show ai.aY T;rw [DF.out];exact an.gT _ _ _ _ _
 have JO:Hid (ai.aY X):=by show ai.aY X;rw [HX.out];exact an.po _ _ _ _
 have Fc:Hid (∀ x q cq,qw w x→Bs x q cq X→qc 220 #[qp g,.int .i64 e,.int .i64 n,.slice ph h.length ch,.slice q L.length cq] x (fj T x)):=fun x q cq hx hq=>by
  have h1:=wh HT.out (an.k2 K) (an.ik K) (an.uk K) g c e n (by omega) (by omega) h X ph q h.length L.length ch cq rfl Bx.out x (Cw.out.av hx) (Hh.out.av hx) hq (by have:=Hs.out;omega) (Ht.out.below hx Ht.out.lt);rw [DF.out];unfold an.tg;exact h1
 have Cd:Hid (an.sl K e n h L=X++T):=by show _=_;rw [an.oK he hn,← HX.out,← DF.out]
 rw [Cd.out];have IM:Hid (ai.aY (X++T)):=ai.aP JO.out Dn.out;obtain ⟨A,An,Ak,Au⟩:∃ A:Array Value,Hid (A=(T.map (Value.int .u8)).toArray)∧Hid (A.size=32)∧Hid (A.all (·.oneCell')=true) :=
  ⟨_,rfl,by show _=_;simp [Bq.out],all_oneCell_toArray (aw _)⟩
 have CY:w.cell? ⟨g,0,none⟩=some (qp c):=Cw.out.first;clear he hn DW C0;go_enter func216,ntmps216;go_wp2_with (first
  | (go_at_call 218;refine (HE.out _).mono ?_;rintro e1 w1 ⟨rfl,rfl⟩;clear HE)
  | (go_at_call 218;refine (HN.out _).mono ?_;rintro e2 w2 ⟨rfl,rfl⟩;clear HN)
  | (go_at_call 221;refine (CC.out _ (Below.refl _ _)).mono ?_;rintro e3 w3 ⟨q3,c3,rfl,Bv⟩;have B3:=qh Bv.out.below;have KI:=qh (ug Bv.out);have O3:=qh Bv.out.own;clear Bv CC)
  | (go_at_call 220;refine (Fc.out _ q3 c3 B3.out KI.out).mono ?_;rintro e4 w4 ⟨rfl,AJ⟩;rw [← An.out];have GW:=qh AJ;clear AJ Fc)
  | ((with_reducible refine ak _ _ _ _ _ _ _ ?_ ?_ (heap_alloc_new _ _) (ae Tryz.ar Ak) ?_ Au.out ?_);(exact rfl);(exact rfl);(rw [Ak.out];rfl);intro w5 G5 AZ;rw [An.out] at G5;have ME:=qh (AZ.below (qb w4 _) qn);have Kf:Hid (qw w3 w5):=GW.out.trans (ME.out.mono GW.out.size);have O5:=qh (aN O3.out Kf.out);have GX:=qh (eK (c:=32) (cU G5.out Dn.out) ⟨by rw [Bq.out];exact Nat.le_refl _,by omega⟩);have B5:Hid (Below _ _ w5):=B3.out.trans (Kf.out.mono B3.out.size);clear AZ G5)
  | (at_builtin;refine bV _ _ T _ _ _ _ _ 32 32 rfl rfl Bq.out GX.out O5.out (by have:=Hs.out;omega) B5.out.size ?_;intro v6 w6 Dy Er;have O6:=qh Dy;have B6:=qh (B5.out.grown Er B5.out.size (fun q hq=>(O5.out.lt q hq).1));clear Dy Er))
 go_ret;exact n9 O6.out IM.out B6.out
end
section
open Go.RowKit
theorem xR (g:Nat) (e n:Int) (vh vl:Value) (h0:(bj e&&bj n)=false) (w:World) :
  qc 216 #[qp g,.int .i64 e,.int .i64 n,vh,vl] w fun r w'=>r = .returned (.slice none 0 0)∧w'=w:=by
 have HI:Hid (∀ y x,qc 218 #[.int .i64 y] x fun r x'=>r = .returned (.bool (bj y))∧x'=x):=fun y x=>dE y x;by_cases he:bj e=true
 ·have hn:bj n=false:=by rw [he] at h0;simpa using h0
  go_enter func216,ntmps216;go_wp2_with (go_at_call 218;refine (HI.out _ _).mono ?_;rintro e1 w1 ⟨rfl,rfl⟩;first | rw [he] | rw [hn])
  go_ret;exact ⟨rfl,rfl⟩
 ·have DW:bj e=false:=by simpa using he
  go_enter func216,ntmps216;go_wp2_with (go_at_call 218;refine (HI.out _ _).mono ?_;rintro e1 w1 ⟨rfl,rfl⟩;rw [DW])
  go_ret;exact ⟨rfl,rfl⟩
theorem abR (K h L:List Int) (g:Nat) (e n:Int) (vh vl:Value) (h0:(bj e&&bj n)=false) (w:World) :
  qc 216 #[qp g,.int .i64 e,.int .i64 n,vh,vl] w (ix (an.sl K e n h L) w):=by
 rw [an.zX h0];refine (xR g e n vh vl h0 w).mono ?_;rintro r w' ⟨rfl,rfl⟩;exact ⟨none,0,0,rfl,rfl,(by unfold aC;exact World.ownsRow_nil _ _ _ _),dx _,Below.refl _ _⟩
theorem aaM (hT:aV) (K h L:List Int) (g:Nat) (e n:Int) (ph pl:Option Addr) (nh nl ch cl:Nat) (BL:h.length=nh) (Cr:L.length=nl)
  (w:World) (hg:dX w g K) (hh:Bs w ph ch h) (hl:Bs w pl cl L) (hs:nh+nl≤100000) (ht:cT w 0) :
  qc 216 #[qp g,.int .i64 e,.int .i64 n,.slice ph nh ch,.slice pl nl cl] w (ix (an.sl K e n h L) w):=by
 cases h0:(bj e&&bj n) with
 | false=>exact abR K h L g e n _ _ h0 w
 | true =>
  simp only [Bool.and_eq_true] at h0;exact xW hT K h L g e n ph pl nh nl ch cl BL Cr h0.1 h0.2 w hg hh hl hs ht
def bC (o:Option (List Int)) (w:World) (e:Ending) (w':World):Prop :=
 ∃ p c m,e = .returned (.tuple #[.slice p m c,.bool o.isSome])∧(o.getD []).length=m∧Hid (w'.ownsRow w.heap.size 5 1 (.slice p m c) m (aC (o.getD [])))∧Hid (Bs w' p c (o.getD []))∧qw w w'
theorem cO {w w':World} (hb:qw w w'):bC none w (.returned (.tuple #[.slice none 0 0,.bool false])) w' :=
 ⟨none,0,0,rfl,rfl,(by unfold aC;exact World.ownsRow_nil _ _ _ _),dx w',hb⟩
theorem rS (K h S:List Int) (g:Nat) (e n:Int) (vh:Value) (pS:Option Addr) (nS cS:Nat) (hnS:S.length=nS) (hs:nS≤200000) (h0:(bj e&&bj n)=false∨nS<32) (w:World) :
  qc 215 #[qp g,.int .i64 e,.int .i64 n,vh,.slice pS nS cS] w (bC (an.op K e n h S) w):=by
 rw [show an.op K e n h S=none by
  rcases h0 with h1 | h1
  ·exact an.aa8 h1 _ _ _
  ·exact an.sx _ _ _ _ _ (by omega)]
 have HI:Hid (∀ y x,qc 218 #[.int .i64 y] x fun r x'=>r = .returned (.bool (bj y))∧x'=x):=fun y x=>dE y x;have fin:bC none w (.returned (.tuple #[.slice none 0 0,.bool false])) w:=cO (Below.refl _ _);have hw:IntKind.i64.wrap ((nS:Int)-32)=(nS:Int)-32:=IntWalk.i64_in _ ⟨by omega,by omega⟩;by_cases he:bj e=true
 ·by_cases hn:bj n=true
  ·have Ae:(nS:Int)-32<0:=by
    rcases h0 with h1 | h1
    ·rw [he,hn] at h1;cases h1
    ·omega
   go_enter func215,ntmps215;go_wp2_with (go_at_call 218;refine (HI.out _ _).mono ?_;rintro e1 w1 ⟨rfl,rfl⟩;first | rw [he] | rw [hn])
   go_ret2;exact fin
  ·have C0:bj n=false:=by simpa using hn
   go_enter func215,ntmps215;go_wp2_with (go_at_call 218;refine (HI.out _ _).mono ?_;rintro e1 w1 ⟨rfl,rfl⟩;first | rw [he] | rw [C0])
   go_ret2;exact fin
 ·have DW:bj e=false:=by simpa using he
  go_enter func215,ntmps215;go_wp2_with (go_at_call 218;refine (HI.out _ _).mono ?_;rintro e1 w1 ⟨rfl,rfl⟩;rw [DW])
  go_ret2;exact fin
end
end Go.Proofs.YthgjfjmampmiiaaGreatDoor

/-
  B9, C12 (merged)
-/
import Derived.Test.YthgjfjmampmiiaaGreatDoorTurI4
import Derived.Test.YthgjfjmampmiiaaGreatDoorSe2
namespace Go.Proofs.YthgjfjmampmiiaaGreatDoor
open Go.Proofs.Tryz
set_option maxHeartbeats 2000000
set_option maxRecDepth 100000
section
section
open Go.RowKit
end
section
open Go.RowKit
theorem aiI (l:List Int) (hl:l.length=16) (hb:ai.aY l):ag.up (ag.nb l) 16=l:=by
 apply List.ext_getElem
 ·rw [ag.gX,hl]
 ·intro i h1 h2;rw [ag.gX] at h1;have h:=ag.fG (ag.nb l) 16 i h1;rw [List.getD_eq_getElem?_getD,List.getElem?_eq_getElem (by rw [ag.gX];exact h1)] at h;simp only [Option.getD_some] at h;rw [h];have hg:=ai.aW hb i;unfold ag.nb;rw [Int.toNat_of_nonneg hg.1,List.getD_eq_getElem?_getD,List.getElem?_eq_getElem h2]
  rfl
theorem ael (r:Nat→Nat) (hr:ag.qO r):ag.uu (ag.st r).a (ag.st r).b (ag.st r).c (ag.st r).d=ag.up r 16:=by
 have o:∀ k,k<4→ag.ob (ag.sw r k) = [(r (4*k):Int),(r (4*k+1):Int),(r (4*k+2):Int),(r (4*k+3):Int)]:=fun k hk =>
  ag.ait _ _ _ _ (hr _ (by omega)) (hr _ (by omega)) (hr _ (by omega)) (hr _ (by omega))
 unfold ag.st ag.uu ag.bk ag.up;apply List.map_congr_left
 intro j hj;rw [List.mem_range] at hj;rw [if_pos (by omega)];have key:∀ q t,q<4→t<4→(ag.ob ([ag.sw r 0,ag.sw r 1,ag.sw r 2,ag.sw r 3].getD q 0)).getD t 0=((r (4*q+t):Nat):Int):=fun q t hq ht=>by
  have e : [ag.sw r 0,ag.sw r 1,ag.sw r 2,ag.sw r 3].getD q 0=ag.sw r q:=by
   rcases (by omega:q=0∨q=1∨q=2∨q=3) with rfl | rfl | rfl | rfl<;>rfl
  rw [e,o q hq];rcases (by omega:t=0∨t=1∨t=2∨t=3) with rfl | rfl | rfl | rfl<;>rfl
 dsimp only;rw [key (j / 4) (j % 4) (by omega) (by omega),show 4*(j / 4)+j % 4=j by omega]
theorem uB (K:List Int) (n:Nat) (hn:n=4) (hK:K.length=4*n) (p:Option Addr) (cap:Nat) (Az:4*n≤cap) (BI:cap≤9223372036854775807) (w:World) (hp:cX w p K) :
  qc 75 #[.slice p (4*n) cap] w (aap K n w):=by
 subst hn;exact aa5 K hK p cap Az BI w hp
end
end
section
section
open Go.RowKit
namespace bg
def l6 (v:Int):List Int:=[v / 1099511627776 % 256,v / 4294967296 % 256,v / 16777216 % 256,v / 65536 % 256,v / 256 % 256,v % 256]
def l4 (v:Int):List Int:=[v / 16777216 % 256,v / 65536 % 256,v / 256 % 256,v % 256]
def bq (A B C:List Int) (k m:Nat):List Int:=(List.range 16).map fun (j:Nat)=>if j<k then A.getD j 0 else if 6≤j∧j<6+k then B.getD (j-6) 0 else if 12≤j∧j<12+m then C.getD (j-12) 0 else 0
theorem agO (A B C:List Int) (k m:Nat):(bq A B C k m).length=16:=by simp [bq]
theorem ahf (e n i:Int):bq (l6 e) (l6 n) (l4 i) 6 4=cb e n i:=rfl
theorem ae0 (A B C:List Int):bq A B C 0 0=List.replicate 16 0:=rfl
theorem ag2 (A B C:List Int) (k:Nat) (hk:k<6):((bq A B C k 0).set k (A.getD k 0)).set (6+k) (B.getD k 0)=bq A B C (k+1) 0:=by
 apply List.ext_getElem
 ·simp [bq]
 ·intro j h1 h2;have hj:j<16:=by simpa [bq] using h2
  rw [List.getElem_set,List.getElem_set];simp only [bq,List.getElem_map,List.getElem_range];by_cases c1:6+k=j
  ·subst c1;rw [if_pos rfl,if_neg (show ¬ 6+k<k+1 by omega),if_pos (show 6≤6+k∧6+k<6+(k+1) by omega),show 6+k-6=k by omega]
  ·rw [if_neg c1];by_cases c2:k=j
   ·subst c2;rw [if_pos rfl,if_pos (by omega)]
   ·rw [if_neg c2];by_cases c3:j<k
    ·rw [if_pos c3,if_pos (by omega)]
    ·rw [if_neg c3,if_neg (show ¬ j<k+1 by omega)];by_cases c4:6≤j∧j<6+k
     ·rw [if_pos c4,if_pos (show 6≤j∧j<6+(k+1) by omega)]
     ·rw [if_neg c4,if_neg (show ¬ (6≤j∧j<6+(k+1)) by omega)]
theorem agh (A B C:List Int) (m:Nat) (hm:m<4):(bq A B C 6 m).set (12+m) (C.getD m 0)=bq A B C 6 (m+1):=by
 apply List.ext_getElem
 ·simp [bq]
 ·intro j h1 h2;have hj:j<16:=by simpa [bq] using h2
  rw [List.getElem_set];simp only [bq,List.getElem_map,List.getElem_range];by_cases c1:12+m=j
  ·subst c1;rw [if_pos rfl,if_neg (by omega),if_neg (by omega),if_pos (by omega),show 12+m-12=m by omega]
  ·rw [if_neg c1];by_cases c3:j<6
   ·rw [if_pos c3,if_pos c3]
   ·rw [if_neg c3,if_neg c3];by_cases c4:6≤j∧j<6+6
    ·rw [if_pos c4,if_pos c4]
    ·rw [if_neg c4,if_neg c4];by_cases c5:12≤j∧j<12+m
     ·rw [if_pos c5,if_pos (by omega)]
     ·rw [if_neg c5,if_neg (by omega)]
attribute [irreducible] bq
end bg
def mH (l:List Int) (m:Nat) (w:World) (r:Ending) (w':World):Prop :=
 ∃ g c,r = .returned (.slice (some ⟨g,0,none⟩) m c)∧w.heap.size≤g∧Hid (∀ j,j<m→w'.cell? ⟨g,j,none⟩=some (.int .u8 (l.getD j 0)))∧Hid (qw w w')
theorem sy (e:Int) (w:World):qc 195 #[.int .i64 e,.int .i64 6] w (mH (bg.l6 (e % 18446744073709551616)) 6 w):=by
 obtain ⟨i0,hi,hz0,hz1,hz2⟩:=info_parts Tryz.bu;go_enter func195,ntmps195;go_wp2;go_loopw [5,6] (fun v i wr=>∃ k:Nat,k≤6∧i = .int .i64 (5-(k:Int))∧Hid (wr.ownsRow w.heap.size 5 1 v k (aC ((bg.l6 (e % 18446744073709551616)).take k)))∧Hid (qw w wr)) (fun _ i _=>(intOf i+1).toNat)
 case atStart=>exact ⟨0,Nat.zero_le _,rfl,by unfold aC;exact World.ownsRow_nil _ _ _ _,Below.refl _ _⟩
 case round =>
  obtain ⟨k,hk,rfl,HO,HB⟩:=hrel;rcases (by omega:k=0∨k=1∨k=2∨k=3∨k=4∨k=5∨k=6) with rfl | rfl | rfl | rfl | rfl | rfl | rfl
  ·go_wp2_with (first
    | (at_builtin;refine wpList_append_own _ rfl _ _ 22 rfl w.heap.size 5 i0 (.int .u8 0) 1 1 underlying22 hi hz0 hz1 hz2 rfl (by decide) _ _ _ rfl (HO.out.alloc _) ⟨wr.heap.size,0,none⟩ 1 1 [.int .u8 _] rfl rfl (bp _ _ _) (bN _) (by unfold maxLen;omega) (by omega) (by have:=HB.out.size;simp;omega) ?_)
    | go_in)
   intro v' w1 Aa Ac _;have Ag:=aF HB.out (HB.out.size) HO.out Ac;rw [aI,IntKind.wrap_u64] at Aa;have H1:Hid (w1.ownsRow w.heap.size 5 1 v' 1 (aC ((bg.l6 (e % 18446744073709551616)).take 1))):=Aa;clear Ac HO HB Aa;go_wp2;exact ⟨⟨1,by omega,rfl,H1.out,Ag⟩,by simp [intOf]⟩
  ·go_wp2_with (first
    | (at_builtin;refine wpList_append_own _ rfl _ _ 22 rfl w.heap.size 5 i0 (.int .u8 0) 1 1 underlying22 hi hz0 hz1 hz2 rfl (by decide) _ _ _ rfl (HO.out.alloc _) ⟨wr.heap.size,0,none⟩ 1 1 [.int .u8 _] rfl rfl (bp _ _ _) (bN _) (by unfold maxLen;omega) (by omega) (by have:=HB.out.size;simp;omega) ?_)
    | go_in)
   intro v' w1 Aa Ac _;have Ag:=aF HB.out (HB.out.size) HO.out Ac;rw [aI,IntKind.wrap_u64] at Aa;have H1:Hid (w1.ownsRow w.heap.size 5 1 v' 2 (aC ((bg.l6 (e % 18446744073709551616)).take 2))):=Aa;clear Ac HO HB Aa;go_wp2;exact ⟨⟨2,by omega,rfl,H1.out,Ag⟩,by simp [intOf]⟩
  ·go_wp2_with (first
    | (at_builtin;refine wpList_append_own _ rfl _ _ 22 rfl w.heap.size 5 i0 (.int .u8 0) 1 1 underlying22 hi hz0 hz1 hz2 rfl (by decide) _ _ _ rfl (HO.out.alloc _) ⟨wr.heap.size,0,none⟩ 1 1 [.int .u8 _] rfl rfl (bp _ _ _) (bN _) (by unfold maxLen;omega) (by omega) (by have:=HB.out.size;simp;omega) ?_)
    | go_in)
   intro v' w1 Aa Ac _;have Ag:=aF HB.out (HB.out.size) HO.out Ac;rw [aI,IntKind.wrap_u64] at Aa;have H1:Hid (w1.ownsRow w.heap.size 5 1 v' 3 (aC ((bg.l6 (e % 18446744073709551616)).take 3))):=Aa;clear Ac HO HB Aa;go_wp2;exact ⟨⟨3,by omega,rfl,H1.out,Ag⟩,by simp [intOf]⟩
  ·go_wp2_with (first
    | (at_builtin;refine wpList_append_own _ rfl _ _ 22 rfl w.heap.size 5 i0 (.int .u8 0) 1 1 underlying22 hi hz0 hz1 hz2 rfl (by decide) _ _ _ rfl (HO.out.alloc _) ⟨wr.heap.size,0,none⟩ 1 1 [.int .u8 _] rfl rfl (bp _ _ _) (bN _) (by unfold maxLen;omega) (by omega) (by have:=HB.out.size;simp;omega) ?_)
    | go_in)
   intro v' w1 Aa Ac _;have Ag:=aF HB.out (HB.out.size) HO.out Ac;rw [aI,IntKind.wrap_u64] at Aa;have H1:Hid (w1.ownsRow w.heap.size 5 1 v' 4 (aC ((bg.l6 (e % 18446744073709551616)).take 4))):=Aa;clear Ac HO HB Aa;go_wp2;exact ⟨⟨4,by omega,rfl,H1.out,Ag⟩,by simp [intOf]⟩
  ·go_wp2_with (first
    | (at_builtin;refine wpList_append_own _ rfl _ _ 22 rfl w.heap.size 5 i0 (.int .u8 0) 1 1 underlying22 hi hz0 hz1 hz2 rfl (by decide) _ _ _ rfl (HO.out.alloc _) ⟨wr.heap.size,0,none⟩ 1 1 [.int .u8 _] rfl rfl (bp _ _ _) (bN _) (by unfold maxLen;omega) (by omega) (by have:=HB.out.size;simp;omega) ?_)
    | go_in)
   intro v' w1 Aa Ac _;have Ag:=aF HB.out (HB.out.size) HO.out Ac;rw [aI,IntKind.wrap_u64] at Aa;have H1:Hid (w1.ownsRow w.heap.size 5 1 v' 5 (aC ((bg.l6 (e % 18446744073709551616)).take 5))):=Aa;clear Ac HO HB Aa;go_wp2;exact ⟨⟨5,by omega,rfl,H1.out,Ag⟩,by simp [intOf]⟩
  ·go_wp2_with (first
    | (at_builtin;refine wpList_append_own _ rfl _ _ 22 rfl w.heap.size 5 i0 (.int .u8 0) 1 1 underlying22 hi hz0 hz1 hz2 rfl (by decide) _ _ _ rfl (HO.out.alloc _) ⟨wr.heap.size,0,none⟩ 1 1 [.int .u8 _] rfl rfl (bp _ _ _) (bN _) (by unfold maxLen;omega) (by omega) (by have:=HB.out.size;simp;omega) ?_)
    | go_in)
   intro v' w1 Aa Ac _;have Ag:=aF HB.out (HB.out.size) HO.out Ac;rw [aI,IntKind.wrap_u64] at Aa;have H1:Hid (w1.ownsRow w.heap.size 5 1 v' 6 (aC ((bg.l6 (e % 18446744073709551616)).take 6))):=Aa;clear Ac HO HB Aa;go_wp2;exact ⟨⟨6,by omega,rfl,H1.out,Ag⟩,by simp [intOf]⟩
  ·obtain ⟨g,c,hv⟩:=cz HO.out (by decide);subst hv;go_wp2;go_ret;exact ⟨g,c,rfl,(HO.out.lt g rfl).1,fun j hj=>dc HO.out j hj,HB.out⟩
theorem zP (e:Int) (w:World):qc 195 #[.int .i64 e,.int .i64 4] w (mH (bg.l4 (e % 18446744073709551616)) 4 w):=by
 obtain ⟨i0,hi,hz0,hz1,hz2⟩:=info_parts Tryz.bu;go_enter func195,ntmps195;go_wp2;go_loopw [5,6] (fun v i wr=>∃ k:Nat,k≤4∧i = .int .i64 (3-(k:Int))∧Hid (wr.ownsRow w.heap.size 5 1 v k (aC ((bg.l4 (e % 18446744073709551616)).take k)))∧Hid (qw w wr)) (fun _ i _=>(intOf i+1).toNat)
 case atStart=>exact ⟨0,Nat.zero_le _,rfl,by unfold aC;exact World.ownsRow_nil _ _ _ _,Below.refl _ _⟩
 case round =>
  obtain ⟨k,hk,rfl,HO,HB⟩:=hrel;rcases (by omega:k=0∨k=1∨k=2∨k=3∨k=4) with rfl | rfl | rfl | rfl | rfl
  ·go_wp2_with (first
    | (at_builtin;refine wpList_append_own _ rfl _ _ 22 rfl w.heap.size 5 i0 (.int .u8 0) 1 1 underlying22 hi hz0 hz1 hz2 rfl (by decide) _ _ _ rfl (HO.out.alloc _) ⟨wr.heap.size,0,none⟩ 1 1 [.int .u8 _] rfl rfl (bp _ _ _) (bN _) (by unfold maxLen;omega) (by omega) (by have:=HB.out.size;simp;omega) ?_)
    | go_in)
   intro v' w1 Aa Ac _;have Ag:=aF HB.out (HB.out.size) HO.out Ac;rw [aI,IntKind.wrap_u64] at Aa;have H1:Hid (w1.ownsRow w.heap.size 5 1 v' 1 (aC ((bg.l4 (e % 18446744073709551616)).take 1))):=Aa;clear Ac HO HB Aa;go_wp2;exact ⟨⟨1,by omega,rfl,H1.out,Ag⟩,by simp [intOf]⟩
  ·go_wp2_with (first
    | (at_builtin;refine wpList_append_own _ rfl _ _ 22 rfl w.heap.size 5 i0 (.int .u8 0) 1 1 underlying22 hi hz0 hz1 hz2 rfl (by decide) _ _ _ rfl (HO.out.alloc _) ⟨wr.heap.size,0,none⟩ 1 1 [.int .u8 _] rfl rfl (bp _ _ _) (bN _) (by unfold maxLen;omega) (by omega) (by have:=HB.out.size;simp;omega) ?_)
    | go_in)
   intro v' w1 Aa Ac _;have Ag:=aF HB.out (HB.out.size) HO.out Ac;rw [aI,IntKind.wrap_u64] at Aa;have H1:Hid (w1.ownsRow w.heap.size 5 1 v' 2 (aC ((bg.l4 (e % 18446744073709551616)).take 2))):=Aa;clear Ac HO HB Aa;go_wp2;exact ⟨⟨2,by omega,rfl,H1.out,Ag⟩,by simp [intOf]⟩
  ·go_wp2_with (first
    | (at_builtin;refine wpList_append_own _ rfl _ _ 22 rfl w.heap.size 5 i0 (.int .u8 0) 1 1 underlying22 hi hz0 hz1 hz2 rfl (by decide) _ _ _ rfl (HO.out.alloc _) ⟨wr.heap.size,0,none⟩ 1 1 [.int .u8 _] rfl rfl (bp _ _ _) (bN _) (by unfold maxLen;omega) (by omega) (by have:=HB.out.size;simp;omega) ?_)
    | go_in)
   intro v' w1 Aa Ac _;have Ag:=aF HB.out (HB.out.size) HO.out Ac;rw [aI,IntKind.wrap_u64] at Aa;have H1:Hid (w1.ownsRow w.heap.size 5 1 v' 3 (aC ((bg.l4 (e % 18446744073709551616)).take 3))):=Aa;clear Ac HO HB Aa;go_wp2;exact ⟨⟨3,by omega,rfl,H1.out,Ag⟩,by simp [intOf]⟩
  ·go_wp2_with (first
    | (at_builtin;refine wpList_append_own _ rfl _ _ 22 rfl w.heap.size 5 i0 (.int .u8 0) 1 1 underlying22 hi hz0 hz1 hz2 rfl (by decide) _ _ _ rfl (HO.out.alloc _) ⟨wr.heap.size,0,none⟩ 1 1 [.int .u8 _] rfl rfl (bp _ _ _) (bN _) (by unfold maxLen;omega) (by omega) (by have:=HB.out.size;simp;omega) ?_)
    | go_in)
   intro v' w1 Aa Ac _;have Ag:=aF HB.out (HB.out.size) HO.out Ac;rw [aI,IntKind.wrap_u64] at Aa;have H1:Hid (w1.ownsRow w.heap.size 5 1 v' 4 (aC ((bg.l4 (e % 18446744073709551616)).take 4))):=Aa;clear Ac HO HB Aa;go_wp2;exact ⟨⟨4,by omega,rfl,H1.out,Ag⟩,by simp [intOf]⟩
  ·obtain ⟨g,c,hv⟩:=cz HO.out (by decide);subst hv;go_wp2;go_ret;exact ⟨g,c,rfl,(HO.out.lt g rfl).1,fun j hj=>dc HO.out j hj,HB.out⟩
theorem ua (d:Nat) (RC:World→Prop) (F:List Int→List Int) (hF:∀ M,(F M).length=16) (I6:∀ x x',RC x→qw x x'→RC x')
  (hblk:∀ M x,M.length=16→ai.aY M→RC x→qc 196 #[qp d,.agg (M.map (Value.int .u8)).toArray] x fun e x'=>e = .returned (.agg ((F M).map (Value.int .u8)).toArray)∧qw x x')
  (e n:Int) (i:Nat) (hi:i<4294967296) (w:World) (hC:RC w) :
  qc 182 #[qp d,.int .i64 e,.int .i64 n,.int .i64 i] w fun r w'=>r = .returned (.agg ((F (bg.cb (e % 18446744073709551616) (n % 18446744073709551616) i)).map (Value.int .u8)).toArray)∧Hid (qw w w'):=by
 have HW:Hid (∀ x,qw w x→RC x):=fun x hx=>I6 w x hC hx;obtain ⟨A,HA⟩:∃ A,Hid (A=bg.l6 (e % 18446744073709551616)):=⟨_,rfl⟩;obtain ⟨B,HB⟩:∃ A,Hid (A=bg.l6 (n % 18446744073709551616)):=⟨_,rfl⟩;obtain ⟨C,HC⟩:∃ A,Hid (A=bg.l4 ((i:Int) % 18446744073709551616)):=⟨_,rfl⟩;have Bg:Hid (∀ x,qc 195 #[.int .i64 e,.int .i64 6] x (mH A 6 x)):=fun x=>by rw [HA.out];exact sy e x
 have AD:Hid (∀ x,qc 195 #[.int .i64 n,.int .i64 6] x (mH B 6 x)):=fun x=>by rw [HB.out];exact sy n x
 have AV:Hid (∀ x,qc 195 #[.int .i64 i,.int .i64 4] x (mH C 4 x)):=fun x=>by rw [HC.out];exact zP i x
 have HM:Hid (bg.bq A B C 6 4=bg.cb (e % 18446744073709551616) (n % 18446744073709551616) i):=by
  show _=_;rw [HA.out,HB.out,HC.out,bg.ahf];congr 1;omega
 obtain ⟨X,CQ,Cm,Eb⟩:∃ X:Array Value,Hid (X=((F (bg.cb (e % 18446744073709551616) (n % 18446744073709551616) i)).map (Value.int .u8)).toArray)∧Hid (X.size=16)∧Hid (X.all (·.oneCell')=true):=⟨_,rfl,by show _=_;simp [hF],fe _⟩;have HK:Hid (∀ x,qw w x→qc 196 #[qp d,.agg ((bg.bq A B C 6 4).map (Value.int .u8)).toArray] x fun e x'=>e = .returned (.agg X)∧qw x x'):=fun x hx=>by
  have h:=hblk (bg.cb (e % 18446744073709551616) (n % 18446744073709551616) i) x (bg.qe _ _ _) (bg.aao _ _ _) (HW.out x hx);rw [HM.out,CQ.out];exact h
 rw [← CQ.out];clear HA HB HC HM HW CQ hblk I6 hF hC;have D6:Hid (∀ k m,(bg.bq A B C k m).length=16):=fun k m=>bg.agO _ _ _ _ _;obtain ⟨Y,Iq,M9⟩:∃ Y:Array Value,Hid (Y=((bg.bq A B C 6 4).map (Value.int .u8)).toArray)∧Hid (Y.size=16):=⟨_,rfl,by show _=_;simp [D6.out]⟩;rw [← Iq.out] at HK;go_enter func182,ntmps182;go_upto_region 2 with fail
 have Ch:Hid (((w.alloc (.cells qz 221)).alloc (.cells qz 221)).heap[w.heap.size]?=some (.cells qz 221 (0,0))):=heap_alloc2_old w _ _;have Cw:Hid (((w.alloc (.cells qz 221)).alloc (.cells qz 221)).heap[w.heap.size+1]?=some (.cells ((bg.bq A B C 0 0).map (Value.int .u8)).toArray 221 (0,0))):=by
  show _=_;rw [bg.ae0];exact heap_alloc2_new w _ _
 have Ai:Hid (qw w ((w.alloc (.cells qz 221)).alloc (.cells qz 221))):=(qb w _).alloc (by simp) _;generalize (w.alloc (.cells qz 221)).alloc (.cells qz 221)=w1 at *;go_upto_region 5 with (first
  | (go_at_call 195;refine (Bg.out _).mono ?_;rintro r w2 ⟨sa,ca,rfl,Tz,Ar,Al⟩;have Aj:Hid (qw w w2):=Ai.out.trans (Al.out.mono Ai.out.size);have BS:=qh ((Al.out.block _ (lt_of_block Ch.out)).trans Ch.out);have A8:=qh ((Al.out.block _ (lt_of_block Cw.out)).trans Cw.out);clear Al Bg)
  | (go_at_call 195;refine (AD.out _).mono ?_;rintro r w3 ⟨sb,cb,rfl,TA,AY,As⟩;have Ao:Hid (qw w w3):=Aj.out.trans (As.out.mono Aj.out.size);have DU:=qh ((As.out.block _ (lt_of_block BS.out)).trans BS.out);have FL:=qh ((As.out.block _ (lt_of_block A8.out)).trans A8.out);have JG:Hid (∀ j,j<6→w3.cell? ⟨sa,j,none⟩=some (.int .u8 (A.getD j 0))):=(fun j hj=>(As.out.cell (World.block_lt_of_cell? w2 _ (Ar.out j hj))).trans (Ar.out j hj));clear As AD)
  | (go_at_call 195;refine (AV.out _).mono ?_;rintro r w4 ⟨sc,cc,rfl,TC,F2,AJ⟩;have Av:Hid (qw w w4):=Ao.out.trans (AJ.out.mono Ao.out.size);have F1:=qh ((AJ.out.block _ (lt_of_block DU.out)).trans DU.out);have KX:=qh ((AJ.out.block _ (lt_of_block FL.out)).trans FL.out);have Lr:Hid (∀ j,j<6→w4.cell? ⟨sa,j,none⟩=some (.int .u8 (A.getD j 0))):=(fun j hj=>(AJ.out.cell (World.block_lt_of_cell? w3 _ (JG.out j hj))).trans (JG.out j hj));have Ls:Hid (∀ j,j<6→w4.cell? ⟨sb,j,none⟩=some (.int .u8 (B.getD j 0))):=(fun j hj=>(AJ.out.cell (World.block_lt_of_cell? w3 _ (AY.out j hj))).trans (AY.out j hj));clear AJ AV))
 have MS:Hid (sa ≠ w.heap.size+1∧sb ≠ w.heap.size+1∧sc ≠ w.heap.size+1):=by
  have h1:=lt_of_block Cw.out;have h2:=lt_of_block A8.out;have h3:=lt_of_block FL.out;exact ⟨by omega,by omega,by omega⟩
 clear Tz TA TC Ai Ch Cw Aj BS A8 Ao DU FL Ar AY JG;go_wp2;go_loopw [13] (fun v13 wr=>∃ k:Nat,k≤6∧v13 = .int .i64 k∧Hid (wr.heap[w.heap.size+1]?=some (.cells ((bg.bq A B C k 0).map (Value.int .u8)).toArray 221 (0,0)))∧Hid (aE (w.heap.size+1) w4 wr)) (fun v13 _=>6-(intOf v13).toNat)
 case atStart=>exact ⟨0,Nat.zero_le _,rfl,KX.out,aE.refl _ _⟩
 case round =>
  clear KX;obtain ⟨k,hk,rfl,HG,HO⟩:=hrel;by_cases Ae:k<6
  ·have c0:=HO.out.cell MS.out.1 (Lr.out k Ae);have c1:=HO.out.cell MS.out.2.1 (Ls.out k Ae);have d0:=cJ HG.out k (by rw [D6.out];omega);have f0:=frozen_of_row wr (w.heap.size+1) k _ _ HG.out;have GP:0≤(k:Int):=by omega
   have Ec:(k:Int)<6:=by omega
   have Ed:(k:Int)<16:=by omega
   have hw:IntKind.i64.wrap (6+(k:Int))=6+(k:Int):=IntWalk.i64_in _ ⟨by omega,by omega⟩;have Jj:0≤6+(k:Int):=by omega
   have Jk:6+(k:Int)<16:=by omega
   have EP:(6+(k:Int)).toNat=6+k:=by omega
   have F3:Hid (((bg.bq A B C k 0).set k (A.getD k 0)).set (6+k) (B.getD k 0)=bg.bq A B C (k+1) 0):=bg.ag2 A B C k Ae;generalize (bg.bq A B C k 0).getD k 0=z0 at d0;generalize hA:A.getD k 0=a0 at *;generalize hB:B.getD k 0=b0 at *;go_upto_region 9 with fail
   have G5:Hid ((wr.setCell ⟨w.heap.size+1,k,none⟩ (.int .u8 a0)).heap[w.heap.size+1]?=some (.cells (((bg.bq A B C k 0).set k a0).map (Value.int .u8)).toArray 221 (0,0))):=gM HG.out;have O5:Hid (aE (w.heap.size+1) w4 (wr.setCell ⟨w.heap.size+1,k,none⟩ (.int .u8 a0))):=HO.out.trans (bJ.setCell wr ⟨w.heap.size+1,k,none⟩ _).only;have c2:(wr.setCell ⟨w.heap.size+1,k,none⟩ (.int .u8 a0)).cell? ⟨sb,k,none⟩=some (.int .u8 b0):=(bJ.setCell wr ⟨w.heap.size+1,k,none⟩ (.int .u8 a0)).only.cell MS.out.2.1 c1;clear c0 c1 d0 f0 HG HO;generalize wr.setCell ⟨w.heap.size+1,k,none⟩ (.int .u8 a0)=w5 at *;have d1:=cJ G5.out (6+k) (by rw [List.length_set,D6.out];omega);have f1:=frozen_of_row w5 (w.heap.size+1) (6+k) _ _ G5.out;generalize (((bg.bq A B C k 0).set k a0)).getD (6+k) 0=z1 at d1;go_wp2;refine ⟨⟨k+1,by omega,by go_num,?_,?_⟩,by simp [intOf];omega⟩
   ·have h2:=gM (i:=6+k) (x:=b0) G5.out;rw [F3.out] at h2;exact h2
   ·exact O5.out.trans (bJ.setCell w5 ⟨w.heap.size+1,6+k,none⟩ _).only
  ·obtain rfl:k=6:=by omega
   clear Ae Lr Ls;have h16:(6:Int)≤((6:Nat):Int):=by decide
   go_wp2;obtain ⟨wo,rfl⟩:∃ wo:World,wo=wr:=⟨_,rfl⟩;go_loopw [14] (fun v14 wr=>∃ k:Nat,k≤4∧v14 = .int .i64 k∧Hid (wr.heap[w.heap.size+1]?=some (.cells ((bg.bq A B C 6 k).map (Value.int .u8)).toArray 221 (0,0)))∧Hid (aE (w.heap.size+1) w4 wr)) (fun v14 _=>4-(intOf v14).toNat)
   case atStart=>exact ⟨0,Nat.zero_le _,rfl,HG.out,HO.out⟩
   case round =>
    clear HG HO;obtain ⟨k,hk,rfl,HG,HO⟩:=hrel;by_cases Ae:k<4
    ·have c0:=HO.out.cell MS.out.2.2 (F2.out k Ae);have d0:=cJ HG.out (12+k) (by rw [D6.out];omega);have f0:=frozen_of_row wr (w.heap.size+1) (12+k) _ _ HG.out;have GP:0≤(k:Int):=by omega
     have Ec:(k:Int)<4:=by omega
     have hw:IntKind.i64.wrap (12+(k:Int))=12+(k:Int):=IntWalk.i64_in _ ⟨by omega,by omega⟩;have Jj:0≤12+(k:Int):=by omega
     have Jk:12+(k:Int)<16:=by omega
     have EP:(12+(k:Int)).toNat=12+k:=by omega
     have F3:Hid ((bg.bq A B C 6 k).set (12+k) (C.getD k 0)=bg.bq A B C 6 (k+1)):=bg.agh A B C k Ae;generalize (bg.bq A B C 6 k).getD (12+k) 0=z0 at d0;generalize Ui:C.getD k 0=a0 at *;go_wp2;refine ⟨⟨k+1,by omega,by go_num,?_,?_⟩,by simp [intOf];omega⟩
     ·have h2:=gM (i:=12+k) (x:=a0) HG.out;rw [F3.out] at h2;exact h2
     ·exact HO.out.trans (bJ.setCell wr ⟨w.heap.size+1,12+k,none⟩ _).only
    ·obtain rfl:k=4:=by omega
     have h17:(4:Int)≤((4:Nat):Int):=by decide
     have RU:Hid (wr.heap[w.heap.size+1]?=some (.cells Y 221 (0,0))):=by show _=_;rw [HG.out,Iq.out]
     have Qb:Hid (wr.heap[w.heap.size]?=some (.cells qz 221 (0,0))):=(HO.out.block _ (lt_of_block F1.out) (by omega)).trans F1.out;have Ez:Hid (qw w wr):=HO.out.below Av.out (by omega) Av.out.size;clear Ae HG HO F2 Av F1;go_wp2_with (first
      | ((with_reducible refine ay _ _ _ _ _ _ _ ?_ RU.out underlying221 ?_ (ae Tryz.cE M9) ?_);(exact rfl);(exact rfl))
      | (go_at_call 196;refine (HK.out _ Ez.out).mono ?_;rintro r w6 ⟨rfl,BJ⟩;have Br:Hid (qw w w6):=Ez.out.trans (BJ.mono Ez.out.size);have Si:=qh ((BJ.block _ (lt_of_block Qb.out)).trans Qb.out);clear BJ)
      | ((with_reducible refine ak _ _ _ _ _ _ _ ?_ ?_ Si.out (ae Tryz.cE Cm) ?_ Eb.out ?_);(exact rfl);(exact rfl);(rw [Cm.out];rfl);intro w7 G7 JS))
     exact bodyPost_ret (results_cell_row rfl _ _ w.heap.size 221 X (0,0) _ rfl G7.out underlying221 rfl (ae Tryz.cE Cm)) rfl ⟨rfl,JS.below Br.out (by omega)⟩
theorem k9 {ops:Array Oper} {o:Oper} {a:Act} {K:Act→World→Prop} {Q:Exit→Act→World→Prop} {E:Prop} (w0:World) (X:Int) 
  (s x:Operand) (base:Nat) (v:Value) (n:Nat) (l:List Int) (hg:o.guard=none) (hop:o.op=Op.call { callee:=Callee.builtin Builtin.append,args:=#[s,x],argTypes:=#[22,22] })
  (hs:a.eval s=v) (hx:a.eval x = .slice (some ⟨w0.heap.size,0,none⟩) 1 1) (Ap:w0.ownsRow base 5 1 v n (aC l)) (hn:n≤1000000) (hb:base≤w0.heap.size)
  (hK:∀ v' w',w'.ownsRow base 5 1 v' (n+1) (aC (l++[X]))→((w0.alloc (.cells #[.int .u8 X] 5)).drew).grownBy w' v.ownBlock→K (a.put o.dst v') w') :
  if Region.wanted o (yielded ops a.tmps)=true then Oper.wp prog o a (w0.alloc (.cells #[.int .u8 X] 5)).drew K Q else E:=by
 obtain ⟨i0,hi,hz0,hz1,hz2⟩:=info_parts Tryz.bu;refine eL hg s x 22 hop base 5 i0 (.int .u8 0) 1 1 underlying22 hi hz0 hz1 hz2 rfl (by decide) v n (aC l) hs (Ap.alloc _).drew ⟨w0.heap.size,0,none⟩ 1 1 [.int .u8 X] hx rfl ?_ (bN X) (by unfold maxLen;omega) (by omega) (by show _≤(w0.alloc _).heap.size;simp;omega) ?_
 ·intro j u hj
  match j,hj with
  | 0,hj=>simp at hj;subst hj;exact bp w0 X 5 0 _ rfl
 ·intro v' w' h1 h2;rw [aI] at h1;exact hK v' w' h1 h2
theorem et (w:World) (o:Obj) {r:Nat} (h:r<w.heap.size):(w.alloc o).heap[r]?=w.heap[r]?:=by
 show (w.heap.push o)[r]?=_;rw [Array.getElem?_push,if_neg (by omega)]
theorem aii {w:World} {B n G:Nat} {v:Value} {xs:List Value} {Y:Array Value} {fr:Nat × Nat} (hg:w.heap[G]?=some (.cells Y 221 fr)) (h:w.ownsRow B 5 1 v n xs):some G ≠ v.ownBlock:=by
 intro e;rcases h.2 with ⟨rfl,_⟩ | ⟨g,cap,cur,rfl,_,EJ,_⟩
 ·cases e
 ·simp only [Value.ownBlock,Option.some.injEq] at e;subst e;rw [EJ] at hg;simp only [Option.some.injEq,Obj.cells.injEq] at hg;exact absurd hg.2.1 (by decide)
theorem yV (X:List Int) (k:Nat) (hk:k<X.length):X.take k++[X.getD k 0]=X.take (k+1):=by
 rw [List.take_add_one,List.getElem?_eq_getElem hk,List.getD_eq_getElem?_getD,List.getElem?_eq_getElem hk];rfl
theorem aag (d:Nat) (S:Nat→List Int) (hS:∀ i,(S i).length=16) (e n:Int) (L:List Int) (p:Option Addr) (cap:Nat) (hL:L.length≤8192) (w:World) (hp:cX w p L)
  (hblk:∀ i x,i<4294967296→qw w x→qc 182 #[qp d,.int .i64 e,.int .i64 n,.int .i64 (i:Nat)] x fun r x'=>r = .returned (.agg ((S i).map (Value.int .u8)).toArray)∧Hid (qw x x')) :
  qc 159 #[qp d,.int .i64 e,.int .i64 n,.slice p L.length cap] w fun r w'=>∃ v,r = .returned v∧w'.ownsRow w.heap.size 5 1 v L.length (aC (bg.xs S L))∧qw w w':=by
 have HP:=qh hp;have HK:=qh hblk;have GJ:=qh hS;obtain ⟨X,HX⟩:∃ X,Hid (X=bg.xs S L):=⟨_,rfl⟩;have Bx:Hid (X.length=L.length):=by show _=_;rw [HX.out,bg.oV]
 have GL:Hid (∀ k j,j<16→16*k+j<L.length→X.take (16*k+j)++[bits .xor .u8 (L.getD (16*k+j) 0) ((S k).getD j 0)]=X.take (16*k+j+1)):=fun k j hj hk=>by
  rw [← yV X (16*k+j) (by rw [Bx.out];exact hk),HX.out,bg.zQ _ _ _ hk,show (16*k+j) / 16=k by omega,show (16*k+j) % 16=j by omega]
 rw [← HX.out];clear hp hblk hS HX;go_enter func159,ntmps159;go_wp2;go_loopw [9,10] (fun v9 v10 wr=>∃ k:Nat,16*k<L.length+16∧v10 = .int .i64 (16*(k:Int))∧Hid (wr.ownsRow w.heap.size 5 1 v9 (min (16*k) L.length) (aC (X.take (16*k))))∧Hid (qw w wr)) (fun _ v10 _=>L.length+16-(intOf v10).toNat)
 case atStart=>exact ⟨0,by omega,rfl,by rw [show min (16*0) L.length=0 by omega];unfold aC;exact World.ownsRow_nil _ _ _ _,Below.refl _ _⟩
 case round =>
  obtain ⟨k,hk,rfl,HO,HB⟩:=hrel;by_cases Ae:16*k<L.length
  ·have Ax:Hid (wr.ownsRow w.heap.size 5 1 u9 (16*k+0) (aC (X.take (16*k+0)))):=by
    have h:=HO.out;rw [show min (16*k) L.length=16*k by omega] at h;exact h
   clear HO;have Tl:16*(k:Int)<(L.length:Int):=by omega
   have d1:(16*(k:Int)).tdiv 16=k:=by rw [Int.tdiv_eq_ediv_of_nonneg (by omega)];omega
   have d2:IntKind.i64.wrap (k:Int)=k:=IntWalk.i64_in _ ⟨by omega,by omega⟩;obtain ⟨Y,Iq,M9,Sq⟩:∃ Y:Array Value,Hid (Y=((S k).map (Value.int .u8)).toArray)∧Hid (Y.size=16)∧Hid (Y.all (·.oneCell')=true):=⟨_,rfl,by show _=_;simp [GJ.out],fe _⟩;have D8:=qh (HK.out k wr (by omega) HB.out);rw [← Iq.out] at D8;go_upto_region 6 with (first
    | (go_at_call 182;refine D8.out.mono ?_;rintro r w2 ⟨rfl,Al⟩;have Aj:Hid (qw w w2):=HB.out.trans (Al.out.mono HB.out.size);have AA:Hid (w2.ownsRow w.heap.size 5 1 u9 (16*k+0) (aC (X.take (16*k+0)))):=aN Ax.out Al.out;have A8:Hid ((w2.alloc (.cells qz 221)).heap[w2.heap.size]?=some (.cells qz 221 (0,0))):=heap_alloc_new _ _;clear Al)
    | ((with_reducible refine ak _ _ _ _ _ _ _ ?_ ?_ A8.out (ae Tryz.cE M9) ?_ Sq.out ?_);(exact rfl);(exact rfl);(rw [M9.out];rfl);intro w3 G3 Dd))
   have Cg:Hid (w3.ownsRow w.heap.size 5 1 u9 (16*k+0) (aC (X.take (16*k+0)))):=aN AA.out (Dd.below (qb w2 _) qn);have Ao:Hid (qw w w3):=Aj.out.trans ((Dd.below (qb w2 _) qn).mono Aj.out.size);clear Ax HB D8 AA Aj A8 Dd;generalize w2.heap.size=G at *;go_wp2;go_loopw [9,12] (fun v9 v12 wr=>∃ j:Nat,j≤16∧16*k+j≤L.length∧v12 = .int .i64 j∧Hid (wr.ownsRow w.heap.size 5 1 v9 (16*k+j) (aC (X.take (16*k+j))))∧Hid (qw w wr)∧Hid (wr.heap[G]?=some (.cells Y 221 (0,0)))) (fun _ v12 _=>16-(intOf v12).toNat)
   case atStart=>exact ⟨0,by omega,by omega,rfl,Cg.out,Ao.out,G3.out⟩
   case round =>
    clear Cg Ao G3;obtain ⟨j,hj,I8,rfl,HO,HB,HG⟩:=hrel;have hw:IntKind.i64.wrap (16*(k:Int)+j)=16*(k:Int)+j:=IntWalk.i64_in _ ⟨by omega,by omega⟩;by_cases h1:j<16
    ·by_cases h2:16*k+j<L.length
     ·have h2i:16*(k:Int)+j<(L.length:Int):=by omega
      have h1i:(j:Int)<16:=by omega
      obtain ⟨ab,ao,Tv,JW⟩:=(HP.out.av HB.out).2 (by omega);subst Tv;have c0:=JW (16*k+j) h2;have Bb:=HG.out;rw [Iq.out] at Bb;have c1:=cJ Bb j (by rw [GJ.out];exact h1);have Cm:=qh (GL.out k j h1 h2);clear JW Bb;generalize L.getD (16*k+j) 0=x1 at *;generalize (S k).getD j 0=y1 at *;have f1:0≤16*(k:Int)+j:=by omega
      have f2:(16*(k:Int)+j).toNat=16*k+j:=by omega
      have f3:0≤(j:Int):=by omega
      have f4:(j:Int).toNat=j:=by omega
      go_wp2;have d7:wr.drew.cell? ⟨ab,ao+(16*k+j),none⟩=some (.int .u8 x1):=c0;have d8:wr.drew.cell? ⟨G,j,none⟩=some (.int .u8 y1):=c1;go_region_law ((with_reducible refine k9 wr _ (.tmp 37) (.tmp 48) w.heap.size u9 (16*k+j) (X.take (16*k+j)) ?_ ?_ ?_ ?_ HO.out ?_ ?_ ?_);(exact rfl);(exact rfl);(exact rfl);(exact rfl);omega;(exact HB.out.size);intro v' w4 Aa Ac;have Ag:=ia HB.out HB.out.size HO.out Ac)
      all_goals
       rw [Cm.out] at Aa;have KA:Hid (w4.heap[G]?=some (.cells Y 221 (0,0))):=(Ac.block _ (by have:=lt_of_block HG.out;show _<(wr.alloc _).heap.size;simp;omega) (aii HG.out HO.out)).trans ((et _ _ (lt_of_block HG.out)).trans HG.out);clear Ac HO HB Cm HG;go_wp2;exact ⟨⟨j+1,by omega,by omega,by go_num,Aa,Ag,KA.out⟩,by simp [intOf];omega⟩
     ·have h2i:(L.length:Int)≤16*(k:Int)+j:=by omega
      have h1i:(j:Int)<16:=by omega
      have Ct:Hid (wr.ownsRow w.heap.size 5 1 u9 (min (16*(k+1)) L.length) (aC (X.take (16*(k+1))))):=by
       have h:=HO.out;rw [List.take_of_length_le (by rw [Bx.out];omega)] at h;rw [show min (16*(k+1)) L.length=16*k+j by omega,List.take_of_length_le (by rw [Bx.out];omega)];exact h
      clear HO HG;go_wp2;exact ⟨⟨k+1,by omega,by go_num,Ct.out,HB.out⟩,by simp [intOf];omega⟩
    ·have h1i:(16:Int)≤(j:Int):=by omega
     have Ct:Hid (wr.ownsRow w.heap.size 5 1 u9 (min (16*(k+1)) L.length) (aC (X.take (16*(k+1))))):=by
      have h:=HO.out;rw [show 16*k+j=16*(k+1) by omega] at h;rw [show min (16*(k+1)) L.length=16*(k+1) by omega];exact h
     clear HO HG;go_wp2;exact ⟨⟨k+1,by omega,by go_num,Ct.out,HB.out⟩,by simp [intOf];omega⟩
  ·have Tl:(L.length:Int)≤16*(k:Int):=by omega
   have Ct:Hid (wr.ownsRow w.heap.size 5 1 u9 L.length (aC X)):=by
    have h:=HO.out;rw [show min (16*k) L.length=L.length by omega,List.take_of_length_le (by rw [Bx.out];omega)] at h;exact h
   clear HO;go_wp2;go_ret;exact ⟨_,rfl,Ct.out,HB.out⟩
theorem aeI (K:List Int) (LH:ai.aY K) (m:Nat) (hm:m=4∨m=6∨m=8) (hK:K.length=4*m) (B d:Nat) (M:List Int) (x:World) (hl:M.length=16) (hb:ai.aY M) (hc:bY B x d (4*(m+7)) (ag.up (ag.rb (ag.nC K m)) (16*(m+7)))) :
  qc 196 #[qp d,.agg (M.map (Value.int .u8)).toArray] x fun e x'=>e = .returned (.agg ((ag.nv ag.TB (ag.j7 ag.TB K) (m+5) M).map (Value.int .u8)).toArray)∧qw x x':=by
 have Nr:0<m:=by omega
 have h:=yr d (ag.up (ag.rb (ag.nC K m)) (16*(m+7))) (ag.rb (ag.nC K m)) (ag.nb M) (m+5) x hc.plain (by omega) (fun j hj=>⟨ag.fG _ _ _ (by omega),ag.afw K LH m j⟩) (ag.ajp _ hb);have e1:ag.up (ag.nb M) 16=M:=aiI _ hl hb;have e2:ag.up (ag.blR (ag.rb (ag.nC K m)) (m+5) (ag.nb M)) 16=ag.nv ag.TB (ag.j7 ag.TB K) (m+5) M:=by
  unfold ag.nv;rw [ag.af5 _ hb];obtain ⟨q1,q2⟩:=ag.adJ (ag.rb (ag.nC K m)) (ag.nb M) (ag.j7 ag.TB K) (m+5) (ag.ajp _ hb) (fun j _=>ag.afw K LH m j) (fun k hk=>ag.agS K LH m Nr hK k (by omega));rw [q1];exact (ael _ q2).symm
 rw [e1,e2] at h;exact h.mono fun e w' hh=>⟨hh.1,hh.2⟩
theorem zW (K:List Int) (LH:ai.aY K) (m:Nat) (hm:m=4∨m=6∨m=8) (hK:K.length=4*m) (B d:Nat) (e n:Int) (L:List Int) (p:Option Addr) (cap:Nat) (hL:L.length≤8192) (w:World) (hp:cX w p L) (hc:bY B w d (4*(m+7)) (ag.up (ag.rb (ag.nC K m)) (16*(m+7)))) :
  qc 159 #[qp d,.int .i64 e,.int .i64 n,.slice p L.length cap] w fun r w'=>∃ q cq,r = .returned (.slice q L.length cq)∧Hid (fI L (bg.xs (fp (ag.j7 ag.TB K) (m+5) e n) L) w q cq w'):=by
 refine (aag d (fp (ag.j7 ag.TB K) (m+5) e n) (fun i=>by unfold fp;exact jH _ _ _ _ _) e n L p cap hL w hp (fun i x hi hx=>?_)).mono ?_
 ·have h:=ua d (fun x=>bY B x d (4*(m+7)) (ag.up (ag.rb (ag.nC K m)) (16*(m+7)))) (ag.nv ag.TB (ag.j7 ag.TB K) (m+5)) (fun M=>ag.jC _ _ _ _) (fun x x' h hb=>h.aG hb) (fun M x hl hb hr=>aeI K LH m hm hK B d M x hl hb hr) e n i hi x (hc.aG hx);unfold fp bg.eV;exact h
 ·rintro r w' ⟨v,rfl,ho,hb⟩;obtain ⟨q,cq,rfl,h1,h2,h3,h4,h5,_⟩:=xi ho (bg.uN _ _);exact ⟨q,cq,rfl,ho,h2,h1,h3,⟨h4,h5⟩,hb⟩
end
section
open Go.ChangeShapes Go.WideShapes Go.RowKit
end
section
open Go.ChangeShapes Go.WideShapes Go.RowKit
end
end
end Go.Proofs.YthgjfjmampmiiaaGreatDoor

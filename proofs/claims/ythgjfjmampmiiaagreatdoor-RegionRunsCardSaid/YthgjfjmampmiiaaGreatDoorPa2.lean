/-
  PaM, PaN, PaO, PaP, PaQ, PaR, PaS, PaE2, PaRo (merged)
-/
import Derived.Test.YthgjfjmampmiiaaGreatDoorPa3
namespace Go.Proofs.YthgjfjmampmiiaaGreatDoor
open Go.Proofs.Tryz
set_option maxHeartbeats 2000000
set_option maxRecDepth 100000
section
open Go.RowKit
theorem Pk.ag5 (v:Int) (i:Nat) (hi:i≤7):v % 18446744073709551616 / 256 ^ i % 256=v / 256 ^ i % 256:=by
 match i,hi with
 | 0,_=>simp
 | 1,_=>simp;omega
 | 2,_=>simp;omega
 | 3,_=>simp;omega
 | 4,_=>simp;omega
 | 5,_=>simp;omega
 | 6,_=>simp;omega
 | 7,_=>simp;omega
theorem b9 (L:List Int) (v:Int) (p:Option Addr) (n c m:Nat) (hn:L.length=n) (hm:n+8=m) (hL:n≤1000000) (w:World) (hp:Bs w p c L) :
  qc 98 #[.slice p n c,.int .i64 v] w (aX (L++Pk.e8 v 8) m w):=by
 have HP:=qh hp;clear hp;have HN:=qh hn;clear hn;obtain ⟨i0,hi,hz0,hz1,hz2⟩:=info_parts Tryz.bu;have HO:Hid ((w.alloc (.cells #[] 5)).ownsRow w.heap.size 5 1 (.slice (some ⟨w.heap.size,0,none⟩) 0 0) 0 (aC [])):=by
  refine ⟨by unfold aC;rfl,Or.inr ⟨w.heap.size,0,_,rfl,Nat.le_refl _,heap_alloc_new w _,Nat.le_refl _,by unfold maxLen;omega,by simp,by unfold aC;simp⟩⟩
 have HB:Hid (qw w (w.alloc (.cells #[] 5))):=qb w _;have Bl:Hid (Bs (w.alloc (.cells #[] 5)) p c L):=HP.out.av HB.out;go_enter func98,ntmps98;go_wp2_with (first
  | (at_builtin;refine bV _ _ L w.heap.size _ _ _ p _ c rfl rfl HN.out Bl.out HO.out (by omega) (by simp) ?_;intro v5 w5 CF CE;have HO5:=qh CF;have Di:=qh CE;clear CF CE)
  | go_in)
 have Cc:Hid (w5.ownsRow w.heap.size 5 1 v5 (n+0) (aC (L++Pk.e8 v 0))):=by
  have h:=HO5.out;rw [List.nil_append] at h;rw [show Pk.e8 v 0 = [] from List.eq_nil_of_length_eq_zero (Pk.bF _ _),List.append_nil,Nat.add_zero];rw [Nat.zero_add] at h;exact h
 have Ay:Hid (qw w w5):=HB.out.grown Di.out (by simp) (fun q hq=>(HO.out.lt q hq).1);have HU:Hid (IntKind.u64.wrap v=v % 18446744073709551616):=by show _=_;unfold IntKind.wrap;simp [IntKind.signed,IntKind.bits]
 clear HO5 Di HO HB Bl;generalize IntKind.u64.wrap v=U at *;go_loopw [5,7] (fun u5 u7 wr=>∃ k:Nat,k≤8∧u7 = .int .i64 (7-(k:Int))∧Hid (wr.ownsRow w.heap.size 5 1 u5 (n+k) (aC (L++Pk.e8 v k)))∧Hid (qw w wr)) (fun _ u7 _=>(intOf u7+1).toNat)
 case atStart=>exact ⟨0,by omega,rfl,Cc.out,Ay.out⟩
 case round =>
  clear Cc Ay;obtain ⟨k,hk,rfl,HO,HB⟩:=hrel;by_cases Ae:k<8
  ·have GU:7-(k:Int)≥0:=by omega
   have AH:IntKind.i64.wrap (8*(7-(k:Int)))=8*(7-(k:Int)):=IntWalk.i64_in _ ⟨by omega,by omega⟩;have PC:wrap64 (8*(7-(k:Int)))=8*(7-(k:Int)):=IntWalk.wrap64_in _ ⟨by omega,by omega⟩;have FE:IntKind.u64.wrap (8*(7-(k:Int)))=8*(7-(k:Int)):=by unfold IntKind.wrap;simp [IntKind.signed,IntKind.bits];omega
   have Rb:(2:Int) ^ (8*(7-(k:Int))).toNat=256 ^ (7-k):=by
    rw [show (8*(7-(k:Int))).toNat=8*(7-k) by omega,Int.pow_mul]
    rfl
   have HX:Hid (U / 256 ^ (7-k) % 256=v / 256 ^ (7-k) % 256):=by show _=_;rw [HU.out];exact Pk.ag5 v (7-k) (by omega)
   have PE:(k:Int)≤7:=by omega
   go_wp2_with (first
    | (at_builtin;refine wpList_append_own _ rfl _ _ 22 rfl w.heap.size 5 i0 (.int .u8 0) 1 1 underlying22 hi hz0 hz1 hz2 rfl (by decide) _ _ _ rfl (HO.out.alloc _) ⟨wr.heap.size,0,none⟩ 1 1 [.int .u8 (U / 256 ^ (7-k) % 256)] rfl rfl (dp _ _ _) (ek _) (by unfold maxLen;omega) (by omega) (by have:=HB.out.size;simp;omega) ?_)
    | go_in)
   intro v' w1 Aa Ac _;have Ag:=aF HB.out (HB.out.size) HO.out Ac;rw [aI,HX.out,List.append_assoc,← Pk.acD] at Aa;have N6:=qh Aa;have NL:=qh Ag;clear Ac HO HB Aa Ag;go_wp2;refine ⟨⟨k+1,by omega,?_,N6.out,NL.out⟩,by simp [intOf];omega⟩;congr 1;omega
  ·obtain rfl:k=8:=by omega
   clear Ae;go_wp2;go_ret;obtain ⟨p',c',rfl,hbs,hlen⟩:=bH HO.out (ai.aP HP.out.bat.1 (Pk.pA v 8));have hl:(L++Pk.e8 v 8).length=m:=by rw [List.length_append,HN.out,Pk.bF];exact hm
   have h:=HO.out;rw [hl,hm] at h;rw [hl];exact ⟨p',c',rfl,h,hbs,HB.out⟩
theorem gz (L S:List Int) (hS:S.length=32) (hb:ai.aY S) (p:Option Addr) (n c m:Nat) (hn:L.length=n) (hm:n+32=m) (hL:n≤1000000) (w:World) (hp:Bs w p c L) :
  qc 99 #[.slice p n c,dz S] w (aX (L++S) m w):=by
 have HP:=qh hp;clear hp;have HN:=qh hn;clear hn;have HS:=qh hS;have Il:=qh hb;obtain ⟨i0,hi,hz0,hz1,hz2⟩:=info_parts Tryz.bu;obtain ⟨A,hA⟩:∃ A,Hid (A=(S.map (Value.int .u8)).toArray):=⟨_,rfl⟩;have Aw:Hid (A.size=32):=by show _=_;rw [hA.out];simp [hS]
 have Bj:=ae Tryz.ar Aw;have h1:A.all (·.oneCell')=true:=by rw [hA.out];exact all_oneCell_toArray (aw S)
 have e32:dz S = .agg A:=by unfold dz;rw [hA.out]
 have D7:Hid (∀ y:World,∀ k:Nat,k<32→y.heap[w.heap.size]?=qo A 39→y.cell? ⟨w.heap.size,k,none⟩=some (.int .u8 (S.getD k 0))):=fun y k hk hy=>by
  rw [hA.out] at hy;exact cZ hy k (by rw [HS.out];exact hk)
 rw [e32];clear hA hS hb;have R0:Hid ((w.alloc (.cells A 39)).heap[w.heap.size]?=qo A 39):=heap_alloc_new w _;have B0:Hid (qw w (w.alloc (.cells A 39))):=qb w _;go_enter func99,ntmps99;go_upto_region 1 with (fail)
 obtain ⟨w0,Ah⟩:∃ x,x=w.alloc (.cells A 39):=⟨_,rfl⟩;have Pq:Hid (w0.heap.size=w.heap.size+1):=by show _=_;rw [Ah];simp
 rw [← Ah] at B0 R0 ⊢;clear Ah;have HO:Hid ((w0.alloc (.cells #[] 5)).ownsRow w0.heap.size 5 1 (.slice (some ⟨w0.heap.size,0,none⟩) 0 0) 0 (aC [])):=by
  refine ⟨by unfold aC;rfl,Or.inr ⟨w0.heap.size,0,_,rfl,Nat.le_refl _,heap_alloc_new w0 _,Nat.le_refl _,by unfold maxLen;omega,by simp,by unfold aC;simp⟩⟩
 have HB:Hid (qw w0 (w0.alloc (.cells #[] 5))):=qb w0 _;have Bl:Hid (Bs (w0.alloc (.cells #[] 5)) p c L):=(HP.out.av B0.out).av HB.out;go_wp2_with (first
  | (at_builtin;refine bV _ _ L w0.heap.size _ _ _ p _ c rfl rfl HN.out Bl.out HO.out (by omega) (by simp) ?_;intro v5 w5 CF CE;have HO5:=qh CF;have Di:=qh CE;clear CF CE)
  | go_in)
 have Cc:Hid (w5.ownsRow w0.heap.size 5 1 v5 (n+0) (aC (L++S.take 0))):=by
  have h:=HO5.out;rw [List.nil_append,Nat.zero_add] at h;rw [List.take_zero,List.append_nil,Nat.add_zero];exact h
 have Ay:Hid (qw w0 w5):=HB.out.grown Di.out (by simp) (fun q hq=>(HO.out.lt q hq).1);clear HO5 Di HO HB Bl;go_loopw [5,6] (fun u5 u6 wr=>∃ k:Nat,k≤32∧u6 = .int .i64 k∧Hid (wr.ownsRow w0.heap.size 5 1 u5 (n+k) (aC (L++S.take k)))∧Hid (qw w0 wr)) (fun _ u6 _=>32-(intOf u6).toNat)
 case atStart=>exact ⟨0,by omega,rfl,Cc.out,Ay.out⟩
 case round =>
  clear Cc Ay;obtain ⟨k,hk,rfl,HO,HB⟩:=hrel;by_cases Ae:k<32
  ·have c0:=D7.out wr k Ae ((HB.out.block _ (by have:=Pq.out;omega)).trans R0.out);have HX:Hid (S.take k++[S.getD k 0]=S.take (k+1)):=b8 S k (by rw [HS.out];exact Ae);obtain ⟨x,hx⟩:∃ x,S.getD k 0=x:=⟨_,rfl⟩;rw [hx] at c0 HX;have PE:(k:Int)<32:=by omega
   go_wp2_with (first
    | (at_builtin;refine wpList_append_own _ rfl _ _ 22 rfl w0.heap.size 5 i0 (.int .u8 0) 1 1 underlying22 hi hz0 hz1 hz2 rfl (by decide) _ _ _ rfl (HO.out.alloc _) ⟨wr.heap.size,0,none⟩ 1 1 [.int .u8 x] rfl rfl (dp _ _ _) (ek _) (by unfold maxLen;omega) (by omega) (by have:=HB.out.size;simp;omega) ?_)
    | go_in)
   intro v' w1 Aa Ac _;have Ag:=aF HB.out (HB.out.size) HO.out Ac;rw [aI,List.append_assoc,HX.out] at Aa;have N6:=qh Aa;have NL:=qh Ag;clear Ac HO HB Aa Ag hx;go_wp2;exact ⟨⟨k+1,by omega,by go_num,N6.out,NL.out⟩,by simp [intOf];omega⟩
  ·obtain rfl:k=32:=by omega
   clear Ae;go_wp2;go_ret;have h:=HO.out;rw [List.take_of_length_le (by rw [HS.out];exact Nat.le_refl _)] at h;obtain ⟨p',c',rfl,hbs,hlen⟩:=bH h (ai.aP HP.out.bat.1 Il.out);have hl:(L++S).length=m:=by rw [List.length_append,HN.out,HS.out];exact hm
   rw [hl,hm] at h;rw [hl];exact ⟨p',c',rfl,fZ h (by have:=Pq.out;omega),hbs,B0.out.trans (HB.out.mono (by have:=Pq.out;omega))⟩
end
section
open Go.RowKit
theorem uY (L:List Int) (r:Int × List Int) (hS:r.2.length=32) (hb:ai.aY r.2) (p:Option Addr) (n c m:Nat) (hn:L.length=n) (hm:n+40=m) (hL:n≤900000) (w:World) (hp:Bs w p c L) :
  qc 100 #[.slice p n c,fU r] w (aX (L++Pk.ref r) m w):=by
 have HP:=qh hp;clear hp;have HN:=qh hn;clear hn;obtain ⟨k,S⟩:=r;have Ek:Hid (S.length=32):=hS;have Il:Hid (ai.aY S):=hb;clear hS hb;obtain ⟨A,An⟩:∃ A,Hid (A=(S.map (Value.int .u8)).toArray):=⟨_,rfl⟩;have Ak:Hid (A.size=32):=by show _=_;rw [An.out];simp [Ek.out]
 obtain ⟨B,Ai⟩:∃ B,Hid (B=(Value.int .i64 k :: S.map (Value.int .u8)).toArray):=⟨_,rfl⟩;have Aj:Hid (B.size=33):=by show _=_;rw [Ai.out];simp [Ek.out]
 have Bj:=ae Tryz.bm Aj;have h1:B.all (·.oneCell')=true:=by
  rw [Ai.out];apply all_oneCell_toArray
  intro v hv;simp at hv;rcases hv with rfl | ⟨x,_,rfl⟩<;>rfl
 have R0:Hid ((w.alloc (.cells B 41)).heap[w.heap.size]?=qo B 41):=heap_alloc_new w _;have B0:Hid (qw w (w.alloc (.cells B 41))):=qb w _;have HK:Hid (∀ y,Below (w.alloc (.cells B 41)).heap.size (w.alloc (.cells B 41)) y→y.cell? ⟨w.heap.size,0,none⟩=some (.int .i64 k)∧y.rangeAt w.heap.size 1 A.toList):=fun y hy=>by
  have h:=(hy.block w.heap.size (by simp)).trans R0.out;rw [Ai.out] at h;constructor
  ·rw [cell_of_row y w.heap.size 0 _ _ _ h];rfl
  ·intro j v hv;rw [cell_of_row y w.heap.size (1+j) _ _ _ h,Nat.add_comm];rw [An.out] at hv;simpa using hv
 have e33:fU (k,S) = .agg B:=by unfold fU;rw [Ai.out]
 have e32:dz S = .agg A:=by unfold dz;rw [An.out]
 have Kh:Hid (∀ y,qw w y→qc 98 #[.slice p n c,.int .i64 k] y (aX (L++Pk.e8 k 8) (n+8) y)):=fun y hy=>b9 L k p n c (n+8) HN.out rfl (by omega) y (HP.out.av hy);have ES:Hid (∀ y p1 c1,Bs y p1 c1 (L++Pk.e8 k 8)→qc 99 #[.slice p1 (n+8) c1,.agg A] y (aX (L++Pk.ref (k,S)) m y)):=fun y p1 c1 hy=>by
  rw [← e32,Pk.ref,← List.append_assoc];exact gz (L++Pk.e8 k 8) S Ek.out Il.out p1 (n+8) c1 m (by simp only [List.length_append,Pk.bF];rw [HN.out]) (by omega) (by omega) y hy
 clear Ai An;rw [e33];go_enter func100,ntmps100;go_upto_region 1 with (fail)
 refine wp_region_any (by kernel_rfl) ?_;change wpAny _ _ _ _ _ _ _ (World.drew _);obtain ⟨w1,hw1e⟩:∃ x,x=(w.alloc (.cells B 41)).drew:=⟨_,rfl⟩;have B1:Hid (qw w w1):=by rw [hw1e];exact B0.out.drew
 have B1':Hid (Below (w.alloc (.cells B 41)).heap.size (w.alloc (.cells B 41)) w1):=by rw [hw1e];exact (Below.refl _ _).drew
 rw [← hw1e];clear hw1e;refine wpAny_of_held (S:=fun y=>y.cell? ⟨w.heap.size,0,none⟩=some (.int .i64 k)∧y.rangeAt w.heap.size 1 A.toList) _ _ _ _ ?_;have SD:=HK.out _ B1'.out;refine aS 0 5 (.slice p n c) SD rfl (by intro x hx;go_simp) ?_;refine aS 1 6 (qp w.heap.size) SD rfl (by intro x hx;go_simp) ?_;refine aS 2 7 (.int .i64 k) SD rfl (by intro x hx;have h0:=hx.1;go_simp) ?_;refine aS 4 9 (.pointer (some ⟨w.heap.size,1,none⟩)) SD rfl (by intro x hx;go_simp) ?_;refine aS 5 10 (.agg A) SD rfl (fun x hx=>n7 39 (.tmp 9) w.heap.size 1 A _ rfl hx.2 underlying39 rfl (ae Tryz.ar Ak)) ?_;refine aD 3 (by kernel_rfl) ?_;refine wpOp_step rfl (fun Kc Af=>?_);go_simp;refine (Kh.out _ B1.out).mono ?_;rintro e2 w2 ⟨p2,c2,rfl,AA,Aj,AD⟩;dsimp only;have B2':Hid (Below (w.alloc (.cells B 41)).heap.size (w.alloc (.cells B 41)) w2):=B1'.out.trans (AD.out.mono B1'.out.size);have B2:Hid (qw w w2):=B1.out.trans (AD.out.mono B1.out.size);refine Af _ _ ⟨HK.out _ B2'.out,?_⟩;clear Af Kc SD;try simp only [Act.put,aQ,aR,aO]
 refine aD 6 (by kernel_rfl) ?_;refine wpOp_step rfl (fun Kc Af=>?_);go_simp;refine (ES.out _ _ _ Aj.out).mono ?_;rintro e3 w3 ⟨p3,c3,rfl,Cg,Ao,AV⟩;dsimp only;have B3':Hid (Below (w.alloc (.cells B 41)).heap.size (w.alloc (.cells B 41)) w3):=B2'.out.trans (AV.out.mono B2'.out.size);have B3:Hid (qw w w3):=B2.out.trans (AV.out.mono B2.out.size);refine Af _ _ ⟨HK.out _ B3'.out,?_⟩;clear Af Kc;try simp only [Act.put,aQ,aR,aO]
 have SD:=HK.out _ B3'.out;refine aD 7 (by kernel_rfl) ?_;refine wpOp_step rfl (fun Kc Af=>?_);go_simp;refine Af _ _ ⟨SD,?_⟩;clear Af Kc;refine wpAnyH_done (by kernel_rfl) ?_ _;go_wp2;go_ret;refine ⟨p3,c3,rfl,?_,Ao.out,B3.out⟩;have h:=fZ Cg.out B2.out.size;exact h
end
section
open Go.RowKit
structure cg (w:World) (g:Nat) (D:Option Nat) (L:List Int) (b:Bool):Prop where
 row:∃ p c a B,w.heap[g]?=qo #[.slice p (List.length B) c,.int .i64 (a:Nat),.bool b] 174∧Bs w p c B∧a≤B.length∧B.length≤1000000∧(b=false→L=B.drop a)∧(b=true→L = [])∧(∀ ad,p=some ad→D=some ad.block)
 ne:D ≠ some g
 lt:∀ d,D=some d→d<w.heap.size
theorem cg.glt {w:World} {g:Nat} {D:Option Nat} {L:List Int} {b:Bool} (h:cg w g D L b):g<w.heap.size:=by
 obtain ⟨p,c,a,B,h1,_⟩:=h.row;exact lt_of_block h1
theorem cg.only {w x:World} {g k:Nat} {D:Option Nat} {L:List Int} {b:Bool} (h:cg w g D L b) (ho:aE k w x) (hk:k ≠ g) (hd:D ≠ some k):cg x g D L b:=by
 obtain ⟨⟨p,c,a,B,h1,h2,h3,h6,h7,h8,h9⟩,h4,h5⟩:=h;exact ⟨⟨p,c,a,B,(ho.block g (lt_of_block h1) (Ne.symm hk)).trans h1,h2.only ho (fun ad ha e=>hd (by rw [h9 ad ha,e])),h3,h6,h7,h8,h9⟩,h4,fun d hd=>Nat.lt_of_lt_of_le (h5 d hd) ho.size⟩
theorem cg.av {w x:World} {g:Nat} {D:Option Nat} {L:List Int} {b:Bool} (h:cg w g D L b) (hb:qw w x):cg x g D L b:=by
 obtain ⟨⟨p,c,a,B,h1,h2,h3⟩,h4,h5⟩:=h;exact ⟨⟨p,c,a,B,(hb.block g (lt_of_block h1)).trans h1,h2.av hb,h3⟩,h4,fun d hd=>Nat.lt_of_lt_of_le (h5 d hd) hb.size⟩
def acd (L:List Int) (w:World) (e:Ending) (w':World):Prop :=
 ∃ g D,e = .returned (qp g)∧Hid (cg w' g D L false)∧Hid (w.heap.size≤g∧∀ d,D=some d→w.heap.size≤d)∧Hid (qw w w')
theorem kQ (L:List Int) (p:Option Addr) (n c:Nat) (hn:L.length=n) (hL:n≤1000000) (w:World) (hp:Bs w p c L) :
  qc 88 #[.slice p n c] w (acd L w):=by
 have HP:=qh hp;clear hp;have HN:=qh hn;clear hn;have HO:Hid ((w.alloc (.cells #[] 5)).ownsRow w.heap.size 5 1 (.slice (some ⟨w.heap.size,0,none⟩) 0 0) 0 (aC [])):=by
  refine ⟨by unfold aC;rfl,Or.inr ⟨w.heap.size,0,_,rfl,Nat.le_refl _,heap_alloc_new w _,Nat.le_refl _,by unfold maxLen;omega,by simp,by unfold aC;simp⟩⟩
 have HB:Hid (qw w (w.alloc (.cells #[] 5))):=qb w _;have Bl:Hid (Bs (w.alloc (.cells #[] 5)) p c L):=HP.out.av HB.out;go_enter func88,ntmps88;go_wp2_with (first
  | (at_builtin;refine bV _ _ L w.heap.size _ _ _ p _ c rfl rfl HN.out Bl.out HO.out (by omega) (by simp) ?_;intro v5 w5 CF CE;have HO5:=qh CF;have Di:=qh CE;clear CF CE;obtain ⟨p1,c1,rfl,hbs,_⟩:=bH HO5.out (ai.aP (fun x hx=>by cases hx) HP.out.bat.1);have Ay:=qh hbs;clear hbs)
  | go_in)
 go_ret;have Br:Hid (qw w w5):=HB.out.grown Di.out (by simp) (fun q hq=>(HO.out.lt q hq).1);have AU:Hid (qw w (w5.alloc (.cells #[.slice p1 L.length c1,.int .i64 0,.bool false] 174))):=Br.out.alloc Br.out.size _;have Jn:Hid (Bs (w5.alloc (.cells #[.slice p1 L.length c1,.int .i64 0,.bool false] 174)) p1 c1 L):=by
  have h:=Ay.out.av ((Below.refl _ w5).alloc qn (.cells #[.slice p1 L.length c1,.int .i64 0,.bool false] 174));rw [List.nil_append] at h;exact h
 have HD:Hid (∀ d,p1.map (·.block)=some d→w.heap.size≤d∧d<w5.heap.size):=fun d hd=>by
  cases p1 with
  | none=>cases hd
  | some ad =>
   cases hd
   obtain ⟨h2,h1⟩:=HO5.out.lt ad.block rfl;exact ⟨h2,h1⟩
 refine ⟨w5.heap.size,p1.map (·.block),rfl,⟨⟨p1,c1,0,L,heap_alloc_new w5 _,Jn.out,Nat.zero_le _,by rw [HN.out];omega,fun _=>by rw [List.drop_zero],fun h=>(by cases h),fun ad h=>by rw [h];rfl⟩,fun h=>?_,fun d hd=>?_⟩,⟨Br.out.size,fun d hd=>(HD.out d hd).1⟩,AU.out⟩
 ·have h1:=(HD.out _ h).2;omega
 ·have h1:=(HD.out _ hd).2;simp;omega
theorem eG (L:List Int) (b:Bool) (g:Nat) (D:Option Nat) (w:World) (hr:cg w g D L b):qc 131 #[qp g] w (jM L w):=by
 obtain ⟨p,c,a,B,h1,h2,h3,h6,h7,h8,h9⟩:=hr.row;have c0:w.cell? ⟨g,0,none⟩=some (.slice p B.length c):=by rw [cell_of_row w g 0 _ _ _ h1];rfl
 have c1:w.cell? ⟨g,1,none⟩=some (.int .i64 (a:Nat)):=by rw [cell_of_row w g 1 _ _ _ h1];rfl
 have c2:w.cell? ⟨g,2,none⟩=some (.bool b):=by rw [cell_of_row w g 2 _ _ _ h1];rfl
 cases b with
 | true =>
  have HE:=qh (h8 rfl);clear h1 h2 h3 h6 h7 h8 h9 hr;go_enter func131,ntmps131;go_wp2;go_ret;exact ⟨by rw [HE.out];rfl,Below.refl _ _⟩
 | false =>
  have HE:Hid (((B.length:Nat):Int)-((a:Nat):Int)=((L.length:Nat):Int)):=by
   show _=_;rw [h7 rfl,List.length_drop];omega
  clear h1 h2 h7 h8 h9 hr;generalize B.length=n at *;have hw:wrap64 ((n:Int)-(a:Int))=(n:Int)-(a:Int):=IntWalk.wrap64_in _ ⟨by omega,by omega⟩;go_enter func131,ntmps131;go_wp2;go_quiet (fail)
  go_wp2;go_ret;exact ⟨by rw [← HE.out];rfl,bI (Below.refl _ _) _⟩
theorem vj (L:List Int) (b:Bool) (g:Nat) (D:Option Nat) (w:World) (hr:cg w g D L b):qc 96 #[qp g] w (lG (Pk.en L b) w):=by
 obtain ⟨p,c,a,B,h1,h2⟩:=hr.row;have c2:w.cell? ⟨g,2,none⟩=some (.bool b):=by rw [cell_of_row w g 2 _ _ _ h1];rfl
 have HR:=qh hr;clear h1 h2 hr;cases b with
 | true =>
  go_enter func96,ntmps96;go_wp2;go_ret;exact ⟨rfl,Below.refl _ _⟩
 | false =>
  have HC:=qh (eG L false g D w HR.out);by_cases h0:0<L.length
  ·have HE:Hid (Pk.en L false=3):=by show _=_;unfold Pk.en;simp [h0]
   have h0':((L.length:Nat):Int)>0:=by omega
   go_enter func96,ntmps96;go_wp2_with (go_at_call 131;refine HC.out.mono ?_;rintro e1 w1 ⟨rfl,hb⟩)
   go_ret;exact ⟨by rw [HE.out];rfl,hb⟩
  ·have HE:Hid (Pk.en L false=0):=by show _=_;unfold Pk.en;simp [h0]
   have h0':¬ ((L.length:Nat):Int)>0:=by omega
   go_enter func96,ntmps96;go_wp2_with (go_at_call 131;refine HC.out.mono ?_;rintro e1 w1 ⟨rfl,hb⟩)
   go_ret;exact ⟨by rw [HE.out];rfl,hb⟩
end
section
open Go.RowKit
theorem cV {g:Nat} {w w':World} (h:qw w w'):aE g w w':=⟨h.os,h.tape,h.output,h.size,fun k hk _=>h.block k hk⟩
theorem Bs.drewN {w:World} {p:Option Addr} {c:Nat} {L:List Int} (h:Bs w p c L) (n:Nat):Bs (w.drewN n) p c L:=⟨h.bat.drewN n,h.cap,h.nil⟩
theorem cg.drewN {w:World} {g:Nat} {D:Option Nat} {L:List Int} {b:Bool} (h:cg w g D L b) (n:Nat):cg (w.drewN n) g D L b:=h.av ⟨rfl,rfl,rfl,Nat.le_refl _,fun _ _=>rfl⟩
theorem aE.drewN {g:Nat} {w x:World} (h:aE g w x) (n:Nat):aE g w (x.drewN n):=⟨h.os,h.tape,h.output,h.size,h.block⟩
def adH (g:Nat) (D:Option Nat) (w:World) (e:Ending) (w':World):Prop :=
 e = .returned (.tuple #[.slice none 0 0,.bool false])∧Hid (cg w' g D [] true)∧Hid (aE g w w')
theorem mM (L:List Int) (b:Bool) (g:Nat) (D:Option Nat) (n k:Nat) (hn:L.length=n) (hk:n<k) (w:World) (hr:cg w g D L b) :
  qc 128 #[qp g,.int .i64 (k:Nat)] w (adH g D w):=by
 have HC:Hid (∀ y,qw w y→qc 131 #[qp g] y fun e w'=>e = .returned (.int .i64 (n:Nat))∧qw y w'):=fun y hy=>by
  have h:=eG L b g D y (hr.av hy);unfold jM at h;rw [hn] at h;exact h
 have HR:=qh hr;have Ae:(n:Int)<(k:Int):=by omega
 have HF:Hid (∀ y,qw w y→(∃ v,y.cell? ⟨g,2,none⟩=some v)∧y.frozen? ⟨g,2,none⟩=false∧cg (y.setCell ⟨g,2,none⟩ (.bool true)) g D [] true):=fun y hy=>by
  obtain ⟨⟨p,c,a,B,h1,h2,h3,h6,h7,h8,h9⟩,h4,h5⟩:=HR.out.av hy;refine ⟨⟨.bool b,by rw [cell_of_row y g 2 _ _ _ h1];rfl⟩,frozen_of_row y g 2 _ _ h1,⟨p,c,a,B,?_,h2.only (bJ.setCell y ⟨g,2,none⟩ _).only (fun ad h e=>h4 (by rw [h9 ad h,e])),h3,h6,fun h=>(by cases h),fun _=>rfl,h9⟩,h4,fun d hd=>by simpa using h5 d hd⟩;rw [heap_setCell_same y g 2 _ _ _ h1]
  rfl
 have B0:Hid (qw w w):=Below.refl _ _;clear hr hn HR;go_enter func128,ntmps128;go_wp2_with (go_at_call 131;refine (HC.out _ B0.out).mono ?_;rintro e1 w1 ⟨rfl,hb⟩;obtain ⟨⟨v0,c0⟩,f0,hf⟩:=HF.out _ hb;have Hx:=qh hf;clear hf;have Ai:=qh hb;clear hb)
 go_ret2;exact ⟨rfl,Hx.out,(cV Ai.out).trans (bJ.setCell w1 ⟨g,2,none⟩ _).only⟩
def um (L:List Int) (k g:Nat) (D:Option Nat) (w:World) (e:Ending) (w':World):Prop :=
 ∃ ab o c,e = .returned (.tuple #[.slice (some ⟨ab,o,none⟩) k c,.bool true])∧Hid (Bs w' (some ⟨ab,o,none⟩) c (L.take k))∧Hid (cg w' g D (L.drop k) false)∧Hid (aE g w w')∧Hid (D=some ab)
theorem n8 (L:List Int) (b:Bool) (g:Nat) (D:Option Nat) (n k:Nat) (hn:L.length=n) (hk:k≤n) (h0:0<k) (w:World) (hr:cg w g D L b) :
  qc 128 #[qp g,.int .i64 (k:Nat)] w (um L k g D w):=by
 have LN:b=false:=by
  cases b with
  | false=>rfl
  | true =>
   obtain ⟨p,c,a,B,h1,h2,h3,h6,h7,h8,h9⟩:=hr.row;rw [h8 rfl] at hn;simp at hn;omega
 subst LN;have HC:Hid (∀ y,qw w y→qc 131 #[qp g] y fun e w'=>e = .returned (.int .i64 (n:Nat))∧qw y w'):=fun y hy=>by
  have h:=eG L false g D y (hr.av hy);unfold jM at h;rw [hn] at h;exact h
 have Ae:¬ (n:Int)<(k:Int):=by omega
 obtain ⟨⟨p,c,a,B,h1,h2,h3,h6,h7,h8,h9⟩,h4,h5⟩:=hr;have Kz:=h7 rfl;have Cr:n=B.length-a:=by rw [← hn,Kz,List.length_drop]
 obtain ⟨m,hm⟩:∃ m,B.length=m:=⟨_,rfl⟩;have Az:=h2.cap;obtain ⟨ab,ao,rfl,_⟩:=h2.bat.2 (by omega);have HD:Hid (D=some ab):=h9 _ rfl;have CJ:Hid (∀ y,qw w y→y.heap[g]?=qo #[.slice (some ⟨ab,ao,none⟩) m c,.int .i64 (a:Nat),.bool false] 174):=fun y hy=>by
  rw [← hm];exact (hy.block g (lt_of_block h1)).trans h1
 have Bl:Hid (∀ y,qw w y→Bs (y.setCell ⟨g,1,none⟩ (.int .i64 ((a:Int)+(k:Int)))) (some ⟨ab,ao,none⟩) c B):=fun y hy =>
  (h2.av hy).only (bJ.setCell y ⟨g,1,none⟩ _).only (fun ad h e=>h4 (by rw [h9 ad h,e]))
 have F5:Hid (∀ y,Bs y (some ⟨ab,ao,none⟩) c B→Bs y (some ⟨ab,ao+a,none⟩) (c-a) (L.take k)):=fun y hy=>by
  rw [Kz];exact (hy.oh (by omega)).take k
 have PS:Hid (L.drop k=B.drop (a+k)):=by show _=_;rw [Kz,List.drop_drop]
 have Du:Hid (∀ d,D=some d→d<w.heap.size):=h5;have Ea:Hid (D ≠ some g):=h4;have K6:Hid (B.length=m):=hm;have B0:Hid (qw w w):=Below.refl _ _;have Ut:m≤c:=by omega
 have Tm:a+k≤m:=by omega
 have Tn:m≤1000000:=by omega
 have DG:c≤9223372036854775807:=Az.2;clear hn h1 h2 h3 h4 h5 h6 h7 h8 h9 Kz Cr hm Az;have Ba:IntKind.i64.wrap ((a:Int)+(k:Int)-(k:Int))=(a:Int):=by rw [IntWalk.i64_in _ ⟨by omega,by omega⟩];omega
 have AH:wrap64 ((a:Int)+(k:Int)-(k:Int))=(a:Int):=by rw [IntWalk.wrap64_in _ ⟨by omega,by omega⟩];omega
 have JW:¬ c=a:=by omega
 have Gl:¬ ((a:Int)+(k:Int)<(a:Int)):=by omega
 have Is:¬ ((c:Int)<(a:Int)+(k:Int)):=by omega
 have SH:a+k-a=k:=by omega
 go_enter func128,ntmps128;go_upto_region 4 with (go_at_call 131;refine (HC.out _ B0.out).mono ?_;rintro e1 w1 ⟨rfl,hb⟩;have r1:=CJ.out _ hb;have c1:w1.cell? ⟨g,1,none⟩=some (.int .i64 (a:Nat)):=(by rw [cell_of_row w1 g 1 _ _ _ r1];rfl);have f1:=frozen_of_row w1 g 1 _ _ r1;have Ai:=qh hb;clear hb)
 go_upto_region 5 with (fail)
 have r1:=CJ.out _ Ai.out;have r2:=heap_setCell_same w1 g 1 _ _ (Value.int .i64 ((a:Int)+(k:Int))) r1;have Aj:=qh (Bl.out _ Ai.out);have AA:Hid (aE g w (w1.setCell ⟨g,1,none⟩ (.int .i64 ((a:Int)+(k:Int))))):=(cV Ai.out).trans (bJ.setCell w1 ⟨g,1,none⟩ _).only;have d0:(w1.setCell ⟨g,1,none⟩ (.int .i64 ((a:Int)+(k:Int)))).cell? ⟨g,0,none⟩=some (.slice (some ⟨ab,ao,none⟩) m c):=by rw [cell_of_row _ g 0 _ _ _ r2];rfl
 have d1:(w1.setCell ⟨g,1,none⟩ (.int .i64 ((a:Int)+(k:Int)))).cell? ⟨g,1,none⟩=some (.int .i64 ((a:Int)+(k:Int))):=by rw [cell_of_row _ g 1 _ _ _ r2];rfl
 have BS:Hid (cg (w1.setCell ⟨g,1,none⟩ (.int .i64 ((a:Int)+(k:Int)))) g D (L.drop k) false):=by
  refine ⟨⟨some ⟨ab,ao,none⟩,c,a+k,B,?_,Aj.out,by rw [K6.out];exact Tm,by rw [K6.out];exact Tn,fun _=>PS.out,fun h=>(by cases h),fun ad h=>(by cases h;exact HD.out)⟩,Ea.out,fun d hd=>Nat.lt_of_lt_of_le (Du.out d hd) AA.out.size⟩;rw [K6.out,Int.natCast_add];exact r2
 have CK:=qh (F5.out _ Aj.out);clear r1 r2 Ai CJ HC Bl F5 PS Aj;generalize w1.setCell ⟨g,1,none⟩ (.int .i64 ((a:Int)+(k:Int)))=w2 at *;go_quiet (fail)
 go_wp2;rw [SH];go_ret2;exact ⟨ab,ao+a,c-a,rfl,CK.out.drewN _,BS.out.drewN _,AA.out.drewN _,HD.out⟩
end
section
open Go.RowKit
def eH (v:Value) (L:List Int) (b:Bool) (g:Nat) (D:Option Nat) (w:World) (e:Ending) (w':World):Prop :=
 e = .returned v∧Hid (cg w' g D L b)∧Hid (aE g w w')
theorem cg.ok {w:World} {g:Nat} {D:Option Nat} {L:List Int} {b:Bool} (h:cg w g D L b) (h0:0<L.length):b=false:=by
 cases b with
 | false=>rfl
 | true =>
  obtain ⟨p,c,a,B,h1,h2,h3,h6,h7,h8,h9⟩:=h.row;rw [h8 rfl] at h0;simp at h0
def Pk.up (L:List Int) (k:Nat):Int:=Pk.be (L.take k)
theorem Pk.lH (L:List Int):Pk.up L 0=0:=by unfold Pk.up;rw [List.take_zero,Pk.abj]
theorem Pk.la (L:List Int) (k:Nat) (hk:k<L.length):Pk.up L k*256+L.getD k 0=Pk.up L (k+1):=by unfold Pk.up;rw [← b8 L k hk,Pk.oZ]
theorem Pk.ajh (L:List Int) (hb:ai.aY L) (h8:L.length=8):∀ k,k≤7→0≤Pk.up L k∧Pk.up L k<72057594037927936:=fun k hk=>by
 have h:=Pk.sA hb k (by omega);have h2:(256:Int) ^ k≤256 ^ 7:=by
  have h3:(256:Nat) ^ k≤256 ^ 7:=Nat.pow_le_pow_right (by omega) hk;have h4:((256 ^ k:Nat):Int)≤((256 ^ 7:Nat):Int):=Int.ofNat_le.2 h3;rw [Int.natCast_pow,Int.natCast_pow] at h4;exact h4
 unfold Pk.up;have e:(256:Int) ^ 7=72057594037927936:=rfl;omega
theorem Pk.ahu (L:List Int) (h8:L.length=8):wrap64 (Pk.up L 8)=Pk.j4 L:=by
 unfold Pk.up Pk.j4 wrap64;rw [List.take_of_length_le (by omega)]
attribute [irreducible] Pk.up
theorem dv (L:List Int) (b:Bool) (g:Nat) (D:Option Nat) (n:Nat) (hn:L.length=n) (w:World) (hr:cg w g D L b) :
  qc 89 #[qp g] w (eH (.int .i64 (Pk.vi L)) (Pk.nx 8 L) (Pk.nb 8 L b) g D w):=by
 have HN:=qh hn;by_cases Ae:n<8
 ·have HV:Hid (Value.int .i64 (Pk.vi L) = .int .i64 0):=by show _=_;unfold Pk.vi;rw [HN.out,if_pos Ae]
  have HX:Hid (Pk.nx 8 L = []):=by show _=_;unfold Pk.nx;rw [HN.out,if_pos Ae]
  have HB:Hid (Pk.nb 8 L b=true):=by show _=_;unfold Pk.nb;rw [HN.out,if_pos Ae]
  rw [HV.out,HX.out,HB.out];clear HV HX HB;have HC:=qh (mM L b g D n 8 hn Ae w hr);clear hr hn HN;go_enter func89,ntmps89;go_wp2_with (go_at_call 128;refine HC.out.mono ?_;rintro e1 w1 ⟨rfl,Ch,Ax⟩)
  go_ret;exact ⟨rfl,Ch,Ax⟩
 ·have LN:=hr.ok (by omega);subst LN;have HX:Hid (Pk.nx 8 L=L.drop 8):=by show _=_;unfold Pk.nx;rw [HN.out,if_neg Ae]
  have HB:Hid (Pk.nb 8 L false=false):=by show _=_;unfold Pk.nb;rw [HN.out,if_neg Ae]
  have HV:Hid (Pk.j4 (L.take 8)=Pk.vi L):=by
   show _=_;unfold Pk.vi;rw [HN.out,if_neg Ae]
  rw [HX.out,HB.out];clear HX HB;have Bq:Hid ((L.take 8).length=8):=by show _=_;rw [List.length_take];omega
  have HC:=qh (n8 L false g D n 8 hn (by omega) (by omega) w hr);obtain ⟨X,HXe⟩:∃ X,Hid (L.drop 8=X):=⟨_,rfl⟩;obtain ⟨Y,HYe⟩:∃ Y,Hid (L.take 8=Y):=⟨_,rfl⟩;unfold um at HC;rw [HXe.out,HYe.out] at HC;rw [HXe.out];rw [HYe.out] at HV Bq;rw [← HV.out];clear hr hn HN HXe HYe HV;go_enter func89,ntmps89;go_wp2_with (go_at_call 128;refine HC.out.mono ?_;rintro e1 w1 ⟨ab,o,c,rfl,Dm,Ch,Ax,Dt⟩)
  go_loopw [5,6] (fun u5 u6 wr=>∃ k:Nat,k≤8∧u6 = .int .i64 k∧u5 = .int .u64 (Pk.up Y k)∧wr=w1) (fun _ u6 _=>8-(intOf u6).toNat)
  case atStart=>exact ⟨0,by omega,rfl,by rw [Pk.lH],rfl⟩
  case round =>
   obtain ⟨k,hk,rfl,rfl,rfl⟩:=hrel;by_cases Ja:k<8
   ·obtain ⟨ab',o',CM,A7⟩:=Dm.out.bat.2 (by rw [Bq.out];omega);cases CM
    have c0:=A7 k (by rw [Bq.out];exact Ja);clear A7;have HS:=qh (Pk.la Y k (by rw [Bq.out];exact Ja));have hy:=Pk.ajh Y Dm.out.bat.1 Bq.out k (by omega);have hx:=ai.aW Dm.out.bat.1 k;generalize Y.getD k 0=x at *;obtain ⟨y,T0⟩:∃ y,Pk.up Y k=y:=⟨_,rfl⟩;rw [T0] at HS hy ⊢;have hu:∀ z:Int,0≤z∧z<18446744073709551616→IntKind.u64.wrap z=z:=fun z hz=>by unfold IntKind.wrap;simp [IntKind.signed,IntKind.bits];omega
    have Aq:=hu (y*256) ⟨by omega,by omega⟩;have Ba:=hu x ⟨by omega,by omega⟩;have AH:=hu (y*256+x) ⟨by omega,by omega⟩;clear hu;have PE:(k:Int)<8:=by omega
    have GU:(0:Int)≤(k:Int):=by omega
    go_wp2;exact ⟨⟨k+1,by omega,by go_num,congrArg (Value.int .u64) HS.out,trivial⟩,by simp [intOf];omega⟩
   ·obtain rfl:k=8:=by omega
    have HE:Hid (wrap64 (Pk.up Y 8)=Pk.j4 Y):=Pk.ahu Y Bq.out;clear Ja;go_wp2;go_ret;exact ⟨by rw [← HE.out];rfl,Ch,Ax⟩
end
section
open Go.RowKit
namespace Pk
def ts (L:List Int) (k:Nat):List Int:=L.take k++List.replicate (32-k) 0
theorem ad4 (L:List Int):(ts L 0).map (Value.int .u8)=List.replicate 32 (Value.int .u8 0):=by simp [ts]
theorem ag6 (L:List Int) (h:L.length=32) (k:Nat) (hk:k≤32):(ts L k).length=32:=by simp [ts];omega
theorem ahg (L:List Int) (h:L.length=32):ts L 32=L:=by unfold ts;rw [List.take_of_length_le (by omega)];simp
theorem adj (L:List Int) (h:L.length=32) (k:Nat) (hk:k<32):(ts L k).set k (L.getD k 0)=ts L (k+1):=by
 unfold ts;have hl:(L.take k).length=k:=by simp;omega
 rw [List.set_append_right _ _ (by omega),hl,Nat.sub_self,show 32-k=(32-(k+1))+1 by omega,List.replicate_succ,List.set_cons_zero,← b8 L k (by omega),List.append_assoc]
 rfl
attribute [irreducible] ts
end Pk
theorem jS (L:List Int) (b:Bool) (g:Nat) (D:Option Nat) (n:Nat) (hn:L.length=n) (w:World) (hr:cg w g D L b) :
  qc 94 #[qp g] w (eH (dz (Pk.vs L)) (Pk.nx 32 L) (Pk.nb 32 L b) g D w):=by
 have HN:=qh hn;have Bo:Hid (g<w.heap.size):=hr.glt;have DA:Hid (D ≠ some w.heap.size∧D ≠ some (w.heap.size+1)):=⟨fun h=>by have h1:=hr.lt _ h;omega,fun h=>by have h1:=hr.lt _ h;omega⟩;have B0:Hid (qw w ((w.alloc (.cells eO 39)).alloc (.cells eO 39))):=(qb w _).alloc (by simp) _;have R0:Hid (((w.alloc (.cells eO 39)).alloc (.cells eO 39)).heap[w.heap.size]?=qo eO 39):=heap_alloc2_old w _ _;have S0:Hid (((w.alloc (.cells eO 39)).alloc (.cells eO 39)).heap[w.heap.size+1]?=qo eO 39):=heap_alloc2_new w _ _;have BU:=qh (hr.av B0.out);have AB:Hid (eO.size=32):=rfl;have Cn:Hid (eO.all (·.oneCell')=true):=xz;by_cases Ae:n<32
 ·have HV:Hid (dz (Pk.vs L) = .agg eO):=by show _=_;unfold Pk.vs;rw [HN.out,if_pos Ae];unfold dz eO;rfl
  have HX:Hid (Pk.nx 32 L = []):=by show _=_;unfold Pk.nx;rw [HN.out,if_pos Ae]
  have HB:Hid (Pk.nb 32 L b=true):=by show _=_;unfold Pk.nb;rw [HN.out,if_pos Ae]
  rw [HV.out,HX.out,HB.out];clear HV HX HB;go_enter func94,ntmps94;go_upto_region 2 with (fail)
  change Code.wp _ _ _ _ ((w.alloc (.cells eO 39)).alloc (.cells eO 39));obtain ⟨w0,Ah⟩:∃ x,x=((w.alloc (.cells eO 39)).alloc (.cells eO 39)):=⟨_,rfl⟩;rw [← Ah] at B0 R0 S0 BU ⊢;clear Ah;have HC:=qh (mM L b g D n 32 hn Ae w0 BU.out);clear hr hn HN BU;generalize eO=Z at *;go_wp2_with (go_at_call 128;refine HC.out.mono ?_;rintro e1 w1 ⟨rfl,Ch,Ax⟩)
  have R1:=qh ((Ax.out.block _ (lt_of_block R0.out) (Nat.ne_of_gt Bo.out)).trans R0.out);have S1:=qh ((Ax.out.block _ (lt_of_block S0.out) (by have:=Bo.out;omega)).trans S0.out);go_loopw [6] (fun u6 wr=>u6 = .int .i64 0∧wr=w1) (fun _ _=>0)
  case atStart=>exact ⟨rfl,rfl⟩
  case round =>
   obtain ⟨rfl,rfl⟩:=hrel;go_wp2_with (first
    | ((with_reducible refine ay _ _ _ _ _ _ _ ?_ S1.out underlying39 ?_ (ae Tryz.ar AB) ?_);(exact rfl);(exact rfl))
    | ((with_reducible refine ak _ _ _ _ _ _ _ ?_ ?_ R1.out (ae Tryz.ar AB) ?_ Cn.out ?_);(exact rfl);(exact rfl);(exact rfl);intro w6 G6 AE))
   refine bodyPost_ret (results_cell_row rfl _ _ w.heap.size 39 Z (0,0) _ rfl G6.out underlying39 rfl (ae Tryz.ar AB)) rfl ⟨rfl,?_,?_⟩
   ·exact Ch.out.only AE.only (Nat.ne_of_gt Bo.out) DA.out.1
   ·exact (aE.behind B0.out Ax.out).new AE.only qn
 ·have LN:=hr.ok (by omega);subst LN;have HX:Hid (Pk.nx 32 L=L.drop 32):=by show _=_;unfold Pk.nx;rw [HN.out,if_neg Ae]
  have HB:Hid (Pk.nb 32 L false=false):=by show _=_;unfold Pk.nb;rw [HN.out,if_neg Ae]
  have HV:Hid (Pk.vs L=L.take 32):=by show _=_;unfold Pk.vs;rw [HN.out,if_neg Ae]
  rw [HX.out,HB.out,HV.out];clear HX HB HV;have Bq:Hid ((L.take 32).length=32):=by show _=_;rw [List.length_take];omega
  obtain ⟨X,HXe⟩:∃ X,Hid (L.drop 32=X):=⟨_,rfl⟩;obtain ⟨Y,HYe⟩:∃ Y,Hid (L.take 32=Y):=⟨_,rfl⟩;rw [HXe.out,HYe.out];obtain ⟨A,HA,Ak,Au⟩:∃ A:Array Value,Hid (dz Y = .agg A)∧Hid (A.size=32)∧Hid (A.all (·.oneCell')=true):=iA Y (by rw [← HYe.out];exact Bq.out);have Ro:Hid (A=((Pk.ts Y 32).map (Value.int .u8)).toArray):=by
   have h:=HA.out;unfold dz at h;cases h
   show _=_;rw [Pk.ahg Y (by rw [← HYe.out];exact Bq.out)]
  rw [HA.out];clear HA;go_enter func94,ntmps94;go_upto_region 2 with (fail)
  change Code.wp _ _ _ _ ((w.alloc (.cells eO 39)).alloc (.cells eO 39));obtain ⟨w0,Ah⟩:∃ x,x=((w.alloc (.cells eO 39)).alloc (.cells eO 39)):=⟨_,rfl⟩;rw [← Ah] at B0 R0 S0 BU ⊢;clear Ah;have HC:=qh (n8 L false g D n 32 hn (by omega) (by omega) w0 BU.out);unfold um at HC;rw [HXe.out,HYe.out] at HC;rw [HYe.out] at Bq;have S0':Hid (w0.heap[w.heap.size+1]?=qo ((Pk.ts Y 0).map (Value.int .u8)).toArray 39):=by
   show _=_;rw [Pk.ad4];exact S0.out
  clear hr hn HN BU HXe HYe S0;generalize eO=Z at *;go_wp2_with (go_at_call 128;refine HC.out.mono ?_;rintro e1 w1 ⟨ab,o,c,rfl,Dm,Ch,Ax,Dt⟩)
  have R1:=qh ((Ax.out.block _ (lt_of_block R0.out) (Nat.ne_of_gt Bo.out)).trans R0.out);have S1:=qh ((Ax.out.block _ (lt_of_block S0'.out) (by have:=Bo.out;omega)).trans S0'.out);go_loopw [6] (fun u6 wr=>∃ k:Nat,k≤32∧u6 = .int .i64 k∧Hid (wr.heap[w.heap.size+1]?=qo ((Pk.ts Y k).map (Value.int .u8)).toArray 39)∧Hid (bJ (w.heap.size+1) w1 wr)) (fun u6 _=>32-(intOf u6).toNat)
  case atStart=>exact ⟨0,by omega,rfl,S1.out,bJ.refl _ _⟩
  case round =>
   obtain ⟨k,hk,rfl,HG,HH⟩:=hrel;by_cases hl:k<32
   ·have HTr:Hid (Bs wr (some ⟨ab,o,none⟩) c Y):=Dm.out.only HH.out.only (fun ad h e=>by cases h;exact DA.out.2 (by rw [Dt.out];exact congrArg some e));obtain ⟨ab',o',CM,A7⟩:=HTr.out.bat.2 (by rw [Bq.out];omega);cases CM
    have c0:=A7 k (by rw [Bq.out];exact hl);clear A7;have HS:=qh (Pk.adj Y Bq.out k hl);have c1:=cZ HG.out k (by rw [Pk.ag6 Y Bq.out k hk];exact hl);have f1:=frozen_of_row wr (w.heap.size+1) k _ _ HG.out;obtain ⟨x,hx⟩:∃ x,Y.getD k 0=x:=⟨_,rfl⟩;rw [hx] at c0 HS;generalize (Pk.ts Y k).getD k 0=y at c1;have PE:(k:Int)<32:=by omega
    have GU:(0:Int)≤(k:Int):=by omega
    clear hx;go_wp2;refine ⟨⟨k+1,by omega,by go_num,?_,HH.out.trans (bJ.setCell wr ⟨w.heap.size+1,k,none⟩ _)⟩,by simp [intOf];omega⟩;have h2:=iN (i:=k) (x:=x) HG.out;rw [HS.out] at h2;exact h2
   ·obtain rfl:k=32:=by omega
    have A8:Hid (wr.heap[w.heap.size+1]?=qo A 39):=by rw [Ro.out];exact HG.out
    have R2:Hid (wr.heap[w.heap.size]?=qo Z 39):=(HH.out.block _ (by omega)).trans R1.out;clear hl;go_wp2_with (first
     | ((with_reducible refine ay _ _ _ _ _ _ _ ?_ A8.out underlying39 ?_ (ae Tryz.ar Ak) ?_);(exact rfl);(exact rfl))
     | ((with_reducible refine ak _ _ _ _ _ _ _ ?_ ?_ R2.out (ae Tryz.ar Ak) ?_ Au.out ?_);(exact rfl);(exact rfl);(rw [Ak.out,AB.out]);intro w6 G6 AE))
    refine bodyPost_ret (results_cell_row rfl _ _ w.heap.size 39 A (0,0) _ rfl G6.out underlying39 rfl (ae Tryz.ar Ak)) rfl ⟨rfl,?_,?_⟩
    ·exact (Ch.out.only HH.out.only (by have:=Bo.out;omega) DA.out.2).only AE.only (Nat.ne_of_gt Bo.out) DA.out.1
    ·exact ((aE.behind B0.out Ax.out).new HH.out.only (Nat.le_succ _)).new AE.only qn
end
section
open Go.RowKit
theorem cg.mark {w:World} {g:Nat} {D:Option Nat} {L:List Int} {b:Bool} (h:cg w g D L b) :
  (∃ v,w.cell? ⟨g,2,none⟩=some v)∧w.frozen? ⟨g,2,none⟩=false∧cg (w.setCell ⟨g,2,none⟩ (.bool true)) g D [] true:=by
 obtain ⟨⟨p,c,a,B,h1,h2,h3,h6,h7,h8,h9⟩,h4,h5⟩:=h;refine ⟨⟨.bool b,by rw [cell_of_row w g 2 _ _ _ h1];rfl⟩,frozen_of_row w g 2 _ _ h1,⟨p,c,a,B,?_,h2.only (bJ.setCell w ⟨g,2,none⟩ _).only (fun ad h e=>h4 (by rw [h9 ad h,e])),h3,h6,fun h=>(by cases h),fun _=>rfl,h9⟩,h4,fun d hd=>by simpa using h5 d hd⟩;rw [heap_setCell_same w g 2 _ _ _ h1]
 rfl
theorem aaD (L:List Int) (b:Bool) (g:Nat) (D:Option Nat) (n:Nat) (hn:L.length=n) (w:World) (hr:cg w g D L b) :
  qc 95 #[qp g] w (eH (fU (Pk.vr L)) (Pk.nx 40 L) (Pk.nb 40 L b) g D w):=by
 have HN:=qh hn;have Bo:Hid (g<w.heap.size):=hr.glt;have DA:Hid (D ≠ some w.heap.size):=fun h=>by have h1:=hr.lt _ h;omega
 have B0:Hid (qw w (w.alloc (.cells bS 41))):=qb w _;have R0:Hid ((w.alloc (.cells bS 41)).heap[w.heap.size]?=qo bS 41):=heap_alloc_new w _;have BU:=qh (hr.av B0.out);have AB:Hid (bS.size=33):=rfl;have Cn:Hid (bS.all (·.oneCell')=true):=wS;by_cases Ae:n<40
 ·have HV:Hid (fU (Pk.vr L) = .agg bS):=by show _=_;unfold Pk.vr;rw [HN.out,if_pos Ae];unfold fU bS;rfl
  have HX:Hid (Pk.nx 40 L = []):=by show _=_;unfold Pk.nx;rw [HN.out,if_pos Ae]
  have HB:Hid (Pk.nb 40 L b=true):=by show _=_;unfold Pk.nb;rw [HN.out,if_pos Ae]
  rw [HV.out,HX.out,HB.out];clear HV HX HB;go_enter func95,ntmps95;go_upto_region 1 with (fail)
  change Code.wp _ _ _ _ (w.alloc (.cells bS 41));obtain ⟨w0,Ah⟩:∃ x,x=w.alloc (.cells bS 41):=⟨_,rfl⟩;rw [← Ah] at B0 R0 BU ⊢;clear Ah;have HC:Hid (qc 131 #[qp g] w0 fun e w'=>e = .returned (.int .i64 (n:Nat))∧qw w0 w'):=by
   have h:=eG L b g D w0 BU.out;unfold jM at h;rw [hn] at h;exact h
  have Gq:(n:Int)<40:=by omega
  clear hr hn HN;go_upto_region 3 with (go_at_call 131;refine HC.out.mono ?_;rintro e1 w1 ⟨rfl,hb⟩;obtain ⟨⟨v0,c0⟩,f0,hf⟩:=(BU.out.av hb).mark;have Hx:=qh hf;clear hf;have Ai:=qh hb;clear hb)
  have Ax:Hid (aE g w0 (w1.setCell ⟨g,2,none⟩ (.bool true))):=(cV Ai.out).trans (bJ.setCell w1 ⟨g,2,none⟩ _).only;have R1:=qh ((Ax.out.block _ (lt_of_block R0.out) (Nat.ne_of_gt Bo.out)).trans R0.out);go_wp2_with (first
   | ((with_reducible refine ak _ _ _ _ _ _ bS ?_ ?_ R1.out (ae Tryz.bm AB) ?_ Cn.out ?_);(exact rfl);(exact rfl);(exact rfl);intro w6 G6 AE))
  refine bodyPost_ret (results_cell_row rfl _ _ w.heap.size 41 bS (0,0) _ rfl G6.out underlying41 rfl (ae Tryz.bm AB)) rfl ⟨rfl,?_,?_⟩
  ·exact Hx.out.only AE.only (Nat.ne_of_gt Bo.out) DA.out
  ·exact (aE.behind B0.out Ax.out).new AE.only qn
 ·have h40:40≤L.length:=by omega
  have HV:=qh (Pk.ahV L h40);have HX:=qh (Pk.ah1 L h40);have HB:=qh (Pk.aih L b h40);rw [HV.out,HX.out,HB.out];clear HV HX HB;obtain ⟨V,hV⟩:∃ V,Pk.vi L=V:=⟨_,rfl⟩;obtain ⟨A,hA,CD,De⟩:=iA (Pk.vs (Pk.nx 8 L)) (Pk.uR _);have Ak:=qh CD;have Au:=qh De;clear CD De;have e33:fU (V,Pk.vs (Pk.nx 8 L)) = .agg (#[.int .i64 V]++A):=by
   have h:=hA;unfold dz at h;cases h
   exact qm _ _
  rw [hV,e33];clear e33;have KQ:=oq V A Ak.out;have Aj:Hid ((#[Value.int .i64 V]++A).size=33):=by show _=_;simp [Ak.out]
  have Ao:Hid ((#[Value.int .i64 V]++A).all (·.oneCell')=true):=by show _=_;have:=Au.out;simp_all [Value.oneCell']
  obtain ⟨R,HR⟩:∃ R,R = #[Value.int .i64 V]++A:=⟨_,rfl⟩;rw [← HR] at KQ Aj Ao ⊢;clear HR;go_enter func95,ntmps95;go_upto_region 1 with (fail)
  change Code.wp _ _ _ _ (w.alloc (.cells bS 41));obtain ⟨w0,Ah⟩:∃ x,x=w.alloc (.cells bS 41):=⟨_,rfl⟩;rw [← Ah] at B0 R0 BU ⊢;clear Ah;have HC:Hid (qc 131 #[qp g] w0 fun e w'=>e = .returned (.int .i64 (n:Nat))∧qw w0 w'):=by
   have h:=eG L b g D w0 BU.out;unfold jM at h;rw [hn] at h;exact h
  have Rr:Hid (∀ y,cg y g D L b→qc 89 #[qp g] y (eH (.int .i64 V) (Pk.nx 8 L) (Pk.nb 8 L b) g D y)):=fun y hy=>by rw [← hV];exact dv L b g D n hn y hy
  have D7:Hid (∀ y,cg y g D (Pk.nx 8 L) (Pk.nb 8 L b)→qc 94 #[qp g] y (eH (.agg A) (Pk.nx 32 (Pk.nx 8 L)) (Pk.nb 32 (Pk.nx 8 L) (Pk.nb 8 L b)) g D y)):=fun y hy=>by rw [← hA];exact jS _ _ g D _ rfl y hy
  have Gq:¬ (n:Int)<40:=by omega
  generalize bS=Z at *;clear hr hn HN hA hV h40;go_wp2_with (first
   | (go_at_call 131;refine HC.out.mono ?_;rintro e1 w1 ⟨rfl,hb⟩;have Ch:=qh (BU.out.av hb);have Ai:=qh hb;clear hb)
   | (go_at_call 89;refine (Rr.out _ Ch.out).mono ?_;rintro e2 w2 ⟨rfl,BS,AA⟩)
   | (go_at_call 94;refine (D7.out _ BS.out).mono ?_;rintro e3 w3 ⟨rfl,DU,Cg⟩;have HO:Hid (aE g w0 w3):=((cV Ai.out).trans AA.out).trans Cg.out;have R3:=qh ((HO.out.block _ (lt_of_block R0.out) (Nat.ne_of_gt Bo.out)).trans R0.out))
   | ((with_reducible refine vk _ _ _ _ _ R ?_ ?_ KQ ?_);(exact rfl);(exact rfl))
   | ((with_reducible refine ak _ _ _ _ _ _ _ ?_ ?_ R3.out (ae Tryz.bm Aj) ?_ Ao.out ?_);(exact rfl);(exact rfl);(rw [Aj.out,AB.out]);intro w6 G6 AE))
  refine bodyPost_ret (results_cell_row rfl _ _ w.heap.size 41 R (0,0) _ rfl G6.out underlying41 rfl (ae Tryz.bm Aj)) rfl ⟨rfl,?_,?_⟩
  ·exact DU.out.only AE.only (Nat.ne_of_gt Bo.out) DA.out
  ·exact (aE.behind B0.out HO.out).new AE.only qn
end
section
open Go.RowKit
theorem ad0 (a b:List Int) (ha:a.length=32) (hb:b.length=32):((List.range 32).all fun i=>a.getD i 0==b.getD i 0)=decide (a=b):=by
 by_cases h:a=b
 ·subst h;simp
 ·rw [decide_eq_false h,← Bool.not_eq_true,List.all_eq_true];intro En;apply h
  apply List.ext_getElem (by omega)
  intro i h1 h2;have:=En i (List.mem_range.2 (by omega));simpa [List.getD_eq_getElem?_getD,h1,h2] using this
theorem lz (d:Nat) (a b:List Int) (ha:a.length=32) (hb:b.length=32) (w:World) :
  (Op.equalIn (d+2) 39 (.agg (a.map (Value.int .u8)).toArray) (.agg (b.map (Value.int .u8)).toArray)).run prog w = .ok (decide (a=b)) w:=by
 cases hq:prog.info? 5 with
 | none=>have:=Tryz.bu;rw [hq] at this;cases this
 | some i =>
  rw [run_equalIn_array w _ _ _ underlying39 hq,← ad0 a b ha hb];exact mj d _ (by kernel_rfl) a b w _ (fun j hj=>by rw [ha];exact List.mem_range.1 hj) (fun j hj=>by rw [hb];exact List.mem_range.1 hj)
theorem Tryz.yU:(prog.fieldsOf 41).toList.map (fun f=>(f.name,f.type,f.offset)) = [("At",3,0),("Sum",39,1)]:=by kernel_rfl
theorem Tryz.sP:prog.cellsOf 39=32:=by kernel_rfl
theorem vF (w:World):(isAgg 39).run prog w = .ok true w:=by
 unfold isAgg;rw [Sem.run_bind,run_underlying underlying39 w]
 rfl
theorem wJ (w:World):(isAgg 3).run prog w = .ok false w:=by
 unfold isAgg;rw [Sem.run_bind,run_underlying underlying3 w]
 rfl
theorem sR (r:Int × List Int) (h:r.2.length=32) (w:World):(part 39 (Value.int .i64 r.1 :: r.2.map (Value.int .u8)).toArray 1).run prog w = .ok (dz r.2) w:=by
 obtain ⟨i,hi⟩:=info_of_underlying underlying39;unfold part;rw [Sem.run_bind,vF];simp only [Result.andThen_ok,if_true,Sem.run_bind,run_sizeOf w hi,Tryz.sP,Sem.run_pure];unfold dz;congr 2;apply Array.ext'
 simp only [Array.toList_extract,List.extract_eq_take_drop,Nat.add_sub_cancel_left,List.drop_succ_cons,List.drop_zero];exact List.take_of_length_le (by simp [h])
theorem vD (r:Int × List Int) (w:World):(part 3 (Value.int .i64 r.1 :: r.2.map (Value.int .u8)).toArray 0).run prog w = .ok (.int .i64 r.1) w:=by
 unfold part;rw [Sem.run_bind,wJ]
 rfl
end
section
open Go.ChangeShapes Go.WideShapes Go.RowKit
theorem eQ {n:Int} (h:(Lit.int .i64 n).wf=true):Pk.aT n:=by
 simp [Lit.wf,IntKind.min,IntKind.max,IntKind.signed,IntKind.bits] at h;unfold Pk.aT;omega
theorem Tryz.cm:prog.cellsOf 3=1:=by kernel_rfl
theorem iP:prog.cellsOf 39=32:=by kernel_rfl
theorem xQ:prog.cellsOf 41=33:=by kernel_rfl
theorem dM {H:Type} {enc:TypeId × Value→H} {W:World} {fuel:Nat} {cs:List Value} {x:DataW H × List MemPlace} (hlen:cs.length=32) (hf:DataW.trod enc prog W 0 (fun _=>true) true fuel 39 cs=some x) :
  ∃ l:List Int,cs=l.map (Value.int .u8)∧l.length=32∧ai.aY l:=by
 obtain ⟨xs,m,_,_,_,Et,CR⟩:=DataW.trod_array underlying39 hf;have each:∀ i,i<32→∃ n:Int,cs[i]?=some (.int .u8 n)∧0≤n∧n≤255:=fun i hi=>by
  have h1:=CR i hi;rw [Tryz.cells5,Nat.mul_one,List.getElem?_eq_getElem (by omega)] at h1;obtain ⟨n,e,_,hw⟩:=DataW.trod_int underlying5 h1;refine ⟨n,?_,?_⟩
  ·have h2:=congrArg (fun z:List Value=>z[0]?) e;simpa [List.getElem?_take,List.getElem?_drop,Value.cells] using h2
  ·simp [Lit.wf,IntKind.min,IntKind.max,IntKind.signed,IntKind.bits] at hw;omega
 refine ⟨cs.map intOf,?_,by simpa using hlen,fun x hx=>?_⟩
 ·rw [List.map_map];apply List.ext_getElem?
  intro i;by_cases hi:i<32
  ·obtain ⟨n,h1,_⟩:=each i hi;rw [List.getElem?_map,h1]
   rfl
  ·rw [List.getElem?_eq_none (by omega),List.getElem?_eq_none (by rw [List.length_map];omega)]
 ·rw [List.mem_map] at hx;obtain ⟨y,hy,rfl⟩:=hx;obtain ⟨i,hi,rfl⟩:=List.mem_iff_getElem.1 hy;obtain ⟨n,h1,h2⟩:=each i (by omega);rw [List.getElem?_eq_getElem hi] at h1;have h3:=Option.some.inj h1;rw [h3];exact h2
def ajg (r:Int × List Int):List Value:=Value.int .i64 r.1 :: r.2.map (Value.int .u8)
def aiz (r:Int × List Int):Prop:=r.2.length=32∧ai.aY r.2∧Pk.aT r.1
theorem mS {H:Type} {enc:TypeId × Value→H} {W:World} {fuel:Nat} {cs:List Value} {x:DataW H × List MemPlace} (hlen:cs.length=33) (hf:DataW.trod enc prog W 0 (fun _=>true) true fuel 41 cs=some x) :
  ∃ r:Int × List Int,cs=ajg r∧aiz r:=by
 obtain ⟨xs,m,_,_,_,Et,CR⟩:=DataW.trod_struct underlying41 hf;have Dq:xs.length=2:=by simpa using Et
 have h0:=CR 0 _ rfl;have h1:=CR 1 _ rfl;rw [List.getElem?_eq_getElem (by omega)] at h0 h1;obtain ⟨k,e0,_,w0⟩:=DataW.trod_int underlying3 h0;have h1':DataW.trod enc prog W 0 (fun _=>true) true m 39 ((cs.drop 1).take 32)=some xs[1]:=by
  rw [← iP];exact h1
 obtain ⟨l,e1,hl,hb⟩:=dM (by simp;omega) h1';have hd:(cs.drop 1).take 32=cs.drop 1:=List.take_of_length_le (by simp;omega);rw [hd] at e1;refine ⟨(k,l),?_,hl,hb,eQ w0⟩;unfold ajg;rw [← e1];cases cs with
 | nil=>simp at hlen
 | cons c r =>
  have e2:c = .int .i64 k:=by simpa [Tryz.cm,Value.cells] using e0
  rw [e2]
  rfl
end
end Go.Proofs.YthgjfjmampmiiaaGreatDoor

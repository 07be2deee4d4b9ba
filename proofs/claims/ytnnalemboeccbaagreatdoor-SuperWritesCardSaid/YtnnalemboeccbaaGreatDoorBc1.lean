/-
  B9, C12 (merged)
-/
import Derived.Test.YtnnalemboeccbaaGreatDoorB8
import Derived.Test.YtnnalemboeccbaaGreatDoorTurI4
import Derived.Test.YtnnalemboeccbaaGreatDoorSe2
import Derived.Test.YtnnalemboeccbaaGreatDoorBd1
import Derived.Test.YtnnalemboeccbaaGreatDoorA6
import Derived.Test.YtnnalemboeccbaaGreatDoorRows
import Derived.Stop.LaidErr
import Derived.ChangeSame
import Derived.ChangeVars
import Derived.ChangeSlices
import Derived.JoinedOf
import Derived.JoinedAt
import Derived.RowKit
import Derived.RowKitTokens
import Derived.LaidLaws
import Derived.LaidHandle
import Derived.Stop.Joined
import Derived.ProofKit
import Derived.Lib.LaidTab
import Derived.SevenTiedAt
import Derived.SizedLaws
import Derived.Carry
namespace Go.Proofs.YtnnalemboeccbaaGreatDoor

/-! B9:  -/
section
section
open Go.RowKit
end
section
open Go.RowKit
theorem up_nb (l:List Int) (hl:l.length=16) (hb:Sha.Byt l):Aes.up (Aes.nb l) 16=l:=by
 apply List.ext_getElem
 ·rw [Aes.up_len,hl]
 ·intro i h1 h2
  rw [Aes.up_len] at h1
  have h:=Aes.up_get (Aes.nb l) 16 i h1
  rw [List.getD_eq_getElem?_getD,List.getElem?_eq_getElem (by rw [Aes.up_len];exact h1)] at h
  simp only [Option.getD_some] at h
  rw [h]
  have hg:=Sha.byt_getD hb i
  unfold Aes.nb
  rw [Int.toNat_of_nonneg hg.1,List.getD_eq_getElem?_getD,List.getElem?_eq_getElem h2]
  rfl
theorem blk4_st (r:Nat→Nat) (hr:Aes.B16 r):Aes.blk4 (Aes.st r).a (Aes.st r).b (Aes.st r).c (Aes.st r).d=Aes.up r 16:=by
 have o:∀ k,k<4→Aes.ob (Aes.sw r k) = [(r (4*k):Int),(r (4*k+1):Int),(r (4*k+2):Int),(r (4*k+3):Int)]:=fun k hk =>
  Aes.ob_w4 _ _ _ _ (hr _ (by omega)) (hr _ (by omega)) (hr _ (by omega)) (hr _ (by omega))
 unfold Aes.st Aes.blk4 Aes.bk Aes.up
 apply List.map_congr_left
 intro j hj
 rw [List.mem_range] at hj
 rw [if_pos (by omega)]
 have key:∀ q t,q<4→t<4→(Aes.ob ([Aes.sw r 0,Aes.sw r 1,Aes.sw r 2,Aes.sw r 3].getD q 0)).getD t 0=((r (4*q+t):Nat):Int):=fun q t hq ht=>by
  have e : [Aes.sw r 0,Aes.sw r 1,Aes.sw r 2,Aes.sw r 3].getD q 0=Aes.sw r q:=by
   rcases (by omega:q=0∨q=1∨q=2∨q=3) with rfl | rfl | rfl | rfl<;>rfl
  rw [e,o q hq]
  rcases (by omega:t=0∨t=1∨t=2∨t=3) with rfl | rfl | rfl | rfl<;>rfl
 dsimp only
 rw [key (j / 4) (j % 4) (by omega) (by omega),show 4*(j / 4)+j % 4=j by omega]
theorem refnew_any (K:List Int) (n:Nat) (hn:n=4) (hK:K.length=4*n) (p:Option Addr) (cap:Nat) (hcap:4*n≤cap) (hcm:cap≤9223372036854775807) (w:World) (hp:BAt w p K) :
  Calls Tryz.prog 95 #[.slice p (4*n) cap] w (RefSay K n w):=by
 subst hn
 exact refnew_4 K hK p cap hcap hcm w hp
end
end

/-! C12:  -/
section
section
open Go.RowKit
namespace Ctr
def l6 (v:Int):List Int:=[v / 1099511627776 % 256,v / 4294967296 % 256,v / 16777216 % 256,v / 65536 % 256,v / 256 % 256,v % 256]
def l4 (v:Int):List Int:=[v / 16777216 % 256,v / 65536 % 256,v / 256 % 256,v % 256]
def bq (A B C:List Int) (k m:Nat):List Int:=(List.range 16).map fun (j:Nat)=>if j<k then A.getD j 0 else if 6≤j∧j<6+k then B.getD (j-6) 0 else if 12≤j∧j<12+m then C.getD (j-12) 0 else 0
theorem bq_len (A B C:List Int) (k m:Nat):(bq A B C k m).length=16:=by simp [bq]
theorem bq_all (e n i:Int):bq (l6 e) (l6 n) (l4 i) 6 4=cb e n i:=rfl
theorem bq_zero (A B C:List Int):bq A B C 0 0=List.replicate 16 0:=rfl
theorem bq_one (A B C:List Int) (k:Nat) (hk:k<6):((bq A B C k 0).set k (A.getD k 0)).set (6+k) (B.getD k 0)=bq A B C (k+1) 0:=by
 apply List.ext_getElem
 ·simp [bq]
 ·intro j h1 h2
  have hj:j<16:=by simpa [bq] using h2
  rw [List.getElem_set,List.getElem_set]
  simp only [bq,List.getElem_map,List.getElem_range]
  by_cases c1:6+k=j
  ·subst c1
   rw [if_pos rfl,if_neg (show ¬ 6+k<k+1 by omega),if_pos (show 6≤6+k∧6+k<6+(k+1) by omega),show 6+k-6=k by omega]
  ·rw [if_neg c1]
   by_cases c2:k=j
   ·subst c2
    rw [if_pos rfl,if_pos (by omega)]
   ·rw [if_neg c2]
    by_cases c3:j<k
    ·rw [if_pos c3,if_pos (by omega)]
    ·rw [if_neg c3,if_neg (show ¬ j<k+1 by omega)]
     by_cases c4:6≤j∧j<6+k
     ·rw [if_pos c4,if_pos (show 6≤j∧j<6+(k+1) by omega)]
     ·rw [if_neg c4,if_neg (show ¬ (6≤j∧j<6+(k+1)) by omega)]
theorem bq_two (A B C:List Int) (m:Nat) (hm:m<4):(bq A B C 6 m).set (12+m) (C.getD m 0)=bq A B C 6 (m+1):=by
 apply List.ext_getElem
 ·simp [bq]
 ·intro j h1 h2
  have hj:j<16:=by simpa [bq] using h2
  rw [List.getElem_set]
  simp only [bq,List.getElem_map,List.getElem_range]
  by_cases c1:12+m=j
  ·subst c1
   rw [if_pos rfl,if_neg (by omega),if_neg (by omega),if_pos (by omega),show 12+m-12=m by omega]
  ·rw [if_neg c1]
   by_cases c3:j<6
   ·rw [if_pos c3,if_pos c3]
   ·rw [if_neg c3,if_neg c3]
    by_cases c4:6≤j∧j<6+6
    ·rw [if_pos c4,if_pos c4]
    ·rw [if_neg c4,if_neg c4]
     by_cases c5:12≤j∧j<12+m
     ·rw [if_pos c5,if_pos (by omega)]
     ·rw [if_neg c5,if_neg (by omega)]
attribute [irreducible] bq
end Ctr
def LowSay (l:List Int) (m:Nat) (w:World) (r:Ending) (w':World):Prop :=
 ∃ g c,r = .returned (.slice (some ⟨g,0,none⟩) m c)∧w.heap.size≤g∧Hid (∀ j,j<m→w'.cell? ⟨g,j,none⟩=some (.int .u8 (l.getD j 0)))∧Hid (Below w.heap.size w w')
set_option maxHeartbeats 2000000 in
set_option maxRecDepth 100000 in
theorem low6_any (e:Int) (w:World):Calls Tryz.prog 220 #[.int .i64 e,.int .i64 6] w (LowSay (Ctr.l6 (e % 18446744073709551616)) 6 w):=by
 obtain ⟨i0,hi,hz0,hz1,hz2⟩:=info_parts Tryz.info_u8
 go_enter Tryz.func220,Tryz.ntmps220
 go_wp2
 go_loopw [5,6] (fun v i wr=>∃ k:Nat,k≤6∧i = .int .i64 (5-(k:Int))∧Hid (wr.ownsRow w.heap.size 5 1 v k (U8s ((Ctr.l6 (e % 18446744073709551616)).take k)))∧Hid (Below w.heap.size w wr)) (fun _ i _=>(intOf i+1).toNat)
 case atStart=>exact ⟨0,Nat.zero_le _,rfl,by unfold U8s;exact World.ownsRow_nil _ _ _ _,Below.refl _ _⟩
 case round =>
  obtain ⟨k,hk,rfl,HO,HB⟩:=hrel
  rcases (by omega:k=0∨k=1∨k=2∨k=3∨k=4∨k=5∨k=6) with rfl | rfl | rfl | rfl | rfl | rfl | rfl
  ·go_wp2_with (first
    | (at_builtin;refine wpList_append_own _ rfl _ _ 22 rfl w.heap.size 5 i0 (.int .u8 0) 1 1 Tryz.underlying22 hi hz0 hz1 hz2 rfl (by decide) _ _ _ rfl (HO.out.alloc _) ⟨wr.heap.size,0,none⟩ 1 1 [.int .u8 _] rfl rfl (u8_cell1 _ _ _) (u8_oneX _) (by unfold maxLen;omega) (by omega) (by have:=HB.out.size;simp;omega) ?_)
    | go_in)
   intro v' w1 hown' hgrow _
   have hb1:=below_own HB.out (HB.out.size) HO.out hgrow
   rw [U8s_snoc,IntKind.wrap_u64] at hown'
   have H1:Hid (w1.ownsRow w.heap.size 5 1 v' 1 (U8s ((Ctr.l6 (e % 18446744073709551616)).take 1))):=hown'
   clear hgrow HO HB hown'
   go_wp2
   exact ⟨⟨1,by omega,rfl,H1.out,hb1⟩,by simp [intOf]⟩
  ·go_wp2_with (first
    | (at_builtin;refine wpList_append_own _ rfl _ _ 22 rfl w.heap.size 5 i0 (.int .u8 0) 1 1 Tryz.underlying22 hi hz0 hz1 hz2 rfl (by decide) _ _ _ rfl (HO.out.alloc _) ⟨wr.heap.size,0,none⟩ 1 1 [.int .u8 _] rfl rfl (u8_cell1 _ _ _) (u8_oneX _) (by unfold maxLen;omega) (by omega) (by have:=HB.out.size;simp;omega) ?_)
    | go_in)
   intro v' w1 hown' hgrow _
   have hb1:=below_own HB.out (HB.out.size) HO.out hgrow
   rw [U8s_snoc,IntKind.wrap_u64] at hown'
   have H1:Hid (w1.ownsRow w.heap.size 5 1 v' 2 (U8s ((Ctr.l6 (e % 18446744073709551616)).take 2))):=hown'
   clear hgrow HO HB hown'
   go_wp2
   exact ⟨⟨2,by omega,rfl,H1.out,hb1⟩,by simp [intOf]⟩
  ·go_wp2_with (first
    | (at_builtin;refine wpList_append_own _ rfl _ _ 22 rfl w.heap.size 5 i0 (.int .u8 0) 1 1 Tryz.underlying22 hi hz0 hz1 hz2 rfl (by decide) _ _ _ rfl (HO.out.alloc _) ⟨wr.heap.size,0,none⟩ 1 1 [.int .u8 _] rfl rfl (u8_cell1 _ _ _) (u8_oneX _) (by unfold maxLen;omega) (by omega) (by have:=HB.out.size;simp;omega) ?_)
    | go_in)
   intro v' w1 hown' hgrow _
   have hb1:=below_own HB.out (HB.out.size) HO.out hgrow
   rw [U8s_snoc,IntKind.wrap_u64] at hown'
   have H1:Hid (w1.ownsRow w.heap.size 5 1 v' 3 (U8s ((Ctr.l6 (e % 18446744073709551616)).take 3))):=hown'
   clear hgrow HO HB hown'
   go_wp2
   exact ⟨⟨3,by omega,rfl,H1.out,hb1⟩,by simp [intOf]⟩
  ·go_wp2_with (first
    | (at_builtin;refine wpList_append_own _ rfl _ _ 22 rfl w.heap.size 5 i0 (.int .u8 0) 1 1 Tryz.underlying22 hi hz0 hz1 hz2 rfl (by decide) _ _ _ rfl (HO.out.alloc _) ⟨wr.heap.size,0,none⟩ 1 1 [.int .u8 _] rfl rfl (u8_cell1 _ _ _) (u8_oneX _) (by unfold maxLen;omega) (by omega) (by have:=HB.out.size;simp;omega) ?_)
    | go_in)
   intro v' w1 hown' hgrow _
   have hb1:=below_own HB.out (HB.out.size) HO.out hgrow
   rw [U8s_snoc,IntKind.wrap_u64] at hown'
   have H1:Hid (w1.ownsRow w.heap.size 5 1 v' 4 (U8s ((Ctr.l6 (e % 18446744073709551616)).take 4))):=hown'
   clear hgrow HO HB hown'
   go_wp2
   exact ⟨⟨4,by omega,rfl,H1.out,hb1⟩,by simp [intOf]⟩
  ·go_wp2_with (first
    | (at_builtin;refine wpList_append_own _ rfl _ _ 22 rfl w.heap.size 5 i0 (.int .u8 0) 1 1 Tryz.underlying22 hi hz0 hz1 hz2 rfl (by decide) _ _ _ rfl (HO.out.alloc _) ⟨wr.heap.size,0,none⟩ 1 1 [.int .u8 _] rfl rfl (u8_cell1 _ _ _) (u8_oneX _) (by unfold maxLen;omega) (by omega) (by have:=HB.out.size;simp;omega) ?_)
    | go_in)
   intro v' w1 hown' hgrow _
   have hb1:=below_own HB.out (HB.out.size) HO.out hgrow
   rw [U8s_snoc,IntKind.wrap_u64] at hown'
   have H1:Hid (w1.ownsRow w.heap.size 5 1 v' 5 (U8s ((Ctr.l6 (e % 18446744073709551616)).take 5))):=hown'
   clear hgrow HO HB hown'
   go_wp2
   exact ⟨⟨5,by omega,rfl,H1.out,hb1⟩,by simp [intOf]⟩
  ·go_wp2_with (first
    | (at_builtin;refine wpList_append_own _ rfl _ _ 22 rfl w.heap.size 5 i0 (.int .u8 0) 1 1 Tryz.underlying22 hi hz0 hz1 hz2 rfl (by decide) _ _ _ rfl (HO.out.alloc _) ⟨wr.heap.size,0,none⟩ 1 1 [.int .u8 _] rfl rfl (u8_cell1 _ _ _) (u8_oneX _) (by unfold maxLen;omega) (by omega) (by have:=HB.out.size;simp;omega) ?_)
    | go_in)
   intro v' w1 hown' hgrow _
   have hb1:=below_own HB.out (HB.out.size) HO.out hgrow
   rw [U8s_snoc,IntKind.wrap_u64] at hown'
   have H1:Hid (w1.ownsRow w.heap.size 5 1 v' 6 (U8s ((Ctr.l6 (e % 18446744073709551616)).take 6))):=hown'
   clear hgrow HO HB hown'
   go_wp2
   exact ⟨⟨6,by omega,rfl,H1.out,hb1⟩,by simp [intOf]⟩
  ·obtain ⟨g,c,hv⟩:=own_someB HO.out (by decide)
   subst hv
   go_wp2
   go_ret
   exact ⟨g,c,rfl,(HO.out.lt g rfl).1,fun j hj=>u8_at HO.out j hj,HB.out⟩
set_option maxHeartbeats 2000000 in
set_option maxRecDepth 100000 in
theorem low4_any (e:Int) (w:World):Calls Tryz.prog 220 #[.int .i64 e,.int .i64 4] w (LowSay (Ctr.l4 (e % 18446744073709551616)) 4 w):=by
 obtain ⟨i0,hi,hz0,hz1,hz2⟩:=info_parts Tryz.info_u8
 go_enter Tryz.func220,Tryz.ntmps220
 go_wp2
 go_loopw [5,6] (fun v i wr=>∃ k:Nat,k≤4∧i = .int .i64 (3-(k:Int))∧Hid (wr.ownsRow w.heap.size 5 1 v k (U8s ((Ctr.l4 (e % 18446744073709551616)).take k)))∧Hid (Below w.heap.size w wr)) (fun _ i _=>(intOf i+1).toNat)
 case atStart=>exact ⟨0,Nat.zero_le _,rfl,by unfold U8s;exact World.ownsRow_nil _ _ _ _,Below.refl _ _⟩
 case round =>
  obtain ⟨k,hk,rfl,HO,HB⟩:=hrel
  rcases (by omega:k=0∨k=1∨k=2∨k=3∨k=4) with rfl | rfl | rfl | rfl | rfl
  ·go_wp2_with (first
    | (at_builtin;refine wpList_append_own _ rfl _ _ 22 rfl w.heap.size 5 i0 (.int .u8 0) 1 1 Tryz.underlying22 hi hz0 hz1 hz2 rfl (by decide) _ _ _ rfl (HO.out.alloc _) ⟨wr.heap.size,0,none⟩ 1 1 [.int .u8 _] rfl rfl (u8_cell1 _ _ _) (u8_oneX _) (by unfold maxLen;omega) (by omega) (by have:=HB.out.size;simp;omega) ?_)
    | go_in)
   intro v' w1 hown' hgrow _
   have hb1:=below_own HB.out (HB.out.size) HO.out hgrow
   rw [U8s_snoc,IntKind.wrap_u64] at hown'
   have H1:Hid (w1.ownsRow w.heap.size 5 1 v' 1 (U8s ((Ctr.l4 (e % 18446744073709551616)).take 1))):=hown'
   clear hgrow HO HB hown'
   go_wp2
   exact ⟨⟨1,by omega,rfl,H1.out,hb1⟩,by simp [intOf]⟩
  ·go_wp2_with (first
    | (at_builtin;refine wpList_append_own _ rfl _ _ 22 rfl w.heap.size 5 i0 (.int .u8 0) 1 1 Tryz.underlying22 hi hz0 hz1 hz2 rfl (by decide) _ _ _ rfl (HO.out.alloc _) ⟨wr.heap.size,0,none⟩ 1 1 [.int .u8 _] rfl rfl (u8_cell1 _ _ _) (u8_oneX _) (by unfold maxLen;omega) (by omega) (by have:=HB.out.size;simp;omega) ?_)
    | go_in)
   intro v' w1 hown' hgrow _
   have hb1:=below_own HB.out (HB.out.size) HO.out hgrow
   rw [U8s_snoc,IntKind.wrap_u64] at hown'
   have H1:Hid (w1.ownsRow w.heap.size 5 1 v' 2 (U8s ((Ctr.l4 (e % 18446744073709551616)).take 2))):=hown'
   clear hgrow HO HB hown'
   go_wp2
   exact ⟨⟨2,by omega,rfl,H1.out,hb1⟩,by simp [intOf]⟩
  ·go_wp2_with (first
    | (at_builtin;refine wpList_append_own _ rfl _ _ 22 rfl w.heap.size 5 i0 (.int .u8 0) 1 1 Tryz.underlying22 hi hz0 hz1 hz2 rfl (by decide) _ _ _ rfl (HO.out.alloc _) ⟨wr.heap.size,0,none⟩ 1 1 [.int .u8 _] rfl rfl (u8_cell1 _ _ _) (u8_oneX _) (by unfold maxLen;omega) (by omega) (by have:=HB.out.size;simp;omega) ?_)
    | go_in)
   intro v' w1 hown' hgrow _
   have hb1:=below_own HB.out (HB.out.size) HO.out hgrow
   rw [U8s_snoc,IntKind.wrap_u64] at hown'
   have H1:Hid (w1.ownsRow w.heap.size 5 1 v' 3 (U8s ((Ctr.l4 (e % 18446744073709551616)).take 3))):=hown'
   clear hgrow HO HB hown'
   go_wp2
   exact ⟨⟨3,by omega,rfl,H1.out,hb1⟩,by simp [intOf]⟩
  ·go_wp2_with (first
    | (at_builtin;refine wpList_append_own _ rfl _ _ 22 rfl w.heap.size 5 i0 (.int .u8 0) 1 1 Tryz.underlying22 hi hz0 hz1 hz2 rfl (by decide) _ _ _ rfl (HO.out.alloc _) ⟨wr.heap.size,0,none⟩ 1 1 [.int .u8 _] rfl rfl (u8_cell1 _ _ _) (u8_oneX _) (by unfold maxLen;omega) (by omega) (by have:=HB.out.size;simp;omega) ?_)
    | go_in)
   intro v' w1 hown' hgrow _
   have hb1:=below_own HB.out (HB.out.size) HO.out hgrow
   rw [U8s_snoc,IntKind.wrap_u64] at hown'
   have H1:Hid (w1.ownsRow w.heap.size 5 1 v' 4 (U8s ((Ctr.l4 (e % 18446744073709551616)).take 4))):=hown'
   clear hgrow HO HB hown'
   go_wp2
   exact ⟨⟨4,by omega,rfl,H1.out,hb1⟩,by simp [intOf]⟩
  ·obtain ⟨g,c,hv⟩:=own_someB HO.out (by decide)
   subst hv
   go_wp2
   go_ret
   exact ⟨g,c,rfl,(HO.out.lt g rfl).1,fun j hj=>u8_at HO.out j hj,HB.out⟩
set_option maxHeartbeats 2000000 in
set_option maxRecDepth 100000 in
theorem rblock_any (d:Nat) (RC:World→Prop) (F:List Int→List Int) (hF:∀ M,(F M).length=16) (hkeep:∀ x x',RC x→Below x.heap.size x x'→RC x')
  (hblk:∀ M x,M.length=16→Sha.Byt M→RC x→Calls Tryz.prog 221 #[.pointer (some ⟨d,0,none⟩),.agg (M.map (Value.int .u8)).toArray] x fun e x'=>e = .returned (.agg ((F M).map (Value.int .u8)).toArray)∧Below x.heap.size x x')
  (e n:Int) (i:Nat) (hi:i<4294967296) (w:World) (hC:RC w) :
  Calls Tryz.prog 208 #[.pointer (some ⟨d,0,none⟩),.int .i64 e,.int .i64 n,.int .i64 i] w fun r w'=>r = .returned (.agg ((F (Ctr.cb (e % 18446744073709551616) (n % 18446744073709551616) i)).map (Value.int .u8)).toArray)∧Hid (Below w.heap.size w w'):=by
 have HW:Hid (∀ x,Below w.heap.size w x→RC x):=fun x hx=>hkeep w x hC hx
 obtain ⟨A,HA⟩:∃ A,Hid (A=Ctr.l6 (e % 18446744073709551616)):=⟨_,rfl⟩
 obtain ⟨B,HB⟩:∃ A,Hid (A=Ctr.l6 (n % 18446744073709551616)):=⟨_,rfl⟩
 obtain ⟨C,HC⟩:∃ A,Hid (A=Ctr.l4 ((i:Int) % 18446744073709551616)):=⟨_,rfl⟩
 have HL1:Hid (∀ x,Calls Tryz.prog 220 #[.int .i64 e,.int .i64 6] x (LowSay A 6 x)):=fun x=>by rw [HA.out];exact low6_any e x
 have HL2:Hid (∀ x,Calls Tryz.prog 220 #[.int .i64 n,.int .i64 6] x (LowSay B 6 x)):=fun x=>by rw [HB.out];exact low6_any n x
 have HL3:Hid (∀ x,Calls Tryz.prog 220 #[.int .i64 i,.int .i64 4] x (LowSay C 4 x)):=fun x=>by rw [HC.out];exact low4_any i x
 have HM:Hid (Ctr.bq A B C 6 4=Ctr.cb (e % 18446744073709551616) (n % 18446744073709551616) i):=by
  show _=_
  rw [HA.out,HB.out,HC.out,Ctr.bq_all]
  congr 1
  omega
 obtain ⟨X,HX1,HX2,HX3⟩:∃ X:Array Value,Hid (X=((F (Ctr.cb (e % 18446744073709551616) (n % 18446744073709551616) i)).map (Value.int .u8)).toArray)∧Hid (X.size=16)∧Hid (X.all (·.oneCell')=true):=⟨_,rfl,by show _=_;simp [hF],u8_all _⟩
 have HK:Hid (∀ x,Below w.heap.size w x→Calls Tryz.prog 221 #[.pointer (some ⟨d,0,none⟩),.agg ((Ctr.bq A B C 6 4).map (Value.int .u8)).toArray] x fun e x'=>e = .returned (.agg X)∧Below x.heap.size x x'):=fun x hx=>by
  have h:=hblk (Ctr.cb (e % 18446744073709551616) (n % 18446744073709551616) i) x (Ctr.cb_len _ _ _) (Ctr.cb_byt _ _ _) (HW.out x hx)
  rw [HM.out,HX1.out]
  exact h
 rw [← HX1.out]
 clear HA HB HC HM HW HX1 hblk hkeep hF hC
 have HCL:Hid (∀ k m,(Ctr.bq A B C k m).length=16):=fun k m=>Ctr.bq_len _ _ _ _ _
 obtain ⟨Y,HY1,HY2⟩:∃ Y:Array Value,Hid (Y=((Ctr.bq A B C 6 4).map (Value.int .u8)).toArray)∧Hid (Y.size=16):=⟨_,rfl,by show _=_;simp [HCL.out]⟩
 rw [← HY1.out] at HK
 go_enter Tryz.func208,Tryz.ntmps208
 go_upto_region 2 with fail
 have HR1:Hid (((w.alloc (.cells #[.int .u8 0,.int .u8 0,.int .u8 0,.int .u8 0,.int .u8 0,.int .u8 0,.int .u8 0,.int .u8 0,.int .u8 0,.int .u8 0,.int .u8 0,.int .u8 0,.int .u8 0,.int .u8 0,.int .u8 0,.int .u8 0] 246)).alloc (.cells #[.int .u8 0,.int .u8 0,.int .u8 0,.int .u8 0,.int .u8 0,.int .u8 0,.int .u8 0,.int .u8 0,.int .u8 0,.int .u8 0,.int .u8 0,.int .u8 0,.int .u8 0,.int .u8 0,.int .u8 0,.int .u8 0] 246)).heap[w.heap.size]?=some (.cells #[.int .u8 0,.int .u8 0,.int .u8 0,.int .u8 0,.int .u8 0,.int .u8 0,.int .u8 0,.int .u8 0,.int .u8 0,.int .u8 0,.int .u8 0,.int .u8 0,.int .u8 0,.int .u8 0,.int .u8 0,.int .u8 0] 246 (0,0))):=heap_alloc2_old w _ _
 have HG1:Hid (((w.alloc (.cells #[.int .u8 0,.int .u8 0,.int .u8 0,.int .u8 0,.int .u8 0,.int .u8 0,.int .u8 0,.int .u8 0,.int .u8 0,.int .u8 0,.int .u8 0,.int .u8 0,.int .u8 0,.int .u8 0,.int .u8 0,.int .u8 0] 246)).alloc (.cells #[.int .u8 0,.int .u8 0,.int .u8 0,.int .u8 0,.int .u8 0,.int .u8 0,.int .u8 0,.int .u8 0,.int .u8 0,.int .u8 0,.int .u8 0,.int .u8 0,.int .u8 0,.int .u8 0,.int .u8 0,.int .u8 0] 246)).heap[w.heap.size+1]?=some (.cells ((Ctr.bq A B C 0 0).map (Value.int .u8)).toArray 246 (0,0))):=by
  show _=_
  rw [Ctr.bq_zero]
  exact heap_alloc2_new w _ _
 have HB1:Hid (Below w.heap.size w ((w.alloc (.cells #[.int .u8 0,.int .u8 0,.int .u8 0,.int .u8 0,.int .u8 0,.int .u8 0,.int .u8 0,.int .u8 0,.int .u8 0,.int .u8 0,.int .u8 0,.int .u8 0,.int .u8 0,.int .u8 0,.int .u8 0,.int .u8 0] 246)).alloc (.cells #[.int .u8 0,.int .u8 0,.int .u8 0,.int .u8 0,.int .u8 0,.int .u8 0,.int .u8 0,.int .u8 0,.int .u8 0,.int .u8 0,.int .u8 0,.int .u8 0,.int .u8 0,.int .u8 0,.int .u8 0,.int .u8 0] 246))):=((Below.refl _ w).alloc (Nat.le_refl _) _).alloc (by simp) _
 generalize (w.alloc (.cells #[.int .u8 0,.int .u8 0,.int .u8 0,.int .u8 0,.int .u8 0,.int .u8 0,.int .u8 0,.int .u8 0,.int .u8 0,.int .u8 0,.int .u8 0,.int .u8 0,.int .u8 0,.int .u8 0,.int .u8 0,.int .u8 0] 246)).alloc (.cells #[.int .u8 0,.int .u8 0,.int .u8 0,.int .u8 0,.int .u8 0,.int .u8 0,.int .u8 0,.int .u8 0,.int .u8 0,.int .u8 0,.int .u8 0,.int .u8 0,.int .u8 0,.int .u8 0,.int .u8 0,.int .u8 0] 246)=w1 at *
 go_upto_region 5 with (first
  | (go_at_call 220;refine (HL1.out _).mono ?_;rintro r w2 ⟨sa,ca,rfl,hsa,HS2,hb2⟩;have HB2:Hid (Below w.heap.size w w2):=HB1.out.trans (hb2.out.mono HB1.out.size);have HR2:=Lib.hid ((hb2.out.block _ (lt_of_block HR1.out)).trans HR1.out);have HG2:=Lib.hid ((hb2.out.block _ (lt_of_block HG1.out)).trans HG1.out);clear hb2 HL1)
  | (go_at_call 220;refine (HL2.out _).mono ?_;rintro r w3 ⟨sb,cb,rfl,hsb,HS3,hb3⟩;have HB3:Hid (Below w.heap.size w w3):=HB2.out.trans (hb3.out.mono HB2.out.size);have HR3:=Lib.hid ((hb3.out.block _ (lt_of_block HR2.out)).trans HR2.out);have HG3:=Lib.hid ((hb3.out.block _ (lt_of_block HG2.out)).trans HG2.out);have HS23:Hid (∀ j,j<6→w3.cell? ⟨sa,j,none⟩=some (.int .u8 (A.getD j 0))):=(fun j hj=>(hb3.out.cell (World.block_lt_of_cell? w2 _ (HS2.out j hj))).trans (HS2.out j hj));clear hb3 HL2)
  | (go_at_call 220;refine (HL3.out _).mono ?_;rintro r w4 ⟨sc,cc,rfl,hsc,HS4,hb4⟩;have HB4:Hid (Below w.heap.size w w4):=HB3.out.trans (hb4.out.mono HB3.out.size);have HR4:=Lib.hid ((hb4.out.block _ (lt_of_block HR3.out)).trans HR3.out);have HG4:=Lib.hid ((hb4.out.block _ (lt_of_block HG3.out)).trans HG3.out);have HS24:Hid (∀ j,j<6→w4.cell? ⟨sa,j,none⟩=some (.int .u8 (A.getD j 0))):=(fun j hj=>(hb4.out.cell (World.block_lt_of_cell? w3 _ (HS23.out j hj))).trans (HS23.out j hj));have HS34:Hid (∀ j,j<6→w4.cell? ⟨sb,j,none⟩=some (.int .u8 (B.getD j 0))):=(fun j hj=>(hb4.out.cell (World.block_lt_of_cell? w3 _ (HS3.out j hj))).trans (HS3.out j hj));clear hb4 HL3))
 have HNA:Hid (sa ≠ w.heap.size+1∧sb ≠ w.heap.size+1∧sc ≠ w.heap.size+1):=by
  have h1:=lt_of_block HG1.out
  have h2:=lt_of_block HG2.out
  have h3:=lt_of_block HG3.out
  exact ⟨by omega,by omega,by omega⟩
 clear hsa hsb hsc HB1 HR1 HG1 HB2 HR2 HG2 HB3 HR3 HG3 HS2 HS3 HS23
 go_wp2
 go_loopw [13] (fun v13 wr=>∃ k:Nat,k≤6∧v13 = .int .i64 k∧Hid (wr.heap[w.heap.size+1]?=some (.cells ((Ctr.bq A B C k 0).map (Value.int .u8)).toArray 246 (0,0)))∧Hid (Only (w.heap.size+1) w4 wr)) (fun v13 _=>6-(intOf v13).toNat)
 case atStart=>exact ⟨0,Nat.zero_le _,rfl,HG4.out,Only.refl _ _⟩
 case round =>
  clear HG4
  obtain ⟨k,hk,rfl,HG,HO⟩:=hrel
  by_cases hlt:k<6
  ·have c0:=HO.out.cell HNA.out.1 (HS24.out k hlt)
   have c1:=HO.out.cell HNA.out.2.1 (HS34.out k hlt)
   have d0:=u8_cellB HG.out k (by rw [HCL.out];omega)
   have f0:=frozen_of_row wr (w.heap.size+1) k _ _ HG.out
   have hk0:0≤(k:Int):=by omega
   have hk1:(k:Int)<6:=by omega
   have hk2:(k:Int)<16:=by omega
   have hw:IntKind.i64.wrap (6+(k:Int))=6+(k:Int):=IntWalk.i64_in _ ⟨by omega,by omega⟩
   have hx1:0≤6+(k:Int):=by omega
   have hx2:6+(k:Int)<16:=by omega
   have hx3:(6+(k:Int)).toNat=6+k:=by omega
   have HSTEP:Hid (((Ctr.bq A B C k 0).set k (A.getD k 0)).set (6+k) (B.getD k 0)=Ctr.bq A B C (k+1) 0):=Ctr.bq_one A B C k hlt
   generalize (Ctr.bq A B C k 0).getD k 0=z0 at d0
   generalize hA:A.getD k 0=a0 at *
   generalize hB:B.getD k 0=b0 at *
   go_upto_region 9 with fail
   have G5:Hid ((wr.setCell ⟨w.heap.size+1,k,none⟩ (.int .u8 a0)).heap[w.heap.size+1]?=some (.cells (((Ctr.bq A B C k 0).set k a0).map (Value.int .u8)).toArray 246 (0,0))):=u8_set HG.out
   have O5:Hid (Only (w.heap.size+1) w4 (wr.setCell ⟨w.heap.size+1,k,none⟩ (.int .u8 a0))):=HO.out.trans (Chg.setCell wr ⟨w.heap.size+1,k,none⟩ _).only
   have c2:(wr.setCell ⟨w.heap.size+1,k,none⟩ (.int .u8 a0)).cell? ⟨sb,k,none⟩=some (.int .u8 b0):=(Chg.setCell wr ⟨w.heap.size+1,k,none⟩ (.int .u8 a0)).only.cell HNA.out.2.1 c1
   clear c0 c1 d0 f0 HG HO
   generalize wr.setCell ⟨w.heap.size+1,k,none⟩ (.int .u8 a0)=w5 at *
   have d1:=u8_cellB G5.out (6+k) (by rw [List.length_set,HCL.out];omega)
   have f1:=frozen_of_row w5 (w.heap.size+1) (6+k) _ _ G5.out
   generalize (((Ctr.bq A B C k 0).set k a0)).getD (6+k) 0=z1 at d1
   go_wp2
   refine ⟨⟨k+1,by omega,by go_num,?_,?_⟩,by simp [intOf];omega⟩
   ·have h2:=u8_set (i:=6+k) (x:=b0) G5.out
    rw [HSTEP.out] at h2
    exact h2
   ·exact O5.out.trans (Chg.setCell w5 ⟨w.heap.size+1,6+k,none⟩ _).only
  ·obtain rfl:k=6:=by omega
   clear hlt HS24 HS34
   have h16:(6:Int)≤((6:Nat):Int):=by decide
   go_wp2
   obtain ⟨wo,rfl⟩:∃ wo:World,wo=wr:=⟨_,rfl⟩
   go_loopw [14] (fun v14 wr=>∃ k:Nat,k≤4∧v14 = .int .i64 k∧Hid (wr.heap[w.heap.size+1]?=some (.cells ((Ctr.bq A B C 6 k).map (Value.int .u8)).toArray 246 (0,0)))∧Hid (Only (w.heap.size+1) w4 wr)) (fun v14 _=>4-(intOf v14).toNat)
   case atStart=>exact ⟨0,Nat.zero_le _,rfl,HG.out,HO.out⟩
   case round =>
    clear HG HO
    obtain ⟨k,hk,rfl,HG,HO⟩:=hrel
    by_cases hlt:k<4
    ·have c0:=HO.out.cell HNA.out.2.2 (HS4.out k hlt)
     have d0:=u8_cellB HG.out (12+k) (by rw [HCL.out];omega)
     have f0:=frozen_of_row wr (w.heap.size+1) (12+k) _ _ HG.out
     have hk0:0≤(k:Int):=by omega
     have hk1:(k:Int)<4:=by omega
     have hw:IntKind.i64.wrap (12+(k:Int))=12+(k:Int):=IntWalk.i64_in _ ⟨by omega,by omega⟩
     have hx1:0≤12+(k:Int):=by omega
     have hx2:12+(k:Int)<16:=by omega
     have hx3:(12+(k:Int)).toNat=12+k:=by omega
     have HSTEP:Hid ((Ctr.bq A B C 6 k).set (12+k) (C.getD k 0)=Ctr.bq A B C 6 (k+1)):=Ctr.bq_two A B C k hlt
     generalize (Ctr.bq A B C 6 k).getD (12+k) 0=z0 at d0
     generalize hCC:C.getD k 0=a0 at *
     go_wp2
     refine ⟨⟨k+1,by omega,by go_num,?_,?_⟩,by simp [intOf];omega⟩
     ·have h2:=u8_set (i:=12+k) (x:=a0) HG.out
      rw [HSTEP.out] at h2
      exact h2
     ·exact HO.out.trans (Chg.setCell wr ⟨w.heap.size+1,12+k,none⟩ _).only
    ·obtain rfl:k=4:=by omega
     have h17:(4:Int)≤((4:Nat):Int):=by decide
     have HGY:Hid (wr.heap[w.heap.size+1]?=some (.cells Y 246 (0,0))):=by show _=_;rw [HG.out,HY1.out]
     have HRX:Hid (wr.heap[w.heap.size]?=some (.cells #[.int .u8 0,.int .u8 0,.int .u8 0,.int .u8 0,.int .u8 0,.int .u8 0,.int .u8 0,.int .u8 0,.int .u8 0,.int .u8 0,.int .u8 0,.int .u8 0,.int .u8 0,.int .u8 0,.int .u8 0,.int .u8 0] 246 (0,0))):=(HO.out.block _ (lt_of_block HR4.out) (by omega)).trans HR4.out
     have HBX:Hid (Below w.heap.size w wr):=HO.out.below HB4.out (by omega) HB4.out.size
     clear hlt HG HO HS4 HB4 HR4
     go_wp2_with (first
      | ((with_reducible refine row_load _ _ _ _ _ _ _ ?_ HGY.out Tryz.underlying246 ?_ (row_size Tryz.size16 HY2) ?_);(exact rfl);(exact rfl))
      | (go_at_call 221;refine (HK.out _ HBX.out).mono ?_;rintro r w6 ⟨rfl,hb6⟩;have HB6:Hid (Below w.heap.size w w6):=HBX.out.trans (hb6.mono HBX.out.size);have HR6:=Lib.hid ((hb6.block _ (lt_of_block HRX.out)).trans HRX.out);clear hb6)
      | ((with_reducible refine row_store _ _ _ _ _ _ _ ?_ ?_ HR6.out (row_size Tryz.size16 HX2) ?_ HX3.out ?_);(exact rfl);(exact rfl);(rw [HX2.out];rfl);intro w7 G7 ch7))
     exact bodyPost_ret (results_cell_row rfl _ _ w.heap.size 246 X (0,0) _ rfl G7.out Tryz.underlying246 rfl (row_size Tryz.size16 HX2)) rfl ⟨rfl,ch7.below HB6.out (by omega)⟩
theorem step_append_u8L {ops:Array Oper} {o:Oper} {a:Act} {K:Act→World→Prop} {Q:Exit→Act→World→Prop} {E:Prop} (w0:World) (X:Int) 
  (s x:Operand) (base:Nat) (v:Value) (n:Nat) (l:List Int) (hg:o.guard=none) (hop:o.op=Op.call { callee:=Callee.builtin Builtin.append,args:=#[s,x],argTypes:=#[22,22] })
  (hs:a.eval s=v) (hx:a.eval x = .slice (some ⟨w0.heap.size,0,none⟩) 1 1) (hown:w0.ownsRow base 5 1 v n (U8s l)) (hn:n≤1000000) (hb:base≤w0.heap.size)
  (hK:∀ v' w',w'.ownsRow base 5 1 v' (n+1) (U8s (l++[X]))→((w0.alloc (.cells #[.int .u8 X] 5)).drew).grownBy w' v.ownBlock→K (a.put o.dst v') w') :
  if Region.wanted o (yielded ops a.tmps)=true then Oper.wp Tryz.prog o a (w0.alloc (.cells #[.int .u8 X] 5)).drew K Q else E:=by
 obtain ⟨i0,hi,hz0,hz1,hz2⟩:=info_parts Tryz.info_u8
 refine step_append_own hg s x 22 hop base 5 i0 (.int .u8 0) 1 1 Tryz.underlying22 hi hz0 hz1 hz2 rfl (by decide) v n (U8s l) hs (hown.alloc _).drew ⟨w0.heap.size,0,none⟩ 1 1 [.int .u8 X] hx rfl ?_ (u8_oneX X) (by unfold maxLen;omega) (by omega) (by show _≤(w0.alloc _).heap.size;simp;omega) ?_
 ·intro j u hj
  match j,hj with
  | 0,hj=>simp at hj;subst hj;exact u8_cell1 w0 X 5 0 _ rfl
 ·intro v' w' h1 h2
  rw [U8s_snoc] at h1
  exact hK v' w' h1 h2
theorem heap_oldX (w:World) (o:Obj) {r:Nat} (h:r<w.heap.size):(w.alloc o).heap[r]?=w.heap[r]?:=by
 show (w.heap.push o)[r]?=_
 rw [Array.getElem?_push,if_neg (by omega)]
theorem ty_ne {w:World} {B n G:Nat} {v:Value} {xs:List Value} {Y:Array Value} {fr:Nat × Nat} (hg:w.heap[G]?=some (.cells Y 246 fr)) (h:w.ownsRow B 5 1 v n xs):some G ≠ v.ownBlock:=by
 intro e
 rcases h.2 with ⟨rfl,_⟩ | ⟨g,cap,cur,rfl,_,hg',_⟩
 ·cases e
 ·simp only [Value.ownBlock,Option.some.injEq] at e
  subst e
  rw [hg'] at hg
  simp only [Option.some.injEq,Obj.cells.injEq] at hg
  exact absurd hg.2.1 (by decide)
theorem take_next (X:List Int) (k:Nat) (hk:k<X.length):X.take k++[X.getD k 0]=X.take (k+1):=by
 rw [List.take_add_one,List.getElem?_eq_getElem hk,List.getD_eq_getElem?_getD,List.getElem?_eq_getElem hk];rfl
set_option maxHeartbeats 2000000 in
set_option maxRecDepth 100000 in
theorem rxor_any (d:Nat) (S:Nat→List Int) (hS:∀ i,(S i).length=16) (e n:Int) (L:List Int) (p:Option Addr) (cap:Nat) (hL:L.length≤8192) (w:World) (hp:BAt w p L)
  (hblk:∀ i x,i<4294967296→Below w.heap.size w x→Calls Tryz.prog 208 #[.pointer (some ⟨d,0,none⟩),.int .i64 e,.int .i64 n,.int .i64 (i:Nat)] x fun r x'=>r = .returned (.agg ((S i).map (Value.int .u8)).toArray)∧Hid (Below x.heap.size x x')) :
  Calls Tryz.prog 183 #[.pointer (some ⟨d,0,none⟩),.int .i64 e,.int .i64 n,.slice p L.length cap] w fun r w'=>∃ v,r = .returned v∧w'.ownsRow w.heap.size 5 1 v L.length (U8s (Ctr.xs S L))∧Below w.heap.size w w':=by
 have HP:=Lib.hid hp
 have HK:=Lib.hid hblk
 have HSL:=Lib.hid hS
 obtain ⟨X,HX⟩:∃ X,Hid (X=Ctr.xs S L):=⟨_,rfl⟩
 have HXL:Hid (X.length=L.length):=by show _=_;rw [HX.out,Ctr.xs_len]
 have HXS:Hid (∀ k j,j<16→16*k+j<L.length→X.take (16*k+j)++[bits .xor .u8 (L.getD (16*k+j) 0) ((S k).getD j 0)]=X.take (16*k+j+1)):=fun k j hj hk=>by
  rw [← take_next X (16*k+j) (by rw [HXL.out];exact hk),HX.out,Ctr.xs_get _ _ _ hk,show (16*k+j) / 16=k by omega,show (16*k+j) % 16=j by omega]
 rw [← HX.out]
 clear hp hblk hS HX
 go_enter Tryz.func183,Tryz.ntmps183
 go_wp2
 go_loopw [9,10] (fun v9 v10 wr=>∃ k:Nat,16*k<L.length+16∧v10 = .int .i64 (16*(k:Int))∧Hid (wr.ownsRow w.heap.size 5 1 v9 (min (16*k) L.length) (U8s (X.take (16*k))))∧Hid (Below w.heap.size w wr)) (fun _ v10 _=>L.length+16-(intOf v10).toNat)
 case atStart=>exact ⟨0,by omega,rfl,by rw [show min (16*0) L.length=0 by omega];unfold U8s;exact World.ownsRow_nil _ _ _ _,Below.refl _ _⟩
 case round =>
  obtain ⟨k,hk,rfl,HO,HB⟩:=hrel
  by_cases hlt:16*k<L.length
  ·have HO1:Hid (wr.ownsRow w.heap.size 5 1 u9 (16*k+0) (U8s (X.take (16*k+0)))):=by
    have h:=HO.out
    rw [show min (16*k) L.length=16*k by omega] at h
    exact h
   clear HO
   have hli:16*(k:Int)<(L.length:Int):=by omega
   have d1:(16*(k:Int)).tdiv 16=k:=by rw [Int.tdiv_eq_ediv_of_nonneg (by omega)];omega
   have d2:IntKind.i64.wrap (k:Int)=k:=IntWalk.i64_in _ ⟨by omega,by omega⟩
   obtain ⟨Y,HY1,HY2,HY3⟩:∃ Y:Array Value,Hid (Y=((S k).map (Value.int .u8)).toArray)∧Hid (Y.size=16)∧Hid (Y.all (·.oneCell')=true):=⟨_,rfl,by show _=_;simp [HSL.out],u8_all _⟩
   have HK1:=Lib.hid (HK.out k wr (by omega) HB.out)
   rw [← HY1.out] at HK1
   go_upto_region 6 with (first
    | (go_at_call 208;refine HK1.out.mono ?_;rintro r w2 ⟨rfl,hb2⟩;have HB2:Hid (Below w.heap.size w w2):=HB.out.trans (hb2.out.mono HB.out.size);have HO2:Hid (w2.ownsRow w.heap.size 5 1 u9 (16*k+0) (U8s (X.take (16*k+0)))):=own_keepX HO1.out hb2.out;have HG2:Hid ((w2.alloc (.cells #[.int .u8 0,.int .u8 0,.int .u8 0,.int .u8 0,.int .u8 0,.int .u8 0,.int .u8 0,.int .u8 0,.int .u8 0,.int .u8 0,.int .u8 0,.int .u8 0,.int .u8 0,.int .u8 0,.int .u8 0,.int .u8 0] 246)).heap[w2.heap.size]?=some (.cells #[.int .u8 0,.int .u8 0,.int .u8 0,.int .u8 0,.int .u8 0,.int .u8 0,.int .u8 0,.int .u8 0,.int .u8 0,.int .u8 0,.int .u8 0,.int .u8 0,.int .u8 0,.int .u8 0,.int .u8 0,.int .u8 0] 246 (0,0))):=heap_alloc_new _ _;clear hb2)
    | ((with_reducible refine row_store _ _ _ _ _ _ _ ?_ ?_ HG2.out (row_size Tryz.size16 HY2) ?_ HY3.out ?_);(exact rfl);(exact rfl);(rw [HY2.out];rfl);intro w3 G3 ch3))
   have HO3:Hid (w3.ownsRow w.heap.size 5 1 u9 (16*k+0) (U8s (X.take (16*k+0)))):=own_keepX HO2.out (ch3.below ((Below.refl _ w2).alloc (Nat.le_refl _) _) (Nat.le_refl _))
   have HB3:Hid (Below w.heap.size w w3):=HB2.out.trans ((ch3.below ((Below.refl _ w2).alloc (Nat.le_refl _) _) (Nat.le_refl _)).mono HB2.out.size)
   clear HO1 HB HK1 HO2 HB2 HG2 ch3
   generalize w2.heap.size=G at *
   go_wp2
   go_loopw [9,12] (fun v9 v12 wr=>∃ j:Nat,j≤16∧16*k+j≤L.length∧v12 = .int .i64 j∧Hid (wr.ownsRow w.heap.size 5 1 v9 (16*k+j) (U8s (X.take (16*k+j))))∧Hid (Below w.heap.size w wr)∧Hid (wr.heap[G]?=some (.cells Y 246 (0,0)))) (fun _ v12 _=>16-(intOf v12).toNat)
   case atStart=>exact ⟨0,by omega,by omega,rfl,HO3.out,HB3.out,G3.out⟩
   case round =>
    clear HO3 HB3 G3
    obtain ⟨j,hj,hkj,rfl,HO,HB,HG⟩:=hrel
    have hw:IntKind.i64.wrap (16*(k:Int)+j)=16*(k:Int)+j:=IntWalk.i64_in _ ⟨by omega,by omega⟩
    by_cases h1:j<16
    ·by_cases h2:16*k+j<L.length
     ·have h2i:16*(k:Int)+j<(L.length:Int):=by omega
      have h1i:(j:Int)<16:=by omega
      obtain ⟨ab,ao,hpa,hca⟩:=(HP.out.old HB.out).2 (by omega)
      subst hpa
      have c0:=hca (16*k+j) h2
      have HGG:=HG.out
      rw [HY1.out] at HGG
      have c1:=u8_cellB HGG j (by rw [HSL.out];exact h1)
      have HX2:=Lib.hid (HXS.out k j h1 h2)
      clear hca HGG
      generalize L.getD (16*k+j) 0=x1 at *
      generalize (S k).getD j 0=y1 at *
      have f1:0≤16*(k:Int)+j:=by omega
      have f2:(16*(k:Int)+j).toNat=16*k+j:=by omega
      have f3:0≤(j:Int):=by omega
      have f4:(j:Int).toNat=j:=by omega
      go_wp2
      have d7:wr.drew.cell? ⟨ab,ao+(16*k+j),none⟩=some (.int .u8 x1):=c0
      have d8:wr.drew.cell? ⟨G,j,none⟩=some (.int .u8 y1):=c1
      go_region_law ((with_reducible refine step_append_u8L wr _ (.tmp 37) (.tmp 48) w.heap.size u9 (16*k+j) (X.take (16*k+j)) ?_ ?_ ?_ ?_ HO.out ?_ ?_ ?_);(exact rfl);(exact rfl);(exact rfl);(exact rfl);omega;(exact HB.out.size);intro v' w4 hown' hgrow;have hb1:=below_own'B HB.out HB.out.size HO.out hgrow)
      all_goals
       rw [HX2.out] at hown'
       have hg4:Hid (w4.heap[G]?=some (.cells Y 246 (0,0))):=(hgrow.block _ (by have:=lt_of_block HG.out;show _<(wr.alloc _).heap.size;simp;omega) (ty_ne HG.out HO.out)).trans ((heap_oldX _ _ (lt_of_block HG.out)).trans HG.out)
       clear hgrow HO HB HX2 HG
       go_wp2
       exact ⟨⟨j+1,by omega,by omega,by go_num,hown',hb1,hg4.out⟩,by simp [intOf];omega⟩
     ·have h2i:(L.length:Int)≤16*(k:Int)+j:=by omega
      have h1i:(j:Int)<16:=by omega
      have HO4:Hid (wr.ownsRow w.heap.size 5 1 u9 (min (16*(k+1)) L.length) (U8s (X.take (16*(k+1))))):=by
       have h:=HO.out
       rw [List.take_of_length_le (by rw [HXL.out];omega)] at h
       rw [show min (16*(k+1)) L.length=16*k+j by omega,List.take_of_length_le (by rw [HXL.out];omega)]
       exact h
      clear HO HG
      go_wp2
      exact ⟨⟨k+1,by omega,by go_num,HO4.out,HB.out⟩,by simp [intOf];omega⟩
    ·have h1i:(16:Int)≤(j:Int):=by omega
     have HO4:Hid (wr.ownsRow w.heap.size 5 1 u9 (min (16*(k+1)) L.length) (U8s (X.take (16*(k+1))))):=by
      have h:=HO.out
      rw [show 16*k+j=16*(k+1) by omega] at h
      rw [show min (16*(k+1)) L.length=16*(k+1) by omega]
      exact h
     clear HO HG
     go_wp2
     exact ⟨⟨k+1,by omega,by go_num,HO4.out,HB.out⟩,by simp [intOf];omega⟩
  ·have hli:(L.length:Int)≤16*(k:Int):=by omega
   have HO4:Hid (wr.ownsRow w.heap.size 5 1 u9 L.length (U8s X)):=by
    have h:=HO.out
    rw [show min (16*k) L.length=L.length by omega,List.take_of_length_le (by rw [HXL.out];omega)] at h
    exact h
   clear HO
   go_wp2
   go_ret
   exact ⟨_,rfl,HO4.out,HB.out⟩
theorem ref_blk (K:List Int) (hKB:Sha.Byt K) (m:Nat) (hm:m=4∨m=6∨m=8) (hK:K.length=4*m) (B d:Nat) (M:List Int) (x:World) (hl:M.length=16) (hb:Sha.Byt M) (hc:RCiphB B x d (4*(m+7)) (Aes.up (Aes.rb (Aes.kyl K m)) (16*(m+7)))) :
  Calls Tryz.prog 221 #[.pointer (some ⟨d,0,none⟩),.agg (M.map (Value.int .u8)).toArray] x fun e x'=>e = .returned (.agg ((Aes.blk Aes.TB (Aes.kws Aes.TB K) (m+5) M).map (Value.int .u8)).toArray)∧Below x.heap.size x x':=by
 have hm0:0<m:=by omega
 have h:=block_ref d (Aes.up (Aes.rb (Aes.kyl K m)) (16*(m+7))) (Aes.rb (Aes.kyl K m)) (Aes.nb M) (m+5) x hc.plain (by omega) (fun j hj=>⟨Aes.up_get _ _ _ (by omega),Aes.rb_lt K hKB m j⟩) (Aes.nb_b _ hb)
 have e1:Aes.up (Aes.nb M) 16=M:=up_nb _ hl hb
 have e2:Aes.up (Aes.blR (Aes.rb (Aes.kyl K m)) (m+5) (Aes.nb M)) 16=Aes.blk Aes.TB (Aes.kws Aes.TB K) (m+5) M:=by
  unfold Aes.blk
  rw [Aes.toW_st _ hb]
  obtain ⟨q1,q2⟩:=Aes.last_st (Aes.rb (Aes.kyl K m)) (Aes.nb M) (Aes.kws Aes.TB K) (m+5) (Aes.nb_b _ hb) (fun j _=>Aes.rb_lt K hKB m j) (fun k hk=>Aes.kws_sw K hKB m hm0 hK k (by omega))
  rw [q1]
  exact (blk4_st _ q2).symm
 rw [e1,e2] at h
 exact h.mono fun e w' hh=>⟨hh.1,hh.2⟩
theorem rxor_key (K:List Int) (hKB:Sha.Byt K) (m:Nat) (hm:m=4∨m=6∨m=8) (hK:K.length=4*m) (B d:Nat) (e n:Int) (L:List Int) (p:Option Addr) (cap:Nat) (hL:L.length≤8192) (w:World) (hp:BAt w p L) (hc:RCiphB B w d (4*(m+7)) (Aes.up (Aes.rb (Aes.kyl K m)) (16*(m+7)))) :
  Calls Tryz.prog 183 #[.pointer (some ⟨d,0,none⟩),.int .i64 e,.int .i64 n,.slice p L.length cap] w fun r w'=>∃ q cq,r = .returned (.slice q L.length cq)∧Hid (XorGot L (Ctr.xs (StreamOf (Aes.kws Aes.TB K) (m+5) e n) L) w q cq w'):=by
 refine (rxor_any d (StreamOf (Aes.kws Aes.TB K) (m+5) e n) (fun i=>by unfold StreamOf;exact sblk_len _ _ _ _ _) e n L p cap hL w hp (fun i x hi hx=>?_)).mono ?_
 ·have h:=rblock_any d (fun x=>RCiphB B x d (4*(m+7)) (Aes.up (Aes.rb (Aes.kyl K m)) (16*(m+7)))) (Aes.blk Aes.TB (Aes.kws Aes.TB K) (m+5)) (fun M=>Aes.blk_len _ _ _ _) (fun x x' h hb=>h.keep hb) (fun M x hl hb hr=>ref_blk K hKB m hm hK B d M x hl hb hr) e n i hi x (hc.keep hx)
  unfold StreamOf Ctr.sblk
  exact h
 ·rintro r w' ⟨v,rfl,ho,hb⟩
  obtain ⟨q,cq,rfl,h1,h2,h3,h4,h5,_⟩:=own_bat ho (Ctr.xs_byt _ _)
  exact ⟨q,cq,rfl,ho,h2,h1,h3,⟨h4,h5⟩,hb⟩
end
section
open Go.ChangeShapes Go.WideShapes Go.RowKit
end
section
open Go.ChangeShapes Go.WideShapes Go.RowKit
end
end
end Go.Proofs.YtnnalemboeccbaaGreatDoor

/-
  PaM, PaO, PaP, PaQ, PaE2, PaRo (merged)
-/
import Derived.Test.YtnnalemboeccbaaGreatDoorPa1
import Derived.Test.YtnnalemboeccbaaGreatDoorA3
import Derived.Test.YtnnalemboeccbaaGreatDoorBd1
import Derived.Test.YtnnalemboeccbaaGreatDoorA6
import Derived.Test.YtnnalemboeccbaaGreatDoorNa1
import Derived.Test.YtnnalemboeccbaaGreatDoorRows
import Derived.ChangeSame
import Derived.ChangeVars
import Derived.ChangeSlices
import Derived.JoinedOf
import Derived.JoinedAt
import Derived.RowKit
import Derived.RowKitTokens
import Derived.ProofKit
import Derived.SizedLaws
import Derived.Carry
import Derived.OpenShut
import Derived.Deep.Slices
import Derived.ChangeArms
namespace Go.Proofs.YtnnalemboeccbaaGreatDoor

/-! PaM:  -/
section
open Go.RowKit
theorem Pk.u_byte (v:Int) (i:Nat) (hi:i≤7):v % 18446744073709551616 / 256 ^ i % 256=v / 256 ^ i % 256:=by
 match i,hi with
 | 0,_=>simp
 | 1,_=>simp;omega
 | 2,_=>simp;omega
 | 3,_=>simp;omega
 | 4,_=>simp;omega
 | 5,_=>simp;omega
 | 6,_=>simp;omega
 | 7,_=>simp;omega
set_option maxHeartbeats 1000000 in
set_option maxRecDepth 100000 in
theorem refint_any (L:List Int) (v:Int) (p:Option Addr) (n c m:Nat) (hn:L.length=n) (hm:n+8=m) (hL:n≤1000000) (w:World) (hp:Bs w p c L) :
  Calls Tryz.prog 112 #[.slice p n c,.int .i64 v] w (RowOf (L++Pk.e8 v 8) m w):=by
 have HP:=Lib.hid hp;clear hp
 have HN:=Lib.hid hn;clear hn
 obtain ⟨i0,hi,hz0,hz1,hz2⟩:=info_parts Tryz.info_u8
 have HO:Hid ((w.alloc (.cells #[] 5)).ownsRow w.heap.size 5 1 (.slice (some ⟨w.heap.size,0,none⟩) 0 0) 0 (U8s [])):=by
  refine ⟨by unfold U8s;rfl,Or.inr ⟨w.heap.size,0,_,rfl,Nat.le_refl _,heap_alloc_new w _,Nat.le_refl _,by unfold maxLen;omega,by simp,by unfold U8s;simp⟩⟩
 have HB:Hid (Below w.heap.size w (w.alloc (.cells #[] 5))):=(Below.refl _ w).alloc (Nat.le_refl _) _
 have HBS:Hid (Bs (w.alloc (.cells #[] 5)) p c L):=HP.out.old HB.out
 go_enter Tryz.func112,Tryz.ntmps112
 go_wp2_with (first
  | (at_builtin;refine append_bts _ _ L w.heap.size _ _ _ p _ c rfl rfl HN.out HBS.out HO.out (by omega) (by simp) ?_;intro v5 w5 ho5 hg5;have HO5:=Lib.hid ho5;have HG5:=Lib.hid hg5;clear ho5 hg5)
  | go_in)
 have HO0:Hid (w5.ownsRow w.heap.size 5 1 v5 (n+0) (U8s (L++Pk.e8 v 0))):=by
  have h:=HO5.out
  rw [List.nil_append] at h
  rw [show Pk.e8 v 0 = [] from List.eq_nil_of_length_eq_zero (Pk.e8_len _ _),List.append_nil,Nat.add_zero]
  rw [Nat.zero_add] at h
  exact h
 have HB5:Hid (Below w.heap.size w w5):=HB.out.grown HG5.out (by simp) (fun q hq=>(HO.out.lt q hq).1)
 have HU:Hid (IntKind.u64.wrap v=v % 18446744073709551616):=by show _=_;unfold IntKind.wrap;simp [IntKind.signed,IntKind.bits]
 clear HO5 HG5 HO HB HBS
 generalize IntKind.u64.wrap v=U at *
 go_loopw [5,7] (fun u5 u7 wr=>∃ k:Nat,k≤8∧u7 = .int .i64 (7-(k:Int))∧Hid (wr.ownsRow w.heap.size 5 1 u5 (n+k) (U8s (L++Pk.e8 v k)))∧Hid (Below w.heap.size w wr)) (fun _ u7 _=>(intOf u7+1).toNat)
 case atStart=>exact ⟨0,by omega,rfl,HO0.out,HB5.out⟩
 case round =>
  clear HO0 HB5
  obtain ⟨k,hk,rfl,HO,HB⟩:=hrel
  by_cases hlt:k<8
  ·have hx0:7-(k:Int)≥0:=by omega
   have hw3:IntKind.i64.wrap (8*(7-(k:Int)))=8*(7-(k:Int)):=IntWalk.i64_in _ ⟨by omega,by omega⟩
   have hw5:wrap64 (8*(7-(k:Int)))=8*(7-(k:Int)):=IntWalk.wrap64_in _ ⟨by omega,by omega⟩
   have hw4:IntKind.u64.wrap (8*(7-(k:Int)))=8*(7-(k:Int)):=by unfold IntKind.wrap;simp [IntKind.signed,IntKind.bits];omega
   have hx6:(2:Int) ^ (8*(7-(k:Int))).toNat=256 ^ (7-k):=by
    rw [show (8*(7-(k:Int))).toNat=8*(7-k) by omega,Int.pow_mul]
    rfl
   have HX:Hid (U / 256 ^ (7-k) % 256=v / 256 ^ (7-k) % 256):=by show _=_;rw [HU.out];exact Pk.u_byte v (7-k) (by omega)
   have hx7:(k:Int)≤7:=by omega
   go_wp2_with (first
    | (at_builtin;refine wpList_append_own _ rfl _ _ 22 rfl w.heap.size 5 i0 (.int .u8 0) 1 1 Tryz.underlying22 hi hz0 hz1 hz2 rfl (by decide) _ _ _ rfl (HO.out.alloc _) ⟨wr.heap.size,0,none⟩ 1 1 [.int .u8 (U / 256 ^ (7-k) % 256)] rfl rfl (u8_cell _ _ _) (u8_one _) (by unfold maxLen;omega) (by omega) (by have:=HB.out.size;simp;omega) ?_)
    | go_in)
   intro v' w1 hown' hgrow _
   have hb1:=below_own HB.out (HB.out.size) HO.out hgrow
   rw [U8s_snoc,HX.out,List.append_assoc,← Pk.e8_succ] at hown'
   have HO':=Lib.hid hown'
   have HB':=Lib.hid hb1
   clear hgrow HO HB hown' hb1
   go_wp2
   refine ⟨⟨k+1,by omega,?_,HO'.out,HB'.out⟩,by simp [intOf];omega⟩
   congr 1
   omega
  ·obtain rfl:k=8:=by omega
   clear hlt
   go_wp2
   go_ret
   obtain ⟨p',c',rfl,hbs,hlen⟩:=own_bs HO.out (Sha.byt_append HP.out.bat.1 (Pk.e8_byt v 8))
   have hl:(L++Pk.e8 v 8).length=m:=by rw [List.length_append,HN.out,Pk.e8_len];exact hm
   have h:=HO.out
   rw [hl,hm] at h
   rw [hl]
   exact ⟨p',c',rfl,h,hbs,HB.out⟩
end

/-! PaO:  -/
section
open Go.RowKit
structure RfRd (w:World) (g:Nat) (D:Option Nat) (L:List Int) (b:Bool):Prop where
 row:∃ p c a B,w.heap[g]?=some (.cells #[.slice p (List.length B) c,.int .i64 (a:Nat),.bool b] 193 (0,0))∧Bs w p c B∧a≤B.length∧B.length≤1000000∧(b=false→L=B.drop a)∧(b=true→L = [])∧(∀ ad,p=some ad→D=some ad.block)
 ne:D ≠ some g
 lt:∀ d,D=some d→d<w.heap.size
theorem RfRd.glt {w:World} {g:Nat} {D:Option Nat} {L:List Int} {b:Bool} (h:RfRd w g D L b):g<w.heap.size:=by
 obtain ⟨p,c,a,B,h1,_⟩:=h.row
 exact lt_of_block h1
theorem RfRd.only {w x:World} {g k:Nat} {D:Option Nat} {L:List Int} {b:Bool} (h:RfRd w g D L b) (ho:Only k w x) (hk:k ≠ g) (hd:D ≠ some k):RfRd x g D L b:=by
 obtain ⟨⟨p,c,a,B,h1,h2,h3,h6,h7,h8,h9⟩,h4,h5⟩:=h
 exact ⟨⟨p,c,a,B,(ho.block g (lt_of_block h1) (Ne.symm hk)).trans h1,h2.only ho (fun ad ha e=>hd (by rw [h9 ad ha,e])),h3,h6,h7,h8,h9⟩,h4,fun d hd=>Nat.lt_of_lt_of_le (h5 d hd) ho.size⟩
theorem RfRd.old {w x:World} {g:Nat} {D:Option Nat} {L:List Int} {b:Bool} (h:RfRd w g D L b) (hb:Below w.heap.size w x):RfRd x g D L b:=by
 obtain ⟨⟨p,c,a,B,h1,h2,h3⟩,h4,h5⟩:=h
 exact ⟨⟨p,c,a,B,(hb.block g (lt_of_block h1)).trans h1,h2.old hb,h3⟩,h4,fun d hd=>Nat.lt_of_lt_of_le (h5 d hd) hb.size⟩
def RfNew (L:List Int) (w:World) (e:Ending) (w':World):Prop :=
 ∃ g D,e = .returned (.pointer (some ⟨g,0,none⟩))∧Hid (RfRd w' g D L false)∧Hid (w.heap.size≤g∧∀ d,D=some d→w.heap.size≤d)∧Hid (Below w.heap.size w w')
set_option maxHeartbeats 1000000 in
set_option maxRecDepth 100000 in
theorem refread_any (L:List Int) (p:Option Addr) (n c:Nat) (hn:L.length=n) (hL:n≤1000000) (w:World) (hp:Bs w p c L) :
  Calls Tryz.prog 102 #[.slice p n c] w (RfNew L w):=by
 have HP:=Lib.hid hp;clear hp
 have HN:=Lib.hid hn;clear hn
 have HO:Hid ((w.alloc (.cells #[] 5)).ownsRow w.heap.size 5 1 (.slice (some ⟨w.heap.size,0,none⟩) 0 0) 0 (U8s [])):=by
  refine ⟨by unfold U8s;rfl,Or.inr ⟨w.heap.size,0,_,rfl,Nat.le_refl _,heap_alloc_new w _,Nat.le_refl _,by unfold maxLen;omega,by simp,by unfold U8s;simp⟩⟩
 have HB:Hid (Below w.heap.size w (w.alloc (.cells #[] 5))):=(Below.refl _ w).alloc (Nat.le_refl _) _
 have HBS:Hid (Bs (w.alloc (.cells #[] 5)) p c L):=HP.out.old HB.out
 go_enter Tryz.func102,Tryz.ntmps102
 go_wp2_with (first
  | (at_builtin;refine append_bts _ _ L w.heap.size _ _ _ p _ c rfl rfl HN.out HBS.out HO.out (by omega) (by simp) ?_;intro v5 w5 ho5 hg5;have HO5:=Lib.hid ho5;have HG5:=Lib.hid hg5;clear ho5 hg5;obtain ⟨p1,c1,rfl,hbs,_⟩:=own_bs HO5.out (Sha.byt_append (fun x hx=>by cases hx) HP.out.bat.1);have HB5:=Lib.hid hbs;clear hbs)
  | go_in)
 go_ret
 have HB6:Hid (Below w.heap.size w w5):=HB.out.grown HG5.out (by simp) (fun q hq=>(HO.out.lt q hq).1)
 have HB7:Hid (Below w.heap.size w (w5.alloc (.cells #[.slice p1 L.length c1,.int .i64 0,.bool false] 193))):=HB6.out.alloc HB6.out.size _
 have HBS2:Hid (Bs (w5.alloc (.cells #[.slice p1 L.length c1,.int .i64 0,.bool false] 193)) p1 c1 L):=by
  have h:=HB5.out.old ((Below.refl _ w5).alloc (Nat.le_refl _) (.cells #[.slice p1 L.length c1,.int .i64 0,.bool false] 193))
  rw [List.nil_append] at h
  exact h
 have HD:Hid (∀ d,p1.map (·.block)=some d→w.heap.size≤d∧d<w5.heap.size):=fun d hd=>by
  cases p1 with
  | none=>cases hd
  | some ad =>
   cases hd
   obtain ⟨h2,h1⟩:=HO5.out.lt ad.block rfl
   exact ⟨h2,h1⟩
 refine ⟨w5.heap.size,p1.map (·.block),rfl,⟨⟨p1,c1,0,L,heap_alloc_new w5 _,HBS2.out,Nat.zero_le _,by rw [HN.out];omega,fun _=>by rw [List.drop_zero],fun h=>(by cases h),fun ad h=>by rw [h];rfl⟩,fun h=>?_,fun d hd=>?_⟩,⟨HB6.out.size,fun d hd=>(HD.out d hd).1⟩,HB7.out⟩
 ·have h1:=(HD.out _ h).2
  omega
 ·have h1:=(HD.out _ hd).2
  simp
  omega
set_option maxRecDepth 100000 in
theorem refleft_any (L:List Int) (b:Bool) (g:Nat) (D:Option Nat) (w:World) (hr:RfRd w g D L b):Calls Tryz.prog 150 #[.pointer (some ⟨g,0,none⟩)] w (LeftSay L w):=by
 obtain ⟨p,c,a,B,h1,h2,h3,h6,h7,h8,h9⟩:=hr.row
 have c0:w.cell? ⟨g,0,none⟩=some (.slice p B.length c):=by rw [cell_of_row w g 0 _ _ _ h1];rfl
 have c1:w.cell? ⟨g,1,none⟩=some (.int .i64 (a:Nat)):=by rw [cell_of_row w g 1 _ _ _ h1];rfl
 have c2:w.cell? ⟨g,2,none⟩=some (.bool b):=by rw [cell_of_row w g 2 _ _ _ h1];rfl
 cases b with
 | true =>
  have HE:=Lib.hid (h8 rfl)
  clear h1 h2 h3 h6 h7 h8 h9 hr
  go_enter Tryz.func150,Tryz.ntmps150
  go_wp2
  go_ret
  exact ⟨by rw [HE.out];rfl,Below.refl _ _⟩
 | false =>
  have HE:Hid (((B.length:Nat):Int)-((a:Nat):Int)=((L.length:Nat):Int)):=by
   show _=_
   rw [h7 rfl,List.length_drop]
   omega
  clear h1 h2 h7 h8 h9 hr
  generalize B.length=n at *
  have hw:wrap64 ((n:Int)-(a:Int))=(n:Int)-(a:Int):=IntWalk.wrap64_in _ ⟨by omega,by omega⟩
  go_enter Tryz.func150,Tryz.ntmps150
  go_wp2
  go_quiet (fail)
  go_wp2
  go_ret
  exact ⟨by rw [← HE.out];rfl,below_dn (Below.refl _ _) _⟩
set_option maxRecDepth 100000 in
theorem refend_any (L:List Int) (b:Bool) (g:Nat) (D:Option Nat) (w:World) (hr:RfRd w g D L b):Calls Tryz.prog 110 #[.pointer (some ⟨g,0,none⟩)] w (EndSayP (Pk.en L b) w):=by
 obtain ⟨p,c,a,B,h1,h2⟩:=hr.row
 have c2:w.cell? ⟨g,2,none⟩=some (.bool b):=by rw [cell_of_row w g 2 _ _ _ h1];rfl
 have HR:=Lib.hid hr
 clear h1 h2 hr
 cases b with
 | true =>
  go_enter Tryz.func110,Tryz.ntmps110
  go_wp2
  go_ret
  exact ⟨rfl,Below.refl _ _⟩
 | false =>
  have HC:=Lib.hid (refleft_any L false g D w HR.out)
  by_cases h0:0<L.length
  ·have HE:Hid (Pk.en L false=3):=by show _=_;unfold Pk.en;simp [h0]
   have h0':((L.length:Nat):Int)>0:=by omega
   go_enter Tryz.func110,Tryz.ntmps110
   go_wp2_with (go_at_call 150;refine HC.out.mono ?_;rintro e1 w1 ⟨rfl,hb⟩)
   go_ret
   exact ⟨by rw [HE.out];rfl,hb⟩
  ·have HE:Hid (Pk.en L false=0):=by show _=_;unfold Pk.en;simp [h0]
   have h0':¬ ((L.length:Nat):Int)>0:=by omega
   go_enter Tryz.func110,Tryz.ntmps110
   go_wp2_with (go_at_call 150;refine HC.out.mono ?_;rintro e1 w1 ⟨rfl,hb⟩)
   go_ret
   exact ⟨by rw [HE.out];rfl,hb⟩
end

/-! PaP:  -/
section
open Go.RowKit
theorem only_of_below_any {g:Nat} {w w':World} (h:Below w.heap.size w w'):Only g w w':=⟨h.os,h.tape,h.output,h.size,fun k hk _=>h.block k hk⟩
theorem Bs.drewN {w:World} {p:Option Addr} {c:Nat} {L:List Int} (h:Bs w p c L) (n:Nat):Bs (w.drewN n) p c L:=⟨h.bat.drewN n,h.cap,h.nil⟩
theorem RfRd.drewN {w:World} {g:Nat} {D:Option Nat} {L:List Int} {b:Bool} (h:RfRd w g D L b) (n:Nat):RfRd (w.drewN n) g D L b:=h.old ⟨rfl,rfl,rfl,Nat.le_refl _,fun _ _=>rfl⟩
theorem Only.drewN {g:Nat} {w x:World} (h:Only g w x) (n:Nat):Only g w (x.drewN n):=⟨h.os,h.tape,h.output,h.size,h.block⟩
def NxShort (g:Nat) (D:Option Nat) (w:World) (e:Ending) (w':World):Prop :=
 e = .returned (.tuple #[.slice none 0 0,.bool false])∧Hid (RfRd w' g D [] true)∧Hid (Only g w w')
set_option maxHeartbeats 1000000 in
set_option maxRecDepth 100000 in
theorem next_short (L:List Int) (b:Bool) (g:Nat) (D:Option Nat) (n k:Nat) (hn:L.length=n) (hk:n<k) (w:World) (hr:RfRd w g D L b) :
  Calls Tryz.prog 147 #[.pointer (some ⟨g,0,none⟩),.int .i64 (k:Nat)] w (NxShort g D w):=by
 have HC:Hid (∀ y,Below w.heap.size w y→Calls Tryz.prog 150 #[.pointer (some ⟨g,0,none⟩)] y fun e w'=>e = .returned (.int .i64 (n:Nat))∧Below y.heap.size y w'):=fun y hy=>by
  have h:=refleft_any L b g D y (hr.old hy)
  unfold LeftSay at h
  rw [hn] at h
  exact h
 have HR:=Lib.hid hr
 have hlt:(n:Int)<(k:Int):=by omega
 have HF:Hid (∀ y,Below w.heap.size w y→(∃ v,y.cell? ⟨g,2,none⟩=some v)∧y.frozen? ⟨g,2,none⟩=false∧RfRd (y.setCell ⟨g,2,none⟩ (.bool true)) g D [] true):=fun y hy=>by
  obtain ⟨⟨p,c,a,B,h1,h2,h3,h6,h7,h8,h9⟩,h4,h5⟩:=HR.out.old hy
  refine ⟨⟨.bool b,by rw [cell_of_row y g 2 _ _ _ h1];rfl⟩,frozen_of_row y g 2 _ _ h1,⟨p,c,a,B,?_,h2.only (Chg.setCell y ⟨g,2,none⟩ _).only (fun ad h e=>h4 (by rw [h9 ad h,e])),h3,h6,fun h=>(by cases h),fun _=>rfl,h9⟩,h4,fun d hd=>by simpa using h5 d hd⟩
  rw [heap_setCell_same y g 2 _ _ _ h1]
  rfl
 have B0:Hid (Below w.heap.size w w):=Below.refl _ _
 clear hr hn HR
 go_enter Tryz.func147,Tryz.ntmps147
 go_wp2_with (go_at_call 150;refine (HC.out _ B0.out).mono ?_;rintro e1 w1 ⟨rfl,hb⟩;obtain ⟨⟨v0,c0⟩,f0,hf⟩:=HF.out _ hb;have HF1:=Lib.hid hf;clear hf;have HB1:=Lib.hid hb;clear hb)
 go_ret2
 exact ⟨rfl,HF1.out,(only_of_below_any HB1.out).trans (Chg.setCell w1 ⟨g,2,none⟩ _).only⟩
def NxGood (L:List Int) (k g:Nat) (D:Option Nat) (w:World) (e:Ending) (w':World):Prop :=
 ∃ ab o c,e = .returned (.tuple #[.slice (some ⟨ab,o,none⟩) k c,.bool true])∧Hid (Bs w' (some ⟨ab,o,none⟩) c (L.take k))∧Hid (RfRd w' g D (L.drop k) false)∧Hid (Only g w w')∧Hid (D=some ab)
set_option maxHeartbeats 2000000 in
set_option maxRecDepth 100000 in
theorem next_good (L:List Int) (b:Bool) (g:Nat) (D:Option Nat) (n k:Nat) (hn:L.length=n) (hk:k≤n) (h0:0<k) (w:World) (hr:RfRd w g D L b) :
  Calls Tryz.prog 147 #[.pointer (some ⟨g,0,none⟩),.int .i64 (k:Nat)] w (NxGood L k g D w):=by
 have hbf:b=false:=by
  cases b with
  | false=>rfl
  | true =>
   obtain ⟨p,c,a,B,h1,h2,h3,h6,h7,h8,h9⟩:=hr.row
   rw [h8 rfl] at hn
   simp at hn
   omega
 subst hbf
 have HC:Hid (∀ y,Below w.heap.size w y→Calls Tryz.prog 150 #[.pointer (some ⟨g,0,none⟩)] y fun e w'=>e = .returned (.int .i64 (n:Nat))∧Below y.heap.size y w'):=fun y hy=>by
  have h:=refleft_any L false g D y (hr.old hy)
  unfold LeftSay at h
  rw [hn] at h
  exact h
 have hlt:¬ (n:Int)<(k:Int):=by omega
 obtain ⟨⟨p,c,a,B,h1,h2,h3,h6,h7,h8,h9⟩,h4,h5⟩:=hr
 have hLB:=h7 rfl
 have hnl:n=B.length-a:=by rw [← hn,hLB,List.length_drop]
 obtain ⟨m,hm⟩:∃ m,B.length=m:=⟨_,rfl⟩
 have hcap:=h2.cap
 obtain ⟨ab,ao,rfl,_⟩:=h2.bat.2 (by omega)
 have HD:Hid (D=some ab):=h9 _ rfl
 have HROW:Hid (∀ y,Below w.heap.size w y→y.heap[g]?=some (.cells #[.slice (some ⟨ab,ao,none⟩) m c,.int .i64 (a:Nat),.bool false] 193 (0,0))):=fun y hy=>by
  rw [← hm]
  exact (hy.block g (lt_of_block h1)).trans h1
 have HBS:Hid (∀ y,Below w.heap.size w y→Bs (y.setCell ⟨g,1,none⟩ (.int .i64 ((a:Int)+(k:Int)))) (some ⟨ab,ao,none⟩) c B):=fun y hy =>
  (h2.old hy).only (Chg.setCell y ⟨g,1,none⟩ _).only (fun ad h e=>h4 (by rw [h9 ad h,e]))
 have HTK:Hid (∀ y,Bs y (some ⟨ab,ao,none⟩) c B→Bs y (some ⟨ab,ao+a,none⟩) (c-a) (L.take k)):=fun y hy=>by
  rw [hLB]
  exact (hy.dropk (by omega)).take k
 have HDR:Hid (L.drop k=B.drop (a+k)):=by show _=_;rw [hLB,List.drop_drop]
 have HLT:Hid (∀ d,D=some d→d<w.heap.size):=h5
 have HNE:Hid (D ≠ some g):=h4
 have HML:Hid (B.length=m):=hm
 have B0:Hid (Below w.heap.size w w):=Below.refl _ _
 have hmc:m≤c:=by omega
 have hma:a+k≤m:=by omega
 have hmb:m≤1000000:=by omega
 have hcc:c≤9223372036854775807:=hcap.2
 clear hn h1 h2 h3 h4 h5 h6 h7 h8 h9 hLB hnl hm hcap
 have hw2:IntKind.i64.wrap ((a:Int)+(k:Int)-(k:Int))=(a:Int):=by rw [IntWalk.i64_in _ ⟨by omega,by omega⟩];omega
 have hw3:wrap64 ((a:Int)+(k:Int)-(k:Int))=(a:Int):=by rw [IntWalk.wrap64_in _ ⟨by omega,by omega⟩];omega
 have hca:¬ c=a:=by omega
 have hi1:¬ ((a:Int)+(k:Int)<(a:Int)):=by omega
 have hi2:¬ ((c:Int)<(a:Int)+(k:Int)):=by omega
 have hak:a+k-a=k:=by omega
 go_enter Tryz.func147,Tryz.ntmps147
 go_upto_region 4 with (go_at_call 150;refine (HC.out _ B0.out).mono ?_;rintro e1 w1 ⟨rfl,hb⟩;have r1:=HROW.out _ hb;have c1:w1.cell? ⟨g,1,none⟩=some (.int .i64 (a:Nat)):=(by rw [cell_of_row w1 g 1 _ _ _ r1];rfl);have f1:=frozen_of_row w1 g 1 _ _ r1;have HB1:=Lib.hid hb;clear hb)
 go_upto_region 5 with (fail)
 have r1:=HROW.out _ HB1.out
 have r2:=heap_setCell_same w1 g 1 _ _ (Value.int .i64 ((a:Int)+(k:Int))) r1
 have HB2:=Lib.hid (HBS.out _ HB1.out)
 have HO2:Hid (Only g w (w1.setCell ⟨g,1,none⟩ (.int .i64 ((a:Int)+(k:Int))))):=(only_of_below_any HB1.out).trans (Chg.setCell w1 ⟨g,1,none⟩ _).only
 have d0:(w1.setCell ⟨g,1,none⟩ (.int .i64 ((a:Int)+(k:Int)))).cell? ⟨g,0,none⟩=some (.slice (some ⟨ab,ao,none⟩) m c):=by rw [cell_of_row _ g 0 _ _ _ r2];rfl
 have d1:(w1.setCell ⟨g,1,none⟩ (.int .i64 ((a:Int)+(k:Int)))).cell? ⟨g,1,none⟩=some (.int .i64 ((a:Int)+(k:Int))):=by rw [cell_of_row _ g 1 _ _ _ r2];rfl
 have HR2:Hid (RfRd (w1.setCell ⟨g,1,none⟩ (.int .i64 ((a:Int)+(k:Int)))) g D (L.drop k) false):=by
  refine ⟨⟨some ⟨ab,ao,none⟩,c,a+k,B,?_,HB2.out,by rw [HML.out];exact hma,by rw [HML.out];exact hmb,fun _=>HDR.out,fun h=>(by cases h),fun ad h=>(by cases h;exact HD.out)⟩,HNE.out,fun d hd=>Nat.lt_of_lt_of_le (HLT.out d hd) HO2.out.size⟩
  rw [HML.out,Int.natCast_add]
  exact r2
 have HT2:=Lib.hid (HTK.out _ HB2.out)
 clear r1 r2 HB1 HROW HC HBS HTK HDR HB2
 generalize w1.setCell ⟨g,1,none⟩ (.int .i64 ((a:Int)+(k:Int)))=w2 at *
 go_quiet (fail)
 go_wp2
 rw [hak]
 go_ret2
 exact ⟨ab,ao+a,c-a,rfl,HT2.out.drewN _,HR2.out.drewN _,HO2.out.drewN _,HD.out⟩
end

/-! PaQ:  -/
section
open Go.RowKit
def RfSay (v:Value) (L:List Int) (b:Bool) (g:Nat) (D:Option Nat) (w:World) (e:Ending) (w':World):Prop :=
 e = .returned v∧Hid (RfRd w' g D L b)∧Hid (Only g w w')
theorem RfRd.ok {w:World} {g:Nat} {D:Option Nat} {L:List Int} {b:Bool} (h:RfRd w g D L b) (h0:0<L.length):b=false:=by
 cases b with
 | false=>rfl
 | true =>
  obtain ⟨p,c,a,B,h1,h2,h3,h6,h7,h8,h9⟩:=h.row
  rw [h8 rfl] at h0
  simp at h0
def Pk.up (L:List Int) (k:Nat):Int:=Pk.be (L.take k)
theorem Pk.up_zero (L:List Int):Pk.up L 0=0:=by unfold Pk.up;rw [List.take_zero,Pk.be_nil]
theorem Pk.up_succ (L:List Int) (k:Nat) (hk:k<L.length):Pk.up L k*256+L.getD k 0=Pk.up L (k+1):=by unfold Pk.up;rw [← take_snoc L k hk,Pk.be_snoc]
theorem Pk.up_lt (L:List Int) (hb:Sha.Byt L) (h8:L.length=8):∀ k,k≤7→0≤Pk.up L k∧Pk.up L k<72057594037927936:=fun k hk=>by
 have h:=Pk.be_bound hb k (by omega)
 have h2:(256:Int) ^ k≤256 ^ 7:=by
  have h3:(256:Nat) ^ k≤256 ^ 7:=Nat.pow_le_pow_right (by omega) hk
  have h4:((256 ^ k:Nat):Int)≤((256 ^ 7:Nat):Int):=Int.ofNat_le.2 h3
  rw [Int.natCast_pow,Int.natCast_pow] at h4
  exact h4
 unfold Pk.up
 have e:(256:Int) ^ 7=72057594037927936:=rfl
 omega
theorem Pk.up_all (L:List Int) (h8:L.length=8):wrap64 (Pk.up L 8)=Pk.in8 L:=by
 unfold Pk.up Pk.in8 wrap64
 rw [List.take_of_length_le (by omega)]
attribute [irreducible] Pk.up
set_option maxHeartbeats 1000000 in
set_option maxRecDepth 100000 in
theorem fint_any (L:List Int) (b:Bool) (g:Nat) (D:Option Nat) (n:Nat) (hn:L.length=n) (w:World) (hr:RfRd w g D L b) :
  Calls Tryz.prog 103 #[.pointer (some ⟨g,0,none⟩)] w (RfSay (.int .i64 (Pk.vi L)) (Pk.nx 8 L) (Pk.nb 8 L b) g D w):=by
 have HN:=Lib.hid hn
 by_cases hlt:n<8
 ·have HV:Hid (Value.int .i64 (Pk.vi L) = .int .i64 0):=by show _=_;unfold Pk.vi;rw [HN.out,if_pos hlt]
  have HX:Hid (Pk.nx 8 L = []):=by show _=_;unfold Pk.nx;rw [HN.out,if_pos hlt]
  have HB:Hid (Pk.nb 8 L b=true):=by show _=_;unfold Pk.nb;rw [HN.out,if_pos hlt]
  rw [HV.out,HX.out,HB.out]
  clear HV HX HB
  have HC:=Lib.hid (next_short L b g D n 8 hn hlt w hr)
  clear hr hn HN
  go_enter Tryz.func103,Tryz.ntmps103
  go_wp2_with (go_at_call 147;refine HC.out.mono ?_;rintro e1 w1 ⟨rfl,HR1,HO1⟩)
  go_ret
  exact ⟨rfl,HR1,HO1⟩
 ·have hbf:=hr.ok (by omega)
  subst hbf
  have HX:Hid (Pk.nx 8 L=L.drop 8):=by show _=_;unfold Pk.nx;rw [HN.out,if_neg hlt]
  have HB:Hid (Pk.nb 8 L false=false):=by show _=_;unfold Pk.nb;rw [HN.out,if_neg hlt]
  have HV:Hid (Pk.in8 (L.take 8)=Pk.vi L):=by
   show _=_
   unfold Pk.vi
   rw [HN.out,if_neg hlt]
  rw [HX.out,HB.out]
  clear HX HB
  have HTL:Hid ((L.take 8).length=8):=by show _=_;rw [List.length_take];omega
  have HC:=Lib.hid (next_good L false g D n 8 hn (by omega) (by omega) w hr)
  obtain ⟨X,HXe⟩:∃ X,Hid (L.drop 8=X):=⟨_,rfl⟩
  obtain ⟨Y,HYe⟩:∃ Y,Hid (L.take 8=Y):=⟨_,rfl⟩
  unfold NxGood at HC
  rw [HXe.out,HYe.out] at HC
  rw [HXe.out]
  rw [HYe.out] at HV HTL
  rw [← HV.out]
  clear hr hn HN HXe HYe HV
  go_enter Tryz.func103,Tryz.ntmps103
  go_wp2_with (go_at_call 147;refine HC.out.mono ?_;rintro e1 w1 ⟨ab,o,c,rfl,HT1,HR1,HO1,HD1⟩)
  go_loopw [5,6] (fun u5 u6 wr=>∃ k:Nat,k≤8∧u6 = .int .i64 k∧u5 = .int .u64 (Pk.up Y k)∧wr=w1) (fun _ u6 _=>8-(intOf u6).toNat)
  case atStart=>exact ⟨0,by omega,rfl,by rw [Pk.up_zero],rfl⟩
  case round =>
   obtain ⟨k,hk,rfl,rfl,rfl⟩:=hrel
   by_cases hl8:k<8
   ·obtain ⟨ab',o',hpp,hcs⟩:=HT1.out.bat.2 (by rw [HTL.out];omega)
    cases hpp
    have c0:=hcs k (by rw [HTL.out];exact hl8)
    clear hcs
    have HS:=Lib.hid (Pk.up_succ Y k (by rw [HTL.out];exact hl8))
    have hy:=Pk.up_lt Y HT1.out.bat.1 HTL.out k (by omega)
    have hx:=Sha.byt_getD HT1.out.bat.1 k
    generalize Y.getD k 0=x at *
    obtain ⟨y,hye⟩:∃ y,Pk.up Y k=y:=⟨_,rfl⟩
    rw [hye] at HS hy ⊢
    have hu:∀ z:Int,0≤z∧z<18446744073709551616→IntKind.u64.wrap z=z:=fun z hz=>by unfold IntKind.wrap;simp [IntKind.signed,IntKind.bits];omega
    have hw1:=hu (y*256) ⟨by omega,by omega⟩
    have hw2:=hu x ⟨by omega,by omega⟩
    have hw3:=hu (y*256+x) ⟨by omega,by omega⟩
    clear hu
    have hx7:(k:Int)<8:=by omega
    have hx0:(0:Int)≤(k:Int):=by omega
    go_wp2
    exact ⟨⟨k+1,by omega,by go_num,congrArg (Value.int .u64) HS.out,trivial⟩,by simp [intOf];omega⟩
   ·obtain rfl:k=8:=by omega
    have HE:Hid (wrap64 (Pk.up Y 8)=Pk.in8 Y):=Pk.up_all Y HTL.out
    clear hl8
    go_wp2
    go_ret
    exact ⟨by rw [← HE.out];rfl,HR1,HO1⟩
end

/-! PaE2:  -/
section
open Go.RowKit
theorem all_eqP (a b:List Int) (ha:a.length=32) (hb:b.length=32):((List.range 32).all fun i=>a.getD i 0==b.getD i 0)=decide (a=b):=by
 by_cases h:a=b
 ·subst h;simp
 ·rw [decide_eq_false h,← Bool.not_eq_true,List.all_eq_true]
  intro hall
  apply h
  apply List.ext_getElem (by omega)
  intro i h1 h2
  have:=hall i (List.mem_range.2 (by omega))
  simpa [List.getD_eq_getElem?_getD,h1,h2] using this
theorem sums_at (d:Nat) (a b:List Int) (ha:a.length=32) (hb:b.length=32) (w:World) :
  (Op.equalIn (d+2) 39 (.agg (a.map (Value.int .u8)).toArray) (.agg (b.map (Value.int .u8)).toArray)).run Tryz.prog w = .ok (decide (a=b)) w:=by
 cases hq:Tryz.prog.info? 5 with
 | none=>have:=Tryz.info_u8;rw [hq] at this;cases this
 | some i =>
  rw [run_equalIn_array w _ _ _ Tryz.underlying39 hq,← all_eqP a b ha hb]
  exact items_eq d _ (by kernel_rfl) a b w _ (fun j hj=>by rw [ha];exact List.mem_range.1 hj) (fun j hj=>by rw [hb];exact List.mem_range.1 hj)
theorem a32_eq (a b:List Int) (ha:a.length=32) (hb:b.length=32) (w:World):(Op.equalIn 10000 39 (A32 a) (A32 b)).run Tryz.prog w = .ok (decide (a=b)) w:=sums_at 9998 a b ha hb w
theorem agg_int (w:World):(isAgg 3).run Tryz.prog w = .ok false w:=by
 unfold isAgg
 rw [Sem.run_bind,run_underlying Tryz.underlying3 w]
 rfl
end

/-! PaRo:  -/
section
open Go.ChangeShapes Go.WideShapes Go.RowKit
theorem in64_wf {n:Int} (h:(Lit.int .i64 n).wf=true):Pk.In64 n:=by
 simp [Lit.wf,IntKind.min,IntKind.max,IntKind.signed,IntKind.bits] at h
 unfold Pk.In64
 omega
theorem Tryz.cells_int:Tryz.prog.cellsOf 3=1:=by kernel_rfl
end
end Go.Proofs.YtnnalemboeccbaaGreatDoor

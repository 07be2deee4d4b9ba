/-
  ScP0, ScV, ScW0, ScW1 (merged)
-/
import Derived.Test.YtnnalemboeccbaaGreatDoorSc4
import Derived.Lib.MinMax
import Derived.Test.YtnnalemboeccbaaGreatDoorSe4
import Derived.Test.YtnnalemboeccbaaGreatDoorPa2
namespace Go.Proofs.YtnnalemboeccbaaGreatDoor

/-! ScP0:  -/
section
open Go.RowKit
theorem ger_short {k a:Int} {b:List Int} (h:b.length<17):Sc.ger k a b=2:=by unfold Sc.ger;rw [if_pos h]
theorem ger_long {k a:Int} {b:List Int} (h:1024<b.length):Sc.ger k a b=3:=by unfold Sc.ger;rw [if_neg (by omega),if_pos h]
theorem ger_kind {k a:Int} {b:List Int} (h:¬ b.length<17) (h1:¬ 1024<b.length) (h2:¬ (Sc.isK k=true∧Sc.kd b=k)):Sc.ger k a b=5:=by unfold Sc.ger;rw [if_neg h,if_neg h1,if_neg h2]
theorem ger_range {k a:Int} {b:List Int} (h:¬ b.length<17) (h1:¬ 1024<b.length) (h2:Sc.isK k=true∧Sc.kd b=k) (h3:Sc.inP (Sc.ep (b.take 17)) (Sc.nu (b.take 17)) a=false):Sc.ger k a b=7:=by unfold Sc.ger;rw [if_neg h,if_neg h1,if_pos h2,if_neg (by simp [h3])]
end

/-! ScV:  -/
section
open Go.RowKit
set_option maxRecDepth 100000 in
theorem fkind_any (k:Int) (w:World):Calls Tryz.prog 101 #[.int .i64 k] w fun e w'=>e = .returned (.bool (Sc.isK k))∧w=w':=by
 by_cases h0:k≥1
 ·by_cases h1:k≤5
  ·rw [Sc.isK_iff.2 ⟨h0,h1⟩]
   go_enter Tryz.func101,Tryz.ntmps101
   go_wp2
   go_ret
   exact ⟨rfl,rfl⟩
  ·rw [show Sc.isK k=false by rw [← Bool.not_eq_true,Sc.isK_iff];omega]
   go_enter Tryz.func101,Tryz.ntmps101
   go_wp2
   go_ret
   exact ⟨rfl,rfl⟩
 ·rw [show Sc.isK k=false by rw [← Bool.not_eq_true,Sc.isK_iff];omega]
  go_enter Tryz.func101,Tryz.ntmps101
  go_wp2
  go_ret
  exact ⟨rfl,rfl⟩
set_option maxRecDepth 100000 in
theorem fnumber_any (n:Int) (w:World):Calls Tryz.prog 104 #[.int .i64 n] w fun e w'=>e = .returned (.bool (inR n))∧w=w':=by
 by_cases h0:n≥0
 ·by_cases h1:n≤1099511627776
  ·rw [show inR n=true by unfold inR;simp [h1];omega]
   go_enter Tryz.func104,Tryz.ntmps104
   go_wp2
   go_ret
   exact ⟨rfl,rfl⟩
  ·rw [show inR n=false by unfold inR;simp [h1]]
   go_enter Tryz.func104,Tryz.ntmps104
   go_wp2
   go_ret
   exact ⟨rfl,rfl⟩
 ·rw [show inR n=false by unfold inR;simp;omega]
  go_enter Tryz.func104,Tryz.ntmps104
  go_wp2
  go_ret
  exact ⟨rfl,rfl⟩
set_option maxRecDepth 100000 in
theorem fplace_any (n:Int) (w:World):Calls Tryz.prog 105 #[.int .i64 n] w fun e w'=>e = .returned (.bool (Sc.inA n))∧w=w':=by
 by_cases h0:n≥0
 ·by_cases h1:n<4096
  ·rw [Sc.inA_iff.2 ⟨h0,h1⟩]
   go_enter Tryz.func105,Tryz.ntmps105
   go_wp2
   go_ret
   exact ⟨rfl,rfl⟩
  ·rw [show Sc.inA n=false by rw [← Bool.not_eq_true,Sc.inA_iff];omega]
   have h2:decide (n<4096)=false:=decide_eq_false h1
   go_enter Tryz.func105,Tryz.ntmps105
   go_wp2
   go_ret
   refine ⟨?_,rfl⟩
   first | rfl | (show Ending.returned (Value.bool (decide (n<4096)))=_;rw [decide_eq_false (by omega)])
 ·rw [show Sc.inA n=false by rw [← Bool.not_eq_true,Sc.inA_iff];omega]
  go_enter Tryz.func105,Tryz.ntmps105
  go_wp2
  go_ret
  exact ⟨rfl,rfl⟩
set_option maxRecDepth 100000 in
theorem fhead_any (k n:Int) (hk:0≤k∧k≤255) (w:World):Calls Tryz.prog 107 #[.int .i64 k,.int .i64 n] w (RowOf (Sc.mk k n) 9 w):=by
 have hw:IntKind.u8.wrap k=k:=by simp [IntKind.wrap_u8];omega
 have B0:Hid (Below w.heap.size w (w.alloc (.cells #[.int .u8 k] 5))):=(Below.refl _ w).alloc (Nat.le_refl _) _
 have H0:Hid (Bs (w.alloc (.cells #[.int .u8 k] 5)) (some ⟨w.heap.size,0,none⟩) 1 [k]):=lit_one w [k] 1 (0,0) rfl (by omega) (fun x hx=>by simp at hx;omega)
 have HC:Hid (Calls Tryz.prog 112 #[.slice (some ⟨w.heap.size,0,none⟩) 1 1,.int .i64 n] (w.alloc (.cells #[.int .u8 k] 5)) (RowOf (Sc.mk k n) 9 (w.alloc (.cells #[.int .u8 k] 5)))):=by
  have h:=refint_any [k] n (some ⟨w.heap.size,0,none⟩) 1 1 9 rfl rfl (by omega) _ H0.out
  unfold Sc.mk
  exact h
 go_enter Tryz.func107,Tryz.ntmps107
 go_wp2_with (go_at_call 112;refine HC.out.mono ?_;rintro e1 w1 ⟨p1,c1,rfl,HO,HB,HL⟩)
 go_ret
 exact ⟨p1,c1,rfl,own_baseS HO.out (by simp),HB,B0.out.trans (HL.out.mono (by simp))⟩
def CrAt (B:Nat) (w:World) (g:Nat) (K:List Int):Prop:=∃ gb,B≤g∧w.heap[g]?=some (.cells #[.pointer (some ⟨gb,0,none⟩),.pointer none] 102 (0,0))∧RBox B w gb K
theorem CrAt.old {B:Nat} {w x:World} {g:Nat} {K:List Int} (h:CrAt B w g K) (hb:Below w.heap.size w x):CrAt B x g K:=by
 obtain ⟨gb,h0,h1,h2⟩:=h
 exact ⟨gb,h0,(hb.block _ (lt_of_block h1)).trans h1,h2.keep hb⟩
def NewCr (K:List Int) (w:World) (e:Ending) (w':World):Prop:=∃ g,e = .returned (.pointer (some ⟨g,0,none⟩))∧Hid (CrAt w.heap.size w' g K)∧Below w.heap.size w w'
set_option maxRecDepth 100000 in
theorem boxed_any (K:List Int) (p:Option Addr) (n c:Nat) (hn:K.length=n) (hnl:n≤100000) (w:World) (hp:Bs w p c K) (ht:Tab w 0) :
  Calls Tryz.prog 11 #[.slice p n c] w (NewCr K w):=by
 have HR:Hid (Calls Tryz.prog 46 #[.slice p n c] w (RNewBox K w)):=refbox_any K p n c hn hnl w hp ht
 go_enter Tryz.func11,Tryz.ntmps11
 go_wp2_with (go_at_call 46;refine HR.out.mono ?_;rintro e1 w1 ⟨gb,rfl,G1,b1⟩)
 go_ret
 have B2:Below w1.heap.size w1 (w1.alloc (.cells #[.pointer (some ⟨gb,0,none⟩),.pointer none] 102)):=(Below.refl _ w1).alloc (Nat.le_refl _) _
 exact ⟨w1.heap.size,rfl,⟨gb,b1.size,heap_alloc_new w1 _,G1.out.keep B2⟩,b1.trans (B2.mono b1.size)⟩
set_option maxRecDepth 100000 in
theorem crseal_any (K h L:List Int) (B g:Nat) (e n:Int) (ph pl:Option Addr) (nh nl ch cl:Nat) (hnh:h.length=nh) (hnl:L.length=nl)
  (w:World) (hg:CrAt B w g K) (hh:Bs w ph ch h) (hl:Bs w pl cl L) (hs:nh≤4096∧nl≤4096) (ht:Tab w 0) :
  Calls Tryz.prog 129 #[.pointer (some ⟨g,0,none⟩),.int .i64 e,.int .i64 n,.slice ph nh ch,.slice pl nl cl] w (OwnSay (Seal.sl K e n h L) w):=by
 obtain ⟨gb,h0,h1,h2⟩:=hg
 have c0:w.cell? ⟨g,0,none⟩=some (.pointer (some ⟨gb,0,none⟩)):=by rw [cell_of_row w g 0 _ _ _ h1];rfl
 have HR:Hid (Calls Tryz.prog 166 #[.pointer (some ⟨gb,0,none⟩),.int .i64 e,.int .i64 n,.slice ph nh ch,.slice pl nl cl] w (OwnSay (Seal.sl K e n h L) w)):=refseal_any K h L B gb e n ph pl nh nl ch cl hnh hnl w h2 hh hl hs ht
 clear h1 h2 hh hl
 go_enter Tryz.func129,Tryz.ntmps129
 go_wp2_with (go_at_call 166;refine HR.out.mono ?_;rintro e1 w1 ⟨p1,c1,m1,rfl,l1,o1,b1,bb1⟩)
 go_ret
 exact ⟨p1,c1,m1,rfl,l1,o1,b1,bb1⟩
set_option maxRecDepth 100000 in
theorem cropen_any (K h L:List Int) (B g:Nat) (e n:Int) (ph pl:Option Addr) (nh nl ch cl:Nat) (hnh:h.length=nh) (hnl:L.length=nl)
  (w:World) (hg:CrAt B w g K) (hh:Bs w ph ch h) (hl:Bs w pl cl L) (hs:nh≤4096∧nl≤4096) (ht:Tab w 0) :
  Calls Tryz.prog 106 #[.pointer (some ⟨g,0,none⟩),.int .i64 e,.int .i64 n,.slice ph nh ch,.slice pl nl cl] w (OpenSay (Seal.op K e n h L) w):=by
 obtain ⟨gb,h0,h1,h2⟩:=hg
 have c0:w.cell? ⟨g,0,none⟩=some (.pointer (some ⟨gb,0,none⟩)):=by rw [cell_of_row w g 0 _ _ _ h1];rfl
 have HR:Hid (Calls Tryz.prog 148 #[.pointer (some ⟨gb,0,none⟩),.int .i64 e,.int .i64 n,.slice ph nh ch,.slice pl nl cl] w (OpenSay (Seal.op K e n h L) w)):=refopen_any K h L B gb e n ph pl nh nl ch cl hnh hnl w h2 hh hl hs ht
 clear h1 h2 hh hl
 go_enter Tryz.func106,Tryz.ntmps106
 go_wp2_with (go_at_call 148;refine HR.out.mono ?_;rintro e1 w1 ⟨p1,c1,m1,rfl,l1,o1,b1,bb1⟩)
 go_ret2
 exact ⟨p1,c1,m1,rfl,l1,o1,b1,bb1⟩
end

/-! ScW0:  -/
section
open Go.RowKit
theorem inP_bad {e n a:Int} (h:inR e=false∨inR n=false∨Sc.inA a=false):Sc.inP e n a=false:=by
 unfold Sc.inP
 rcases h with h | h | h<;>simp [h]
theorem inP_good {e n a:Int} (h1:inR e=true) (h2:inR n=true) (h3:Sc.inA a=true):Sc.inP e n a=true:=by unfold Sc.inP;simp [h1,h2,h3]
theorem er_kind {k e n a:Int} {m:Nat} (h:Sc.isK k=false):Sc.er k e n a m=5:=by unfold Sc.er;rw [if_neg (by simp [h])]
theorem er_range {k e n a:Int} {m:Nat} (h:Sc.isK k=true) (h2:Sc.inP e n a=false):Sc.er k e n a m=7:=by unfold Sc.er;rw [if_pos h,if_neg (by simp [h2])]
theorem er_long {k e n a:Int} {m:Nat} (h:Sc.isK k=true) (h2:Sc.inP e n a=true) (h3:975<m):Sc.er k e n a m=3:=by unfold Sc.er;rw [if_pos h,if_pos h2,if_pos h3]
set_option maxHeartbeats 4000000 in
set_option maxRecDepth 100000 in
theorem rput_no (vg:Value) (k e n a:Int) (p:Option Addr) (m c:Nat) (h:Sc.er k e n a m ≠ 0) (w:World) :
  Calls Tryz.prog 79 #[vg,SV k e n a p m c] w (NoSay (Sc.er k e n a m) w):=by
 have B0:Hid (Below w.heap.size w (w.alloc (SO k e n a p m c))):=(Below.refl _ w).alloc (Nat.le_refl _) _
 have HS:Hid (∀ y,Below (w.alloc (SO k e n a p m c)).heap.size (w.alloc (SO k e n a p m c)) y→SAt y w.heap.size k e n a p m c):=fun y hy=>(SAt.new w k e n a p m c).old hy
 have HI:Hid (∀ x,Calls Tryz.prog 101 #[.int .i64 k] x fun r x'=>r = .returned (.bool (Sc.isK k))∧x=x'):=fun x=>fkind_any k x
 have HN:Hid (∀ y x,Calls Tryz.prog 104 #[.int .i64 y] x fun r x'=>r = .returned (.bool (inR y))∧x=x'):=fun y x=>fnumber_any y x
 have HA:Hid (∀ x,Calls Tryz.prog 105 #[.int .i64 a] x fun r x'=>r = .returned (.bool (Sc.inA a))∧x=x'):=fun x=>fplace_any a x
 cases hk:Sc.isK k with
 | false =>
  rw [er_kind hk]
  rw [hk] at HI
  have hie:inR e=inR e:=rfl
  have hin:inR n=inR n:=rfl
  go_enter Tryz.func79,Tryz.ntmps79
  go_upto_region 1 with (fail)
  change Code.wp _ _ _ _ (w.alloc (SO k e n a p m c))
  obtain ⟨w0,hw0⟩:∃ x,x=w.alloc (SO k e n a p m c):=⟨_,rfl⟩
  rw [← hw0] at B0 HS ⊢
  clear hw0
  obtain ⟨d0,d1,d2,d3,d4⟩:=(HS.out _ (Below.refl _ _)).all
  go_wp2_with (first
   | (go_at_call 101;refine (HI.out _).mono ?_;rintro e1 w1 ⟨rfl,rfl⟩)
   | (go_at_call 105;refine (HA.out _).mono ?_;rintro e2 w2 ⟨rfl,rfl⟩)
   | (go_at_call 104;refine (HN.out _ _).mono ?_;rintro e3 w3 ⟨rfl,rfl⟩;first | rw [hie] | rw [hin]))
  go_ret2
  exact ⟨rfl,B0.out⟩
 | true =>
  rw [hk] at HI
  cases hie:inR e with
  | false =>
   rw [er_range hk (inP_bad (Or.inl hie))]
   have hin:inR e=false:=hie
   go_enter Tryz.func79,Tryz.ntmps79
   go_upto_region 1 with (fail)
   change Code.wp _ _ _ _ (w.alloc (SO k e n a p m c))
   obtain ⟨w0,hw0⟩:∃ x,x=w.alloc (SO k e n a p m c):=⟨_,rfl⟩
   rw [← hw0] at B0 HS ⊢
   clear hw0
   obtain ⟨d0,d1,d2,d3,d4⟩:=(HS.out _ (Below.refl _ _)).all
   go_wp2_with (first
    | (go_at_call 101;refine (HI.out _).mono ?_;rintro e1 w1 ⟨rfl,rfl⟩)
    | (go_at_call 105;refine (HA.out _).mono ?_;rintro e2 w2 ⟨rfl,rfl⟩)
    | (go_at_call 104;refine (HN.out _ _).mono ?_;rintro e3 w3 ⟨rfl,rfl⟩;first | rw [hie] | rw [hin]))
   go_ret2
   exact ⟨rfl,B0.out⟩
  | true =>
   cases hin:inR n with
   | false =>
    rw [er_range hk (inP_bad (Or.inr (Or.inl hin)))]
    go_enter Tryz.func79,Tryz.ntmps79
    go_upto_region 1 with (fail)
    change Code.wp _ _ _ _ (w.alloc (SO k e n a p m c))
    obtain ⟨w0,hw0⟩:∃ x,x=w.alloc (SO k e n a p m c):=⟨_,rfl⟩
    rw [← hw0] at B0 HS ⊢
    clear hw0
    obtain ⟨d0,d1,d2,d3,d4⟩:=(HS.out _ (Below.refl _ _)).all
    go_wp2_with (first
     | (go_at_call 101;refine (HI.out _).mono ?_;rintro e1 w1 ⟨rfl,rfl⟩)
     | (go_at_call 105;refine (HA.out _).mono ?_;rintro e2 w2 ⟨rfl,rfl⟩)
     | (go_at_call 104;refine (HN.out _ _).mono ?_;rintro e3 w3 ⟨rfl,rfl⟩;first | rw [hie] | rw [hin]))
    go_ret2
    exact ⟨rfl,B0.out⟩
   | true =>
    cases hia:Sc.inA a with
    | false =>
     rw [er_range hk (inP_bad (Or.inr (Or.inr hia)))]
     rw [hia] at HA
     go_enter Tryz.func79,Tryz.ntmps79
     go_upto_region 1 with (fail)
     change Code.wp _ _ _ _ (w.alloc (SO k e n a p m c))
     obtain ⟨w0,hw0⟩:∃ x,x=w.alloc (SO k e n a p m c):=⟨_,rfl⟩
     rw [← hw0] at B0 HS ⊢
     clear hw0
     obtain ⟨d0,d1,d2,d3,d4⟩:=(HS.out _ (Below.refl _ _)).all
     go_wp2_with (first
      | (go_at_call 101;refine (HI.out _).mono ?_;rintro e1 w1 ⟨rfl,rfl⟩)
      | (go_at_call 105;refine (HA.out _).mono ?_;rintro e2 w2 ⟨rfl,rfl⟩)
      | (go_at_call 104;refine (HN.out _ _).mono ?_;rintro e3 w3 ⟨rfl,rfl⟩;first | rw [hie] | rw [hin]))
     go_ret2
     exact ⟨rfl,B0.out⟩
    | true =>
     have hm:975<m:=by
      by_cases q:975<m
      ·exact q
      ·exact absurd (Sc.er_zero.2 ⟨hk,inP_good hie hin hia,by omega⟩) h
     rw [er_long hk (inP_good hie hin hia) hm]
     rw [hia] at HA
     have hm2:(m:Int)>975:=by omega
     go_enter Tryz.func79,Tryz.ntmps79
     go_upto_region 1 with (fail)
     change Code.wp _ _ _ _ (w.alloc (SO k e n a p m c))
     obtain ⟨w0,hw0⟩:∃ x,x=w.alloc (SO k e n a p m c):=⟨_,rfl⟩
     rw [← hw0] at B0 HS ⊢
     clear hw0
     obtain ⟨d0,d1,d2,d3,d4⟩:=(HS.out _ (Below.refl _ _)).all
     go_wp2_with (first
      | (go_at_call 101;refine (HI.out _).mono ?_;rintro e1 w1 ⟨rfl,rfl⟩)
      | (go_at_call 105;refine (HA.out _).mono ?_;rintro e2 w2 ⟨rfl,rfl⟩)
      | (go_at_call 104;refine (HN.out _ _).mono ?_;rintro e3 w3 ⟨rfl,rfl⟩;first | rw [hie] | rw [hin]))
     go_ret2
     exact ⟨rfl,B0.out⟩
def rowB (k:Int):Obj:=.cells #[.int .u8 k] 5
set_option maxHeartbeats 4000000 in
set_option maxRecDepth 100000 in
theorem rput_good (K L:List Int) (B g:Nat) (k e n a:Int) (p:Option Addr) (m c:Nat) (hm:L.length=m) (h:Sc.er k e n a m=0) (w:World) (hg:CrAt B w g K) (hL:Bs w p c L) (ht:Tab w 0) :
  Calls Tryz.prog 79 #[.pointer (some ⟨g,0,none⟩),SV k e n a p m c] w (LPut (0,Sc.fr k e n++Seal.sl K e n (Sc.mk k a) L) w (Below w.heap.size w)):=by
 obtain ⟨hk,hp,hml⟩:=Sc.er_zero.1 h
 have h4:=Sc.inP_iff.1 hp
 have hk2:=Sc.isK_iff.1 hk
 have hie:=inR_of _ h4.1
 have hin:=inR_of _ h4.2.1
 have hia:=Sc.inA_iff.2 h4.2.2
 have B0:Hid (Below w.heap.size w (w.alloc (SO k e n a p m c))):=(Below.refl _ w).alloc (Nat.le_refl _) _
 have HS:Hid (∀ y,Below (w.alloc (SO k e n a p m c)).heap.size (w.alloc (SO k e n a p m c)) y→SAt y w.heap.size k e n a p m c):=fun y hy=>(SAt.new w k e n a p m c).old hy
 have HI:Hid (∀ x,Calls Tryz.prog 101 #[.int .i64 k] x fun r x'=>r = .returned (.bool true)∧x=x'):=fun x=>by have h:=fkind_any k x;rw [hk] at h;exact h
 have HN:Hid (∀ y x,Calls Tryz.prog 104 #[.int .i64 y] x fun r x'=>r = .returned (.bool (inR y))∧x=x'):=fun y x=>fnumber_any y x
 have HA:Hid (∀ x,Calls Tryz.prog 105 #[.int .i64 a] x fun r x'=>r = .returned (.bool true)∧x=x'):=fun x=>by have h:=fplace_any a x;rw [hia] at h;exact h
 have HI1:Hid (∀ x:World,Calls Tryz.prog 112 #[.slice (some ⟨x.heap.size,0,none⟩) 1 1,.int .i64 e] (x.alloc (rowB k)) (RowOf (Sc.mk k e) 9 (x.alloc (rowB k)))):=fun x=>by
  have h:=refint_any [k] e (some ⟨x.heap.size,0,none⟩) 1 1 9 rfl rfl (by omega) _ (lit_one x [k] 1 (0,0) rfl (by omega) (fun x hx=>by simp at hx;omega))
  unfold Sc.mk
  exact h
 have HI2:Hid (∀ x q d,Bs x q d (Sc.mk k e)→Calls Tryz.prog 112 #[.slice q 9 d,.int .i64 n] x (RowOf (Sc.fr k e n) 17 x)):=fun x q d h=>by
  have h2:=refint_any (Sc.mk k e) n q 9 d 17 (Sc.mk_len k e) rfl (by omega) x h
  unfold Sc.fr
  exact h2
 have HHD:Hid (∀ x,Calls Tryz.prog 107 #[.int .i64 k,.int .i64 a] x (RowOf (Sc.mk k a) 9 x)):=fun x=>fhead_any k a (by omega) x
 have HSL:Hid (∀ y q d,Below w.heap.size w y→Bs y q d (Sc.mk k a)→Calls Tryz.prog 129 #[.pointer (some ⟨g,0,none⟩),.int .i64 e,.int .i64 n,.slice q 9 d,.slice p m c] y (OwnSay (Seal.sl K e n (Sc.mk k a) L) y)):=fun y q d hy hq =>
  crseal_any K (Sc.mk k a) L B g e n q p 9 m d c (Sc.mk_len _ _) hm y (hg.old hy) hq (hL.old hy) (by omega) (ht.below hy ht.lt)
 have HLF:Hid ((Sc.fr k e n).length=17):=Sc.fr_len k e n
 have HFB:Hid (Sha.Byt (Sc.fr k e n)):=Sc.fr_byt (by omega) e n
 have HLS:Hid ((Seal.sl K e n (Sc.mk k a) L).length=m+32):=by show _=_;rw [Seal.sl_len hie hin,hm]
 have HSB:Hid (Sha.Byt (Seal.sl K e n (Sc.mk k a) L)):=Seal.sl_byt _ _ _ _ _
 have hm2:¬ ((m:Int)>975):=by omega
 have hwk:IntKind.u8.wrap k=k:=by simp [IntKind.wrap_u8];omega
 have HML:Hid (m≤975):=hml
 clear hk hp h4 hk2 hia hg hL ht h hm hml
 generalize Sc.fr k e n=FR at *
 generalize Sc.mk k e=M1 at *
 generalize Sc.mk k a=M2 at *
 generalize Seal.sl K e n M2 L=SL at *
 go_enter Tryz.func79,Tryz.ntmps79
 go_upto_region 1 with (fail)
 change Code.wp _ _ _ _ (w.alloc (SO k e n a p m c))
 obtain ⟨w0,hw0⟩:∃ x,x=w.alloc (SO k e n a p m c):=⟨_,rfl⟩
 rw [← hw0] at B0 HS ⊢
 clear hw0
 obtain ⟨d0,d1,d2,d3,d4⟩:=(HS.out _ (Below.refl _ _)).all
 go_upto_region 7 with (first
  | (go_at_call 101;refine (HI.out _).mono ?_;rintro e1 w1 ⟨rfl,rfl⟩)
  | (go_at_call 105;refine (HA.out _).mono ?_;rintro e2 w2 ⟨rfl,rfl⟩)
  | (go_at_call 104;refine (HN.out _ _).mono ?_;rintro e3 w3 ⟨rfl,rfl⟩;first | rw [hie] | rw [hin]))
 have HK:Hid (∀ y,Below w0.heap.size w0 y→y.cell? ⟨w.heap.size,0,none⟩=some (.int .i64 k)∧y.cell? ⟨w.heap.size,1,none⟩=some (.int .i64 e)∧y.cell? ⟨w.heap.size,2,none⟩=some (.int .i64 n)∧y.cell? ⟨w.heap.size,3,none⟩=some (.int .i64 a)∧y.cell? ⟨w.heap.size,4,none⟩=some (.slice p m c)):=fun y hy=>(HS.out y hy).all
 have HKA:Hid (∀ y o,Below w0.heap.size w0 y→(y.alloc o).cell? ⟨w.heap.size,0,none⟩=some (.int .i64 k)∧(y.alloc o).cell? ⟨w.heap.size,1,none⟩=some (.int .i64 e)∧(y.alloc o).cell? ⟨w.heap.size,2,none⟩=some (.int .i64 n)∧(y.alloc o).cell? ⟨w.heap.size,3,none⟩=some (.int .i64 a)∧(y.alloc o).cell? ⟨w.heap.size,4,none⟩=some (.slice p m c)):=fun y o hy=>HK.out _ (hy.alloc hy.size o)
 have B0d:Hid (Below w0.heap.size w0 w0.drew):=(Below.refl _ w0).drew
 have B0a:Hid (Below w0.heap.size w0 (w0.alloc (rowB k)).drew):=((Below.refl _ w0).alloc (Nat.le_refl _) _).drew
 have HI1d:Hid (Calls Tryz.prog 112 #[.slice (some ⟨w0.heap.size,0,none⟩) 1 1,.int .i64 e] (w0.alloc (rowB k)).drew (RowOf M1 9 (w0.alloc (rowB k)).drew)):=HI1.out w0.drew
 have TK:Hid (0=0):=rfl
 go_region_held3 (fun y=>y.cell? ⟨w.heap.size,0,none⟩=some (.int .i64 k)∧y.cell? ⟨w.heap.size,1,none⟩=some (.int .i64 e)∧y.cell? ⟨w.heap.size,2,none⟩=some (.int .i64 n)∧y.cell? ⟨w.heap.size,3,none⟩=some (.int .i64 a)∧y.cell? ⟨w.heap.size,4,none⟩=some (.slice p m c))
  (first | exact HK.out _ (Hid.out (by assumption)) | exact HKA.out _ _ (Hid.out (by assumption)))
  ((first
   | (go_at_call 112;have TT:=TK.out;clear TK;refine HI1d.out.mono ?_;rintro e3 w3 ⟨p3,c3,rfl,O3,H3,b3⟩;have B3:Hid (Below w0.heap.size w0 w3):=B0a.out.trans (b3.out.mono B0a.out.size))
   | (go_at_call 112;refine (HI2.out _ _ _ H3.out).mono ?_;rintro e4 w4 ⟨p4,c4,rfl,O4,H4,b4⟩;have B4:Hid (Below w0.heap.size w0 w4):=B3.out.trans (b4.out.mono B3.out.size))))
 all_goals
  go_upto_region 8 with (fail)
  have OF4:Hid (w4.drew.ownsRow w0.heap.size 5 1 (.slice p4 17 c4) 17 (U8s FR)):=own_keepX (own_baseS O4.out B3.out.size) (Below.refl _ w4).drew
  have B4d:Hid (Below w0.heap.size w0 w4.drew):=B4.out.drew
  clear HKA B0a HI1d HI1 HI2 b3 b4 B3 O3 H3 O4 H4 HI HN HA
  refine wp_region_any (by kernel_rfl) ?_
  change wpAny _ _ _ _ _ _ _ (World.drew _)
  generalize w4.drew=z at *
  have TD:=HK.out _ B4d.out
  refine wpAny_of_held (S:=fun y=>y.cell? ⟨w.heap.size,0,none⟩=some (.int .i64 k)∧y.cell? ⟨w.heap.size,1,none⟩=some (.int .i64 e)∧y.cell? ⟨w.heap.size,2,none⟩=some (.int .i64 n)∧y.cell? ⟨w.heap.size,3,none⟩=some (.int .i64 a)∧y.cell? ⟨w.heap.size,4,none⟩=some (.slice p m c)) _ _ _ _ ?_
  refine aH 0 41 (.slice p4 17 c4) TD rfl (by intro x hx;obtain ⟨y0,y1,y2,y3,y4⟩:=hx;go_simp;try (intro h;omega)) ?_
  try simp only [Act.put,zq1,zq2,zq3]
  refine aH 1 42 (.pointer (some ⟨g,0,none⟩)) TD rfl (by intro x hx;obtain ⟨y0,y1,y2,y3,y4⟩:=hx;go_simp;try (intro h;omega)) ?_
  try simp only [Act.put,zq1,zq2,zq3]
  refine aH 2 43 (.pointer (some ⟨w.heap.size,1,none⟩)) TD rfl (by intro x hx;obtain ⟨y0,y1,y2,y3,y4⟩:=hx;go_simp;try (intro h;omega)) ?_
  try simp only [Act.put,zq1,zq2,zq3]
  refine aH 3 44 (.int .i64 e) TD rfl (by intro x hx;obtain ⟨y0,y1,y2,y3,y4⟩:=hx;go_simp;try (intro h;omega)) ?_
  try simp only [Act.put,zq1,zq2,zq3]
  refine aH 4 45 (.pointer (some ⟨w.heap.size,2,none⟩)) TD rfl (by intro x hx;obtain ⟨y0,y1,y2,y3,y4⟩:=hx;go_simp;try (intro h;omega)) ?_
  try simp only [Act.put,zq1,zq2,zq3]
  refine aH 5 46 (.int .i64 n) TD rfl (by intro x hx;obtain ⟨y0,y1,y2,y3,y4⟩:=hx;go_simp;try (intro h;omega)) ?_
  try simp only [Act.put,zq1,zq2,zq3]
  refine aH 6 47 (.pointer (some ⟨w.heap.size,0,none⟩)) TD rfl (by intro x hx;obtain ⟨y0,y1,y2,y3,y4⟩:=hx;go_simp;try (intro h;omega)) ?_
  try simp only [Act.put,zq1,zq2,zq3]
  refine aH 7 48 (.int .i64 k) TD rfl (by intro x hx;obtain ⟨y0,y1,y2,y3,y4⟩:=hx;go_simp;try (intro h;omega)) ?_
  try simp only [Act.put,zq1,zq2,zq3]
  refine aH 8 49 (.pointer (some ⟨w.heap.size,3,none⟩)) TD rfl (by intro x hx;obtain ⟨y0,y1,y2,y3,y4⟩:=hx;go_simp;try (intro h;omega)) ?_
  try simp only [Act.put,zq1,zq2,zq3]
  refine aH 9 50 (.int .i64 a) TD rfl (by intro x hx;obtain ⟨y0,y1,y2,y3,y4⟩:=hx;go_simp;try (intro h;omega)) ?_
  try simp only [Act.put,zq1,zq2,zq3]
  refine aH 11 52 (.pointer (some ⟨w.heap.size,4,none⟩)) TD rfl (by intro x hx;obtain ⟨y0,y1,y2,y3,y4⟩:=hx;go_simp;try (intro h;omega)) ?_
  try simp only [Act.put,zq1,zq2,zq3]
  refine aH 12 53 (.slice p m c) TD rfl (by intro x hx;obtain ⟨y0,y1,y2,y3,y4⟩:=hx;go_simp;try (intro h;omega)) ?_
  try simp only [Act.put,zq1,zq2,zq3]
  refine anyH_one 10 (by kernel_rfl) ?_
  refine wpOp_step rfl (fun Kc hKc=>?_)
  go_simp
  refine (HHD.out _).mono ?_
  rintro e5 w5 ⟨p5,c5,rfl,O5,H5,b5⟩
  have B5:Hid (Below w0.heap.size w0 w5):=B4d.out.trans (b5.out.mono B4d.out.size)
  dsimp only
  refine hKc _ _ ⟨HK.out _ B5.out,?_⟩
  clear hKc Kc TD
  try simp only [Act.put,zq1,zq2,zq3]
  refine anyH_one 13 (by kernel_rfl) ?_
  refine wpOp_step rfl (fun Kc hKc=>?_)
  go_simp
  refine (HSL.out _ _ _ (B0.out.trans (B5.out.mono B0.out.size)) H5.out).mono ?_
  rintro e6 w6 ⟨p6,c6,m6,rfl,l6,o6,H6,b6⟩
  obtain rfl:m6=m+32:=l6.symm.trans HLS.out
  have B6:Hid (Below w0.heap.size w0 w6):=B5.out.trans (b6.mono B5.out.size)
  have OF6:Hid (w6.ownsRow w0.heap.size 5 1 (.slice p4 17 c4) 17 (U8s FR)):=own_keepX (own_keepX OF4.out b5.out) b6
  dsimp only
  refine hKc _ _ ⟨HK.out _ B6.out,?_⟩
  clear hKc Kc
  try simp only [Act.put,zq1,zq2,zq3]
  refine anyH_one 14 (by kernel_rfl) ?_
  refine op_append_bts 14 (.tmp 41) (.tmp 54) SL w0.heap.size (.slice p4 17 c4) 17 FR p6 (m+32) c6 rfl rfl rfl l6 H6.out OF6.out (by have:=HML.out;omega) B6.out.size ?_
  intro v7 w7 ho7 hg7
  have B7:Hid (Below w0.heap.size w0 w7):=B6.out.grown hg7 B6.out.size (fun q hq=>(OF6.out.lt q hq).1)
  refine ⟨HK.out _ B7.out,?_⟩
  have TG:=HK.out _ B7.out
  try simp only [Act.put,zq1,zq2,zq3]
  refine aH 15 4 v7 TG rfl (by intro x hx;obtain ⟨y0,y1,y2,y3,y4⟩:=hx;go_simp;try (intro h;omega)) ?_
  try simp only [Act.put,zq1,zq2,zq3]
  refine aH 16 5 (.int .i64 0) TG rfl (by intro x hx;obtain ⟨y0,y1,y2,y3,y4⟩:=hx;go_simp;try (intro h;omega)) ?_
  try simp only [Act.put,zq1,zq2,zq3]
  refine anyH_done (by kernel_rfl) ?_ _
  clear TG
  go_wp2
  have hby:Sha.Byt (FR++SL):=Sha.byt_append HFB.out HSB.out
  obtain ⟨q7,d7,rfl,hb7,hl7⟩:=own_bs ho7 hby
  have hl8:=hl7
  rw [hl7] at ho7
  go_ret2
  rw [hl7]
  refine ⟨q7,_,d7,rfl,hl8,own_baseS ho7 B0.out.size,hb7,B0.out.trans (B7.out.mono B0.out.size)⟩
theorem rput_any (K:List Int) (B g:Nat) (s:Sc.S) (p:Option Addr) (m c:Nat) (hm:s.L.length=m) (w:World) (hg:CrAt B w g K) (hL:Bs w p c s.L) (ht:Tab w 0) :
  Calls Tryz.prog 79 #[.pointer (some ⟨g,0,none⟩),Sv s p m c] w (LPut (Sc.pt (Seal.sl K) s) w (Below w.heap.size w)):=by
 subst hm
 by_cases h:Sc.ers s=0
 ·rw [Sc.pt_ok h]
  exact rput_good K s.L B g s.k s.e s.n s.a p s.L.length c rfl h w hg hL ht
 ·exact (rput_no _ s.k s.e s.n s.a p s.L.length c h w).mono fun r w' q=>lput_no q (Sc.pt_no h) id
end

/-! ScW1:  -/
section
open Go.RowKit
theorem ep16 {b:List Int} (h:17≤b.length):Sc.ep (b.take 17)=Pk.vi ((b.drop 1).take 16):=by
 unfold Sc.ep
 rw [Sc.nx_drop (by rw [List.length_take];omega),List.drop_take]
theorem nu16 {b:List Int} (h:17≤b.length):Sc.nu (b.take 17)=Pk.vi (Pk.nx 8 ((b.drop 1).take 16)):=by
 unfold Sc.nu
 rw [Sc.nx_drop (k:=1) (by rw [List.length_take];omega),List.drop_take]
theorem kd_iff {b:List Int} {k:Int} (h:17≤b.length) (hk:Sc.isK k=true):Sc.kd b=k↔b.getD 0 0=k:=by
 rw [kd_long (by omega)]
 constructor
 ·intro h2
  by_cases q:Sc.isK (b.getD 0 0)=true
  ·rw [if_pos q] at h2;exact h2
  ·rw [if_neg q] at h2
   have:=Sc.isK_iff.1 hk
   omega
 ·intro h2
  rw [h2,if_pos hk]
set_option maxHeartbeats 4000000 in
set_option maxRecDepth 100000 in
theorem rget_any (K:List Int) (B g:Nat) (k a:Int) (b:List Int) (p:Option Addr) (n c:Nat) (hn:b.length=n) (w:World) (hg:CrAt B w g K) (hp:Bs w p c b) (ht:Tab w 0) :
  Calls Tryz.prog 54 #[.pointer (some ⟨g,0,none⟩),.int .i64 k,.int .i64 a,.slice p n c] w (LGet (Sc.gt (Seal.op K) k a b) w):=by
 have B0:Hid (Below w.heap.size w (w.alloc (SO 0 0 0 0 none 0 0))):=(Below.refl _ w).alloc (Nat.le_refl _) _
 have HS:Hid (∀ y,Below (w.alloc (SO 0 0 0 0 none 0 0)).heap.size (w.alloc (SO 0 0 0 0 none 0 0)) y→SAt y w.heap.size 0 0 0 0 none 0 0):=fun y hy=>(SAt.new w 0 0 0 0 none 0 0).old hy
 have P0:Hid (Bs (w.alloc (SO 0 0 0 0 none 0 0)) p c b):=hp.old B0.out
 have HI:Hid (∀ x,Calls Tryz.prog 101 #[.int .i64 k] x fun r x'=>r = .returned (.bool (Sc.isK k))∧x=x'):=fun x=>fkind_any k x
 have HN:Hid (∀ y x,Calls Tryz.prog 104 #[.int .i64 y] x fun r x'=>r = .returned (.bool (inR y))∧x=x'):=fun y x=>fnumber_any y x
 have HA:Hid (∀ x,Calls Tryz.prog 105 #[.int .i64 a] x fun r x'=>r = .returned (.bool (Sc.inA a))∧x=x'):=fun x=>fplace_any a x
 have HNO:Hid (∀ e v y,Sc.ger k a b=e→e ≠ 0→GNo e w v y→LGet (Sc.gt (Seal.op K) k a b) w v y):=fun e v y h1 h2 h3=>lget_no h3 (by rw [Sc.gt_no (by rw [h1];exact h2),h1])
 by_cases h0:n<17
 ·have HE:Hid (Sc.ger k a b=2):=ger_short (by omega)
  have h0':(n:Int)<17:=by omega
  go_enter Tryz.func54,Tryz.ntmps54
  go_upto_region 1 with (fail)
  change Code.wp _ _ _ _ (w.alloc (SO 0 0 0 0 none 0 0))
  obtain ⟨w0,hw0⟩:∃ x,x=w.alloc (SO 0 0 0 0 none 0 0):=⟨_,rfl⟩
  rw [← hw0] at B0 HS P0 ⊢
  clear hw0
  obtain ⟨d0,d1,d2,d3,d4⟩:=(HS.out _ (Below.refl _ _)).all
  obtain ⟨f0,f1,f2,f3,f4⟩:=(HS.out _ (Below.refl _ _)).fro
  go_wp2
  have q:=gno B0.out (HS.out _ (Below.refl _ _))
  exact bodyPost_ret (results_cell_tmp rfl _ _ w.heap.size 110 _ (0,0) _ rfl q.1.row Tryz.underlying110 rfl (by rw [ssize];rfl)) rfl (HNO.out _ _ _ HE.out (by decide) ⟨rfl,q.2⟩)
 by_cases h1:1024<n
 ·have HE:Hid (Sc.ger k a b=3):=ger_long (by omega)
  have h0':¬ (n:Int)<17:=by omega
  have h1':(n:Int)>1024:=by omega
  go_enter Tryz.func54,Tryz.ntmps54
  go_upto_region 1 with (fail)
  change Code.wp _ _ _ _ (w.alloc (SO 0 0 0 0 none 0 0))
  obtain ⟨w0,hw0⟩:∃ x,x=w.alloc (SO 0 0 0 0 none 0 0):=⟨_,rfl⟩
  rw [← hw0] at B0 HS P0 ⊢
  clear hw0
  obtain ⟨d0,d1,d2,d3,d4⟩:=(HS.out _ (Below.refl _ _)).all
  obtain ⟨f0,f1,f2,f3,f4⟩:=(HS.out _ (Below.refl _ _)).fro
  go_wp2
  have q:=gno B0.out (HS.out _ (Below.refl _ _))
  exact bodyPost_ret (results_cell_tmp rfl _ _ w.heap.size 110 _ (0,0) _ rfl q.1.row Tryz.underlying110 rfl (by rw [ssize];rfl)) rfl (HNO.out _ _ _ HE.out (by decide) ⟨rfl,q.2⟩)
 have h0':¬ (n:Int)<17:=by omega
 have h1':¬ (n:Int)>1024:=by omega
 cases hk:Sc.isK k with
 | false =>
  rw [hk] at HI
  have HE:Hid (Sc.ger k a b=5):=ger_kind (by omega) (by omega) (fun q=>by rw [hk] at q;cases q.1)
  go_enter Tryz.func54,Tryz.ntmps54
  go_upto_region 1 with (fail)
  change Code.wp _ _ _ _ (w.alloc (SO 0 0 0 0 none 0 0))
  obtain ⟨w0,hw0⟩:∃ x,x=w.alloc (SO 0 0 0 0 none 0 0):=⟨_,rfl⟩
  rw [← hw0] at B0 HS P0 ⊢
  clear hw0
  obtain ⟨d0,d1,d2,d3,d4⟩:=(HS.out _ (Below.refl _ _)).all
  obtain ⟨f0,f1,f2,f3,f4⟩:=(HS.out _ (Below.refl _ _)).fro
  go_wp2_with (go_at_call 101;refine (HI.out _).mono ?_;rintro e1 w1 ⟨rfl,rfl⟩)
  have q:=gno B0.out (HS.out _ (Below.refl _ _))
  exact bodyPost_ret (results_cell_tmp rfl _ _ w.heap.size 110 _ (0,0) _ rfl q.1.row Tryz.underlying110 rfl (by rw [ssize];rfl)) rfl (HNO.out _ _ _ HE.out (by decide) ⟨rfl,q.2⟩)
 | true =>
  rw [hk] at HI
  obtain ⟨ab,ao,hpe,hcl⟩:=hp.bat.2 (by omega)
  subst hpe
  have hc0:=(P0.out.bat.2 (by omega))
  obtain ⟨ab',ao',he',hc0⟩:=hc0
  cases he'
  have hc0:=hc0 0 (by omega)
  rw [Nat.add_zero] at hc0
  have HCZ:Hid (∀ y,y=w.alloc (SO 0 0 0 0 none 0 0)→y.cell? ⟨ab,ao,none⟩=some (.int .u8 (b.getD 0 0))):=fun y hy=>by rw [hy];exact hc0
  clear hc0 hcl
  have hb0:=Sha.byt_getD hp.bat.1 0
  have hn1:(0:Int)<(n:Int):=by omega
  have hcap:=hp.cap
  rw [hn] at hcap
  have hkd:=kd_iff (b:=b) (by omega) hk
  by_cases hb:b.getD 0 0=k
  case neg =>
   have HE:Hid (Sc.ger k a b=5):=ger_kind (by omega) (by omega) (fun q=>hb (hkd.1 q.2))
   have hbk:(b.getD 0 0==k)=false:=by simpa using hb
   generalize b.getD 0 0=x0 at *
   have hw:IntKind.i64.wrap x0=x0:=IntWalk.i64_in _ ⟨by omega,by omega⟩
   clear hb hkd hb0
   go_enter Tryz.func54,Tryz.ntmps54
   go_upto_region 1 with (fail)
   change Code.wp _ _ _ _ (w.alloc (SO 0 0 0 0 none 0 0))
   obtain ⟨w0,hw0⟩:∃ x,x=w.alloc (SO 0 0 0 0 none 0 0):=⟨_,rfl⟩
   rw [← hw0] at B0 HS P0 ⊢
   have hw0k:=hw0
   clear hw0
   obtain ⟨d0,d1,d2,d3,d4⟩:=(HS.out _ (Below.refl _ _)).all
   obtain ⟨f0,f1,f2,f3,f4⟩:=(HS.out _ (Below.refl _ _)).fro
   have hc0:w0.cell? ⟨ab,ao,none⟩=some (.int .u8 x0):=HCZ.out _ hw0k
   clear hw0k
   go_wp2_with (go_at_call 101;refine (HI.out _).mono ?_;rintro e1 w1 ⟨rfl,rfl⟩)
   have q:=gno B0.out (HS.out _ (Below.refl _ _))
   exact bodyPost_ret (results_cell_tmp rfl _ _ w.heap.size 110 _ (0,0) _ rfl q.1.row Tryz.underlying110 rfl (by rw [ssize];rfl)) rfl (HNO.out _ _ _ HE.out (by decide) ⟨rfl,q.2⟩)
  case pos =>
   have hk5:=Sc.isK_iff.1 hk
   have hgk:Sc.isK k=true∧Sc.kd b=k:=⟨hk,hkd.2 hb⟩
   have HRD:Hid (∀ x,Below w.heap.size w x→Calls Tryz.prog 102 #[.slice (some ⟨ab,ao+1,none⟩) 16 (c-1)] x (RfNew ((b.drop 1).take 16) x)):=fun x hx =>
    refread_any _ _ 16 (c-1) (by rw [List.length_take,List.length_drop];omega) (by omega) x (((hp.old hx).dropk (k:=1) (by omega)).take 16)
   have HL16:Hid (((b.drop 1).take 16).length=16):=by show _=_;rw [List.length_take,List.length_drop];omega
   have HEE:Hid (Pk.vi ((b.drop 1).take 16)=Sc.ep (b.take 17)):=(ep16 (by omega)).symm
   have HNN:Hid (Pk.vi (Pk.nx 8 ((b.drop 1).take 16))=Sc.nu (b.take 17)):=(nu16 (by omega)).symm
   have HHD:Hid (∀ x,Calls Tryz.prog 107 #[.int .i64 k,.int .i64 a] x (RowOf (Sc.mk k a) 9 x)):=fun x=>fhead_any k a (by omega) x
   have HOP:Hid (∀ y q d,Below w.heap.size w y→Bs y q d (Sc.mk k a)→Calls Tryz.prog 106 #[.pointer (some ⟨g,0,none⟩),.int .i64 (Sc.ep (b.take 17)),.int .i64 (Sc.nu (b.take 17)),.slice q 9 d,.slice (adv ab ao 17 c) (n-17) (c-17)] y (OpenSay (Seal.op K (Sc.ep (b.take 17)) (Sc.nu (b.take 17)) (Sc.mk k a) (b.drop 17)) y)):=fun y q d hy hq =>
    cropen_any K (Sc.mk k a) (b.drop 17) B g _ _ q _ 9 (n-17) d _ (Sc.mk_len _ _) (by rw [List.length_drop,hn]) y (hg.old hy) hq (adv_bs (hp.old hy) (by omega)) (by omega) (ht.below hy ht.lt)
   have HG0:Hid (Sc.inP (Sc.ep (b.take 17)) (Sc.nu (b.take 17)) a=true→Sc.ger k a b=0):=fun h=>Sc.ger_zero.2 ⟨by omega,hgk,h⟩
   have HG7:Hid (Sc.inP (Sc.ep (b.take 17)) (Sc.nu (b.take 17)) a=false→Sc.ger k a b=7):=fun h=>ger_range (by omega) (by omega) hgk h
   have HFI:Hid (∀ o v y,Sc.ger k a b=0→Seal.op K (Sc.ep (b.take 17)) (Sc.nu (b.take 17)) (Sc.mk k a) (b.drop 17)=o→SGet k (Sc.ep (b.take 17)) (Sc.nu (b.take 17)) a o w v y→LGet (Sc.gt (Seal.op K) k a b) w v y):=fun o v y h1 h2 h3=>lget_of h1 h2 h3
   have hbk:(b.getD 0 0==k)=true:=by simpa using hb
   have hw:IntKind.i64.wrap (b.getD 0 0)=b.getD 0 0:=IntWalk.i64_in _ ⟨by omega,by omega⟩
   have hc1:¬ c=1:=by omega
   have hc17:(17:Int)≤(c:Int):=by omega
   have hn17:(17:Int)≤(n:Int):=by omega
   obtain ⟨oo,hoo⟩:∃ o,Seal.op K (Sc.ep (b.take 17)) (Sc.nu (b.take 17)) (Sc.mk k a) (b.drop 17)=o:=⟨_,rfl⟩
   rw [hoo] at HOP
   have HOO:=Lib.hid hoo;clear hoo
   clear hb hkd hgk hk5 hg ht hp
   generalize Sc.ep (b.take 17)=e0 at *
   generalize Sc.nu (b.take 17)=n0 at *
   generalize Sc.mk k a=M2 at *
   generalize (b.drop 1).take 16=L16 at *
   generalize b.getD 0 0=x0 at *
   have HN8:Hid ((Pk.nx 8 L16).length≤16):=by show _≤_;have:=Pk.nx_le 8 L16;have:=HL16.out;omega
   have TK:Hid (0=0):=rfl
   go_enter Tryz.func54,Tryz.ntmps54
   go_upto_region 1 with (fail)
   change Code.wp _ _ _ _ (w.alloc (SO 0 0 0 0 none 0 0))
   obtain ⟨w0,hw0⟩:∃ x,x=w.alloc (SO 0 0 0 0 none 0 0):=⟨_,rfl⟩
   rw [← hw0] at B0 HS P0 ⊢
   have hw0k:=hw0
   clear hw0
   obtain ⟨d0,d1,d2,d3,d4⟩:=(HS.out _ (Below.refl _ _)).all
   obtain ⟨f0,f1,f2,f3,f4⟩:=(HS.out _ (Below.refl _ _)).fro
   have hc0:w0.cell? ⟨ab,ao,none⟩=some (.int .u8 x0):=HCZ.out _ hw0k
   clear hw0k
   go_upto_region 10 with (first
    | (go_at_call 101;refine (HI.out _).mono ?_;rintro e1 w1 ⟨rfl,rfl⟩)
    | (go_at_call 102;refine (HRD.out _ B0.out).mono ?_;rintro e1 w1 ⟨g1,D1,rfl,R1,G1,b1⟩)
    | (go_at_call 103;have TT:=TK.out;clear TK;refine (fint_any L16 false g1 D1 16 HL16.out _ R1.out).mono ?_;rintro e2 w2 ⟨rfl,R2,O2⟩;rw [HEE.out])
    | (go_at_call 103;refine (fint_any (Pk.nx 8 L16) _ g1 D1 _ rfl _ R2.out).mono ?_;rintro e3 w3 ⟨rfl,R3,O3⟩;rw [HNN.out]))
   have B3:Hid (Below w0.heap.size w0 w3):=(O2.out.trans O3.out).below b1.out G1.out.1 b1.out.size
   have W3:Hid (Below w.heap.size w w3):=B0.out.trans (B3.out.mono B0.out.size)
   clear R1 R2 R3 O2 O3 G1 b1 HRD HL16 HEE HNN HN8 d0 d1 d2 d3 d4 f0 f1 f2 f3 f4 hc0
   obtain ⟨d0,d1,d2,d3,d4⟩:=(HS.out _ B3.out).all
   obtain ⟨f0,f1,f2,f3,f4⟩:=(HS.out _ B3.out).fro
   cases hie:inR e0 with
   | false =>
    have hin:inR e0=false:=hie
    have HE:Hid (Sc.ger k a b=7):=HG7.out (inP_bad (Or.inl hie))
    go_wp2_with (first
     | (go_at_call 105;refine (HA.out _).mono ?_;rintro e2 w2 ⟨rfl,rfl⟩)
     | (go_at_call 104;refine (HN.out _ _).mono ?_;rintro e4 w4 ⟨rfl,rfl⟩;first | rw [hie] | rw [hin]))
    have q:=gno W3.out (HS.out _ B3.out)
    exact bodyPost_ret (results_cell_tmp rfl _ _ w.heap.size 110 _ (0,0) _ rfl q.1.row Tryz.underlying110 rfl (by rw [ssize];rfl)) rfl (HNO.out _ _ _ HE.out (by decide) ⟨rfl,q.2⟩)
   | true =>
    cases hin:inR n0 with
    | false =>
     have HE:Hid (Sc.ger k a b=7):=HG7.out (inP_bad (Or.inr (Or.inl hin)))
     go_wp2_with (first
      | (go_at_call 105;refine (HA.out _).mono ?_;rintro e2 w2 ⟨rfl,rfl⟩)
      | (go_at_call 104;refine (HN.out _ _).mono ?_;rintro e4 w4 ⟨rfl,rfl⟩;first | rw [hie] | rw [hin]))
     have q:=gno W3.out (HS.out _ B3.out)
     exact bodyPost_ret (results_cell_tmp rfl _ _ w.heap.size 110 _ (0,0) _ rfl q.1.row Tryz.underlying110 rfl (by rw [ssize];rfl)) rfl (HNO.out _ _ _ HE.out (by decide) ⟨rfl,q.2⟩)
    | true =>
     cases hia:Sc.inA a with
     | false =>
      rw [hia] at HA
      have HE:Hid (Sc.ger k a b=7):=HG7.out (inP_bad (Or.inr (Or.inr hia)))
      go_wp2_with (first
       | (go_at_call 105;refine (HA.out _).mono ?_;rintro e2 w2 ⟨rfl,rfl⟩)
       | (go_at_call 104;refine (HN.out _ _).mono ?_;rintro e4 w4 ⟨rfl,rfl⟩;first | rw [hie] | rw [hin]))
      have q:=gno W3.out (HS.out _ B3.out)
      exact bodyPost_ret (results_cell_tmp rfl _ _ w.heap.size 110 _ (0,0) _ rfl q.1.row Tryz.underlying110 rfl (by rw [ssize];rfl)) rfl (HNO.out _ _ _ HE.out (by decide) ⟨rfl,q.2⟩)
     | true =>
      rw [hia] at HA
      have HZ:Hid (Sc.ger k a b=0):=HG0.out (inP_good hie hin hia)
      go_upto_region 12 with (first
       | (go_at_call 105;refine (HA.out _).mono ?_;rintro e2 w2 ⟨rfl,rfl⟩)
       | (go_at_call 104;refine (HN.out _ _).mono ?_;rintro e4 w4 ⟨rfl,rfl⟩;first | rw [hie] | rw [hin]))
      clear HG0 HG7 HNO HCZ hcap hn1 hc1 h0 h1 h0' h1' hbk hw hb0 hie hin hia hk hn
      have hcc0:¬ ((c:Int)<17):=by omega
      by_cases hcc:c=17
      ·subst hcc
       have HOQ:Hid (∀ y q d,Below w.heap.size w y→Bs y q d M2→Calls Tryz.prog 106 #[.pointer (some ⟨g,0,none⟩),.int .i64 e0,.int .i64 n0,.slice q 9 d,.slice (some ⟨ab,ao,none⟩) (n-17) 0] y (OpenSay oo y)):=by have h:=HOP.out;unfold adv at h;rw [if_pos rfl] at h;exact h
       clear HOP
       have HK:Hid (∀ y,Below w3.heap.size w3 y→y.cell? ⟨w.heap.size,0,none⟩=some (.int .i64 0)):=fun y hy=>(HS.out y (B3.out.trans (hy.mono B3.out.size))).c0
       have B3d:Hid (Below w3.heap.size w3 w3.drew):=(Below.refl _ w3).drew
       go_region_held3 (fun y=>y.cell? ⟨w.heap.size,0,none⟩=some (.int .i64 0))
        (exact HK.out _ (Hid.out (by assumption)))
        ((first
         | (go_at_call 107;refine (HHD.out _).mono ?_;rintro e6 w6 ⟨p6,c6,rfl,O6,H6,b6⟩;have B6:Hid (Below w3.heap.size w3 w6):=(Below.refl _ w3).drew.trans b6.out)
         | (go_at_call 106;refine (HOQ.out _ _ _ (W3.out.trans (B6.out.mono W3.out.size)) H6.out).mono ?_;rintro e7 w7 ⟨u7,d7,m7,rfl,L7,O7,H7,b7⟩;have B7:Hid (Below w3.heap.size w3 w7):=B6.out.trans (b7.mono B6.out.size))))
       all_goals
        have W7:Hid (Below w.heap.size w w7):=W3.out.trans (B7.out.mono W3.out.size)
        have B07:Hid (Below w0.heap.size w0 w7):=B3.out.trans (B7.out.mono B3.out.size)
        have R7:=Lib.hid (HS.out _ B07.out)
        have LZ:Hid (w.heap.size<w6.heap.size):=by show _<_;have h1:=(HS.out _ B3.out).lt;have:=B6.out.size;omega
        clear HHD HOQ H6 O6 b6 B6 HI HN HA HS P0 d0 d1 d2 d3 d4 f0 f1 f2 f3 f4
        obtain ⟨d0,d1,d2,d3,d4⟩:=R7.out.all
        obtain ⟨f0,f1,f2,f3,f4⟩:=R7.out.fro
        cases oo with
        | none =>
         simp only [Option.isSome_none]
         go_wp2
         have q:=gno W7.out R7.out
         exact bodyPost_ret (results_cell_tmp rfl _ _ w.heap.size 110 _ (0,0) _ rfl q.1.row Tryz.underlying110 rfl (by rw [ssize];rfl)) rfl (HFI.out _ _ _ HZ.out HOO.out (Or.inl ⟨rfl,rfl,q.2⟩))
        | some R =>
         simp only [Option.isSome_some]
         rw [Option.getD_some] at L7 O7 H7
         go_wp2
         have hS9:=sset (k':=k) (e':=e0) (n':=n0) (a':=a) (p':=u7) (m':=m7) (c':=d7) R7.out.row
         have C9:=sset_chg w7 w.heap.size (.int .i64 k) (.int .i64 e0) (.int .i64 n0) (.int .i64 a) (.slice u7 m7 d7)
         have O9:=own_chg O7.out C9 LZ.out
         have hbs:=own_bs O9 H7.out.bat.1
         refine bodyPost_ret (results_cell_tmp rfl _ _ w.heap.size 110 _ (0,0) _ rfl hS9 Tryz.underlying110 rfl (by rw [ssize];rfl)) rfl (HFI.out _ _ _ HZ.out HOO.out (Or.inr ⟨R,u7,m7,d7,rfl,L7,rfl,own_baseS O9 (Nat.le_of_lt LZ.out),?_,C9.below W7.out (Nat.le_refl _)⟩))
         obtain ⟨p',c',he,hb,_⟩:=hbs
         cases he
         exact hb
      ·have HOQ:Hid (∀ y q d,Below w.heap.size w y→Bs y q d M2→Calls Tryz.prog 106 #[.pointer (some ⟨g,0,none⟩),.int .i64 e0,.int .i64 n0,.slice q 9 d,.slice (some ⟨ab,ao+17,none⟩) (n-17) (c-17)] y (OpenSay oo y)):=by have h:=HOP.out;unfold adv at h;rw [if_neg hcc] at h;exact h
       clear HOP
       have HK:Hid (∀ y,Below w3.heap.size w3 y→y.cell? ⟨w.heap.size,0,none⟩=some (.int .i64 0)):=fun y hy=>(HS.out y (B3.out.trans (hy.mono B3.out.size))).c0
       have B3d:Hid (Below w3.heap.size w3 w3.drew):=(Below.refl _ w3).drew
       go_region_held3 (fun y=>y.cell? ⟨w.heap.size,0,none⟩=some (.int .i64 0))
        (exact HK.out _ (Hid.out (by assumption)))
        ((first
         | (go_at_call 107;refine (HHD.out _).mono ?_;rintro e6 w6 ⟨p6,c6,rfl,O6,H6,b6⟩;have B6:Hid (Below w3.heap.size w3 w6):=(Below.refl _ w3).drew.trans b6.out)
         | (go_at_call 106;refine (HOQ.out _ _ _ (W3.out.trans (B6.out.mono W3.out.size)) H6.out).mono ?_;rintro e7 w7 ⟨u7,d7,m7,rfl,L7,O7,H7,b7⟩;have B7:Hid (Below w3.heap.size w3 w7):=B6.out.trans (b7.mono B6.out.size))))
       all_goals
        have W7:Hid (Below w.heap.size w w7):=W3.out.trans (B7.out.mono W3.out.size)
        have B07:Hid (Below w0.heap.size w0 w7):=B3.out.trans (B7.out.mono B3.out.size)
        have R7:=Lib.hid (HS.out _ B07.out)
        have LZ:Hid (w.heap.size<w6.heap.size):=by show _<_;have h1:=(HS.out _ B3.out).lt;have:=B6.out.size;omega
        clear HHD HOQ H6 O6 b6 B6 HI HN HA HS P0 d0 d1 d2 d3 d4 f0 f1 f2 f3 f4
        obtain ⟨d0,d1,d2,d3,d4⟩:=R7.out.all
        obtain ⟨f0,f1,f2,f3,f4⟩:=R7.out.fro
        cases oo with
        | none =>
         simp only [Option.isSome_none]
         go_wp2
         have q:=gno W7.out R7.out
         exact bodyPost_ret (results_cell_tmp rfl _ _ w.heap.size 110 _ (0,0) _ rfl q.1.row Tryz.underlying110 rfl (by rw [ssize];rfl)) rfl (HFI.out _ _ _ HZ.out HOO.out (Or.inl ⟨rfl,rfl,q.2⟩))
        | some R =>
         simp only [Option.isSome_some]
         rw [Option.getD_some] at L7 O7 H7
         go_wp2
         have hS9:=sset (k':=k) (e':=e0) (n':=n0) (a':=a) (p':=u7) (m':=m7) (c':=d7) R7.out.row
         have C9:=sset_chg w7 w.heap.size (.int .i64 k) (.int .i64 e0) (.int .i64 n0) (.int .i64 a) (.slice u7 m7 d7)
         have O9:=own_chg O7.out C9 LZ.out
         have hbs:=own_bs O9 H7.out.bat.1
         refine bodyPost_ret (results_cell_tmp rfl _ _ w.heap.size 110 _ (0,0) _ rfl hS9 Tryz.underlying110 rfl (by rw [ssize];rfl)) rfl (HFI.out _ _ _ HZ.out HOO.out (Or.inr ⟨R,u7,m7,d7,rfl,L7,rfl,own_baseS O9 (Nat.le_of_lt LZ.out),?_,C9.below W7.out (Nat.le_refl _)⟩))
         obtain ⟨p',c',he,hb,_⟩:=hbs
         cases he
         exact hb
end
end Go.Proofs.YtnnalemboeccbaaGreatDoor

/-
  C11, SeF, SeG, SeH (merged)
-/
import Derived.Test.YtnnalemboeccbaaGreatDoorB10
import Derived.Deep.RegionLawGrows
import Derived.Test.YtnnalemboeccbaaGreatDoorSe1
namespace Go.Proofs.YtnnalemboeccbaaGreatDoor

/-! C11:  -/
section
section
open Go.RowKit
theorem own_bat {w:World} {B n:Nat} {v:Value} {l:List Int} (h:w.ownsRow B 5 1 v n (U8s l)) (hb:Sha.Byt l) :
  ∃ (p:Option Addr) (c:Nat),v = .slice p n c∧l.length=n∧BAt w p l∧(p=none→l = []∧c=0)∧n≤c∧c≤9223372036854775807∧(∀ b o s,p=some ⟨b,o,s⟩→B≤b∧o=0∧s=none):=by
 have hl:l.length=n:=by have:=h.1;unfold U8s at this;simpa using this
 rcases h.2 with ⟨rfl,rfl⟩ | ⟨g,cap,cur,rfl,q0,_,h1,h2,_⟩
 ·obtain rfl:l = []:=List.eq_nil_of_length_eq_zero hl
  exact ⟨none,0,rfl,rfl,⟨hb,fun h0=>by simp at h0⟩,fun _=>⟨rfl,rfl⟩,Nat.le_refl _,by omega,fun b o s e=>by cases e⟩
 ·refine ⟨_,cap,rfl,hl,⟨hb,fun h0=>⟨g,0,rfl,fun j hj=>?_⟩⟩,(fun e=>by cases e),h1,(by unfold maxLen at h2;omega),(fun b o s e=>by cases e;exact ⟨q0,rfl,rfl⟩)⟩
  rw [Nat.zero_add]
  exact u8_at h j (by omega)
structure XorGot (L X:List Int) (w:World) (q:Option Addr) (cq:Nat) (w':World):Prop where
 own:w'.ownsRow w.heap.size 5 1 (.slice q L.length cq) L.length (U8s X)
 bat:BAt w' q X
 len:X.length=L.length
 none:q = .none→X = []∧cq=0
 cap:L.length≤cq∧cq≤9223372036854775807
 below:Below w.heap.size w w'
theorem xor_got (c:Nat) (ks:List Int) (N:Nat) (e n:Int) (L:List Int) (p:Option Addr) (cap:Nat) (hL:L.length≤1000000000) (hp0:p=none→L = []∧cap=0) (hn:ks.length=4*(N+2)) (hN:N≤100) (w:World) (hp:BAt w p L) (hC:Ciph w c Aes.TB ks) :
  Calls Tryz.prog 246 #[.pointer (some ⟨c,0,none⟩),.int .i64 e,.int .i64 n,.slice p L.length cap] w fun r w'=>∃ q cq,r = .returned (.slice q L.length cq)∧Hid (XorGot L (Ctr.xs (Ctr.sblk ks N (e % 18446744073709551616) (n % 18446744073709551616)) L) w q cq w'):=by
 refine (xor_any c ks N e n L p cap hL hp0 hn hN w hp hC).mono ?_
 rintro r w' ⟨v,rfl,ho,hb⟩
 obtain ⟨q,cq,rfl,h1,h2,h3,h4,h5,_⟩:=own_bat ho (Ctr.xs_byt _ _)
 exact ⟨q,cq,rfl,ho,h2,h1,h3,⟨h4,h5⟩,hb⟩
end
section
open Go.RowKit
end
section
open Go.RowKit
def StreamOf (ks:List Int) (N:Nat) (e n:Int):Nat→List Int:=Ctr.sblk ks N (e % 18446744073709551616) (n % 18446744073709551616)
theorem xor_key {ks:List Int} {N:Nat} (hn:ks.length=4*(N+2)) (hN:N≤100) (c:Nat) (e n:Int) (L:List Int) (k:Nat) (hk:L.length=k) (p:Option Addr) (cap:Nat) (hL:k≤1000000000) (hp0:p=none→L = []∧cap=0) (w:World) (hp:BAt w p L) (hC:Ciph w c Aes.TB ks) :
  Calls Tryz.prog 246 #[.pointer (some ⟨c,0,none⟩),.int .i64 e,.int .i64 n,.slice p k cap] w fun r w'=>∃ q cq,r = .returned (.slice q k cq)∧Hid (XorGot L (Ctr.xs (StreamOf ks N e n) L) w q cq w'):=by
 subst hk
 exact xor_got c ks N e n L p cap hL hp0 hn hN w hp hC
attribute [irreducible] StreamOf
end
section
open Go.RowKit
end
section
open Go.RowKit
end
section
open Go.RowKit
end
end

/-! SeF:  -/
section
open Go.RowKit
theorem hm_byt (K b:List Int):Sha.Byt (hm K b):=by unfold hm;exact dg_byt _
theorem BAt.take {w:World} {p:Option Addr} {l:List Int} (h:BAt w p l) (k:Nat):BAt w p (l.take k):=by
 rw [← List.take_append_drop k l] at h
 exact h.pre
namespace Seal
def encS:ByteArray:={ data:=#[101,110,99,114,121,112,116] }
def autS:ByteArray:={ data:=#[97,117,116,104,101,110,116,105,99,97,116,101] }
def k1 (K:List Int):List Int:=(hm K (bl encS)).take 16
def ks (K:List Int):List Int:=Aes.kws Aes.TB (k1 K)
def k2 (K:List Int):List Int:=hm K (bl autS)
theorem k1_len (K:List Int):(k1 K).length=16:=by unfold k1;rw [List.length_take,hm_len];rfl
theorem k2_len (K:List Int):(k2 K).length=32:=hm_len _ _
theorem ks_len (K:List Int):(ks K).length=4*(9+2):=kws_len (k1 K) 4 (k1_len K)
theorem k2_byt (K:List Int):Sha.Byt (k2 K):=hm_byt _ _
attribute [irreducible] k1 ks k2
end Seal
def BoxAt (w:World) (g:Nat) (K:List Int):Prop:=∃ c,Boxed w g c (Seal.k2 K)∧Ciph w c Aes.TB (Seal.ks K)
theorem BoxAt.old {w x:World} {g:Nat} {K:List Int} (h:BoxAt w g K) (hb:Below w.heap.size w x):BoxAt x g K:=by
 obtain ⟨c,h1,h2⟩:=h
 exact ⟨c,h1.old hb,h2.below hb (Nat.le_refl _)⟩
def NewBox (K:List Int) (w:World) (e:Ending) (w':World):Prop :=
 ∃ g,e = .returned (.pointer (some ⟨g,0,none⟩))∧Hid (BoxAt w' g K)∧Below w.heap.size w w'
set_option maxHeartbeats 2000000 in
set_option maxRecDepth 100000 in
theorem newbox_any (hT:TakeSaid) (K:List Int) (p:Option Addr) (n c:Nat) (hn:K.length=n) (hnl:n≤100000) (w:World) (hp:Bs w p c K) (ht:Tab w 1) :
  Calls Tryz.prog 10 #[.slice p n c] w (NewBox K w):=by
 subst hn
 have HT:=Lib.hid hT;clear hT
 have Ht:=Lib.hid ht;clear ht
 have Hp:=Lib.hid hp;clear hp
 have HD1:Hid (∀ x,Below w.heap.size w x→Calls Tryz.prog 44 #[.slice p K.length c,.string { data:=#[101,110,99,114,121,112,116] }] x (HmSay K (bl Seal.encS) x)):=fun x hx =>
  derive_any HT.out K Seal.encS p K.length c rfl hnl (by decide) x ((Hp.out.old hx).bat) Hp.out.cap.1 Hp.out.cap.2 (Ht.out.below hx Ht.out.lt)
 have HD2:Hid (∀ x,Below w.heap.size w x→Calls Tryz.prog 44 #[.slice p K.length c,.string { data:=#[97,117,116,104,101,110,116,105,99,97,116,101] }] x (HmSay K (bl Seal.autS) x)):=fun x hx =>
  derive_any HT.out K Seal.autS p K.length c rfl hnl (by decide) x ((Hp.out.old hx).bat) Hp.out.cap.1 Hp.out.cap.2 (Ht.out.below hx Ht.out.lt)
 obtain ⟨A,HA1,HA2,HA3⟩:∃ A:Array Value,Hid (A=((hm K (bl Seal.encS)).map (Value.int .u8)).toArray)∧Hid (A.size=32)∧Hid (A.all (·.oneCell')=true) :=
  ⟨_,rfl,by show _=_;simp [hm_len],all_oneCell_toArray (bytes_one _)⟩
 obtain ⟨B,HB1,HB2,HB3⟩:∃ A:Array Value,Hid (A=((hm K (bl Seal.autS)).map (Value.int .u8)).toArray)∧Hid (A.size=32)∧Hid (A.all (·.oneCell')=true) :=
  ⟨_,rfl,by show _=_;simp [hm_len],all_oneCell_toArray (bytes_one _)⟩
 have HN:Hid (∀ g x,x.heap[g]?=some (.cells A 39 (0,0))→Calls Tryz.prog 45 #[.slice (some ⟨g,0,none⟩) 16 32] x fun e x'=>∃ c,e = .returned (.tuple #[.pointer (some ⟨c,0,none⟩),.int .i64 0])∧Hid (Ciph x' c Aes.TB (Seal.ks K))∧Hid (Below x.heap.size x x')):=fun g x hx=>by
  rw [HA1.out] at hx
  have hb:BAt x (some ⟨g,0,none⟩) (Seal.k1 K):=by unfold Seal.k1;exact (bat_row hx (hm_byt _ _)).take 16
  refine (new_anyB (Seal.k1 K) 4 (by omega) (Seal.k1_len K) _ 32 (by omega) (by omega) x hb).mono ?_
  rintro e x' ⟨c,h1,_,h2,h3⟩
  exact ⟨c,h1,by unfold Seal.ks;exact h2,h3⟩
 have hB32:=HB2.out
 go_enter Tryz.func10,Tryz.ntmps10
 go_wp2_with (first
  | (go_at_call 44;refine (HD1.out _ (Below.refl _ w)).mono ?_;rintro e1 w1 ⟨rfl,hb1⟩;rw [← HA1.out];have B1:=Lib.hid hb1;clear hb1 HD1)
  | ((with_reducible refine row_store _ _ _ _ _ _ _ ?_ ?_ (heap_alloc_new _ _) (row_size Tryz.sizeSum HA2) ?_ HA3.out ?_);(exact rfl);(exact rfl);(rw [HA2.out];rfl);intro w2 G2 ch2;have B2:Hid (Below w.heap.size w w2):=ch2.below (B1.out.alloc B1.out.size _) B1.out.size;clear ch2)
  | (go_at_call 45;refine (HN.out _ _ G2.out).mono ?_;rintro e3 w3 ⟨c3,rfl,HC3,hb3⟩;have B3:Hid (Below w.heap.size w w3):=B2.out.trans (hb3.out.mono B2.out.size);clear hb3 HN)
  | (go_at_call 44;refine (HD2.out _ B3.out).mono ?_;rintro e4 w4 ⟨rfl,hb4⟩;rw [← HB1.out];have B4:Hid (Below w.heap.size w w4):=B3.out.trans (hb4.mono B3.out.size);have HC4:Hid (Ciph w4 c3 Aes.TB (Seal.ks K)):=HC3.out.below hb4 (Nat.le_refl _);clear hb4 HD2))
 generalize hFF:Array.foldl _ _ (B.zipIdx 0) 0 32=FF
 have hFB:FF = #[.pointer (some ⟨c3,0,none⟩)]++B:=by
  rw [← hFF]
  exact fold_box _ B HB2.out (List.replicate 32 (Value.int .u8 0)) (by simp)
 clear hFF
 subst hFB
 go_ret
 have B5:Below w4.heap.size w4 (w4.alloc (.cells (#[.pointer (some ⟨c3,0,none⟩)]++B) 97)):=(Below.refl _ w4).alloc (Nat.le_refl _) _
 refine ⟨w4.heap.size,rfl,⟨c3,?_,HC4.out.below B5 (Nat.le_refl _)⟩,B4.out.trans (B5.mono B4.out.size)⟩
 unfold Boxed Seal.k2
 rw [← HB1.out]
 exact heap_alloc_new w4 _
end

/-! SeG:  -/
section
open Go.RowKit
namespace Seal
def ct (K:List Int) (e n:Int) (L:List Int):List Int:=Ctr.xs (StreamOf (ks K) 9 e n) L
theorem ct_len (K:List Int) (e n:Int) (L:List Int):(ct K e n L).length=L.length:=Ctr.xs_len _ _
theorem ct_byt (K:List Int) (e n:Int) (L:List Int):Sha.Byt (ct K e n L):=Ctr.xs_byt _ _
def tg (K:List Int) (e n:Int) (h t:List Int):List Int:=hm (k2 K) (tin h e n t)
theorem tg_len (K:List Int) (e n:Int) (h t:List Int):(tg K e n h t).length=32:=hm_len _ _
theorem tg_byt (K:List Int) (e n:Int) (h t:List Int):Sha.Byt (tg K e n h t):=hm_byt _ _
attribute [irreducible] ct tg
def sl (K:List Int) (e n:Int) (h L:List Int):List Int:=if inR e&&inR n then ct K e n L++tg K e n h (ct K e n L) else []
def op (K:List Int) (e n:Int) (h S:List Int):Option (List Int) :=
 if inR e&&inR n&&decide (32≤S.length)&&decide (S.drop (S.length-32)=tg K e n h (S.take (S.length-32))) then some (ct K e n (S.take (S.length-32))) else none
theorem sl_good {e n:Int} (he:inR e=true) (hn:inR n=true) (K h L:List Int):sl K e n h L=ct K e n L++tg K e n h (ct K e n L):=by unfold sl;rw [he,hn];rfl
theorem sl_bad {e n:Int} (h0:(inR e&&inR n)=false) (K h L:List Int):sl K e n h L = []:=by unfold sl;rw [h0];rfl
theorem sl_len {e n:Int} (he:inR e=true) (hn:inR n=true) (K h L:List Int):(sl K e n h L).length=L.length+32:=by rw [sl_good he hn,List.length_append,ct_len,tg_len]
theorem sl_byt (K:List Int) (e n:Int) (h L:List Int):Sha.Byt (sl K e n h L):=by
 unfold sl
 split
 ·exact Sha.byt_append (ct_byt _ _ _ _) (tg_byt _ _ _ _ _)
 ·exact fun x hx=>by simp at hx
theorem op_bad {e n:Int} (h0:(inR e&&inR n)=false) (K h S:List Int):op K e n h S=none:=by unfold op;rw [h0];rfl
theorem op_short (K:List Int) (e n:Int) (h S:List Int) (hS:S.length<32):op K e n h S=none:=by
 unfold op
 rw [show decide (32≤S.length)=false by simp;omega]
 simp
end Seal
theorem bs_xor {L X:List Int} {w w':World} {q:Option Addr} {cq:Nat} (h:XorGot L X w q cq w'):Bs w' q cq X:=⟨h.bat,by rw [h.len];exact h.cap,h.none⟩
def OwnSay (R:List Int) (w:World) (e:Ending) (w':World):Prop :=
 ∃ p c m,e = .returned (.slice p m c)∧R.length=m∧Hid (w'.ownsRow w.heap.size 5 1 (.slice p m c) m (U8s R))∧Hid (Bs w' p c R)∧Below w.heap.size w w'
theorem ownsay_of {R:List Int} {w w':World} {v:Value} {n:Nat} (ho:w'.ownsRow w.heap.size 5 1 v n (U8s R)) (hR:Sha.Byt R) (hb:Below w.heap.size w w'):OwnSay R w (.returned v) w':=by
 obtain ⟨p,c,rfl,hbs,hl⟩:=own_bs ho hR
 subst hl
 exact ⟨p,c,R.length,rfl,rfl,ho,hbs,hb⟩
set_option maxHeartbeats 2000000 in
set_option maxRecDepth 100000 in
theorem seal_good (hT:TakeSaid) (K h L:List Int) (g:Nat) (e n:Int) (ph pl:Option Addr) (nh nl ch cl:Nat) (hnh:h.length=nh) (hnl:L.length=nl) (he:inR e=true) (hn:inR n=true)
  (w:World) (hg:BoxAt w g K) (hh:Bs w ph ch h) (hl:Bs w pl cl L) (hs:nh+nl≤100000) (ht:Tab w 1) :
  Calls Tryz.prog 241 #[.pointer (some ⟨g,0,none⟩),.int .i64 e,.int .i64 n,.slice ph nh ch,.slice pl nl cl] w (OwnSay (Seal.sl K e n h L) w):=by
 subst hnh
 subst hnl
 obtain ⟨c,hg1,hg2⟩:=hg
 have HT:=Lib.hid hT;clear hT
 have Ht:=Lib.hid ht;clear ht
 have HG1:=Lib.hid hg1;clear hg1
 have HG2:=Lib.hid hg2;clear hg2
 have Hh:=Lib.hid hh;clear hh
 have Hl:=Lib.hid hl;clear hl
 have Hs:=Lib.hid hs;clear hs
 have he2:0≤e∧e≤1099511627776:=by unfold inR at he;simpa using he
 have hn2:0≤n∧n≤1099511627776:=by unfold inR at hn;simpa using hn
 have HE:Hid (∀ x,Calls Tryz.prog 243 #[.int .i64 e] x fun r x'=>r = .returned (.bool true)∧x'=x):=fun x=>by have h:=inRange_any e x;rw [he] at h;exact h
 have HN:Hid (∀ x,Calls Tryz.prog 243 #[.int .i64 n] x fun r x'=>r = .returned (.bool true)∧x'=x):=fun x=>by have h:=inRange_any n x;rw [hn] at h;exact h
 have HXR:Hid (∀ x,Below w.heap.size w x→Calls Tryz.prog 246 #[.pointer (some ⟨c,0,none⟩),.int .i64 e,.int .i64 n,.slice pl L.length cl] x fun r x'=>∃ q cq,r = .returned (.slice q L.length cq)∧Hid (XorGot L (Seal.ct K e n L) x q cq x')):=fun x hx=>by
  unfold Seal.ct
  exact xor_key (Seal.ks_len K) (by omega) c e n L L.length rfl pl cl (by have:=Hs.out;omega) Hl.out.nil x (Hl.out.old hx).bat (HG2.out.below hx (Nat.le_refl _))
 obtain ⟨X,HX⟩:∃ X,Hid (X=Seal.ct K e n L):=⟨_,rfl⟩
 have HXL:Hid (X.length=L.length):=by show _=_;rw [HX.out,Seal.ct_len]
 rw [← HX.out] at HXR
 obtain ⟨T,HTT⟩:∃ T,Hid (T=Seal.tg K e n h X):=⟨_,rfl⟩
 have HTL:Hid (T.length=32):=by show _=_;rw [HTT.out,Seal.tg_len]
 have HTB:Hid (Sha.Byt T):=by show Sha.Byt T;rw [HTT.out];exact Seal.tg_byt _ _ _ _ _
 have HXB:Hid (Sha.Byt X):=by show Sha.Byt X;rw [HX.out];exact Seal.ct_byt _ _ _ _
 have HTG:Hid (∀ x q cq,Below w.heap.size w x→Bs x q cq X→Calls Tryz.prog 245 #[.pointer (some ⟨g,0,none⟩),.int .i64 e,.int .i64 n,.slice ph h.length ch,.slice q L.length cq] x (RowSay T x)):=fun x q cq hx hq=>by
  have h1:=tag_any HT.out (Seal.k2 K) (Seal.k2_len K) (Seal.k2_byt K) g c e n (by omega) (by omega) h X ph q h.length L.length ch cq rfl HXL.out x (HG1.out.old hx) (Hh.out.old hx) hq (by have:=Hs.out;omega) (Ht.out.below hx Ht.out.lt)
  rw [HTT.out]
  unfold Seal.tg
  exact h1
 have HRES:Hid (Seal.sl K e n h L=X++T):=by show _=_;rw [Seal.sl_good he hn,← HX.out,← HTT.out]
 rw [HRES.out]
 have HRB:Hid (Sha.Byt (X++T)):=Sha.byt_append HXB.out HTB.out
 obtain ⟨A,HA1,HA2,HA3⟩:∃ A:Array Value,Hid (A=(T.map (Value.int .u8)).toArray)∧Hid (A.size=32)∧Hid (A.all (·.oneCell')=true) :=
  ⟨_,rfl,by show _=_;simp [HTL.out],all_oneCell_toArray (bytes_one _)⟩
 have hb0:w.cell? ⟨g,0,none⟩=some (.pointer (some ⟨c,0,none⟩)):=HG1.out.first
 clear he hn he2 hn2
 go_enter Tryz.func241,Tryz.ntmps241
 go_wp2_with (first
  | (go_at_call 243;refine (HE.out _).mono ?_;rintro e1 w1 ⟨rfl,rfl⟩;clear HE)
  | (go_at_call 243;refine (HN.out _).mono ?_;rintro e2 w2 ⟨rfl,rfl⟩;clear HN)
  | (go_at_call 246;refine (HXR.out _ (Below.refl _ _)).mono ?_;rintro e3 w3 ⟨q3,c3,rfl,HGOT⟩;have B3:=Lib.hid HGOT.out.below;have BX3:=Lib.hid (bs_xor HGOT.out);have O3:=Lib.hid HGOT.out.own;clear HGOT HXR)
  | (go_at_call 245;refine (HTG.out _ q3 c3 B3.out BX3.out).mono ?_;rintro e4 w4 ⟨rfl,hb4⟩;rw [← HA1.out];have B34:=Lib.hid hb4;clear hb4 HTG)
  | ((with_reducible refine row_store _ _ _ _ _ _ _ ?_ ?_ (heap_alloc_new _ _) (row_size Tryz.sizeSum HA2) ?_ HA3.out ?_);(exact rfl);(exact rfl);(rw [HA2.out];rfl);intro w5 G5 ch5;rw [HA1.out] at G5;have B45:=Lib.hid (ch5.below ((Below.refl _ w4).alloc (Nat.le_refl _) _) (Nat.le_refl _));have B35:Hid (Below w3.heap.size w3 w5):=B34.out.trans (B45.out.mono B34.out.size);have O5:=Lib.hid (own_keepX O3.out B35.out);have BT5:=Lib.hid (bs_row (c:=32) (bat_row G5.out HTB.out) ⟨by rw [HTL.out];exact Nat.le_refl _,by omega⟩);have B5:Hid (Below _ _ w5):=B3.out.trans (B35.out.mono B3.out.size);clear ch5 G5)
  | (at_builtin;refine append_bts _ _ T _ _ _ _ _ 32 32 rfl rfl HTL.out BT5.out O5.out (by have:=Hs.out;omega) B5.out.size ?_;intro v6 w6 ho6 hg6;have O6:=Lib.hid ho6;have B6:=Lib.hid (B5.out.grown hg6 B5.out.size (fun q hq=>(O5.out.lt q hq).1));clear ho6 hg6))
 go_ret
 exact ownsay_of O6.out HRB.out B6.out
end

/-! SeH:  -/
section
open Go.RowKit
set_option maxRecDepth 100000 in
theorem seal_none (g:Nat) (e n:Int) (vh vl:Value) (h0:(inR e&&inR n)=false) (w:World) :
  Calls Tryz.prog 241 #[.pointer (some ⟨g,0,none⟩),.int .i64 e,.int .i64 n,vh,vl] w fun r w'=>r = .returned (.slice none 0 0)∧w'=w:=by
 have HI:Hid (∀ y x,Calls Tryz.prog 243 #[.int .i64 y] x fun r x'=>r = .returned (.bool (inR y))∧x'=x):=fun y x=>inRange_any y x
 by_cases he:inR e=true
 ·have hn:inR n=false:=by rw [he] at h0;simpa using h0
  go_enter Tryz.func241,Tryz.ntmps241
  go_wp2_with (go_at_call 243;refine (HI.out _ _).mono ?_;rintro e1 w1 ⟨rfl,rfl⟩;first | rw [he] | rw [hn])
  go_ret
  exact ⟨rfl,rfl⟩
 ·have he2:inR e=false:=by simpa using he
  go_enter Tryz.func241,Tryz.ntmps241
  go_wp2_with (go_at_call 243;refine (HI.out _ _).mono ?_;rintro e1 w1 ⟨rfl,rfl⟩;rw [he2])
  go_ret
  exact ⟨rfl,rfl⟩
theorem seal_bad (K h L:List Int) (g:Nat) (e n:Int) (vh vl:Value) (h0:(inR e&&inR n)=false) (w:World) :
  Calls Tryz.prog 241 #[.pointer (some ⟨g,0,none⟩),.int .i64 e,.int .i64 n,vh,vl] w (OwnSay (Seal.sl K e n h L) w):=by
 rw [Seal.sl_bad h0]
 refine (seal_none g e n vh vl h0 w).mono ?_
 rintro r w' ⟨rfl,rfl⟩
 exact ⟨none,0,0,rfl,rfl,(by unfold U8s;exact World.ownsRow_nil _ _ _ _),bs_none _,Below.refl _ _⟩
theorem seal_any (hT:TakeSaid) (K h L:List Int) (g:Nat) (e n:Int) (ph pl:Option Addr) (nh nl ch cl:Nat) (hnh:h.length=nh) (hnl:L.length=nl)
  (w:World) (hg:BoxAt w g K) (hh:Bs w ph ch h) (hl:Bs w pl cl L) (hs:nh+nl≤100000) (ht:Tab w 1) :
  Calls Tryz.prog 241 #[.pointer (some ⟨g,0,none⟩),.int .i64 e,.int .i64 n,.slice ph nh ch,.slice pl nl cl] w (OwnSay (Seal.sl K e n h L) w):=by
 cases h0:(inR e&&inR n) with
 | false=>exact seal_bad K h L g e n _ _ h0 w
 | true =>
  simp only [Bool.and_eq_true] at h0
  exact seal_good hT K h L g e n ph pl nh nl ch cl hnh hnl h0.1 h0.2 w hg hh hl hs ht
def OpenSay (o:Option (List Int)) (w:World) (e:Ending) (w':World):Prop :=
 ∃ p c m,e = .returned (.tuple #[.slice p m c,.bool o.isSome])∧(o.getD []).length=m∧Hid (w'.ownsRow w.heap.size 5 1 (.slice p m c) m (U8s (o.getD [])))∧Hid (Bs w' p c (o.getD []))∧Below w.heap.size w w'
theorem opensay_none {w w':World} (hb:Below w.heap.size w w'):OpenSay none w (.returned (.tuple #[.slice none 0 0,.bool false])) w' :=
 ⟨none,0,0,rfl,rfl,(by unfold U8s;exact World.ownsRow_nil _ _ _ _),bs_none w',hb⟩
set_option maxRecDepth 100000 in
theorem open_bad (K h S:List Int) (g:Nat) (e n:Int) (vh:Value) (pS:Option Addr) (nS cS:Nat) (hnS:S.length=nS) (hs:nS≤200000) (h0:(inR e&&inR n)=false∨nS<32) (w:World) :
  Calls Tryz.prog 240 #[.pointer (some ⟨g,0,none⟩),.int .i64 e,.int .i64 n,vh,.slice pS nS cS] w (OpenSay (Seal.op K e n h S) w):=by
 rw [show Seal.op K e n h S=none by
  rcases h0 with h1 | h1
  ·exact Seal.op_bad h1 _ _ _
  ·exact Seal.op_short _ _ _ _ _ (by omega)]
 have HI:Hid (∀ y x,Calls Tryz.prog 243 #[.int .i64 y] x fun r x'=>r = .returned (.bool (inR y))∧x'=x):=fun y x=>inRange_any y x
 have fin:OpenSay none w (.returned (.tuple #[.slice none 0 0,.bool false])) w:=opensay_none (Below.refl _ _)
 have hw:IntKind.i64.wrap ((nS:Int)-32)=(nS:Int)-32:=IntWalk.i64_in _ ⟨by omega,by omega⟩
 by_cases he:inR e=true
 ·by_cases hn:inR n=true
  ·have hlt:(nS:Int)-32<0:=by
    rcases h0 with h1 | h1
    ·rw [he,hn] at h1;cases h1
    ·omega
   go_enter Tryz.func240,Tryz.ntmps240
   go_wp2_with (go_at_call 243;refine (HI.out _ _).mono ?_;rintro e1 w1 ⟨rfl,rfl⟩;first | rw [he] | rw [hn])
   go_ret2
   exact fin
  ·have hn2:inR n=false:=by simpa using hn
   go_enter Tryz.func240,Tryz.ntmps240
   go_wp2_with (go_at_call 243;refine (HI.out _ _).mono ?_;rintro e1 w1 ⟨rfl,rfl⟩;first | rw [he] | rw [hn2])
   go_ret2
   exact fin
 ·have he2:inR e=false:=by simpa using he
  go_enter Tryz.func240,Tryz.ntmps240
  go_wp2_with (go_at_call 243;refine (HI.out _ _).mono ?_;rintro e1 w1 ⟨rfl,rfl⟩;rw [he2])
  go_ret2
  exact fin
end
end Go.Proofs.YtnnalemboeccbaaGreatDoor

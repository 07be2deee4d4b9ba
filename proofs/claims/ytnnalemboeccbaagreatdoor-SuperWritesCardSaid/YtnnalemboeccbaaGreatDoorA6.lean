import Derived.Test.YtnnalemboeccbaaGreatDoorA5
import Derived.Test.YtnnalemboeccbaaGreatDoorA2
import Derived.Laws.IdiomStrings
import Derived.Test.YtnnalemboeccbaaGreatDoorRows
import Derived.Stop.LaidErr
import Derived.ChangeSame
import Derived.ChangeVars
import Derived.ChangeSlices
import Derived.JoinedOf
import Derived.JoinedAt
import Derived.RowKit
import Derived.RowKitTokens
import Derived.LaidLaws
import Derived.LaidHandle
import Derived.Stop.Joined
import Derived.ProofKit
import Derived.Lib.LaidTab
import Derived.SevenTiedAt
import Derived.SizedLaws
import Derived.Carry
namespace Go.Proofs.YtnnalemboeccbaaGreatDoor
section
open Go.RowKit
theorem own_block {w:World} {B n g c:Nat} {xs:List Value} (h:w.ownsRow B 5 1 (.slice (some ⟨g,0,none⟩) n c) n xs):B≤g∧∃ cur:Array Value,w.heap[g]?=some (.cells cur 5 (0,0))∧n≤c∧c≤maxLen∧cur.size=c*1∧cur.toList.take (n*1)=xs:=by
 rcases h.2 with ⟨h1,_⟩ | ⟨g',cap,cur,h1,h2,h3,h4,h5,h6,h7⟩
 ·cases h1
 ·cases h1;exact ⟨h2,cur,h3,h4,h5,h6,h7⟩
theorem own_set {w:World} {B n g c k:Nat} {l:List Int} {x:Int} (h:w.ownsRow B 5 1 (.slice (some ⟨g,0,none⟩) n c) n (U8s l)) (_hk:k<n) :
  (w.setCell ⟨g,k,none⟩ (.int .u8 x)).ownsRow B 5 1 (.slice (some ⟨g,0,none⟩) n c) n (U8s (l.set k x)):=by
 obtain ⟨h2,cur,h3,h4,h5,h6,h7⟩:=own_block h
 have hl:l.length=n:=by
  have:=h.1
  unfold U8s at this
  simpa using this
 refine ⟨by unfold U8s;simp [hl],Or.inr ⟨g,c,cur.setIfInBounds k (.int .u8 x),rfl,h2,heap_setCell_same w g k _ _ _ h3,h4,h5,by simpa using h6,?_⟩⟩
 unfold U8s at h7 ⊢
 rw [Array.toList_setIfInBounds,List.take_set,h7,List.map_set]
theorem own_frozen {w:World} {B n g c:Nat} {xs:List Value} (h:w.ownsRow B 5 1 (.slice (some ⟨g,0,none⟩) n c) n xs) (k:Nat):w.frozen? ⟨g,k,none⟩=false:=by
 obtain ⟨_,cur,h3,_⟩:=own_block h
 exact frozen_of_row w g k _ _ h3
theorem own_mono {w:World} {B B' n:Nat} {e:TypeId} {v:Value} {xs:List Value} (h:w.ownsRow B e 1 v n xs) (hb:B'≤B):w.ownsRow B' e 1 v n xs:=by
 refine ⟨h.1,?_⟩
 rcases h.2 with h1 | ⟨g,cap,cur,h1,h2,h3⟩
 ·exact Or.inl h1
 ·exact Or.inr ⟨g,cap,cur,h1,Nat.le_trans hb h2,h3⟩
theorem xl_kb_len (x:Int) (K:List Int):(xl x (kb K)).length=64:=by rw [xl_len,kb_len]
theorem k64_rep (K:List Int) (z:Nat) (h:K.length+z=64):K++List.replicate z 0=k64 K:=by
 unfold k64
 congr 2
 omega
def BlockSay (x:Int) (K:List Int) (w:World) (e:Ending) (w':World):Prop:=∃ v,e = .returned v∧w'.ownsRow w.heap.size 5 1 v 64 (U8s (xl x (kb K)))∧Below w.heap.size w w'
set_option maxHeartbeats 2000000 in
set_option maxRecDepth 100000 in
theorem block_short (x:Int) (K:List Int) (p:Option Addr) (n cap:Nat) (hn:K.length=n) (hk:n≤64) (w:World) (hp:BAt w p K) :
  Calls Tryz.prog 176 #[.slice p n cap,.int .u8 x] w (BlockSay x K w):=by
 subst hn
 obtain ⟨i0,hi,hz0,hz1,hz2⟩:=info_parts Tryz.info_u8
 have Hp:=Lib.hid hp;clear hp
 have HKB:Hid (k64 K=kb K):=(kb_short K hk).symm
 go_enter Tryz.func176,Tryz.ntmps176
 go_wp2
 go_loopw [5,6] (fun v i wr=>∃ k:Nat,k≤K.length∧i = .int .i64 k∧Hid (wr.ownsRow w.heap.size 5 1 v k (U8s (K.take k)))∧Hid (Below w.heap.size w wr)) (fun _ i _=>K.length-(intOf i).toNat)
 case atStart=>exact ⟨0,Nat.zero_le _,rfl,by unfold U8s;exact World.ownsRow_nil _ _ _ _,Below.refl _ _⟩
 case round =>
  obtain ⟨k,hk',rfl,HO,HB⟩:=hrel
  by_cases hlt:k<K.length
  ·obtain ⟨ab,ao,hpp,hcs⟩:=(Hp.out.old HB.out).2 (by omega)
   subst hpp
   have c0:=hcs k hlt
   clear hcs
   obtain ⟨y,hy⟩:∃ y,K.getD k 0=y:=⟨_,rfl⟩
   rw [hy] at c0
   go_wp2_with (first
    | (at_builtin;refine wpList_append_own _ rfl _ _ 22 rfl w.heap.size 5 i0 (.int .u8 0) 1 1 Tryz.underlying22 hi hz0 hz1 hz2 rfl (by decide) _ _ _ rfl (HO.out.alloc _) ⟨wr.heap.size,0,none⟩ 1 1 [.int .u8 y] rfl rfl (u8_cell _ _ _) (u8_one _) (by unfold maxLen;omega) (by omega) (by have:=HB.out.size;simp;omega) ?_)
    | go_in)
   intro v' w1 hown' hgrow _
   have hb1:=below_own HB.out (HB.out.size) HO.out hgrow
   rw [U8s_snoc,← hy,take_snoc K k hlt] at hown'
   clear hgrow HO HB
   go_wp2
   exact ⟨⟨k+1,by omega,by go_num,hown',hb1⟩,by simp [intOf];omega⟩
  ·have E:k=K.length:=by omega
   have HO0:Hid (wr.ownsRow w.heap.size 5 1 u5 K.length (U8s K)):=by
    have:=HO.out
    rw [E,List.take_length] at this
    exact this
   have HB0:=HB
   have hge:K.length≤k:=by omega
   clear hlt HO E HB
   go_wp2
   go_loopw [5] (fun v wr=>∃ z:Nat,K.length+z≤64∧lenOf v=K.length+z∧Hid (wr.ownsRow w.heap.size 5 1 v (K.length+z) (U8s (K++List.replicate z 0)))∧Hid (Below w.heap.size w wr)) (fun v _=>64-lenOf v)
   case atStart =>
    refine ⟨0,by omega,?_,?_,HB0.out⟩
    ·obtain ⟨p,c,rfl⟩:=own_slice HO0.out
     rfl
    ·have h:=HO0.out
     show World.ownsRow _ _ _ _ _ _ _
     simpa using h
   case round =>
    clear HO0 HB0
    obtain ⟨z,hz,hlv,HO,HB⟩:=hrel
    obtain ⟨pv,cv,hv⟩:=own_slice HO.out
    rw [hv] at HO hlv ⊢
    clear hv hlv
    by_cases hzl:K.length+z<64
    ·go_wp2_with (first
      | (at_builtin;refine wpList_append_own _ rfl _ _ 22 rfl w.heap.size 5 i0 (.int .u8 0) 1 1 Tryz.underlying22 hi hz0 hz1 hz2 rfl (by decide) _ _ _ rfl (HO.out.alloc _) ⟨wr.heap.size,0,none⟩ 1 1 [.int .u8 0] rfl rfl (u8_cell _ _ _) (u8_one _) (by unfold maxLen;omega) (by omega) (by have:=HB.out.size;simp;omega) ?_)
      | go_in)
     intro v' w1 hown' hgrow _
     have hb1:=below_own HB.out (HB.out.size) HO.out hgrow
     rw [U8s_snoc,List.append_assoc,rep_snoc] at hown'
     have hl':lenOf v'=K.length+z+1:=by
      obtain ⟨p,c,rfl⟩:=own_slice hown'
      rfl
     clear hgrow HO HB
     go_wp2
     exact ⟨⟨z+1,by omega,hl',hown',hb1⟩,by rw [hl'];simp [lenOf];omega⟩
    ·have hz64:K.length+z=64:=by omega
     have HO4:Hid (wr.ownsRow w.heap.size 5 1 (.slice pv (K.length+z) cv) 64 (U8s (mx x (kb K) 0))):=by
      have h:=HO.out
      rw [k64_rep K z (by omega),HKB.out] at h
      rw [mx_zero]
      rw [hz64] at h ⊢
      exact h
     clear HO
     obtain ⟨g4,hp4⟩:∃ g4,pv=some ⟨g4,0,none⟩:=by
      obtain ⟨g,c,h⟩:=own_some HO4.out (by decide)
      injection h with h1 _ _
      exact ⟨g,h1⟩
     subst hp4
     have hz2':64≤K.length+z:=by omega
     rw [hz64] at HO4 ⊢
     go_wp2
     go_loopw [9] (fun v9 wr=>∃ k:Nat,k≤64∧v9 = .int .i64 k∧Hid (wr.ownsRow w.heap.size 5 1 (.slice (some ⟨g4,0,none⟩) 64 cv) 64 (U8s (mx x (kb K) k)))∧Hid (Below w.heap.size w wr)) (fun v9 _=>64-(intOf v9).toNat)
     case atStart=>exact ⟨0,by omega,rfl,HO4.out,HB.out⟩
     case round =>
      clear HO4 HB
      obtain ⟨k,hk,rfl,HO,HB⟩:=hrel
      by_cases hk64:k<64
      ·have c0:=u8_at HO.out k hk64
       rw [mx_get x (kb K) k (by rw [kb_len];exact hk64)] at c0
       have f0:=own_frozen HO.out k
       have hgB:=(own_block HO.out).1
       have HF:Hid ((mx x (kb K) k).set k (bits .xor .u8 ((kb K).getD k 0) x)=mx x (kb K) (k+1)):=mx_step x (kb K) k (by rw [kb_len];exact hk64)
       generalize (kb K).getD k 0=y at *
       go_wp2
       refine ⟨⟨k+1,by omega,by go_num,?_,?_⟩,by simp [intOf];omega⟩
       ·have h:=own_set (k:=k) (x:=bits .xor .u8 y x) HO.out hk64
        rw [HF.out] at h
        exact h
       ·exact HB.out.setCell hgB _
      ·have E:k=64:=by omega
       subst E
       have h:=HO.out
       rw [mx_all x (kb K) 64 (by rw [kb_len];omega)] at h
       have HF:=Lib.hid h
       clear h HO
       go_wp2
       go_ret
       exact ⟨_,rfl,HF.out,HB.out⟩
set_option maxHeartbeats 2000000 in
set_option maxRecDepth 100000 in
theorem block_long (x:Int) (K:List Int) (p:Option Addr) (n cap:Nat) (hn:K.length=n) (hk:64<n) (hkm:n≤1000000) (w:World) (hp:BAt w p K) (htk:Tab w 0) :
  Calls Tryz.prog 176 #[.slice p n cap,.int .u8 x] w (BlockSay x K w):=by
 subst hn
 obtain ⟨i0,hi,hz0,hz1,hz2⟩:=info_parts Tryz.info_u8
 have Hp:=Lib.hid hp;clear hp
 have Hk:=Lib.hid htk;clear htk
 have HKB:Hid (k64 (Sha.dg K)=kb K):=(kb_long K hk).symm
 obtain ⟨D,HD1,HD2,HD3⟩:∃ A:Array Value,Hid (A=((Sha.dg K).map (Value.int .u8)).toArray)∧Hid (A.size=32)∧Hid (A.all (·.oneCell')=true) :=
  ⟨_,rfl,by show _=_;simp [dg_len],all_oneCell_toArray (bytes_one _)⟩
 have HD32:Hid ((Sha.dg K).length=32):=dg_len K
 have hkn:64<(K.length:Int):=by omega
 go_enter Tryz.func176,Tryz.ntmps176
 go_wp2
 go_loopw [5,6] (fun v5 v6 wr=>v5 = .slice none 0 0∧v6 = .int .i64 0∧wr=w) (fun _ _ _=>0)
 case atStart=>exact ⟨rfl,rfl,rfl⟩
 case round =>
  obtain ⟨rfl,rfl,rfl⟩:=hrel
  go_upto_region 8 with (first
   | (go_at_call 168;refine (ref_of_any K p cap _ (fun g hg=>Hp.out.bytes g hg) hkm Hk.out).mono ?_;rintro e w1 ⟨rfl,hb1⟩;rw [← HD1.out];have HB1:=Lib.hid hb1;clear hb1)
   | ((with_reducible refine row_store _ _ _ _ _ _ _ ?_ ?_ (heap_alloc_new _ _) (row_size Tryz.sizeSum HD2) ?_ HD3.out ?_);(exact rfl);(exact rfl);(rw [HD2.out];rfl);intro w2 g2 ch2))
  have hs1:wr.heap.size≤w1.heap.size:=HB1.out.size
  have BW2:Hid (Below wr.heap.size wr w2):=ch2.below (HB1.out.alloc hs1 _) hs1
  have hs2:w1.heap.size<w2.heap.size:=by rw [ch2.size];simp
  have G2:Hid (w2.heap[w1.heap.size]?=some (.cells ((Sha.dg K).map (Value.int .u8)).toArray 39 (0,0))):=by
   have h:=g2.out
   rw [HD1.out] at h
   exact h
  clear g2 ch2 HB1
  have hs12:wr.heap.size≤w2.heap.size:=by omega
  generalize w1.heap.size=G1 at *
  generalize wr=w at *
  go_wp2
  go_loopw [5,8] (fun v i wr=>∃ k:Nat,k≤32∧i = .int .i64 k∧Hid (wr.ownsRow w2.heap.size 5 1 v (0+k) (U8s ([]++(Sha.dg K).take k)))∧Hid (Below w2.heap.size w2 wr)) (fun _ i _=>32-(intOf i).toNat)
  case atStart=>exact ⟨0,Nat.zero_le _,rfl,by unfold U8s;exact World.ownsRow_nil _ _ _ _,Below.refl _ _⟩
  case round =>
   obtain ⟨k,hk',rfl,HO,HB⟩:=hrel
   simp only [Nat.zero_add,List.nil_append] at HO
   by_cases hlt:k<32
   ·have c0:=row_cell ((HB.out.block _ hs2).trans G2.out) k (by rw [HD32.out];exact hlt)
    obtain ⟨y,hy⟩:∃ y,(Sha.dg K).getD k 0=y:=⟨_,rfl⟩
    rw [hy] at c0
    go_wp2_with (first
     | (at_builtin;refine wpList_append_own _ rfl _ _ 22 rfl w2.heap.size 5 i0 (.int .u8 0) 1 1 Tryz.underlying22 hi hz0 hz1 hz2 rfl (by decide) _ _ _ rfl (HO.out.alloc _) ⟨wr.heap.size,0,none⟩ 1 1 [.int .u8 y] rfl rfl (u8_cell _ _ _) (u8_one _) (by unfold maxLen;omega) (by omega) (by have:=HB.out.size;simp;omega) ?_)
     | go_in)
    intro v' w1 hown' hgrow _
    have hb1:=below_own HB.out (HB.out.size) HO.out hgrow
    rw [U8s_snoc,← hy,take_snoc (Sha.dg K) k (by rw [HD32.out];exact hlt)] at hown'
    clear hgrow HO HB
    go_wp2
    exact ⟨⟨k+1,by omega,by go_num,by show World.ownsRow _ _ _ _ _ _ _;simpa using hown',hb1⟩,by simp [intOf];omega⟩
   ·have E:k=32:=by omega
    have HO0:Hid (wr.ownsRow w.heap.size 5 1 u5 32 (U8s (Sha.dg K))):=by
     have:=HO.out
     rw [E,List.take_of_length_le (by rw [HD32.out];omega)] at this
     exact own_mono this hs12
    have HB0:Hid (Below w.heap.size w wr):=BW2.out.trans (HB.out.mono hs12)
    have hge:32≤k:=by omega
    clear hlt HO E HB
    go_wp2
    go_loopw [5] (fun v wr=>∃ z:Nat,32+z≤64∧lenOf v=32+z∧Hid (wr.ownsRow w.heap.size 5 1 v (32+z) (U8s ((Sha.dg K)++List.replicate z 0)))∧Hid (Below w.heap.size w wr)) (fun v _=>64-lenOf v)
    case atStart =>
     refine ⟨0,by omega,?_,?_,HB0.out⟩
     ·obtain ⟨p,c,rfl⟩:=own_slice HO0.out
      rfl
     ·have h:=HO0.out
      show World.ownsRow _ _ _ _ _ _ _
      simpa using h
    case round =>
     clear HO0 HB0
     obtain ⟨z,hz,hlv,HO,HB⟩:=hrel
     obtain ⟨pv,cv,hv⟩:=own_slice HO.out
     rw [hv] at HO hlv ⊢
     clear hv hlv
     by_cases hzl:32+z<64
     ·go_wp2_with (first
       | (at_builtin;refine wpList_append_own _ rfl _ _ 22 rfl w.heap.size 5 i0 (.int .u8 0) 1 1 Tryz.underlying22 hi hz0 hz1 hz2 rfl (by decide) _ _ _ rfl (HO.out.alloc _) ⟨wr.heap.size,0,none⟩ 1 1 [.int .u8 0] rfl rfl (u8_cell _ _ _) (u8_one _) (by unfold maxLen;omega) (by omega) (by have:=HB.out.size;simp;omega) ?_)
       | go_in)
      intro v' w1 hown' hgrow _
      have hb1:=below_own HB.out (HB.out.size) HO.out hgrow
      rw [U8s_snoc,List.append_assoc,rep_snoc] at hown'
      have hl':lenOf v'=32+z+1:=by
       obtain ⟨p,c,rfl⟩:=own_slice hown'
       rfl
      clear hgrow HO HB
      go_wp2
      exact ⟨⟨z+1,by omega,hl',hown',hb1⟩,by rw [hl'];simp [lenOf];omega⟩
     ·have hz64:32+z=64:=by omega
      have HO4:Hid (wr.ownsRow w.heap.size 5 1 (.slice pv (32+z) cv) 64 (U8s (mx x (kb K) 0))):=by
       have h:=HO.out
       rw [k64_rep (Sha.dg K) z (by rw [HD32.out];omega),HKB.out] at h
       rw [mx_zero]
       rw [hz64] at h ⊢
       exact h
      clear HO
      obtain ⟨g4,hp4⟩:∃ g4,pv=some ⟨g4,0,none⟩:=by
       obtain ⟨g,c,h⟩:=own_some HO4.out (by decide)
       injection h with h1 _ _
       exact ⟨g,h1⟩
      subst hp4
      have hz2':64≤32+z:=by omega
      rw [hz64] at HO4 ⊢
      go_wp2
      go_loopw [9] (fun v9 wr=>∃ k:Nat,k≤64∧v9 = .int .i64 k∧Hid (wr.ownsRow w.heap.size 5 1 (.slice (some ⟨g4,0,none⟩) 64 cv) 64 (U8s (mx x (kb K) k)))∧Hid (Below w.heap.size w wr)) (fun v9 _=>64-(intOf v9).toNat)
      case atStart=>exact ⟨0,by omega,rfl,HO4.out,HB.out⟩
      case round =>
       clear HO4 HB
       obtain ⟨k,hk,rfl,HO,HB⟩:=hrel
       by_cases hk64:k<64
       ·have c0:=u8_at HO.out k hk64
        rw [mx_get x (kb K) k (by rw [kb_len];exact hk64)] at c0
        have f0:=own_frozen HO.out k
        have hgB:=(own_block HO.out).1
        have HF:Hid ((mx x (kb K) k).set k (bits .xor .u8 ((kb K).getD k 0) x)=mx x (kb K) (k+1)):=mx_step x (kb K) k (by rw [kb_len];exact hk64)
        generalize (kb K).getD k 0=y at *
        go_wp2
        refine ⟨⟨k+1,by omega,by go_num,?_,?_⟩,by simp [intOf];omega⟩
        ·have h:=own_set (k:=k) (x:=bits .xor .u8 y x) HO.out hk64
         rw [HF.out] at h
         exact h
        ·exact HB.out.setCell hgB _
       ·have E:k=64:=by omega
        subst E
        have h:=HO.out
        rw [mx_all x (kb K) 64 (by rw [kb_len];omega)] at h
        have HF:=Lib.hid h
        clear h HO
        go_wp2
        go_ret
        exact ⟨_,rfl,HF.out,HB.out⟩
theorem block_any (x:Int) (K:List Int) (p:Option Addr) (n cap:Nat) (hn:K.length=n) (hkm:n≤1000000) (w:World) (hp:BAt w p K) (htk:Tab w 0) :
  Calls Tryz.prog 176 #[.slice p n cap,.int .u8 x] w (BlockSay x K w):=by
 by_cases h:n≤64
 ·exact block_short x K p n cap hn h w hp
 ·exact block_long x K p n cap hn (by omega) hkm w hp htk
end
section
open Go.RowKit
set_option maxHeartbeats 4000000 in
set_option maxRecDepth 100000 in
theorem ref2_of_any (K b:List Int) (p q:Option Addr) (n m c d:Nat) (hn:K.length=n) (hm':b.length=m) (hnl:n≤100000) (hml:m≤100000) (w:World) (hp:BAt w p K) (hq:BAt w q b) (htk:Tab w 0) :
  Calls Tryz.prog 141 #[.slice p n c,.slice q m d] w (HmSay K b w):=by
 subst hn
 subst hm'
 obtain ⟨i0,hi,hz0,hz1,hz2⟩:=info_parts Tryz.info_u8
 have Hp:=Lib.hid hp;clear hp
 have Hq:=Lib.hid hq;clear hq
 have Hk:=Lib.hid htk;clear htk
 have hbb:=Hq.out.1
 obtain ⟨A,HA1,HA2,HA3⟩:∃ A:Array Value,Hid (A=((hm K b).map (Value.int .u8)).toArray)∧Hid (A.size=32)∧Hid (A.all (·.oneCell')=true) :=
  ⟨_,rfl,by show _=_;simp [hm_len],all_oneCell_toArray (bytes_one _)⟩
 obtain ⟨IN,HIN⟩:∃ IN,Hid (IN=Sha.dg (xl 54 (kb K)++b)):=⟨_,rfl⟩
 have HIN32:Hid (IN.length=32):=by rw [HIN.out];exact dg_len _
 have HINB:Hid (Sha.Byt IN):=by rw [HIN.out];exact dg_byt _
 obtain ⟨IA,HIA1,HIA2,HIA3⟩:∃ A:Array Value,Hid (A=(IN.map (Value.int .u8)).toArray)∧Hid (A.size=32)∧Hid (A.all (·.oneCell')=true) :=
  ⟨_,rfl,by show _=_;simp [HIN32.out],all_oneCell_toArray (bytes_one _)⟩
 have HHM:Hid (hm K b=Sha.dg (xl 92 (kb K)++IN)):=by show _=_;rw [hm_eq,HIN.out]
 have HX1:=Lib.hid (xl_kb_len 54 K)
 have HX2:=Lib.hid (xl_kb_len 92 K)
 have HXB1:=Lib.hid (xl_byt 54 (kb K))
 have HXB2:=Lib.hid (xl_byt 92 (kb K))
 have BW0:Hid (Below w.heap.size w (w.alloc (.cells (List.replicate 32 (Value.int .u8 0)).toArray 39))):=(Below.refl _ w).alloc (Nat.le_refl _) _
 go_enter Tryz.func141,Tryz.ntmps141
 go_upto_region 2 with (go_at_call 176;refine (block_any 54 K p _ _ rfl (by omega) _ (Hp.out.old BW0.out) (Hk.out.below BW0.out Hk.out.lt)).mono ?_;rintro e w1 ⟨v1,rfl,ho1,hb1⟩;have HO1:=Lib.hid ho1;have HB1:=Lib.hid hb1;clear ho1 hb1)
 have BW1:Hid (Below w.heap.size w w1):=BW0.out.trans (HB1.out.mono (by simp))
 have hs1:w.heap.size<w1.heap.size:=by have:=HB1.out.size;simp at this;omega
 have RES1:Hid (w1.heap[w.heap.size]?=some (.cells (List.replicate 32 (Value.int .u8 0)).toArray 39 (0,0))):=by
  show _=_
  rw [HB1.out.block _ (by simp)]
  exact heap_alloc_new w _
 have HO1':Hid (w1.ownsRow (w.heap.size+1) 5 1 v1 64 (U8s (xl 54 (kb K)))):=own_mono HO1.out (by simp)
 clear HO1 HB1 BW0
 go_wp2
 go_loopw [5,6] (fun v i wr=>∃ k:Nat,k≤b.length∧i = .int .i64 k∧Hid (wr.ownsRow (w.heap.size+1) 5 1 v (64+k) (U8s (xl 54 (kb K)++b.take k)))∧Hid (Below (w.heap.size+1) w1 wr)) (fun _ i _=>b.length-(intOf i).toNat)
 case atStart=>exact ⟨0,Nat.zero_le _,rfl,by have h:=HO1'.out;show World.ownsRow _ _ _ _ _ _ _;simpa using h,Below.refl _ _⟩
 case round =>
  clear HO1'
  obtain ⟨k,hk',rfl,HO,HB⟩:=hrel
  have HBw:Hid (Below w.heap.size w wr):=BW1.out.trans (HB.out.mono (by omega))
  by_cases hlt:k<b.length
  ·obtain ⟨ab,ao,hpp,hcs⟩:=(Hq.out.old HBw.out).2 (by omega)
   subst hpp
   have c0:=hcs k hlt
   clear hcs
   obtain ⟨y,hy⟩:∃ y,b.getD k 0=y:=⟨_,rfl⟩
   rw [hy] at c0
   have hszr:w.heap.size+1≤wr.heap.size:=by have:=HB.out.size;omega
   go_wp2_with (first
    | (at_builtin;refine wpList_append_own _ rfl _ _ 22 rfl (w.heap.size+1) 5 i0 (.int .u8 0) 1 1 Tryz.underlying22 hi hz0 hz1 hz2 rfl (by decide) _ _ _ rfl (HO.out.alloc _) ⟨wr.heap.size,0,none⟩ 1 1 [.int .u8 y] rfl rfl (u8_cell _ _ _) (u8_one _) (by unfold maxLen;omega) (by omega) (by have:=HB.out.size;simp;omega) ?_)
    | go_in)
   intro v' w1 hown' hgrow _
   have hb1:=below_own HB.out hszr HO.out hgrow
   rw [U8s_snoc,← hy,List.append_assoc,take_snoc b k hlt] at hown'
   clear hgrow HO HB HBw
   go_wp2
   exact ⟨⟨k+1,by omega,by go_num,hown',hb1⟩,by simp [intOf];omega⟩
  ·have E:k=b.length:=by omega
   have HO0:Hid (wr.ownsRow (w.heap.size+1) 5 1 u5 (64+b.length) (U8s (xl 54 (kb K)++b))):=by
    have:=HO.out
    rw [E,List.take_length] at this
    exact this
   have hge:b.length≤k:=by omega
   obtain ⟨p5,c5,h5,HBA5,hc51,hc52⟩:=bat_own HO0.out (Sha.byt_append HXB1.out hbb)
   have HT5:Hid ((xl 54 (kb K)++b).length≤1000000):=by show _≤_;rw [List.length_append,HX1.out];omega
   have HBA:=Lib.hid HBA5
   have HROF:=Lib.hid (ref_of_any (xl 54 (kb K)++b) p5 c5)
   subst h5
   have RESw:Hid (wr.heap[w.heap.size]?=some (.cells (List.replicate 32 (Value.int .u8 0)).toArray 39 (0,0))):=(HB.out.block _ (by omega)).trans RES1.out
   clear hlt HO E HB HO0 HBA5 RES1 BW1
   generalize (xl 54 (kb K)++b).length=n5 at *
   generalize wr=wa at *
   go_upto_region 8 with (first
    | (go_at_call 168;refine (HROF.out _ (fun g hg=>HBA.out.bytes g hg) HT5.out (Hk.out.below HBw.out Hk.out.lt)).mono ?_;rintro e w2 ⟨rfl,hb2⟩;rw [← HIN.out,← HIA1.out];have HB2:=Lib.hid hb2;clear hb2)
    | ((with_reducible refine row_store _ _ _ _ _ _ _ ?_ ?_ (heap_alloc_new _ _) (row_size Tryz.sizeSum HIA2) ?_ HIA3.out ?_);(exact rfl);(exact rfl);(rw [HIA2.out];rfl);intro w3 g3 ch3;have BW3:Hid (Below w.heap.size w w3):=(ch3.below ((HBw.out.trans (HB2.out.mono HBw.out.size)).alloc (Nat.le_trans HBw.out.size HB2.out.size) _) (Nat.le_trans HBw.out.size HB2.out.size)))
    | (go_at_call 176;refine (block_any 92 K p _ _ rfl (by omega) _ (Hp.out.old BW3.out) (Hk.out.below BW3.out Hk.out.lt)).mono ?_;rintro e w4 ⟨v4,rfl,ho4,hb4⟩;have HO4:=Lib.hid ho4;have HB4:=Lib.hid hb4;clear ho4 hb4))
   have hwa:w.heap.size<wa.heap.size:=lt_of_block RESw.out
   have hsz2:wa.heap.size≤w2.heap.size:=HB2.out.size
   have hsz3:w2.heap.size<w3.heap.size:=by rw [ch3.size];simp
   have RES3:Hid (w3.heap[w.heap.size]?=some (.cells (List.replicate 32 (Value.int .u8 0)).toArray 39 (0,0))):=by
    show _=_
    rw [ch3.block _ (by omega),heap_alloc_old _ _ (by omega),HB2.out.block _ hwa]
    exact RESw.out
   have I3:Hid (w3.heap[w2.heap.size]?=some (.cells (IN.map (Value.int .u8)).toArray 39 (0,0))):=by
    have h:=g3.out
    rw [HIA1.out] at h
    exact h
   clear g3 ch3 HB2 RESw HBw HROF HT5 HBA
   generalize w2.heap.size=G2 at *
   go_wp2
   go_loopw [5,8] (fun v i wr=>∃ k:Nat,k≤32∧i = .int .i64 k∧Hid (wr.ownsRow w3.heap.size 5 1 v (64+k) (U8s (xl 92 (kb K)++IN.take k)))∧Hid (Below w3.heap.size w3 wr)) (fun _ i _=>32-(intOf i).toNat)
   case atStart=>exact ⟨0,Nat.zero_le _,rfl,by have h:=HO4.out;show World.ownsRow _ _ _ _ _ _ _;simpa using h,HB4.out⟩
   case round =>
    clear HO4 HB4
    obtain ⟨k,hk2,rfl,HO,HB⟩:=hrel
    by_cases hlt:k<32
    ·have c0:=row_cell ((HB.out.block _ hsz3).trans I3.out) k (by rw [HIN32.out];exact hlt)
     obtain ⟨y,hy⟩:∃ y,IN.getD k 0=y:=⟨_,rfl⟩
     rw [hy] at c0
     go_wp2_with (first
      | (at_builtin;refine wpList_append_own _ rfl _ _ 22 rfl w3.heap.size 5 i0 (.int .u8 0) 1 1 Tryz.underlying22 hi hz0 hz1 hz2 rfl (by decide) _ _ _ rfl (HO.out.alloc _) ⟨wr.heap.size,0,none⟩ 1 1 [.int .u8 y] rfl rfl (u8_cell _ _ _) (u8_one _) (by unfold maxLen;omega) (by omega) (by have:=HB.out.size;simp;omega) ?_)
      | go_in)
     intro v' w1 hown' hgrow _
     have hb1:=below_own HB.out (HB.out.size) HO.out hgrow
     rw [U8s_snoc,← hy,List.append_assoc,take_snoc IN k (by rw [HIN32.out];exact hlt)] at hown'
     clear hgrow HO HB
     go_wp2
     exact ⟨⟨k+1,by omega,by go_num,hown',hb1⟩,by simp [intOf];omega⟩
    ·have E:k=32:=by omega
     have HO0:Hid (wr.ownsRow w3.heap.size 5 1 u5 96 (U8s (xl 92 (kb K)++IN))):=by
      have:=HO.out
      rw [E,List.take_of_length_le (by rw [HIN32.out];omega)] at this
      exact this
     have hge:32≤k:=by omega
     obtain ⟨p5,c5,h5,HBA5,hc51,hc52⟩:=bat_own HO0.out (Sha.byt_append HXB2.out HINB.out)
     have HT5:Hid ((xl 92 (kb K)++IN).length≤1000000):=by show _≤_;rw [List.length_append,HX2.out,HIN32.out];omega
     have HBA:=Lib.hid HBA5
     have HROF:=Lib.hid (ref_of_any (xl 92 (kb K)++IN) p5 c5)
     subst h5
     have RESw:Hid (wr.heap[w.heap.size]?=some (.cells (List.replicate 32 (Value.int .u8 0)).toArray 39 (0,0))):=(HB.out.block _ (by omega)).trans RES3.out
     have HBw:Hid (Below w.heap.size w wr):=BW3.out.trans (HB.out.mono (by omega))
     clear hlt HO E HB HO0 HBA5 RES3 BW3 I3
     generalize (xl 92 (kb K)++IN).length=n5 at *
     go_wp2_with (first
      | (go_at_call 168;refine (HROF.out _ (fun g hg=>HBA.out.bytes g hg) HT5.out (Hk.out.below HBw.out Hk.out.lt)).mono ?_;rintro e w6 ⟨rfl,hb6⟩;rw [← HHM.out,← HA1.out];have HB6:=Lib.hid hb6;clear hb6;have RES6:Hid (w6.heap[w.heap.size]?=some (.cells (List.replicate 32 (Value.int .u8 0)).toArray 39 (0,0))):=(HB6.out.block _ (lt_of_block RESw.out)).trans RESw.out)
      | ((with_reducible refine row_store _ _ _ _ _ _ _ ?_ ?_ RES6.out (row_size Tryz.sizeSum HA2) ?_ HA3.out ?_);(exact rfl);(exact rfl);(rw [HA2.out];rfl);intro w7 G7 ch7))
     refine bodyPost_ret (results_cell_row rfl _ _ w.heap.size 39 A (0,0) _ rfl G7.out Tryz.underlying39 rfl (row_size Tryz.sizeSum HA2)) rfl ⟨?_,ch7.below (HBw.out.trans (HB6.out.mono HBw.out.size)) (Nat.le_refl _)⟩
     rw [HA1.out]
end
section
open Go.RowKit
end
section
open Go.RowKit
def bl (S:ByteArray):List Int:=S.data.toList.map fun b=>(b.toNat:Int)
theorem bl_len (S:ByteArray):(bl S).length=S.size:=by
 unfold bl
 rw [List.length_map,Array.length_toList]
 rfl
theorem bl_byt (S:ByteArray):Sha.Byt (bl S):=fun x hx=>by
 unfold bl at hx
 rw [List.mem_map] at hx
 obtain ⟨b,_,rfl⟩:=hx
 have:=b.toNat_lt
 omega
theorem conv_bat (w:World) (S:ByteArray) (c:Nat) (t:TypeId) (fr:Nat × Nat):BAt (w.alloc (.cells (bytesRow S c) t fr)) (some ⟨w.heap.size,0,none⟩) (bl S) :=
 ⟨bl_byt S,fun _=>⟨w.heap.size,0,rfl,fun j hj=>by
  have hj':j<S.data.size:=by rw [bl_len] at hj;exact hj
  rw [cell_of_row _ _ (0+j) _ _ _ (heap_alloc_new w _),Nat.zero_add,bytesRow_at S c j hj']
  congr 2
  unfold bl
  rw [List.getD_eq_getElem?_getD,List.getElem?_map,List.getElem?_eq_getElem (by simpa using hj')]
  simp⟩⟩
attribute [irreducible] bl
theorem cap_ok (w:World) (S:ByteArray) (hS:S.size≤100000):grownCap w S.size 0 5≤9223372036854775807:=by
 have h:=grownCap_le_maxLen w S.size 0 5 (by unfold maxLen;omega)
 unfold maxLen at h
 omega
set_option maxHeartbeats 1000000 in
set_option maxRecDepth 100000 in
theorem derive_any (hT:TakeSaid) (K:List Int) (S:ByteArray) (p:Option Addr) (n c:Nat) (hn:K.length=n) (hnl:n≤100000) (hS:S.size≤100000) (w:World) (hp:BAt w p K) (hc:n≤c) (hcm:c≤9223372036854775807) (ht:Tab w 1) :
  Calls Tryz.prog 44 #[.slice p n c,.string S] w (HmSay K (bl S) w):=by
 subst hn
 have Ht:=Lib.hid ht;clear ht
 have Hp:=Lib.hid hp;clear hp
 have Hc:=Lib.hid (And.intro hc hcm);clear hc hcm
 have kc:=fun w=>run_bytes_of_string (P:=Tryz.prog) w 9 22 5 S Tryz.underlying9 Tryz.underlying22 Tryz.underlying5
 obtain ⟨A,HA1,HA2,HA3⟩:∃ A:Array Value,Hid (A=((hm K (bl S)).map (Value.int .u8)).toArray)∧Hid (A.size=32)∧Hid (A.all (·.oneCell')=true) :=
  ⟨_,rfl,by show _=_;simp [hm_len],all_oneCell_toArray (bytes_one _)⟩
 have HBW:Hid (∀ C,Below w.heap.size w (((w.alloc (.cells (List.replicate 32 (Value.int .u8 0)).toArray 39)).drew).alloc C)):=fun C=>(((Below.refl _ w).alloc (Nat.le_refl _) _).drew).alloc (by show _≤(w.alloc _).heap.size;simp) C
 have HSZ:Hid (∀ C,(((w.alloc (.cells (List.replicate 32 (Value.int .u8 0)).toArray 39)).drew).alloc C).heap.size=w.heap.size+2):=fun C=>by show (Array.push _ _).size=_;rw [Array.size_push];show (w.alloc _).heap.size+1=_;simp
 have HRS:Hid (∀ C,(((w.alloc (.cells (List.replicate 32 (Value.int .u8 0)).toArray 39)).drew).alloc C).heap[w.heap.size]?=some (.cells (List.replicate 32 (Value.int .u8 0)).toArray 39 (0,0))):=fun C=>by
  rw [heap_alloc_old _ _ (by show _<(w.alloc _).heap.size;simp)]
  exact heap_alloc_new w _
 go_enter Tryz.func44,Tryz.ntmps44
 go_wp2_with (first
  | (go_at_call 91;refine (mac_of_any hT K (bl S) p (some ⟨w.heap.size+1,0,none⟩) _ _ c _ rfl (bl_len S) _ (Hp.out.old (HBW.out _)) (by have h:=conv_bat ((w.alloc (.cells (List.replicate 32 (Value.int .u8 0)).toArray 39)).drew) S;have e:((w.alloc (.cells (List.replicate 32 (Value.int .u8 0)).toArray 39)).drew).heap.size=w.heap.size+1:=(by show (w.alloc _).heap.size=_;simp);rw [e] at h;exact h _ _ _) Hc.out.1 Hc.out.2 (grownCap_ge _ _ _ _) (cap_ok _ S hS) (by omega) (by rw [bl_len];omega) (Ht.out.below (HBW.out _) Ht.out.lt)).mono ?_;rintro e w1 ⟨rfl,hb1⟩;rw [← HA1.out];have HB1:Hid (Below w.heap.size w w1):=(HBW.out _).trans (hb1.mono (by rw [HSZ.out];omega));have HR1:Hid (w1.heap[w.heap.size]?=some (.cells (List.replicate 32 (Value.int .u8 0)).toArray 39 (0,0))):=(hb1.block _ (by rw [HSZ.out];omega)).trans (HRS.out _);clear hb1)
  | ((with_reducible refine row_store _ _ _ _ _ _ _ ?_ ?_ HR1.out (row_size Tryz.sizeSum HA2) ?_ HA3.out ?_);(exact rfl);(exact rfl);(rw [HA2.out];rfl);intro w6 G6 ch6))
 refine bodyPost_ret (results_cell_row rfl _ _ w.heap.size 39 A (0,0) _ rfl G6.out Tryz.underlying39 rfl (row_size Tryz.sizeSum HA2)) rfl ⟨?_,ch6.below HB1.out (Nat.le_refl _)⟩
 rw [HA1.out]
set_option maxHeartbeats 1000000 in
set_option maxRecDepth 100000 in
theorem ref2_derive_any  (K:List Int) (S:ByteArray) (p:Option Addr) (n c:Nat) (hn:K.length=n) (hnl:n≤100000) (hS:S.size≤100000) (w:World) (hp:BAt w p K) (hc:n≤c) (hcm:c≤9223372036854775807) (ht:Tab w 0) :
  Calls Tryz.prog 94 #[.slice p n c,.string S] w (HmSay K (bl S) w):=by
 subst hn
 have Ht:=Lib.hid ht;clear ht
 have Hp:=Lib.hid hp;clear hp
 have Hc:=Lib.hid (And.intro hc hcm);clear hc hcm
 have kc:=fun w=>run_bytes_of_string (P:=Tryz.prog) w 9 22 5 S Tryz.underlying9 Tryz.underlying22 Tryz.underlying5
 obtain ⟨A,HA1,HA2,HA3⟩:∃ A:Array Value,Hid (A=((hm K (bl S)).map (Value.int .u8)).toArray)∧Hid (A.size=32)∧Hid (A.all (·.oneCell')=true) :=
  ⟨_,rfl,by show _=_;simp [hm_len],all_oneCell_toArray (bytes_one _)⟩
 have HBW:Hid (∀ C,Below w.heap.size w (((w.alloc (.cells (List.replicate 32 (Value.int .u8 0)).toArray 39)).drew).alloc C)):=fun C=>(((Below.refl _ w).alloc (Nat.le_refl _) _).drew).alloc (by show _≤(w.alloc _).heap.size;simp) C
 have HSZ:Hid (∀ C,(((w.alloc (.cells (List.replicate 32 (Value.int .u8 0)).toArray 39)).drew).alloc C).heap.size=w.heap.size+2):=fun C=>by show (Array.push _ _).size=_;rw [Array.size_push];show (w.alloc _).heap.size+1=_;simp
 have HRS:Hid (∀ C,(((w.alloc (.cells (List.replicate 32 (Value.int .u8 0)).toArray 39)).drew).alloc C).heap[w.heap.size]?=some (.cells (List.replicate 32 (Value.int .u8 0)).toArray 39 (0,0))):=fun C=>by
  rw [heap_alloc_old _ _ (by show _<(w.alloc _).heap.size;simp)]
  exact heap_alloc_new w _
 go_enter Tryz.func94,Tryz.ntmps94
 go_wp2_with (first
  | (go_at_call 141;refine (ref2_of_any K (bl S) p (some ⟨w.heap.size+1,0,none⟩) _ _ c _ rfl (bl_len S) (by omega) (by omega) _ (Hp.out.old (HBW.out _)) (by have h:=conv_bat ((w.alloc (.cells (List.replicate 32 (Value.int .u8 0)).toArray 39)).drew) S;have e:((w.alloc (.cells (List.replicate 32 (Value.int .u8 0)).toArray 39)).drew).heap.size=w.heap.size+1:=(by show (w.alloc _).heap.size=_;simp);rw [e] at h;exact h _ _ _) (Ht.out.below (HBW.out _) Ht.out.lt)).mono ?_;rintro e w1 ⟨rfl,hb1⟩;rw [← HA1.out];have HB1:Hid (Below w.heap.size w w1):=(HBW.out _).trans (hb1.mono (by rw [HSZ.out];omega));have HR1:Hid (w1.heap[w.heap.size]?=some (.cells (List.replicate 32 (Value.int .u8 0)).toArray 39 (0,0))):=(hb1.block _ (by rw [HSZ.out];omega)).trans (HRS.out _);clear hb1)
  | ((with_reducible refine row_store _ _ _ _ _ _ _ ?_ ?_ HR1.out (row_size Tryz.sizeSum HA2) ?_ HA3.out ?_);(exact rfl);(exact rfl);(rw [HA2.out];rfl);intro w6 G6 ch6))
 refine bodyPost_ret (results_cell_row rfl _ _ w.heap.size 39 A (0,0) _ rfl G6.out Tryz.underlying39 rfl (row_size Tryz.sizeSum HA2)) rfl ⟨?_,ch6.below HB1.out (Nat.le_refl _)⟩
 rw [HA1.out]
end
section
open Go.RowKit
end
section
open Go.ChangeShapes Go.WideShapes Go.RowKit
theorem Tryz.own:ownKnob Tryz.prog.godebug=none:=by kernel_rfl
theorem Tryz.laidOut:laidOutB Tryz.prog=true:=by kernel_rfl
theorem Tryz.cells5:Tryz.prog.cellsOf 5=1:=by kernel_rfl
theorem laid_kk:(Rows.laid_rill_sha_constants:DataW Unit)=Lib.tabData .u32 Sha.kk:=by
 unfold Sha.kk
 rfl
theorem laid_kr:(Rows.laid_rill_rillref01_K:DataW Unit)=Lib.tabData .u32 Sha.kk:=by
 unfold Sha.kk
 rfl
def rowLaid1:List (String × DataW Unit):=[("rill/sha.constants",Rows.laid_rill_sha_constants)]
def rowLaid2:List (String × DataW Unit):=[("rill/rillref01.K",Rows.laid_rill_rillref01_K),("rill/sha.constants",Rows.laid_rill_sha_constants)]
theorem tab_of_laid1 {W:World} (h:laidMet Tryz.prog rowLaid1 W):Tab W 1:=by
 unfold rowLaid1 at h
 rw [laid_kk] at h
 have hT:=Lib.tabIs_of_head (g:=1) (t:=249) (by kernel_rfl) (by kernel_rfl) Tryz.underlying249 Tryz.underlying152 (by kernel_rfl) (by kernel_rfl) h
 intro t ht
 have:=hT.cell (g:=1) (by kernel_rfl) t (by unfold Sha.kk;exact ht)
 unfold Sha.ki
 exact this
theorem tab_of_laid2 {W:World} (h:laidMet Tryz.prog rowLaid2 W):Tab W 1∧Tab W 0:=by
 refine ⟨tab_of_laid1 (laidMet.tail h),?_⟩
 unfold rowLaid2 at h
 rw [laid_kr] at h
 have hT:=Lib.tabIs_of_head (g:=0) (t:=249) (by kernel_rfl) (by kernel_rfl) Tryz.underlying249 Tryz.underlying152 (by kernel_rfl) (by kernel_rfl) h
 intro t ht
 have:=hT.cell (g:=0) (by kernel_rfl) t (by unfold Sha.kk;exact ht)
 unfold Sha.ki
 exact this
theorem trod_below_args {H:Type} {enc:TypeId × Value→H} {t:TypeId} {W W':World} {v:Value} {d:DataW H} {ps:List MemPlace}
  (h:DataW.Trod enc Tryz.prog W 0 (fun _=>true) true t v d ps) (hb:Below W.heap.size W W') (hlt:∀ x∈ps,x.block<W.heap.size) (hr:Tryz.prog.readableRec t=true) (hrow:t<Tryz.prog.types.size) :
  DataW.Trod enc Tryz.prog W' 0 (fun b=>decide (b<W.heap.size)) true t v d ps :=
 Below.trod Tryz.laidOut hr hrow h hb hlt
def kkCells:Obj→Obj
 | .cells _ t frozen=>.cells (Sha.kk.map fun z=>Value.int .u32 z).toArray t frozen
 | o=>o
noncomputable def laidWorld (os:Os):World :=
 { World.holding Tryz.prog os ⟨#[],#[],[]⟩ with heap:=((World.holding Tryz.prog os ⟨#[],#[],[]⟩).heap.modify 1 kkCells).modify 0 kkCells }
theorem laidWorld_met2 (os:Os) (args:Array Value):laidMet Tryz.prog rowLaid2 ((laidWorld os).forCall (fun _ _=>0) ⟨#[],args,[]⟩).memory :=
 laidMet_of_run' 8 (by kernel_rfl) (by kernel_rfl)
end
end Go.Proofs.YtnnalemboeccbaaGreatDoor

import Derived.Test.YtnnalemboeccbaaGreatDoorB1
import Derived.Test.YtnnalemboeccbaaGreatDoorA3
import Derived.BigRegion
import Derived.Deep.Cut
import Derived.StillTailTactics
import Derived.Deep.RegionHeld3
import Derived.Laws.Tables
namespace Go.Proofs.YtnnalemboeccbaaGreatDoor
section
open Go.RowKit
namespace Aes
def fw (K:List Int) (k:Nat):List Int:=(List.range k).map fun i=>be4 (K.getD (4*i) 0) (K.getD (4*i+1) 0) (K.getD (4*i+2) 0) (K.getD (4*i+3) 0)
theorem fw_len (K:List Int) (k:Nat):(fw K k).length=k:=by simp [fw]
theorem fw_succ (K:List Int) (k:Nat):fw K (k+1)=fw K k++[be4 (K.getD (4*k) 0) (K.getD (4*k+1) 0) (K.getD (4*k+2) 0) (K.getD (4*k+3) 0)]:=by simp [fw,List.range_succ]
structure Kx where
 l:List Int
 r:Int
def nt (T:List Int) (n i:Nat) (t r:Int):Int :=
 if i % n=0 then bits .xor .u32 (col T (rl 8 t) (rl 8 t) (rl 8 t) (rl 8 t)) (r*16777216)
 else if n=8∧i % 8=4 then col T t t t t else t
def kx (T K:List Int) (n:Nat):Nat→Kx
 | 0=>⟨fw K n,1⟩
 | j+1=>⟨(kx T K n j).l++[bits .xor .u32 ((kx T K n j).l.getD j 0) (nt T n (n+j) ((kx T K n j).l.getD (n+j-1) 0) (kx T K n j).r)],if (n+j) % n=0 then pr (kx T K n j).r 2 else (kx T K n j).r⟩
theorem kx_len (T K:List Int) (n j:Nat):(kx T K n j).l.length=n+j:=by
 induction j with
 | zero=>simp [kx,fw_len]
 | succ j ih=>simp [kx,ih];omega
theorem kx_r (T K:List Int) (n j:Nat):0≤(kx T K n j).r∧(kx T K n j).r≤255:=by
 induction j with
 | zero=>simp [kx]
 | succ j ih =>
  simp only [kx]
  split
  ·exact pr_byt _ _
  ·exact ih
def kws (T K:List Int):List Int:=(kx T K (K.length / 4) (3*(K.length / 4)+28)).l
def wa (m:Nat) (l:List Int):List Int:=l++List.replicate (m-l.length) 0
theorem wa_len (m:Nat) (l:List Int) (h:l.length≤m):(wa m l).length=m:=by simp [wa];omega
theorem wa_get (m:Nat) (l:List Int) (j:Nat) (h:j<l.length):(wa m l).getD j 0=l.getD j 0:=by
 unfold wa
 rw [List.getD_eq_getElem?_getD,List.getElem?_append_left h,List.getD_eq_getElem?_getD]
theorem wa_set (m:Nat) (l:List Int) (x:Int) (h:l.length<m):(wa m l).set l.length x=wa m (l++[x]):=by
 unfold wa
 rw [List.set_append_right _ _ (Nat.le_refl _),Nat.sub_self,show m-l.length=(m-(l.length+1))+1 by omega,List.replicate_succ,List.set_cons_zero,List.length_append,List.append_assoc]
 rfl
theorem wa_all (m:Nat) (l:List Int) (h:l.length=m):wa m l=l:=by unfold wa;rw [h,Nat.sub_self];simp
theorem wa_nil (m:Nat):(wa m []).map (Value.int .u32)=List.replicate m (Value.int .u32 0):=by simp [wa]
theorem fw_nil (K:List Int):fw K 0 = []:=rfl
theorem kx_zero (T K:List Int) (n:Nat):kx T K n 0 = ⟨fw K n,1⟩:=rfl
theorem kx_succ_l (T K:List Int) (n j:Nat):(kx T K n (j+1)).l=(kx T K n j).l++[bits .xor .u32 ((kx T K n j).l.getD j 0) (nt T n (n+j) ((kx T K n j).l.getD (n+j-1) 0) (kx T K n j).r)]:=rfl
theorem kx_succ_r (T K:List Int) (n j:Nat):(kx T K n (j+1)).r=if (n+j) % n=0 then pr (kx T K n j).r 2 else (kx T K n j).r:=rfl
attribute [irreducible] fw kx nt wa kws
end Aes
theorem u32_cellB {w:World} {g:Nat} {l:List Int} {t:TypeId} {fr:Nat × Nat} (h:w.heap[g]?=some (.cells (l.map (Value.int .u32)).toArray t fr)) (j:Nat) (hj:j<l.length):w.cell? ⟨g,j,none⟩=some (.int .u32 (l.getD j 0)):=by
 rw [cell_of_row w g j _ _ _ h]
 simp [List.getD_eq_getElem?_getD,hj]
theorem u32_set {w:World} {g i:Nat} {l:List Int} {x:Int} {t:TypeId} (h:w.heap[g]?=some (.cells (l.map (Value.int .u32)).toArray t (0,0))) :
  (w.setCell ⟨g,i,none⟩ (.int .u32 x)).heap[g]?=some (.cells ((l.set i x).map (Value.int .u32)).toArray t (0,0)):=by
 rw [heap_setCell_same w g i _ _ _ h]
 congr 2
 apply Array.ext'
 simp
theorem Tbl.below {w w':World} {g:Nat} {T:List Int} (h:Tbl w g T) {B:Nat} (hb:Below B w w') (hg:g<B):Tbl w' g T:=fun j hj=>by
 obtain ⟨h1,h2⟩:=h j hj
 exact ⟨(hb.cell hg).trans h1,h2⟩
def WdsSay (T K:List Int) (w:World) (e:Ending) (w':World):Prop :=
 ∃ g,e = .returned (.slice (some ⟨g,0,none⟩) (Aes.kws T K).length (Aes.kws T K).length)∧w.heap.size≤g∧Hid (w'.heap[g]?=some (.cells ((Aes.kws T K).map (Value.int .u32)).toArray 152 (0,0)))∧Below w.heap.size w w'
end
section
open Go.RowKit
set_option maxHeartbeats 4000000 in
set_option maxRecDepth 100000 in
theorem words_4 (T K:List Int) (hK:K.length=16) (c:Nat) (p:Option Addr) (cap:Nat) (hcap:16≤cap) (hcm:cap≤9223372036854775807) (w:World) (hT:Tbl w c T) (hcw:c<w.heap.size) (hp:BAt w p K) :
  Calls Tryz.prog 93 #[.pointer (some ⟨c,0,none⟩),.slice p 16 cap] w (WdsSay T K w):=by
 have HT:=Lib.hid hT;clear hT
 have Hp:=Lib.hid hp;clear hp
 have Hcw:=Lib.hid hcw;clear hcw
 obtain ⟨HW,HWL⟩:Hid (Aes.kws T K=(Aes.kx T K 4 40).l)∧Hid ((Aes.kws T K).length=44):=by
  have e:K.length / 4=4:=by omega
  refine ⟨?_,?_⟩
  ·show _=_;rw [Aes.kws,e]
  ·show _=_;rw [Aes.kws,e,Aes.kx_len]
 have HK:=Lib.hid hK;clear hK
 go_enter Tryz.func93,Tryz.ntmps93
 go_upto_region 4 with ((with_reducible refine make_at _ 152 _ _ (.int .u32 0) 4 44 44 ?_ ?_ ?_ ?_ rfl ?_ ?_ ?_ ?_);(exact rfl);(exact rfl);(exact Tryz.underlying150);(exact Tryz.info_u32);omega;omega;omega;intro w1 G1 hb1 hs1)
 have G0:Hid (w1.heap[w.heap.size]?=some (.cells ((Aes.wa 44 (Aes.fw K 0)).map (Value.int .u32)).toArray 152 (0,0))):=by
  show _=_;rw [Aes.fw_nil,Aes.wa_nil];exact G1.out
 have HB1:=Lib.hid hb1;clear hb1 G1 hs1
 go_wp2
 go_loopw [22] (fun v wr=>∃ k:Nat,k≤4∧v = .int .i64 k∧Hid (wr.heap[w.heap.size]?=some (.cells ((Aes.wa 44 (Aes.fw K k)).map (Value.int .u32)).toArray 152 (0,0)))∧Hid (Below w.heap.size w wr)) (fun v _=>4-(intOf v).toNat)
 case atStart=>exact ⟨0,by omega,rfl,G0.out,HB1.out⟩
 case round =>
  clear G0 HB1
  obtain ⟨k,hk,rfl,HG,HB⟩:=hrel
  by_cases hlt:k<4
  ·obtain ⟨ab,ao,hpp,hcs⟩:=(Hp.out.old HB.out).2 (by have:=HK.out;omega)
   subst hpp
   have HC:=Lib.hid hcs;clear hcs
   have HKB:Hid (∀ i,0≤K.getD i 0∧K.getD i 0≤255):=fun i=>Sha.byt_getD Hp.out.1 i
   have hki:(k:Int)<4:=by omega
   go_wp2_with (go_at_call 138;refine (word_any (K.getD (4*k) 0) (K.getD (4*k+1) 0) (K.getD (4*k+2) 0) (K.getD (4*k+3) 0) ab (ao+4*k) _ _ _ (by omega) (HC.out (4*k) (by have:=HK.out;omega)) (HC.out (4*k+1) (by have:=HK.out;omega)) (HC.out (4*k+2) (by have:=HK.out;omega)) (HC.out (4*k+3) (by have:=HK.out;omega)) (HKB.out _) (HKB.out _) (HKB.out _) (HKB.out _)).mono ?_;rintro e w2 ⟨rfl,q,hw2⟩;have HG2:Hid (w2.heap[w.heap.size]?=some (.cells ((Aes.wa 44 (Aes.fw K k)).map (Value.int .u32)).toArray 152 (0,0))):=(by rw [hw2];exact HG.out);have HB2:Hid (Below w.heap.size w w2):=(by rw [hw2];exact below_dn HB.out q);clear hw2;have cy:=u32_cellB HG2.out k (by rw [Aes.wa_len _ _ (by rw [Aes.fw_len];omega)];omega);have fy:=frozen_of_row w2 w.heap.size k _ _ HG2.out)
   refine ⟨⟨k+1,by omega,by go_num,?_,?_⟩,by simp [intOf];omega⟩
   ·have h:=u32_set (i:=k) (x:=Aes.be4 (K.getD (4*k) 0) (K.getD (4*k+1) 0) (K.getD (4*k+2) 0) (K.getD (4*k+3) 0)) HG2.out
    have e:=Aes.wa_set 44 (Aes.fw K k) (Aes.be4 (K.getD (4*k) 0) (K.getD (4*k+1) 0) (K.getD (4*k+2) 0) (K.getD (4*k+3) 0)) (by rw [Aes.fw_len];omega)
    rw [Aes.fw_len,← Aes.fw_succ] at e
    rw [e] at h
    exact h
   ·exact HB2.out.setCell (by simp) _
  ·have E:k=4:=by omega
   have hge:4≤k:=by omega
   have G0:Hid (wr.heap[w.heap.size]?=some (.cells ((Aes.wa 44 (Aes.kx T K 4 0).l).map (Value.int .u32)).toArray 152 (0,0))):=by
    have h:=HG.out
    rw [E] at h
    show _=_
    rw [Aes.kx_zero]
    exact h
   clear E hlt HG
   go_wp2
   go_loopw [9,10] (fun vr vi wr=>∃ (j:Nat) (r:Int),j≤40∧vi = .int .i64 ((j:Int)+4)∧vr = .int .u8 r∧Hid (r=(Aes.kx T K 4 j).r)∧Hid (wr.heap[w.heap.size]?=some (.cells ((Aes.wa 44 (Aes.kx T K 4 j).l).map (Value.int .u32)).toArray 152 (0,0)))∧Hid (Below w.heap.size w wr)) (fun _ vi _=>44-(intOf vi).toNat)
   case atStart=>exact ⟨0,1,by omega,by simp,rfl,(by show _=_;rw [Aes.kx_zero]),G0.out,HB.out⟩
   case round =>
    clear G0 HB hge
    obtain ⟨j,r,hj,rfl,rfl,HR,HG,HB⟩:=hrel
    by_cases hlt:j<40
    ·have hr:=Aes.kx_r T K 4 j
     rw [← HR.out] at hr
     obtain ⟨hr0,hr1⟩:=hr
     have hlen:=Aes.kx_len T K 4 j
     have ct:=u32_cellB HG.out (j+3) (by rw [Aes.wa_len _ _ (by omega)];omega)
     have cl:=u32_cellB HG.out j (by rw [Aes.wa_len _ _ (by omega)];omega)
     rw [Aes.wa_get _ _ _ (by omega)] at ct cl
     have HN:Hid ((Aes.kx T K 4 (j+1)).l=(Aes.kx T K 4 j).l++[bits .xor .u32 ((Aes.kx T K 4 j).l.getD j 0) (Aes.nt T 4 (4+j) ((Aes.kx T K 4 j).l.getD (j+3) 0) r)]):=by
      show _=_
      rw [Aes.kx_succ_l,← HR.out,show 4+j-1=j+3 by omega]
     have HRN:Hid ((Aes.kx T K 4 (j+1)).r=if (4+j) % 4=0 then Aes.pr r 2 else r):=by
      show _=_
      rw [Aes.kx_succ_r,← HR.out]
     have HSET:Hid (∀ x,(Aes.wa 44 (Aes.kx T K 4 j).l).set (j+4) x=Aes.wa 44 ((Aes.kx T K 4 j).l++[x])):=fun x=>by
      have h:=Aes.wa_set 44 (Aes.kx T K 4 j).l x (by omega)
      rw [hlen,Nat.add_comm 4 j] at h
      exact h
     have HLT:Hid ((Aes.wa 44 (Aes.kx T K 4 j).l).length=44):=Aes.wa_len _ _ (by omega)
     clear HR hlen
     have HTB:Hid (Tbl wr c T):=HT.out.below HB.out Hcw.out
     generalize (Aes.kx T K 4 j).l.getD (j+3) 0=t0 at *
     generalize (Aes.kx T K 4 j).l.getD j 0=l0 at *
     by_cases h0:(4+j) % 4=0
     ·have HNT:Hid (Aes.nt T 4 (4+j) t0 r=bits .xor .u32 (Aes.col T (Aes.rl 8 t0) (Aes.rl 8 t0) (Aes.rl 8 t0) (Aes.rl 8 t0)) (r*16777216)):=by show _=_;rw [Aes.nt,if_pos h0]
      have hi:((j:Int)+4) % 4=0:=by omega
      have hi2:(j:Int) % 4=0:=by omega
      rw [HNT.out] at HN
      have HRN2:Hid (Aes.pr r 2=(Aes.kx T K 4 (j+1)).r):=by have h:=HRN.out;rw [if_pos h0] at h;exact h.symm
      clear HNT HRN h0
      go_wp2_with (first
       | (go_at_call 139;refine (rol_any _ _ (by omega) _).mono ?_;rintro e w2 ⟨rfl,rfl⟩)
       | (go_at_call 137;refine (product_any _ _ (by omega) (by omega) _).mono ?_;rintro e w2 ⟨rfl,rfl⟩)
       | (go_at_call 140;refine (column_any T c _ _ _ _ _ HTB.out).mono ?_;rintro e w2 ⟨rfl,q,hw2⟩;have HG2:Hid (w2.heap[w.heap.size]?=some (.cells ((Aes.wa 44 (Aes.kx T K 4 j).l).map (Value.int .u32)).toArray 152 (0,0))):=(by rw [hw2];exact HG.out);have HB2:Hid (Below w.heap.size w w2):=(by rw [hw2];exact below_dn HB.out q);have cl2:w2.cell? ⟨w.heap.size,j,none⟩=some (.int .u32 l0):=(by rw [hw2];exact cl);clear hw2;have cy:=u32_cellB HG2.out (j+4) (by rw [HLT.out];omega);have fy:=frozen_of_row w2 w.heap.size (j+4) _ _ HG2.out))
      refine ⟨⟨j+1,_,by omega,by go_num,rfl,HRN2,?_,?_⟩,by simp [intOf];omega⟩
      ·have h:=u32_set (i:=j+4) (x:=bits .xor .u32 l0 (bits .xor .u32 (Aes.col T (Aes.rl 8 t0) (Aes.rl 8 t0) (Aes.rl 8 t0) (Aes.rl 8 t0)) (r*16777216))) HG2.out
       rw [HSET.out,← HN.out] at h
       exact h
      ·exact HB2.out.setCell (by simp) _
     ·have HRN2:Hid (r=(Aes.kx T K 4 (j+1)).r):=by have h:=HRN.out;rw [if_neg h0] at h;exact h.symm
      have HNT:Hid (Aes.nt T 4 (4+j) t0 r=t0):=by show _=_;rw [Aes.nt,if_neg h0,if_neg (by omega)]
      have hi:¬ ((j:Int)+4) % 4=0:=by omega
      have hi2:¬ (j:Int) % 4=0:=by omega
      rw [HNT.out] at HN
      clear HNT HRN h0
      have cy:=u32_cellB HG.out (j+4) (by rw [HLT.out];omega)
      have fy:=frozen_of_row wr w.heap.size (j+4) _ _ HG.out
      go_wp2
      refine ⟨⟨j+1,_,by omega,by go_num,rfl,HRN2,?_,?_⟩,by simp [intOf];omega⟩
      ·have h:=u32_set (i:=j+4) (x:=bits .xor .u32 l0 t0) HG.out
       rw [HSET.out,← HN.out] at h
       exact h
      ·exact HB.out.setCell (by simp) _
    ·have E:j=40:=by omega
     have hge:40≤j:=by omega
     have HF:Hid (wr.heap[w.heap.size]?=some (.cells ((Aes.kws T K).map (Value.int .u32)).toArray 152 (0,0))):=by
      have h:=HG.out
      rw [E,Aes.wa_all _ _ (by rw [Aes.kx_len]),← HW.out] at h
      exact h
     clear E hlt HG
     go_wp2
     go_ret
     exact ⟨w.heap.size,by rw [HWL.out];rfl,Nat.le_refl _,HF,HB.out⟩
end
section
open Go.RowKit
theorem Tryz.size_st:(Tryz.prog.info? 154).map (·.size)=some 4:=by kernel_rfl
theorem one4 (k:IntKind) (a b c d:Int):(#[Value.int k a,.int k b,.int k c,.int k d]:Array Value).all (·.oneCell')=true:=by
 refine Array.all_eq_true_iff_forall_mem.2 (fun v hv=>?_)
 simp at hv
 rcases hv with rfl | rfl | rfl | rfl<;>rfl
def St4 (a b c d:Int):Value:=.agg #[.int .u32 a,.int .u32 b,.int .u32 c,.int .u32 d]
def StSay (a b c d:Int) (w:World) (e:Ending) (w':World):Prop:=e = .returned (St4 a b c d)∧Below w.heap.size w w'
set_option maxHeartbeats 1000000 in
set_option maxRecDepth 100000 in
theorem laid_any (a b c d k0 k1 k2 k3:Int) (w:World) :
  Calls Tryz.prog 255 #[St4 a b c d,St4 k0 k1 k2 k3] w (StSay (bits .xor .u32 a k0) (bits .xor .u32 b k1) (bits .xor .u32 c k2) (bits .xor .u32 d k3) w):=by
 unfold St4
 go_enter Tryz.func255,Tryz.ntmps255
 go_wp2
 refine bodyPost_ret (results_cell_row rfl _ _ (w.heap.size+1+1) 154 _ (0,0) _ rfl (heap3_2 w _ _ _) Tryz.underlying154 rfl Tryz.size_st) rfl ⟨rfl,?_⟩
 exact (((Below.refl _ w).alloc (Nat.le_refl _) _).alloc (by simp) _).alloc (by simp;omega) _
set_option maxHeartbeats 1000000 in
set_option maxRecDepth 100000 in
theorem mixed_any (a b c d:Int) (w:World) :
  Calls Tryz.prog 257 #[St4 a b c d] w (StSay (Aes.mixw a) (Aes.mixw b) (Aes.mixw c) (Aes.mixw d) w):=by
 unfold St4
 go_enter Tryz.func257,Tryz.ntmps257
 go_upto_region 1 with fail
 have HA:Hid (((w.alloc (.cells #[.int .u32 a,.int .u32 b,.int .u32 c,.int .u32 d] 154)).alloc (.cells #[.int .u32 0,.int .u32 0,.int .u32 0,.int .u32 0] 154)).heap[w.heap.size]?=some (.cells #[.int .u32 a,.int .u32 b,.int .u32 c,.int .u32 d] 154 (0,0))):=heap_alloc2_old w _ _
 have HZ:Hid (((w.alloc (.cells #[.int .u32 a,.int .u32 b,.int .u32 c,.int .u32 d] 154)).alloc (.cells #[.int .u32 0,.int .u32 0,.int .u32 0,.int .u32 0] 154)).heap[w.heap.size+1]?=some (.cells #[.int .u32 0,.int .u32 0,.int .u32 0,.int .u32 0] 154 (0,0))):=heap_alloc2_new w _ _
 have HB:Hid (Below w.heap.size w ((w.alloc (.cells #[.int .u32 a,.int .u32 b,.int .u32 c,.int .u32 d] 154)).alloc (.cells #[.int .u32 0,.int .u32 0,.int .u32 0,.int .u32 0] 154))):=((Below.refl _ w).alloc (Nat.le_refl _) _).alloc (by simp) _
 generalize (w.alloc (.cells #[.int .u32 a,.int .u32 b,.int .u32 c,.int .u32 d] 154)).alloc (.cells #[.int .u32 0,.int .u32 0,.int .u32 0,.int .u32 0] 154)=w1 at *
 have c0:w1.cell? ⟨w.heap.size,0,none⟩=some (.int .u32 a):=by rw [cell_of_row w1 w.heap.size 0 _ _ _ HA.out];rfl
 have c1:w1.cell? ⟨w.heap.size,1,none⟩=some (.int .u32 b):=by rw [cell_of_row w1 w.heap.size 1 _ _ _ HA.out];rfl
 have c2:w1.cell? ⟨w.heap.size,2,none⟩=some (.int .u32 c):=by rw [cell_of_row w1 w.heap.size 2 _ _ _ HA.out];rfl
 have c3:w1.cell? ⟨w.heap.size,3,none⟩=some (.int .u32 d):=by rw [cell_of_row w1 w.heap.size 3 _ _ _ HA.out];rfl
 go_still_tail 13,(by kernel_rfl)
 still_call (mix_any _ _)
 repeat still_step
 still_call (mix_any _ _)
 repeat still_step
 still_call (mix_any _ _)
 repeat still_step
 still_call (mix_any _ _)
 repeat still_step
 refine wpStill_nil ?_
 change wpList _ _ _ _ _ w1.drew
 have HZ2:Hid (w1.drew.heap[w.heap.size+1]?=some (.cells #[.int .u32 0,.int .u32 0,.int .u32 0,.int .u32 0] 154 (0,0))):=HZ.out
 have HB2:Hid (Below w.heap.size w w1.drew):=HB.out.drew
 generalize w1.drew=w2 at *
 clear HZ HA HB c0 c1 c2 c3
 go_wp2_with ((with_reducible refine row_store _ _ _ _ _ _ #[.int .u32 (Aes.mixw a),.int .u32 (Aes.mixw b),.int .u32 (Aes.mixw c),.int .u32 (Aes.mixw d)] ?_ ?_ HZ2.out ?_ ?_ ?_ ?_);(exact rfl);(exact rfl);(exact Tryz.size_st);(exact rfl);(exact one4 _ _ _ _ _);intro w3 G3 ch3)
 exact bodyPost_ret (results_cell_row rfl _ _ (w.heap.size+1) 154 _ (0,0) _ rfl G3.out Tryz.underlying154 rfl Tryz.size_st) rfl ⟨rfl,ch3.below HB2.out (by omega)⟩
end
section
open Go.RowKit
theorem set4 {w:World} {g:Nat} {t:TypeId} {z0 z1 z2 z3:Value} (a b c d:Int) (h:w.heap[g]?=some (.cells #[z0,z1,z2,z3] t (0,0))) :
  ((((w.setCell ⟨g,0,none⟩ (.int .u32 a)).setCell ⟨g,1,none⟩ (.int .u32 b)).setCell ⟨g,2,none⟩ (.int .u32 c)).setCell ⟨g,3,none⟩ (.int .u32 d)).heap[g]?=some (.cells #[.int .u32 a,.int .u32 b,.int .u32 c,.int .u32 d] t (0,0)):=by
 have h1:=heap_setCell_same w g 0 _ _ (.int .u32 a) h
 have h2:=heap_setCell_same _ g 1 _ _ (.int .u32 b) h1
 have h3:=heap_setCell_same _ g 2 _ _ (.int .u32 c) h2
 have h4:=heap_setCell_same _ g 3 _ _ (.int .u32 d) h3
 rw [h4]
 rfl
theorem below4 {B:Nat} {w w':World} {g:Nat} (a b c d:Int) (h:Below B w w') (hg:B≤g) :
  Below B w ((((w'.setCell ⟨g,0,none⟩ (.int .u32 a)).setCell ⟨g,1,none⟩ (.int .u32 b)).setCell ⟨g,2,none⟩ (.int .u32 c)).setCell ⟨g,3,none⟩ (.int .u32 d)) :=
 (((h.setCell hg _).setCell hg _).setCell hg _).setCell hg _
set_option maxHeartbeats 4000000 in
set_option maxRecDepth 100000 in
theorem moved_any (T:List Int) (g:Nat) (a b c d:Int) (w:World) (hT:Tbl w g T) (hg:g<w.heap.size) :
  Calls Tryz.prog 258 #[.pointer (some ⟨g,0,none⟩),St4 a b c d] w (StSay (Aes.col T a b c d) (Aes.col T b c d a) (Aes.col T c d a b) (Aes.col T d a b c) w):=by
 unfold St4
 have HT:=Lib.hid hT;clear hT
 have Hg:=Lib.hid hg;clear hg
 go_enter Tryz.func258,Tryz.ntmps258
 go_upto_region 1 with fail
 have HA:Hid (((w.alloc (.cells #[.int .u32 a,.int .u32 b,.int .u32 c,.int .u32 d] 154)).alloc (.cells #[.int .u32 0,.int .u32 0,.int .u32 0,.int .u32 0] 154)).heap[w.heap.size]?=some (.cells #[.int .u32 a,.int .u32 b,.int .u32 c,.int .u32 d] 154 (0,0))):=heap_alloc2_old w _ _
 have HZ:Hid (((w.alloc (.cells #[.int .u32 a,.int .u32 b,.int .u32 c,.int .u32 d] 154)).alloc (.cells #[.int .u32 0,.int .u32 0,.int .u32 0,.int .u32 0] 154)).heap[w.heap.size+1]?=some (.cells #[.int .u32 0,.int .u32 0,.int .u32 0,.int .u32 0] 154 (0,0))):=heap_alloc2_new w _ _
 have HB:Hid (Below w.heap.size w ((w.alloc (.cells #[.int .u32 a,.int .u32 b,.int .u32 c,.int .u32 d] 154)).alloc (.cells #[.int .u32 0,.int .u32 0,.int .u32 0,.int .u32 0] 154))):=((Below.refl _ w).alloc (Nat.le_refl _) _).alloc (by simp) _
 have HS1:Hid (w.heap.size+1<((w.alloc (.cells #[.int .u32 a,.int .u32 b,.int .u32 c,.int .u32 d] 154)).alloc (.cells #[.int .u32 0,.int .u32 0,.int .u32 0,.int .u32 0] 154)).heap.size):=lt_of_block HZ.out
 generalize (w.alloc (.cells #[.int .u32 a,.int .u32 b,.int .u32 c,.int .u32 d] 154)).alloc (.cells #[.int .u32 0,.int .u32 0,.int .u32 0,.int .u32 0] 154)=w1 at *
 have HA2:Hid (∀ x,Below w1.heap.size w1 x→x.heap[w.heap.size]?=some (.cells #[.int .u32 a,.int .u32 b,.int .u32 c,.int .u32 d] 154 (0,0))):=fun x hx=>(hx.block _ (by have:=HS1.out;omega)).trans HA.out
 have HS:Hid (∀ x:World,x.heap[w.heap.size]?=some (.cells #[.int .u32 a,.int .u32 b,.int .u32 c,.int .u32 d] 154 (0,0))→x.cell? ⟨w.heap.size,0,none⟩=some (.int .u32 a)∧x.cell? ⟨w.heap.size,1,none⟩=some (.int .u32 b)∧x.cell? ⟨w.heap.size,2,none⟩=some (.int .u32 c)∧x.cell? ⟨w.heap.size,3,none⟩=some (.int .u32 d)):=fun x hA =>
  ⟨by rw [cell_of_row x w.heap.size 0 _ _ _ hA];rfl,by rw [cell_of_row x w.heap.size 1 _ _ _ hA];rfl,by rw [cell_of_row x w.heap.size 2 _ _ _ hA];rfl,by rw [cell_of_row x w.heap.size 3 _ _ _ hA];rfl⟩
 have HTB:Hid (∀ x,Below w1.heap.size w1 x→Tbl x g T):=fun x hx=>(HT.out.below HB.out Hg.out).below hx (by have:=HS1.out;have:=Hg.out;omega)
 have HZB:Hid (∀ x,Below w1.heap.size w1 x→x.heap[w.heap.size+1]?=some (.cells #[.int .u32 0,.int .u32 0,.int .u32 0,.int .u32 0] 154 (0,0))):=fun x hx=>(hx.block _ HS1.out).trans HZ.out
 have HZC:Hid (∀ x,Below w1.heap.size w1 x→x.cell? ⟨w.heap.size+1,0,none⟩=some (.int .u32 0)∧x.cell? ⟨w.heap.size+1,1,none⟩=some (.int .u32 0)∧x.cell? ⟨w.heap.size+1,2,none⟩=some (.int .u32 0)∧x.cell? ⟨w.heap.size+1,3,none⟩=some (.int .u32 0)):=fun x hx =>
  ⟨by rw [cell_of_row x (w.heap.size+1) 0 _ _ _ (HZB.out x hx)];rfl,by rw [cell_of_row x (w.heap.size+1) 1 _ _ _ (HZB.out x hx)];rfl,by rw [cell_of_row x (w.heap.size+1) 2 _ _ _ (HZB.out x hx)];rfl,by rw [cell_of_row x (w.heap.size+1) 3 _ _ _ (HZB.out x hx)];rfl⟩
 have HZF:Hid (∀ x,Below w1.heap.size w1 x→∀ j,x.frozen? ⟨w.heap.size+1,j,none⟩=false):=fun x hx j=>frozen_of_row x (w.heap.size+1) j _ _ (HZB.out x hx)
 have HR:=Lib.hid (Below.refl w1.heap.size w1)
 clear HA HZ
 go_region_held3 (fun x:World=>x.cell? ⟨w.heap.size,0,none⟩=some (.int .u32 a)∧x.cell? ⟨w.heap.size,1,none⟩=some (.int .u32 b)∧x.cell? ⟨w.heap.size,2,none⟩=some (.int .u32 c)∧x.cell? ⟨w.heap.size,3,none⟩=some (.int .u32 d))
  (first | exact HS.out _ (HA2.out _ HR.out.drew) | exact HS.out _ (HA2.out _ (by assumption)) | (refine HS.out _ ?_;rw [heap_setCell_other _ _ _ _ (by simp),heap_setCell_other _ _ _ _ (by simp),heap_setCell_other _ _ _ _ (by simp),heap_setCell_other _ _ _ _ (by simp)];exact HA2.out _ (by assumption)))
  ((first
   | (go_at_call 140;refine (column_any T g _ _ _ _ _ (by first | exact HTB.out _ HR.out.drew | exact HTB.out _ (by assumption))).mono ?_;rintro e w2 ⟨rfl,q,hw2⟩;have hb2:Below w1.heap.size w1 w2:=(by rw [hw2];exact below_dn (by first | exact HR.out.drew | assumption) q);clear hw2;obtain ⟨z0,z1,z2,z3⟩:=HZC.out w2 hb2;have y0:=HZF.out w2 hb2 0;have y1:=HZF.out w2 hb2 1;have y2:=HZF.out w2 hb2 2;have y3:=HZF.out w2 hb2 3)))
 have F:=set4 (Aes.col T a b c d) (Aes.col T b c d a) (Aes.col T c d a b) (Aes.col T d a b c) (HZB.out w2 hb2)
 have HB2:Below w.heap.size w w2:=HB.out.trans (hb2.mono HB.out.size)
 have HB3:=Lib.hid (below4 (Aes.col T a b c d) (Aes.col T b c d a) (Aes.col T c d a b) (Aes.col T d a b c) HB2 (show w.heap.size≤w.heap.size+1 by omega))
 clear HB2 z0 z1 z2 z3 y0 y1 y2 y3
 generalize (((w2.setCell ⟨w.heap.size+1,0,none⟩ (.int .u32 (Aes.col T a b c d))).setCell ⟨w.heap.size+1,1,none⟩ (.int .u32 (Aes.col T b c d a))).setCell ⟨w.heap.size+1,2,none⟩ (.int .u32 (Aes.col T c d a b))).setCell ⟨w.heap.size+1,3,none⟩ (.int .u32 (Aes.col T d a b c))=w3 at *
 go_wp2
 exact bodyPost_ret (results_cell_row rfl _ _ (w.heap.size+1) 154 _ (0,0) _ rfl F Tryz.underlying154 rfl Tryz.size_st) rfl ⟨rfl,HB3.out⟩
end
section
open Go.RowKit
def Bk (l:List Int):Value:=.agg (l.map (Value.int .u8)).toArray
def Aes.wk (l:List Int) (o:Nat):Int:=Aes.be4 (l.getD o 0) (l.getD (o+1) 0) (l.getD (o+2) 0) (l.getD (o+3) 0)
set_option maxHeartbeats 4000000 in
set_option maxRecDepth 100000 in
theorem tostate_any (l:List Int) (hl:l.length=16) (hb:Sha.Byt l) (w:World) :
  Calls Tryz.prog 256 #[Bk l] w (StSay (Aes.wk l 0) (Aes.wk l 4) (Aes.wk l 8) (Aes.wk l 12) w):=by
 unfold Bk
 have Hl:=Lib.hid hl;clear hl
 have Hb:=Lib.hid hb;clear hb
 obtain ⟨A,HA0⟩:∃ A,Hid (A=(l.map (Value.int .u8)).toArray):=⟨_,rfl⟩
 rw [← HA0.out]
 go_enter Tryz.func256,Tryz.ntmps256
 go_upto_region 1 with fail
 have HA:Hid (((w.alloc (.cells A 246)).alloc (.cells #[.int .u32 0,.int .u32 0,.int .u32 0,.int .u32 0] 154)).heap[w.heap.size]?=some (.cells A 246 (0,0))):=heap_alloc2_old w _ _
 have HZ:Hid (((w.alloc (.cells A 246)).alloc (.cells #[.int .u32 0,.int .u32 0,.int .u32 0,.int .u32 0] 154)).heap[w.heap.size+1]?=some (.cells #[.int .u32 0,.int .u32 0,.int .u32 0,.int .u32 0] 154 (0,0))):=heap_alloc2_new w _ _
 have HB:Hid (Below w.heap.size w ((w.alloc (.cells A 246)).alloc (.cells #[.int .u32 0,.int .u32 0,.int .u32 0,.int .u32 0] 154))):=((Below.refl _ w).alloc (Nat.le_refl _) _).alloc (by simp) _
 have HS1:Hid (w.heap.size+1<((w.alloc (.cells A 246)).alloc (.cells #[.int .u32 0,.int .u32 0,.int .u32 0,.int .u32 0] 154)).heap.size):=lt_of_block HZ.out
 generalize (w.alloc (.cells A 246)).alloc (.cells #[.int .u32 0,.int .u32 0,.int .u32 0,.int .u32 0] 154)=w1 at *
 have HA2:Hid (∀ x,Below w1.heap.size w1 x→∀ j,j<16→x.cell? ⟨w.heap.size,j,none⟩=some (.int .u8 (l.getD j 0))):=fun x hx j hj=>by
  have h:=(hx.block w.heap.size (by have:=HS1.out;omega)).trans HA.out
  rw [HA0.out] at h
  exact u8_cellB h j (by rw [Hl.out];exact hj)
 have HZB:Hid (∀ x,Below w1.heap.size w1 x→x.heap[w.heap.size+1]?=some (.cells #[.int .u32 0,.int .u32 0,.int .u32 0,.int .u32 0] 154 (0,0))):=fun x hx=>(hx.block _ HS1.out).trans HZ.out
 have HZC:Hid (∀ x,Below w1.heap.size w1 x→x.cell? ⟨w.heap.size+1,0,none⟩=some (.int .u32 0)∧x.cell? ⟨w.heap.size+1,1,none⟩=some (.int .u32 0)∧x.cell? ⟨w.heap.size+1,2,none⟩=some (.int .u32 0)∧x.cell? ⟨w.heap.size+1,3,none⟩=some (.int .u32 0)):=fun x hx =>
  ⟨by rw [cell_of_row x (w.heap.size+1) 0 _ _ _ (HZB.out x hx)];rfl,by rw [cell_of_row x (w.heap.size+1) 1 _ _ _ (HZB.out x hx)];rfl,by rw [cell_of_row x (w.heap.size+1) 2 _ _ _ (HZB.out x hx)];rfl,by rw [cell_of_row x (w.heap.size+1) 3 _ _ _ (HZB.out x hx)];rfl⟩
 have HZF:Hid (∀ x,Below w1.heap.size w1 x→∀ j,x.frozen? ⟨w.heap.size+1,j,none⟩=false):=fun x hx j=>frozen_of_row x (w.heap.size+1) j _ _ (HZB.out x hx)
 have HR:=Lib.hid (Below.refl w1.heap.size w1)
 have HBY:Hid (∀ j,0≤l.getD j 0∧l.getD j 0≤255):=fun j=>Sha.byt_getD Hb.out j
 have HW:Hid (∀ (o n c:Nat) (x:World),Below w1.heap.size w1 x→4≤n→o<13→Calls Tryz.prog 138 #[.slice (some ⟨w.heap.size,o,none⟩) n c] x fun e w'=>e = .returned (.int .u32 (Aes.wk l o))∧∃ m,w'=x.drewN m):=fun o n c x hx hn hk=>by
  unfold Aes.wk
  exact word_any _ _ _ _ w.heap.size o n c x hn (HA2.out x hx _ (by omega)) (HA2.out x hx _ (by omega)) (HA2.out x hx _ (by omega)) (HA2.out x hx _ (by omega)) (HBY.out _) (HBY.out _) (HBY.out _) (HBY.out _)
 clear HA HZ HA2 HBY
 go_region_held3 (fun _:World=>True)
  (trivial)
  ((first
   | (go_at_call 138;refine (HW.out _ _ _ _ (by first | exact HR.out.drew | assumption) (by omega) (by omega)).mono ?_;rintro e w2 ⟨rfl,q,hw2⟩;have hb2:Below w1.heap.size w1 w2:=(by rw [hw2];exact below_dn (by first | exact HR.out.drew | assumption) q);clear hw2;obtain ⟨z0,z1,z2,z3⟩:=HZC.out w2 hb2;have y0:=HZF.out w2 hb2 0;have y1:=HZF.out w2 hb2 1;have y2:=HZF.out w2 hb2 2;have y3:=HZF.out w2 hb2 3)))
 have F:=set4 (Aes.wk l 0) (Aes.wk l 4) (Aes.wk l 8) (Aes.wk l 12) (HZB.out w2 hb2)
 have HB2:Below w.heap.size w w2:=HB.out.trans (hb2.mono HB.out.size)
 have HB3:=Lib.hid (below4 (Aes.wk l 0) (Aes.wk l 4) (Aes.wk l 8) (Aes.wk l 12) HB2 (show w.heap.size≤w.heap.size+1 by omega))
 clear HB2 z0 z1 z2 z3 y0 y1 y2 y3
 generalize (((w2.setCell ⟨w.heap.size+1,0,none⟩ (.int .u32 (Aes.wk l 0))).setCell ⟨w.heap.size+1,1,none⟩ (.int .u32 (Aes.wk l 4))).setCell ⟨w.heap.size+1,2,none⟩ (.int .u32 (Aes.wk l 8))).setCell ⟨w.heap.size+1,3,none⟩ (.int .u32 (Aes.wk l 12))=w3 at *
 go_wp2
 exact bodyPost_ret (results_cell_row rfl _ _ (w.heap.size+1) 154 _ (0,0) _ rfl F Tryz.underlying154 rfl Tryz.size_st) rfl ⟨rfl,HB3.out⟩
def Aes.ob (x:Int):List Int:=[x / 16777216 % 256,x / 65536 % 256,x / 256 % 256,x % 256]
def Aes.bk (ws:List Int) (k:Nat):List Int:=(List.range 16).map fun j=>if j<4*k then (Aes.ob (ws.getD (j / 4) 0)).getD (j % 4) 0 else 0
theorem Aes.bk_len (ws:List Int) (k:Nat):(Aes.bk ws k).length=16:=by simp [Aes.bk]
theorem Aes.bk_zero (ws:List Int):Aes.bk ws 0=List.replicate 16 0:=rfl
theorem Aes.bk_step (ws:List Int) (k:Nat) (hk:k<4) :
  ((((Aes.bk ws k).set (4*k) (ws.getD k 0 / 16777216 % 256)).set (4*k+1) (ws.getD k 0 / 65536 % 256)).set (4*k+2) (ws.getD k 0 / 256 % 256)).set (4*k+3) (ws.getD k 0 % 256)=Aes.bk ws (k+1):=by
 rcases (by omega:k=0∨k=1∨k=2∨k=3) with rfl | rfl | rfl | rfl<;>rfl
def Aes.blk4 (a b c d:Int):List Int:=Aes.bk [a,b,c,d] 4
attribute [irreducible] Aes.bk
theorem Tryz.infoU32:(Tryz.prog.info? 152).map (·.size)=some 1:=by kernel_rfl
theorem Tryz.size16:(Tryz.prog.info? 246).map (·.size)=some 16:=by kernel_rfl
def BkSay (l:List Int) (w:World) (e:Ending) (w':World):Prop:=e = .returned (Bk l)∧Below w.heap.size w w'
set_option maxHeartbeats 4000000 in
set_option maxRecDepth 100000 in
theorem toblock_any (a b c d:Int) (w:World) :
  Calls Tryz.prog 259 #[St4 a b c d] w (BkSay (Aes.blk4 a b c d) w):=by
 unfold St4
 obtain ⟨i39,hi39,hz39⟩:∃ i,Tryz.prog.info? 152=some i∧i.size=1:=by
  have:=Tryz.infoU32
  cases hq:Tryz.prog.info? 152 with
  | none=>rw [hq] at this;cases this
  | some i=>rw [hq] at this;exact ⟨i,rfl,by simpa using this⟩
 have HI:=Lib.hid (And.intro hi39 hz39);clear hi39 hz39
 have HAG:Hid (∀ w,(isAgg 152).run Tryz.prog w = .ok false w):=fun w=>by
  unfold isAgg
  rw [Sem.run_bind,run_underlying Tryz.underlying152 w]
  rfl
 obtain ⟨WS,HWS⟩:∃ WS:List Int,Hid (WS = [a,b,c,d]):=⟨_,rfl⟩
 have HGET:Hid (∀ k,k<4→(#[Value.int .u32 a,.int .u32 b,.int .u32 c,.int .u32 d]:Array Value)[k]?=some (.int .u32 (WS.getD k 0))):=fun k hk=>by
  rw [HWS.out]
  rcases (by omega:k=0∨k=1∨k=2∨k=3) with rfl | rfl | rfl | rfl<;>rfl
 go_enter Tryz.func259,Tryz.ntmps259
 go_upto_region 3 with fail
 have HB0:Hid (Below w.heap.size w (((w.alloc (.cells #[.int .u32 a,.int .u32 b,.int .u32 c,.int .u32 d] 154)).alloc (.cells (List.replicate 16 (Value.int .u8 0)).toArray 246)).alloc (.cells (List.replicate 16 (Value.int .u8 0)).toArray 246))):=(((Below.refl _ w).alloc (Nat.le_refl _) _).alloc (by simp) _).alloc (by simp;omega) _
 have HZ0:=Lib.hid (heap3_1 w (.cells #[.int .u32 a,.int .u32 b,.int .u32 c,.int .u32 d] 154) (.cells (List.replicate 16 (Value.int .u8 0)).toArray 246) (.cells (List.replicate 16 (Value.int .u8 0)).toArray 246))
 have HT0:=Lib.hid (heap3_2 w (.cells #[.int .u32 a,.int .u32 b,.int .u32 c,.int .u32 d] 154) (.cells (List.replicate 16 (Value.int .u8 0)).toArray 246) (.cells (List.replicate 16 (Value.int .u8 0)).toArray 246))
 go_loopw [15] (fun v wr=>∃ k:Nat,k≤4∧v = .int .i64 k∧Hid (wr.heap[w.heap.size+2]?=some (.cells ((Aes.bk WS k).map (Value.int .u8)).toArray 246 (0,0)))∧Hid (wr.heap[w.heap.size+1]?=some (.cells (List.replicate 16 (Value.int .u8 0)).toArray 246 (0,0)))∧Hid (Below w.heap.size w wr)) (fun v _=>4-(intOf v).toNat)
 case atStart=>exact ⟨0,by omega,rfl,(by show _=_;rw [Aes.bk_zero];exact HT0.out),HZ0.out,HB0.out⟩
 case round =>
  clear HB0 HZ0 HT0
  obtain ⟨k,hk,rfl,HG,HRES,HB⟩:=hrel
  by_cases hlt:k<4
  ·have hix:=agg_index (P:=Tryz.prog) wr 289 152 4 k _ _ i39 Tryz.underlying289 HI.out.1 HI.out.2 HAG.out hlt (HGET.out k hlt)
   have HST:=Lib.hid (Aes.bk_step WS k hlt)
   have c0:=u8_cellB HG.out (4*k) (by rw [Aes.bk_len];omega)
   have c1:=u8_cellB HG.out (4*k+1) (by rw [Aes.bk_len];omega)
   have c2:=u8_cellB HG.out (4*k+2) (by rw [Aes.bk_len];omega)
   have c3:=u8_cellB HG.out (4*k+3) (by rw [Aes.bk_len];omega)
   have f0:=frozen_of_row wr (w.heap.size+2) (4*k) _ _ HG.out
   have f1:=frozen_of_row wr (w.heap.size+2) (4*k+1) _ _ HG.out
   have f2:=frozen_of_row wr (w.heap.size+2) (4*k+2) _ _ HG.out
   have f3:=frozen_of_row wr (w.heap.size+2) (4*k+3) _ _ HG.out
   generalize WS.getD k 0=x at *
   go_wp2
   refine ⟨⟨k+1,by omega,by go_num,?_,?_,?_⟩,by simp [intOf];omega⟩
   ·have h:=u8_set (x:=x % 256) (i:=4*k+3) (u8_set (x:=x / 256 % 256) (i:=4*k+2) (u8_set (x:=x / 65536 % 256) (i:=4*k+1) (u8_set (x:=x / 16777216 % 256) (i:=4*k) HG.out)))
    rw [HST.out] at h
    exact h
   ·show _=_
    rw [heap_setCell_other _ _ _ _ (by simp),heap_setCell_other _ _ _ _ (by simp),heap_setCell_other _ _ _ _ (by simp),heap_setCell_other _ _ _ _ (by simp)]
    exact HRES.out
   ·exact (((HB.out.setCell (by simp;omega) _).setCell (by simp;omega) _).setCell (by simp;omega) _).setCell (by simp;omega) _
  ·have E:k=4:=by omega
   have hge:4≤k:=by omega
   obtain ⟨A,HA1,HA2,HA3⟩:∃ A:Array Value,Hid (A=((Aes.blk4 a b c d).map (Value.int .u8)).toArray)∧Hid (A.size=16)∧Hid (A.all (·.oneCell')=true) :=
    ⟨_,rfl,by show _=_;simp [Aes.blk4,Aes.bk_len],u8_all _⟩
   have HG8:Hid (wr.heap[w.heap.size+2]?=some (.cells A 246 (0,0))):=by
    have h:=HG.out
    show _=_
    rw [h,HA1.out,E,HWS.out,Aes.blk4]
   clear E hlt HG
   go_wp2_with (first
    | ((with_reducible refine row_load _ _ _ _ _ _ _ ?_ HG8.out Tryz.underlying246 ?_ (row_size Tryz.size16 HA2) ?_);(exact rfl);(exact rfl))
    | ((with_reducible refine row_store _ _ _ _ _ _ _ ?_ ?_ HRES.out (row_size Tryz.size16 HA2) ?_ HA3.out ?_);(exact rfl);(exact rfl);(rw [HA2.out];rfl);intro w6 G6 ch6))
   refine bodyPost_ret (results_cell_row rfl _ _ (w.heap.size+1) 246 A (0,0) _ rfl G6.out Tryz.underlying246 rfl (row_size Tryz.size16 HA2)) rfl ⟨?_,ch6.below HB.out (by omega)⟩
   rw [HA1.out,Bk]
end
section
open Go.RowKit
theorem fill_list:∀ (l:List Value) (k:Nat) (Z:Array Value),k+l.length≤Z.size →
  (l.zipIdx k).foldl (fun (cs:Array Value) (x:Value × Nat)=>cs.setIfInBounds (0+x.2) x.1) Z=(Z.toList.take k++l++Z.toList.drop (k+l.length)).toArray
 | [],k,Z,_=>by simp
 | v :: l,k,Z,h=>by
  simp only [List.length_cons] at h
  rw [List.zipIdx_cons,List.foldl_cons]
  rw [fill_list l (k+1) _ (by simp;omega)]
  apply Array.ext'
  have hk:k<Z.toList.length:=by simp;omega
  simp only [Array.toList_setIfInBounds,Nat.zero_add,List.length_cons]
  have e1:(Z.toList.set k v).take (k+1)=Z.toList.take k++[v]:=by
   rw [List.take_add_one,List.getElem?_set_self hk,List.take_set_of_le (Nat.le_refl k)]
   rfl
  have e2:(Z.toList.set k v).drop (k+1+l.length)=Z.toList.drop (k+(l.length+1)):=by
   rw [List.drop_set_of_lt (by omega)]
   congr 1
   omega
  rw [e1,e2]
  simp
theorem fill_one (place:Nat→Option (Nat × Nat)) (A Z:Array Value) (n:Nat) (hp:place 0=some (0,n)) (hA:A.size=n) (hZ:n≤Z.size):Instr.fill place Z [(0,.agg A)]=some (A.toList++Z.toList.drop n).toArray:=by
 have h:=fill_list A.toList 0 Z (by simp;omega)
 unfold Instr.fill
 rw [hp]
 dsimp only
 split
 ·rename_i hh
  simp [Value.cells,hA] at hh
  omega
 unfold Instr.fill
 congr 1
 show Array.foldl (fun (cs:Array Value) (x:Value × Nat)=>cs.setIfInBounds (0+x.2) x.1) Z A.zipIdx=_
 rw [← Array.foldl_toList,Array.toList_zipIdx]
 rw [h]
 simp [hA]
def Z257:Array Value:=(List.replicate 256 (Value.int .u8 0)++[Value.slice none 0 0]).toArray
theorem Tryz.zeroCipher:(Tryz.prog.info? 149).map (fun i=>(i.zero,i.size))=some (some (.agg Z257),257):=by kernel_rfl
theorem z257:Z257.toList.drop 256 = [Value.slice none 0 0]:=by
 unfold Z257
 rw [List.drop_append_of_le_length (by rw [List.length_replicate];exact Nat.le_refl _),List.drop_of_length_le (by rw [List.length_replicate];exact Nat.le_refl _)]
 rfl
theorem z257s:Z257.size=257:=by
 unfold Z257
 rw [List.size_toArray,List.length_append,List.length_replicate]
 rfl
attribute [irreducible] Z257
theorem Tryz.placesCipher:(match Tryz.prog.underlying 149 with
  | some (.struct fields)=>fields.toList.mapM (fun f=>(Tryz.prog.info? f.type).map fun i=>(f.offset,i.size))
  | _=>none)=some [(0,256),(256,1)]:=by kernel_rfl
theorem build_cipher (A:Array Value) (hA:A.size=256):Tryz.prog.built 149 [(0,.agg A)]=some (A.push (.slice none 0 0)):=by
 unfold Program.built
 have hz:=Tryz.zeroCipher
 have hp:=Tryz.placesCipher
 cases hi:Tryz.prog.info? 149 with
 | none=>rw [hi] at hz;cases hz
 | some i =>
  rw [hi] at hz
  simp only [Option.map_some,Option.some.injEq,Prod.mk.injEq] at hz
  cases hu:Tryz.prog.underlying 149 with
  | none=>rw [hu] at hp;cases hp
  | some d =>
   rw [hu] at hp
   cases d<;>try (exact absurd hp (fun h=>by cases h))
   case struct fields =>
    dsimp only at hp ⊢
    rw [hz.1,hp]
    dsimp only
    rw [fill_one _ A _ 256 rfl hA (by show 256≤Z257.size;rw [z257s];omega)]
    show some (A.toList++Z257.toList.drop 256).toArray=_
    rw [z257]
    refine congrArg some ?_
    apply Array.ext'
    simp
end
end Go.Proofs.YtnnalemboeccbaaGreatDoor

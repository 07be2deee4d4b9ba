import Derived.Test.YthgjfjmampmiiaaGreatDoorB1
namespace Go.Proofs.YthgjfjmampmiiaaGreatDoor
open Go.Proofs.Tryz
set_option maxHeartbeats 4000000
set_option maxRecDepth 100000
section
open Go.RowKit
namespace ag
def fw (K:List Int) (k:Nat):List Int:=(List.range k).map fun i=>nA (K.getD (4*i) 0) (K.getD (4*i+1) 0) (K.getD (4*i+2) 0) (K.getD (4*i+3) 0)
theorem o9 (K:List Int) (k:Nat):(fw K k).length=k:=by simp [fw]
theorem vZ (K:List Int) (k:Nat):fw K (k+1)=fw K k++[nA (K.getD (4*k) 0) (K.getD (4*k+1) 0) (K.getD (4*k+2) 0) (K.getD (4*k+3) 0)]:=by simp [fw,List.range_succ]
structure Kx where
 l:List Int
 r:Int
def nt (T:List Int) (n i:Nat) (t r:Int):Int :=
 if i % n=0 then bits .xor .u32 (iY T (rl 8 t) (rl 8 t) (rl 8 t) (rl 8 t)) (r*16777216)
 else if n=8∧i % 8=4 then iY T t t t t else t
def kx (T K:List Int) (n:Nat):Nat→Kx
 | 0=>⟨fw K n,1⟩
 | j+1=>⟨(kx T K n j).l++[bits .xor .u32 ((kx T K n j).l.getD j 0) (nt T n (n+j) ((kx T K n j).l.getD (n+j-1) 0) (kx T K n j).r)],if (n+j) % n=0 then pr (kx T K n j).r 2 else (kx T K n j).r⟩
theorem ma (T K:List Int) (n j:Nat):(kx T K n j).l.length=n+j:=by
 induction j with
 | zero=>simp [kx,o9]
 | succ j ih=>simp [kx,ih];omega
theorem ajF (T K:List Int) (n j:Nat):0≤(kx T K n j).r∧(kx T K n j).r≤255:=by
 induction j with
 | zero=>simp [kx]
 | succ j ih =>
  simp only [kx];split
  ·exact oH _ _
  ·exact ih
def j7 (T K:List Int):List Int:=(kx T K (K.length / 4) (3*(K.length / 4)+28)).l
def wa (m:Nat) (l:List Int):List Int:=l++List.replicate (m-l.length) 0
theorem oQ (m:Nat) (l:List Int) (h:l.length≤m):(wa m l).length=m:=by simp [wa];omega
theorem gV (m:Nat) (l:List Int) (j:Nat) (h:j<l.length):(wa m l).getD j 0=l.getD j 0:=by
 unfold wa;rw [List.getD_eq_getElem?_getD,List.getElem?_append_left h,List.getD_eq_getElem?_getD]
theorem oT (m:Nat) (l:List Int) (x:Int) (h:l.length<m):(wa m l).set l.length x=wa m (l++[x]):=by
 unfold wa;rw [List.set_append_right _ _ qn,Nat.sub_self,show m-l.length=(m-(l.length+1))+1 by omega,List.replicate_succ,List.set_cons_zero,List.length_append,List.append_assoc]
 rfl
theorem agN (m:Nat) (l:List Int) (h:l.length=m):wa m l=l:=by unfold wa;rw [h,Nat.sub_self];simp
theorem pJ (m:Nat):(wa m []).map (Value.int .u32)=List.replicate m (Value.int .u32 0):=by simp [wa]
theorem aby (K:List Int):fw K 0 = []:=rfl
theorem qf (T K:List Int) (n:Nat):kx T K n 0 = ⟨fw K n,1⟩:=rfl
theorem n6 (T K:List Int) (n j:Nat):(kx T K n (j+1)).l=(kx T K n j).l++[bits .xor .u32 ((kx T K n j).l.getD j 0) (nt T n (n+j) ((kx T K n j).l.getD (n+j-1) 0) (kx T K n j).r)]:=rfl
theorem ou (T K:List Int) (n j:Nat):(kx T K n (j+1)).r=if (n+j) % n=0 then pr (kx T K n j).r 2 else (kx T K n j).r:=rfl
attribute [irreducible] fw kx nt wa j7
end ag
theorem df {w:World} {g:Nat} {l:List Int} {t:TypeId} {fr:Nat × Nat} (h:w.heap[g]?=some (.cells (l.map (Value.int .u32)).toArray t fr)) (j:Nat) (hj:j<l.length):w.cell? ⟨g,j,none⟩=some (.int .u32 (l.getD j 0)):=by
 rw [cell_of_row w g j _ _ _ h];simp [List.getD_eq_getElem?_getD,hj]
theorem pY {w:World} {g i:Nat} {l:List Int} {x:Int} {t:TypeId} (h:w.heap[g]?=some (.cells (l.map (Value.int .u32)).toArray t (0,0))) :
  (w.setCell ⟨g,i,none⟩ (.int .u32 x)).heap[g]?=some (.cells ((l.set i x).map (Value.int .u32)).toArray t (0,0)):=by
 rw [heap_setCell_same w g i _ _ _ h];congr 2;apply Array.ext'
 simp
theorem zc.below {w w':World} {g:Nat} {T:List Int} (h:zc w g T) {B:Nat} (hb:Below B w w') (hg:g<B):zc w' g T:=fun j hj=>by
 obtain ⟨h1,h2⟩:=h j hj;exact ⟨(hb.cell hg).trans h1,h2⟩
def agR (T K:List Int) (w:World) (e:Ending) (w':World):Prop :=
 ∃ g,e = .returned (.slice (some ⟨g,0,none⟩) (ag.j7 T K).length (ag.j7 T K).length)∧w.heap.size≤g∧Hid (w'.heap[g]?=some (.cells ((ag.j7 T K).map (Value.int .u32)).toArray 128 (0,0)))∧qw w w'
end
section
open Go.RowKit
theorem aeV (T K:List Int) (hK:K.length=16) (c:Nat) (p:Option Addr) (cap:Nat) (Az:16≤cap) (BI:cap≤9223372036854775807) (w:World) (hT:zc w c T) (QC:c<w.heap.size) (hp:cX w p K) :
  qc 73 #[qp c,.slice p 16 cap] w (agR T K w):=by
 have HT:=qh hT;clear hT;have Hp:=qh hp;clear hp;have Hcw:=qh QC;clear QC;obtain ⟨HW,Sp⟩:Hid (ag.j7 T K=(ag.kx T K 4 40).l)∧Hid ((ag.j7 T K).length=44):=by
  have e:K.length / 4=4:=by omega
  refine ⟨?_,?_⟩
  ·show _=_;rw [ag.j7,e]
  ·show _=_;rw [ag.j7,e,ag.ma]
 have HK:=qh hK;clear hK;go_enter func73,ntmps73;go_upto_region 4 with ((with_reducible refine o8 _ 128 _ _ (.int .u32 0) 4 44 44 ?_ ?_ ?_ ?_ rfl ?_ ?_ ?_ ?_);(exact rfl);(exact rfl);(exact underlying126);(exact Tryz.jD);omega;omega;omega;intro w1 G1 Ag CN)
 have G0:Hid (w1.heap[w.heap.size]?=some (.cells ((ag.wa 44 (ag.fw K 0)).map (Value.int .u32)).toArray 128 (0,0))):=by
  show _=_;rw [ag.aby,ag.pJ];exact G1.out
 have Ai:=qh Ag;clear Ag G1 CN;go_wp2;go_loopw [22] (fun v wr=>∃ k:Nat,k≤4∧v = .int .i64 k∧Hid (wr.heap[w.heap.size]?=some (.cells ((ag.wa 44 (ag.fw K k)).map (Value.int .u32)).toArray 128 (0,0)))∧Hid (qw w wr)) (fun v _=>4-(intOf v).toNat)
 case atStart=>exact ⟨0,by omega,rfl,G0.out,Ai.out⟩
 case round =>
  clear G0 Ai;obtain ⟨k,hk,rfl,HG,HB⟩:=hrel;by_cases Ae:k<4
  ·obtain ⟨ab,ao,CM,A7⟩:=(Hp.out.av HB.out).2 (by have:=HK.out;omega);subst CM;have HC:=qh A7;clear A7;have EW:Hid (∀ i,0≤K.getD i 0∧K.getD i 0≤255):=fun i=>ai.aW Hp.out.1 i;have QK:(k:Int)<4:=by omega
   go_wp2_with (go_at_call 118;refine (sr (K.getD (4*k) 0) (K.getD (4*k+1) 0) (K.getD (4*k+2) 0) (K.getD (4*k+3) 0) ab (ao+4*k) _ _ _ (by omega) (HC.out (4*k) (by have:=HK.out;omega)) (HC.out (4*k+1) (by have:=HK.out;omega)) (HC.out (4*k+2) (by have:=HK.out;omega)) (HC.out (4*k+3) (by have:=HK.out;omega)) (EW.out _) (EW.out _) (EW.out _) (EW.out _)).mono ?_;rintro e w2 ⟨rfl,q,Ba⟩;have A8:Hid (w2.heap[w.heap.size]?=some (.cells ((ag.wa 44 (ag.fw K k)).map (Value.int .u32)).toArray 128 (0,0))):=(by rw [Ba];exact HG.out);have Aj:Hid (qw w w2):=(by rw [Ba];exact bI HB.out q);clear Ba;have cy:=df A8.out k (by rw [ag.oQ _ _ (by rw [ag.o9];omega)];omega);have fy:=frozen_of_row w2 w.heap.size k _ _ A8.out)
   refine ⟨⟨k+1,by omega,by go_num,?_,?_⟩,by simp [intOf];omega⟩
   ·have h:=pY (i:=k) (x:=ag.nA (K.getD (4*k) 0) (K.getD (4*k+1) 0) (K.getD (4*k+2) 0) (K.getD (4*k+3) 0)) A8.out;have e:=ag.oT 44 (ag.fw K k) (ag.nA (K.getD (4*k) 0) (K.getD (4*k+1) 0) (K.getD (4*k+2) 0) (K.getD (4*k+3) 0)) (by rw [ag.o9];omega);rw [ag.o9,← ag.vZ] at e;rw [e] at h;exact h
   ·exact Aj.out.setCell (by simp) _
  ·have E:k=4:=by omega
   have Bc:4≤k:=by omega
   have G0:Hid (wr.heap[w.heap.size]?=some (.cells ((ag.wa 44 (ag.kx T K 4 0).l).map (Value.int .u32)).toArray 128 (0,0))):=by
    have h:=HG.out;rw [E] at h;show _=_;rw [ag.qf];exact h
   clear E Ae HG;go_wp2;go_loopw [9,10] (fun vr vi wr=>∃ (j:Nat) (r:Int),j≤40∧vi = .int .i64 ((j:Int)+4)∧vr = .int .u8 r∧Hid (r=(ag.kx T K 4 j).r)∧Hid (wr.heap[w.heap.size]?=some (.cells ((ag.wa 44 (ag.kx T K 4 j).l).map (Value.int .u32)).toArray 128 (0,0)))∧Hid (qw w wr)) (fun _ vi _=>44-(intOf vi).toNat)
   case atStart=>exact ⟨0,1,by omega,by simp,rfl,(by show _=_;rw [ag.qf]),G0.out,HB.out⟩
   case round =>
    clear G0 HB Bc;obtain ⟨j,r,hj,rfl,rfl,HR,HG,HB⟩:=hrel;by_cases Ae:j<40
    ·have hr:=ag.ajF T K 4 j;rw [← HR.out] at hr;obtain ⟨Uw,Je⟩:=hr;have hlen:=ag.ma T K 4 j;have ct:=df HG.out (j+3) (by rw [ag.oQ _ _ (by omega)];omega);have cl:=df HG.out j (by rw [ag.oQ _ _ (by omega)];omega);rw [ag.gV _ _ _ (by omega)] at ct cl;have HN:Hid ((ag.kx T K 4 (j+1)).l=(ag.kx T K 4 j).l++[bits .xor .u32 ((ag.kx T K 4 j).l.getD j 0) (ag.nt T 4 (4+j) ((ag.kx T K 4 j).l.getD (j+3) 0) r)]):=by
      show _=_;rw [ag.n6,← HR.out,show 4+j-1=j+3 by omega]
     have MW:Hid ((ag.kx T K 4 (j+1)).r=if (4+j) % 4=0 then ag.pr r 2 else r):=by
      show _=_;rw [ag.ou,← HR.out]
     have Lt:Hid (∀ x,(ag.wa 44 (ag.kx T K 4 j).l).set (j+4) x=ag.wa 44 ((ag.kx T K 4 j).l++[x])):=fun x=>by
      have h:=ag.oT 44 (ag.kx T K 4 j).l x (by omega);rw [hlen,Nat.add_comm 4 j] at h;exact h
     have Du:Hid ((ag.wa 44 (ag.kx T K 4 j).l).length=44):=ag.oQ _ _ (by omega);clear HR hlen;have Dn:Hid (zc wr c T):=HT.out.below HB.out Hcw.out;generalize (ag.kx T K 4 j).l.getD (j+3) 0=t0 at *;generalize (ag.kx T K 4 j).l.getD j 0=l0 at *;by_cases h0:(4+j) % 4=0
     ·have FX:Hid (ag.nt T 4 (4+j) t0 r=bits .xor .u32 (ag.iY T (ag.rl 8 t0) (ag.rl 8 t0) (ag.rl 8 t0) (ag.rl 8 t0)) (r*16777216)):=by show _=_;rw [ag.nt,if_pos h0]
      have hi:((j:Int)+4) % 4=0:=by omega
      have Is:(j:Int) % 4=0:=by omega
      rw [FX.out] at HN;have JE:Hid (ag.pr r 2=(ag.kx T K 4 (j+1)).r):=by have h:=MW.out;rw [if_pos h0] at h;exact h.symm
      clear FX MW h0;go_wp2_with (first
       | (go_at_call 119;refine (xv _ _ (by omega) _).mono ?_;rintro e w2 ⟨rfl,rfl⟩)
       | (go_at_call 117;refine (kP _ _ (by omega) (by omega) _).mono ?_;rintro e w2 ⟨rfl,rfl⟩)
       | (go_at_call 120;refine (mf T c _ _ _ _ _ Dn.out).mono ?_;rintro e w2 ⟨rfl,q,Ba⟩;have A8:Hid (w2.heap[w.heap.size]?=some (.cells ((ag.wa 44 (ag.kx T K 4 j).l).map (Value.int .u32)).toArray 128 (0,0))):=(by rw [Ba];exact HG.out);have Aj:Hid (qw w w2):=(by rw [Ba];exact bI HB.out q);have cl2:w2.cell? ⟨w.heap.size,j,none⟩=some (.int .u32 l0):=(by rw [Ba];exact cl);clear Ba;have cy:=df A8.out (j+4) (by rw [Du.out];omega);have fy:=frozen_of_row w2 w.heap.size (j+4) _ _ A8.out))
      refine ⟨⟨j+1,_,by omega,by go_num,rfl,JE,?_,?_⟩,by simp [intOf];omega⟩
      ·have h:=pY (i:=j+4) (x:=bits .xor .u32 l0 (bits .xor .u32 (ag.iY T (ag.rl 8 t0) (ag.rl 8 t0) (ag.rl 8 t0) (ag.rl 8 t0)) (r*16777216))) A8.out;rw [Lt.out,← HN.out] at h;exact h
      ·exact Aj.out.setCell (by simp) _
     ·have JE:Hid (r=(ag.kx T K 4 (j+1)).r):=by have h:=MW.out;rw [if_neg h0] at h;exact h.symm
      have FX:Hid (ag.nt T 4 (4+j) t0 r=t0):=by show _=_;rw [ag.nt,if_neg h0,if_neg (by omega)]
      have hi:¬ ((j:Int)+4) % 4=0:=by omega
      have Is:¬ (j:Int) % 4=0:=by omega
      rw [FX.out] at HN;clear FX MW h0;have cy:=df HG.out (j+4) (by rw [Du.out];omega);have fy:=frozen_of_row wr w.heap.size (j+4) _ _ HG.out;go_wp2;refine ⟨⟨j+1,_,by omega,by go_num,rfl,JE,?_,?_⟩,by simp [intOf];omega⟩
      ·have h:=pY (i:=j+4) (x:=bits .xor .u32 l0 t0) HG.out;rw [Lt.out,← HN.out] at h;exact h
      ·exact HB.out.setCell (by simp) _
    ·have E:j=40:=by omega
     have Bc:40≤j:=by omega
     have HF:Hid (wr.heap[w.heap.size]?=some (.cells ((ag.j7 T K).map (Value.int .u32)).toArray 128 (0,0))):=by
      have h:=HG.out;rw [E,ag.agN _ _ (by rw [ag.ma]),← HW.out] at h;exact h
     clear E Ae HG;go_wp2;go_ret;exact ⟨w.heap.size,by rw [Sp.out];rfl,Nat.le_refl _,HF,HB.out⟩
end
section
open Go.RowKit
theorem Tryz.bP:(prog.info? 130).map (·.size)=some 4:=by kernel_rfl
theorem ahH (k:IntKind) (a b c d:Int):(#[Value.int k a,.int k b,.int k c,.int k d]:Array Value).all (·.oneCell')=true:=by
 refine Array.all_eq_true_iff_forall_mem.2 (fun v hv=>?_);simp at hv;rcases hv with rfl | rfl | rfl | rfl<;>rfl
def mA (a b c d:Int):Value:=.agg #[.int .u32 a,.int .u32 b,.int .u32 c,.int .u32 d]
def fD (a b c d:Int) (w:World) (e:Ending) (w':World):Prop:=e = .returned (mA a b c d)∧qw w w'
theorem fm (a b c d k0 k1 k2 k3:Int) (w:World) :
  qc 230 #[mA a b c d,mA k0 k1 k2 k3] w (fD (bits .xor .u32 a k0) (bits .xor .u32 b k1) (bits .xor .u32 c k2) (bits .xor .u32 d k3) w):=by
 unfold mA;go_enter func230,ntmps230;go_wp2;refine bodyPost_ret (results_cell_row rfl _ _ (w.heap.size+1+1) 130 _ (0,0) _ rfl (iD w _ _ _) underlying130 rfl Tryz.bP) rfl ⟨rfl,?_⟩;exact ((qb w _).alloc (by simp) _).alloc (by simp;omega) _
theorem xS (a b c d:Int) (w:World) :
  qc 232 #[mA a b c d] w (fD (ag.iw a) (ag.iw b) (ag.iw c) (ag.iw d) w):=by
 unfold mA;go_enter func232,ntmps232;go_upto_region 1 with fail
 have HA:Hid (((w.alloc (.cells #[.int .u32 a,.int .u32 b,.int .u32 c,.int .u32 d] 130)).alloc (.cells #[.int .u32 0,.int .u32 0,.int .u32 0,.int .u32 0] 130)).heap[w.heap.size]?=some (.cells #[.int .u32 a,.int .u32 b,.int .u32 c,.int .u32 d] 130 (0,0))):=heap_alloc2_old w _ _;have HZ:Hid (((w.alloc (.cells #[.int .u32 a,.int .u32 b,.int .u32 c,.int .u32 d] 130)).alloc (.cells #[.int .u32 0,.int .u32 0,.int .u32 0,.int .u32 0] 130)).heap[w.heap.size+1]?=some (.cells #[.int .u32 0,.int .u32 0,.int .u32 0,.int .u32 0] 130 (0,0))):=heap_alloc2_new w _ _;have HB:Hid (qw w ((w.alloc (.cells #[.int .u32 a,.int .u32 b,.int .u32 c,.int .u32 d] 130)).alloc (.cells #[.int .u32 0,.int .u32 0,.int .u32 0,.int .u32 0] 130))):=(qb w _).alloc (by simp) _;generalize (w.alloc (.cells #[.int .u32 a,.int .u32 b,.int .u32 c,.int .u32 d] 130)).alloc (.cells #[.int .u32 0,.int .u32 0,.int .u32 0,.int .u32 0] 130)=w1 at *;have c0:w1.cell? ⟨w.heap.size,0,none⟩=some (.int .u32 a):=by rw [cell_of_row w1 w.heap.size 0 _ _ _ HA.out];rfl
 have c1:w1.cell? ⟨w.heap.size,1,none⟩=some (.int .u32 b):=by rw [cell_of_row w1 w.heap.size 1 _ _ _ HA.out];rfl
 have c2:w1.cell? ⟨w.heap.size,2,none⟩=some (.int .u32 c):=by rw [cell_of_row w1 w.heap.size 2 _ _ _ HA.out];rfl
 have c3:w1.cell? ⟨w.heap.size,3,none⟩=some (.int .u32 d):=by rw [cell_of_row w1 w.heap.size 3 _ _ _ HA.out];rfl
 go_still_tail 13,(by kernel_rfl)
 still_call (lN _ _)
 repeat still_step
 still_call (lN _ _)
 repeat still_step
 still_call (lN _ _)
 repeat still_step
 still_call (lN _ _)
 repeat still_step
 refine wpStill_nil ?_;change wpList _ _ _ _ _ w1.drew;have ED:Hid (w1.drew.heap[w.heap.size+1]?=some (.cells #[.int .u32 0,.int .u32 0,.int .u32 0,.int .u32 0] 130 (0,0))):=HZ.out;have Aj:Hid (qw w w1.drew):=HB.out.drew;generalize w1.drew=w2 at *;clear HZ HA HB c0 c1 c2 c3;go_wp2_with ((with_reducible refine ak _ _ _ _ _ _ #[.int .u32 (ag.iw a),.int .u32 (ag.iw b),.int .u32 (ag.iw c),.int .u32 (ag.iw d)] ?_ ?_ ED.out ?_ ?_ ?_ ?_);(exact rfl);(exact rfl);(exact Tryz.bP);(exact rfl);(exact ahH _ _ _ _ _);intro w3 G3 Dd)
 exact bodyPost_ret (results_cell_row rfl _ _ (w.heap.size+1) 130 _ (0,0) _ rfl G3.out underlying130 rfl Tryz.bP) rfl ⟨rfl,Dd.below Aj.out (by omega)⟩
end
section
open Go.RowKit
theorem ue {w:World} {g:Nat} {t:TypeId} {z0 z1 z2 z3:Value} (a b c d:Int) (h:w.heap[g]?=some (.cells #[z0,z1,z2,z3] t (0,0))) :
  ((((w.setCell ⟨g,0,none⟩ (.int .u32 a)).setCell ⟨g,1,none⟩ (.int .u32 b)).setCell ⟨g,2,none⟩ (.int .u32 c)).setCell ⟨g,3,none⟩ (.int .u32 d)).heap[g]?=some (.cells #[.int .u32 a,.int .u32 b,.int .u32 c,.int .u32 d] t (0,0)):=by
 have h1:=heap_setCell_same w g 0 _ _ (.int .u32 a) h;have h2:=heap_setCell_same _ g 1 _ _ (.int .u32 b) h1;have h3:=heap_setCell_same _ g 2 _ _ (.int .u32 c) h2;have h4:=heap_setCell_same _ g 3 _ _ (.int .u32 d) h3;rw [h4]
 rfl
theorem zT {B:Nat} {w w':World} {g:Nat} (a b c d:Int) (h:Below B w w') (hg:B≤g) :
  Below B w ((((w'.setCell ⟨g,0,none⟩ (.int .u32 a)).setCell ⟨g,1,none⟩ (.int .u32 b)).setCell ⟨g,2,none⟩ (.int .u32 c)).setCell ⟨g,3,none⟩ (.int .u32 d)) :=
 (((h.setCell hg _).setCell hg _).setCell hg _).setCell hg _
theorem yn (T:List Int) (g:Nat) (a b c d:Int) (w:World) (hT:zc w g T) (hg:g<w.heap.size) :
  qc 233 #[qp g,mA a b c d] w (fD (ag.iY T a b c d) (ag.iY T b c d a) (ag.iY T c d a b) (ag.iY T d a b c) w):=by
 unfold mA;have HT:=qh hT;clear hT;have Hg:=qh hg;clear hg;go_enter func233,ntmps233;go_upto_region 1 with fail
 have HA:Hid (((w.alloc (.cells #[.int .u32 a,.int .u32 b,.int .u32 c,.int .u32 d] 130)).alloc (.cells #[.int .u32 0,.int .u32 0,.int .u32 0,.int .u32 0] 130)).heap[w.heap.size]?=some (.cells #[.int .u32 a,.int .u32 b,.int .u32 c,.int .u32 d] 130 (0,0))):=heap_alloc2_old w _ _;have HZ:Hid (((w.alloc (.cells #[.int .u32 a,.int .u32 b,.int .u32 c,.int .u32 d] 130)).alloc (.cells #[.int .u32 0,.int .u32 0,.int .u32 0,.int .u32 0] 130)).heap[w.heap.size+1]?=some (.cells #[.int .u32 0,.int .u32 0,.int .u32 0,.int .u32 0] 130 (0,0))):=heap_alloc2_new w _ _;have HB:Hid (qw w ((w.alloc (.cells #[.int .u32 a,.int .u32 b,.int .u32 c,.int .u32 d] 130)).alloc (.cells #[.int .u32 0,.int .u32 0,.int .u32 0,.int .u32 0] 130))):=(qb w _).alloc (by simp) _;have AM:Hid (w.heap.size+1<((w.alloc (.cells #[.int .u32 a,.int .u32 b,.int .u32 c,.int .u32 d] 130)).alloc (.cells #[.int .u32 0,.int .u32 0,.int .u32 0,.int .u32 0] 130)).heap.size):=lt_of_block HZ.out;generalize (w.alloc (.cells #[.int .u32 a,.int .u32 b,.int .u32 c,.int .u32 d] 130)).alloc (.cells #[.int .u32 0,.int .u32 0,.int .u32 0,.int .u32 0] 130)=w1 at *;have Ak:Hid (∀ x,qw w1 x→x.heap[w.heap.size]?=some (.cells #[.int .u32 a,.int .u32 b,.int .u32 c,.int .u32 d] 130 (0,0))):=fun x hx=>(hx.block _ (by have:=AM.out;omega)).trans HA.out;have HS:Hid (∀ x:World,x.heap[w.heap.size]?=some (.cells #[.int .u32 a,.int .u32 b,.int .u32 c,.int .u32 d] 130 (0,0))→x.cell? ⟨w.heap.size,0,none⟩=some (.int .u32 a)∧x.cell? ⟨w.heap.size,1,none⟩=some (.int .u32 b)∧x.cell? ⟨w.heap.size,2,none⟩=some (.int .u32 c)∧x.cell? ⟨w.heap.size,3,none⟩=some (.int .u32 d)):=fun x hA =>
  ⟨by rw [cell_of_row x w.heap.size 0 _ _ _ hA];rfl,by rw [cell_of_row x w.heap.size 1 _ _ _ hA];rfl,by rw [cell_of_row x w.heap.size 2 _ _ _ hA];rfl,by rw [cell_of_row x w.heap.size 3 _ _ _ hA];rfl⟩
 have Dn:Hid (∀ x,qw w1 x→zc x g T):=fun x hx=>(HT.out.below HB.out Hg.out).below hx (by have:=AM.out;have:=Hg.out;omega);have Ff:Hid (∀ x,qw w1 x→x.heap[w.heap.size+1]?=some (.cells #[.int .u32 0,.int .u32 0,.int .u32 0,.int .u32 0] 130 (0,0))):=fun x hx=>(hx.block _ AM.out).trans HZ.out;have Oq:Hid (∀ x,qw w1 x→x.cell? ⟨w.heap.size+1,0,none⟩=some (.int .u32 0)∧x.cell? ⟨w.heap.size+1,1,none⟩=some (.int .u32 0)∧x.cell? ⟨w.heap.size+1,2,none⟩=some (.int .u32 0)∧x.cell? ⟨w.heap.size+1,3,none⟩=some (.int .u32 0)):=fun x hx =>
  ⟨by rw [cell_of_row x (w.heap.size+1) 0 _ _ _ (Ff.out x hx)];rfl,by rw [cell_of_row x (w.heap.size+1) 1 _ _ _ (Ff.out x hx)];rfl,by rw [cell_of_row x (w.heap.size+1) 2 _ _ _ (Ff.out x hx)];rfl,by rw [cell_of_row x (w.heap.size+1) 3 _ _ _ (Ff.out x hx)];rfl⟩
 have Ir:Hid (∀ x,qw w1 x→∀ j,x.frozen? ⟨w.heap.size+1,j,none⟩=false):=fun x hx j=>frozen_of_row x (w.heap.size+1) j _ _ (Ff.out x hx);have HR:=qh (Below.refl w1.heap.size w1);clear HA HZ;go_region_held3 (fun x:World=>x.cell? ⟨w.heap.size,0,none⟩=some (.int .u32 a)∧x.cell? ⟨w.heap.size,1,none⟩=some (.int .u32 b)∧x.cell? ⟨w.heap.size,2,none⟩=some (.int .u32 c)∧x.cell? ⟨w.heap.size,3,none⟩=some (.int .u32 d))
  (first | exact HS.out _ (Ak.out _ HR.out.drew) | exact HS.out _ (Ak.out _ (by assumption)) | (refine HS.out _ ?_;rw [heap_setCell_other _ _ _ _ (by simp),heap_setCell_other _ _ _ _ (by simp),heap_setCell_other _ _ _ _ (by simp),heap_setCell_other _ _ _ _ (by simp)];exact Ak.out _ (by assumption)))
  ((first
   | (go_at_call 120;refine (mf T g _ _ _ _ _ (by first | exact Dn.out _ HR.out.drew | exact Dn.out _ (by assumption))).mono ?_;rintro e w2 ⟨rfl,q,Ba⟩;have Al:qw w1 w2:=(by rw [Ba];exact bI (by first | exact HR.out.drew | assumption) q);clear Ba;obtain ⟨z0,z1,z2,z3⟩:=Oq.out w2 Al;have y0:=Ir.out w2 Al 0;have y1:=Ir.out w2 Al 1;have y2:=Ir.out w2 Al 2;have y3:=Ir.out w2 Al 3)))
 have F:=ue (ag.iY T a b c d) (ag.iY T b c d a) (ag.iY T c d a b) (ag.iY T d a b c) (Ff.out w2 Al);have Aj:qw w w2:=HB.out.trans (Al.mono HB.out.size);have Ao:=qh (zT (ag.iY T a b c d) (ag.iY T b c d a) (ag.iY T c d a b) (ag.iY T d a b c) Aj (show w.heap.size≤w.heap.size+1 by omega));clear Aj z0 z1 z2 z3 y0 y1 y2 y3;generalize (((w2.setCell ⟨w.heap.size+1,0,none⟩ (.int .u32 (ag.iY T a b c d))).setCell ⟨w.heap.size+1,1,none⟩ (.int .u32 (ag.iY T b c d a))).setCell ⟨w.heap.size+1,2,none⟩ (.int .u32 (ag.iY T c d a b))).setCell ⟨w.heap.size+1,3,none⟩ (.int .u32 (ag.iY T d a b c))=w3 at *;go_wp2;exact bodyPost_ret (results_cell_row rfl _ _ (w.heap.size+1) 130 _ (0,0) _ rfl F underlying130 rfl Tryz.bP) rfl ⟨rfl,Ao.out⟩
end
section
open Go.RowKit
def Bk (l:List Int):Value:=.agg (l.map (Value.int .u8)).toArray
def ag.wk (l:List Int) (o:Nat):Int:=ag.nA (l.getD o 0) (l.getD (o+1) 0) (l.getD (o+2) 0) (l.getD (o+3) 0)
theorem rG (l:List Int) (hl:l.length=16) (hb:ai.aY l) (w:World) :
  qc 231 #[Bk l] w (fD (ag.wk l 0) (ag.wk l 4) (ag.wk l 8) (ag.wk l 12) w):=by
 unfold Bk;have Hl:=qh hl;clear hl;have Hb:=qh hb;clear hb;obtain ⟨A,Hd⟩:∃ A,Hid (A=(l.map (Value.int .u8)).toArray):=⟨_,rfl⟩;rw [← Hd.out];go_enter func231,ntmps231;go_upto_region 1 with fail
 have HA:Hid (((w.alloc (.cells A 221)).alloc (.cells #[.int .u32 0,.int .u32 0,.int .u32 0,.int .u32 0] 130)).heap[w.heap.size]?=some (.cells A 221 (0,0))):=heap_alloc2_old w _ _;have HZ:Hid (((w.alloc (.cells A 221)).alloc (.cells #[.int .u32 0,.int .u32 0,.int .u32 0,.int .u32 0] 130)).heap[w.heap.size+1]?=some (.cells #[.int .u32 0,.int .u32 0,.int .u32 0,.int .u32 0] 130 (0,0))):=heap_alloc2_new w _ _;have HB:Hid (qw w ((w.alloc (.cells A 221)).alloc (.cells #[.int .u32 0,.int .u32 0,.int .u32 0,.int .u32 0] 130))):=(qb w _).alloc (by simp) _;have AM:Hid (w.heap.size+1<((w.alloc (.cells A 221)).alloc (.cells #[.int .u32 0,.int .u32 0,.int .u32 0,.int .u32 0] 130)).heap.size):=lt_of_block HZ.out;generalize (w.alloc (.cells A 221)).alloc (.cells #[.int .u32 0,.int .u32 0,.int .u32 0,.int .u32 0] 130)=w1 at *;have Ak:Hid (∀ x,qw w1 x→∀ j,j<16→x.cell? ⟨w.heap.size,j,none⟩=some (.int .u8 (l.getD j 0))):=fun x hx j hj=>by
  have h:=(hx.block w.heap.size (by have:=AM.out;omega)).trans HA.out;rw [Hd.out] at h;exact cJ h j (by rw [Hl.out];exact hj)
 have Ff:Hid (∀ x,qw w1 x→x.heap[w.heap.size+1]?=some (.cells #[.int .u32 0,.int .u32 0,.int .u32 0,.int .u32 0] 130 (0,0))):=fun x hx=>(hx.block _ AM.out).trans HZ.out;have Oq:Hid (∀ x,qw w1 x→x.cell? ⟨w.heap.size+1,0,none⟩=some (.int .u32 0)∧x.cell? ⟨w.heap.size+1,1,none⟩=some (.int .u32 0)∧x.cell? ⟨w.heap.size+1,2,none⟩=some (.int .u32 0)∧x.cell? ⟨w.heap.size+1,3,none⟩=some (.int .u32 0)):=fun x hx =>
  ⟨by rw [cell_of_row x (w.heap.size+1) 0 _ _ _ (Ff.out x hx)];rfl,by rw [cell_of_row x (w.heap.size+1) 1 _ _ _ (Ff.out x hx)];rfl,by rw [cell_of_row x (w.heap.size+1) 2 _ _ _ (Ff.out x hx)];rfl,by rw [cell_of_row x (w.heap.size+1) 3 _ _ _ (Ff.out x hx)];rfl⟩
 have Ir:Hid (∀ x,qw w1 x→∀ j,x.frozen? ⟨w.heap.size+1,j,none⟩=false):=fun x hx j=>frozen_of_row x (w.heap.size+1) j _ _ (Ff.out x hx);have HR:=qh (Below.refl w1.heap.size w1);have EA:Hid (∀ j,0≤l.getD j 0∧l.getD j 0≤255):=fun j=>ai.aW Hb.out j;have HW:Hid (∀ (o n c:Nat) (x:World),qw w1 x→4≤n→o<13→qc 118 #[.slice (some ⟨w.heap.size,o,none⟩) n c] x fun e w'=>e = .returned (.int .u32 (ag.wk l o))∧∃ m,w'=x.drewN m):=fun o n c x hx hn hk=>by
  unfold ag.wk;exact sr _ _ _ _ w.heap.size o n c x hn (Ak.out x hx _ (by omega)) (Ak.out x hx _ (by omega)) (Ak.out x hx _ (by omega)) (Ak.out x hx _ (by omega)) (EA.out _) (EA.out _) (EA.out _) (EA.out _)
 clear HA HZ Ak EA;go_region_held3 (fun _:World=>True)
  (trivial)
  ((first
   | (go_at_call 118;refine (HW.out _ _ _ _ (by first | exact HR.out.drew | assumption) (by omega) (by omega)).mono ?_;rintro e w2 ⟨rfl,q,Ba⟩;have Al:qw w1 w2:=(by rw [Ba];exact bI (by first | exact HR.out.drew | assumption) q);clear Ba;obtain ⟨z0,z1,z2,z3⟩:=Oq.out w2 Al;have y0:=Ir.out w2 Al 0;have y1:=Ir.out w2 Al 1;have y2:=Ir.out w2 Al 2;have y3:=Ir.out w2 Al 3)))
 have F:=ue (ag.wk l 0) (ag.wk l 4) (ag.wk l 8) (ag.wk l 12) (Ff.out w2 Al);have Aj:qw w w2:=HB.out.trans (Al.mono HB.out.size);have Ao:=qh (zT (ag.wk l 0) (ag.wk l 4) (ag.wk l 8) (ag.wk l 12) Aj (show w.heap.size≤w.heap.size+1 by omega));clear Aj z0 z1 z2 z3 y0 y1 y2 y3;generalize (((w2.setCell ⟨w.heap.size+1,0,none⟩ (.int .u32 (ag.wk l 0))).setCell ⟨w.heap.size+1,1,none⟩ (.int .u32 (ag.wk l 4))).setCell ⟨w.heap.size+1,2,none⟩ (.int .u32 (ag.wk l 8))).setCell ⟨w.heap.size+1,3,none⟩ (.int .u32 (ag.wk l 12))=w3 at *;go_wp2;exact bodyPost_ret (results_cell_row rfl _ _ (w.heap.size+1) 130 _ (0,0) _ rfl F underlying130 rfl Tryz.bP) rfl ⟨rfl,Ao.out⟩
def ag.ob (x:Int):List Int:=[x / 16777216 % 256,x / 65536 % 256,x / 256 % 256,x % 256]
def ag.bk (ws:List Int) (k:Nat):List Int:=(List.range 16).map fun j=>if j<4*k then (ag.ob (ws.getD (j / 4) 0)).getD (j % 4) 0 else 0
theorem ag.kA (ws:List Int) (k:Nat):(ag.bk ws k).length=16:=by simp [ag.bk]
theorem ag.aeU (ws:List Int):ag.bk ws 0=List.replicate 16 0:=rfl
theorem ag.acz (ws:List Int) (k:Nat) (hk:k<4) :
  ((((ag.bk ws k).set (4*k) (ws.getD k 0 / 16777216 % 256)).set (4*k+1) (ws.getD k 0 / 65536 % 256)).set (4*k+2) (ws.getD k 0 / 256 % 256)).set (4*k+3) (ws.getD k 0 % 256)=ag.bk ws (k+1):=by
 rcases (by omega:k=0∨k=1∨k=2∨k=3) with rfl | rfl | rfl | rfl<;>rfl
def ag.uu (a b c d:Int):List Int:=ag.bk [a,b,c,d] 4
attribute [irreducible] ag.bk
theorem Tryz.aeE:(prog.info? 128).map (·.size)=some 1:=by kernel_rfl
theorem Tryz.cE:(prog.info? 221).map (·.size)=some 16:=by kernel_rfl
def mP (l:List Int) (w:World) (e:Ending) (w':World):Prop:=e = .returned (Bk l)∧qw w w'
theorem gU (a b c d:Int) (w:World) :
  qc 234 #[mA a b c d] w (mP (ag.uu a b c d) w):=by
 unfold mA;obtain ⟨i39,Gm,Gw⟩:∃ i,prog.info? 128=some i∧i.size=1:=by
  have:=Tryz.aeE;cases hq:prog.info? 128 with
  | none=>rw [hq] at this;cases this
  | some i=>rw [hq] at this;exact ⟨i,rfl,by simpa using this⟩
 have HI:=qh (And.intro Gm Gw);clear Gm Gw;have Rn:Hid (∀ w,(isAgg 128).run prog w = .ok false w):=fun w=>by
  unfold isAgg;rw [Sem.run_bind,run_underlying underlying128 w]
  rfl
 obtain ⟨WS,Qg⟩:∃ WS:List Int,Hid (WS = [a,b,c,d]):=⟨_,rfl⟩;have Cb:Hid (∀ k,k<4→(#[Value.int .u32 a,.int .u32 b,.int .u32 c,.int .u32 d]:Array Value)[k]?=some (.int .u32 (WS.getD k 0))):=fun k hk=>by
  rw [Qg.out];rcases (by omega:k=0∨k=1∨k=2∨k=3) with rfl | rfl | rfl | rfl<;>rfl
 go_enter func234,ntmps234;go_upto_region 3 with fail
 have Bd:Hid (qw w (((w.alloc (.cells #[.int .u32 a,.int .u32 b,.int .u32 c,.int .u32 d] 130)).alloc (.cells (List.replicate 16 (Value.int .u8 0)).toArray 221)).alloc (.cells (List.replicate 16 (Value.int .u8 0)).toArray 221))):=((qb w _).alloc (by simp) _).alloc (by simp;omega) _;have Qi:=qh (jX w (.cells #[.int .u32 a,.int .u32 b,.int .u32 c,.int .u32 d] 130) (.cells (List.replicate 16 (Value.int .u8 0)).toArray 221) (.cells (List.replicate 16 (Value.int .u8 0)).toArray 221));have F4:=qh (iD w (.cells #[.int .u32 a,.int .u32 b,.int .u32 c,.int .u32 d] 130) (.cells (List.replicate 16 (Value.int .u8 0)).toArray 221) (.cells (List.replicate 16 (Value.int .u8 0)).toArray 221));go_loopw [15] (fun v wr=>∃ k:Nat,k≤4∧v = .int .i64 k∧Hid (wr.heap[w.heap.size+2]?=some (.cells ((ag.bk WS k).map (Value.int .u8)).toArray 221 (0,0)))∧Hid (wr.heap[w.heap.size+1]?=some (.cells (List.replicate 16 (Value.int .u8 0)).toArray 221 (0,0)))∧Hid (qw w wr)) (fun v _=>4-(intOf v).toNat)
 case atStart=>exact ⟨0,by omega,rfl,(by show _=_;rw [ag.aeU];exact F4.out),Qi.out,Bd.out⟩
 case round =>
  clear Bd Qi F4;obtain ⟨k,hk,rfl,HG,Cd,HB⟩:=hrel;by_cases Ae:k<4
  ·have QJ:=oC (P:=prog) wr 264 128 4 k _ _ i39 underlying264 HI.out.1 HI.out.2 Rn.out Ae (Cb.out k Ae);have Ad:=qh (ag.acz WS k Ae);have c0:=cJ HG.out (4*k) (by rw [ag.kA];omega);have c1:=cJ HG.out (4*k+1) (by rw [ag.kA];omega);have c2:=cJ HG.out (4*k+2) (by rw [ag.kA];omega);have c3:=cJ HG.out (4*k+3) (by rw [ag.kA];omega);have f0:=frozen_of_row wr (w.heap.size+2) (4*k) _ _ HG.out;have f1:=frozen_of_row wr (w.heap.size+2) (4*k+1) _ _ HG.out;have f2:=frozen_of_row wr (w.heap.size+2) (4*k+2) _ _ HG.out;have f3:=frozen_of_row wr (w.heap.size+2) (4*k+3) _ _ HG.out;generalize WS.getD k 0=x at *;go_wp2;refine ⟨⟨k+1,by omega,by go_num,?_,?_,?_⟩,by simp [intOf];omega⟩
   ·have h:=gM (x:=x % 256) (i:=4*k+3) (gM (x:=x / 256 % 256) (i:=4*k+2) (gM (x:=x / 65536 % 256) (i:=4*k+1) (gM (x:=x / 16777216 % 256) (i:=4*k) HG.out)));rw [Ad.out] at h;exact h
   ·show _=_;rw [heap_setCell_other _ _ _ _ (by simp),heap_setCell_other _ _ _ _ (by simp),heap_setCell_other _ _ _ _ (by simp),heap_setCell_other _ _ _ _ (by simp)];exact Cd.out
   ·exact (((HB.out.setCell (by simp;omega) _).setCell (by simp;omega) _).setCell (by simp;omega) _).setCell (by simp;omega) _
  ·have E:k=4:=by omega
   have Bc:4≤k:=by omega
   obtain ⟨A,An,Ak,Au⟩:∃ A:Array Value,Hid (A=((ag.uu a b c d).map (Value.int .u8)).toArray)∧Hid (A.size=16)∧Hid (A.all (·.oneCell')=true) :=
    ⟨_,rfl,by show _=_;simp [ag.uu,ag.kA],fe _⟩
   have DK:Hid (wr.heap[w.heap.size+2]?=some (.cells A 221 (0,0))):=by
    have h:=HG.out;show _=_;rw [h,An.out,E,Qg.out,ag.uu]
   clear E Ae HG;go_wp2_with (first
    | ((with_reducible refine ay _ _ _ _ _ _ _ ?_ DK.out underlying221 ?_ (ae Tryz.cE Ak) ?_);(exact rfl);(exact rfl))
    | ((with_reducible refine ak _ _ _ _ _ _ _ ?_ ?_ Cd.out (ae Tryz.cE Ak) ?_ Au.out ?_);(exact rfl);(exact rfl);(rw [Ak.out];rfl);intro w6 G6 AE))
   refine bodyPost_ret (results_cell_row rfl _ _ (w.heap.size+1) 221 A (0,0) _ rfl G6.out underlying221 rfl (ae Tryz.cE Ak)) rfl ⟨?_,AE.below HB.out (by omega)⟩;rw [An.out,Bk]
end
section
open Go.RowKit
theorem oa:∀ (l:List Value) (k:Nat) (Z:Array Value),k+l.length≤Z.size →
  (l.zipIdx k).foldl (fun (cs:Array Value) (x:Value × Nat)=>cs.setIfInBounds (0+x.2) x.1) Z=(Z.toList.take k++l++Z.toList.drop (k+l.length)).toArray
 | [],k,Z,_=>by simp
 | v :: l,k,Z,h=>by
  simp only [List.length_cons] at h;rw [List.zipIdx_cons,List.foldl_cons];rw [oa l (k+1) _ (by simp;omega)];apply Array.ext'
  have hk:k<Z.toList.length:=by simp;omega
  simp only [Array.toList_setIfInBounds,Nat.zero_add,List.length_cons];have e1:(Z.toList.set k v).take (k+1)=Z.toList.take k++[v]:=by
   rw [List.take_add_one,List.getElem?_set_self hk,List.take_set_of_le (Nat.le_refl k)]
   rfl
  have e2:(Z.toList.set k v).drop (k+1+l.length)=Z.toList.drop (k+(l.length+1)):=by
   rw [List.drop_set_of_lt (by omega)];congr 1;omega
  rw [e1,e2];simp
theorem aay (place:Nat→Option (Nat × Nat)) (A Z:Array Value) (n:Nat) (hp:place 0=some (0,n)) (hA:A.size=n) (hZ:n≤Z.size):Instr.fill place Z [(0,.agg A)]=some (A.toList++Z.toList.drop n).toArray:=by
 have h:=oa A.toList 0 Z (by simp;omega);unfold Instr.fill;rw [hp];dsimp only;split
 ·rename_i hh
  simp [Value.cells,hA] at hh;omega
 unfold Instr.fill;congr 1;show Array.foldl (fun (cs:Array Value) (x:Value × Nat)=>cs.setIfInBounds (0+x.2) x.1) Z A.zipIdx=_;rw [← Array.foldl_toList,Array.toList_zipIdx];rw [h];simp [hA]
def sm:Array Value:=(List.replicate 256 (Value.int .u8 0)++[Value.slice none 0 0]).toArray
theorem Tryz.uV:(prog.info? 125).map (fun i=>(i.zero,i.size))=some (some (.agg sm),257):=by kernel_rfl
theorem ajy:sm.toList.drop 256 = [Value.slice none 0 0]:=by
 unfold sm;rw [List.drop_append_of_le_length (by rw [List.length_replicate];exact Nat.le_refl _),List.drop_of_length_le (by rw [List.length_replicate];exact Nat.le_refl _)]
 rfl
theorem aiJ:sm.size=257:=by
 unfold sm;rw [List.size_toArray,List.length_append,List.length_replicate]
 rfl
attribute [irreducible] sm
theorem Tryz.oR:(match prog.underlying 125 with
  | some (.struct fields)=>fields.toList.mapM (fun f=>(prog.info? f.type).map fun i=>(f.offset,i.size))
  | _=>none)=some [(0,256),(256,1)]:=by kernel_rfl
theorem oM (A:Array Value) (hA:A.size=256):prog.built 125 [(0,.agg A)]=some (A.push (.slice none 0 0)):=by
 unfold Program.built;have hz:=Tryz.uV;have hp:=Tryz.oR;cases hi:prog.info? 125 with
 | none=>rw [hi] at hz;cases hz
 | some i =>
  rw [hi] at hz;simp only [Option.map_some,Option.some.injEq,Prod.mk.injEq] at hz;cases hu:prog.underlying 125 with
  | none=>rw [hu] at hp;cases hp
  | some d =>
   rw [hu] at hp;cases d<;>try (exact absurd hp (fun h=>by cases h))
   case struct fields =>
    dsimp only at hp ⊢;rw [hz.1,hp];dsimp only;rw [aay _ A _ 256 rfl hA (by show 256≤sm.size;rw [aiJ];omega)];show some (A.toList++sm.toList.drop 256).toArray=_;rw [ajy];refine congrArg some ?_;apply Array.ext'
    simp
end
end Go.Proofs.YthgjfjmampmiiaaGreatDoor

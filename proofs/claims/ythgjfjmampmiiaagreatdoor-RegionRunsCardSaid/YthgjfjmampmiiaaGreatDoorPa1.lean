/-
  PaA, PaL, PaB, PaC, PaD, PaE, PaF (merged)
-/
import Derived.Test.YthgjfjmampmiiaaGreatDoorNa2
namespace Go.Proofs.YthgjfjmampmiiaaGreatDoor
open Go.Proofs.Tryz
set_option maxHeartbeats 1000000
set_option maxRecDepth 100000
section
open Go.RowKit
namespace Pk
def aT (n:Int):Prop:=-9223372036854775808≤n∧n≤9223372036854775807
def e8 (k:Int) (j:Nat):List Int:=(List.range j).map fun i=>k / 256 ^ (7-i) % 256
theorem bF (k:Int) (j:Nat):(e8 k j).length=j:=by simp [e8]
theorem acD (k:Int) (j:Nat):e8 k (j+1)=e8 k j++[k / 256 ^ (7-j) % 256]:=by simp [e8,List.range_succ]
theorem pA (k:Int) (j:Nat):ai.aY (e8 k j):=fun x hx=>by
 simp only [e8,List.mem_map] at hx;obtain ⟨i,_,rfl⟩:=hx;omega
theorem sD (k:Int):e8 k 8 = [k / 72057594037927936 % 256,k / 281474976710656 % 256,k / 1099511627776 % 256,k / 4294967296 % 256,k / 16777216 % 256,k / 65536 % 256,k / 256 % 256,k % 256]:=by
 simp [e8,List.range_succ]
def be (L:List Int):Int:=L.foldl (fun v x=>v*256+x) 0
theorem abj:be []=0:=rfl
theorem oZ (L:List Int) (x:Int):be (L++[x])=be L*256+x:=by simp [be]
def j4 (L:List Int):Int:=(be L+9223372036854775808) % 18446744073709551616-9223372036854775808
theorem aaG (L:List Int):aT (j4 L):=by
 have h:=Int.emod_nonneg (be L+9223372036854775808) (b:=18446744073709551616) (by decide);have h2:=Int.emod_lt_of_pos (be L+9223372036854775808) (b:=18446744073709551616) (by decide);unfold j4 aT;omega
theorem oO {k:Int} (h:aT k):j4 (e8 k 8)=k:=by
 unfold aT at h;rw [j4,sD];simp only [be,List.foldl_cons,List.foldl_nil];obtain ⟨q1,h1⟩:∃ q,k / 256=q:=⟨_,rfl⟩;obtain ⟨q2,h2⟩:∃ q,k / 65536=q:=⟨_,rfl⟩;obtain ⟨q3,h3⟩:∃ q,k / 16777216=q:=⟨_,rfl⟩;obtain ⟨q4,h4⟩:∃ q,k / 4294967296=q:=⟨_,rfl⟩;obtain ⟨q5,h5⟩:∃ q,k / 1099511627776=q:=⟨_,rfl⟩;obtain ⟨q6,h6⟩:∃ q,k / 281474976710656=q:=⟨_,rfl⟩;obtain ⟨q7,h7⟩:∃ q,k / 72057594037927936=q:=⟨_,rfl⟩;have e2:q1 / 256=q2:=by omega
 have e3:q2 / 256=q3:=by omega
 have e4:q3 / 256=q4:=by omega
 have e5:q4 / 256=q5:=by omega
 have e6:q5 / 256=q6:=by omega
 have e7:q6 / 256=q7:=by omega
 rw [h1,h2,h3,h4,h5,h6,h7];clear h2 h3 h4 h5 h6 h7;have f7:((((((((0*256+q7 % 256)*256+q6 % 256)*256+q5 % 256)*256+q4 % 256)*256+q3 % 256)*256+q2 % 256)*256+q1 % 256)*256+k % 256)=k-(q7-q7 % 256)*72057594037927936:=by omega
 rw [f7];have g7:q7-q7 % 256=256*(q7 / 256):=by omega
 rw [g7];clear f7 e2 e3 e4 e5 e6 e7;omega
theorem sA {L:List Int} (hb:ai.aY L):∀ k,k≤L.length→0≤be (L.take k)∧be (L.take k)<256 ^ k
 | 0,_=>by simp [be]
 | k+1,h=>by
  have hi:=sA hb k (by omega);have hx:0≤L.getD k 0∧L.getD k 0≤255:=by
   rw [List.getD_eq_getElem?_getD,List.getElem?_eq_getElem (by omega)];exact hb _ (List.getElem_mem _)
  rw [← b8 L k (by omega),oZ,Int.pow_succ];omega
theorem or8 (y x:Int) (h0:0≤x) (h1:x≤255):bits .or .i64 ((y*256+9223372036854775808) % 18446744073709551616-9223372036854775808) x=(y*256+x+9223372036854775808) % 18446744073709551616-9223372036854775808:=by
 obtain ⟨b,rfl⟩:=Int.eq_ofNat_of_zero_le h0;have hb:b<256:=by omega
 obtain ⟨A,hA⟩:∃ A:Nat,(A:Int)=y*256 % 18446744073709551616:=⟨(y*256 % 18446744073709551616).toNat,by omega⟩;have Fv:A<18446744073709551616:=by omega
 have CD:A=2 ^ 8*(A / 256):=by omega
 have ea:BitVec.ofInt 64 ((y*256+9223372036854775808) % 18446744073709551616-9223372036854775808)=BitVec.ofNat 64 A:=by
  rw [← BitVec.ofInt_natCast];apply BitVec.eq_of_toInt_eq
  rw [BitVec.toInt_ofInt,BitVec.toInt_ofInt];simp only [Int.bmod_def];omega
 have eo:(BitVec.ofNat 64 A ||| BitVec.ofInt 64 (b:Int)).toNat=A+b:=by
  rw [BitVec.ofInt_natCast,BitVec.toNat_or,BitVec.toNat_ofNat,BitVec.toNat_ofNat,Nat.mod_eq_of_lt (by omega),Nat.mod_eq_of_lt (by omega)]
  conv=>lhs;rw [CD]
  rw [← Nat.two_pow_add_eq_or_of_lt (by omega)];omega
 have:bits .or .i64 ((y*256+9223372036854775808) % 18446744073709551616-9223372036854775808) (b:Int)=IntKind.i64.wrap ((A+b:Nat):Int):=by
  rw [← eo,← ea]
  rfl
 rw [this,IntKind.wrap_i64];omega
def nx (n:Nat) (L:List Int):List Int:=if L.length<n then [] else L.drop n
def nb (n:Nat) (L:List Int) (b:Bool):Bool:=if L.length<n then true else b
def vb (L:List Int):Int:=L.getD 0 0
def vi (L:List Int):Int:=if L.length<8 then 0 else j4 (L.take 8)
def vs (L:List Int):List Int:=if L.length<32 then List.replicate 32 0 else L.take 32
def vr (L:List Int):Int × List Int:=if L.length<40 then (0,List.replicate 32 0) else (j4 (L.take 8),(L.drop 8).take 32)
theorem vB (n:Nat) (L:List Int):(nx n L).length≤L.length:=by unfold nx;split<;>simp
theorem af0 {n:Nat} {L:List Int} (h:ai.aY L):ai.aY (nx n L):=by
 unfold nx;split
 ·intro x hx;simp at hx
 ·exact fun x hx=>h x (List.mem_of_mem_drop hx)
theorem uR (L:List Int):(vs L).length=32:=by
 unfold vs;split
 ·simp
 ·simp;omega
theorem abL (L:List Int):(vr L).2.length=32:=by
 unfold vr;split
 ·simp
 ·simp;omega
theorem ahV (L:List Int) (h:40≤L.length):vr L=(vi L,vs (nx 8 L)):=by
 unfold vr vi vs nx;have h2:¬ (L.drop 8).length<32:=by simp;omega
 simp only [if_neg (show ¬ L.length<40 by omega),if_neg (show ¬ L.length<8 by omega),if_neg h2]
theorem ah1 (L:List Int) (h:40≤L.length):nx 40 L=nx 32 (nx 8 L):=by
 unfold nx;have h2:¬ (L.drop 8).length<32:=by simp;omega
 simp only [if_neg (show ¬ L.length<40 by omega),if_neg (show ¬ L.length<8 by omega),if_neg h2,List.drop_drop]
theorem aih (L:List Int) (b:Bool) (h:40≤L.length):nb 40 L b=nb 32 (nx 8 L) (nb 8 L b):=by
 unfold nb nx;have h2:¬ (L.drop 8).length<32:=by simp;omega
 simp only [if_neg (show ¬ L.length<40 by omega),if_neg (show ¬ L.length<8 by omega),if_neg h2]
attribute [irreducible] be j4 e8 nx nb vb vi vs vr
end Pk
end
section
open Go.ChangeShapes Go.WideShapes Go.RowKit
theorem fc {w y:World} {B e s n:Nat} {v:Value} {xs:List Value} (h:w.ownsRow B e s v n xs) (hk:∀ g,v.ownBlock=some g→y.heap[g]?=w.heap[g]?):y.ownsRow B e s v n xs:=by
 refine ⟨h.1,?_⟩;rcases h.2 with h1 | ⟨g,cap,cur,h1,h2,h3,h4⟩
 ·exact Or.inl h1
 ·exact Or.inr ⟨g,cap,cur,h1,h2,(hk g (by rw [h1];rfl)).trans h3,h4⟩
theorem dY {w:World} {B e s n:Nat} {v:Value} {xs:List Value} (h:w.ownsRow B e s v n xs):∀ g,v.ownBlock=some g→B≤g∧∃ cur,w.heap[g]?=qo cur e:=by
 intro g hg;rcases h.2 with ⟨h1,_⟩ | ⟨q,cap,cur,h1,h2,h3,h4⟩
 ·rw [h1] at hg;cases hg
 ·rw [h1] at hg;cases hg;exact ⟨h2,cur,h3⟩
theorem fZ {w:World} {B B' n:Nat} {e:TypeId} {v:Value} {xs:List Value} (h:w.ownsRow B e 1 v n xs) (hB:B'≤B):w.ownsRow B' e 1 v n xs:=by
 refine ⟨h.1,?_⟩;rcases h.2 with h1 | ⟨g,cap,cur,h1,h2,h3⟩
 ·exact Or.inl h1
 ·exact Or.inr ⟨g,cap,cur,h1,Nat.le_trans hB h2,h3⟩
theorem uv (L:List Int) (p:Option Addr) (n c:Nat) (hn:L.length=n) (hL:n≤1000000) (w:World) (hp:Bs w p c L) :
  qc 50 #[.slice p n c] w fun e w'=>∃ v,e = .returned v∧w'.ownsRow w.heap.size 5 1 v n (aC L)∧qw w w':=by
 have Hp:=qh hp;clear hp;have hq:=fun (p:Option Addr) (n c:Nat) (w:World)=>oY p n c w;cases p with
 | none =>
  obtain ⟨rfl,rfl⟩:=Hp.out.nil rfl;obtain rfl:n=0:=by simpa using hn.symm
  go_enter func50,ntmps50;go_wp2;go_ret;exact ⟨_,rfl,by unfold aC;exact World.ownsRow_nil _ _ _ _,Below.refl _ _⟩
 | some ad =>
  have HO:Hid ((w.alloc (.cells #[] 5)).ownsRow w.heap.size 5 1 (.slice (some ⟨w.heap.size,0,none⟩) 0 0) 0 (aC [])):=by
   refine ⟨by unfold aC;rfl,Or.inr ⟨w.heap.size,0,_,rfl,Nat.le_refl _,heap_alloc_new w _,Nat.le_refl _,by unfold maxLen;omega,by simp,by unfold aC;simp⟩⟩
  have HB:Hid (qw w (w.alloc (.cells #[] 5))):=qb w _;have Bl:Hid (Bs (w.alloc (.cells #[] 5)) (some ad) c L):=Hp.out.av HB.out;have HN:=qh hn;clear hn;go_enter func50,ntmps50;go_wp2_with (first
   | (at_builtin;refine bV _ _ L w.heap.size _ _ _ (some ad) _ c rfl rfl HN.out Bl.out HO.out (by omega) (by simp) ?_;intro v5 w5 CF CE;have HO5:=qh CF;have Di:=qh CE;clear CF CE)
   | go_in)
  go_ret;refine ⟨_,rfl,?_,HB.out.grown Di.out (by simp) (fun q hq=>(HO.out.lt q hq).1)⟩;have h:=HO5.out;rw [Nat.zero_add,List.nil_append] at h;exact h
theorem wK {α:Type} {Q:Nat→α→Prop}:∀ n:Nat,(∀ i,i<n→∃ x,Q i x)→∃ L:List α,L.length=n∧∀ (r:Nat) (x:α),L[r]?=some x→Q r x
 | 0,_=>⟨[],rfl,fun r x h=>by simp at h⟩
 | n+1,h=>by
  obtain ⟨L,hl,hq⟩:=wK n (fun i hi=>h i (by omega));obtain ⟨x,hx⟩:=h n (by omega);refine ⟨L++[x],by simp [hl],fun r y hy=>?_⟩;by_cases hr:r<L.length
  ·rw [List.getElem?_append_left hr] at hy;exact hq r y hy
  ·rw [List.getElem?_append_right (by omega)] at hy;have h0:r-L.length=0:=by
    by_cases q:r-L.length=0
    ·exact q
    ·rw [List.getElem?_eq_none (by simp;omega)] at hy;cases hy
   rw [h0] at hy;obtain rfl:x=y:=by simpa using hy
   have:r=n:=by omega
   rw [this];exact hx
theorem cX.oh {w:World} {ab ao k:Nat} {l:List Int} (h:cX w (some ⟨ab,ao,none⟩) l) (hk:k<l.length):cX w (some ⟨ab,ao+k,none⟩) (l.drop k):=by
 refine ⟨fun x hx=>h.1 x (List.mem_of_mem_drop hx),fun _=>?_⟩;obtain ⟨b',o',h1,h2⟩:=h.2 (by omega);cases h1
 refine ⟨ab,ao+k,rfl,fun j hj=>?_⟩;rw [List.length_drop] at hj;rw [Nat.add_assoc,h2 (k+j) (by omega)];simp [List.getD_eq_getElem?_getD]
theorem Bs.take {w:World} {p:Option Addr} {c:Nat} {l:List Int} (h:Bs w p c l) (k:Nat):Bs w p c (l.take k) :=
 ⟨h.bat.take k,by have:=h.cap;rw [List.length_take];omega,fun e=>by have h1:=h.nil e;exact ⟨by rw [h1.1,List.take_nil],h1.2⟩⟩
theorem Bs.oh {w:World} {ab ao c k:Nat} {l:List Int} (h:Bs w (some ⟨ab,ao,none⟩) c l) (hk:k<l.length):Bs w (some ⟨ab,ao+k,none⟩) (c-k) (l.drop k) :=
 ⟨h.bat.oh hk,by have:=h.cap;rw [List.length_drop];omega,fun e=>by cases e⟩
end
section
open Go.RowKit
theorem Tryz.bm:(prog.info? 41).map (·.size)=some 33:=by kernel_rfl
def fU (r:Int × List Int):Value:=.agg (Value.int .i64 r.1 :: r.2.map (Value.int .u8)).toArray
def aX (R:List Int) (m:Nat) (w:World) (e:Ending) (w':World):Prop :=
 ∃ p c,e = .returned (.slice p m c)∧Hid (w'.ownsRow w.heap.size 5 1 (.slice p m c) m (aC R))∧Hid (Bs w' p c R)∧Hid (qw w w')
theorem fB (q:Nat) (p0 p1:Option Addr) (n0 n1 c0 c1:Nat) (l0 l1:List Int) (m:Nat) (e0:l0.length=n0) (e1:l1.length=n1) (em:n0+n1=m) (x:World) (hq:x.heap[q]?=qo #[.slice p0 n0 c0,.slice p1 n1 c1] 22) (h0:Bs x p0 c0 l0) (h1:Bs x p1 c1 l1) (hl:m≤1000000000) :
  qc 109 #[.slice (some ⟨q,0,none⟩) 2 2] x (aX (l0++l1) m x):=by
 have e:an.cat (fun k=>match k with | 0=>l0 | _=>l1) 2=l0++l1:=by unfold an.cat an.cat an.cat;simp
 have h:=ji (fun k=>match k with | 0=>p0 | _=>p1) (fun k=>match k with | 0=>c0 | _=>c1) (fun k=>match k with | 0=>l0 | _=>l1) 2 q (by omega) x
  (fun k hk=>by
   rw [cell_of_row x q k _ _ _ hq];rcases k with _ | _ | k
   ·simp [e0]
   ·simp [e1]
   ·omega)
  (fun k hk=>by
   rcases k with _ | _ | k
   ·exact h0
   ·exact h1
   ·omega)
  (by rw [e];simp only [List.length_append];omega)
 rw [e] at h;refine h.mono ?_;rintro e2 w' ⟨v,rfl,ho,hb⟩;obtain ⟨p,c,rfl,hbs,hlen⟩:=bH ho (ai.aP h0.bat.1 h1.bat.1);have hm:(l0++l1).length=m:=by simp only [List.length_append];omega
 rw [hm] at ho ⊢;exact ⟨p,c,rfl,ho,hbs,hb⟩
namespace Pk
def tb (n:Int):Nat→List Int
 | 0=>List.replicate 8 0
 | k+1=>(tb n k).set (7-k) (n / 256 ^ k % 256)
theorem uP (n:Int) (k:Nat):(tb n k).length=8:=by
 induction k with
 | zero=>rfl
 | succ k ih=>rw [tb,List.length_set,ih]
theorem uK (n:Int):tb n 8=e8 n 8:=by rw [sD];simp [tb]
theorem pH (n:Int):(tb n 0).map (Value.int .u8)=List.replicate 8 (Value.int .u8 0):=by simp [tb]
theorem aey (n:Int) (k:Nat):(tb n k).set (7-k) (n / 256 ^ k % 256)=tb n (k+1):=rfl
attribute [irreducible] tb
end Pk
theorem dU (L:List Int) (v:Int) (p:Option Addr) (n c m:Nat) (hn:L.length=n) (hm:n+8=m) (hL:n≤1000000) (w:World) (hp:Bs w p c L) :
  qc 60 #[.slice p n c,.int .i64 v] w (aX (L++Pk.e8 v 8) m w):=by
 have HP:=qh hp;clear hp;have HN:=qh hn;clear hn;have G0:Hid ((w.alloc (.cells (List.replicate 8 (Value.int .u8 0)).toArray 154)).heap[w.heap.size]?=qo ((Pk.tb v 0).map (Value.int .u8)).toArray 154):=by
  show _=_;rw [Pk.pH];exact heap_alloc_new w _
 have B0:Hid (qw w (w.alloc (.cells (List.replicate 8 (Value.int .u8 0)).toArray 154))):=qb w _;go_enter func60,ntmps60;go_wp2;go_loopw [7] (fun v7 wr=>∃ k:Nat,k≤8∧v7 = .int .i64 k∧Hid (wr.heap[w.heap.size]?=qo ((Pk.tb v k).map (Value.int .u8)).toArray 154)∧Hid (qw w wr)) (fun v7 _=>8-(intOf v7).toNat)
 case atStart=>exact ⟨0,by omega,rfl,G0.out,B0.out⟩
 case round =>
  clear G0 B0;obtain ⟨k,hk,rfl,HG,HB⟩:=hrel;by_cases Ae:k<8
  ·have Ba:IntKind.i64.wrap (7-(k:Int))=7-(k:Int):=IntWalk.i64_in _ ⟨by omega,by omega⟩;have AH:IntKind.i64.wrap (8*(k:Int))=8*(k:Int):=IntWalk.i64_in _ ⟨by omega,by omega⟩;have GU:0≤7-(k:Int):=by omega
   have Jj:7-(k:Int)<8:=by omega
   have Jk:(7-(k:Int)).toNat=7-k:=by omega
   have EP:(k:Int)<8:=by omega
   have Ra:0≤8*(k:Int):=by omega
   have TY:8*(k:Int)≤64:=by omega
   have Rb:(2:Int) ^ (8*(k:Int)).toNat=256 ^ k:=by
    rw [show (8*(k:Int)).toNat=8*k by omega,Int.pow_mul]
    rfl
   have c0:=cZ HG.out (7-k) (by rw [Pk.uP];omega);have f0:=frozen_of_row wr w.heap.size (7-k) _ _ HG.out;generalize (Pk.tb v k).getD (7-k) 0=y0 at c0;go_wp2;refine ⟨⟨k+1,by omega,by go_num,?_,HB.out.setCell (by simp) _⟩,by simp [intOf];omega⟩;have h2:=iN (i:=7-k) (x:=v / 256 ^ k % 256) HG.out;rw [Pk.aey] at h2;exact h2
  ·obtain rfl:k=8:=by omega
   have HA:Hid (Bs wr (some ⟨w.heap.size,0,none⟩) 8 (Pk.e8 v 8)):=by
    have h:=HG.out;rw [Pk.uK] at h;exact eK (cU h (Pk.pA _ _)) ⟨by rw [Pk.bF];omega,by omega⟩
   have Sh:Hid (Bs wr p c L):=HP.out.av HB.out;clear Ae;have B2:Hid (qw wr (wr.alloc (.cells #[.slice p n c,.slice (some ⟨w.heap.size,0,none⟩) 8 8] 22))):=qb wr _;have HC:Hid (qc 109 #[.slice (some ⟨wr.heap.size,0,none⟩) 2 2] (wr.alloc (.cells #[.slice p n c,.slice (some ⟨w.heap.size,0,none⟩) 8 8] 22)) (aX (L++Pk.e8 v 8) m (wr.alloc (.cells #[.slice p n c,.slice (some ⟨w.heap.size,0,none⟩) 8 8] 22)))) :=
    fB wr.heap.size p (some ⟨w.heap.size,0,none⟩) n 8 c 8 L (Pk.e8 v 8) m HN.out (Pk.bF _ _) hm _ (heap_alloc_new wr _) (Sh.out.av B2.out) (HA.out.av B2.out) (by omega)
   have Ag:Hid (qw w (wr.alloc (.cells #[.slice p n c,.slice (some ⟨w.heap.size,0,none⟩) 8 8] 22))):=HB.out.trans (B2.out.mono HB.out.size);go_wp2_with (go_at_call 109;refine HC.out.mono ?_;rintro e1 w1 ⟨p1,c1,rfl,Ax,Ai,Bg⟩)
   go_ret;refine ⟨p1,c1,rfl,?_,Ai.out,?_⟩
   ·have h:=fZ Ax.out Ag.out.size;exact h
   ·have h:=Ag.out.trans (Bg.out.mono Ag.out.size);exact h
end
section
open Go.RowKit
theorem jP (L S:List Int) (hS:S.length=32) (hb:ai.aY S) (p:Option Addr) (n c m:Nat) (hn:L.length=n) (hm:n+32=m) (hL:n≤1000000) (w:World) (hp:Bs w p c L) :
  qc 62 #[.slice p n c,dz S] w (aX (L++S) m w):=by
 have HP:=qh hp;clear hp;have HN:=qh hn;clear hn;obtain ⟨A,hA⟩:∃ A,(S.map (Value.int .u8)).toArray=A:=⟨_,rfl⟩;have Aw:Hid (A.size=32):=by show _=_;rw [← hA];simp [hS]
 have Bj:=ae Tryz.ar Aw;have h1:A.all (·.oneCell')=true:=by
  rw [← hA,Array.all_eq_true_iff_forall_mem];intro v hv;exact aw S v (by simpa using hv)
 have B0:Hid (qw w (w.alloc (.cells A 39))):=qb w _;have Ai:Hid (Bs (w.alloc (.cells A 39)) (some ⟨w.heap.size,0,none⟩) 32 S):=by
  have h:=heap_alloc_new w (.cells A 39);rw [← hA] at h ⊢;exact eK (cU h hb) ⟨by omega,by omega⟩
 have Lj:Hid (Bs (w.alloc (.cells A 39)) p c L):=HP.out.av B0.out;unfold dz;rw [hA];clear hA;go_enter func62,ntmps62;have B2:Hid (Below (w.alloc (.cells A 39)).heap.size (w.alloc (.cells A 39)) ((w.alloc (.cells A 39)).alloc (.cells #[.slice p n c,.slice (some ⟨w.heap.size,0,none⟩) 32 32] 22))):=qb _ _;have HC:Hid (qc 109 #[.slice (some ⟨w.heap.size+1,0,none⟩) 2 2] ((w.alloc (.cells A 39)).alloc (.cells #[.slice p n c,.slice (some ⟨w.heap.size,0,none⟩) 32 32] 22)) (aX (L++S) m ((w.alloc (.cells A 39)).alloc (.cells #[.slice p n c,.slice (some ⟨w.heap.size,0,none⟩) 32 32] 22)))) :=
  fB (w.heap.size+1) p (some ⟨w.heap.size,0,none⟩) n 32 c 32 L S m HN.out hS hm _ (heap_alloc2_new w _ _) (Lj.out.av B2.out) (Ai.out.av B2.out) (by omega)
 have Ag:Hid (qw w ((w.alloc (.cells A 39)).alloc (.cells #[.slice p n c,.slice (some ⟨w.heap.size,0,none⟩) 32 32] 22))):=B0.out.trans (B2.out.mono B0.out.size);go_wp2_with (go_at_call 109;refine HC.out.mono ?_;rintro e1 w1 ⟨p1,c1,rfl,Ax,Ai,Bg⟩)
 go_ret;refine ⟨p1,c1,rfl,?_,Ai.out,?_⟩
 ·have h:=fZ Ax.out Ag.out.size;exact h
 ·have h:=Ag.out.trans (Bg.out.mono Ag.out.size);exact h
end
section
open Go.RowKit
theorem n7 {P:Program} {a:Act} {w:World} {D:Option Tmp} {T:TypeId} {ps:String} {af:Array Edge} {gd:Option (Nat × Bool)} (ty:TypeId) (x:Operand) (b o:Nat) (A:Array Value) (d:TypeDesc) (hx:a.eval x = .pointer (some ⟨b,o,none⟩)) (hc:w.rangeAt b o A.toList)
  (hu:P.underlying ty=some d) (hd:d.isRow=true) (hi:(P.info? ty).map (·.size)=some A.size) :
  (execOp a.eval { dst:=D,op:=.load ty x,type:=T,pos:=ps,after:=af,guard:=gd }).run P w = .ok (.value (.agg A)) w:=by
 have h:=run_loadAt_mid (P:=P) w b o ty A.toList d hc hu hd (by simpa using hi);unfold execOp;simp only [hx,h,Sem.run_bind,Sem.run_pure,Result.andThen_ok,Array.toArray_toList]
theorem all_oneCell_toArray {l:List Value} (h:∀ v∈l,v.oneCell'=true):l.toArray.all (·.oneCell')=true:=by
 rw [Array.all_eq_true_iff_forall_mem];intro v hv;exact h v (by simpa using hv)
def Pk.ref (r:Int × List Int):List Int:=Pk.e8 r.1 8++r.2
theorem aer (L:List Int) (r:Int × List Int) (hS:r.2.length=32) (hb:ai.aY r.2) (p:Option Addr) (n c m:Nat) (hn:L.length=n) (hm:n+40=m) (hL:n≤900000) (w:World) (hp:Bs w p c L) :
  qc 61 #[.slice p n c,fU r] w (aX (L++Pk.ref r) m w):=by
 have HP:=qh hp;clear hp;have HN:=qh hn;clear hn;obtain ⟨k,S⟩:=r;have Ek:Hid (S.length=32):=hS;have Il:Hid (ai.aY S):=hb;clear hS hb;obtain ⟨A,An⟩:∃ A,Hid (A=(S.map (Value.int .u8)).toArray):=⟨_,rfl⟩;have Ak:Hid (A.size=32):=by show _=_;rw [An.out];simp [Ek.out]
 obtain ⟨B,Ai⟩:∃ B,Hid (B=(Value.int .i64 k :: S.map (Value.int .u8)).toArray):=⟨_,rfl⟩;have Aj:Hid (B.size=33):=by show _=_;rw [Ai.out];simp [Ek.out]
 have Bj:=ae Tryz.bm Aj;have h1:B.all (·.oneCell')=true:=by
  rw [Ai.out];apply all_oneCell_toArray
  intro v hv;simp at hv;rcases hv with rfl | ⟨x,_,rfl⟩<;>rfl
 have R0:Hid ((w.alloc (.cells B 41)).heap[w.heap.size]?=qo B 41):=heap_alloc_new w _;have B0:Hid (qw w (w.alloc (.cells B 41))):=qb w _;have HK:Hid (∀ y,Below (w.alloc (.cells B 41)).heap.size (w.alloc (.cells B 41)) y→y.cell? ⟨w.heap.size,0,none⟩=some (.int .i64 k)∧y.rangeAt w.heap.size 1 A.toList):=fun y hy=>by
  have h:=(hy.block w.heap.size (by simp)).trans R0.out;rw [Ai.out] at h;constructor
  ·rw [cell_of_row y w.heap.size 0 _ _ _ h];rfl
  ·intro j v hv;rw [cell_of_row y w.heap.size (1+j) _ _ _ h,Nat.add_comm];rw [An.out] at hv;simpa using hv
 have e33:fU (k,S) = .agg B:=by unfold fU;rw [Ai.out]
 have e32:dz S = .agg A:=by unfold dz;rw [An.out]
 have Kh:Hid (∀ y,qw w y→qc 60 #[.slice p n c,.int .i64 k] y (aX (L++Pk.e8 k 8) (n+8) y)):=fun y hy=>dU L k p n c (n+8) HN.out rfl (by omega) y (HP.out.av hy);have ES:Hid (∀ y p1 c1,Bs y p1 c1 (L++Pk.e8 k 8)→qc 62 #[.slice p1 (n+8) c1,.agg A] y (aX (L++Pk.ref (k,S)) m y)):=fun y p1 c1 hy=>by
  rw [← e32,Pk.ref,← List.append_assoc];exact jP (L++Pk.e8 k 8) S Ek.out Il.out p1 (n+8) c1 m (by simp only [List.length_append,Pk.bF];rw [HN.out]) (by omega) (by omega) y hy
 clear Ai An;rw [e33];go_enter func61,ntmps61;go_upto_region 1 with (fail)
 refine wp_region_any (by kernel_rfl) ?_;change wpAny _ _ _ _ _ _ _ (World.drew _);obtain ⟨w1,hw1e⟩:∃ x,x=(w.alloc (.cells B 41)).drew:=⟨_,rfl⟩;have B1:Hid (qw w w1):=by rw [hw1e];exact B0.out.drew
 have B1':Hid (Below (w.alloc (.cells B 41)).heap.size (w.alloc (.cells B 41)) w1):=by rw [hw1e];exact (Below.refl _ _).drew
 rw [← hw1e];clear hw1e;refine wpAny_of_held (S:=fun y=>y.cell? ⟨w.heap.size,0,none⟩=some (.int .i64 k)∧y.rangeAt w.heap.size 1 A.toList) _ _ _ _ ?_;have SD:=HK.out _ B1'.out;refine aS 0 5 (.slice p n c) SD rfl (by intro x hx;go_simp) ?_;refine aS 1 6 (qp w.heap.size) SD rfl (by intro x hx;go_simp) ?_;refine aS 2 7 (.int .i64 k) SD rfl (by intro x hx;have h0:=hx.1;go_simp) ?_;refine aS 4 9 (.pointer (some ⟨w.heap.size,1,none⟩)) SD rfl (by intro x hx;go_simp) ?_;refine aS 5 10 (.agg A) SD rfl (fun x hx=>n7 39 (.tmp 9) w.heap.size 1 A _ rfl hx.2 underlying39 rfl (ae Tryz.ar Ak)) ?_;refine aD 3 (by kernel_rfl) ?_;refine wpOp_step rfl (fun Kc Af=>?_);go_simp;refine (Kh.out _ B1.out).mono ?_;rintro e2 w2 ⟨p2,c2,rfl,AA,Aj,AD⟩;dsimp only;have B2':Hid (Below (w.alloc (.cells B 41)).heap.size (w.alloc (.cells B 41)) w2):=B1'.out.trans (AD.out.mono B1'.out.size);have B2:Hid (qw w w2):=B1.out.trans (AD.out.mono B1.out.size);refine Af _ _ ⟨HK.out _ B2'.out,?_⟩;clear Af Kc SD;try simp only [Act.put,aQ,aR,aO]
 refine aD 6 (by kernel_rfl) ?_;refine wpOp_step rfl (fun Kc Af=>?_);go_simp;refine (ES.out _ _ _ Aj.out).mono ?_;rintro e3 w3 ⟨p3,c3,rfl,Cg,Ao,AV⟩;dsimp only;have B3':Hid (Below (w.alloc (.cells B 41)).heap.size (w.alloc (.cells B 41)) w3):=B2'.out.trans (AV.out.mono B2'.out.size);have B3:Hid (qw w w3):=B2.out.trans (AV.out.mono B2.out.size);refine Af _ _ ⟨HK.out _ B3'.out,?_⟩;clear Af Kc;try simp only [Act.put,aQ,aR,aO]
 have SD:=HK.out _ B3'.out;refine aD 7 (by kernel_rfl) ?_;refine wpOp_step rfl (fun Kc Af=>?_);go_simp;refine Af _ _ ⟨SD,?_⟩;clear Af Kc;refine wpAnyH_done (by kernel_rfl) ?_ _;go_wp2;go_ret;refine ⟨p3,c3,rfl,?_,Ao.out,B3.out⟩;have h:=fZ Cg.out B2.out.size;exact h
end
section
open Go.RowKit
structure cR (w:World) (g:Nat) (D:Option Nat) (L:List Int) (b:Bool):Prop where
 row:∃ p c,w.heap[g]?=qo #[.slice p L.length c,.bool b] 178∧Bs w p c L∧(∀ ad,p=some ad→D=some ad.block)
 ne:D ≠ some g
 lt:∀ d,D=some d→d<w.heap.size
theorem cR.glt {w:World} {g:Nat} {D:Option Nat} {L:List Int} {b:Bool} (h:cR w g D L b):g<w.heap.size:=by
 obtain ⟨p,c,h1,_⟩:=h.row;exact lt_of_block h1
theorem Bs.only {w x:World} {p:Option Addr} {c k:Nat} {L:List Int} (h:Bs w p c L) (ho:aE k w x) (hk:∀ ad,p=some ad→ad.block ≠ k):Bs x p c L :=
 ⟨⟨h.bat.1,fun h0=>by
  obtain ⟨ab,ao,h1,h2⟩:=h.bat.2 h0;exact ⟨ab,ao,h1,fun j hj=>ho.cell (hk _ h1) (h2 j hj)⟩⟩,h.cap,h.nil⟩
theorem cR.only {w x:World} {g k:Nat} {D:Option Nat} {L:List Int} {b:Bool} (h:cR w g D L b) (ho:aE k w x) (hk:k ≠ g) (hd:D ≠ some k):cR x g D L b:=by
 obtain ⟨⟨p,c,h1,h2,h3⟩,h4,h5⟩:=h;exact ⟨⟨p,c,(ho.block g (lt_of_block h1) (Ne.symm hk)).trans h1,h2.only ho (fun ad ha e=>hd (by rw [h3 ad ha,e])),h3⟩,h4,fun d hd=>Nat.lt_of_lt_of_le (h5 d hd) ho.size⟩
theorem cR.av {w x:World} {g:Nat} {D:Option Nat} {L:List Int} {b:Bool} (h:cR w g D L b) (hb:qw w x):cR x g D L b:=by
 obtain ⟨⟨p,c,h1,h2,h3⟩,h4,h5⟩:=h;exact ⟨⟨p,c,(hb.block g (lt_of_block h1)).trans h1,h2.av hb,h3⟩,h4,fun d hd=>Nat.lt_of_lt_of_le (h5 d hd) hb.size⟩
def vN (L:List Int) (w:World) (e:Ending) (w':World):Prop :=
 ∃ g D,e = .returned (qp g)∧Hid (cR w' g D L false)∧Hid (w.heap.size≤g∧∀ d,D=some d→w.heap.size≤d)∧Hid (qw w w')
theorem rH (L:List Int) (p:Option Addr) (n c:Nat) (hn:L.length=n) (hL:n≤1000000) (w:World) (hp:Bs w p c L) :
  qc 101 #[.slice p n c] w (vN L w):=by
 have HP:=qh hp;clear hp;have HN:=qh hn;have HC:Hid (qc 50 #[.slice p n c] w fun e w'=>∃ v,e = .returned v∧w'.ownsRow w.heap.size 5 1 v n (aC L)∧qw w w'):=uv L p n c hn hL w HP.out;clear hn;go_enter func101,ntmps101;go_wp2_with (first
  | (go_at_call 50;refine HC.out.mono ?_;rintro e1 w1 ⟨v1,rfl,Cz,Ag⟩;have Ax:=qh Cz;have Ai:=qh Ag;clear Cz Ag;obtain ⟨p1,c1,rfl,hbs,_⟩:=bH Ax.out HP.out.bat.1;have Bl:=qh hbs;clear hbs))
 go_ret;have Aq:w1.heap.size<(w1.alloc (.cells #[.slice p1 n c1,.bool false] 178)).heap.size:=by simp
 have Aj:Hid (qw w (w1.alloc (.cells #[.slice p1 n c1,.bool false] 178))):=Ai.out.alloc Ai.out.size _;have Jn:Hid (Bs (w1.alloc (.cells #[.slice p1 n c1,.bool false] 178)) p1 c1 L):=Bl.out.av (qb w1 _);have HD:Hid (∀ d,p1.map (·.block)=some d→w.heap.size≤d∧d<w1.heap.size):=fun d hd=>by
  cases p1 with
  | none=>cases hd
  | some ad =>
   cases hd
   obtain ⟨h2,h1⟩:=Ax.out.lt ad.block rfl;exact ⟨h2,h1⟩
 refine ⟨w1.heap.size,p1.map (·.block),rfl,⟨⟨p1,c1,by rw [HN.out];exact heap_alloc_new w1 _,Jn.out,fun ad h=>by rw [h];rfl⟩,fun h=>?_,fun d hd=>?_⟩,⟨Ai.out.size,fun d hd=>(HD.out d hd).1⟩,Aj.out⟩
 ·have h1:=(HD.out _ h).2;omega
 ·have h1:=(HD.out _ hd).2;omega
def jM (L:List Int) (w:World) (e:Ending) (w':World):Prop:=e = .returned (.int .i64 (L.length:Nat))∧qw w w'
def Pk.en (L:List Int) (b:Bool):Int:=if b then 4 else if 0<L.length then 3 else 0
def lG (n:Int) (w:World) (e:Ending) (w':World):Prop:=e = .returned (.int .i64 n)∧qw w w'
theorem adM (L:List Int) (b:Bool) (g:Nat) (D:Option Nat) (w:World) (hr:cR w g D L b):qc 105 #[qp g] w (lG (Pk.en L b) w):=by
 obtain ⟨p,c,h1,_,_⟩:=hr.row;have c0:w.cell? ⟨g,0,none⟩=some (.slice p L.length c):=by rw [cell_of_row w g 0 _ _ _ h1];rfl
 have c1:w.cell? ⟨g,1,none⟩=some (.bool b):=by rw [cell_of_row w g 1 _ _ _ h1];rfl
 cases b with
 | true =>
  go_enter func105,ntmps105;go_wp2;go_ret;exact ⟨rfl,Below.refl _ _⟩
 | false =>
  by_cases h0:0<L.length
  ·have HE:Hid (Pk.en L false=3):=by show _=_;unfold Pk.en;simp [h0]
   have h0':((L.length:Nat):Int)>0:=by omega
   go_enter func105,ntmps105;go_wp2;go_ret;exact ⟨by rw [HE.out];rfl,Below.refl _ _⟩
  ·have HE:Hid (Pk.en L false=0):=by show _=_;unfold Pk.en;simp [h0]
   have h0':¬ ((L.length:Nat):Int)>0:=by omega
   go_enter func105,ntmps105;go_wp2;go_ret;exact ⟨by rw [HE.out];rfl,Below.refl _ _⟩
end
section
open Go.RowKit
section
variable {P:Program} {ops:Array Oper} {rest:List Oper} {a:Act} {w:World} {Q:Exit→Act→World→Prop} {D:Option Tmp} {T:TypeId} {ps:String} {af:Array Edge}
theorem fR (ty:TypeId) (x:Operand) (b o:Nat) (A:Array Value) (d:TypeDesc) (hx:a.eval x = .pointer (some ⟨b,o,none⟩)) (hc:w.rangeAt b o A.toList)
  (hu:P.underlying ty=some d) (hd:d.isRow=true) (hi:(P.info? ty).map (·.size)=some A.size)
  (h:wpList P ops Q rest (a.put D (.agg A)) w):wpList P ops Q ({ dst:=D,op:=.load ty x,type:=T,pos:=ps,after:=af,guard:=none } :: rest) a w :=
 wpList_load_mid rfl ty x rfl b o hx A.toList d hc hu hd (by simpa using hi) (by simpa using h)
end
theorem tQ (L:List Int) (p:Option Addr) (n c:Nat) (hn:L.length=n) (h0:0<n) (w:World) (hp:Bs w p c L) :
  qc 180 #[.slice p n c] w fun e w'=>e = .returned (.int .u8 (L.getD 0 0))∧w'=w:=by
 obtain ⟨ab,ao,rfl,hc⟩:=hp.bat.2 (by omega);have c0:=hc 0 (by omega);rw [Nat.add_zero] at c0;clear hc;generalize L.getD 0 0=x at *;go_enter func180,ntmps180;go_wp2;go_ret;exact ⟨rfl,rfl⟩
def Pk.pre (L:List Int) (k:Nat):Int:=(Pk.be (L.take k)+9223372036854775808) % 18446744073709551616-9223372036854775808
theorem Pk.acm (L:List Int):Pk.pre L 0=0:=by unfold Pk.pre;rw [List.take_zero,Pk.abj];rfl
theorem Pk.aeb (L:List Int):Pk.pre L L.length=Pk.j4 L:=by unfold Pk.pre Pk.j4;rw [List.take_length]
theorem Pk.aaJ (L:List Int) (hb:ai.aY L) (k:Nat) (hk:k<L.length):bits .or .i64 (wrap64 (Pk.pre L k*256)) (L.getD k 0)=Pk.pre L (k+1):=by
 have hx:0≤L.getD k 0∧L.getD k 0≤255:=by
  rw [List.getD_eq_getElem?_getD,List.getElem?_eq_getElem hk];exact hb _ (List.getElem_mem _)
 have e:Pk.be (L.take (k+1))=Pk.be (L.take k)*256+L.getD k 0:=by rw [← b8 L k hk,Pk.oZ]
 unfold Pk.pre;rw [e,← Pk.or8 _ _ hx.1 hx.2];unfold wrap64;congr 1;omega
attribute [irreducible] Pk.pre
theorem ov (L:List Int) (p:Option Addr) (n c:Nat) (hn:L.length=n) (hL:n≤1000) (w:World) (hp:Bs w p c L) :
  qc 135 #[.slice p n c] w fun e w'=>e = .returned (.int .i64 (Pk.j4 L))∧w'=w:=by
 have HP:=qh hp;clear hp;have HN:=qh hn;clear hn;go_enter func135,ntmps135;go_wp2;go_loopw [3,8] (fun v3 v8 wr=>∃ k:Nat,k≤n∧v8 = .int .i64 k∧v3 = .int .i64 (Pk.pre L k)∧wr=w) (fun _ v8 _=>n-(intOf v8).toNat)
 case atStart=>exact ⟨0,by omega,rfl,by rw [Pk.acm],rfl⟩
 case round =>
  obtain ⟨k,hk,rfl,rfl,rfl⟩:=hrel;by_cases Ae:k<n
  ·obtain ⟨ab,ao,CM,A7⟩:=HP.out.bat.2 (by rw [HN.out];omega);subst CM;have c0:=A7 k (by rw [HN.out];exact Ae);clear A7;have HS:Hid (bits .or .i64 (wrap64 (Pk.pre L k*256)) (L.getD k 0)=Pk.pre L (k+1)):=Pk.aaJ L HP.out.bat.1 k (by rw [HN.out];exact Ae);have GU:=ai.aW HP.out.bat.1 k;generalize L.getD k 0=x at *;generalize Pk.pre L k=y at *;have hw:IntKind.i64.wrap x=x:=IntWalk.i64_in _ ⟨by omega,by omega⟩;have GS:0≤(k:Int):=by omega
   have Jd:(k:Int)<(n:Int):=by omega
   go_wp2;exact ⟨⟨k+1,by omega,by go_num,congrArg (Value.int .i64) HS.out,trivial⟩,by simp [intOf];omega⟩
  ·obtain rfl:k=n:=by omega
   have Bc:¬ ((k:Int)<(k:Int)):=by omega
   have HE:Hid (Pk.pre L k=Pk.j4 L):=by show _=_;rw [← HN.out,Pk.aeb]
   clear Ae;go_wp2;go_ret;exact ⟨by rw [← HE.out];rfl,rfl⟩
theorem oy (L:List Int) (p:Option Addr) (n c:Nat) (hn:L.length=n) (h32:n=32) (w:World) (hp:Bs w p c L) :
  qc 137 #[.slice p n c] w fun e w'=>e = .returned (dz L)∧qw w w':=by
 subst h32;obtain ⟨ab,ao,rfl,hc⟩:=hp.bat.2 (by omega);have HP:=qh hp;clear hp hc;have HN:=qh hn;clear hn;obtain ⟨A,An⟩:∃ A,Hid (A=(L.map (Value.int .u8)).toArray):=⟨_,rfl⟩;have Ak:Hid (A.size=32):=by show _=_;rw [An.out];simp [HN.out]
 have h1:A.all (·.oneCell')=true:=by rw [An.out];exact all_oneCell_toArray (aw _)
 have e32:dz L = .agg A:=by unfold dz;rw [An.out]
 have hat:∀ w,(Instr.arrayAt 39 (.slice (some ⟨ab,ao,none⟩) 32 c)).run prog w = .ok (.pointer (some ⟨ab,ao,none⟩)) w:=fun w=>run_arrayAt _ _ _ 32 _ 32 _ underlying39 qn;have hr:∀ y,qw w y→y.rangeAt ab ao A.toList:=fun y hy j v hv=>by
  obtain ⟨ab',ao',h1,h2⟩:=(HP.out.av hy).bat.2 (by rw [HN.out];omega);cases h1
  rw [An.out] at hv;have hj:j<32:=by
   have:=(List.getElem?_eq_some_iff.1 hv).1;simp [HN.out] at this;omega
  rw [h2 j (by rw [HN.out];exact hj)];have DP:L[j]?.map (Value.int .u8)=some v:=by simpa using hv
  rw [List.getD_eq_getElem?_getD];cases hq:L[j]? with
  | none=>rw [hq] at DP;cases DP
  | some y=>rw [hq] at DP;simpa using DP
 have HR:=qh hr;clear hr An;rw [e32];go_enter func137,ntmps137;have B0:Hid (qw w (w.alloc (.cells (List.replicate 32 (Value.int .u8 0)).toArray 39))):=qb w _;have R0:Hid ((w.alloc (.cells (List.replicate 32 (Value.int .u8 0)).toArray 39)).heap[w.heap.size]?=qo (List.replicate 32 (Value.int .u8 0)).toArray 39):=heap_alloc_new w _;go_wp2_with (first
  | ((with_reducible refine fR _ _ _ _ _ _ ?_ (HR.out _ (qb w _)) underlying39 ?_ (ae Tryz.ar Ak) ?_);(exact rfl);(exact rfl))
  | ((with_reducible refine ak _ _ _ _ _ _ _ ?_ ?_ (heap_alloc_new _ _) (ae Tryz.ar Ak) ?_ h1 ?_);(exact rfl);(exact rfl);(rw [Ak.out];rfl);intro w6 G6 AE))
 refine bodyPost_ret (results_cell_row rfl _ _ w.heap.size 39 A (0,0) _ rfl G6.out underlying39 rfl (ae Tryz.ar Ak)) rfl ⟨rfl,AE.below B0.out qn⟩
end
end Go.Proofs.YthgjfjmampmiiaaGreatDoor

/-
  NaO, NaQ, NaR, NaT, NaU (merged)
-/
import Derived.Test.YthgjfjmampmiiaaGreatDoorNa1
namespace Go.Proofs.YthgjfjmampmiiaaGreatDoor
open Go.Proofs.Tryz
set_option maxHeartbeats 4000000
set_option maxRecDepth 100000
section
open Go.RowKit
namespace Nm
structure St where
 ss:List iZ
 ts:List (List Int)
def St.none:St:=⟨[],[]⟩
def bj (n:Int):Bool:=decide (0≤n)&&decide (n≤1099511627776)
end Nm
structure dH (w:World) (g b c:Nat) (S:Nm.St):Prop where
 row:w.heap[g]?=qo #[.map (some b),.map (some c)] 117
 ss:di Nm.pI Nm.te w b S.ss
 ts:di Nm.kvs Nm.okt w c S.ts
 apart:b ≠ c∧g ≠ b∧g ≠ c
theorem dH.lt {w:World} {g b c:Nat} {S:Nm.St} (h:dH w g b c S):g<w.heap.size∧b<w.heap.size∧c<w.heap.size:=⟨(Array.getElem?_eq_some_iff.1 h.row).1,h.ss.block,h.ts.block⟩
theorem dH.aG {w x:World} {g b c:Nat} {S:Nm.St} (h:dH w g b c S) (h1:x.heap[g]?=w.heap[g]?) (h2:x.heap[b]?=w.heap[b]?) (h3:x.heap[c]?=w.heap[c]?):dH x g b c S :=
 ⟨h1.trans h.row,h.ss.aG h2,h.ts.aG h3,h.apart⟩
theorem dH.av {w x:World} {g b c:Nat} {S:Nm.St} (h:dH w g b c S) (hb:qw w x):dH x g b c S :=
 h.aG (hb.block _ h.lt.1) (hb.block _ h.lt.2.1) (hb.block _ h.lt.2.2)
theorem Bs.drew {w:World} {p:Option Addr} {c:Nat} {L:List Int} (h:Bs w p c L):Bs w.drew p c L:=⟨h.bat,h.cap,h.nil⟩
theorem qa {w x:World} {k c:Nat} {p:Option Addr} {L:List Int} (h:Bs w p c L) (ho:aE k w x) (hk:∀ a,p=some a→a.block ≠ k∨L = []):Bs x p c L:=by
 refine ⟨⟨h.bat.1,fun h0=>?_⟩,h.cap,h.nil⟩;obtain ⟨ab,ao,h1,h2⟩:=h.bat.2 h0;refine ⟨ab,ao,h1,fun j hj=>ho.cell (fun e=>?_) (h2 j hj)⟩;rcases hk _ h1 with h3 | h3
 ·exact h3 e
 ·rw [h3] at h0;simp at h0
theorem aat {α:Type} {kv:α→Value} {ok:α→Prop} {w:World} {b c:Nat} {p:Option Addr} {L:List Int} {l:List α} (h:Bs w p c L) (hm:di kv ok w b l):∀ a,p=some a→a.block ≠ b∨L = []:=by
 intro a ha;by_cases h0:0<L.length
 ·left;obtain ⟨ab,ao,h1,h2⟩:=h.bat.2 h0;rw [h1] at ha;cases ha
  intro e;obtain ⟨_,_,es,clock,hb,_⟩:=hm;have h3:=h2 0 h0;simp only at e;subst e;simp [World.cell?,hb] at h3
 ·right;exact List.eq_nil_of_length_eq_zero (by omega)
theorem zI (w:World):qc 29 #[] w fun e w'=>∃ g b c,e = .returned (qp g)∧Hid (w.heap.size≤g∧w.heap.size≤b∧w.heap.size≤c)∧Hid (dH w' g b c Nm.St.none)∧qw w w':=by
 have h1:Hid (dH (((w.alloc (.map #[] 0)).alloc (.map #[] 0)).alloc (.cells #[.map (some w.heap.size),.map (some (w.heap.size+1))] 117)) (w.heap.size+2) w.heap.size (w.heap.size+1) Nm.St.none):=by
  refine ⟨iD w _ _ _,?_,?_,by omega⟩
  ·exact (wN w Nm.pI Nm.te).aG (by rw [lh];exact (MapKept.heap_alloc w _).1.symm)
  ·have h:=wN (w.alloc (.map #[] 0)) Nm.kvs Nm.okt;rw [show (w.alloc (.map #[] 0)).heap.size=w.heap.size+1 by simp] at h;exact h.aG (by rw [jX];exact (heap_alloc2_new w _ _).symm)
 have Pf:=@run_makeMap prog;go_enter func29,ntmps29;go_wp2;go_ret;exact ⟨w.heap.size+2,w.heap.size,w.heap.size+1,rfl,⟨by omega,Nat.le_refl _,by omega⟩,h1,((qb w _).alloc (by simp) _).alloc (by simp;omega) _⟩
theorem oY (p:Option Addr) (n c:Nat) (w:World):(binOp .eql 22 (.slice p n c) (.slice none 0 0)).run prog w = .ok (.bool p.isNone) w:=by
 cases p<;>kernel_rfl
theorem vu (L:List Int) (p:Option Addr) (n c:Nat) (hn:L.length=n) (hL:n≤1000000) (w:World) (hp:Bs w p c L) :
  qc 50 #[.slice p n c] w fun e w'=>∃ v,e = .returned v∧w'.ownsRow w.heap.size 5 1 v n (aC L)∧qw w w':=by
 have Hp:=qh hp;clear hp;have hq:=fun (p:Option Addr) (n c:Nat) (w:World)=>oY p n c w;cases p with
 | none =>
  obtain ⟨rfl,rfl⟩:=Hp.out.nil rfl;obtain rfl:n=0:=by simpa using hn.symm
  go_enter func50,ntmps50;go_wp2;go_ret;exact ⟨_,rfl,by unfold aC;exact World.ownsRow_nil _ _ _ _,Below.refl _ _⟩
 | some ad =>
  have HO:Hid ((w.alloc (.cells #[] 5)).ownsRow w.heap.size 5 1 (.slice (some ⟨w.heap.size,0,none⟩) 0 0) 0 (aC [])):=by
   refine ⟨by unfold aC;rfl,Or.inr ⟨w.heap.size,0,_,rfl,Nat.le_refl _,heap_alloc_new w _,Nat.le_refl _,by unfold maxLen;omega,by simp,by unfold aC;simp⟩⟩
  have HB:Hid (qw w (w.alloc (.cells #[] 5))):=qb w _;have Bl:Hid (Bs (w.alloc (.cells #[] 5)) (some ad) c L):=Hp.out.av HB.out;have HN:=qh hn;clear hn;go_enter func50,ntmps50;go_wp2_with (first
   | (at_builtin;refine bV _ _ L w.heap.size _ _ _ (some ad) _ c rfl rfl HN.out Bl.out HO.out (by omega) (by simp) ?_;intro v5 w5 CF CE;have HO5:=qh CF;have Di:=qh CE;clear CF CE)
   | go_in)
  go_ret;refine ⟨_,rfl,?_,HB.out.grown Di.out (by simp) (fun q hq=>(HO.out.lt q hq).1)⟩;have h:=HO5.out;rw [Nat.zero_add,List.nil_append] at h;exact h
end
section
open Go.RowKit
theorem pC {w:World} {p:Option Addr} {c:Nat} {L:List Int} (h:Bs w p c L):Nm.okt L:=⟨h.bat.1,Nat.le_trans h.cap.1 h.cap.2⟩
theorem abK {l:List Int} (h:l.length=32):(prog.info? 39).map (fun x=>x.size)=some (l.map (Value.int .u8)).length:=by
 rw [List.length_map,h];exact Tryz.ar
theorem kD {w:World} {g:Nat} {t:TypeId} {l:List Int} (h:w.heap[g]?=qo (List.replicate 32 (Value.int .u8 0)).toArray t) (hl:l.length=32):w.there g 0 (l.map (Value.int .u8)).length:=by
 intro j hj;rw [List.length_map,hl] at hj;refine ⟨?_,frozen_of_row w g (0+j) _ _ h⟩;rw [cell_of_row w g (0+j) _ _ _ h];simp [hj]
end
section
open Go.RowKit
namespace Nm
def may (x:iZ):Bool:=bj x.1&&bj x.2.1
def sl (S:St) (x:iZ):List Int:=if may x then x.2.2.2++tg 0 (num x S.ss) else []
def sld (S:St) (x:iZ):St:=if may x then ⟨put x S.ss,S.ts⟩ else S
theorem mi (S:St) (x:iZ):(sl S x).length=if may x then x.2.2.2.length+32 else 0:=by
 unfold sl;split
 ·rw [List.length_append,dq]
 ·rfl
theorem uM (S:St) (x:iZ) (h:ai.aY x.2.2.2):ai.aY (sl S x):=by
 unfold sl;split
 ·exact ai.aP h (gT _ _ (by omega))
 ·intro y hy;simp at hy
end Nm
theorem ic (n:Int) (w:World):qc 241 #[.int .i64 n] w fun e w'=>e = .returned (.bool (Nm.bj n))∧w=w':=by
 unfold Nm.bj;by_cases h1:0≤n
 ·by_cases h2:n≤1099511627776
  ·go_enter func241,ntmps241;go_wp2;go_ret;exact ⟨by simp [h1,h2],rfl⟩
  ·have h2':decide (n≤1099511627776)=false:=by simpa using h2
   go_enter func241,ntmps241;go_wp2;go_ret;exact ⟨by simp,rfl⟩
 ·have h1':decide (0≤n)=false:=by simpa using h1
  go_enter func241,ntmps241;go_wp2;go_ret;exact ⟨by simp,rfl⟩
theorem m5 {b G:Nat} {w y:World} {vs:List Value} (h:aE b w y) (hG:w.heap.size≤G):aE b w (y.setCells G 0 vs) :=
 have k:=bJ.setCells G vs 0 y
 ⟨k.os.trans h.os,k.tape.trans h.tape,k.output.trans h.output,by rw [k.size];exact h.size,fun i hi hb=>(k.block i (by omega)).trans (h.block i hi hb)⟩
theorem nT {w:World} {B B' n:Nat} {e:TypeId} {v:Value} {xs:List Value} (h:w.ownsRow B e 1 v n xs) (hB:B'≤B):w.ownsRow B' e 1 v n xs:=by
 refine ⟨h.1,?_⟩;rcases h.2 with h1 | ⟨g,cap,cur,h1,h2,h3⟩
 ·exact Or.inl h1
 ·exact Or.inr ⟨g,cap,cur,h1,Nat.le_trans hB h2,h3⟩
theorem uD (p q:Option Addr) (n m c d k:Nat) (L M:List Int) (hn:L.length=n) (hm:M.length=m) (hl:n+m≤1000000000) (w:World) (hk:w.heap[k]?=qo #[.slice p n c,.slice q m d] 22) (hp:Bs w p c L) (hq:Bs w q d M) :
  qc 109 #[.slice (some ⟨k,0,none⟩) 2 2] w fun e w'=>∃ v,e = .returned v∧w'.ownsRow w.heap.size 5 1 v (n+m) (aC (L++M))∧qw w w':=by
 subst hn;subst hm;have Gj:an.cat (fun i=>if i=0 then L else M) 2=L++M:=by unfold an.cat;unfold an.cat;unfold an.cat;simp
 refine (ji (fun i=>if i=0 then p else q) (fun i=>if i=0 then c else d) (fun i=>if i=0 then L else M) 2 k (by omega) w ?_ ?_ (by rw [Gj,List.length_append];omega)).mono ?_
 ·intro i hi;rcases i with _ | _ | i
  ·rw [cell_of_row w k 0 _ _ _ hk];rfl
  ·rw [cell_of_row w k 1 _ _ _ hk];rfl
  ·omega
 ·intro i hi;rcases i with _ | _ | i
  ·exact hp
  ·exact hq
  ·omega
 ·rintro e w' ⟨v,h1,h2,h3⟩;rw [Gj,List.length_append] at h2;exact ⟨v,h1,h2,h3⟩
def jV (g b c:Nat) (S:Nm.St) (x:Nm.iZ) (w:World) (e:Ending) (w':World):Prop :=
 ∃ p k m,e = .returned (.slice p m k)∧(Nm.sl S x).length=m∧Hid (w'.ownsRow w.heap.size 5 1 (.slice p m k) m (aC (Nm.sl S x)))∧Hid (Bs w' p k (Nm.sl S x))∧Hid (dH w' g b c (Nm.sld S x))∧aE b w w'
theorem uc (S:Nm.St) (x:Nm.iZ) (g b c:Nat) (vh vp:Value) (hb:Nm.may x=false) (w:World) (hs:dH w g b c S) :
  qc 238 #[qp g,.int .i64 x.1,.int .i64 x.2.1,vh,vp] w (jV g b c S x w):=by
 have HE:Hid (jV g b c S x w (.returned (.slice none 0 0)) w):=by
  refine ⟨none,0,0,rfl,by rw [Nm.mi,hb];rfl,?_,?_,?_,aE.refl _ _⟩
  ·show World.ownsRow _ _ _ _ _ _ _;unfold Nm.sl;rw [hb];unfold aC;exact World.ownsRow_nil _ _ _ _
  ·show Bs _ _ _ _;unfold Nm.sl;rw [hb];exact dx w
  ·show dH _ _ _ _ _;unfold Nm.sld;rw [hb];exact hs
 obtain ⟨x1,x2,x3,x4⟩:=x;unfold Nm.may at hb;dsimp only at hb;clear hs;cases h1:Nm.bj x1 with
 | false =>
  go_enter func238,ntmps238;go_wp2_with (go_at_call 241;refine (ic _ _).mono ?_;rintro e1 w1 ⟨rfl,rfl⟩;rw [h1])
  go_ret;exact HE.out
 | true =>
  have h2:Nm.bj x2=false:=by rw [h1] at hb;simpa using hb
  clear hb;go_enter func238,ntmps238;go_wp2_with (go_at_call 241;refine (ic _ _).mono ?_;rintro e1 w1 ⟨rfl,rfl⟩;first | rw [h1] | rw [h2])
  go_ret;exact HE.out
theorem tP (w:World) (G:Nat) {vs:List Value} {T:TypeId} (h:w.heap[G]?=qo (List.replicate 32 (Value.int .u8 0)).toArray T) (hv:vs.length=32):(w.setCells G 0 vs).heap[G]?=qo vs.toArray T:=by
 have h1:=eC G T vs 0 _ w h (by simp [hv]);rw [h1];congr 2;simp [splice,hv]
theorem uo (S:Nm.St) (x:Nm.iZ) (g b c:Nat) (ph pp:Option Addr) (nh np ch cp:Nat) (BL:x.2.2.1.length=nh) (Mh:x.2.2.2.length=np) (Bj:np≤1000000) (hm:Nm.may x=true) (Kb:Nm.aT x.1∧Nm.aT x.2.1)
  (w:World) (hs:dH w g b c S) (hh:Bs w ph ch x.2.2.1) (hp:Bs w pp cp x.2.2.2) (hl:S.ss.length≤100000) :
  qc 238 #[qp g,.int .i64 x.1,.int .i64 x.2.1,.slice ph nh ch,.slice pp np cp] w (jV g b c S x w):=by
 have HX:Hid (Nm.te x):=⟨Kb.1,Kb.2,pC hh,pC hp⟩;have Du:=qh hs.lt;have T7:=qh hs.apart;have Dc:Hid (∀ y:World,y.heap[b]?=w.heap[b]?→di Nm.pI Nm.te y b S.ss):=fun y hy=>hs.ss.aG hy;have D8:∀ y,aE b w y→y.cell? ⟨g,0,none⟩=some (.map (some b)):=fun y hy=>hy.cell hs.apart.2.1 (by rw [cell_of_row _ g 0 _ _ _ hs.row];rfl);have Aj:∀ y,aE b w y→Bs y ph ch x.2.2.1:=fun y hy=>qa hh hy (aat hh hs.ss);have Ao:Hid (∀ y,aE b w y→Bs y pp cp x.2.2.2):=fun y hy=>qa hp hy (aat hp hs.ss);have HK:Hid (∀ y,aE b w y→y.cell? ⟨g,0,none⟩=some (.map (some b))∧(convert 22 9 (.slice ph nh ch)).run prog y = .ok (.string (Nm.gR x.2.2.1)) y∧(convert 22 9 (.slice pp np cp)).run prog y = .ok (.string (Nm.gR x.2.2.2)) y):=fun y hy=>by
  refine ⟨D8 y hy,?_,?_⟩
  ·rw [← BL];exact ll (Aj y hy)
  ·rw [← Mh];exact ll (Ao.out y hy)
 have OW:Hid (aE b w w.drew):=(aE.refl b w).drew;have NU:Hid (∀ y v,y.ownsRow w.heap.size 5 1 v (np+32) (aC (x.2.2.2++Nm.tg 0 (Nm.num x S.ss)))→di Nm.pI Nm.te y b (Nm.put x S.ss)→aE b w y→jV g b c S x w (.returned v) y):=fun y v hv Fg ho=>by
  have hsl:Nm.sl S x=x.2.2.2++Nm.tg 0 (Nm.num x S.ss):=by unfold Nm.sl;rw [hm];rfl
  obtain ⟨p,k,FD,hb,hlen⟩:=bH hv (by rw [← hsl];exact Nm.uM S x hp.bat.1);subst FD;refine ⟨p,k,_,rfl,by rw [hsl],?_,?_,?_,ho⟩
  ·show World.ownsRow _ _ _ _ _ _ _;rw [hsl];rw [← hlen] at hv;exact hv
  ·show Bs _ _ _ _;rw [hsl];exact hb
  ·show dH _ _ _ _ _;unfold Nm.sld;rw [hm];exact ⟨(ho.block _ hs.lt.1 hs.apart.2.1).trans hs.row,Fg,hs.ts.aG (ho.block _ hs.lt.2.2 hs.apart.1.symm),hs.apart⟩
 have HT:=qh (Nm.dq 0 (Nm.num x S.ss));have Dn:=qh (Nm.gT 0 (Nm.num x S.ss) (by omega));have HN:=qh (And.intro BL Mh);have Fh:=aw (Nm.tg 0 (Nm.num x S.ss));have Pw:=abK (Nm.dq 0 (Nm.num x S.ss));have Cf:Nm.bj x.1=true:=by unfold Nm.may at hm;simp only [Bool.and_eq_true] at hm;exact hm.1
 have AP:Nm.bj x.2.1=true:=by unfold Nm.may at hm;simp only [Bool.and_eq_true] at hm;exact hm.2
 have HM:=qh (And.intro Cf AP);clear hm Cf AP BL Mh D8 Aj hs hh hp Kb;go_enter func238,ntmps238;go_upto_region 3 with (go_at_call 241;refine (ic _ _).mono ?_;rintro e1 w1 ⟨rfl,rfl⟩;first | rw [HM.out.1] | rw [HM.out.2])
 go_region_held3 (fun y=>y.cell? ⟨g,0,none⟩=some (.map (some b))∧(convert 22 9 (.slice ph nh ch)).run prog y = .ok (.string (Nm.gR x.2.2.1)) y∧(convert 22 9 (.slice pp np cp)).run prog y = .ok (.string (Nm.gR x.2.2.2)) y)
  (exact HK.out _ (by first | exact Hid.out (by assumption) | exact aE.alloc (Hid.out (by assumption)) _ | exact m5 (Hid.out (by assumption)) (by first | exact Nat.le_refl _ | exact aE.size (Hid.out (by assumption))) | exact m5 (aE.alloc (Hid.out (by assumption)) _) (aE.size (Hid.out (by assumption)))))
  (first
   | (go_at_call 242;refine Calls.mono (rI S.ss x b _ ?_ HX.out (by omega)) ?_;exact Dc.out _ (by first | exact et w.drew _ Du.out.2.1 | rfl);rintro e1 w1 ⟨rfl,m1,o1⟩;have M1:=qh m1;have O1:Hid (aE b w w1):=aE.trans (by first | exact Hid.out (by assumption) | exact aE.alloc (Hid.out (by assumption)) _) o1;try have R1:Hid (w1.heap[w.heap.size]?=qo (List.replicate 32 (Value.int .u8 0)).toArray 39):=(o1.block _ (by simp) (by have:=Du.out;omega)).trans (heap_alloc_new _ _))
   | (go_at_call 240;refine (kV _ _ _).mono ?_;rintro e2 w2 ⟨rfl,b2⟩;have O2:Hid (aE b w w2):=aE.trans (by first | exact Hid.out (by assumption) | exact aE.alloc (Hid.out (by assumption)) _) (cC b2);have MM2:Hid (di Nm.pI Nm.te w2 b (Nm.put x S.ss)):=M1.out.aG (by first | exact b2.block _ M1.out.block | exact (b2.block _ (by simp;have:=M1.out.block;omega)).trans (et _ _ M1.out.block));have T3:(w2.alloc (.cells #[.int .u8 0,.int .u8 0,.int .u8 0,.int .u8 0,.int .u8 0,.int .u8 0,.int .u8 0,.int .u8 0,.int .u8 0,.int .u8 0,.int .u8 0,.int .u8 0,.int .u8 0,.int .u8 0,.int .u8 0,.int .u8 0,.int .u8 0,.int .u8 0,.int .u8 0,.int .u8 0,.int .u8 0,.int .u8 0,.int .u8 0,.int .u8 0,.int .u8 0,.int .u8 0,.int .u8 0,.int .u8 0,.int .u8 0,.int .u8 0,.int .u8 0,.int .u8 0] 39)).there w2.heap.size 0 ((Nm.tg 0 (Nm.num x S.ss)).map (Value.int .u8)).length:=kD (heap_alloc_new w2 (.cells (List.replicate 32 (Value.int .u8 0)).toArray 39)) HT.out;(try (have R2:Hid (w2.heap[w.heap.size]?=qo (List.replicate 32 (Value.int .u8 0)).toArray 39):=(b2.block _ (lt_of_block R1.out)).trans R1.out;have T2:=kD R2.out HT.out));(try (have R2:Hid (w2.heap[w1.heap.size]?=qo (List.replicate 32 (Value.int .u8 0)).toArray 39):=(b2.block _ (by simp)).trans (heap_alloc_new _ _);have T2:=kD R2.out HT.out)))
   | (go_at_call 242;refine Calls.mono (rI S.ss x b _ ?_ HX.out (by omega)) ?_;exact Dc.out _ (et w.drew _ Du.out.2.1);rintro e1 w1 ⟨rfl,m1,o1⟩;have M1:=qh m1;have O1:Hid (aE b w w1):=aE.trans (OW.out.alloc _) o1;have R1:Hid (w1.heap[w.heap.size]?=qo (List.replicate 32 (Value.int .u8 0)).toArray 39):=(o1.block _ (by simp) (by have:=Du.out;omega)).trans (heap_alloc_new _ _)))
 case' _ =>
  have HZ:Hid ((w2.alloc (.cells #[.int .u8 0,.int .u8 0,.int .u8 0,.int .u8 0,.int .u8 0,.int .u8 0,.int .u8 0,.int .u8 0,.int .u8 0,.int .u8 0,.int .u8 0,.int .u8 0,.int .u8 0,.int .u8 0,.int .u8 0,.int .u8 0,.int .u8 0,.int .u8 0,.int .u8 0,.int .u8 0,.int .u8 0,.int .u8 0,.int .u8 0,.int .u8 0,.int .u8 0,.int .u8 0,.int .u8 0,.int .u8 0,.int .u8 0,.int .u8 0,.int .u8 0,.int .u8 0] 39)).heap[w2.heap.size]?=qo (List.replicate 32 (Value.int .u8 0)).toArray 39):=heap_alloc_new _ _;have HG:Hid (w.heap.size≤w2.heap.size):=O2.out.size;have HO:Hid (aE b w (w2.alloc (.cells #[.int .u8 0,.int .u8 0,.int .u8 0,.int .u8 0,.int .u8 0,.int .u8 0,.int .u8 0,.int .u8 0,.int .u8 0,.int .u8 0,.int .u8 0,.int .u8 0,.int .u8 0,.int .u8 0,.int .u8 0,.int .u8 0,.int .u8 0,.int .u8 0,.int .u8 0,.int .u8 0,.int .u8 0,.int .u8 0,.int .u8 0,.int .u8 0,.int .u8 0,.int .u8 0,.int .u8 0,.int .u8 0,.int .u8 0,.int .u8 0,.int .u8 0,.int .u8 0] 39))):=O2.out.alloc _;have II:Hid (di Nm.pI Nm.te (w2.alloc (.cells #[.int .u8 0,.int .u8 0,.int .u8 0,.int .u8 0,.int .u8 0,.int .u8 0,.int .u8 0,.int .u8 0,.int .u8 0,.int .u8 0,.int .u8 0,.int .u8 0,.int .u8 0,.int .u8 0,.int .u8 0,.int .u8 0,.int .u8 0,.int .u8 0,.int .u8 0,.int .u8 0,.int .u8 0,.int .u8 0,.int .u8 0,.int .u8 0,.int .u8 0,.int .u8 0,.int .u8 0,.int .u8 0,.int .u8 0,.int .u8 0,.int .u8 0,.int .u8 0] 39)) b (Nm.put x S.ss)):=MM2.out.aG (et _ _ MM2.out.block);clear T3;generalize (w2.alloc (.cells #[.int .u8 0,.int .u8 0,.int .u8 0,.int .u8 0,.int .u8 0,.int .u8 0,.int .u8 0,.int .u8 0,.int .u8 0,.int .u8 0,.int .u8 0,.int .u8 0,.int .u8 0,.int .u8 0,.int .u8 0,.int .u8 0,.int .u8 0,.int .u8 0,.int .u8 0,.int .u8 0,.int .u8 0,.int .u8 0,.int .u8 0,.int .u8 0,.int .u8 0,.int .u8 0,.int .u8 0,.int .u8 0,.int .u8 0,.int .u8 0,.int .u8 0,.int .u8 0] 39))=y at *;generalize w2.heap.size=G at *
 rotate_left
 case' _ =>
  have HZ:=qh R2.out;have HG:Hid (w.heap.size≤w1.heap.size):=O1.out.size;have HO:=qh O2.out;have II:=qh MM2.out;clear T3 T2 R2;generalize w1.heap.size=G at *;generalize w2=y at *
 rotate_left
 case' _ =>
  obtain ⟨G,Ow⟩:∃ G,G=w.heap.size:=⟨_,rfl⟩;have HZ:Hid (w2.heap[G]?=qo (List.replicate 32 (Value.int .u8 0)).toArray 39):=by rw [Ow];exact R2.out
  have HG:Hid (w.heap.size≤G):=by show _≤_;omega
  have HO:=qh O2.out;have II:=qh MM2.out;clear T3 T2 R2;rw [← Ow];clear Ow;generalize w2=y at *
 rotate_left
 all_goals
  have RG:=qh (tP y G HZ.out (vs:=((Nm.tg 0 (Nm.num x S.ss)).map (Value.int .u8))) (by simp [HT.out]));have Ax:Hid (aE b w (y.setCells G 0 ((Nm.tg 0 (Nm.num x S.ss)).map (Value.int .u8)))):=m5 HO.out HG.out;have BO:Hid (di Nm.pI Nm.te (y.setCells G 0 ((Nm.tg 0 (Nm.num x S.ss)).map (Value.int .u8))) b (Nm.put x S.ss)):=II.out.aG ((bJ.setCells G _ 0 y).block _ (by have:=Du.out;have:=HG.out;omega));clear Fh Pw HZ HO II HK Dc;generalize (y.setCells G 0 ((Nm.tg 0 (Nm.num x S.ss)).map (Value.int .u8)))=z at *;have BG:Hid (Bs z (some ⟨G,0,none⟩) 32 (Nm.tg 0 (Nm.num x S.ss))):=eK (cU RG.out Dn.out) ⟨by rw [HT.out];omega,by omega⟩;have BP:=qh (Ao.out _ Ax.out);clear RG Ao;go_wp2_with (go_at_call 109;refine (uD pp (some ⟨G,0,none⟩) np 32 cp 32 _ x.2.2.2 (Nm.tg 0 (Nm.num x S.ss)) HN.out.2 HT.out (by omega) _ (heap_alloc_new _ _) (BP.out.av (qb _ _)) (BG.out.av (qb _ _))).mono ?_;rintro e3 w3 ⟨v3,rfl,Iw,As⟩)
  go_ret;have AJ:qw z w3:=(qb z _).trans (As.mono (by simp));refine NU.out _ _ (nT Iw (by have:=Ax.out.size;simp;omega)) (BO.out.av AJ) (Ax.out.trans (cC AJ))
end
section
open Go.RowKit
theorem aep (a b:List Int) (ha:a.length=32) (hb:b.length=32):((List.range 32).all fun i=>a.getD i 0==b.getD i 0)=decide (a=b):=by
 by_cases h:a=b
 ·subst h;simp
 ·rw [decide_eq_false h,← Bool.not_eq_true,List.all_eq_true];intro En;apply h
  apply List.ext_getElem (by omega)
  intro i h1 h2;have:=En i (List.mem_range.2 (by omega));simpa [List.getD_eq_getElem?_getD,h1,h2] using this
theorem adq (a b:List Int) (ha:a.length=32) (hb:b.length=32) (w:World) :
  (Op.equalIn 10000 39 (.agg (a.map (Value.int .u8)).toArray) (.agg (b.map (Value.int .u8)).toArray)).run prog w = .ok (decide (a=b)) w:=by
 cases hq:prog.info? 5 with
 | none=>have h5:=Tryz.bu;rw [hq] at h5;cases h5
 | some i =>
  rw [show (10000:Nat)=(9998+1)+1 from rfl,run_equalIn_array w _ _ _ underlying39 hq,← aep a b ha hb];exact mj 9998 _ (by kernel_rfl) a b w _ (fun j hj=>by rw [ha];exact List.mem_range.1 hj) (fun j hj=>by rw [hb];exact List.mem_range.1 hj)
theorem jK {n:Int} (h:Nm.bj n=true):Nm.aT n:=by
 unfold Nm.bj at h;simp at h;unfold Nm.aT;omega
theorem yE (S:Nm.St) (x:Nm.iZ) (g b c:Nat) (ph pp:Option Addr) (nh np ch cp:Nat) (BL:x.2.2.1.length=nh) (Mh:x.2.2.2.length=np) (Bj:np≤1000000)
  (w:World) (hs:dH w g b c S) (hh:Bs w ph ch x.2.2.1) (hp:Bs w pp cp x.2.2.2) (hl:S.ss.length≤100000) :
  qc 238 #[qp g,.int .i64 x.1,.int .i64 x.2.1,.slice ph nh ch,.slice pp np cp] w (jV g b c S x w):=by
 cases hm:Nm.may x with
 | false=>exact uc S x g b c _ _ hm w hs
 | true =>
  have h:=hm;unfold Nm.may at h;simp only [Bool.and_eq_true] at h;exact uo S x g b c ph pp nh np ch cp BL Mh Bj hm ⟨jK h.1,jK h.2⟩ w hs hh hp hl
namespace Nm
def oB (S:St) (e n:Int) (h s:List Int):Option (List Int) :=
 if s.length<32 then none
 else if place (e,n,h,s.take (s.length-32)) S.ss ≠ 0∧s.drop (s.length-32)=tg 0 (place (e,n,h,s.take (s.length-32)) S.ss) then some (s.take (s.length-32)) else none
end Nm
def vY (o:Option (List Int)) (w:World) (e:Ending) (w':World):Prop :=
 ∃ p k m,e = .returned (.tuple #[.slice p m k,.bool o.isSome])∧(o.getD []).length=m∧Hid (w'.ownsRow w.heap.size 5 1 (.slice p m k) m (aC (o.getD [])))∧Hid (Bs w' p k (o.getD []))∧qw w w'
theorem jw {w w':World} (hb:qw w w'):vY none w (.returned (.tuple #[.slice none 0 0,.bool false])) w' :=
 ⟨none,0,0,rfl,rfl,by show World.ownsRow _ _ _ _ _ _ _;unfold aC;exact World.ownsRow_nil _ _ _ _,dx w',hb⟩
theorem uL (S:Nm.St) (e n:Int) (h s:List Int) (g:Nat) (vh:Value) (ps:Option Addr) (ns cs:Nat) (Eu:s.length=ns) (Ae:ns<32) (w:World) :
  qc 237 #[qp g,.int .i64 e,.int .i64 n,vh,.slice ps ns cs] w (vY (Nm.oB S e n h s) w):=by
 have HO:Hid (Nm.oB S e n h s=none):=by show _=_;unfold Nm.oB;rw [if_pos (by omega)]
 rw [HO.out];have Ah:IntKind.i64.wrap ((ns:Int)-32)=(ns:Int)-32:=IntWalk.i64_in _ ⟨by omega,by omega⟩;have Tp:(ns:Int)-32<0:=by omega
 go_enter func237,ntmps237;go_wp2;go_ret2;exact jw (Below.refl _ _)
end
section
open Go.RowKit
theorem oJ {w:World} {g:Nat} {A:Array Value} {t:TypeId} {fr:Nat × Nat} (h:w.heap[g]?=some (.cells A t fr)):w.rangeAt g 0 A.toList:=fun j v hv=>by
 rw [cell_of_row w g (0+j) _ _ _ h];simpa using hv
theorem aj {P:Program} {a:Act} {w:World} {D:Option Tmp} {T:TypeId} {ps:String} {af:Array Edge} {gd:Option (Nat × Bool)} (ty:TypeId) (x:Operand) (b o:Nat) (A:Array Value) (d:TypeDesc) (hx:a.eval x = .pointer (some ⟨b,o,none⟩)) (hc:w.rangeAt b o A.toList)
  (hu:P.underlying ty=some d) (hd:d.isRow=true) (hi:(P.info? ty).map (·.size)=some A.size) :
  (execOp a.eval { dst:=D,op:=.load ty x,type:=T,pos:=ps,after:=af,guard:=gd }).run P w = .ok (.value (.agg A)) w:=by
 have h:=run_loadAt_mid (P:=P) w b o ty A.toList d hc hu hd (by simpa using hi);unfold execOp;simp only [hx,h,Sem.run_bind,Sem.run_pure,Result.andThen_ok,Array.toArray_toList]
theorem tG (S:Nm.St) (e n:Int) (h s:List Int) (g b c:Nat) (ph:Option Addr) (ab ao nh ns ch cs k:Nat) (BL:h.length=nh) (Eu:s.length=ns) (hk:ns=k+32) (Bj:ns≤1000000) (he:Nm.aT e) (hn:Nm.aT n)
  (w:World) (hs:dH w g b c S) (hh:Bs w ph ch h) (hS:Bs w (some ⟨ab,ao,none⟩) cs s) :
  qc 237 #[qp g,.int .i64 e,.int .i64 n,.slice ph nh ch,.slice (some ⟨ab,ao,none⟩) ns cs] w (vY (Nm.oB S e n h s) w):=by
 obtain ⟨X,HX⟩:∃ X,Hid (X=s.take k):=⟨_,rfl⟩;have Bx:Hid (X.length=k):=by show _=_;rw [HX.out,List.length_take];omega
 obtain ⟨G,EU⟩:∃ G,Hid (G=s.drop k):=⟨_,rfl⟩;have Bo:Hid (G.length=32):=by show _=_;rw [EU.out,List.length_drop];omega
 have Ez:Hid (Bs w (some ⟨ab,ao,none⟩) cs X):=⟨by rw [HX.out];exact hS.bat.take k,⟨by have:=hS.cap;have:=Bx.out;omega,hS.cap.2⟩,fun h=>by cases h⟩;have M8:Hid (Nm.te (e,n,h,X)):=⟨he,hn,pC hh,pC Ez.out⟩;obtain ⟨K,HK⟩:∃ K,Hid (K=Nm.place (e,n,h,X) S.ss):=⟨_,rfl⟩;obtain ⟨T,HT⟩:∃ T,Hid (T=Nm.tg 0 (K:Nat)):=⟨_,rfl⟩;have Bq:Hid (T.length=32):=by show _=_;rw [HT.out,Nm.dq]
 obtain ⟨AT,CO⟩:∃ A:Array Value,Hid (A=(T.map (Value.int .u8)).toArray):=⟨_,rfl⟩;have Bp:Hid (Nm.oB S e n h s=if K ≠ 0∧G=T then some X else none):=by
  show _=_;unfold Nm.oB;rw [if_neg (by omega),Eu,show ns-32=k by omega,← HX.out,← EU.out,← HK.out,← HT.out]
 obtain ⟨AG,FI,BF,Hi⟩:∃ A:Array Value,Hid (A=(G.map (Value.int .u8)).toArray)∧Hid (A.size=32)∧Hid (A.all (·.oneCell')=true) :=
  ⟨_,rfl,by show _=_;simp [Bo.out],all_oneCell_toArray (aw _)⟩
 have JD:Hid (∀ x,qw w x→x.rangeAt ab (ao+k) AG.toList):=fun x hx j v hv=>by
  obtain ⟨ab',ao',h1,h2⟩:=(hS.av hx).bat.2 (by omega);cases h1
  rw [FI.out,EU.out] at hv;have hj:j<32:=by
   have:=(List.getElem?_eq_some_iff.1 hv).1;simp at this;omega
  rw [Nat.add_assoc,h2 (k+j) (by omega)];have DP:(s.drop k)[j]?.map (Value.int .u8)=some v:=by simpa using hv
  rw [List.getElem?_drop] at DP;rw [List.getD_eq_getElem?_getD];cases hq:s[k+j]? with
  | none=>rw [hq] at DP;cases DP
  | some y=>rw [hq] at DP;simpa using DP
 have GI:Hid (∀ y,qw w y→y.cell? ⟨g,0,none⟩=some (.map (some b))∧(convert 22 9 (.slice ph nh ch)).run prog y = .ok (.string (Nm.gR h)) y∧(convert 22 9 (.slice (some ⟨ab,ao,none⟩) k cs)).run prog y = .ok (.string (Nm.gR X)) y∧(Instr.lookup 114 (.map (some b)) (.agg #[.int .i64 e,.int .i64 n,.string (Nm.gR h),.string (Nm.gR X)]) true).run prog y = .ok (.tuple #[.int .i64 (K:Nat),.bool (decide (0<K))]) y):=fun y hy=>by
  refine ⟨?_,?_,?_,?_⟩
  ·rw [cell_of_row _ g 0 _ _ _ (hs.av hy).row];rfl
  ·rw [← BL];exact ll (hh.av hy)
  ·rw [← Bx.out];exact ll (Ez.out.av hy)
  ·have h1:=(hs.av hy).ss.look lj underlying114 M8.out;rw [← HK.out] at h1;exact h1
 have Az:=hS.cap;rw [Eu] at Az;generalize Nm.oB S e n h s=O at *;have Ah:IntKind.i64.wrap ((ns:Int)-32)=(ns:Int)-32:=IntWalk.i64_in _ ⟨by omega,by omega⟩;have Aq:(ns:Int)-32=(k:Int):=by omega
 have Ba:¬ ((k:Int)<0):=by omega
 have QN:k+32-k=32:=by omega
 have KD:k≤cs:=by omega
 have Qy:¬ (cs-k=0):=by omega
 have LR:¬ (cs=k):=by omega
 have hle:(k:Int)≤(k:Int)+32:=by omega
 have hat:∀ w,(Instr.arrayAt 39 (.slice (some ⟨ab,ao+k,none⟩) 32 (cs-k))).run prog w = .ok (.pointer (some ⟨ab,ao+k,none⟩)) w:=fun w=>run_arrayAt _ _ _ 32 _ 32 _ underlying39 qn;subst hk;clear hs hh hS Eu he hn;have B0:Hid (qw w w.drew):=(Below.refl _ w).drew;go_enter func237,ntmps237;go_upto_region 4 with (fail)
 refine wp_region_any (by kernel_rfl) ?_;change wpAny _ _ _ _ _ _ _ (World.drew _);obtain ⟨w1,hw1e⟩:∃ x,x=w.drew:=⟨_,rfl⟩;rw [← hw1e] at B0 ⊢;clear hw1e;refine wpAny_of_held (S:=fun y=>y.rangeAt ab (ao+k) AG.toList) _ _ _ _ ?_;have SD:=JD.out _ B0.out;refine aS 0 22 (.slice (some ⟨ab,ao,none⟩) (k+32) cs) SD rfl (by intro x hx;go_simp) ?_;refine aS 1 23 (.int .i64 (k:Int)) SD rfl (by intro x hx;go_simp) ?_;refine aS 2 24 (.slice (some ⟨ab,ao,none⟩) k cs) SD rfl (by intro x hx;go_simp) ?_;refine aS 3 25 (.slice (some ⟨ab,ao,none⟩) (k+32) cs) SD rfl (by intro x hx;go_simp) ?_;refine aS 4 26 (.int .i64 (k:Int)) SD rfl (by intro x hx;go_simp) ?_;refine aS 5 27 (.slice (some ⟨ab,ao+k,none⟩) 32 (cs-k)) SD rfl (by intro x hx;go_simp) ?_;refine aS 6 28 (.pointer (some ⟨ab,ao+k,none⟩)) SD rfl (by intro x hx;go_simp) ?_;refine aS 7 29 (.agg AG) SD rfl (fun x hx=>aj 39 (.tmp 28) ab (ao+k) AG _ rfl hx underlying39 rfl (ae Tryz.ar BF)) ?_;have GA:Hid (∀ C,qw w (w1.alloc C)):=fun C=>B0.out.alloc B0.out.size C;refine aD 8 (by kernel_rfl) ?_;refine wpOp_step rfl (fun Kc Af=>?_);go_simp;refine Af _ _ ⟨JD.out _ (GA.out _),?_⟩;clear Af Kc SD;try simp only [Act.put,aQ,aR,aO]
 have SD:=JD.out _ (GA.out (.cells #[.int .u8 0,.int .u8 0,.int .u8 0,.int .u8 0,.int .u8 0,.int .u8 0,.int .u8 0,.int .u8 0,.int .u8 0,.int .u8 0,.int .u8 0,.int .u8 0,.int .u8 0,.int .u8 0,.int .u8 0,.int .u8 0,.int .u8 0,.int .u8 0,.int .u8 0,.int .u8 0,.int .u8 0,.int .u8 0,.int .u8 0,.int .u8 0,.int .u8 0,.int .u8 0,.int .u8 0,.int .u8 0,.int .u8 0,.int .u8 0,.int .u8 0,.int .u8 0] 39));refine aS 9 13 (.slice (some ⟨ab,ao,none⟩) k cs) SD rfl (by intro x hx;go_simp) ?_;refine aD 10 (by kernel_rfl) ?_;refine bD 10 39 (.tmp 14) (.tmp 29) rfl w1.heap.size 0 39 (List.replicate 32 (Value.int .u8 0)) AG rfl rfl (heap_alloc_new w1 _) (ae Tryz.ar BF) (by rw [BF.out];simp) Hi.out ?_;intro w5 g5 AZ;have B5:Hid (qw w w5):=AZ.below (GA.out _) B0.out.size;refine ⟨JD.out _ B5.out,?_⟩;try simp only [Act.put,aQ,aR,aO]
 refine wpAnyH_done (by kernel_rfl) ?_ _;have G5:Hid (w5.heap[w1.heap.size]?=qo AG 39):=by
  have h:=g5.out;have e:splice (List.replicate 32 (Value.int .u8 0)) 0 AG.toList=AG.toList:=by
   unfold splice;rw [List.take_zero,List.nil_append,Array.length_toList,BF.out,List.drop_of_length_le (by simp),List.append_nil]
  rw [e,Array.toArray_toList] at h;exact h
 clear g5 AZ GA B0 SD;generalize w1.heap.size=g1 at *;go_upto_region 5 with (fail)
 refine wp_region_any (by kernel_rfl) ?_;change wpAny _ _ _ _ _ _ _ (World.drew _);have B6:Hid (qw w w5.drew):=B5.out.drew;have G6:Hid (w5.drew.heap[g1]?=qo AG 39):=G5.out;clear B5 G5;generalize w5.drew=w6 at *;refine wpAny_of_held (S:=fun y=>y.cell? ⟨g,0,none⟩=some (.map (some b))∧(convert 22 9 (.slice ph nh ch)).run prog y = .ok (.string (Nm.gR h)) y∧(convert 22 9 (.slice (some ⟨ab,ao,none⟩) k cs)).run prog y = .ok (.string (Nm.gR X)) y∧(Instr.lookup 114 (.map (some b)) (.agg #[.int .i64 e,.int .i64 n,.string (Nm.gR h),.string (Nm.gR X)]) true).run prog y = .ok (.tuple #[.int .i64 (K:Nat),.bool (decide (0<K))]) y) _ _ _ _ ?_;have SD:=qh (GI.out _ B6.out);refine aS 0 31 (qp g) SD.out rfl (by intro x hx;obtain ⟨y0,y1,y2,y3⟩:=hx;go_simp) ?_;refine aS 1 32 (qp g) SD.out rfl (by intro x hx;obtain ⟨y0,y1,y2,y3⟩:=hx;go_simp) ?_;refine aS 2 33 (qp g) SD.out rfl (by intro x hx;obtain ⟨y0,y1,y2,y3⟩:=hx;go_simp) ?_;refine aS 3 34 (.map (some b)) SD.out rfl (by intro x hx;obtain ⟨y0,y1,y2,y3⟩:=hx;go_simp) ?_;refine aS 4 35 (.int .i64 e) SD.out rfl (by intro x hx;obtain ⟨y0,y1,y2,y3⟩:=hx;go_simp) ?_;refine aS 5 36 (.int .i64 n) SD.out rfl (by intro x hx;obtain ⟨y0,y1,y2,y3⟩:=hx;go_simp) ?_;refine aS 6 37 (.slice ph nh ch) SD.out rfl (by intro x hx;obtain ⟨y0,y1,y2,y3⟩:=hx;go_simp) ?_;refine aS 7 38 (.string (Nm.gR h)) SD.out rfl (by intro x hx;obtain ⟨y0,y1,y2,y3⟩:=hx;go_simp) ?_;refine aS 8 39 (.slice (some ⟨ab,ao,none⟩) k cs) SD.out rfl (by intro x hx;obtain ⟨y0,y1,y2,y3⟩:=hx;go_simp) ?_;refine aS 9 40 (.string (Nm.gR X)) SD.out rfl (by intro x hx;obtain ⟨y0,y1,y2,y3⟩:=hx;go_simp) ?_;refine aS 10 41 (.agg #[.int .i64 e,.int .i64 n,.string (Nm.gR h),.string (Nm.gR X)]) SD.out rfl (by intro x hx;obtain ⟨y0,y1,y2,y3⟩:=hx;go_simp) ?_;refine aS 11 42 (.tuple #[.int .i64 (K:Nat),.bool (decide (0<K))]) SD.out rfl (by intro x hx;obtain ⟨y0,y1,y2,y3⟩:=hx;go_simp) ?_;refine aS 12 30 (.tuple #[.int .i64 (K:Nat),.bool (decide (0<K))]) SD.out rfl (by intro x hx;obtain ⟨y0,y1,y2,y3⟩:=hx;go_simp) ?_;refine aS 13 43 (.int .i64 (K:Nat)) SD.out rfl (by intro x hx;obtain ⟨y0,y1,y2,y3⟩:=hx;go_simp) ?_;refine aS 14 44 (.bool (decide (0<K))) SD.out rfl (by intro x hx;obtain ⟨y0,y1,y2,y3⟩:=hx;go_simp) ?_;refine aS 15 15 (.int .i64 (K:Nat)) SD.out rfl (by intro x hx;obtain ⟨y0,y1,y2,y3⟩:=hx;go_simp) ?_;refine aS 16 16 (.bool (decide (0<K))) SD.out rfl (by intro x hx;obtain ⟨y0,y1,y2,y3⟩:=hx;go_simp) ?_;refine wpAnyH_done (by kernel_rfl) ?_ _;clear SD GI;by_cases hK:0<K
 ·have hd:decide (0<K)=true:=by simpa using hK
  rw [hd];go_upto_region 6 with (fail)
  refine wp_region_any (by kernel_rfl) ?_;change wpAny _ _ _ _ _ _ _ (World.drew _);have B7:Hid (qw w w6.drew):=B6.out.drew;have G7:Hid (w6.drew.heap[g1]?=qo AG 39):=G6.out;clear B6 G6;generalize w6.drew=w7 at *;refine wpAny_of_held (S:=fun y=>y.heap[g1]?=qo AG 39) _ _ _ _ ?_;refine aS 0 45 (.bool true) G7.out rfl (by intro x hx;go_simp) ?_;refine aS 1 46 (.bool false) G7.out rfl (by intro x hx;go_simp) ?_;refine aS 2 47 (.bool false) G7.out rfl (by intro x hx;go_simp) ?_;refine aS 3 48 (.agg AG) G7.out rfl (fun x hx=>aj 39 (.tmp 14) g1 0 AG _ rfl (oJ hx) underlying39 rfl (ae Tryz.ar BF)) ?_;refine aS 4 49 (.int .i64 (K:Nat)) G7.out rfl (by intro x hx;go_simp) ?_;refine aD 5 (by kernel_rfl) ?_;refine wpOp_step rfl (fun Kc Af=>?_);go_simp;refine (kV _ _ _).mono ?_;rintro e8 w8 ⟨rfl,BV⟩;have B8:Hid (qw w w8):=B7.out.trans (BV.mono B7.out.size);have G8:Hid (w8.heap[g1]?=qo AG 39):=(BV.block _ (lt_of_block G7.out)).trans G7.out;clear BV;rw [← HT.out,show dz T = .agg AT from by rw [CO.out];rfl];dsimp only;refine Af _ _ ⟨G8.out,?_⟩;clear Af Kc B7 G7;try simp only [Act.put,aQ,aR,aO]
  have Tq:=Tryz.adk;have BT:∀ x,(Op.equalIn 10000 39 (.agg AG) (.agg AT)).run prog x = .ok (decide (G=T)) x:=fun x=>by rw [FI.out,CO.out];exact adq G T Bo.out Bq.out x
  refine aS 6 51 (.bool (!decide (G=T))) G8.out rfl (by intro x hx;go_simp) ?_;refine aS 7 52 (.bool (!decide (G=T))) G8.out rfl (by intro x hx;go_simp) ?_;refine wpAnyH_done (by kernel_rfl) ?_ _;clear BT Tq;by_cases Kw:G=T
  ·have Li:Hid (O=some X):=by show _=_;rw [Bp.out,if_pos ⟨by omega,Kw⟩]
   rw [decide_eq_true Kw,Bool.not_true];clear Kw Bp;go_wp2_with (go_at_call 50;refine (vu X _ k cs Bx.out (by omega) _ (Ez.out.av B8.out)).mono ?_;rintro e9 w9 ⟨v9,rfl,QQ,SJ⟩)
   go_ret2;have Al:qw w w9:=B8.out.trans (SJ.mono B8.out.size);obtain ⟨p9,c9,rfl,hbs,_⟩:=bH QQ Ez.out.bat.1;rw [Li.out];refine ⟨p9,c9,_,rfl,rfl,?_,hbs,Al⟩;show World.ownsRow _ _ _ _ _ _ _;have h1:=nT QQ B8.out.size;rw [Bx.out] at h1 ⊢;exact h1
  ·have Li:Hid (O=none):=by show _=_;rw [Bp.out,if_neg (fun q=>Kw q.2)]
   rw [decide_eq_false Kw,Bool.not_false];clear Kw Bp;go_wp2;go_ret2;rw [Li.out];exact jw B8.out
 ·have hd:decide (0<K)=false:=by simpa using hK
  have Li:Hid (O=none):=by show _=_;rw [Bp.out,if_neg (fun q=>hK (by omega))]
  rw [hd];clear Bp;go_wp2;go_quiet (fail)
  go_wp2;go_ret2;rw [Li.out];exact jw (bI B6.out _)
theorem yX (S:Nm.St) (e n:Int) (h s:List Int) (g b c:Nat) (ph ps:Option Addr) (nh ns ch cs:Nat) (BL:h.length=nh) (Eu:s.length=ns) (Bj:ns≤1000000) (he:Nm.aT e) (hn:Nm.aT n)
  (w:World) (hs:dH w g b c S) (hh:Bs w ph ch h) (hS:Bs w ps cs s) :
  qc 237 #[qp g,.int .i64 e,.int .i64 n,.slice ph nh ch,.slice ps ns cs] w (vY (Nm.oB S e n h s) w):=by
 by_cases hl:ns<32
 ·exact uL S e n h s g _ ps ns cs Eu hl w
 ·obtain ⟨ab,ao,rfl,_⟩:=hS.bat.2 (by omega);exact tG S e n h s g b c ph ab ao nh ns ch cs (ns-32) BL Eu (by omega) Bj he hn w hs hh hS
end
end Go.Proofs.YthgjfjmampmiiaaGreatDoor

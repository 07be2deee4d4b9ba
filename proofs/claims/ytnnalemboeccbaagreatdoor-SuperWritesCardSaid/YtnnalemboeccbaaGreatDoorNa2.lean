/-
  NaO, NaQ, NaR, NaT, NaU (merged)
-/
import Derived.Test.YtnnalemboeccbaaGreatDoorA1
import Derived.Test.YtnnalemboeccbaaGreatDoorBc1
import Derived.Test.YtnnalemboeccbaaGreatDoorNa1
import Derived.Test.YtnnalemboeccbaaGreatDoorA3
import Derived.Test.YtnnalemboeccbaaGreatDoorBd1
import Derived.Laws.Cover3
import Derived.Laws.StructEq
import Derived.ChangeKeysEq
import Derived.Test.YtnnalemboeccbaaGreatDoorSe2
namespace Go.Proofs.YtnnalemboeccbaaGreatDoor

/-! NaO:  -/
section
open Go.RowKit
namespace Nm
structure St where
 ss:List Four
 ts:List (List Int)
def St.none:St:=⟨[],[]⟩
def sm (S:St) (x:List Int):List Int:=tg 1 (num x S.ts)
def smd (S:St) (x:List Int):St:=⟨S.ss,put x S.ts⟩
def inR (n:Int):Bool:=decide (0≤n)&&decide (n≤1099511627776)
end Nm
structure StAt (w:World) (g b c:Nat) (S:Nm.St):Prop where
 row:w.heap[g]?=some (.cells #[.map (some b),.map (some c)] 142 (0,0))
 ss:MpAt Nm.kv4 Nm.ok4 w b S.ss
 ts:MpAt Nm.kvs Nm.okt w c S.ts
 apart:b ≠ c∧g ≠ b∧g ≠ c
theorem StAt.lt {w:World} {g b c:Nat} {S:Nm.St} (h:StAt w g b c S):g<w.heap.size∧b<w.heap.size∧c<w.heap.size:=⟨(Array.getElem?_eq_some_iff.1 h.row).1,h.ss.block,h.ts.block⟩
theorem StAt.keep {w x:World} {g b c:Nat} {S:Nm.St} (h:StAt w g b c S) (h1:x.heap[g]?=w.heap[g]?) (h2:x.heap[b]?=w.heap[b]?) (h3:x.heap[c]?=w.heap[c]?):StAt x g b c S :=
 ⟨h1.trans h.row,h.ss.keep h2,h.ts.keep h3,h.apart⟩
theorem StAt.old {w x:World} {g b c:Nat} {S:Nm.St} (h:StAt w g b c S) (hb:Below w.heap.size w x):StAt x g b c S :=
 h.keep (hb.block _ h.lt.1) (hb.block _ h.lt.2.1) (hb.block _ h.lt.2.2)
theorem StAt.only {w x:World} {g b c k:Nat} {S:Nm.St} (h:StAt w g b c S) (ho:Only k w x) (h1:g ≠ k) (h2:b ≠ k) (h3:c ≠ k):StAt x g b c S :=
 h.keep (ho.block _ h.lt.1 h1) (ho.block _ h.lt.2.1 h2) (ho.block _ h.lt.2.2 h3)
theorem StAt.drew {w:World} {g b c:Nat} {S:Nm.St} (h:StAt w g b c S):StAt w.drew g b c S:=⟨h.row,h.ss,h.ts,h.apart⟩
theorem Bs.drew {w:World} {p:Option Addr} {c:Nat} {L:List Int} (h:Bs w p c L):Bs w.drew p c L:=⟨h.bat,h.cap,h.nil⟩
theorem bs_only {w x:World} {k c:Nat} {p:Option Addr} {L:List Int} (h:Bs w p c L) (ho:Only k w x) (hk:∀ a,p=some a→a.block ≠ k∨L = []):Bs x p c L:=by
 refine ⟨⟨h.bat.1,fun h0=>?_⟩,h.cap,h.nil⟩
 obtain ⟨ab,ao,h1,h2⟩:=h.bat.2 h0
 refine ⟨ab,ao,h1,fun j hj=>ho.cell (fun e=>?_) (h2 j hj)⟩
 rcases hk _ h1 with h3 | h3
 ·exact h3 e
 ·rw [h3] at h0;simp at h0
theorem Bs.lt {w:World} {p:Option Addr} {c:Nat} {L:List Int} (h:Bs w p c L):∀ a,p=some a→a.block<w.heap.size∨L = []:=by
 intro a ha
 by_cases h0:0<L.length
 ·left
  obtain ⟨ab,ao,h1,h2⟩:=h.bat.2 h0
  rw [h1] at ha
  cases ha
  exact World.block_lt_of_cell? w _ (h2 0 h0)
 ·right;exact List.eq_nil_of_length_eq_zero (by omega)
theorem bs_new {w x y:World} {k c:Nat} {p:Option Addr} {L:List Int} (h:Bs w p c L) (h1:Bs x p c L) (ho:Only k x y) (hk:w.heap.size≤k):Bs y p c L :=
 bs_only h1 ho (fun a ha=>(h.lt a ha).imp (fun e=>by omega) id)
theorem bs_map {α:Type} {kv:α→Value} {ok:α→Prop} {w:World} {b c:Nat} {p:Option Addr} {L:List Int} {l:List α} (h:Bs w p c L) (hm:MpAt kv ok w b l):∀ a,p=some a→a.block ≠ b∨L = []:=by
 intro a ha
 by_cases h0:0<L.length
 ·left
  obtain ⟨ab,ao,h1,h2⟩:=h.bat.2 h0
  rw [h1] at ha
  cases ha
  intro e
  obtain ⟨_,_,es,clock,hb,_⟩:=hm
  have h3:=h2 0 h0
  simp only at e
  subst e
  simp [World.cell?,hb] at h3
 ·right;exact List.eq_nil_of_length_eq_zero (by omega)
set_option maxRecDepth 100000 in
theorem new_anyN (w:World):Calls Tryz.prog 41 #[] w fun e w'=>∃ g b c,e = .returned (.pointer (some ⟨g,0,none⟩))∧Hid (w.heap.size≤g∧w.heap.size≤b∧w.heap.size≤c)∧Hid (StAt w' g b c Nm.St.none)∧Below w.heap.size w w':=by
 have h1:Hid (StAt (((w.alloc (.map #[] 0)).alloc (.map #[] 0)).alloc (.cells #[.map (some w.heap.size),.map (some (w.heap.size+1))] 142)) (w.heap.size+2) w.heap.size (w.heap.size+1) Nm.St.none):=by
  refine ⟨heap3_2 w _ _ _,?_,?_,by omega⟩
  ·exact (mp_made w Nm.kv4 Nm.ok4).keep (by rw [heap3_0];exact (MapKept.heap_alloc w _).1.symm)
  ·have h:=mp_made (w.alloc (.map #[] 0)) Nm.kvs Nm.okt
   rw [show (w.alloc (.map #[] 0)).heap.size=w.heap.size+1 by simp] at h
   exact h.keep (by rw [heap3_1];exact (heap_alloc2_new w _ _).symm)
 have hmm:=@run_makeMap Tryz.prog
 go_enter Tryz.func41,Tryz.ntmps41
 go_wp2
 go_ret
 exact ⟨w.heap.size+2,w.heap.size,w.heap.size+1,rfl,⟨by omega,Nat.le_refl _,by omega⟩,h1,(((Below.refl _ w).alloc (Nat.le_refl _) _).alloc (by simp) _).alloc (by simp;omega) _⟩
theorem eql_nil (p:Option Addr) (n c:Nat) (w:World):(binOp .eql 22 (.slice p n c) (.slice none 0 0)).run Tryz.prog w = .ok (.bool p.isNone) w:=by
 cases p<;>kernel_rfl
set_option maxHeartbeats 1000000 in
set_option maxRecDepth 100000 in
theorem clone_anyN (L:List Int) (p:Option Addr) (n c:Nat) (hn:L.length=n) (hL:n≤1000000) (w:World) (hp:Bs w p c L) :
  Calls Tryz.prog 58 #[.slice p n c] w fun e w'=>∃ v,e = .returned v∧w'.ownsRow w.heap.size 5 1 v n (U8s L)∧Below w.heap.size w w':=by
 have Hp:=Lib.hid hp;clear hp
 have hq:=fun (p:Option Addr) (n c:Nat) (w:World)=>eql_nil p n c w
 cases p with
 | none =>
  obtain ⟨rfl,rfl⟩:=Hp.out.nil rfl
  obtain rfl:n=0:=by simpa using hn.symm
  go_enter Tryz.func58,Tryz.ntmps58
  go_wp2
  go_ret
  exact ⟨_,rfl,by unfold U8s;exact World.ownsRow_nil _ _ _ _,Below.refl _ _⟩
 | some ad =>
  have HO:Hid ((w.alloc (.cells #[] 5)).ownsRow w.heap.size 5 1 (.slice (some ⟨w.heap.size,0,none⟩) 0 0) 0 (U8s [])):=by
   refine ⟨by unfold U8s;rfl,Or.inr ⟨w.heap.size,0,_,rfl,Nat.le_refl _,heap_alloc_new w _,Nat.le_refl _,by unfold maxLen;omega,by simp,by unfold U8s;simp⟩⟩
  have HB:Hid (Below w.heap.size w (w.alloc (.cells #[] 5))):=(Below.refl _ w).alloc (Nat.le_refl _) _
  have HBS:Hid (Bs (w.alloc (.cells #[] 5)) (some ad) c L):=Hp.out.old HB.out
  have HN:=Lib.hid hn;clear hn
  go_enter Tryz.func58,Tryz.ntmps58
  go_wp2_with (first
   | (at_builtin;refine append_bts _ _ L w.heap.size _ _ _ (some ad) _ c rfl rfl HN.out HBS.out HO.out (by omega) (by simp) ?_;intro v5 w5 ho5 hg5;have HO5:=Lib.hid ho5;have HG5:=Lib.hid hg5;clear ho5 hg5)
   | go_in)
  go_ret
  refine ⟨_,rfl,?_,HB.out.grown HG5.out (by simp) (fun q hq=>(HO.out.lt q hq).1)⟩
  have h:=HO5.out
  rw [Nat.zero_add,List.nil_append] at h
  exact h
end

/-! NaQ:  -/
section
open Go.RowKit
def SumSayN (g b c:Nat) (S:Nm.St) (x:List Int) (w:World) (e:Ending) (w':World):Prop :=
 e = .returned (A32 (Nm.sm S x))∧Hid (StAt w' g b c (Nm.smd S x))∧Only c w w'
theorem okt_bs {w:World} {p:Option Addr} {c:Nat} {L:List Int} (h:Bs w p c L):Nm.okt L:=⟨h.bat.1,Nat.le_trans h.cap.1 h.cap.2⟩
theorem sum_size {l:List Int} (h:l.length=32):(Tryz.prog.info? 39).map (fun x=>x.size)=some (l.map (Value.int .u8)).length:=by
 rw [List.length_map,h]
 exact Tryz.sizeSum
theorem sum_there {w:World} {g:Nat} {t:TypeId} {l:List Int} (h:w.heap[g]?=some (.cells (List.replicate 32 (Value.int .u8 0)).toArray t (0,0))) (hl:l.length=32):w.there g 0 (l.map (Value.int .u8)).length:=by
 intro j hj
 rw [List.length_map,hl] at hj
 refine ⟨?_,frozen_of_row w g (0+j) _ _ h⟩
 rw [cell_of_row w g (0+j) _ _ _ h]
 simp [hj]
set_option maxHeartbeats 1000000 in
set_option maxRecDepth 100000 in
theorem sum_anyN (S:Nm.St) (x:List Int) (g b c:Nat) (p:Option Addr) (n cap:Nat) (hn:x.length=n) (w:World) (hs:StAt w g b c S) (hp:Bs w p cap x) (hl:S.ts.length≤100000) :
  Calls Tryz.prog 263 #[.pointer (some ⟨g,0,none⟩),.slice p n cap] w (SumSayN g b c S x w):=by
 subst hn
 have hc0:w.heap.size ≠ c:=by have:=hs.lt;omega
 have B0:Hid (Below w.heap.size w (w.alloc (.cells (List.replicate 32 (Value.int .u8 0)).toArray 39))):=(Below.refl _ w).alloc (Nat.le_refl _) _
 have S0:=Lib.hid (hs.old B0.out)
 have P0:=Lib.hid (hp.old B0.out)
 have HT:=Lib.hid (okt_bs hp)
 have HCV:Hid (∀ y,Bs y p cap x→(convert 22 9 (.slice p x.length cap)).run Tryz.prog y = .ok (.string (Nm.bts x)) y):=fun y hy=>text_of hy
 have R0:Hid ((w.alloc (.cells (List.replicate 32 (Value.int .u8 0)).toArray 39)).heap[w.heap.size]?=some (.cells (List.replicate 32 (Value.int .u8 0)).toArray 39 (0,0))):=heap_alloc_new w _
 have C0:(w.alloc (.cells (List.replicate 32 (Value.int .u8 0)).toArray 39)).cell? ⟨g,1,none⟩=some (.map (some c)):=by rw [cell_of_row _ g 1 _ _ _ S0.out.row];rfl
 have HC0:=Lib.hid C0
 have HV0:=Lib.hid (HCV.out _ P0.out.drew)
 have HP:=Lib.hid hp
 have HGW:Hid (g ≠ w.heap.size):=by show _ ≠ _;have:=hs.lt;omega
 have HGB:Hid (b ≠ w.heap.size∧c ≠ w.heap.size):=by show _∧_;have:=hs.lt;omega
 have hone:=bytes_one (Nm.tg 1 (Nm.num x S.ts))
 have hsz:=sum_size (Nm.tg_len 1 (Nm.num x S.ts))
 clear hs hp C0
 go_enter Tryz.func263,Tryz.ntmps263
 go_upto_region 1 with (fail)
 go_region_held3 (fun y=>y.cell? ⟨g,1,none⟩=some (.map (some c))∧(convert 22 9 (.slice p x.length cap)).run Tryz.prog y = .ok (.string (Nm.bts x)) y)
  (exact ⟨Hid.out (by assumption),Hid.out (by assumption)⟩)
  (first
   | (go_at_call 267;refine Calls.mono (rem_text S.ts x c _ ?_ HT.out (by omega)) ?_;exact S0.out.ts;rintro e1 w1 ⟨rfl,m1,o1⟩;have M1:=Lib.hid m1;have O1:=Lib.hid o1;have HC1:Hid (w1.cell? ⟨g,1,none⟩=some (.map (some c))):=o1.cell S0.out.apart.2.2 HC0.out;have R1:Hid (w1.heap[w.heap.size]?=some (.cells (List.replicate 32 (Value.int .u8 0)).toArray 39 (0,0))):=(o1.block _ (lt_of_block R0.out) hc0).trans R0.out;have BS1:=Lib.hid (bs_only P0.out.drew o1 (bs_map P0.out S0.out.ts));have HV1:=Lib.hid (HCV.out w1 BS1.out);clear m1 o1)
   | (go_at_call 264;refine (ending_anyN _ _ _).mono ?_;rintro e2 w2 ⟨rfl,b2⟩;have B2:=Lib.hid b2;have HC2:Hid (w2.cell? ⟨g,1,none⟩=some (.map (some c))):=(b2.cell (World.block_lt_of_cell? _ _ HC1.out)).trans HC1.out;have BS2:=Lib.hid (BS1.out.old b2);have HV2:=Lib.hid (HCV.out w2 BS2.out);have R2:Hid (w2.heap[w.heap.size]?=some (.cells (List.replicate 32 (Value.int .u8 0)).toArray 39 (0,0))):=(b2.block _ (lt_of_block R1.out)).trans R1.out;have hth:=sum_there R2.out (Nm.tg_len 1 (Nm.num x S.ts));have K3:=Lib.hid (Chg.setCells w.heap.size ((Nm.tg 1 (Nm.num x S.ts)).map (Value.int .u8)) 0 w2);have HC3:Hid ((w2.setCells w.heap.size 0 ((Nm.tg 1 (Nm.num x S.ts)).map (Value.int .u8))).cell? ⟨g,1,none⟩=some (.map (some c))):=K3.out.only.cell HGW.out HC2.out;have HV3:=Lib.hid (HCV.out _ (bs_new HP.out BS2.out K3.out.only (Nat.le_refl _)));clear b2))
 have R3:Hid ((w2.setCells w.heap.size 0 ((Nm.tg 1 (Nm.num x S.ts)).map (Value.int .u8))).heap[w.heap.size]?=some (.cells ((Nm.tg 1 (Nm.num x S.ts)).map (Value.int .u8)).toArray 39 (0,0))):=by
  have h:=heap_setCells w.heap.size 39 ((Nm.tg 1 (Nm.num x S.ts)).map (Value.int .u8)) 0 _ w2 R2.out (by simp [Nm.tg_len])
  show _=_
  rw [h]
  congr 2
  simp [splice,Nm.tg_len]
 have SF:Hid (StAt (w2.setCells w.heap.size 0 ((Nm.tg 1 (Nm.num x S.ts)).map (Value.int .u8))) g b c (Nm.smd S x)):=by
  have h1:StAt w1 g b c (Nm.smd S x):=⟨(O1.out.block _ S0.out.drew.lt.1 S0.out.apart.2.2).trans S0.out.row,S0.out.drew.ss.keep (O1.out.block _ S0.out.drew.lt.2.1 S0.out.apart.1),M1.out,S0.out.apart⟩
  exact (h1.old B2.out).only K3.out.only HGW.out HGB.out.1 HGB.out.2
 have OF:Hid (Only c w (w2.setCells w.heap.size 0 ((Nm.tg 1 (Nm.num x S.ts)).map (Value.int .u8)))):=by
  have h1:Only c w w2:=((only_of_below B0.out).drew.trans O1.out).trans (only_of_below B2.out)
  exact ⟨K3.out.os.trans h1.os,K3.out.tape.trans h1.tape,K3.out.output.trans h1.output,by rw [K3.out.size];exact h1.size,fun k hk hkc=>(K3.out.block k (by omega)).trans (h1.block k hk hkc)⟩
 have H32:Hid (((Nm.tg 1 (Nm.num x S.ts)).map (Value.int .u8)).toArray.size=32):=by show _=_;simp [Nm.tg_len]
 go_wp2
 refine bodyPost_ret (results_cell_row rfl _ _ w.heap.size 39 _ (0,0) _ rfl R3.out Tryz.underlying39 rfl (row_size Tryz.sizeSum H32)) rfl ⟨rfl,SF,OF.out⟩
end

/-! NaR:  -/
section
open Go.RowKit
namespace Nm
def may (x:Four):Bool:=inR x.1&&inR x.2.1
def sl (S:St) (x:Four):List Int:=if may x then x.2.2.2++tg 0 (num x S.ss) else []
def sld (S:St) (x:Four):St:=if may x then ⟨put x S.ss,S.ts⟩ else S
theorem sl_len (S:St) (x:Four):(sl S x).length=if may x then x.2.2.2.length+32 else 0:=by
 unfold sl
 split
 ·rw [List.length_append,tg_len]
 ·rfl
theorem sl_byt (S:St) (x:Four) (h:Sha.Byt x.2.2.2):Sha.Byt (sl S x):=by
 unfold sl
 split
 ·exact Sha.byt_append h (tg_byt _ _ (by omega))
 ·intro y hy;simp at hy
end Nm
set_option maxRecDepth 100000 in
theorem inrange_any (n:Int) (w:World):Calls Tryz.prog 265 #[.int .i64 n] w fun e w'=>e = .returned (.bool (Nm.inR n))∧w=w':=by
 unfold Nm.inR
 by_cases h1:0≤n
 ·by_cases h2:n≤1099511627776
  ·go_enter Tryz.func265,Tryz.ntmps265
   go_wp2
   go_ret
   exact ⟨by simp [h1,h2],rfl⟩
  ·have h2':decide (n≤1099511627776)=false:=by simpa using h2
   go_enter Tryz.func265,Tryz.ntmps265
   go_wp2
   go_ret
   exact ⟨by simp,rfl⟩
 ·have h1':decide (0≤n)=false:=by simpa using h1
  go_enter Tryz.func265,Tryz.ntmps265
  go_wp2
  go_ret
  exact ⟨by simp,rfl⟩
theorem only_set {b G:Nat} {w y:World} {vs:List Value} (h:Only b w y) (hG:w.heap.size≤G):Only b w (y.setCells G 0 vs) :=
 have k:=Chg.setCells G vs 0 y
 ⟨k.os.trans h.os,k.tape.trans h.tape,k.output.trans h.output,by rw [k.size];exact h.size,fun i hi hb=>(k.block i (by omega)).trans (h.block i hi hb)⟩
theorem own_baseN {w:World} {B B' n:Nat} {e:TypeId} {v:Value} {xs:List Value} (h:w.ownsRow B e 1 v n xs) (hB:B'≤B):w.ownsRow B' e 1 v n xs:=by
 refine ⟨h.1,?_⟩
 rcases h.2 with h1 | ⟨g,cap,cur,h1,h2,h3⟩
 ·exact Or.inl h1
 ·exact Or.inr ⟨g,cap,cur,h1,Nat.le_trans hB h2,h3⟩
theorem concat_two (p q:Option Addr) (n m c d k:Nat) (L M:List Int) (hn:L.length=n) (hm:M.length=m) (hl:n+m≤1000000000) (w:World) (hk:w.heap[k]?=some (.cells #[.slice p n c,.slice q m d] 22 (0,0))) (hp:Bs w p c L) (hq:Bs w q d M) :
  Calls Tryz.prog 123 #[.slice (some ⟨k,0,none⟩) 2 2] w fun e w'=>∃ v,e = .returned v∧w'.ownsRow w.heap.size 5 1 v (n+m) (U8s (L++M))∧Below w.heap.size w w':=by
 subst hn
 subst hm
 have hc2:Seal.cat (fun i=>if i=0 then L else M) 2=L++M:=by unfold Seal.cat;unfold Seal.cat;unfold Seal.cat;simp
 refine (concat_any (fun i=>if i=0 then p else q) (fun i=>if i=0 then c else d) (fun i=>if i=0 then L else M) 2 k (by omega) w ?_ ?_ (by rw [hc2,List.length_append];omega)).mono ?_
 ·intro i hi
  rcases i with _ | _ | i
  ·rw [cell_of_row w k 0 _ _ _ hk];rfl
  ·rw [cell_of_row w k 1 _ _ _ hk];rfl
  ·omega
 ·intro i hi
  rcases i with _ | _ | i
  ·exact hp
  ·exact hq
  ·omega
 ·rintro e w' ⟨v,h1,h2,h3⟩
  rw [hc2,List.length_append] at h2
  exact ⟨v,h1,h2,h3⟩
def SealSay (g b c:Nat) (S:Nm.St) (x:Nm.Four) (w:World) (e:Ending) (w':World):Prop :=
 ∃ p k m,e = .returned (.slice p m k)∧(Nm.sl S x).length=m∧Hid (w'.ownsRow w.heap.size 5 1 (.slice p m k) m (U8s (Nm.sl S x)))∧Hid (Bs w' p k (Nm.sl S x))∧Hid (StAt w' g b c (Nm.sld S x))∧Only b w w'
theorem seal_noneN (S:Nm.St) (x:Nm.Four) (g b c:Nat) (vh vp:Value) (hb:Nm.may x=false) (w:World) (hs:StAt w g b c S) :
  Calls Tryz.prog 262 #[.pointer (some ⟨g,0,none⟩),.int .i64 x.1,.int .i64 x.2.1,vh,vp] w (SealSay g b c S x w):=by
 have HE:Hid (SealSay g b c S x w (.returned (.slice none 0 0)) w):=by
  refine ⟨none,0,0,rfl,by rw [Nm.sl_len,hb];rfl,?_,?_,?_,Only.refl _ _⟩
  ·show World.ownsRow _ _ _ _ _ _ _;unfold Nm.sl;rw [hb];unfold U8s;exact World.ownsRow_nil _ _ _ _
  ·show Bs _ _ _ _;unfold Nm.sl;rw [hb];exact bs_none w
  ·show StAt _ _ _ _ _;unfold Nm.sld;rw [hb];exact hs
 obtain ⟨x1,x2,x3,x4⟩:=x
 unfold Nm.may at hb
 dsimp only at hb
 clear hs
 cases h1:Nm.inR x1 with
 | false =>
  go_enter Tryz.func262,Tryz.ntmps262
  go_wp2_with (go_at_call 265;refine (inrange_any _ _).mono ?_;rintro e1 w1 ⟨rfl,rfl⟩;rw [h1])
  go_ret
  exact HE.out
 | true =>
  have h2:Nm.inR x2=false:=by rw [h1] at hb;simpa using hb
  clear hb
  go_enter Tryz.func262,Tryz.ntmps262
  go_wp2_with (go_at_call 265;refine (inrange_any _ _).mono ?_;rintro e1 w1 ⟨rfl,rfl⟩;first | rw [h1] | rw [h2])
  go_ret
  exact HE.out
theorem heap2_same (w:World) (G:Nat) {vs:List Value} {T:TypeId} (h:w.heap[G]?=some (.cells (List.replicate 32 (Value.int .u8 0)).toArray T (0,0))) (hv:vs.length=32):(w.setCells G 0 vs).heap[G]?=some (.cells vs.toArray T (0,0)):=by
 have h1:=heap_setCells G T vs 0 _ w h (by simp [hv])
 rw [h1]
 congr 2
 simp [splice,hv]
set_option maxHeartbeats 4000000 in
set_option maxRecDepth 100000 in
theorem seal_goodN (S:Nm.St) (x:Nm.Four) (g b c:Nat) (ph pp:Option Addr) (nh np ch cp:Nat) (hnh:x.2.2.1.length=nh) (hnp:x.2.2.2.length=np) (hsz:np≤1000000) (hm:Nm.may x=true) (hx64:Nm.In64 x.1∧Nm.In64 x.2.1)
  (w:World) (hs:StAt w g b c S) (hh:Bs w ph ch x.2.2.1) (hp:Bs w pp cp x.2.2.2) (hl:S.ss.length≤100000) :
  Calls Tryz.prog 262 #[.pointer (some ⟨g,0,none⟩),.int .i64 x.1,.int .i64 x.2.1,.slice ph nh ch,.slice pp np cp] w (SealSay g b c S x w):=by
 have HX:Hid (Nm.ok4 x):=⟨hx64.1,hx64.2,okt_bs hh,okt_bs hp⟩
 have HLT:=Lib.hid hs.lt
 have HAP:=Lib.hid hs.apart
 have HSS:Hid (∀ y:World,y.heap[b]?=w.heap[b]?→MpAt Nm.kv4 Nm.ok4 y b S.ss):=fun y hy=>hs.ss.keep hy
 have HK1:∀ y,Only b w y→y.cell? ⟨g,0,none⟩=some (.map (some b)):=fun y hy=>hy.cell hs.apart.2.1 (by rw [cell_of_row _ g 0 _ _ _ hs.row];rfl)
 have HB2:∀ y,Only b w y→Bs y ph ch x.2.2.1:=fun y hy=>bs_only hh hy (bs_map hh hs.ss)
 have HB3:Hid (∀ y,Only b w y→Bs y pp cp x.2.2.2):=fun y hy=>bs_only hp hy (bs_map hp hs.ss)
 have HK:Hid (∀ y,Only b w y→y.cell? ⟨g,0,none⟩=some (.map (some b))∧(convert 22 9 (.slice ph nh ch)).run Tryz.prog y = .ok (.string (Nm.bts x.2.2.1)) y∧(convert 22 9 (.slice pp np cp)).run Tryz.prog y = .ok (.string (Nm.bts x.2.2.2)) y):=fun y hy=>by
  refine ⟨HK1 y hy,?_,?_⟩
  ·rw [← hnh];exact text_of (HB2 y hy)
  ·rw [← hnp];exact text_of (HB3.out y hy)
 have OW:Hid (Only b w w.drew):=(Only.refl b w).drew
 have HFIN:Hid (∀ y v,y.ownsRow w.heap.size 5 1 v (np+32) (U8s (x.2.2.2++Nm.tg 0 (Nm.num x S.ss)))→MpAt Nm.kv4 Nm.ok4 y b (Nm.put x S.ss)→Only b w y→SealSay g b c S x w (.returned v) y):=fun y v hv hmp ho=>by
  have hsl:Nm.sl S x=x.2.2.2++Nm.tg 0 (Nm.num x S.ss):=by unfold Nm.sl;rw [hm];rfl
  obtain ⟨p,k,hv1,hb,hlen⟩:=own_bs hv (by rw [← hsl];exact Nm.sl_byt S x hp.bat.1)
  subst hv1
  refine ⟨p,k,_,rfl,by rw [hsl],?_,?_,?_,ho⟩
  ·show World.ownsRow _ _ _ _ _ _ _;rw [hsl];rw [← hlen] at hv;exact hv
  ·show Bs _ _ _ _;rw [hsl];exact hb
  ·show StAt _ _ _ _ _
   unfold Nm.sld
   rw [hm]
   exact ⟨(ho.block _ hs.lt.1 hs.apart.2.1).trans hs.row,hmp,hs.ts.keep (ho.block _ hs.lt.2.2 hs.apart.1.symm),hs.apart⟩
 have HT:=Lib.hid (Nm.tg_len 0 (Nm.num x S.ss))
 have HTB:=Lib.hid (Nm.tg_byt 0 (Nm.num x S.ss) (by omega))
 have HN:=Lib.hid (And.intro hnh hnp)
 have hone:=bytes_one (Nm.tg 0 (Nm.num x S.ss))
 have hsz1:=sum_size (Nm.tg_len 0 (Nm.num x S.ss))
 have hm1:Nm.inR x.1=true:=by unfold Nm.may at hm;simp only [Bool.and_eq_true] at hm;exact hm.1
 have hm2:Nm.inR x.2.1=true:=by unfold Nm.may at hm;simp only [Bool.and_eq_true] at hm;exact hm.2
 have HM:=Lib.hid (And.intro hm1 hm2)
 clear hm hm1 hm2 hnh hnp HK1 HB2 hs hh hp hx64
 go_enter Tryz.func262,Tryz.ntmps262
 go_upto_region 3 with (go_at_call 265;refine (inrange_any _ _).mono ?_;rintro e1 w1 ⟨rfl,rfl⟩;first | rw [HM.out.1] | rw [HM.out.2])
 go_region_held3 (fun y=>y.cell? ⟨g,0,none⟩=some (.map (some b))∧(convert 22 9 (.slice ph nh ch)).run Tryz.prog y = .ok (.string (Nm.bts x.2.2.1)) y∧(convert 22 9 (.slice pp np cp)).run Tryz.prog y = .ok (.string (Nm.bts x.2.2.2)) y)
  (exact HK.out _ (by first | exact Hid.out (by assumption) | exact Only.alloc (Hid.out (by assumption)) _ | exact only_set (Hid.out (by assumption)) (by first | exact Nat.le_refl _ | exact Only.size (Hid.out (by assumption))) | exact only_set (Only.alloc (Hid.out (by assumption)) _) (Only.size (Hid.out (by assumption)))))
  (first
   | (go_at_call 266;refine Calls.mono (rem_four S.ss x b _ ?_ HX.out (by omega)) ?_;exact HSS.out _ (by first | exact heap_oldX w.drew _ HLT.out.2.1 | rfl);rintro e1 w1 ⟨rfl,m1,o1⟩;have M1:=Lib.hid m1;have O1:Hid (Only b w w1):=Only.trans (by first | exact Hid.out (by assumption) | exact Only.alloc (Hid.out (by assumption)) _) o1;try have R1:Hid (w1.heap[w.heap.size]?=some (.cells (List.replicate 32 (Value.int .u8 0)).toArray 39 (0,0))):=(o1.block _ (by simp) (by have:=HLT.out;omega)).trans (heap_alloc_new _ _))
   | (go_at_call 264;refine (ending_anyN _ _ _).mono ?_;rintro e2 w2 ⟨rfl,b2⟩;have O2:Hid (Only b w w2):=Only.trans (by first | exact Hid.out (by assumption) | exact Only.alloc (Hid.out (by assumption)) _) (only_of_below b2);have MM2:Hid (MpAt Nm.kv4 Nm.ok4 w2 b (Nm.put x S.ss)):=M1.out.keep (by first | exact b2.block _ M1.out.block | exact (b2.block _ (by simp;have:=M1.out.block;omega)).trans (heap_oldX _ _ M1.out.block));have T3:(w2.alloc (.cells #[.int .u8 0,.int .u8 0,.int .u8 0,.int .u8 0,.int .u8 0,.int .u8 0,.int .u8 0,.int .u8 0,.int .u8 0,.int .u8 0,.int .u8 0,.int .u8 0,.int .u8 0,.int .u8 0,.int .u8 0,.int .u8 0,.int .u8 0,.int .u8 0,.int .u8 0,.int .u8 0,.int .u8 0,.int .u8 0,.int .u8 0,.int .u8 0,.int .u8 0,.int .u8 0,.int .u8 0,.int .u8 0,.int .u8 0,.int .u8 0,.int .u8 0,.int .u8 0] 39)).there w2.heap.size 0 ((Nm.tg 0 (Nm.num x S.ss)).map (Value.int .u8)).length:=sum_there (heap_alloc_new w2 (.cells (List.replicate 32 (Value.int .u8 0)).toArray 39)) HT.out;(try (have R2:Hid (w2.heap[w.heap.size]?=some (.cells (List.replicate 32 (Value.int .u8 0)).toArray 39 (0,0))):=(b2.block _ (lt_of_block R1.out)).trans R1.out;have T2:=sum_there R2.out HT.out));(try (have R2:Hid (w2.heap[w1.heap.size]?=some (.cells (List.replicate 32 (Value.int .u8 0)).toArray 39 (0,0))):=(b2.block _ (by simp)).trans (heap_alloc_new _ _);have T2:=sum_there R2.out HT.out)))
   | (go_at_call 266;refine Calls.mono (rem_four S.ss x b _ ?_ HX.out (by omega)) ?_;exact HSS.out _ (heap_oldX w.drew _ HLT.out.2.1);rintro e1 w1 ⟨rfl,m1,o1⟩;have M1:=Lib.hid m1;have O1:Hid (Only b w w1):=Only.trans (OW.out.alloc _) o1;have R1:Hid (w1.heap[w.heap.size]?=some (.cells (List.replicate 32 (Value.int .u8 0)).toArray 39 (0,0))):=(o1.block _ (by simp) (by have:=HLT.out;omega)).trans (heap_alloc_new _ _)))
 case' _ =>
  have HZ:Hid ((w2.alloc (.cells #[.int .u8 0,.int .u8 0,.int .u8 0,.int .u8 0,.int .u8 0,.int .u8 0,.int .u8 0,.int .u8 0,.int .u8 0,.int .u8 0,.int .u8 0,.int .u8 0,.int .u8 0,.int .u8 0,.int .u8 0,.int .u8 0,.int .u8 0,.int .u8 0,.int .u8 0,.int .u8 0,.int .u8 0,.int .u8 0,.int .u8 0,.int .u8 0,.int .u8 0,.int .u8 0,.int .u8 0,.int .u8 0,.int .u8 0,.int .u8 0,.int .u8 0,.int .u8 0] 39)).heap[w2.heap.size]?=some (.cells (List.replicate 32 (Value.int .u8 0)).toArray 39 (0,0))):=heap_alloc_new _ _
  have HG:Hid (w.heap.size≤w2.heap.size):=O2.out.size
  have HO:Hid (Only b w (w2.alloc (.cells #[.int .u8 0,.int .u8 0,.int .u8 0,.int .u8 0,.int .u8 0,.int .u8 0,.int .u8 0,.int .u8 0,.int .u8 0,.int .u8 0,.int .u8 0,.int .u8 0,.int .u8 0,.int .u8 0,.int .u8 0,.int .u8 0,.int .u8 0,.int .u8 0,.int .u8 0,.int .u8 0,.int .u8 0,.int .u8 0,.int .u8 0,.int .u8 0,.int .u8 0,.int .u8 0,.int .u8 0,.int .u8 0,.int .u8 0,.int .u8 0,.int .u8 0,.int .u8 0] 39))):=O2.out.alloc _
  have HMP:Hid (MpAt Nm.kv4 Nm.ok4 (w2.alloc (.cells #[.int .u8 0,.int .u8 0,.int .u8 0,.int .u8 0,.int .u8 0,.int .u8 0,.int .u8 0,.int .u8 0,.int .u8 0,.int .u8 0,.int .u8 0,.int .u8 0,.int .u8 0,.int .u8 0,.int .u8 0,.int .u8 0,.int .u8 0,.int .u8 0,.int .u8 0,.int .u8 0,.int .u8 0,.int .u8 0,.int .u8 0,.int .u8 0,.int .u8 0,.int .u8 0,.int .u8 0,.int .u8 0,.int .u8 0,.int .u8 0,.int .u8 0,.int .u8 0] 39)) b (Nm.put x S.ss)):=MM2.out.keep (heap_oldX _ _ MM2.out.block)
  clear T3
  generalize (w2.alloc (.cells #[.int .u8 0,.int .u8 0,.int .u8 0,.int .u8 0,.int .u8 0,.int .u8 0,.int .u8 0,.int .u8 0,.int .u8 0,.int .u8 0,.int .u8 0,.int .u8 0,.int .u8 0,.int .u8 0,.int .u8 0,.int .u8 0,.int .u8 0,.int .u8 0,.int .u8 0,.int .u8 0,.int .u8 0,.int .u8 0,.int .u8 0,.int .u8 0,.int .u8 0,.int .u8 0,.int .u8 0,.int .u8 0,.int .u8 0,.int .u8 0,.int .u8 0,.int .u8 0] 39))=y at *
  generalize w2.heap.size=G at *
 rotate_left
 case' _ =>
  have HZ:=Lib.hid R2.out
  have HG:Hid (w.heap.size≤w1.heap.size):=O1.out.size
  have HO:=Lib.hid O2.out
  have HMP:=Lib.hid MM2.out
  clear T3 T2 R2
  generalize w1.heap.size=G at *
  generalize w2=y at *
 rotate_left
 case' _ =>
  obtain ⟨G,hGe⟩:∃ G,G=w.heap.size:=⟨_,rfl⟩
  have HZ:Hid (w2.heap[G]?=some (.cells (List.replicate 32 (Value.int .u8 0)).toArray 39 (0,0))):=by rw [hGe];exact R2.out
  have HG:Hid (w.heap.size≤G):=by show _≤_;omega
  have HO:=Lib.hid O2.out
  have HMP:=Lib.hid MM2.out
  clear T3 T2 R2
  rw [← hGe]
  clear hGe
  generalize w2=y at *
 rotate_left
 all_goals
  have RG:=Lib.hid (heap2_same y G HZ.out (vs:=((Nm.tg 0 (Nm.num x S.ss)).map (Value.int .u8))) (by simp [HT.out]))
  have HO1:Hid (Only b w (y.setCells G 0 ((Nm.tg 0 (Nm.num x S.ss)).map (Value.int .u8)))):=only_set HO.out HG.out
  have HM1:Hid (MpAt Nm.kv4 Nm.ok4 (y.setCells G 0 ((Nm.tg 0 (Nm.num x S.ss)).map (Value.int .u8))) b (Nm.put x S.ss)):=HMP.out.keep ((Chg.setCells G _ 0 y).block _ (by have:=HLT.out;have:=HG.out;omega))
  clear hone hsz1 HZ HO HMP HK HSS
  generalize (y.setCells G 0 ((Nm.tg 0 (Nm.num x S.ss)).map (Value.int .u8)))=z at *
  have BG:Hid (Bs z (some ⟨G,0,none⟩) 32 (Nm.tg 0 (Nm.num x S.ss))):=bs_row (bat_row RG.out HTB.out) ⟨by rw [HT.out];omega,by omega⟩
  have BP:=Lib.hid (HB3.out _ HO1.out)
  clear RG HB3
  go_wp2_with (go_at_call 123;refine (concat_two pp (some ⟨G,0,none⟩) np 32 cp 32 _ x.2.2.2 (Nm.tg 0 (Nm.num x S.ss)) HN.out.2 HT.out (by omega) _ (heap_alloc_new _ _) (BP.out.old ((Below.refl _ _).alloc (Nat.le_refl _) _)) (BG.out.old ((Below.refl _ _).alloc (Nat.le_refl _) _))).mono ?_;rintro e3 w3 ⟨v3,rfl,ho3,hb3⟩)
  go_ret
  have hb4:Below z.heap.size z w3:=((Below.refl _ z).alloc (Nat.le_refl _) _).trans (hb3.mono (by simp))
  refine HFIN.out _ _ (own_baseN ho3 (by have:=HO1.out.size;simp;omega)) (HM1.out.old hb4) (HO1.out.trans (only_of_below hb4))
end

/-! NaT:  -/
section
open Go.RowKit
theorem all_eqN (a b:List Int) (ha:a.length=32) (hb:b.length=32):((List.range 32).all fun i=>a.getD i 0==b.getD i 0)=decide (a=b):=by
 by_cases h:a=b
 ·subst h;simp
 ·rw [decide_eq_false h,← Bool.not_eq_true,List.all_eq_true]
  intro hall
  apply h
  apply List.ext_getElem (by omega)
  intro i h1 h2
  have:=hall i (List.mem_range.2 (by omega))
  simpa [List.getD_eq_getElem?_getD,h1,h2] using this
theorem sums_eq (a b:List Int) (ha:a.length=32) (hb:b.length=32) (w:World) :
  (Op.equalIn 10000 39 (.agg (a.map (Value.int .u8)).toArray) (.agg (b.map (Value.int .u8)).toArray)).run Tryz.prog w = .ok (decide (a=b)) w:=by
 cases hq:Tryz.prog.info? 5 with
 | none=>have h5:=Tryz.info_u8;rw [hq] at h5;cases h5
 | some i =>
  rw [show (10000:Nat)=(9998+1)+1 from rfl,run_equalIn_array w _ _ _ Tryz.underlying39 hq,← all_eqN a b ha hb]
  exact items_eq 9998 _ (by kernel_rfl) a b w _ (fun j hj=>by rw [ha];exact List.mem_range.1 hj) (fun j hj=>by rw [hb];exact List.mem_range.1 hj)
theorem in64_of {n:Int} (h:Nm.inR n=true):Nm.In64 n:=by
 unfold Nm.inR at h
 simp at h
 unfold Nm.In64
 omega
theorem seal_anyN (S:Nm.St) (x:Nm.Four) (g b c:Nat) (ph pp:Option Addr) (nh np ch cp:Nat) (hnh:x.2.2.1.length=nh) (hnp:x.2.2.2.length=np) (hsz:np≤1000000)
  (w:World) (hs:StAt w g b c S) (hh:Bs w ph ch x.2.2.1) (hp:Bs w pp cp x.2.2.2) (hl:S.ss.length≤100000) :
  Calls Tryz.prog 262 #[.pointer (some ⟨g,0,none⟩),.int .i64 x.1,.int .i64 x.2.1,.slice ph nh ch,.slice pp np cp] w (SealSay g b c S x w):=by
 cases hm:Nm.may x with
 | false=>exact seal_noneN S x g b c _ _ hm w hs
 | true =>
  have h:=hm
  unfold Nm.may at h
  simp only [Bool.and_eq_true] at h
  exact seal_goodN S x g b c ph pp nh np ch cp hnh hnp hsz hm ⟨in64_of h.1,in64_of h.2⟩ w hs hh hp hl
namespace Nm
def opn (S:St) (e n:Int) (h s:List Int):Option (List Int) :=
 if s.length<32 then none
 else if place (e,n,h,s.take (s.length-32)) S.ss ≠ 0∧s.drop (s.length-32)=tg 0 (place (e,n,h,s.take (s.length-32)) S.ss) then some (s.take (s.length-32)) else none
end Nm
def OpSay (o:Option (List Int)) (w:World) (e:Ending) (w':World):Prop :=
 ∃ p k m,e = .returned (.tuple #[.slice p m k,.bool o.isSome])∧(o.getD []).length=m∧Hid (w'.ownsRow w.heap.size 5 1 (.slice p m k) m (U8s (o.getD [])))∧Hid (Bs w' p k (o.getD []))∧Below w.heap.size w w'
theorem opsay_none {w w':World} (hb:Below w.heap.size w w'):OpSay none w (.returned (.tuple #[.slice none 0 0,.bool false])) w' :=
 ⟨none,0,0,rfl,rfl,by show World.ownsRow _ _ _ _ _ _ _;unfold U8s;exact World.ownsRow_nil _ _ _ _,bs_none w',hb⟩
theorem open_short (S:Nm.St) (e n:Int) (h s:List Int) (g:Nat) (vh:Value) (ps:Option Addr) (ns cs:Nat) (hns:s.length=ns) (hlt:ns<32) (w:World) :
  Calls Tryz.prog 261 #[.pointer (some ⟨g,0,none⟩),.int .i64 e,.int .i64 n,vh,.slice ps ns cs] w (OpSay (Nm.opn S e n h s) w):=by
 have HO:Hid (Nm.opn S e n h s=none):=by show _=_;unfold Nm.opn;rw [if_pos (by omega)]
 rw [HO.out]
 have hw0:IntKind.i64.wrap ((ns:Int)-32)=(ns:Int)-32:=IntWalk.i64_in _ ⟨by omega,by omega⟩
 have hneg:(ns:Int)-32<0:=by omega
 go_enter Tryz.func261,Tryz.ntmps261
 go_wp2
 go_ret2
 exact opsay_none (Below.refl _ _)
end

/-! NaU:  -/
section
open Go.RowKit
theorem row_rng {w:World} {g:Nat} {A:Array Value} {t:TypeId} {fr:Nat × Nat} (h:w.heap[g]?=some (.cells A t fr)):w.rangeAt g 0 A.toList:=fun j v hv=>by
 rw [cell_of_row w g (0+j) _ _ _ h]
 simpa using hv
theorem exec_arrN {P:Program} {a:Act} {w:World} {D:Option Tmp} {T:TypeId} {ps:String} {af:Array Edge} {gd:Option (Nat × Bool)} (ty:TypeId) (x:Operand) (b o:Nat) (A:Array Value) (d:TypeDesc) (hx:a.eval x = .pointer (some ⟨b,o,none⟩)) (hc:w.rangeAt b o A.toList)
  (hu:P.underlying ty=some d) (hd:d.isRow=true) (hi:(P.info? ty).map (·.size)=some A.size) :
  (execOp a.eval { dst:=D,op:=.load ty x,type:=T,pos:=ps,after:=af,guard:=gd }).run P w = .ok (.value (.agg A)) w:=by
 have h:=run_loadAt_mid (P:=P) w b o ty A.toList d hc hu hd (by simpa using hi)
 unfold execOp
 simp only [hx,h,Sem.run_bind,Sem.run_pure,Result.andThen_ok,Array.toArray_toList]
set_option maxHeartbeats 4000000 in
set_option maxRecDepth 100000 in
theorem open_goodN (S:Nm.St) (e n:Int) (h s:List Int) (g b c:Nat) (ph:Option Addr) (ab ao nh ns ch cs k:Nat) (hnh:h.length=nh) (hns:s.length=ns) (hk:ns=k+32) (hsz:ns≤1000000) (he:Nm.In64 e) (hn:Nm.In64 n)
  (w:World) (hs:StAt w g b c S) (hh:Bs w ph ch h) (hS:Bs w (some ⟨ab,ao,none⟩) cs s) :
  Calls Tryz.prog 261 #[.pointer (some ⟨g,0,none⟩),.int .i64 e,.int .i64 n,.slice ph nh ch,.slice (some ⟨ab,ao,none⟩) ns cs] w (OpSay (Nm.opn S e n h s) w):=by
 obtain ⟨X,HX⟩:∃ X,Hid (X=s.take k):=⟨_,rfl⟩
 have HXL:Hid (X.length=k):=by show _=_;rw [HX.out,List.length_take];omega
 obtain ⟨G,HGT⟩:∃ G,Hid (G=s.drop k):=⟨_,rfl⟩
 have HGL:Hid (G.length=32):=by show _=_;rw [HGT.out,List.length_drop];omega
 have HBX:Hid (Bs w (some ⟨ab,ao,none⟩) cs X):=⟨by rw [HX.out];exact hS.bat.take k,⟨by have:=hS.cap;have:=HXL.out;omega,hS.cap.2⟩,fun h=>by cases h⟩
 have HX4:Hid (Nm.ok4 (e,n,h,X)):=⟨he,hn,okt_bs hh,okt_bs HBX.out⟩
 obtain ⟨K,HK⟩:∃ K,Hid (K=Nm.place (e,n,h,X) S.ss):=⟨_,rfl⟩
 obtain ⟨T,HT⟩:∃ T,Hid (T=Nm.tg 0 (K:Nat)):=⟨_,rfl⟩
 have HTL:Hid (T.length=32):=by show _=_;rw [HT.out,Nm.tg_len]
 obtain ⟨AT,HAT⟩:∃ A:Array Value,Hid (A=(T.map (Value.int .u8)).toArray):=⟨_,rfl⟩
 have HOP:Hid (Nm.opn S e n h s=if K ≠ 0∧G=T then some X else none):=by
  show _=_
  unfold Nm.opn
  rw [if_neg (by omega),hns,show ns-32=k by omega,← HX.out,← HGT.out,← HK.out,← HT.out]
 obtain ⟨AG,HAG1,HAG2,HAG3⟩:∃ A:Array Value,Hid (A=(G.map (Value.int .u8)).toArray)∧Hid (A.size=32)∧Hid (A.all (·.oneCell')=true) :=
  ⟨_,rfl,by show _=_;simp [HGL.out],all_oneCell_toArray (bytes_one _)⟩
 have HRG:Hid (∀ x,Below w.heap.size w x→x.rangeAt ab (ao+k) AG.toList):=fun x hx j v hv=>by
  obtain ⟨ab',ao',h1,h2⟩:=(hS.old hx).bat.2 (by omega)
  cases h1
  rw [HAG1.out,HGT.out] at hv
  have hj:j<32:=by
   have:=(List.getElem?_eq_some_iff.1 hv).1
   simp at this
   omega
  rw [Nat.add_assoc,h2 (k+j) (by omega)]
  have hv2:(s.drop k)[j]?.map (Value.int .u8)=some v:=by simpa using hv
  rw [List.getElem?_drop] at hv2
  rw [List.getD_eq_getElem?_getD]
  cases hq:s[k+j]? with
  | none=>rw [hq] at hv2;cases hv2
  | some y=>rw [hq] at hv2;simpa using hv2
 have HLK:Hid (∀ y,Below w.heap.size w y→y.cell? ⟨g,0,none⟩=some (.map (some b))∧(convert 22 9 (.slice ph nh ch)).run Tryz.prog y = .ok (.string (Nm.bts h)) y∧(convert 22 9 (.slice (some ⟨ab,ao,none⟩) k cs)).run Tryz.prog y = .ok (.string (Nm.bts X)) y∧(Instr.lookup 139 (.map (some b)) (.agg #[.int .i64 e,.int .i64 n,.string (Nm.bts h),.string (Nm.bts X)]) true).run Tryz.prog y = .ok (.tuple #[.int .i64 (K:Nat),.bool (decide (0<K))]) y):=fun y hy=>by
  refine ⟨?_,?_,?_,?_⟩
  ·rw [cell_of_row _ g 0 _ _ _ (hs.old hy).row];rfl
  ·rw [← hnh];exact text_of (hh.old hy)
  ·rw [← HXL.out];exact text_of (HBX.out.old hy)
  ·have h1:=(hs.old hy).ss.look kd_four Tryz.underlying139 HX4.out
   rw [← HK.out] at h1
   exact h1
 have hcap:=hS.cap
 rw [hns] at hcap
 generalize Nm.opn S e n h s=O at *
 have hw0:IntKind.i64.wrap ((ns:Int)-32)=(ns:Int)-32:=IntWalk.i64_in _ ⟨by omega,by omega⟩
 have hw1:(ns:Int)-32=(k:Int):=by omega
 have hw2:¬ ((k:Int)<0):=by omega
 have hnk:k+32-k=32:=by omega
 have hkc:k≤cs:=by omega
 have hck:¬ (cs-k=0):=by omega
 have hck2:¬ (cs=k):=by omega
 have hle:(k:Int)≤(k:Int)+32:=by omega
 have hat:∀ w,(Instr.arrayAt 39 (.slice (some ⟨ab,ao+k,none⟩) 32 (cs-k))).run Tryz.prog w = .ok (.pointer (some ⟨ab,ao+k,none⟩)) w:=fun w=>run_arrayAt _ _ _ 32 _ 32 _ Tryz.underlying39 (Nat.le_refl _)
 subst hk
 clear hs hh hS hns he hn
 have B0:Hid (Below w.heap.size w w.drew):=(Below.refl _ w).drew
 go_enter Tryz.func261,Tryz.ntmps261
 go_upto_region 4 with (fail)
 refine wp_region_any (by kernel_rfl) ?_
 change wpAny _ _ _ _ _ _ _ (World.drew _)
 obtain ⟨w1,hw1e⟩:∃ x,x=w.drew:=⟨_,rfl⟩
 rw [← hw1e] at B0 ⊢
 clear hw1e
 refine wpAny_of_held (S:=fun y=>y.rangeAt ab (ao+k) AG.toList) _ _ _ _ ?_
 have SD:=HRG.out _ B0.out
 refine aH 0 22 (.slice (some ⟨ab,ao,none⟩) (k+32) cs) SD rfl (by intro x hx;go_simp) ?_
 try simp only [Act.put,zq1,zq2,zq3]
 refine aH 1 23 (.int .i64 (k:Int)) SD rfl (by intro x hx;go_simp) ?_
 try simp only [Act.put,zq1,zq2,zq3]
 refine aH 2 24 (.slice (some ⟨ab,ao,none⟩) k cs) SD rfl (by intro x hx;go_simp) ?_
 try simp only [Act.put,zq1,zq2,zq3]
 refine aH 3 25 (.slice (some ⟨ab,ao,none⟩) (k+32) cs) SD rfl (by intro x hx;go_simp) ?_
 try simp only [Act.put,zq1,zq2,zq3]
 refine aH 4 26 (.int .i64 (k:Int)) SD rfl (by intro x hx;go_simp) ?_
 try simp only [Act.put,zq1,zq2,zq3]
 refine aH 5 27 (.slice (some ⟨ab,ao+k,none⟩) 32 (cs-k)) SD rfl (by intro x hx;go_simp) ?_
 try simp only [Act.put,zq1,zq2,zq3]
 refine aH 6 28 (.pointer (some ⟨ab,ao+k,none⟩)) SD rfl (by intro x hx;go_simp) ?_
 try simp only [Act.put,zq1,zq2,zq3]
 refine aH 7 29 (.agg AG) SD rfl (fun x hx=>exec_arrN 39 (.tmp 28) ab (ao+k) AG _ rfl hx Tryz.underlying39 rfl (row_size Tryz.sizeSum HAG2)) ?_
 try simp only [Act.put,zq1,zq2,zq3]
 have BA1:Hid (∀ C,Below w.heap.size w (w1.alloc C)):=fun C=>B0.out.alloc B0.out.size C
 refine anyH_one 8 (by kernel_rfl) ?_
 refine wpOp_step rfl (fun Kc hKc=>?_)
 go_simp
 refine hKc _ _ ⟨HRG.out _ (BA1.out _),?_⟩
 clear hKc Kc SD
 try simp only [Act.put,zq1,zq2,zq3]
 have SD:=HRG.out _ (BA1.out (.cells #[.int .u8 0,.int .u8 0,.int .u8 0,.int .u8 0,.int .u8 0,.int .u8 0,.int .u8 0,.int .u8 0,.int .u8 0,.int .u8 0,.int .u8 0,.int .u8 0,.int .u8 0,.int .u8 0,.int .u8 0,.int .u8 0,.int .u8 0,.int .u8 0,.int .u8 0,.int .u8 0,.int .u8 0,.int .u8 0,.int .u8 0,.int .u8 0,.int .u8 0,.int .u8 0,.int .u8 0,.int .u8 0,.int .u8 0,.int .u8 0,.int .u8 0,.int .u8 0] 39))
 refine aH 9 13 (.slice (some ⟨ab,ao,none⟩) k cs) SD rfl (by intro x hx;go_simp) ?_
 try simp only [Act.put,zq1,zq2,zq3]
 refine anyH_one 10 (by kernel_rfl) ?_
 refine op_store 10 39 (.tmp 14) (.tmp 29) rfl w1.heap.size 0 39 (List.replicate 32 (Value.int .u8 0)) AG rfl rfl (heap_alloc_new w1 _) (row_size Tryz.sizeSum HAG2) (by rw [HAG2.out];simp) HAG3.out ?_
 intro w5 g5 ch5
 have B5:Hid (Below w.heap.size w w5):=ch5.below (BA1.out _) B0.out.size
 refine ⟨HRG.out _ B5.out,?_⟩
 try simp only [Act.put,zq1,zq2,zq3]
 refine wpAnyH_done (by kernel_rfl) ?_ _
 have G5:Hid (w5.heap[w1.heap.size]?=some (.cells AG 39 (0,0))):=by
  have h:=g5.out
  have e:splice (List.replicate 32 (Value.int .u8 0)) 0 AG.toList=AG.toList:=by
   unfold splice
   rw [List.take_zero,List.nil_append,Array.length_toList,HAG2.out,List.drop_of_length_le (by simp),List.append_nil]
  rw [e,Array.toArray_toList] at h
  exact h
 clear g5 ch5 BA1 B0 SD
 generalize w1.heap.size=g1 at *
 go_upto_region 5 with (fail)
 refine wp_region_any (by kernel_rfl) ?_
 change wpAny _ _ _ _ _ _ _ (World.drew _)
 have B6:Hid (Below w.heap.size w w5.drew):=B5.out.drew
 have G6:Hid (w5.drew.heap[g1]?=some (.cells AG 39 (0,0))):=G5.out
 clear B5 G5
 generalize w5.drew=w6 at *
 refine wpAny_of_held (S:=fun y=>y.cell? ⟨g,0,none⟩=some (.map (some b))∧(convert 22 9 (.slice ph nh ch)).run Tryz.prog y = .ok (.string (Nm.bts h)) y∧(convert 22 9 (.slice (some ⟨ab,ao,none⟩) k cs)).run Tryz.prog y = .ok (.string (Nm.bts X)) y∧(Instr.lookup 139 (.map (some b)) (.agg #[.int .i64 e,.int .i64 n,.string (Nm.bts h),.string (Nm.bts X)]) true).run Tryz.prog y = .ok (.tuple #[.int .i64 (K:Nat),.bool (decide (0<K))]) y) _ _ _ _ ?_
 have SD:=Lib.hid (HLK.out _ B6.out)
 refine aH 0 31 (.pointer (some ⟨g,0,none⟩)) SD.out rfl (by intro x hx;obtain ⟨y0,y1,y2,y3⟩:=hx;go_simp) ?_
 try simp only [Act.put,zq1,zq2,zq3]
 refine aH 1 32 (.pointer (some ⟨g,0,none⟩)) SD.out rfl (by intro x hx;obtain ⟨y0,y1,y2,y3⟩:=hx;go_simp) ?_
 try simp only [Act.put,zq1,zq2,zq3]
 refine aH 2 33 (.pointer (some ⟨g,0,none⟩)) SD.out rfl (by intro x hx;obtain ⟨y0,y1,y2,y3⟩:=hx;go_simp) ?_
 try simp only [Act.put,zq1,zq2,zq3]
 refine aH 3 34 (.map (some b)) SD.out rfl (by intro x hx;obtain ⟨y0,y1,y2,y3⟩:=hx;go_simp) ?_
 try simp only [Act.put,zq1,zq2,zq3]
 refine aH 4 35 (.int .i64 e) SD.out rfl (by intro x hx;obtain ⟨y0,y1,y2,y3⟩:=hx;go_simp) ?_
 try simp only [Act.put,zq1,zq2,zq3]
 refine aH 5 36 (.int .i64 n) SD.out rfl (by intro x hx;obtain ⟨y0,y1,y2,y3⟩:=hx;go_simp) ?_
 try simp only [Act.put,zq1,zq2,zq3]
 refine aH 6 37 (.slice ph nh ch) SD.out rfl (by intro x hx;obtain ⟨y0,y1,y2,y3⟩:=hx;go_simp) ?_
 try simp only [Act.put,zq1,zq2,zq3]
 refine aH 7 38 (.string (Nm.bts h)) SD.out rfl (by intro x hx;obtain ⟨y0,y1,y2,y3⟩:=hx;go_simp) ?_
 try simp only [Act.put,zq1,zq2,zq3]
 refine aH 8 39 (.slice (some ⟨ab,ao,none⟩) k cs) SD.out rfl (by intro x hx;obtain ⟨y0,y1,y2,y3⟩:=hx;go_simp) ?_
 try simp only [Act.put,zq1,zq2,zq3]
 refine aH 9 40 (.string (Nm.bts X)) SD.out rfl (by intro x hx;obtain ⟨y0,y1,y2,y3⟩:=hx;go_simp) ?_
 try simp only [Act.put,zq1,zq2,zq3]
 refine aH 10 41 (.agg #[.int .i64 e,.int .i64 n,.string (Nm.bts h),.string (Nm.bts X)]) SD.out rfl (by intro x hx;obtain ⟨y0,y1,y2,y3⟩:=hx;go_simp) ?_
 try simp only [Act.put,zq1,zq2,zq3]
 refine aH 11 42 (.tuple #[.int .i64 (K:Nat),.bool (decide (0<K))]) SD.out rfl (by intro x hx;obtain ⟨y0,y1,y2,y3⟩:=hx;go_simp) ?_
 try simp only [Act.put,zq1,zq2,zq3]
 refine aH 12 30 (.tuple #[.int .i64 (K:Nat),.bool (decide (0<K))]) SD.out rfl (by intro x hx;obtain ⟨y0,y1,y2,y3⟩:=hx;go_simp) ?_
 try simp only [Act.put,zq1,zq2,zq3]
 refine aH 13 43 (.int .i64 (K:Nat)) SD.out rfl (by intro x hx;obtain ⟨y0,y1,y2,y3⟩:=hx;go_simp) ?_
 try simp only [Act.put,zq1,zq2,zq3]
 refine aH 14 44 (.bool (decide (0<K))) SD.out rfl (by intro x hx;obtain ⟨y0,y1,y2,y3⟩:=hx;go_simp) ?_
 try simp only [Act.put,zq1,zq2,zq3]
 refine aH 15 15 (.int .i64 (K:Nat)) SD.out rfl (by intro x hx;obtain ⟨y0,y1,y2,y3⟩:=hx;go_simp) ?_
 try simp only [Act.put,zq1,zq2,zq3]
 refine aH 16 16 (.bool (decide (0<K))) SD.out rfl (by intro x hx;obtain ⟨y0,y1,y2,y3⟩:=hx;go_simp) ?_
 try simp only [Act.put,zq1,zq2,zq3]
 refine wpAnyH_done (by kernel_rfl) ?_ _
 clear SD HLK
 by_cases hK:0<K
 ·have hd:decide (0<K)=true:=by simpa using hK
  rw [hd]
  go_upto_region 6 with (fail)
  refine wp_region_any (by kernel_rfl) ?_
  change wpAny _ _ _ _ _ _ _ (World.drew _)
  have B7:Hid (Below w.heap.size w w6.drew):=B6.out.drew
  have G7:Hid (w6.drew.heap[g1]?=some (.cells AG 39 (0,0))):=G6.out
  clear B6 G6
  generalize w6.drew=w7 at *
  refine wpAny_of_held (S:=fun y=>y.heap[g1]?=some (.cells AG 39 (0,0))) _ _ _ _ ?_
  refine aH 0 45 (.bool true) G7.out rfl (by intro x hx;go_simp) ?_
  try simp only [Act.put,zq1,zq2,zq3]
  refine aH 1 46 (.bool false) G7.out rfl (by intro x hx;go_simp) ?_
  try simp only [Act.put,zq1,zq2,zq3]
  refine aH 2 47 (.bool false) G7.out rfl (by intro x hx;go_simp) ?_
  try simp only [Act.put,zq1,zq2,zq3]
  refine aH 3 48 (.agg AG) G7.out rfl (fun x hx=>exec_arrN 39 (.tmp 14) g1 0 AG _ rfl (row_rng hx) Tryz.underlying39 rfl (row_size Tryz.sizeSum HAG2)) ?_
  try simp only [Act.put,zq1,zq2,zq3]
  refine aH 4 49 (.int .i64 (K:Nat)) G7.out rfl (by intro x hx;go_simp) ?_
  try simp only [Act.put,zq1,zq2,zq3]
  refine anyH_one 5 (by kernel_rfl) ?_
  refine wpOp_step rfl (fun Kc hKc=>?_)
  go_simp
  refine (ending_anyN _ _ _).mono ?_
  rintro e8 w8 ⟨rfl,hb8⟩
  have B8:Hid (Below w.heap.size w w8):=B7.out.trans (hb8.mono B7.out.size)
  have G8:Hid (w8.heap[g1]?=some (.cells AG 39 (0,0))):=(hb8.block _ (lt_of_block G7.out)).trans G7.out
  clear hb8
  rw [← HT.out,show A32 T = .agg AT from by rw [HAT.out];rfl]
  dsimp only
  refine hKc _ _ ⟨G8.out,?_⟩
  clear hKc Kc B7 G7
  try simp only [Act.put,zq1,zq2,zq3]
  have hng:=Tryz.noGuard
  have HEQ:∀ x,(Op.equalIn 10000 39 (.agg AG) (.agg AT)).run Tryz.prog x = .ok (decide (G=T)) x:=fun x=>by rw [HAG1.out,HAT.out];exact sums_eq G T HGL.out HTL.out x
  refine aH 6 51 (.bool (!decide (G=T))) G8.out rfl (by intro x hx;go_simp) ?_
  try simp only [Act.put,zq1,zq2,zq3]
  refine aH 7 52 (.bool (!decide (G=T))) G8.out rfl (by intro x hx;go_simp) ?_
  try simp only [Act.put,zq1,zq2,zq3]
  refine wpAnyH_done (by kernel_rfl) ?_ _
  clear HEQ hng
  by_cases hGT:G=T
  ·have HOX:Hid (O=some X):=by show _=_;rw [HOP.out,if_pos ⟨by omega,hGT⟩]
   rw [decide_eq_true hGT,Bool.not_true]
   clear hGT HOP
   go_wp2_with (go_at_call 58;refine (clone_anyN X _ k cs HXL.out (by omega) _ (HBX.out.old B8.out)).mono ?_;rintro e9 w9 ⟨v9,rfl,ho9,hb9⟩)
   go_ret2
   have hb2:Below w.heap.size w w9:=B8.out.trans (hb9.mono B8.out.size)
   obtain ⟨p9,c9,rfl,hbs,_⟩:=own_bs ho9 HBX.out.bat.1
   rw [HOX.out]
   refine ⟨p9,c9,_,rfl,rfl,?_,hbs,hb2⟩
   show World.ownsRow _ _ _ _ _ _ _
   have h1:=own_baseN ho9 B8.out.size
   rw [HXL.out] at h1 ⊢
   exact h1
  ·have HOX:Hid (O=none):=by show _=_;rw [HOP.out,if_neg (fun q=>hGT q.2)]
   rw [decide_eq_false hGT,Bool.not_false]
   clear hGT HOP
   go_wp2
   go_ret2
   rw [HOX.out]
   exact opsay_none B8.out
 ·have hd:decide (0<K)=false:=by simpa using hK
  have HOX:Hid (O=none):=by show _=_;rw [HOP.out,if_neg (fun q=>hK (by omega))]
  rw [hd]
  clear HOP
  go_wp2
  go_quiet (fail)
  go_wp2
  go_ret2
  rw [HOX.out]
  exact opsay_none (below_dn B6.out _)
theorem open_anyN (S:Nm.St) (e n:Int) (h s:List Int) (g b c:Nat) (ph ps:Option Addr) (nh ns ch cs:Nat) (hnh:h.length=nh) (hns:s.length=ns) (hsz:ns≤1000000) (he:Nm.In64 e) (hn:Nm.In64 n)
  (w:World) (hs:StAt w g b c S) (hh:Bs w ph ch h) (hS:Bs w ps cs s) :
  Calls Tryz.prog 261 #[.pointer (some ⟨g,0,none⟩),.int .i64 e,.int .i64 n,.slice ph nh ch,.slice ps ns cs] w (OpSay (Nm.opn S e n h s) w):=by
 by_cases hl:ns<32
 ·exact open_short S e n h s g _ ps ns cs hns hl w
 ·obtain ⟨ab,ao,rfl,_⟩:=hS.bat.2 (by omega)
  exact open_goodN S e n h s g b c ph ab ao nh ns ch cs (ns-32) hnh hns (by omega) hsz he hn w hs hh hS
end
end Go.Proofs.YtnnalemboeccbaaGreatDoor

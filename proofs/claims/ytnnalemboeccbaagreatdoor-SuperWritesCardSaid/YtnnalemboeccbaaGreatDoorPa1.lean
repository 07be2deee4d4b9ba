/-
  PaA, PaL, PaB, PaD, PaE, PaF, PaH (merged)
-/
import Derived.Test.YtnnalemboeccbaaGreatDoorA1
import Derived.Test.YtnnalemboeccbaaGreatDoorA3
import Derived.Test.YtnnalemboeccbaaGreatDoorA4
import Derived.Test.YtnnalemboeccbaaGreatDoorA5
import Derived.Test.YtnnalemboeccbaaGreatDoorA6
import Derived.Test.YtnnalemboeccbaaGreatDoorBd1
import Derived.Test.YtnnalemboeccbaaGreatDoorB8
import Derived.Test.YtnnalemboeccbaaGreatDoorBc1
import Derived.Test.YtnnalemboeccbaaGreatDoorSe1
import Derived.Test.YtnnalemboeccbaaGreatDoorSe5
import Derived.Test.YtnnalemboeccbaaGreatDoorSe3
import Derived.Test.YtnnalemboeccbaaGreatDoorSe4
import Derived.Test.YtnnalemboeccbaaGreatDoorNa1
import Derived.WalkKit
import Derived.Laws.CopyOwn
import Derived.OwnWalk
import Derived.BigRegion
import Derived.WalkSpells
import Derived.Lib.Hide
import Derived.Deep.MidRow
import Derived.RegionTactic
import Derived.Deep.RegionHeld3
import Derived.OneCell
import Derived.StillTailTactics
import Derived.Laws.MakeOwn
import Derived.Laws.OwnMore
import Derived.BigQuiet
import Derived.Laws.AppendOwnNone
import Derived.OrdersHeld
import Derived.Lib.AppendZeros
import Derived.Laws.Tables
import Derived.Deep.Matrix
import Derived.RangeFuncNested
import Derived.RangeFuncBound
import Derived.RangeFuncCalls
import Derived.RangeFuncLeaves
import Derived.Shelf.Abstract
import Derived.Shelf.RegionOpen
import Derived.OwnWalkIn
import Derived.TacticsInMore
import Derived.LoopNIn
import Derived.LoopIn
import Derived.Test.YtnnalemboeccbaaGreatDoorChecked
import Derived.WalkLawsBesides
import Derived.Deep.QuietTactic
import Derived.Deep.WholeRow
import Derived.Deep.Cut
import Derived.StillTail
import Derived.Laws.StructEq
import Derived.ChangeKeysEq
import Derived.Laws.Closers25b
import Derived.OrdersIn
import Derived.OpenShut
import Derived.Deep.Slices
import Derived.RangeFuncWrites
import Derived.Laws.EntriesVeiled
import Derived.Deep.RegionLawGrows
import Derived.Deep.CutRange
import Derived.Deep.RegionLaw
import Derived.ArgAppend
import Derived.Lib.SlBytesConst
import Derived.Laws.Cover3
import Derived.Laws.BitsLemmas
import Derived.Maps.AppendAt
import Derived.Test.YtnnalemboeccbaaGreatDoorSe2
import Derived.Test.YtnnalemboeccbaaGreatDoorNa2
import Derived.Maps.OwnSet
import Derived.Laws.IdiomMaps
namespace Go.Proofs.YtnnalemboeccbaaGreatDoor

/-! PaA:  -/
section
open Go.RowKit
namespace Pk
def In64 (n:Int):Prop:=-9223372036854775808≤n∧n≤9223372036854775807
def e8 (k:Int) (j:Nat):List Int:=(List.range j).map fun i=>k / 256 ^ (7-i) % 256
theorem e8_len (k:Int) (j:Nat):(e8 k j).length=j:=by simp [e8]
theorem e8_succ (k:Int) (j:Nat):e8 k (j+1)=e8 k j++[k / 256 ^ (7-j) % 256]:=by simp [e8,List.range_succ]
theorem e8_byt (k:Int) (j:Nat):Sha.Byt (e8 k j):=fun x hx=>by
 simp only [e8,List.mem_map] at hx
 obtain ⟨i,_,rfl⟩:=hx
 omega
theorem e8_eight (k:Int):e8 k 8 = [k / 72057594037927936 % 256,k / 281474976710656 % 256,k / 1099511627776 % 256,k / 4294967296 % 256,k / 16777216 % 256,k / 65536 % 256,k / 256 % 256,k % 256]:=by
 simp [e8,List.range_succ]
def be (L:List Int):Int:=L.foldl (fun v x=>v*256+x) 0
theorem be_nil:be []=0:=rfl
theorem be_snoc (L:List Int) (x:Int):be (L++[x])=be L*256+x:=by simp [be]
def in8 (L:List Int):Int:=(be L+9223372036854775808) % 18446744073709551616-9223372036854775808
theorem in8_in (L:List Int):In64 (in8 L):=by
 have h:=Int.emod_nonneg (be L+9223372036854775808) (b:=18446744073709551616) (by decide)
 have h2:=Int.emod_lt_of_pos (be L+9223372036854775808) (b:=18446744073709551616) (by decide)
 unfold in8 In64
 omega
theorem in8_e8 {k:Int} (h:In64 k):in8 (e8 k 8)=k:=by
 unfold In64 at h
 rw [in8,e8_eight]
 simp only [be,List.foldl_cons,List.foldl_nil]
 obtain ⟨q1,h1⟩:∃ q,k / 256=q:=⟨_,rfl⟩
 obtain ⟨q2,h2⟩:∃ q,k / 65536=q:=⟨_,rfl⟩
 obtain ⟨q3,h3⟩:∃ q,k / 16777216=q:=⟨_,rfl⟩
 obtain ⟨q4,h4⟩:∃ q,k / 4294967296=q:=⟨_,rfl⟩
 obtain ⟨q5,h5⟩:∃ q,k / 1099511627776=q:=⟨_,rfl⟩
 obtain ⟨q6,h6⟩:∃ q,k / 281474976710656=q:=⟨_,rfl⟩
 obtain ⟨q7,h7⟩:∃ q,k / 72057594037927936=q:=⟨_,rfl⟩
 have e2:q1 / 256=q2:=by omega
 have e3:q2 / 256=q3:=by omega
 have e4:q3 / 256=q4:=by omega
 have e5:q4 / 256=q5:=by omega
 have e6:q5 / 256=q6:=by omega
 have e7:q6 / 256=q7:=by omega
 rw [h1,h2,h3,h4,h5,h6,h7]
 clear h2 h3 h4 h5 h6 h7
 have f7:((((((((0*256+q7 % 256)*256+q6 % 256)*256+q5 % 256)*256+q4 % 256)*256+q3 % 256)*256+q2 % 256)*256+q1 % 256)*256+k % 256)=k-(q7-q7 % 256)*72057594037927936:=by omega
 rw [f7]
 have g7:q7-q7 % 256=256*(q7 / 256):=by omega
 rw [g7]
 clear f7 e2 e3 e4 e5 e6 e7
 omega
theorem list8 (L:List Int) (h:L.length=8):∃ a b c d e f g i,L = [a,b,c,d,e,f,g,i]:=by
 match L,h with
 | [a,b,c,d,e,f,g,i],_=>exact ⟨a,b,c,d,e,f,g,i,rfl⟩
theorem e8_in8 {L:List Int} (h:L.length=8) (hb:Sha.Byt L):e8 (in8 L) 8=L:=by
 obtain ⟨a,b,c,d,e,f,g,i,rfl⟩:=list8 L h
 have ha:=hb a (by simp)
 have hb':=hb b (by simp)
 have hc:=hb c (by simp)
 have hd:=hb d (by simp)
 have he:=hb e (by simp)
 have hf:=hb f (by simp)
 have hg:=hb g (by simp)
 have hi:=hb i (by simp)
 rw [e8_eight]
 simp only [in8,be,List.foldl_cons,List.foldl_nil]
 obtain ⟨n,hn⟩:∃ n,((((((((0*256+a)*256+b)*256+c)*256+d)*256+e)*256+f)*256+g)*256+i)=n:=⟨_,rfl⟩
 rw [hn]
 obtain ⟨m,hm⟩:∃ m,(n+9223372036854775808) % 18446744073709551616-9223372036854775808=m:=⟨_,rfl⟩
 have hm2:m=n∨m=n-18446744073709551616:=by omega
 rw [hm]
 clear hm
 congr 1
 ·rcases hm2 with rfl | rfl<;>omega
 congr 1
 ·rcases hm2 with rfl | rfl<;>omega
 congr 1
 ·rcases hm2 with rfl | rfl<;>omega
 congr 1
 ·rcases hm2 with rfl | rfl<;>omega
 congr 1
 ·rcases hm2 with rfl | rfl<;>omega
 congr 1
 ·rcases hm2 with rfl | rfl<;>omega
 congr 1
 ·rcases hm2 with rfl | rfl<;>omega
 congr 1
 rcases hm2 with rfl | rfl<;>omega
theorem be_bound {L:List Int} (hb:Sha.Byt L):∀ k,k≤L.length→0≤be (L.take k)∧be (L.take k)<256 ^ k
 | 0,_=>by simp [be]
 | k+1,h=>by
  have hi:=be_bound hb k (by omega)
  have hx:0≤L.getD k 0∧L.getD k 0≤255:=by
   rw [List.getD_eq_getElem?_getD,List.getElem?_eq_getElem (by omega)]
   exact hb _ (List.getElem_mem _)
  rw [← take_snoc L k (by omega),be_snoc,Int.pow_succ]
  omega
theorem or8 (y x:Int) (h0:0≤x) (h1:x≤255):bits .or .i64 ((y*256+9223372036854775808) % 18446744073709551616-9223372036854775808) x=(y*256+x+9223372036854775808) % 18446744073709551616-9223372036854775808:=by
 obtain ⟨b,rfl⟩:=Int.eq_ofNat_of_zero_le h0
 have hb:b<256:=by omega
 obtain ⟨A,hA⟩:∃ A:Nat,(A:Int)=y*256 % 18446744073709551616:=⟨(y*256 % 18446744073709551616).toNat,by omega⟩
 have hA1:A<18446744073709551616:=by omega
 have hA2:A=2 ^ 8*(A / 256):=by omega
 have ea:BitVec.ofInt 64 ((y*256+9223372036854775808) % 18446744073709551616-9223372036854775808)=BitVec.ofNat 64 A:=by
  rw [← BitVec.ofInt_natCast]
  apply BitVec.eq_of_toInt_eq
  rw [BitVec.toInt_ofInt,BitVec.toInt_ofInt]
  simp only [Int.bmod_def]
  omega
 have eo:(BitVec.ofNat 64 A ||| BitVec.ofInt 64 (b:Int)).toNat=A+b:=by
  rw [BitVec.ofInt_natCast,BitVec.toNat_or,BitVec.toNat_ofNat,BitVec.toNat_ofNat,Nat.mod_eq_of_lt (by omega),Nat.mod_eq_of_lt (by omega)]
  conv=>lhs;rw [hA2]
  rw [← Nat.two_pow_add_eq_or_of_lt (by omega)]
  omega
 have:bits .or .i64 ((y*256+9223372036854775808) % 18446744073709551616-9223372036854775808) (b:Int)=IntKind.i64.wrap ((A+b:Nat):Int):=by
  rw [← eo,← ea]
  rfl
 rw [this,IntKind.wrap_i64]
 omega
def nx (n:Nat) (L:List Int):List Int:=if L.length<n then [] else L.drop n
def nb (n:Nat) (L:List Int) (b:Bool):Bool:=if L.length<n then true else b
def vb (L:List Int):Int:=L.getD 0 0
def vi (L:List Int):Int:=if L.length<8 then 0 else in8 (L.take 8)
theorem nx_le (n:Nat) (L:List Int):(nx n L).length≤L.length:=by unfold nx;split<;>simp
attribute [irreducible] be in8 e8 nx nb vb vi
end Pk
end

/-! PaL:  -/
section
open Go.ChangeShapes Go.WideShapes Go.RowKit
theorem own_keepB {w y:World} {B e s n:Nat} {v:Value} {xs:List Value} (h:w.ownsRow B e s v n xs) (hk:∀ g,v.ownBlock=some g→y.heap[g]?=w.heap[g]?):y.ownsRow B e s v n xs:=by
 refine ⟨h.1,?_⟩
 rcases h.2 with h1 | ⟨g,cap,cur,h1,h2,h3,h4⟩
 ·exact Or.inl h1
 ·exact Or.inr ⟨g,cap,cur,h1,h2,(hk g (by rw [h1];rfl)).trans h3,h4⟩
theorem own_type {w:World} {B e s n:Nat} {v:Value} {xs:List Value} (h:w.ownsRow B e s v n xs):∀ g,v.ownBlock=some g→B≤g∧∃ cur,w.heap[g]?=some (.cells cur e (0,0)):=by
 intro g hg
 rcases h.2 with ⟨h1,_⟩ | ⟨q,cap,cur,h1,h2,h3,h4⟩
 ·rw [h1] at hg;cases hg
 ·rw [h1] at hg;cases hg;exact ⟨h2,cur,h3⟩
theorem own_baseP {w:World} {B B' n:Nat} {e:TypeId} {v:Value} {xs:List Value} (h:w.ownsRow B e 1 v n xs) (hB:B'≤B):w.ownsRow B' e 1 v n xs:=by
 refine ⟨h.1,?_⟩
 rcases h.2 with h1 | ⟨g,cap,cur,h1,h2,h3⟩
 ·exact Or.inl h1
 ·exact Or.inr ⟨g,cap,cur,h1,Nat.le_trans hB h2,h3⟩
set_option maxHeartbeats 1000000 in
set_option maxRecDepth 100000 in
theorem clone_anyP (L:List Int) (p:Option Addr) (n c:Nat) (hn:L.length=n) (hL:n≤1000000) (w:World) (hp:Bs w p c L) :
  Calls Tryz.prog 58 #[.slice p n c] w fun e w'=>∃ v,e = .returned v∧w'.ownsRow w.heap.size 5 1 v n (U8s L)∧Below w.heap.size w w':=by
 have Hp:=Lib.hid hp;clear hp
 have hq:=fun (p:Option Addr) (n c:Nat) (w:World)=>eql_nil p n c w
 cases p with
 | none =>
  obtain ⟨rfl,rfl⟩:=Hp.out.nil rfl
  obtain rfl:n=0:=by simpa using hn.symm
  go_enter Tryz.func58,Tryz.ntmps58
  go_wp2
  go_ret
  exact ⟨_,rfl,by unfold U8s;exact World.ownsRow_nil _ _ _ _,Below.refl _ _⟩
 | some ad =>
  have HO:Hid ((w.alloc (.cells #[] 5)).ownsRow w.heap.size 5 1 (.slice (some ⟨w.heap.size,0,none⟩) 0 0) 0 (U8s [])):=by
   refine ⟨by unfold U8s;rfl,Or.inr ⟨w.heap.size,0,_,rfl,Nat.le_refl _,heap_alloc_new w _,Nat.le_refl _,by unfold maxLen;omega,by simp,by unfold U8s;simp⟩⟩
  have HB:Hid (Below w.heap.size w (w.alloc (.cells #[] 5))):=(Below.refl _ w).alloc (Nat.le_refl _) _
  have HBS:Hid (Bs (w.alloc (.cells #[] 5)) (some ad) c L):=Hp.out.old HB.out
  have HN:=Lib.hid hn;clear hn
  go_enter Tryz.func58,Tryz.ntmps58
  go_wp2_with (first
   | (at_builtin;refine append_bts _ _ L w.heap.size _ _ _ (some ad) _ c rfl rfl HN.out HBS.out HO.out (by omega) (by simp) ?_;intro v5 w5 ho5 hg5;have HO5:=Lib.hid ho5;have HG5:=Lib.hid hg5;clear ho5 hg5)
   | go_in)
  go_ret
  refine ⟨_,rfl,?_,HB.out.grown HG5.out (by simp) (fun q hq=>(HO.out.lt q hq).1)⟩
  have h:=HO5.out
  rw [Nat.zero_add,List.nil_append] at h
  exact h
theorem BAt.dropk {w:World} {ab ao k:Nat} {l:List Int} (h:BAt w (some ⟨ab,ao,none⟩) l) (hk:k<l.length):BAt w (some ⟨ab,ao+k,none⟩) (l.drop k):=by
 refine ⟨fun x hx=>h.1 x (List.mem_of_mem_drop hx),fun _=>?_⟩
 obtain ⟨b',o',h1,h2⟩:=h.2 (by omega)
 cases h1
 refine ⟨ab,ao+k,rfl,fun j hj=>?_⟩
 rw [List.length_drop] at hj
 rw [Nat.add_assoc,h2 (k+j) (by omega)]
 simp [List.getD_eq_getElem?_getD]
theorem Bs.take {w:World} {p:Option Addr} {c:Nat} {l:List Int} (h:Bs w p c l) (k:Nat):Bs w p c (l.take k) :=
 ⟨h.bat.take k,by have:=h.cap;rw [List.length_take];omega,fun e=>by have h1:=h.nil e;exact ⟨by rw [h1.1,List.take_nil],h1.2⟩⟩
theorem Bs.dropk {w:World} {ab ao c k:Nat} {l:List Int} (h:Bs w (some ⟨ab,ao,none⟩) c l) (hk:k<l.length):Bs w (some ⟨ab,ao+k,none⟩) (c-k) (l.drop k) :=
 ⟨h.bat.dropk hk,by have:=h.cap;rw [List.length_drop];omega,fun e=>by cases e⟩
end

/-! PaB:  -/
section
open Go.RowKit
def RowOf (R:List Int) (m:Nat) (w:World) (e:Ending) (w':World):Prop :=
 ∃ p c,e = .returned (.slice p m c)∧Hid (w'.ownsRow w.heap.size 5 1 (.slice p m c) m (U8s R))∧Hid (Bs w' p c R)∧Hid (Below w.heap.size w w')
theorem concat2_any (q:Nat) (p0 p1:Option Addr) (n0 n1 c0 c1:Nat) (l0 l1:List Int) (m:Nat) (e0:l0.length=n0) (e1:l1.length=n1) (em:n0+n1=m) (x:World) (hq:x.heap[q]?=some (.cells #[.slice p0 n0 c0,.slice p1 n1 c1] 22 (0,0))) (h0:Bs x p0 c0 l0) (h1:Bs x p1 c1 l1) (hl:m≤1000000000) :
  Calls Tryz.prog 123 #[.slice (some ⟨q,0,none⟩) 2 2] x (RowOf (l0++l1) m x):=by
 have e:Seal.cat (fun k=>match k with | 0=>l0 | _=>l1) 2=l0++l1:=by unfold Seal.cat Seal.cat Seal.cat;simp
 have h:=concat_any (fun k=>match k with | 0=>p0 | _=>p1) (fun k=>match k with | 0=>c0 | _=>c1) (fun k=>match k with | 0=>l0 | _=>l1) 2 q (by omega) x
  (fun k hk=>by
   rw [cell_of_row x q k _ _ _ hq]
   rcases k with _ | _ | k
   ·simp [e0]
   ·simp [e1]
   ·omega)
  (fun k hk=>by
   rcases k with _ | _ | k
   ·exact h0
   ·exact h1
   ·omega)
  (by rw [e];simp only [List.length_append];omega)
 rw [e] at h
 refine h.mono ?_
 rintro e2 w' ⟨v,rfl,ho,hb⟩
 obtain ⟨p,c,rfl,hbs,hlen⟩:=own_bs ho (Sha.byt_append h0.bat.1 h1.bat.1)
 have hm:(l0++l1).length=m:=by simp only [List.length_append];omega
 rw [hm] at ho ⊢
 exact ⟨p,c,rfl,ho,hbs,hb⟩
namespace Pk
def tb (n:Int):Nat→List Int
 | 0=>List.replicate 8 0
 | k+1=>(tb n k).set (7-k) (n / 256 ^ k % 256)
theorem tb_len (n:Int) (k:Nat):(tb n k).length=8:=by
 induction k with
 | zero=>rfl
 | succ k ih=>rw [tb,List.length_set,ih]
theorem tb_all (n:Int):tb n 8=e8 n 8:=by rw [e8_eight];simp [tb]
theorem tb_zero (n:Int):(tb n 0).map (Value.int .u8)=List.replicate 8 (Value.int .u8 0):=by simp [tb]
theorem tb_step (n:Int) (k:Nat):(tb n k).set (7-k) (n / 256 ^ k % 256)=tb n (k+1):=rfl
attribute [irreducible] tb
end Pk
set_option maxHeartbeats 1000000 in
set_option maxRecDepth 100000 in
theorem int_any (L:List Int) (v:Int) (p:Option Addr) (n c m:Nat) (hn:L.length=n) (hm:n+8=m) (hL:n≤1000000) (w:World) (hp:Bs w p c L) :
  Calls Tryz.prog 68 #[.slice p n c,.int .i64 v] w (RowOf (L++Pk.e8 v 8) m w):=by
 have HP:=Lib.hid hp;clear hp
 have HN:=Lib.hid hn;clear hn
 have G0:Hid ((w.alloc (.cells (List.replicate 8 (Value.int .u8 0)).toArray 172)).heap[w.heap.size]?=some (.cells ((Pk.tb v 0).map (Value.int .u8)).toArray 172 (0,0))):=by
  show _=_;rw [Pk.tb_zero];exact heap_alloc_new w _
 have B0:Hid (Below w.heap.size w (w.alloc (.cells (List.replicate 8 (Value.int .u8 0)).toArray 172))):=(Below.refl _ w).alloc (Nat.le_refl _) _
 go_enter Tryz.func68,Tryz.ntmps68
 go_wp2
 go_loopw [7] (fun v7 wr=>∃ k:Nat,k≤8∧v7 = .int .i64 k∧Hid (wr.heap[w.heap.size]?=some (.cells ((Pk.tb v k).map (Value.int .u8)).toArray 172 (0,0)))∧Hid (Below w.heap.size w wr)) (fun v7 _=>8-(intOf v7).toNat)
 case atStart=>exact ⟨0,by omega,rfl,G0.out,B0.out⟩
 case round =>
  clear G0 B0
  obtain ⟨k,hk,rfl,HG,HB⟩:=hrel
  by_cases hlt:k<8
  ·have hw2:IntKind.i64.wrap (7-(k:Int))=7-(k:Int):=IntWalk.i64_in _ ⟨by omega,by omega⟩
   have hw3:IntKind.i64.wrap (8*(k:Int))=8*(k:Int):=IntWalk.i64_in _ ⟨by omega,by omega⟩
   have hx0:0≤7-(k:Int):=by omega
   have hx1:7-(k:Int)<8:=by omega
   have hx2:(7-(k:Int)).toNat=7-k:=by omega
   have hx3:(k:Int)<8:=by omega
   have hx4:0≤8*(k:Int):=by omega
   have hx5:8*(k:Int)≤64:=by omega
   have hx6:(2:Int) ^ (8*(k:Int)).toNat=256 ^ k:=by
    rw [show (8*(k:Int)).toNat=8*k by omega,Int.pow_mul]
    rfl
   have c0:=row_cell HG.out (7-k) (by rw [Pk.tb_len];omega)
   have f0:=frozen_of_row wr w.heap.size (7-k) _ _ HG.out
   generalize (Pk.tb v k).getD (7-k) 0=y0 at c0
   go_wp2
   refine ⟨⟨k+1,by omega,by go_num,?_,HB.out.setCell (by simp) _⟩,by simp [intOf];omega⟩
   have h2:=set_u8' (i:=7-k) (x:=v / 256 ^ k % 256) HG.out
   rw [Pk.tb_step] at h2
   exact h2
  ·obtain rfl:k=8:=by omega
   have HA:Hid (Bs wr (some ⟨w.heap.size,0,none⟩) 8 (Pk.e8 v 8)):=by
    have h:=HG.out
    rw [Pk.tb_all] at h
    exact bs_row (bat_row h (Pk.e8_byt _ _)) ⟨by rw [Pk.e8_len];omega,by omega⟩
   have HPR:Hid (Bs wr p c L):=HP.out.old HB.out
   clear hlt
   have B2:Hid (Below wr.heap.size wr (wr.alloc (.cells #[.slice p n c,.slice (some ⟨w.heap.size,0,none⟩) 8 8] 22))):=(Below.refl _ wr).alloc (Nat.le_refl _) _
   have HC:Hid (Calls Tryz.prog 123 #[.slice (some ⟨wr.heap.size,0,none⟩) 2 2] (wr.alloc (.cells #[.slice p n c,.slice (some ⟨w.heap.size,0,none⟩) 8 8] 22)) (RowOf (L++Pk.e8 v 8) m (wr.alloc (.cells #[.slice p n c,.slice (some ⟨w.heap.size,0,none⟩) 8 8] 22)))) :=
    concat2_any wr.heap.size p (some ⟨w.heap.size,0,none⟩) n 8 c 8 L (Pk.e8 v 8) m HN.out (Pk.e8_len _ _) hm _ (heap_alloc_new wr _) (HPR.out.old B2.out) (HA.out.old B2.out) (by omega)
   have hb1:Hid (Below w.heap.size w (wr.alloc (.cells #[.slice p n c,.slice (some ⟨w.heap.size,0,none⟩) 8 8] 22))):=HB.out.trans (B2.out.mono HB.out.size)
   go_wp2_with (go_at_call 123;refine HC.out.mono ?_;rintro e1 w1 ⟨p1,c1,rfl,HO1,HB1,HL1⟩)
   go_ret
   refine ⟨p1,c1,rfl,?_,HB1.out,?_⟩
   ·have h:=own_baseP HO1.out hb1.out.size
    exact h
   ·have h:=hb1.out.trans (HL1.out.mono hb1.out.size)
    exact h
end

/-! PaD:  -/
section
open Go.RowKit
theorem all_oneCell_toArray {l:List Value} (h:∀ v∈l,v.oneCell'=true):l.toArray.all (·.oneCell')=true:=by
 rw [Array.all_eq_true_iff_forall_mem]
 intro v hv
 exact h v (by simpa using hv)
end

/-! PaE:  -/
section
open Go.RowKit
structure RdAt (w:World) (g:Nat) (D:Option Nat) (L:List Int) (b:Bool):Prop where
 row:∃ p c,w.heap[g]?=some (.cells #[.slice p L.length c,.bool b] 197 (0,0))∧Bs w p c L∧(∀ ad,p=some ad→D=some ad.block)
 ne:D ≠ some g
 lt:∀ d,D=some d→d<w.heap.size
theorem RdAt.glt {w:World} {g:Nat} {D:Option Nat} {L:List Int} {b:Bool} (h:RdAt w g D L b):g<w.heap.size:=by
 obtain ⟨p,c,h1,_⟩:=h.row
 exact lt_of_block h1
theorem Bs.only {w x:World} {p:Option Addr} {c k:Nat} {L:List Int} (h:Bs w p c L) (ho:Only k w x) (hk:∀ ad,p=some ad→ad.block ≠ k):Bs x p c L :=
 ⟨⟨h.bat.1,fun h0=>by
  obtain ⟨ab,ao,h1,h2⟩:=h.bat.2 h0
  exact ⟨ab,ao,h1,fun j hj=>ho.cell (hk _ h1) (h2 j hj)⟩⟩,h.cap,h.nil⟩
theorem RdAt.only {w x:World} {g k:Nat} {D:Option Nat} {L:List Int} {b:Bool} (h:RdAt w g D L b) (ho:Only k w x) (hk:k ≠ g) (hd:D ≠ some k):RdAt x g D L b:=by
 obtain ⟨⟨p,c,h1,h2,h3⟩,h4,h5⟩:=h
 exact ⟨⟨p,c,(ho.block g (lt_of_block h1) (Ne.symm hk)).trans h1,h2.only ho (fun ad ha e=>hd (by rw [h3 ad ha,e])),h3⟩,h4,fun d hd=>Nat.lt_of_lt_of_le (h5 d hd) ho.size⟩
theorem RdAt.old {w x:World} {g:Nat} {D:Option Nat} {L:List Int} {b:Bool} (h:RdAt w g D L b) (hb:Below w.heap.size w x):RdAt x g D L b:=by
 obtain ⟨⟨p,c,h1,h2,h3⟩,h4,h5⟩:=h
 exact ⟨⟨p,c,(hb.block g (lt_of_block h1)).trans h1,h2.old hb,h3⟩,h4,fun d hd=>Nat.lt_of_lt_of_le (h5 d hd) hb.size⟩
def NewSayP (L:List Int) (w:World) (e:Ending) (w':World):Prop :=
 ∃ g D,e = .returned (.pointer (some ⟨g,0,none⟩))∧Hid (RdAt w' g D L false)∧Hid (w.heap.size≤g∧∀ d,D=some d→w.heap.size≤d)∧Hid (Below w.heap.size w w')
set_option maxHeartbeats 1000000 in
set_option maxRecDepth 100000 in
theorem read_any (L:List Int) (p:Option Addr) (n c:Nat) (hn:L.length=n) (hL:n≤1000000) (w:World) (hp:Bs w p c L) :
  Calls Tryz.prog 115 #[.slice p n c] w (NewSayP L w):=by
 have HP:=Lib.hid hp;clear hp
 have HN:=Lib.hid hn
 have HC:Hid (Calls Tryz.prog 58 #[.slice p n c] w fun e w'=>∃ v,e = .returned v∧w'.ownsRow w.heap.size 5 1 v n (U8s L)∧Below w.heap.size w w'):=clone_anyP L p n c hn hL w HP.out
 clear hn
 go_enter Tryz.func115,Tryz.ntmps115
 go_wp2_with (first
  | (go_at_call 58;refine HC.out.mono ?_;rintro e1 w1 ⟨v1,rfl,ho1,hb1⟩;have HO1:=Lib.hid ho1;have HB1:=Lib.hid hb1;clear ho1 hb1;obtain ⟨p1,c1,rfl,hbs,_⟩:=own_bs HO1.out HP.out.bat.1;have HBS:=Lib.hid hbs;clear hbs))
 go_ret
 have hw1:w1.heap.size<(w1.alloc (.cells #[.slice p1 n c1,.bool false] 197)).heap.size:=by simp
 have HB2:Hid (Below w.heap.size w (w1.alloc (.cells #[.slice p1 n c1,.bool false] 197))):=HB1.out.alloc HB1.out.size _
 have HBS2:Hid (Bs (w1.alloc (.cells #[.slice p1 n c1,.bool false] 197)) p1 c1 L):=HBS.out.old ((Below.refl _ w1).alloc (Nat.le_refl _) _)
 have HD:Hid (∀ d,p1.map (·.block)=some d→w.heap.size≤d∧d<w1.heap.size):=fun d hd=>by
  cases p1 with
  | none=>cases hd
  | some ad =>
   cases hd
   obtain ⟨h2,h1⟩:=HO1.out.lt ad.block rfl
   exact ⟨h2,h1⟩
 refine ⟨w1.heap.size,p1.map (·.block),rfl,⟨⟨p1,c1,by rw [HN.out];exact heap_alloc_new w1 _,HBS2.out,fun ad h=>by rw [h];rfl⟩,fun h=>?_,fun d hd=>?_⟩,⟨HB1.out.size,fun d hd=>(HD.out d hd).1⟩,HB2.out⟩
 ·have h1:=(HD.out _ h).2
  omega
 ·have h1:=(HD.out _ hd).2
  omega
def LeftSay (L:List Int) (w:World) (e:Ending) (w':World):Prop:=e = .returned (.int .i64 (L.length:Nat))∧Below w.heap.size w w'
def Pk.en (L:List Int) (b:Bool):Int:=if b then 4 else if 0<L.length then 3 else 0
def EndSayP (n:Int) (w:World) (e:Ending) (w':World):Prop:=e = .returned (.int .i64 n)∧Below w.heap.size w w'
set_option maxRecDepth 100000 in
theorem end_any (L:List Int) (b:Bool) (g:Nat) (D:Option Nat) (w:World) (hr:RdAt w g D L b):Calls Tryz.prog 119 #[.pointer (some ⟨g,0,none⟩)] w (EndSayP (Pk.en L b) w):=by
 obtain ⟨p,c,h1,_,_⟩:=hr.row
 have c0:w.cell? ⟨g,0,none⟩=some (.slice p L.length c):=by rw [cell_of_row w g 0 _ _ _ h1];rfl
 have c1:w.cell? ⟨g,1,none⟩=some (.bool b):=by rw [cell_of_row w g 1 _ _ _ h1];rfl
 cases b with
 | true =>
  go_enter Tryz.func119,Tryz.ntmps119
  go_wp2
  go_ret
  exact ⟨rfl,Below.refl _ _⟩
 | false =>
  by_cases h0:0<L.length
  ·have HE:Hid (Pk.en L false=3):=by show _=_;unfold Pk.en;simp [h0]
   have h0':((L.length:Nat):Int)>0:=by omega
   go_enter Tryz.func119,Tryz.ntmps119
   go_wp2
   go_ret
   exact ⟨by rw [HE.out];rfl,Below.refl _ _⟩
  ·have HE:Hid (Pk.en L false=0):=by show _=_;unfold Pk.en;simp [h0]
   have h0':¬ ((L.length:Nat):Int)>0:=by omega
   go_enter Tryz.func119,Tryz.ntmps119
   go_wp2
   go_ret
   exact ⟨by rw [HE.out];rfl,Below.refl _ _⟩
end

/-! PaF:  -/
section
open Go.RowKit
set_option maxRecDepth 100000 in
theorem tobyte_any (L:List Int) (p:Option Addr) (n c:Nat) (hn:L.length=n) (h0:0<n) (w:World) (hp:Bs w p c L) :
  Calls Tryz.prog 206 #[.slice p n c] w fun e w'=>e = .returned (.int .u8 (L.getD 0 0))∧w'=w:=by
 obtain ⟨ab,ao,rfl,hc⟩:=hp.bat.2 (by omega)
 have c0:=hc 0 (by omega)
 rw [Nat.add_zero] at c0
 clear hc
 generalize L.getD 0 0=x at *
 go_enter Tryz.func206,Tryz.ntmps206
 go_wp2
 go_ret
 exact ⟨rfl,rfl⟩
def Pk.pre (L:List Int) (k:Nat):Int:=(Pk.be (L.take k)+9223372036854775808) % 18446744073709551616-9223372036854775808
theorem Pk.pre_zero (L:List Int):Pk.pre L 0=0:=by unfold Pk.pre;rw [List.take_zero,Pk.be_nil];rfl
theorem Pk.pre_all (L:List Int):Pk.pre L L.length=Pk.in8 L:=by unfold Pk.pre Pk.in8;rw [List.take_length]
theorem Pk.pre_succ (L:List Int) (hb:Sha.Byt L) (k:Nat) (hk:k<L.length):bits .or .i64 (wrap64 (Pk.pre L k*256)) (L.getD k 0)=Pk.pre L (k+1):=by
 have hx:0≤L.getD k 0∧L.getD k 0≤255:=by
  rw [List.getD_eq_getElem?_getD,List.getElem?_eq_getElem hk]
  exact hb _ (List.getElem_mem _)
 have e:Pk.be (L.take (k+1))=Pk.be (L.take k)*256+L.getD k 0:=by rw [← take_snoc L k hk,Pk.be_snoc]
 unfold Pk.pre
 rw [e,← Pk.or8 _ _ hx.1 hx.2]
 unfold wrap64
 congr 1
 omega
attribute [irreducible] Pk.pre
set_option maxHeartbeats 1000000 in
set_option maxRecDepth 100000 in
theorem toint_any (L:List Int) (p:Option Addr) (n c:Nat) (hn:L.length=n) (hL:n≤1000) (w:World) (hp:Bs w p c L) :
  Calls Tryz.prog 154 #[.slice p n c] w fun e w'=>e = .returned (.int .i64 (Pk.in8 L))∧w'=w:=by
 have HP:=Lib.hid hp;clear hp
 have HN:=Lib.hid hn;clear hn
 go_enter Tryz.func154,Tryz.ntmps154
 go_wp2
 go_loopw [3,8] (fun v3 v8 wr=>∃ k:Nat,k≤n∧v8 = .int .i64 k∧v3 = .int .i64 (Pk.pre L k)∧wr=w) (fun _ v8 _=>n-(intOf v8).toNat)
 case atStart=>exact ⟨0,by omega,rfl,by rw [Pk.pre_zero],rfl⟩
 case round =>
  obtain ⟨k,hk,rfl,rfl,rfl⟩:=hrel
  by_cases hlt:k<n
  ·obtain ⟨ab,ao,hpp,hcs⟩:=HP.out.bat.2 (by rw [HN.out];omega)
   subst hpp
   have c0:=hcs k (by rw [HN.out];exact hlt)
   clear hcs
   have HS:Hid (bits .or .i64 (wrap64 (Pk.pre L k*256)) (L.getD k 0)=Pk.pre L (k+1)):=Pk.pre_succ L HP.out.bat.1 k (by rw [HN.out];exact hlt)
   have hx0:=Sha.byt_getD HP.out.bat.1 k
   generalize L.getD k 0=x at *
   generalize Pk.pre L k=y at *
   have hw:IntKind.i64.wrap x=x:=IntWalk.i64_in _ ⟨by omega,by omega⟩
   have hn0:0≤(k:Int):=by omega
   have hn1:(k:Int)<(n:Int):=by omega
   go_wp2
   exact ⟨⟨k+1,by omega,by go_num,congrArg (Value.int .i64) HS.out,trivial⟩,by simp [intOf];omega⟩
  ·obtain rfl:k=n:=by omega
   have hge:¬ ((k:Int)<(k:Int)):=by omega
   have HE:Hid (Pk.pre L k=Pk.in8 L):=by show _=_;rw [← HN.out,Pk.pre_all]
   clear hlt
   go_wp2
   go_ret
   exact ⟨by rw [← HE.out];rfl,rfl⟩
end

/-! PaH:  -/
section
open Go.RowKit
def RdSay (v:Value) (L:List Int) (b:Bool) (g:Nat) (D:Option Nat) (w:World) (e:Ending) (w':World):Prop :=
 e = .returned v∧Hid (RdAt w' g D L b)∧Hid (Only g w w')
theorem RdAt.spoilt {w:World} {g:Nat} {D:Option Nat} {L:List Int} {b:Bool} (h:RdAt w g D L b) :
  RdAt ((w.setCell ⟨g,0,none⟩ (.slice none 0 0)).setCell ⟨g,1,none⟩ (.bool true)) g D [] true∧Only g w ((w.setCell ⟨g,0,none⟩ (.slice none 0 0)).setCell ⟨g,1,none⟩ (.bool true)):=by
 obtain ⟨⟨p,c,h1,h2,h3⟩,h4,h5⟩:=h
 refine ⟨⟨⟨none,0,?_,bs_none _,fun ad h=>by cases h⟩,h4,fun d hd=>by simpa using h5 d hd⟩,((Chg.setCell w ⟨g,0,none⟩ _).trans (Chg.setCell _ ⟨g,1,none⟩ _)).only⟩
 rw [heap_setCell_same _ g 1 _ _ _ (heap_setCell_same _ g 0 _ _ _ h1)]
 rfl
abbrev adv (ab ao k c:Nat):Option Addr:=if c=k then some ⟨ab,ao,none⟩ else some ⟨ab,ao+k,none⟩
theorem adv_bs {w:World} {ab ao c k:Nat} {L:List Int} (h:Bs w (some ⟨ab,ao,none⟩) c L) (hk:k≤L.length):Bs w (adv ab ao k c) (c-k) (L.drop k):=by
 have hc:=h.cap
 unfold adv
 by_cases e:k<L.length
 ·rw [if_neg (by omega)]
  exact h.dropk e
 ·rw [List.drop_of_length_le (by omega)]
  refine ⟨⟨fun x hx=>by simp at hx,fun h0=>by simp at h0⟩,⟨by simp,by omega⟩,fun h0=>?_⟩
  split at h0<;>cases h0
theorem RdAt.step {w:World} {g ab ao c k n m d:Nat} {D:Option Nat} {L:List Int} {b:Bool} (h:RdAt w g D L b) (h1:w.heap[g]?=some (.cells #[.slice (some ⟨ab,ao,none⟩) n c,.bool b] 197 (0,0))) (hB:Bs w (some ⟨ab,ao,none⟩) c L) (hn:L.length=n) (hk:k≤n) (hm:n-k=m) (hd:c-k=d) (hD:D=some ab) :
  RdAt (w.setCell ⟨g,0,none⟩ (.slice (adv ab ao k c) m d)) g D (L.drop k) b∧Only g w (w.setCell ⟨g,0,none⟩ (.slice (adv ab ao k c) m d)):=by
 subst hd
 subst hm
 subst hn
 have ho:Only g w (w.setCell ⟨g,0,none⟩ (.slice (adv ab ao k c) (L.length-k) (c-k))):=(Chg.setCell w ⟨g,0,none⟩ _).only
 have hne:∀ ad,adv ab ao k c=some ad→ad.block=ab:=fun ad h=>by
  unfold adv at h
  split at h<;>cases h<;>rfl
 refine ⟨⟨⟨adv ab ao k c,c-k,?_,(adv_bs hB hk).only ho (fun ad hq e=>?_),fun ad h=>by rw [hne ad h,hD]⟩,h.ne,fun d hd=>by simpa using h.lt d hd⟩,ho⟩
 ·rw [heap_setCell_same _ g 0 _ _ _ h1,List.length_drop]
  rfl
 ·rw [hne ad hq] at e
  exact h.ne (by rw [hD,e])
theorem RdAt.parts {w:World} {g:Nat} {D:Option Nat} {L:List Int} {b:Bool} (h:RdAt w g D L b) {n:Nat} (hn:L.length=n) (h0:0<n) :
  ∃ ab ao c,w.heap[g]?=some (.cells #[.slice (some ⟨ab,ao,none⟩) n c,.bool b] 197 (0,0))∧Bs w (some ⟨ab,ao,none⟩) c L∧D=some ab∧n≤c∧c≤9223372036854775807:=by
 subst hn
 obtain ⟨⟨p,c,h1,h2,h3⟩,h4,h5⟩:=h
 obtain ⟨ab,ao,rfl,_⟩:=h2.bat.2 h0
 exact ⟨ab,ao,c,h1,h2,h3 _ rfl,h2.cap⟩
set_option maxHeartbeats 1000000 in
set_option maxRecDepth 100000 in
theorem rbyte_any (L:List Int) (b:Bool) (g:Nat) (D:Option Nat) (n:Nat) (hn:L.length=n) (hL:n≤10000000) (w:World) (hr:RdAt w g D L b) :
  Calls Tryz.prog 180 #[.pointer (some ⟨g,0,none⟩)] w (RdSay (.int .u8 (Pk.vb L)) (Pk.nx 1 L) (Pk.nb 1 L b) g D w):=by
 have HN:=Lib.hid hn;clear hn
 by_cases hlt:n<1
 ·have HV:Hid ((.int .u8 (Pk.vb L))=(.int .u8 0:Value)):=by show _=_;unfold Pk.vb;obtain rfl:L = []:=List.eq_nil_of_length_eq_zero (by have:=HN.out;omega);rfl
  have HX:Hid (Pk.nx 1 L = []):=by show _=_;unfold Pk.nx;rw [HN.out,if_pos hlt]
  have HB:Hid (Pk.nb 1 L b=true):=by show _=_;unfold Pk.nb;rw [HN.out,if_pos hlt]
  rw [HV.out,HX.out,HB.out]
  clear HV HX HB
  have HS:=Lib.hid hr.spoilt
  obtain ⟨p,c,h1,_,_⟩:=hr.row
  rw [HN.out] at h1
  have c0:w.cell? ⟨g,0,none⟩=some (.slice p n c):=by rw [cell_of_row w g 0 _ _ _ h1];rfl
  have f0:=frozen_of_row w g 0 _ _ h1
  have h2:=heap_setCell_same w g 0 _ _ (Value.slice none 0 0) h1
  have c1:(w.setCell ⟨g,0,none⟩ (.slice none 0 0)).cell? ⟨g,1,none⟩=some (.bool b):=by rw [cell_of_row _ g 1 _ _ _ h2];rfl
  have f1:=frozen_of_row _ g 1 _ _ h2
  have hlt':(n:Int)<1:=by omega
  clear hr h1 h2
  go_enter Tryz.func180,Tryz.ntmps180
  go_wp2
  go_ret
  exact ⟨rfl,HS.out.1,HS.out.2⟩
 ·obtain ⟨ab,ao,c,h1,hB,hD,hcap⟩:=hr.parts HN.out (by omega)
  have HX:Hid (Pk.nx 1 L=L.drop 1):=by show _=_;unfold Pk.nx;rw [HN.out,if_neg hlt]
  have HB:Hid (Pk.nb 1 L b=b):=by show _=_;unfold Pk.nb;rw [HN.out,if_neg hlt]
  have HV:Hid ((L.take 1).getD 0 0=Pk.vb L):=by
   show _=_
   unfold Pk.vb
   cases L with
   | nil=>have:=HN.out;simp at this;omega
   | cons x l=>rfl
  rw [HX.out,HB.out]
  clear HX HB
  have hnn:1≤n:=by omega
  have HS:=Lib.hid (hr.step (k:=1) (m:=n-1) (d:=c-1) h1 hB HN.out hnn rfl rfl hD)
  have HT:Hid (Bs (w.setCell ⟨g,0,none⟩ (.slice (adv ab ao 1 c) (n-1) (c-1))) (some ⟨ab,ao,none⟩) c (L.take 1)) :=
   (hB.only HS.out.2 (fun ad h e=>by cases h;exact hr.ne (by rw [hD];exact congrArg some e))).take 1
  have HTL:Hid ((L.take 1).length=1):=by show _=_;rw [List.length_take,HN.out];omega
  have HC:Hid (Calls Tryz.prog 206 #[.slice (some ⟨ab,ao,none⟩) 1 c] (w.setCell ⟨g,0,none⟩ (.slice (adv ab ao 1 c) (n-1) (c-1))) fun e w'=>e = .returned (.int .u8 (Pk.vb L))∧w'=w.setCell ⟨g,0,none⟩ (.slice (adv ab ao 1 c) (n-1) (c-1))):=by
   rw [← HV.out]
   exact tobyte_any (L.take 1) _ 1 c HTL.out (by omega) _ HT.out
  obtain ⟨X,HXe⟩:∃ X,Hid (L.drop 1=X):=⟨_,rfl⟩
  rw [HXe.out] at HS ⊢
  have c0:w.cell? ⟨g,0,none⟩=some (.slice (some ⟨ab,ao,none⟩) n c):=by rw [cell_of_row w g 0 _ _ _ h1];rfl
  have f0:=frozen_of_row w g 0 _ _ h1
  have hge:¬ ((n:Int)<1):=by omega
  have hcc:¬ ((c:Int)<1):=by omega
  have hkn:(1:Int)≤(n:Int):=by omega
  clear hr h1 hB hD hlt hL
  go_enter Tryz.func180,Tryz.ntmps180
  go_wp2_with (first
   | (go_at_call 206;refine HC.out.mono ?_;rintro e2 w2 ⟨rfl,rfl⟩)
   | go_in)
  all_goals
   first
    | (have hce:c=1:=(by first | assumption | omega);rw [hce] at HS;go_ret;exact ⟨rfl,HS.out.1,HS.out.2⟩)
    | (go_ret;exact ⟨rfl,HS.out.1,HS.out.2⟩)
set_option maxHeartbeats 1000000 in
set_option maxRecDepth 100000 in
theorem rint_any (L:List Int) (b:Bool) (g:Nat) (D:Option Nat) (n:Nat) (hn:L.length=n) (hL:n≤10000000) (w:World) (hr:RdAt w g D L b) :
  Calls Tryz.prog 116 #[.pointer (some ⟨g,0,none⟩)] w (RdSay (.int .i64 (Pk.vi L)) (Pk.nx 8 L) (Pk.nb 8 L b) g D w):=by
 have HN:=Lib.hid hn;clear hn
 by_cases hlt:n<8
 ·have HV:Hid ((.int .i64 (Pk.vi L))=(.int .i64 0:Value)):=by show _=_;unfold Pk.vi;rw [HN.out,if_pos hlt]
  have HX:Hid (Pk.nx 8 L = []):=by show _=_;unfold Pk.nx;rw [HN.out,if_pos hlt]
  have HB:Hid (Pk.nb 8 L b=true):=by show _=_;unfold Pk.nb;rw [HN.out,if_pos hlt]
  rw [HV.out,HX.out,HB.out]
  clear HV HX HB
  have HS:=Lib.hid hr.spoilt
  obtain ⟨p,c,h1,_,_⟩:=hr.row
  rw [HN.out] at h1
  have c0:w.cell? ⟨g,0,none⟩=some (.slice p n c):=by rw [cell_of_row w g 0 _ _ _ h1];rfl
  have f0:=frozen_of_row w g 0 _ _ h1
  have h2:=heap_setCell_same w g 0 _ _ (Value.slice none 0 0) h1
  have c1:(w.setCell ⟨g,0,none⟩ (.slice none 0 0)).cell? ⟨g,1,none⟩=some (.bool b):=by rw [cell_of_row _ g 1 _ _ _ h2];rfl
  have f1:=frozen_of_row _ g 1 _ _ h2
  have hlt':(n:Int)<8:=by omega
  clear hr h1 h2
  go_enter Tryz.func116,Tryz.ntmps116
  go_wp2
  go_ret
  exact ⟨rfl,HS.out.1,HS.out.2⟩
 ·obtain ⟨ab,ao,c,h1,hB,hD,hcap⟩:=hr.parts HN.out (by omega)
  have HX:Hid (Pk.nx 8 L=L.drop 8):=by show _=_;unfold Pk.nx;rw [HN.out,if_neg hlt]
  have HB:Hid (Pk.nb 8 L b=b):=by show _=_;unfold Pk.nb;rw [HN.out,if_neg hlt]
  have HV:Hid (Pk.in8 (L.take 8)=Pk.vi L):=by
   show _=_
   unfold Pk.vi
   rw [HN.out,if_neg hlt]
  rw [HX.out,HB.out]
  clear HX HB
  have hnn:8≤n:=by omega
  have HS:=Lib.hid (hr.step (k:=8) (m:=n-8) (d:=c-8) h1 hB HN.out hnn rfl rfl hD)
  have HT:Hid (Bs (w.setCell ⟨g,0,none⟩ (.slice (adv ab ao 8 c) (n-8) (c-8))) (some ⟨ab,ao,none⟩) c (L.take 8)) :=
   (hB.only HS.out.2 (fun ad h e=>by cases h;exact hr.ne (by rw [hD];exact congrArg some e))).take 8
  have HTL:Hid ((L.take 8).length=8):=by show _=_;rw [List.length_take,HN.out];omega
  have HC:Hid (Calls Tryz.prog 154 #[.slice (some ⟨ab,ao,none⟩) 8 c] (w.setCell ⟨g,0,none⟩ (.slice (adv ab ao 8 c) (n-8) (c-8))) fun e w'=>e = .returned (.int .i64 (Pk.vi L))∧w'=w.setCell ⟨g,0,none⟩ (.slice (adv ab ao 8 c) (n-8) (c-8))):=by
   rw [← HV.out]
   exact toint_any (L.take 8) _ 8 c HTL.out (by omega) _ HT.out
  obtain ⟨X,HXe⟩:∃ X,Hid (L.drop 8=X):=⟨_,rfl⟩
  rw [HXe.out] at HS ⊢
  have c0:w.cell? ⟨g,0,none⟩=some (.slice (some ⟨ab,ao,none⟩) n c):=by rw [cell_of_row w g 0 _ _ _ h1];rfl
  have f0:=frozen_of_row w g 0 _ _ h1
  have hge:¬ ((n:Int)<8):=by omega
  have hcc:¬ ((c:Int)<8):=by omega
  have hkn:(8:Int)≤(n:Int):=by omega
  clear hr h1 hB hD hlt hL
  go_enter Tryz.func116,Tryz.ntmps116
  go_wp2_with (first
   | (go_at_call 154;refine HC.out.mono ?_;rintro e2 w2 ⟨rfl,rfl⟩)
   | go_in)
  all_goals
   first
    | (have hce:c=8:=(by first | assumption | omega);rw [hce] at HS;go_ret;exact ⟨rfl,HS.out.1,HS.out.2⟩)
    | (go_ret;exact ⟨rfl,HS.out.1,HS.out.2⟩)
end
end Go.Proofs.YtnnalemboeccbaaGreatDoor

/-
  RgA, RgB, RgC (merged)
-/
import Derived.Test.YthgjfjmampmiiaaGreatDoorPa2
namespace Go.Proofs.YthgjfjmampmiiaaGreatDoor
open Go.Proofs.Tryz
set_option maxHeartbeats 1000000
set_option maxRecDepth 100000
section
open Go.RowKit
namespace Rg
structure R where
 gen:Int
 st:Int
 ep:Int
 su:List Int
 rt:Int × List Int
 bs:Int
 bl:Int
 ts:Int
 tl:Int
 b1:List Int
 b2:List Int
deriving DecidableEq
def dW:List Int:=List.replicate 32 0
def zr:Int × List Int:=(0,dW)
def zero:R:=⟨0,0,0,dW,zr,0,0,0,0,dW,dW⟩
def y9 (S:List Int):Prop:=S.length=32∧ai.aY S
structure Ok (r:R):Prop where
 gen:Pk.aT r.gen
 st:Pk.aT r.st
 ep:Pk.aT r.ep
 su:y9 r.su
 rt:Pk.aT r.rt.1∧y9 r.rt.2
 bs:Pk.aT r.bs
 bl:Pk.aT r.bl
 ts:Pk.aT r.ts
 tl:Pk.aT r.tl
 b1:y9 r.b1
 b2:y9 r.b2
theorem bR:y9 dW:=⟨by simp [dW],pU 32 0 (by omega)⟩
theorem fk:Pk.aT 0:=by unfold Pk.aT;omega
theorem bw:Ok zero:=⟨fk,fk,fk,bR,⟨fk,bR⟩,fk,fk,fk,fk,bR,bR⟩
def num (n:Int):Bool:=decide (1≤n)&&decide (n≤1099511627776)
def root (r:Int × List Int):Bool:=decide (r=zr)||(decide (3≤r.1)&&decide (r.1≤4095))
def nG (s l:Int):Bool:=(decide (0≤s)&&decide (s≤31))&&(decide (0≤l)&&decide (l≤63))
def may (r:R):Bool:=num r.gen&&(num r.st&&(num r.ep&&(root r.rt&&(nG r.bs r.bl&&nG r.ts r.tl))))
def home (r:R):Int:=if r.gen % 2=0 then 1 else 2
theorem aeo (r:R):home r=1∨home r=2:=by unfold home;split<;>simp
def wd:Nat→Nat
 | 0=>8 | 1=>8 | 2=>8 | 3=>32 | 4=>40 | 5=>8 | 6=>8 | 7=>8 | 8=>8 | 9=>32 | 10=>32 | _=>0
def of:Nat→Nat
 | 0=>0
 | k+1=>of k+wd k
def pc (r:R):Nat→List Int
 | 0=>Pk.e8 r.gen 8
 | 1=>Pk.e8 r.st 8
 | 2=>Pk.e8 r.ep 8
 | 3=>r.su
 | 4=>Pk.ref r.rt
 | 5=>Pk.e8 r.bs 8
 | 6=>Pk.e8 r.bl 8
 | 7=>Pk.e8 r.ts 8
 | 8=>Pk.e8 r.tl 8
 | 9=>r.b1
 | 10=>r.b2
 | _=>[]
def bE (r:R):Nat→List Int
 | 0=>[]
 | k+1=>bE r k++pc r k
def pt (r:R):List Int:=bE r 11
theorem afy {r:R} (h:Ok r):∀ k,(pc r k).length=wd k
 | 0=>Pk.bF _ _ | 1=>Pk.bF _ _ | 2=>Pk.bF _ _ | 3=>h.su.1
 | 4=>by show (Pk.ref r.rt).length=40;unfold Pk.ref;rw [List.length_append,Pk.bF,h.rt.2.1]
 | 5=>Pk.bF _ _ | 6=>Pk.bF _ _ | 7=>Pk.bF _ _ | 8=>Pk.bF _ _ | 9=>h.b1.1 | 10=>h.b2.1 | _+11=>rfl
theorem de {r:R} (h:Ok r):∀ k,(bE r k).length=of k
 | 0=>rfl
 | k+1=>by rw [bE,List.length_append,de h k,afy h k];rfl
theorem afo:of 11=192:=by decide
theorem kt {r:R} (h:Ok r):(pt r).length=192:=(de h 11).trans afo
def tl' (r:R):Nat→Nat→List Int
 | _,0=>[]
 | k,d+1=>pc r k++tl' r (k+1) d
theorem r6 (r:R):∀ d k,bE r (k+d)=bE r k++tl' r k d
 | 0,k=>by rw [tl',List.append_nil];rfl
 | d+1,k=>by
  rw [tl',show k+(d+1)=(k+1)+d by omega,r6 r d (k+1),bE,List.append_assoc]
def rs (L:List Int):Nat→List Int
 | 0=>L
 | k+1=>Pk.nx (wd k) (rs L k)
def bd (L:List Int):Nat→Bool
 | 0=>false
 | k+1=>Pk.nb (wd k) (rs L k) (bd L k)
def rc (L:List Int):R:=⟨Pk.vi (rs L 0),Pk.vi (rs L 1),Pk.vi (rs L 2),Pk.vs (rs L 3),Pk.vr (rs L 4),Pk.vi (rs L 5),Pk.vi (rs L 6),Pk.vi (rs L 7),Pk.vi (rs L 8),Pk.vs (rs L 9),Pk.vs (rs L 10)⟩
def er (L:List Int):Int:=if Pk.en (rs L 11) (bd L 11) ≠ 0 then Pk.en (rs L 11) (bd L 11) else if may (rc L) then 0 else 7
def gt (L:List Int):R:=if er L=0 then rc L else zero
theorem mE {L:List Int} (h:ai.aY L):∀ k,ai.aY (rs L k)
 | 0=>h
 | k+1=>Pk.af0 (mE h k)
theorem ae8 (L:List Int):∀ k,(rs L k).length≤L.length
 | 0=>Nat.le_refl _
 | k+1=>Nat.le_trans (Pk.vB _ _) (ae8 L k)
theorem lW (L:List Int):Pk.aT (Pk.vi L):=by
 unfold Pk.vi;split
 ·exact fk
 ·exact Pk.aaG _
theorem abq {L:List Int} (h:ai.aY L):y9 (Pk.vs L):=by
 refine ⟨Pk.uR L,?_⟩;unfold Pk.vs;split
 ·exact pU 32 0 (by omega)
 ·exact fun x hx=>h x (List.mem_of_mem_take hx)
theorem aiv {L:List Int} (h:ai.aY L):Pk.aT (Pk.vr L).1∧y9 (Pk.vr L).2:=by
 refine ⟨?_,Pk.abL L,?_⟩
 ·unfold Pk.vr;split
  ·exact fk
  ·exact Pk.aaG _
 ·unfold Pk.vr;split
  ·exact pU 32 0 (by omega)
  ·exact fun x hx=>h x (List.mem_of_mem_drop (List.mem_of_mem_take hx))
theorem acg {L:List Int} (h:ai.aY L):Ok (rc L) :=
 ⟨lW _,lW _,lW _,abq (mE h 3),aiv (mE h 4),lW _,lW _,lW _,lW _,abq (mE h 9),abq (mE h 10)⟩
theorem my {L:List Int} (h:ai.aY L):Ok (gt L):=by
 unfold gt;split
 ·exact acg h
 ·exact bw
theorem abT (L:List Int):∀ k,rs L k=(if L.length<of k then [] else L.drop (of k))∧bd L k=decide (L.length<of k)
 | 0=>by
  rw [show of 0=0 from rfl,if_neg (by omega),List.drop_zero];exact ⟨rfl,by rw [decide_eq_false (by omega)];rfl⟩
 | k+1=>by
  obtain ⟨h1,h2⟩:=abT L k;rw [rs,bd,h1,h2,show of (k+1)=of k+wd k from rfl];unfold Pk.nx Pk.nb;by_cases h:L.length<of k
  ·have h3:L.length<of k+wd k:=by omega
   rw [if_pos h,if_pos h3,decide_eq_true h,decide_eq_true h3];constructor
   ·split<;>simp
   ·split<;>rfl
  ·rw [if_neg h,List.length_drop];by_cases h3:L.length<of k+wd k
   ·have h4:L.length-of k<wd k:=by omega
    simp [h3,h4]
   ·have h4:¬ L.length-of k<wd k:=by omega
    rw [if_neg h4,if_neg h4,if_neg h3,List.drop_drop];refine ⟨rfl,?_⟩;rw [decide_eq_false h,decide_eq_false h3]
theorem ain (L:List Int):er L=if L.length<192 then 4 else if 192<L.length then 3 else if may (rc L) then 0 else 7:=by
 obtain ⟨h1,h2⟩:=abT L 11;rw [afo] at h1 h2;unfold er;rw [h1,h2];unfold Pk.en;by_cases h:L.length<192
 ·simp [h]
 ·rw [if_neg h,if_neg h,decide_eq_false h];by_cases h3:192<L.length
  ·have h4:0<L.length-192:=by omega
   simp [h3,h4]
  ·have h4:¬ 0<L.length-192:=by omega
   simp [h3,h4]
theorem gu {L:List Int} (h:er L ≠ 0):gt L=zero:=by unfold gt;rw [if_neg h]
theorem dR {r:R} (h:Ok r) (k:Nat) (hk:k≤11):rs (pt r) k=tl' r k (11-k):=by
 have e:pt r=bE r k++tl' r k (11-k):=by
  unfold pt;rw [← r6,show k+(11-k)=11 by omega]
 have hl:=de h k;have hn:¬ (pt r).length<of k:=by rw [e,List.length_append,hl];omega
 rw [(abT _ k).1,if_neg hn,e,List.drop_append_of_le_length (by omega),List.drop_of_length_le (by omega),List.nil_append]
theorem mI {n:Int} (h:Pk.aT n) (X:List Int):Pk.vi (Pk.e8 n 8++X)=n:=by
 unfold Pk.vi;rw [if_neg (by rw [List.length_append,Pk.bF];omega),List.take_append_of_le_length (by rw [Pk.bF];omega),List.take_of_length_le (by rw [Pk.bF];omega),Pk.oO h]
theorem tA {S:List Int} (h:y9 S) (X:List Int):Pk.vs (S++X)=S:=by
 unfold Pk.vs;rw [if_neg (by rw [List.length_append,h.1];omega),List.take_append_of_le_length (by rw [h.1];omega),List.take_of_length_le (by rw [h.1];omega)]
theorem af9 {r:Int × List Int} (h:Pk.aT r.1∧y9 r.2) (X:List Int):Pk.vr (Pk.ref r++X)=r:=by
 have hl:(Pk.ref r).length=40:=by unfold Pk.ref;rw [List.length_append,Pk.bF,h.2.1]
 unfold Pk.vr;rw [if_neg (by rw [List.length_append,hl];omega)];have e1:(Pk.ref r++X).take 8=Pk.e8 r.1 8:=by
  unfold Pk.ref;rw [List.append_assoc,List.take_append_of_le_length (by rw [Pk.bF];omega),List.take_of_length_le (by rw [Pk.bF];omega)]
 have e2:((Pk.ref r++X).drop 8).take 32=r.2:=by
  unfold Pk.ref;rw [List.append_assoc,List.drop_append_of_le_length (by rw [Pk.bF];omega),List.drop_of_length_le (by rw [Pk.bF];omega),List.nil_append,List.take_append_of_le_length (by rw [h.2.1];omega),List.take_of_length_le (by rw [h.2.1];omega)]
 rw [e1,e2,Pk.oO h.1]
theorem xa {r:R} (h:Ok r):rc (pt r)=r:=by
 unfold rc;rw [dR h 0 (by omega),dR h 1 (by omega),dR h 2 (by omega),dR h 3 (by omega),dR h 4 (by omega),dR h 5 (by omega),dR h 6 (by omega),dR h 7 (by omega),dR h 8 (by omega),dR h 9 (by omega),dR h 10 (by omega)];show R.mk (Pk.vi (Pk.e8 r.gen 8++_)) (Pk.vi (Pk.e8 r.st 8++_)) (Pk.vi (Pk.e8 r.ep 8++_)) (Pk.vs (r.su++_)) (Pk.vr (Pk.ref r.rt++_)) (Pk.vi (Pk.e8 r.bs 8++_)) (Pk.vi (Pk.e8 r.bl 8++_)) (Pk.vi (Pk.e8 r.ts 8++_)) (Pk.vi (Pk.e8 r.tl 8++_)) (Pk.vs (r.b1++_)) (Pk.vs (r.b2++_))=r;rw [mI h.gen,mI h.st,mI h.ep,tA h.su,af9 h.rt,mI h.bs,mI h.bl,mI h.ts,mI h.tl,tA h.b1,tA h.b2]
theorem back {r:R} (h:Ok r) (hm:may r=true):er (pt r)=0∧gt (pt r)=r:=by
 have h1:er (pt r)=0:=by rw [ain,if_neg (by rw [kt h];omega),if_neg (by rw [kt h];omega),xa h,if_pos hm]
 exact ⟨h1,by unfold gt;rw [if_pos h1,xa h]⟩
theorem st0 (r:R) : []++Pk.e8 r.gen 8=bE r 1:=rfl
theorem st1 (r:R):bE r 1++Pk.e8 r.st 8=bE r 2:=rfl
theorem st2 (r:R):bE r 2++Pk.e8 r.ep 8=bE r 3:=rfl
theorem st3 (r:R):bE r 3++r.su=bE r 4:=rfl
theorem st4 (r:R):bE r 4++Pk.ref r.rt=bE r 5:=rfl
theorem st5 (r:R):bE r 5++Pk.e8 r.bs 8=bE r 6:=rfl
theorem st6 (r:R):bE r 6++Pk.e8 r.bl 8=bE r 7:=rfl
theorem st7 (r:R):bE r 7++Pk.e8 r.ts 8=bE r 8:=rfl
theorem st8 (r:R):bE r 8++Pk.e8 r.tl 8=bE r 9:=rfl
theorem st9 (r:R):bE r 9++r.b1=bE r 10:=rfl
theorem ahD (r:R):bE r 10++r.b2=bE r 11:=rfl
theorem ahL (r:R):bE r 11=pt r:=rfl
section
variable {r:R} (h:Ok r)
include h
theorem pl1:(bE r 1).length=8:=(de h 1).trans (by decide)
theorem pl2:(bE r 2).length=16:=(de h 2).trans (by decide)
theorem pl3:(bE r 3).length=24:=(de h 3).trans (by decide)
theorem pl4:(bE r 4).length=56:=(de h 4).trans (by decide)
theorem pl5:(bE r 5).length=96:=(de h 5).trans (by decide)
theorem pl6:(bE r 6).length=104:=(de h 6).trans (by decide)
theorem pl7:(bE r 7).length=112:=(de h 7).trans (by decide)
theorem pl8:(bE r 8).length=120:=(de h 8).trans (by decide)
theorem pl9:(bE r 9).length=128:=(de h 9).trans (by decide)
theorem ai7:(bE r 10).length=160:=(de h 10).trans (by decide)
end
theorem rs0 (L:List Int):rs L 0=L:=rfl
theorem bd0 (L:List Int):bd L 0=false:=rfl
theorem aiw (L:List Int):rs L 1=Pk.nx 8 (rs L 0):=rfl
theorem aji (L:List Int):bd L 1=Pk.nb 8 (rs L 0) (bd L 0):=rfl
theorem aiA (L:List Int):(rc L).gen=Pk.vi (rs L 0):=rfl
theorem aiR (L:List Int):rs L 2=Pk.nx 8 (rs L 1):=rfl
theorem ajb (L:List Int):bd L 2=Pk.nb 8 (rs L 1) (bd L 1):=rfl
theorem ahK (L:List Int):(rc L).st=Pk.vi (rs L 1):=rfl
theorem ahF (L:List Int):rs L 3=Pk.nx 8 (rs L 2):=rfl
theorem ahZ (L:List Int):bd L 3=Pk.nb 8 (rs L 2) (bd L 2):=rfl
theorem aie (L:List Int):(rc L).ep=Pk.vi (rs L 2):=rfl
theorem aiK (L:List Int):rs L 4=Pk.nx 32 (rs L 3):=rfl
theorem ajd (L:List Int):bd L 4=Pk.nb 32 (rs L 3) (bd L 3):=rfl
theorem ai5 (L:List Int):(rc L).su=Pk.vs (rs L 3):=rfl
theorem aiV (L:List Int):rs L 5=Pk.nx 40 (rs L 4):=rfl
theorem ahI (L:List Int):bd L 5=Pk.nb 40 (rs L 4) (bd L 4):=rfl
theorem aiB (L:List Int):(rc L).rt=Pk.vr (rs L 4):=rfl
theorem ahN (L:List Int):rs L 6=Pk.nx 8 (rs L 5):=rfl
theorem ahX (L:List Int):bd L 6=Pk.nb 8 (rs L 5) (bd L 5):=rfl
theorem aib (L:List Int):(rc L).bs=Pk.vi (rs L 5):=rfl
theorem ajc (L:List Int):rs L 7=Pk.nx 8 (rs L 6):=rfl
theorem ahE (L:List Int):bd L 7=Pk.nb 8 (rs L 6) (bd L 6):=rfl
theorem aiF (L:List Int):(rc L).bl=Pk.vi (rs L 6):=rfl
theorem ah2 (L:List Int):rs L 8=Pk.nx 8 (rs L 7):=rfl
theorem aiP (L:List Int):bd L 8=Pk.nb 8 (rs L 7) (bd L 7):=rfl
theorem ai2 (L:List Int):(rc L).ts=Pk.vi (rs L 7):=rfl
theorem ai3 (L:List Int):rs L 9=Pk.nx 8 (rs L 8):=rfl
theorem aim (L:List Int):bd L 9=Pk.nb 8 (rs L 8) (bd L 8):=rfl
theorem ahW (L:List Int):(rc L).tl=Pk.vi (rs L 8):=rfl
theorem aiy (L:List Int):rs L 10=Pk.nx 32 (rs L 9):=rfl
theorem ajq (L:List Int):bd L 10=Pk.nb 32 (rs L 9) (bd L 9):=rfl
theorem ajn (L:List Int):(rc L).b1=Pk.vs (rs L 9):=rfl
theorem afr (L:List Int):rs L 11=Pk.nx 32 (rs L 10):=rfl
theorem afd (L:List Int):bd L 11=Pk.nb 32 (rs L 10) (bd L 10):=rfl
theorem ae3 (L:List Int):(rc L).b2=Pk.vs (rs L 10):=rfl
attribute [irreducible] num root nG may home pt bE rs bd rc er gt zero pc tl' dW zr
end Rg
end
section
open Go.RowKit
abbrev bW (l:List Int):List Value:=l.map (Value.int .u8)
def cv (r:Rg.R):List Value:=[.int .i64 r.gen,.int .i64 r.st,.int .i64 r.ep]++(bW r.su++((Value.int .i64 r.rt.1 :: bW r.rt.2)++([.int .i64 r.bs,.int .i64 r.bl]++([.int .i64 r.ts,.int .i64 r.tl]++(bW r.b1++bW r.b2)))))
def RV (r:Rg.R):Value:=.agg (cv r).toArray
abbrev Pv (s l:Int):Value:=.agg #[.int .i64 s,.int .i64 l]
theorem dr {r:Rg.R} (h:Rg.Ok r):(cv r).length=136:=by
 unfold cv;simp only [List.length_append,List.length_cons,List.length_nil,List.length_map,h.su.1,h.rt.2.1,h.b1.1,h.b2.1]
theorem jn (r:Rg.R):∀ v∈cv r,v.oneCell'=true:=fun v hv=>by
 unfold cv at hv;simp only [List.mem_append,List.mem_cons,List.not_mem_nil,or_false] at hv;rcases hv with (rfl | rfl | rfl) | hv | (rfl | hv) | (rfl | rfl) | (rfl | rfl) | hv | hv
 ·rfl
 ·rfl
 ·rfl
 ·exact aw _ v hv
 ·rfl
 ·exact aw _ v hv
 ·rfl
 ·rfl
 ·rfl
 ·rfl
 ·exact aw _ v hv
 ·exact aw _ v hv
theorem iC {X Y Z:List Value} {o n:Nat} (hX:X.length=o) (hY:Y.length=n):((X++(Y++Z)).drop o).take n=Y:=by
 rw [List.drop_append_of_le_length (by omega),List.drop_of_length_le (by omega),List.nil_append,List.take_append_of_le_length (by omega),List.take_of_length_le (by omega)]
section
variable {r:Rg.R}
theorem uZ (h:Rg.Ok r):((cv r).drop 3).take 32=bW r.su:=by
 unfold cv;exact iC rfl (by rw [List.length_map,h.su.1])
theorem mU (h:Rg.Ok r):((cv r).drop 35).take 33=Value.int .i64 r.rt.1 :: bW r.rt.2:=by
 unfold cv;rw [← List.append_assoc];exact iC (by simp [h.su.1]) (by simp [h.rt.2.1])
theorem kF (h:Rg.Ok r):((cv r).drop 68).take 2 = [.int .i64 r.bs,.int .i64 r.bl]:=by
 unfold cv;rw [← List.append_assoc,← List.append_assoc];exact iC (by simp [h.su.1,h.rt.2.1]) rfl
theorem kK (h:Rg.Ok r):((cv r).drop 70).take 2 = [.int .i64 r.ts,.int .i64 r.tl]:=by
 unfold cv;rw [← List.append_assoc,← List.append_assoc,← List.append_assoc];exact iC (by simp [h.su.1,h.rt.2.1]) rfl
theorem uw (h:Rg.Ok r):((cv r).drop 72).take 32=bW r.b1:=by
 unfold cv;rw [← List.append_assoc,← List.append_assoc,← List.append_assoc,← List.append_assoc];exact iC (by simp [h.su.1,h.rt.2.1]) (by simp [h.b1.1])
theorem tI (h:Rg.Ok r):((cv r).drop 104).take 32=bW r.b2:=by
 unfold cv;rw [← List.append_assoc,← List.append_assoc,← List.append_assoc,← List.append_assoc,← List.append_assoc];have:=iC (X:=[Value.int .i64 r.gen,.int .i64 r.st,.int .i64 r.ep]++bW r.su++(Value.int .i64 r.rt.1 :: bW r.rt.2)++[.int .i64 r.bs,.int .i64 r.bl]++[.int .i64 r.ts,.int .i64 r.tl]++bW r.b1) (Y:=bW r.b2) (Z:=[]) (o:=104) (n:=32) (by simp [h.su.1,h.rt.2.1,h.b1.1]) (by simp [h.b2.1]);rw [List.append_nil] at this;exact this
theorem fg {l s:List Value} {o n j:Nat} {v:Value} (h:(l.drop o).take n=s) (hv:s[j]?=some v):l[o+j]?=some v:=by
 rw [← h,List.getElem?_take,List.getElem?_drop] at hv;split at hv
 ·exact hv
 ·cases hv
end
theorem Tryz.ah:(prog.info? 45).map (·.size)=some 136:=by kernel_rfl
theorem Tryz.dN:(prog.info? 45).map (fun i=>(i.zero,i.size))=some (some (.agg (cv Rg.zero).toArray),136):=by kernel_rfl
theorem Tryz.lT:prog.built 45 []=some (cv Rg.zero).toArray:=by kernel_rfl
theorem Tryz.abl:prog.built 41 []=some (Value.int .i64 Rg.zr.1 :: bW Rg.zr.2).toArray:=by kernel_rfl
theorem Tryz.yG:(prog.fieldsOf 45).toList.map (fun f=>(f.name,f.type,f.offset)) = [("Gen",3,0),("Stamp",3,1),("Epoch",3,2),("Super",39,3),("Root",41,35),("Base",43,68),("Tail",43,70),("BaseSum",39,72),("TailSum",39,104)]:=by kernel_rfl
theorem Tryz.aba:(prog.fieldsOf 43).toList.map (fun f=>(f.name,f.type,f.offset)) = [("Seg",3,0),("Slot",3,1)]:=by kernel_rfl
theorem Tryz.abU:prog.cellsOf 41=33:=by kernel_rfl
theorem Tryz.acQ:prog.cellsOf 43=2:=by kernel_rfl
theorem cK (d:Nat) (A B:Array Value) (f:Field) (fs:List Field) (a b:Value) (q p:Bool) (w:World) (n:String) (t:TypeId) (o:Nat) (hf:(f.name,f.type,f.offset)=(n,t,o)) (hn:n ≠ "_")
  (pa:(part t A o).run prog w = .ok a w) (pb:(part t B o).run prog w = .ok b w) (he:(Op.equalIn d t a b).run prog w = .ok q w) (hr:(Op.eqFields d A B fs).run prog w = .ok p w) :
  (Op.eqFields d A B (f :: fs)).run prog w = .ok (q&&p) w:=by
 simp only [Prod.mk.injEq] at hf;obtain ⟨h1,h2,h3⟩:=hf;rw [Op.eqFields,h1,h2,h3,if_pos hn,Sem.run_bind,pa,Result.andThen_ok,Sem.run_bind,pb,Result.andThen_ok,Sem.run_bind,he,Result.andThen_ok];cases q with
 | false=>rw [if_pos (by rfl)];rfl
 | true=>rw [if_neg (by decide),hr];rfl
theorem qB (d:Nat) (A B:Array Value) (w:World):(Op.eqFields d A B []).run prog w = .ok true w:=by rw [Op.eqFields];rfl
theorem adC (w:World):(isAgg 41).run prog w = .ok true w:=by
 unfold isAgg;rw [Sem.run_bind,run_underlying underlying41 w]
 rfl
theorem af1 (w:World):(isAgg 43).run prog w = .ok true w:=by
 unfold isAgg;rw [Sem.run_bind,run_underlying underlying43 w]
 rfl
theorem ij {l:List Value} {o:Nat} {k:Int} (h:l[o]?=some (.int .i64 k)) (w:World):(part 3 l.toArray o).run prog w = .ok (.int .i64 k) w:=by
 have hv:l.toArray[o]?=some (.int .i64 k):=by simpa using h
 unfold part;rw [Sem.run_bind,wJ];simp only [Result.andThen_ok,hv]
 rfl
theorem kH (t:TypeId) (i:TypeInfo) (ti:prog.info? t=some i) (n:Nat) (hn:prog.cellsOf t=n) {l s:List Value} {o:Nat} (hg:∀ w,(isAgg t).run prog w = .ok true w) (h:(l.drop o).take n=s) (w:World):(part t l.toArray o).run prog w = .ok (.agg s.toArray) w:=by
 unfold part;rw [Sem.run_bind,hg w];simp only [Result.andThen_ok,if_true,Sem.run_bind,run_sizeOf w ti,hn,Sem.run_pure];congr 2;apply Array.ext'
 simp only [Array.toList_extract,List.extract_eq_take_drop,Nat.add_sub_cancel_left];exact h
theorem eX {l s:List Value} {o:Nat} (h:(l.drop o).take 32=s) (w:World):(part 39 l.toArray o).run prog w = .ok (.agg s.toArray) w:=by
 obtain ⟨i,hi⟩:=info_of_underlying underlying39;exact kH _ i hi 32 Tryz.sP vF h w
theorem nW {l s:List Value} {o:Nat} (h:(l.drop o).take 33=s) (w:World):(part 41 l.toArray o).run prog w = .ok (.agg s.toArray) w:=by
 obtain ⟨i,hi⟩:=info_of_underlying underlying41;exact kH _ i hi 33 Tryz.abU adC h w
theorem jG {l s:List Value} {o:Nat} (h:(l.drop o).take 2=s) (w:World):(part 43 l.toArray o).run prog w = .ok (.agg s.toArray) w:=by
 obtain ⟨i,hi⟩:=info_of_underlying underlying43;exact kH _ i hi 2 Tryz.acQ af1 h w
theorem iL (d:Nat) (a b:Int) (w:World):(Op.equalIn (d+1) 3 (.int .i64 a) (.int .i64 b)).run prog w = .ok (decide (a=b)) w:=by
 have h:=run_equalIn_int (P:=prog) w d 3 .i64 .i64 a b underlying3;rw [h];congr 1
theorem xC (d:Nat) (r s:Int × List Int) (hr:r.2.length=32) (hs:s.2.length=32) (w:World):(Op.equalIn (d+3) 41 (.agg (Value.int .i64 r.1 :: bW r.2).toArray) (.agg (Value.int .i64 s.1 :: bW s.2).toArray)).run prog w = .ok (decide (r=s)) w:=by
 rw [show d+3=(d+2)+1 from rfl,run_equalIn_struct w _ _ _ _ underlying41 stoodInHeld41];have hf:=Tryz.yU;revert hf;generalize (prog.fieldsOf 41).toList=fs;intro hf;rcases fs with _ | ⟨f1,_ | ⟨f2,_ | ⟨f3,q⟩⟩⟩
 ·simp at hf
 ·simp at hf
 ·simp only [List.map_cons,List.map_nil,List.cons.injEq,and_true] at hf;obtain ⟨h1,h2⟩:=hf;have p3:=sR r hr w;have p4:=sR s hs w;unfold dz at p3 p4;rw [cK _ _ _ _ _ _ _ _ _ _ _ _ _ h1 (by decide) (vD r w) (vD s w) (iL (d+1) _ _ w) (cK _ _ _ _ _ _ _ _ _ _ _ _ _ h2 (by decide) p3 p4 (lz d r.2 s.2 hr hs w) (qB _ _ _ w))];congr 1;by_cases e:r=s
  ·rw [decide_eq_true e,e];simp
  ·rw [decide_eq_false e,Bool.and_true];by_cases e1:r.1=s.1
   ·rw [decide_eq_false (fun e2=>e (Prod.ext e1 e2)),Bool.and_false]
   ·rw [decide_eq_false e1,Bool.false_and]
 ·simp at hf
theorem aa1 (d:Nat) (a b a' b':Int) (w:World):(Op.equalIn (d+2) 43 (Pv a b) (Pv a' b')).run prog w = .ok (decide (a=a')&&decide (b=b')) w:=by
 rw [show d+2=(d+1)+1 from rfl,run_equalIn_struct w _ _ _ _ underlying43 stoodInHeld43];have hf:=Tryz.aba;revert hf;generalize (prog.fieldsOf 43).toList=fs;intro hf;rcases fs with _ | ⟨f1,_ | ⟨f2,_ | ⟨f3,q⟩⟩⟩
 ·simp at hf
 ·simp at hf
 ·simp only [List.map_cons,List.map_nil,List.cons.injEq,and_true] at hf;obtain ⟨h1,h2⟩:=hf;rw [cK _ _ _ _ _ _ _ _ _ _ _ _ _ h1 (by decide) (ij (l:=[.int .i64 a,.int .i64 b]) rfl w) (ij (l:=[.int .i64 a',.int .i64 b']) rfl w) (iL d _ _ w) (cK _ _ _ _ _ _ _ _ _ _ _ _ _ h2 (by decide) (ij (l:=[.int .i64 a,.int .i64 b]) rfl w) (ij (l:=[.int .i64 a',.int .i64 b']) rfl w) (iL d _ _ w) (qB _ _ _ w)),Bool.and_true]
 ·simp at hf
theorem aeq (r s:Rg.R):(decide (r.gen=s.gen)&&(decide (r.st=s.st)&&(decide (r.ep=s.ep)&&(decide (r.su=s.su)&&(decide (r.rt=s.rt)&&((decide (r.bs=s.bs)&&decide (r.bl=s.bl))&&((decide (r.ts=s.ts)&&decide (r.tl=s.tl))&&(decide (r.b1=s.b1)&&(decide (r.b2=s.b2)&&true)))))))))=decide (r=s):=by
 obtain ⟨a1,a2,a3,a4,a5,a6,a7,a8,a9,a10,a11⟩:=r;obtain ⟨c1,c2,c3,c4,c5,c6,c7,c8,c9,c10,c11⟩:=s;simp only [Rg.R.mk.injEq,Bool.decide_and,Bool.and_true,Bool.and_assoc]
theorem rec_eq {r s:Rg.R} (hr:Rg.Ok r) (hs:Rg.Ok s) (w:World):(Op.equalIn 10000 45 (RV r) (RV s)).run prog w = .ok (decide (r=s)) w:=by
 unfold RV;rw [show (10000:Nat)=9999+1 from rfl,run_equalIn_struct w _ _ _ _ underlying45 stoodInHeld45];have hf:=Tryz.yG;revert hf;generalize (prog.fieldsOf 45).toList=fs;intro hf;rcases fs with _ | ⟨f1,_ | ⟨f2,_ | ⟨f3,_ | ⟨f4,_ | ⟨f5,_ | ⟨f6,_ | ⟨f7,_ | ⟨f8,_ | ⟨f9,_ | ⟨f10,q⟩⟩⟩⟩⟩⟩⟩⟩⟩⟩
 any_goals (simp at hf;done)
 simp only [List.map_cons,List.map_nil,List.cons.injEq,and_true] at hf;obtain ⟨h1,h2,h3,h4,h5,h6,h7,h8,h9⟩:=hf;have e:∀ (x:Rg.R) (j:Nat) (k:Int),(cv x)[j]?=some (.int .i64 k)→(part 3 (cv x).toArray j).run prog w = .ok (.int .i64 k) w:=fun x j k hj=>ij hj w;rw [cK _ _ _ _ _ _ _ _ _ _ _ _ _ h1 (by decide) (e r 0 _ rfl) (e s 0 _ rfl) (iL 9998 _ _ w)
  (cK _ _ _ _ _ _ _ _ _ _ _ _ _ h2 (by decide) (e r 1 _ rfl) (e s 1 _ rfl) (iL 9998 _ _ w)
  (cK _ _ _ _ _ _ _ _ _ _ _ _ _ h3 (by decide) (e r 2 _ rfl) (e s 2 _ rfl) (iL 9998 _ _ w)
  (cK _ _ _ _ _ _ _ _ _ _ _ _ _ h4 (by decide) (eX (uZ hr) w) (eX (uZ hs) w) (lz 9997 _ _ hr.su.1 hs.su.1 w)
  (cK _ _ _ _ _ _ _ _ _ _ _ _ _ h5 (by decide) (nW (mU hr) w) (nW (mU hs) w) (xC 9996 _ _ hr.rt.2.1 hs.rt.2.1 w)
  (cK _ _ _ _ _ _ _ _ _ _ _ _ _ h6 (by decide) (jG (kF hr) w) (jG (kF hs) w) (aa1 9997 _ _ _ _ w)
  (cK _ _ _ _ _ _ _ _ _ _ _ _ _ h7 (by decide) (jG (kK hr) w) (jG (kK hs) w) (aa1 9997 _ _ _ _ w)
  (cK _ _ _ _ _ _ _ _ _ _ _ _ _ h8 (by decide) (eX (uw hr) w) (eX (uw hs) w) (lz 9997 _ _ hr.b1.1 hs.b1.1 w)
  (cK _ _ _ _ _ _ _ _ _ _ _ _ _ h9 (by decide) (eX (tI hr) w) (eX (tI hs) w) (lz 9997 _ _ hr.b2.1 hs.b2.1 w) (qB _ _ _ w)))))))))]
 rw [aeq]
theorem aee {r:Int × List Int} (hr:Rg.y9 r.2) (w:World):(Op.equalIn 10000 41 (fU r) (.agg (Value.int .i64 Rg.zr.1 :: bW Rg.zr.2).toArray)).run prog w = .ok (decide (r=Rg.zr)) w:=by
 have h:Rg.zr.2.length=32:=by unfold Rg.zr;exact Rg.bR.1
 unfold fU;exact xC 9997 r Rg.zr hr.1 h w
structure RcK (r:Rg.R) (A SU RT B1 B2:Array Value):Prop where
 size:A.size=136
 one:A.all (·.oneCell')=true
 ints:∀ (z:World) (g:Nat) (t:TypeId),z.heap[g]?=qo A t→z.cell? ⟨g,0,none⟩=some (.int .i64 r.gen)∧z.cell? ⟨g,1,none⟩=some (.int .i64 r.st)∧z.cell? ⟨g,2,none⟩=some (.int .i64 r.ep)∧z.cell? ⟨g,35,none⟩=some (.int .i64 r.rt.1)∧z.cell? ⟨g,68,none⟩=some (.int .i64 r.bs)∧z.cell? ⟨g,69,none⟩=some (.int .i64 r.bl)∧z.cell? ⟨g,70,none⟩=some (.int .i64 r.ts)∧z.cell? ⟨g,71,none⟩=some (.int .i64 r.tl)
 rngs:∀ (z:World) (g:Nat) (t:TypeId),z.heap[g]?=qo A t→z.rangeAt g 3 SU.toList∧z.rangeAt g 35 RT.toList∧z.rangeAt g 72 B1.toList∧z.rangeAt g 104 B2.toList
 root:∀ (z:World) (g:Nat) (t:TypeId),z.heap[g]?=qo A t→∀ k,k<32→z.cell? ⟨g,36+k,none⟩=some (.int .u8 (r.rt.2.getD k 0))
 sizes:SU.size=32∧RT.size=33∧B1.size=32∧B2.size=32
 vals:dz r.su = .agg SU∧fU r.rt = .agg RT∧dz r.b1 = .agg B1∧dz r.b2 = .agg B2
theorem s7 {r:Rg.R} (h:Rg.Ok r):∃ A SU RT B1 B2,RV r = .agg A∧RcK r A SU RT B1 B2:=by
 refine ⟨(cv r).toArray,(bW r.su).toArray,(Value.int .i64 r.rt.1 :: bW r.rt.2).toArray,(bW r.b1).toArray,(bW r.b2).toArray,by unfold RV;rfl,by rw [List.size_toArray,dr h],all_oneCell_toArray (jn r),?_,?_,?_,?_,?_⟩
 ·intro z g t hz;have e:∀ (j:Nat) (v:Value),(cv r)[j]?=some v→z.cell? ⟨g,j,none⟩=some v:=fun j v hj=>by
   rw [cell_of_row z g j _ _ _ hz];simpa using hj
  exact ⟨e 0 _ rfl,e 1 _ rfl,e 2 _ rfl,e 35 _ (fg (j:=0) (mU h) rfl),e 68 _ (fg (j:=0) (kF h) rfl),e 69 _ (fg (j:=1) (kF h) rfl),e 70 _ (fg (j:=0) (kK h) rfl),e 71 _ (fg (j:=1) (kK h) rfl)⟩
 ·intro z g t hz;have e:∀ (o n:Nat) (s:List Value),((cv r).drop o).take n=s→z.rangeAt g o s.toArray.toList:=fun o n s hs j v hj=>by
   rw [cell_of_row z g (o+j) _ _ _ hz];simpa using fg hs hj
  exact ⟨e 3 32 _ (uZ h),e 35 33 _ (mU h),e 72 32 _ (uw h),e 104 32 _ (tI h)⟩
 ·intro z g t hz k hk;rw [cell_of_row z g (36+k) _ _ _ hz];have h2:(Value.int .i64 r.rt.1 :: bW r.rt.2)[1+k]?=some (.int .u8 (r.rt.2.getD k 0)):=by
   rw [Nat.add_comm 1 k,List.getElem?_cons_succ,List.getElem?_map,List.getD_eq_getElem?_getD,List.getElem?_eq_getElem (by rw [h.rt.2.1];exact hk)]
   rfl
  have h3:=fg (mU h) h2;rw [show 35+(1+k)=36+k by omega] at h3;simpa using h3
 ·exact ⟨by rw [List.size_toArray,List.length_map,h.su.1],by rw [List.size_toArray,List.length_cons,List.length_map,h.rt.2.1],by rw [List.size_toArray,List.length_map,h.b1.1],by rw [List.size_toArray,List.length_map,h.b2.1]⟩
 ·unfold dz fU;exact ⟨rfl,rfl,rfl,rfl⟩
attribute [irreducible] cv RV
end
section
open Go.RowKit
section
variable {P:Program} {ops:Array Oper} {rest:List Oper} {a:Act} {w:World} {Q:Exit→Act→World→Prop} {D:Option Tmp} {T:TypeId} {ps:String} {af:Array Edge} {gd:Option (Nat × Bool)}
theorem bT (t:TypeId) (R:Array Value) (hr:P.built t []=some R) (h:wpList P ops Q rest (a.put D (.agg R)) w) :
  wpList P ops Q ({ dst:=D,op:=.build t #[],type:=T,pos:=ps,after:=af,guard:=none } :: rest) a w :=
 wpList_plain rfl fun K hK=>by
  have Am:=run_build (P:=P) w t #[] R hr;unfold Oper.wp execOp;simp only [List.map_toArray,List.map_nil,Am,Sem.run_bind,Sem.run_pure,Result.andThen_ok];exact hK _ _ h
theorem cN (ty:TypeId) (x:Operand) (b o:Nat) (A:Array Value) (d:TypeDesc) (hw:Region.wanted { dst:=D,op:=.load ty x,type:=T,pos:=ps,after:=af,guard:=gd } (yielded ops a.tmps)=true)
  (hx:a.eval x = .pointer (some ⟨b,o,none⟩)) (hc:w.rangeAt b o A.toList)
  (hu:P.underlying ty=some d) (hd:d.isRow=true) (hi:(P.info? ty).map (·.size)=some A.size)
  (h:wpList P ops Q rest (a.put D (.agg A)) w):wpList P ops Q ({ dst:=D,op:=.load ty x,type:=T,pos:=ps,after:=af,guard:=gd } :: rest) a w :=
 BigFrame.wpList_want hw fun K hK=>wp_load_mid ty x rfl b o hx A.toList d hc hu hd (by simpa using hi) (hK _ _ (by simpa using h))
theorem gL (ty:TypeId) (x:Operand) (g:Nat) (t:TypeId) (cs:Array Value) (fr:Nat × Nat) (d:TypeDesc) (hw:Region.wanted { dst:=D,op:=.load ty x,type:=T,pos:=ps,after:=af,guard:=gd } (yielded ops a.tmps)=true)
  (hx:a.eval x = qp g) (hg:w.heap[g]?=some (.cells cs t fr))
  (hu:P.underlying ty=some d) (hd:d.isRow=true) (hi:(P.info? ty).map (·.size)=some cs.size)
  (h:wpList P ops Q rest (a.put D (.agg cs)) w):wpList P ops Q ({ dst:=D,op:=.load ty x,type:=T,pos:=ps,after:=af,guard:=gd } :: rest) a w :=
 cN ty x g 0 cs d hw hx (fun j v hv=>by rw [cell_of_row w g (0+j) _ _ _ hg,Nat.zero_add];simpa using hv) hu hd hi h
end
def dQ (b:Bool) (w:World) (e:Ending) (w':World):Prop:=e = .returned (.bool b)∧Hid (qw w w')
theorem gy (v l m:Int) (w:World):qc 140 #[.int .i64 v,.int .i64 l,.int .i64 m] w fun e w'=>e = .returned (.bool (decide (l≤v)&&decide (v≤m)))∧w=w':=by
 by_cases h1:v≥l
 ·by_cases h2:v≤m
  ·rw [decide_eq_true (show l≤v from h1),decide_eq_true h2];go_enter func140,ntmps140;go_wp2;go_ret;exact ⟨rfl,rfl⟩
  ·rw [decide_eq_true (show l≤v from h1),decide_eq_false h2];go_enter func140,ntmps140;go_wp2;go_ret;exact ⟨rfl,rfl⟩
 ·rw [decide_eq_false (show ¬ l≤v from h1),Bool.false_and];go_enter func140,ntmps140;go_wp2;go_ret;exact ⟨rfl,rfl⟩
theorem tL (n:Int):Rg.num n=(decide (1≤n)&&decide (n≤1099511627776)):=by unfold Rg.num;rfl
theorem u4 (s l:Int):Rg.nG s l=((decide (0≤s)&&decide (s≤31))&&(decide (0≤l)&&decide (l≤63))):=by unfold Rg.nG;rfl
theorem lK (r:Int × List Int):Rg.root r=(decide (r=Rg.zr)||(decide (3≤r.1)&&decide (r.1≤4095))):=by unfold Rg.root;rfl
theorem o7 (r:Rg.R):Rg.may r=(Rg.num r.gen&&(Rg.num r.st&&(Rg.num r.ep&&(Rg.root r.rt&&(Rg.nG r.bs r.bl&&Rg.nG r.ts r.tl))))):=by unfold Rg.may;rfl
theorem mO (n:Int) (w:World):qc 106 #[.int .i64 n] w fun e w'=>e = .returned (.bool (Rg.num n))∧w=w':=by
 have HC:Hid (∀ y,qc 140 #[.int .i64 n,.int .i64 1,.int .i64 1099511627776] y fun e w'=>e = .returned (.bool (Rg.num n))∧y=w'):=fun y=>by rw [tL];exact gy n 1 1099511627776 y
 go_enter func106,ntmps106;go_wp2_with (go_at_call 140;refine (HC.out _).mono ?_;rintro e1 w1 ⟨rfl,rfl⟩)
 go_ret;exact ⟨rfl,rfl⟩
theorem mo (s l:Int) (w:World):qc 108 #[Pv s l] w (dQ (Rg.nG s l) w):=by
 have HA:Hid (∀ y,qc 140 #[.int .i64 s,.int .i64 0,.int .i64 31] y fun e w'=>e = .returned (.bool (decide (0≤s)&&decide (s≤31)))∧y=w'):=fun y=>gy s 0 31 y;have HB:Hid (∀ y,qc 140 #[.int .i64 l,.int .i64 0,.int .i64 63] y fun e w'=>e = .returned (.bool (decide (0≤l)&&decide (l≤63)))∧y=w'):=fun y=>gy l 0 63 y;have B0:Hid (qw w (w.alloc (.cells #[.int .i64 s,.int .i64 l] 43))):=qb w _;rw [u4];generalize (decide (0≤s)&&decide (s≤31))=a at *;generalize (decide (0≤l)&&decide (l≤63))=b at *;cases a with
 | true =>
  go_enter func108,ntmps108;go_wp2_with (first
   | (go_at_call 140;with_reducible refine (HA.out _).mono ?_;rintro e1 w1 ⟨rfl,rfl⟩)
   | (go_at_call 140;with_reducible refine (HB.out _).mono ?_;rintro e2 w2 ⟨rfl,rfl⟩))
  go_ret;exact ⟨by first | rfl | simp,B0.out⟩
 | false =>
  go_enter func108,ntmps108;go_wp2_with (go_at_call 140;refine (HA.out _).mono ?_;rintro e1 w1 ⟨rfl,rfl⟩)
  go_ret;exact ⟨by first | rfl | simp,B0.out⟩
theorem y6 (r:Int × List Int) (hr:Rg.y9 r.2) (w:World):qc 107 #[fU r] w (dQ (Rg.root r) w):=by
 obtain ⟨A,eA,Cj,h1⟩:=qv r hr.1;obtain ⟨Z,hZ⟩:∃ Z,(Value.int .i64 Rg.zr.1 :: bW Rg.zr.2).toArray=Z:=⟨_,rfl⟩;have heq:∀ y,(Op.equalIn 10000 41 (.agg A) (.agg Z)).run prog y = .ok (decide (r=Rg.zr)) y:=fun y=>by
  have h2:=aee hr y;rw [hZ,eA] at h2;exact h2
 have HZ:=qh Tryz.abl;rw [hZ] at HZ;have HC:Hid (∀ y,qc 140 #[.int .i64 r.1,.int .i64 3,.int .i64 4095] y fun e w'=>e = .returned (.bool (decide (3≤r.1)&&decide (r.1≤4095)))∧y=w'):=fun y=>gy r.1 3 4095 y;have Aw:=qh Cj;have Bj:=ae Tryz.bm Aw;have R0:Hid ((w.alloc (.cells A 41)).heap[w.heap.size]?=qo A 41):=heap_alloc_new w _;have B0:Hid (qw w (w.alloc (.cells A 41))):=qb w _;have c0:(w.alloc (.cells A 41)).cell? ⟨w.heap.size,0,none⟩=some (.int .i64 r.1):=by
  rw [cell_of_row _ _ 0 _ _ _ R0.out];have h2:fU r = .agg A:=eA;unfold fU at h2;injection h2 with h2
  rw [← h2];rfl
 rw [eA,lK];obtain ⟨k,S⟩:=r;dsimp only at c0 HC ⊢;generalize (decide (3≤k)&&decide (k≤4095))=b at *;clear eA hZ Cj hr;cases hd:decide ((k,S)=Rg.zr) with
 | true =>
  rw [Bool.true_or];simp only [hd] at heq;clear hd;go_enter func107,ntmps107;go_wp2_with (first
   | ((with_reducible refine ay _ _ _ _ _ _ _ ?_ R0.out underlying41 ?_ Bj ?_);(exact rfl);(exact rfl))
   | ((with_reducible refine bT _ _ HZ.out ?_)))
  go_ret;exact ⟨rfl,B0.out⟩
 | false =>
  rw [Bool.false_or];simp only [hd] at heq;clear hd;go_enter func107,ntmps107;go_wp2_with (first
   | ((with_reducible refine ay _ _ _ _ _ _ _ ?_ R0.out underlying41 ?_ Bj ?_);(exact rfl);(exact rfl))
   | ((with_reducible refine bT _ _ HZ.out ?_))
   | (go_at_call 140;refine (HC.out _).mono ?_;rintro e1 w1 ⟨rfl,rfl⟩))
  go_ret;exact ⟨by first | rfl | simp,B0.out⟩
theorem kL (r:Rg.R) (h:Rg.Ok r) (w:World):qc 59 #[RV r] w (dQ (Rg.may r) w):=by
 obtain ⟨A,SU,RT,B1,B2,eA,hk⟩:=s7 h;have H0:Hid (∀ y,qc 106 #[.int .i64 r.gen] y fun e w'=>e = .returned (.bool (Rg.num r.gen))∧y=w'):=fun y=>mO r.gen y;have H1:Hid (∀ y,qc 106 #[.int .i64 r.st] y fun e w'=>e = .returned (.bool (Rg.num r.st))∧y=w'):=fun y=>mO r.st y;have H2:Hid (∀ y,qc 106 #[.int .i64 r.ep] y fun e w'=>e = .returned (.bool (Rg.num r.ep))∧y=w'):=fun y=>mO r.ep y;have H3:Hid (∀ y,qc 107 #[.agg RT] y (dQ (Rg.root r.rt) y)):=fun y=>by rw [← hk.vals.2.1];exact y6 r.rt h.rt.2 y
 have H4:Hid (∀ y,qc 108 #[Pv r.bs r.bl] y (dQ (Rg.nG r.bs r.bl) y)):=fun y=>mo r.bs r.bl y;have H5:Hid (∀ y,qc 108 #[Pv r.ts r.tl] y (dQ (Rg.nG r.ts r.tl) y)):=fun y=>mo r.ts r.tl y;obtain ⟨w0,Ah⟩:∃ x,x=w.alloc (.cells A 45):=⟨_,rfl⟩;have R0:Hid (w0.heap[w.heap.size]?=qo A 45):=by rw [Ah];exact heap_alloc_new w _
 have B0:Hid (qw w w0):=by rw [Ah];exact qb w _
 have BR:Hid (qw w0 w0):=Below.refl _ _;have HI:Hid (∀ y,qw w0 y→_):=fun y hy=>hk.ints y w.heap.size _ ((hy.block _ (lt_of_block R0.out)).trans R0.out);have RR:Hid (w0.rangeAt w.heap.size 35 RT.toList):=(hk.rngs w0 w.heap.size _ R0.out).2.1;have RS:Hid (RT.size=33):=hk.sizes.2.1;obtain ⟨c0,c1,c2,_,_,_,_,_⟩:=HI.out _ BR.out;have h1:=hk.one;have Aw:=qh hk.size;rw [eA,o7];clear hk h eA;obtain ⟨gen,st,ep,su,rt,bs,bl,ts,tl,b1,b2⟩:=r;dsimp only at *;generalize Rg.num gen=n0 at *;generalize Rg.num st=n1 at *;generalize Rg.num ep=n2 at *;generalize Rg.root rt=n3 at *;generalize Rg.nG bs bl=n4 at *;generalize Rg.nG ts tl=n5 at *;cases n0 with
 | false =>
  go_enter func59,ntmps59;go_upto_region 1 with (fail)
  change Code.wp _ _ _ _ (w.alloc (.cells A 45));rw [← Ah];clear Ah;go_wp2_with (first
     | (go_at_call 106;with_reducible refine (H0.out _).mono ?_;rintro e0 w0 ⟨rfl,rfl⟩)
     | (go_at_call 106;with_reducible refine (H1.out _).mono ?_;rintro e1 w1 ⟨rfl,rfl⟩)
     | (go_at_call 106;with_reducible refine (H2.out _).mono ?_;rintro e2 w2 ⟨rfl,rfl⟩)
     | ((with_reducible refine cN _ _ w.heap.size 35 RT _ ?_ ?_ RR.out underlying41 ?_ (ae Tryz.bm RS) ?_);(exact rfl);(go_simp);(exact rfl))
     | (go_at_call 107;refine (H3.out _).mono ?_;rintro e3 w3 ⟨rfl,Ao⟩;have B3:=qh (BR.out.trans (Ao.out.mono qn));obtain ⟨_,_,_,_,e68,e69,e70,e71⟩:=HI.out _ B3.out)
     | (go_at_call 108;have TT:=B4.out;refine (H5.out _).mono ?_;rintro e5 w5 ⟨rfl,Ay⟩;have B5:=qh (B4.out.trans (Ay.out.mono B4.out.size)))
     | (go_at_call 108;have TT:=B3.out;refine (H4.out _).mono ?_;rintro e4 w4 ⟨rfl,Av⟩;have B4:=qh (B3.out.trans (Av.out.mono B3.out.size));obtain ⟨_,_,_,_,g68,g69,g70,g71⟩:=HI.out _ B4.out))
  go_ret;exact ⟨by first | rfl | simp,B0.out⟩
 | true =>
  cases n1 with
  | false =>
   go_enter func59,ntmps59;go_upto_region 1 with (fail)
   change Code.wp _ _ _ _ (w.alloc (.cells A 45));rw [← Ah];clear Ah;go_wp2_with (first
      | (go_at_call 106;with_reducible refine (H0.out _).mono ?_;rintro e0 w0 ⟨rfl,rfl⟩)
      | (go_at_call 106;with_reducible refine (H1.out _).mono ?_;rintro e1 w1 ⟨rfl,rfl⟩)
      | (go_at_call 106;with_reducible refine (H2.out _).mono ?_;rintro e2 w2 ⟨rfl,rfl⟩)
      | ((with_reducible refine cN _ _ w.heap.size 35 RT _ ?_ ?_ RR.out underlying41 ?_ (ae Tryz.bm RS) ?_);(exact rfl);(go_simp);(exact rfl))
      | (go_at_call 107;refine (H3.out _).mono ?_;rintro e3 w3 ⟨rfl,Ao⟩;have B3:=qh (BR.out.trans (Ao.out.mono qn));obtain ⟨_,_,_,_,e68,e69,e70,e71⟩:=HI.out _ B3.out)
      | (go_at_call 108;have TT:=B4.out;refine (H5.out _).mono ?_;rintro e5 w5 ⟨rfl,Ay⟩;have B5:=qh (B4.out.trans (Ay.out.mono B4.out.size)))
      | (go_at_call 108;have TT:=B3.out;refine (H4.out _).mono ?_;rintro e4 w4 ⟨rfl,Av⟩;have B4:=qh (B3.out.trans (Av.out.mono B3.out.size));obtain ⟨_,_,_,_,g68,g69,g70,g71⟩:=HI.out _ B4.out))
   go_ret;exact ⟨by first | rfl | simp,B0.out⟩
  | true =>
   cases n2 with
   | false =>
    go_enter func59,ntmps59;go_upto_region 1 with (fail)
    change Code.wp _ _ _ _ (w.alloc (.cells A 45));rw [← Ah];clear Ah;go_wp2_with (first
       | (go_at_call 106;with_reducible refine (H0.out _).mono ?_;rintro e0 w0 ⟨rfl,rfl⟩)
       | (go_at_call 106;with_reducible refine (H1.out _).mono ?_;rintro e1 w1 ⟨rfl,rfl⟩)
       | (go_at_call 106;with_reducible refine (H2.out _).mono ?_;rintro e2 w2 ⟨rfl,rfl⟩)
       | ((with_reducible refine cN _ _ w.heap.size 35 RT _ ?_ ?_ RR.out underlying41 ?_ (ae Tryz.bm RS) ?_);(exact rfl);(go_simp);(exact rfl))
       | (go_at_call 107;refine (H3.out _).mono ?_;rintro e3 w3 ⟨rfl,Ao⟩;have B3:=qh (BR.out.trans (Ao.out.mono qn));obtain ⟨_,_,_,_,e68,e69,e70,e71⟩:=HI.out _ B3.out)
       | (go_at_call 108;have TT:=B4.out;refine (H5.out _).mono ?_;rintro e5 w5 ⟨rfl,Ay⟩;have B5:=qh (B4.out.trans (Ay.out.mono B4.out.size)))
       | (go_at_call 108;have TT:=B3.out;refine (H4.out _).mono ?_;rintro e4 w4 ⟨rfl,Av⟩;have B4:=qh (B3.out.trans (Av.out.mono B3.out.size));obtain ⟨_,_,_,_,g68,g69,g70,g71⟩:=HI.out _ B4.out))
    go_ret;exact ⟨by first | rfl | simp,B0.out⟩
   | true =>
    cases n3 with
    | false =>
     go_enter func59,ntmps59;go_upto_region 1 with (fail)
     change Code.wp _ _ _ _ (w.alloc (.cells A 45));rw [← Ah];clear Ah;go_wp2_with (first
        | (go_at_call 106;with_reducible refine (H0.out _).mono ?_;rintro e0 w0 ⟨rfl,rfl⟩)
        | (go_at_call 106;with_reducible refine (H1.out _).mono ?_;rintro e1 w1 ⟨rfl,rfl⟩)
        | (go_at_call 106;with_reducible refine (H2.out _).mono ?_;rintro e2 w2 ⟨rfl,rfl⟩)
        | ((with_reducible refine cN _ _ w.heap.size 35 RT _ ?_ ?_ RR.out underlying41 ?_ (ae Tryz.bm RS) ?_);(exact rfl);(go_simp);(exact rfl))
        | (go_at_call 107;refine (H3.out _).mono ?_;rintro e3 w3 ⟨rfl,Ao⟩;have B3:=qh (BR.out.trans (Ao.out.mono qn));obtain ⟨_,_,_,_,e68,e69,e70,e71⟩:=HI.out _ B3.out)
        | (go_at_call 108;have TT:=B4.out;refine (H5.out _).mono ?_;rintro e5 w5 ⟨rfl,Ay⟩;have B5:=qh (B4.out.trans (Ay.out.mono B4.out.size)))
        | (go_at_call 108;have TT:=B3.out;refine (H4.out _).mono ?_;rintro e4 w4 ⟨rfl,Av⟩;have B4:=qh (B3.out.trans (Av.out.mono B3.out.size));obtain ⟨_,_,_,_,g68,g69,g70,g71⟩:=HI.out _ B4.out))
     go_ret;exact ⟨by first | rfl | simp,B0.out.trans (B3.out.mono B0.out.size)⟩
    | true =>
     cases n4 with
     | false =>
      go_enter func59,ntmps59;go_upto_region 1 with (fail)
      change Code.wp _ _ _ _ (w.alloc (.cells A 45));rw [← Ah];clear Ah;go_wp2_with (first
         | (go_at_call 106;with_reducible refine (H0.out _).mono ?_;rintro e0 w0 ⟨rfl,rfl⟩)
         | (go_at_call 106;with_reducible refine (H1.out _).mono ?_;rintro e1 w1 ⟨rfl,rfl⟩)
         | (go_at_call 106;with_reducible refine (H2.out _).mono ?_;rintro e2 w2 ⟨rfl,rfl⟩)
         | ((with_reducible refine cN _ _ w.heap.size 35 RT _ ?_ ?_ RR.out underlying41 ?_ (ae Tryz.bm RS) ?_);(exact rfl);(go_simp);(exact rfl))
         | (go_at_call 107;refine (H3.out _).mono ?_;rintro e3 w3 ⟨rfl,Ao⟩;have B3:=qh (BR.out.trans (Ao.out.mono qn));obtain ⟨_,_,_,_,e68,e69,e70,e71⟩:=HI.out _ B3.out)
         | (go_at_call 108;have TT:=B4.out;refine (H5.out _).mono ?_;rintro e5 w5 ⟨rfl,Ay⟩;have B5:=qh (B4.out.trans (Ay.out.mono B4.out.size)))
         | (go_at_call 108;have TT:=B3.out;refine (H4.out _).mono ?_;rintro e4 w4 ⟨rfl,Av⟩;have B4:=qh (B3.out.trans (Av.out.mono B3.out.size));obtain ⟨_,_,_,_,g68,g69,g70,g71⟩:=HI.out _ B4.out))
      go_ret;exact ⟨by first | rfl | simp,B0.out.trans (B4.out.mono B0.out.size)⟩
     | true =>
      go_enter func59,ntmps59;go_upto_region 1 with (fail)
      change Code.wp _ _ _ _ (w.alloc (.cells A 45));rw [← Ah];clear Ah;go_wp2_with (first
         | (go_at_call 106;with_reducible refine (H0.out _).mono ?_;rintro e0 w0 ⟨rfl,rfl⟩)
         | (go_at_call 106;with_reducible refine (H1.out _).mono ?_;rintro e1 w1 ⟨rfl,rfl⟩)
         | (go_at_call 106;with_reducible refine (H2.out _).mono ?_;rintro e2 w2 ⟨rfl,rfl⟩)
         | ((with_reducible refine cN _ _ w.heap.size 35 RT _ ?_ ?_ RR.out underlying41 ?_ (ae Tryz.bm RS) ?_);(exact rfl);(go_simp);(exact rfl))
         | (go_at_call 107;refine (H3.out _).mono ?_;rintro e3 w3 ⟨rfl,Ao⟩;have B3:=qh (BR.out.trans (Ao.out.mono qn));obtain ⟨_,_,_,_,e68,e69,e70,e71⟩:=HI.out _ B3.out)
         | (go_at_call 108;have TT:=B4.out;refine (H5.out _).mono ?_;rintro e5 w5 ⟨rfl,Ay⟩;have B5:=qh (B4.out.trans (Ay.out.mono B4.out.size)))
         | (go_at_call 108;have TT:=B3.out;refine (H4.out _).mono ?_;rintro e4 w4 ⟨rfl,Av⟩;have B4:=qh (B3.out.trans (Av.out.mono B3.out.size));obtain ⟨_,_,_,_,g68,g69,g70,g71⟩:=HI.out _ B4.out))
      go_ret;exact ⟨by first | rfl | simp,B0.out.trans (B5.out.mono B0.out.size)⟩
theorem qZ (r:Rg.R) (h:Rg.Ok r) (w:World):qc 66 #[RV r] w fun e w'=>e = .returned (.int .i64 (Rg.home r))∧qw w w':=by
 obtain ⟨A,SU,RT,B1,B2,eA,hk⟩:=s7 h;have R0:Hid ((w.alloc (.cells A 45)).heap[w.heap.size]?=qo A 45):=heap_alloc_new w _;have B0:Hid (qw w (w.alloc (.cells A 45))):=qb w _;have c0:=(hk.ints _ w.heap.size _ R0.out).1;have h1:=hk.one;have HG:=qh h.gen;rw [eA];have e:Rg.home r=if r.gen % 2=0 then 1 else 2:=by unfold Rg.home;rfl
 rw [e];generalize r.gen=g at *;clear hk h eA e;have Ba:Int.tmod g 2=0↔g % 2=0:=⟨fun q=>Int.emod_eq_zero_of_dvd (Int.dvd_of_tmod_eq_zero q),fun q=>Int.tmod_eq_zero_of_dvd (Int.dvd_of_emod_eq_zero q)⟩;by_cases h2:g % 2=0
 ·rw [if_pos h2];have h3:Int.tmod g 2=0:=Ba.2 h2;go_enter func66,ntmps66;go_wp2;go_ret;exact ⟨rfl,B0.out⟩
 ·rw [if_neg h2];have h3:¬ Int.tmod g 2=0:=fun q=>h2 (Ba.1 q);have h4:(Int.tmod g 2==0)=false:=by simpa using h3
  go_enter func66,ntmps66;go_wp2;go_ret;exact ⟨rfl,B0.out⟩
end
end Go.Proofs.YthgjfjmampmiiaaGreatDoor

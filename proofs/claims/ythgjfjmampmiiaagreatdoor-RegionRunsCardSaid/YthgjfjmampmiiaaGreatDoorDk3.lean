/-
  DkN, DkO, DkQ, DkR (merged)
-/
import Derived.Test.YthgjfjmampmiiaaGreatDoorDk6
import Derived.Test.YthgjfjmampmiiaaGreatDoorPa2
namespace Go.Proofs.YthgjfjmampmiiaaGreatDoor
open Go.Proofs.Tryz
set_option maxHeartbeats 2000000
set_option maxRecDepth 100000
section
open Go.RowKit Go.MapKept Go.ChangeMaps
namespace Dk
def fresh (n:Nat):M:=⟨n,fun _=>[],fun _=>none,fun _=>0,0,-1,false⟩
def may (n:Int):Bool:=decide (1≤n)&&decide (n≤4096)
end Dk
theorem mD (t e:TypeId) (z:Value) (bytes n:Nat) (hu:prog.underlying t=some (.slice e)) (hi:(prog.info? e).map (fun i=>(i.zero,i.size,i.bytes))=some (some z,1,bytes)) (hz:z.cells = #[z]) (hb:bytes*n≤281474976710656) (hn:n≤9223372036854775807) (w:World) :
  (Instr.makeSlice t (.int .i64 (n:Int)) (.int .i64 (n:Int))).run prog w = .ok (.slice (some ⟨w.heap.size,0,none⟩) n n) (w.alloc (.cells (Array.replicate n z) e)):=by
 obtain ⟨i,Gl,Is,JY,Nj⟩:=info_parts hi;have Am:=run_make (P:=prog) w t e i z hu Gl Is .i64 .i64 n n (by omega) (by omega) (by rw [Nj];omega) (by omega);rw [JY,hz,Nat.mul_one] at Am;have hl:(madeCells #[z] n).toList=List.replicate n z:=toList_madeCells_one z n;have e2:madeCells #[z] n=(List.replicate n z).toArray:=by rw [← hl,Array.toArray_toList]
 have e3:((n:Int)).toNat=n:=by omega
 rw [e3,e2,List.toArray_replicate] at Am;exact Am
theorem al4 (x:World) (A B C D:Obj):((((x.alloc A).alloc B).alloc C).alloc D).heap[x.heap.size]?=some A∧((((x.alloc A).alloc B).alloc C).alloc D).heap[x.heap.size+1]?=some B∧((((x.alloc A).alloc B).alloc C).alloc D).heap[x.heap.size+1+1]?=some C∧((((x.alloc A).alloc B).alloc C).alloc D).heap[x.heap.size+1+1+1]?=some D:=by
 have h:((((x.alloc A).alloc B).alloc C).alloc D).heap=(((x.heap.push A).push B).push C).push D:=rfl;rw [h];simp only [Array.getElem?_push,Array.size_push];refine ⟨?_,?_,?_,?_⟩
 ·rw [if_neg (by omega),if_neg (by omega),if_neg (by omega),if_pos trivial]
 ·rw [if_neg (by omega),if_neg (by omega),if_pos trivial]
 ·rw [if_neg (by omega),if_pos trivial]
 ·rw [if_pos trivial]
theorem ac8 (w:World) (A B C D:Obj):qw w ((((w.alloc A).alloc B).alloc C).alloc D).drew:=((((qb w _).alloc (by simp) _).alloc (by simp;omega) _).alloc (by simp;omega) _).drew
def ajC (lb cb rb n:Nat):Obj:=.cells #[.slice (some ⟨lb,0,none⟩) n n,.map (some cb),.slice (some ⟨rb,0,none⟩) n n,.int .i64 0,.int .i64 (-1),.bool false] 74
def ahw (n:Nat):Obj:=.cells (Array.replicate n (Value.slice none 0 0)) 22
def acp (n:Nat):Obj:=.cells (Array.replicate n (Value.int .i64 0)) 3
theorem abz {y:World} {B d lb rb cb n:Nat} (hn:1≤n∧n≤4096) (h1:y.heap[lb]?=some (ahw n)) (h2:y.heap[cb]?=some (.map #[] 0)) (h3:y.heap[rb]?=some (acp n)) (h4:y.heap[d]?=some (ajC lb cb rb n)) (hB:B≤d∧B≤lb∧B≤rb∧B≤cb) :
  aJ y (fun g=>B≤g∧g<y.heap.size) d lb rb cb (Dk.fresh n):=by
 refine ⟨⟨⟨hB.1,lt_of_block h4⟩,⟨hB.2.1,lt_of_block h1⟩,⟨hB.2.2.1,lt_of_block h3⟩,⟨hB.2.2.2,lt_of_block h2⟩⟩,fun g h=>h.2,h4,⟨_,h1,by simp [Dk.fresh],fun i hi=>⟨.slice none 0 0,?_,acF _ _⟩⟩,⟨fun _=>none,⟨.map [],⟨#[],0,h2,⟨by simp,stamped_empty 0,by simp⟩,Nat.zero_le _,rfl⟩,fun i=>by simp [Maps.has],fun j v h=>by cases h⟩,fun i=>⟨fun _=>rfl,fun L hL=>by cases hL⟩⟩,?_,⟨hn.1,hn.2,fun i _=>rfl,by unfold aT Dk.fresh;dsimp only;omega,fun i=>by simp [Dk.fresh],fun i L hL=>by cases hL⟩⟩
 ·have L3:i<n:=hi;simp [L3]
 ·rw [h3];unfold acp Dk.fresh;congr 2;apply Array.ext
  ·simp
  ·intro j _ _;simp
def gG (n:Int) (w:World) (e:Ending) (w':World):Prop :=
 if Dk.may n then ∃ d lb rb cb,e = .returned (.tuple #[qp d,.int .i64 0])∧Hid (aJ w' (fun g=>w.heap.size≤g∧g<w'.heap.size) d lb rb cb (Dk.fresh n.toNat))∧qw w w'
 else e = .returned (.tuple #[.pointer none,.int .i64 7])∧w'=w
theorem agn (n:Int) (h:Dk.may n=false) (w:World):qc 7 #[.int .i64 n] w (gG n w):=by
 by_cases h1:1≤n
 ·have h2:4096<n:=by
   unfold Dk.may at h;simp [h1] at h;exact h
  go_enter func7,ntmps7;go_wp2;go_ret2;unfold gG;rw [h,if_neg (by decide)];exact ⟨rfl,rfl⟩
 ·have h2:n<1:=by omega
  go_enter func7,ntmps7;go_wp2;go_ret2;unfold gG;rw [h,if_neg (by decide)];exact ⟨rfl,rfl⟩
theorem acE (n:Nat) (h1:1≤n) (h2:n≤4096) (w:World):qc 7 #[.int .i64 (n:Int)] w (gG n w):=by
 have hm:Dk.may n=true:=by unfold Dk.may;simp;omega
 have EM:(1:Int)≤(n:Int):=by omega
 have Dq:(n:Int)≤4096:=by omega
 have m1:=mD 71 22 (.slice none 0 0) 24 n underlying71 Tryz.sJ rfl (by omega) (by omega);have m2:=mD 46 3 (.int .i64 0) 8 n underlying46 Tryz.mB rfl (by omega) (by omega);have Pf:=@run_makeMap prog;go_enter func7,ntmps7;go_upto_region 3 with (fail)
 go_region_held3 (fun _=>True)
  (trivial)
  (fail)
 all_goals (
  go_wp2;go_ret2;unfold gG;rw [hm,if_pos rfl,Int.toNat_natCast];refine ⟨_,_,_,_,rfl,qh (abz ⟨h1,h2⟩ ?_ ?_ ?_ (al4 w _ _ _ _).2.2.2 ?_),ac8 w _ _ _ _⟩
  ·first | exact (al4 w _ _ _ _).1 | exact (al4 w _ _ _ _).2.1 | exact (al4 w _ _ _ _).2.2.1
  ·first | exact (al4 w _ _ _ _).1 | exact (al4 w _ _ _ _).2.1 | exact (al4 w _ _ _ _).2.2.1
  ·first | exact (al4 w _ _ _ _).1 | exact (al4 w _ _ _ _).2.1 | exact (al4 w _ _ _ _).2.2.1
  ·omega)
theorem zq (n:Int) (w:World):qc 7 #[.int .i64 n] w (gG n w):=by
 cases h:Dk.may n with
 | false=>exact agn n h w
 | true =>
  have h':=h;unfold Dk.may at h';simp only [Bool.and_eq_true,decide_eq_true_eq] at h';obtain ⟨k,rfl⟩:∃ k:Nat,n=(k:Int):=⟨n.toNat,by omega⟩;exact acE k (by omega) (by omega) w
end
section
open Go.RowKit
theorem ajl (n:Nat) (h1:1≤n) (h2:n≤4096) (w:World):qc 7 #[.int .i64 (n:Int)] w fun e w'=>∃ d lb rb cb,e = .returned (.tuple #[qp d,.int .i64 0])∧Hid (aJ w' (fun g=>w.heap.size≤g∧g<w'.heap.size) d lb rb cb (Dk.fresh n))∧qw w w':=by
 refine (zq (n:Int) w).mono ?_;intro e w' h;unfold gG at h;rw [if_pos (by unfold Dk.may;simp;omega),Int.toNat_natCast] at h;exact h
end
section
open Go.RowKit
namespace Dk
structure Aft (m m':M):Prop where
 n:m'.n=m.n
 rd:m'.rd=m.rd
 wr:m'.wr≤m.wr+1
 no:gone m=true→m'.ca=m.ca∧m'.down=true
 yes:gone m=false→m'.left=(if 0<m.left then m.left-1 else m.left)∧m'.down=false
theorem yw {m:M} (h:gone m=false):m.down=false∧m.left ≠ 0:=by
 unfold gone at h;simp at h;exact h
theorem xT (m:M):Aft m (aK m):=by
 refine ⟨jA m,mG m,by rw [fS];omega,fun h=>⟨nf m,?_⟩,fun h=>?_⟩
 ·unfold aK;rw [if_pos h]
 ·unfold aK;rw [h,if_neg (by decide)];exact ⟨rfl,(yw h).1⟩
theorem lZ (m:M):Aft m (nZ m):=by
 have h:=xT m;unfold nZ;cases hg:gone m with
 | true=>rw [if_pos rfl];exact h
 | false=>rw [if_neg (by decide)];exact ⟨h.n,h.rd,h.wr,fun q=>(by rw [hg] at q;cases q),fun q=>h.yes q⟩
theorem uq {m:M} {i:Int} {L:List Int} (h:fault m i L=0):kE m i L=aM m:=by
 unfold kE;cases hd:m.down with
 | true=>rw [if_pos rfl];unfold aM gone;rw [hd];rfl
 | false=>rw [if_neg (by decide),if_neg (by rw [h];decide)]
end Dk
end
section
open Go.RowKit
namespace Dk
structure Up (m:M) (n:Nat):Prop where
 n:m.n=n
 left:m.left = -1
 down:m.down=false
section
variable {m m':M} {n:Nat}
theorem Up.gone (h:Up m n):gone m=false:=by unfold Dk.gone;rw [h.left,h.down];rfl
theorem Up.aK (h:Up m n):aK m=m:=by unfold Dk.aK;rw [h.gone,if_neg (by decide),h.left,if_neg (by decide),← h.left]
theorem Up.aM (h:Up m n):aM m=0:=by unfold Dk.aM;rw [h.gone];rfl
theorem Up.fresh (n:Nat):Up (Dk.fresh n) n:=⟨rfl,rfl,rfl⟩
theorem Up.fault (h:Up m n) (i:Nat) (hi:i<n) (L:List Int) (hL:L.length≤1024):fault m (i:Int) L=0:=by
 unfold Dk.fault here;rw [h.n,decide_eq_true (show (0:Int)≤(i:Int) by omega),decide_eq_true (show (i:Int)<(n:Int) by omega),if_neg (by decide),if_neg (by omega)]
def put (m:M) (i:Nat) (L:List Int):M:={ m with ca:=aZ m.ca i (some L),wr:=m.wr+1 }
theorem Up.kE (h:Up m n) (i:Nat) (hi:i<n) (L:List Int) (hL:L.length≤1024):kE m (i:Int) L=0:=by rw [uq (h.fault i hi L hL),h.aM]
theorem Up.gY (h:Up m n) (i:Nat) (hi:i<n) (L:List Int) (hL:L.length≤1024):gY m (i:Int) L=put m i L:=by
 unfold Dk.gY;rw [h.down,if_neg (by decide),if_neg (by rw [h.fault i hi L hL];decide),h.gone,if_neg (by decide),h.aK]
 rfl
theorem Up.put (h:Up m n) (i:Nat) (L:List Int):Up (put m i L) n:=⟨h.n,h.left,h.down⟩
theorem ya {f:Nat→Bool} {j:Nat} (h:m.ca j=none):(cY m f).ca j=none∧(cY m f).ls j=m.ls j:=by
 have h1:=jE m f j (dl m).length (fun q hq e=>by
  have:=((mN m j).1 (List.mem_of_getElem? e)).2;rw [h] at this;cases this)
 exact ⟨h1.1.trans h,h1.2⟩
theorem abE {f:Nat→Bool} {j q:Nat} (h:(dl m)[q]?=some j):(cY m f).ca j=none∧(cY m f).ls j=if f q then (m.ca j).getD [] else m.ls j:=ze m f h _ (List.getElem?_eq_some_iff.1 h).1
theorem uf {f:Nat→Bool} (ok:∀ i,m.n≤i→m.ca i=none) (j:Nat):(cY m f).ca j=none:=by
 cases h:m.ca j with
 | none=>exact (ya h).1
 | some L =>
  have hj:j<m.n:=by
   by_cases q:j<m.n
   ·exact q
   ·rw [ok j (by omega)] at h;cases h
  obtain ⟨q,hq⟩:=List.getElem?_of_mem ((mN m j).2 ⟨hj,by rw [h];rfl⟩);exact (abE hq).1
theorem rW (m:M) (f:Nat→Bool):(cY m f).rd=m.rd∧(cY m f).wr=m.wr:=⟨(nR m f _).2.1,(nR m f _).2.2⟩
end
end Dk
theorem aJ.acA {y:World} {T:Nat→Prop} {d lb rb cb:Nat} {m:Dk.M} (h:aJ y T d lb rb cb m) (k:Nat):(Dk.cG m k).length≤1024:=by
 unfold Dk.cG;cases hc:m.ca k with
 | none=>exact h.ok.lsb k
 | some L=>exact h.ok.cab k L hc
theorem IAt.av {w y:World} {p:Option Addr} {L:List Int} (h:IAt w p L) (hb:qw w y):IAt y p L:=fun h0=>by
 obtain ⟨ab,ao,h1,h2⟩:=h h0;exact ⟨ab,ao,h1,fun j hj=>(hb.cell (World.block_lt_of_cell? _ _ (h2 j hj))).trans (h2 j hj)⟩
end
end Go.Proofs.YthgjfjmampmiiaaGreatDoor

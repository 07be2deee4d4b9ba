/-
  DkN, DkO, DkQ, DkR (merged)
-/
import Derived.Test.YtnnalemboeccbaaGreatDoorB8
import Derived.Test.YtnnalemboeccbaaGreatDoorDk2
import Derived.Carry
import Derived.Test.YtnnalemboeccbaaGreatDoorPa2
namespace Go.Proofs.YtnnalemboeccbaaGreatDoor

/-! DkN:  -/
section
open Go.RowKit Go.MapKept Go.ChangeMaps
namespace Dk
def fresh (n:Nat):M:=⟨n,fun _=>[],fun _=>none,fun _=>0,0,-1,false⟩
def may (n:Int):Bool:=decide (1≤n)&&decide (n≤4096)
end Dk
theorem make_run (t e:TypeId) (z:Value) (bytes n:Nat) (hu:Tryz.prog.underlying t=some (.slice e)) (hi:(Tryz.prog.info? e).map (fun i=>(i.zero,i.size,i.bytes))=some (some z,1,bytes)) (hz:z.cells = #[z]) (hb:bytes*n≤281474976710656) (hn:n≤9223372036854775807) (w:World) :
  (Instr.makeSlice t (.int .i64 (n:Int)) (.int .i64 (n:Int))).run Tryz.prog w = .ok (.slice (some ⟨w.heap.size,0,none⟩) n n) (w.alloc (.cells (Array.replicate n z) e)):=by
 obtain ⟨i,hi1,hi2,hi3,hi4⟩:=info_parts hi
 have hrun:=run_make (P:=Tryz.prog) w t e i z hu hi1 hi2 .i64 .i64 n n (by omega) (by omega) (by rw [hi4];omega) (by omega)
 rw [hi3,hz,Nat.mul_one] at hrun
 have hl:(madeCells #[z] n).toList=List.replicate n z:=toList_madeCells_one z n
 have e2:madeCells #[z] n=(List.replicate n z).toArray:=by rw [← hl,Array.toArray_toList]
 have e3:((n:Int)).toNat=n:=by omega
 rw [e3,e2,List.toArray_replicate] at hrun
 exact hrun
theorem al4 (x:World) (A B C D:Obj):((((x.alloc A).alloc B).alloc C).alloc D).heap[x.heap.size]?=some A∧((((x.alloc A).alloc B).alloc C).alloc D).heap[x.heap.size+1]?=some B∧((((x.alloc A).alloc B).alloc C).alloc D).heap[x.heap.size+1+1]?=some C∧((((x.alloc A).alloc B).alloc C).alloc D).heap[x.heap.size+1+1+1]?=some D:=by
 have h:((((x.alloc A).alloc B).alloc C).alloc D).heap=(((x.heap.push A).push B).push C).push D:=rfl
 rw [h]
 simp only [Array.getElem?_push,Array.size_push]
 refine ⟨?_,?_,?_,?_⟩
 ·rw [if_neg (by omega),if_neg (by omega),if_neg (by omega),if_pos trivial]
 ·rw [if_neg (by omega),if_neg (by omega),if_pos trivial]
 ·rw [if_neg (by omega),if_pos trivial]
 ·rw [if_pos trivial]
theorem below4D (w:World) (A B C D:Obj):Below w.heap.size w ((((w.alloc A).alloc B).alloc C).alloc D).drew:=(((((Below.refl _ w).alloc (Nat.le_refl _) _).alloc (by simp) _).alloc (by simp;omega) _).alloc (by simp;omega) _).drew
def DRow (lb cb rb n:Nat):Obj:=.cells #[.slice (some ⟨lb,0,none⟩) n n,.map (some cb),.slice (some ⟨rb,0,none⟩) n n,.int .i64 0,.int .i64 (-1),.bool false] 91
def Lasts0 (n:Nat):Obj:=.cells (Array.replicate n (Value.slice none 0 0)) 22
def Reads0 (n:Nat):Obj:=.cells (Array.replicate n (Value.int .i64 0)) 3
theorem fresh_at {y:World} {B d lb rb cb n:Nat} (hn:1≤n∧n≤4096) (h1:y.heap[lb]?=some (Lasts0 n)) (h2:y.heap[cb]?=some (.map #[] 0)) (h3:y.heap[rb]?=some (Reads0 n)) (h4:y.heap[d]?=some (DRow lb cb rb n)) (hB:B≤d∧B≤lb∧B≤rb∧B≤cb) :
  DkAt y (fun g=>B≤g∧g<y.heap.size) d lb rb cb (Dk.fresh n):=by
 refine ⟨⟨⟨hB.1,lt_of_block h4⟩,⟨hB.2.1,lt_of_block h1⟩,⟨hB.2.2.1,lt_of_block h3⟩,⟨hB.2.2.2,lt_of_block h2⟩⟩,fun g h=>h.2,h4,⟨_,h1,by simp [Dk.fresh],fun i hi=>⟨.slice none 0 0,?_,sec_nil _ _⟩⟩,⟨fun _=>none,⟨.map [],⟨#[],0,h2,⟨by simp,stamped_empty 0,by simp⟩,Nat.zero_le _,rfl⟩,fun i=>by simp [Maps.has],fun j v h=>by cases h⟩,fun i=>⟨fun _=>rfl,fun L hL=>by cases hL⟩⟩,?_,⟨hn.1,hn.2,fun i _=>rfl,by unfold In64 Dk.fresh;dsimp only;omega,fun i=>by simp [Dk.fresh],fun i L hL=>by cases hL⟩⟩
 ·have hi':i<n:=hi
  simp [hi']
 ·rw [h3]
  unfold Reads0 Dk.fresh
  congr 2
  apply Array.ext
  ·simp
  ·intro j _ _;simp
def NewSayD (n:Int) (w:World) (e:Ending) (w':World):Prop :=
 if Dk.may n then ∃ d lb rb cb,e = .returned (.tuple #[.pointer (some ⟨d,0,none⟩),.int .i64 0])∧Hid (DkAt w' (fun g=>w.heap.size≤g∧g<w'.heap.size) d lb rb cb (Dk.fresh n.toNat))∧Below w.heap.size w w'
 else e = .returned (.tuple #[.pointer none,.int .i64 7])∧w'=w
set_option maxHeartbeats 2000000 in
set_option maxRecDepth 100000 in
theorem new_no (n:Int) (h:Dk.may n=false) (w:World):Calls Tryz.prog 8 #[.int .i64 n] w (NewSayD n w):=by
 by_cases h1:1≤n
 ·have h2:4096<n:=by
   unfold Dk.may at h
   simp [h1] at h
   exact h
  go_enter Tryz.func8,Tryz.ntmps8
  go_wp2
  go_ret2
  unfold NewSayD
  rw [h,if_neg (by decide)]
  exact ⟨rfl,rfl⟩
 ·have h2:n<1:=by omega
  go_enter Tryz.func8,Tryz.ntmps8
  go_wp2
  go_ret2
  unfold NewSayD
  rw [h,if_neg (by decide)]
  exact ⟨rfl,rfl⟩
set_option maxHeartbeats 2000000 in
set_option maxRecDepth 100000 in
theorem new_yes (n:Nat) (h1:1≤n) (h2:n≤4096) (w:World):Calls Tryz.prog 8 #[.int .i64 (n:Int)] w (NewSayD n w):=by
 have hm:Dk.may n=true:=by unfold Dk.may;simp;omega
 have hl1:(1:Int)≤(n:Int):=by omega
 have hl2:(n:Int)≤4096:=by omega
 have m1:=make_run 88 22 (.slice none 0 0) 24 n Tryz.underlying88 Tryz.info_row rfl (by omega) (by omega)
 have m2:=make_run 46 3 (.int .i64 0) 8 n Tryz.underlying46 Tryz.info_int rfl (by omega) (by omega)
 have hmm:=@run_makeMap Tryz.prog
 go_enter Tryz.func8,Tryz.ntmps8
 go_upto_region 3 with (fail)
 go_region_held3 (fun _=>True)
  (trivial)
  (fail)
 all_goals (
  go_wp2
  go_ret2
  unfold NewSayD
  rw [hm,if_pos rfl,Int.toNat_natCast]
  refine ⟨_,_,_,_,rfl,Lib.hid (fresh_at ⟨h1,h2⟩ ?_ ?_ ?_ (al4 w _ _ _ _).2.2.2 ?_),below4D w _ _ _ _⟩
  ·first | exact (al4 w _ _ _ _).1 | exact (al4 w _ _ _ _).2.1 | exact (al4 w _ _ _ _).2.2.1
  ·first | exact (al4 w _ _ _ _).1 | exact (al4 w _ _ _ _).2.1 | exact (al4 w _ _ _ _).2.2.1
  ·first | exact (al4 w _ _ _ _).1 | exact (al4 w _ _ _ _).2.1 | exact (al4 w _ _ _ _).2.2.1
  ·omega)
theorem disk_new (n:Int) (w:World):Calls Tryz.prog 8 #[.int .i64 n] w (NewSayD n w):=by
 cases h:Dk.may n with
 | false=>exact new_no n h w
 | true =>
  have h':=h
  unfold Dk.may at h'
  simp only [Bool.and_eq_true,decide_eq_true_eq] at h'
  obtain ⟨k,rfl⟩:∃ k:Nat,n=(k:Int):=⟨n.toNat,by omega⟩
  exact new_yes k (by omega) (by omega) w
end

/-! DkO:  -/
section
open Go.RowKit
theorem new4 (n:Nat) (h1:1≤n) (h2:n≤4096) (w:World):Calls Tryz.prog 8 #[.int .i64 (n:Int)] w fun e w'=>∃ d lb rb cb,e = .returned (.tuple #[.pointer (some ⟨d,0,none⟩),.int .i64 0])∧Hid (DkAt w' (fun g=>w.heap.size≤g∧g<w'.heap.size) d lb rb cb (Dk.fresh n))∧Below w.heap.size w w':=by
 refine (disk_new (n:Int) w).mono ?_
 intro e w' h
 unfold NewSayD at h
 rw [if_pos (by unfold Dk.may;simp;omega),Int.toNat_natCast] at h
 exact h
end

/-! DkQ:  -/
section
open Go.RowKit
namespace Dk
theorem wrE_eq {m:M} {i:Int} {L:List Int} (h:fault m i L=0):wrE m i L=spendE m:=by
 unfold wrE
 cases hd:m.down with
 | true=>rw [if_pos rfl];unfold spendE gone;rw [hd];rfl
 | false=>rw [if_neg (by decide),if_neg (by rw [h];decide)]
end Dk
end

/-! DkR:  -/
section
open Go.RowKit
namespace Dk
structure Up (m:M) (n:Nat):Prop where
 n:m.n=n
 left:m.left = -1
 down:m.down=false
section
variable {m m':M} {n:Nat}
theorem Up.gone (h:Up m n):gone m=false:=by unfold Dk.gone;rw [h.left,h.down];rfl
theorem Up.spend (h:Up m n):spend m=m:=by unfold Dk.spend;rw [h.gone,if_neg (by decide),h.left,if_neg (by decide),← h.left]
theorem Up.spendE (h:Up m n):spendE m=0:=by unfold Dk.spendE;rw [h.gone];rfl
theorem Up.fresh (n:Nat):Up (Dk.fresh n) n:=⟨rfl,rfl,rfl⟩
theorem Up.fault (h:Up m n) (i:Nat) (hi:i<n) (L:List Int) (hL:L.length≤1024):fault m (i:Int) L=0:=by
 unfold Dk.fault here
 rw [h.n,decide_eq_true (show (0:Int)≤(i:Int) by omega),decide_eq_true (show (i:Int)<(n:Int) by omega),if_neg (by decide),if_neg (by omega)]
def put (m:M) (i:Nat) (L:List Int):M:={ m with ca:=upd m.ca i (some L),wr:=m.wr+1 }
theorem Up.wrE (h:Up m n) (i:Nat) (hi:i<n) (L:List Int) (hL:L.length≤1024):wrE m (i:Int) L=0:=by rw [wrE_eq (h.fault i hi L hL),h.spendE]
theorem Up.wrM (h:Up m n) (i:Nat) (hi:i<n) (L:List Int) (hL:L.length≤1024):wrM m (i:Int) L=put m i L:=by
 unfold Dk.wrM
 rw [h.down,if_neg (by decide),if_neg (by rw [h.fault i hi L hL];decide),h.gone,if_neg (by decide),h.spend]
 rfl
theorem Up.put (h:Up m n) (i:Nat) (L:List Int):Up (put m i L) n:=⟨h.n,h.left,h.down⟩
theorem Up.here (h:Up m n) (i:Nat):here m (i:Int)=decide (i<n):=by
 unfold Dk.here
 rw [h.n,decide_eq_true (show (0:Int)≤(i:Int) by omega),Bool.true_and]
 by_cases q:i<n
 ·rw [decide_eq_true q,decide_eq_true (by omega)]
 ·rw [decide_eq_false q,decide_eq_false (by omega)]
theorem Up.rd (h:Up m n) (i:Nat) (hi:i<n):rdE m (i:Int)=0∧rdX m (i:Int)=peek m i∧rdM m (i:Int) = { m with rd:=upd m.rd i (m.rd i+1) }:=by
 unfold rdE rdX rdM
 rw [h.here,decide_eq_true hi]
 exact ⟨rfl,rfl,rfl⟩
end
end Dk
theorem DkAt.peek_le {y:World} {T:Nat→Prop} {d lb rb cb:Nat} {m:Dk.M} (h:DkAt y T d lb rb cb m) (k:Nat):(Dk.peek m k).length≤1024:=by
 unfold Dk.peek
 cases hc:m.ca k with
 | none=>exact h.ok.lsb k
 | some L=>exact h.ok.cab k L hc
end
end Go.Proofs.YtnnalemboeccbaaGreatDoor

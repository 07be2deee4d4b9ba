/-
  SpZ6, SpZ7, SpZ9 (merged)
-/
import Derived.Test.YtnnalemboeccbaaGreatDoorSp4
import Derived.Test.YtnnalemboeccbaaGreatDoorDk2
import Derived.Test.YtnnalemboeccbaaGreatDoorDk5
namespace Go.Proofs.YtnnalemboeccbaaGreatDoor

/-! SpZ6:  -/
section
open Go.RowKit
structure SpW (w:World) (K:List Int) (d lb rb cb r qb gs gr B:Nat) (T U:Nat→Prop) (m n:Dk.M) (y:World):Prop where
 bel:Below w.heap.size w y
 dk:DkAt y T d lb rb cb m
 rf:RfAt y U r qb n
 dj:∀ k,T k→U k→False
 lo:(∀ k,T k→w.heap.size≤k)∧∀ k,U k→w.heap.size≤k
 bx:BoxAt y gs K
 cr:CrAt B y gr K
 lt:(d<B∧lb<B∧rb<B∧cb<B)∧r<B∧qb<B
 ts:Tab w 1
 tk:Tab w 0
 bs:B≤y.heap.size
def Sp4 (w:World) (K:List Int) (d lb rb cb r qb gs gr B:Nat) (m n:Dk.M) (y:World):Prop:=∃ T U,SpW w K d lb rb cb r qb gs gr B T U m n y
section
variable {w y z:World} {K:List Int} {d lb rb cb r qb gs gr B:Nat} {T U:Nat→Prop} {m n m' n':Dk.M}
theorem CrAt.same (h:CrAt B y gr K) (hk:∀ k,B≤k→k<y.heap.size→z.heap[k]?=y.heap[k]?):CrAt B z gr K:=by
 obtain ⟨gb,h0,h1,h2⟩:=h
 exact ⟨gb,h0,(hk _ h0 (lt_of_block h1)).trans h1,h2.same hk⟩
theorem SpW.ts' (h:SpW w K d lb rb cb r qb gs gr B T U m n y):Tab y 1:=h.ts.below h.bel h.ts.lt
theorem SpW.tk' (h:SpW w K d lb rb cb r qb gs gr B T U m n y):Tab y 0:=h.tk.below h.bel h.tk.lt
theorem SpW.ofK (h:SpW w K d lb rb cb r qb gs gr B T U m n y):0 ∉ [r,qb]:=fun hin=>by
 have h1:=h.tk.lt
 simp only [List.mem_cons,List.not_mem_nil,or_false] at hin
 rcases hin with q | q
 ·have:=h.lo.2 _ h.rf.lt.1;omega
 ·have:=h.lo.2 _ h.rf.lt.2;omega
theorem RfAt.off (h:RfAt y U r qb n) {k:Nat} {cur:Array Value} {e:TypeId} (hk:y.heap[k]?=some (.cells cur e (0,0))) (h1:e ≠ 76) (h3:e ≠ 3):k∉[r,qb]:=by
 obtain ⟨vl,vc,G,h⟩:=h
 intro hin
 simp only [List.mem_cons,List.not_mem_nil,or_false] at hin
 rcases hin with rfl | rfl
 ·have q:=h.row
  rw [q] at hk
  injection hk with hk
  injection hk with _ hk _
  exact h1 hk.symm
 ·have q:=h.cnt
  rw [q] at hk
  injection hk with hk
  injection hk with _ hk _
  exact h3 hk.symm
theorem SpW.mvd (h:SpW w K d lb rb cb r qb gs gr B T U m n y) (hm:Mv [d,lb,rb,cb] y z) (hd:DkAt z (Own T y z) d lb rb cb m'):SpW w K d lb rb cb r qb gs gr B (Own T y z) U m' n z:=by
 have hT:∀ k∈[d,lb,rb,cb],T k:=fun k hk=>by
  simp only [List.mem_cons,List.not_mem_nil,or_false] at hk
  rcases hk with rfl | rfl | rfl | rfl
  ·exact h.dk.lt.1
  ·exact h.dk.lt.2.1
  ·exact h.dk.lt.2.2.1
  ·exact h.dk.lt.2.2.2
 refine ⟨hm.below h.bel (fun k hk=>h.lo.1 k (hT k hk)) h.bel.size,hd,h.rf.mv hm (fun k hk hu=>h.dj k (hT k hk) hu),?_,⟨?_,h.lo.2⟩,?_,?_,h.lt,h.ts,h.tk,Nat.le_trans h.bs hm.size⟩
 ·rintro k (h1 | h1) h2
  ·exact h.dj k h1 h2
  ·have:=h.rf.top k h2;omega
 ·rintro k (h1 | h1)
  ·exact h.lo.1 k h1
  ·have:=h.bel.size;omega
 ·exact box_qd h.bx h.dk ((Qd.refl y _).mv hm)
 ·exact h.cr.same fun k h1 h2=>hm.block k h2 (fun hin=>by
   have:=h.lt.1
   simp only [List.mem_cons,List.not_mem_nil,or_false] at hin
   omega)
theorem SpW.mvr (h:SpW w K d lb rb cb r qb gs gr B T U m n y) (hm:Mv [r,qb] y z) (hd:RfAt z (Own U y z) r qb n'):SpW w K d lb rb cb r qb gs gr B T (Own U y z) m n' z:=by
 have hT:∀ k∈[r,qb],U k:=fun k hk=>by
  simp only [List.mem_cons,List.not_mem_nil,or_false] at hk
  rcases hk with rfl | rfl
  ·exact h.rf.lt.1
  ·exact h.rf.lt.2
 refine ⟨hm.below h.bel (fun k hk=>h.lo.2 k (hT k hk)) h.bel.size,h.dk.mv hm (fun k hk hu=>h.dj k hu (hT k hk)),hd,?_,⟨h.lo.1,?_⟩,?_,?_,h.lt,h.ts,h.tk,Nat.le_trans h.bs hm.size⟩
 ·rintro k h2 (h1 | h1)
  ·exact h.dj k h2 h1
  ·have:=h.dk.top k h2;omega
 ·rintro k (h1 | h1)
  ·exact h.lo.2 k h1
  ·have:=h.bel.size;omega
 ·exact h.bx.same fun k cur e he hk=>hm.block k (lt_of_block hk) (h.rf.off hk (by rcases he with rfl | rfl | rfl<;>decide) (by rcases he with rfl | rfl | rfl<;>decide))
 ·exact h.cr.same fun k h1 h2=>hm.block k h2 (fun hin=>by
   have:=h.lt.2
   simp only [List.mem_cons,List.not_mem_nil,or_false] at hin
   omega)
theorem Sp4.old (h:Sp4 w K d lb rb cb r qb gs gr B m n y) (hb:Below y.heap.size y z):Sp4 w K d lb rb cb r qb gs gr B m n z:=by
 obtain ⟨T,U,h⟩:=h
 exact ⟨T,U,h.bel.trans (hb.mono h.bel.size),h.dk.old hb,h.rf.old hb,h.dj,h.lo,h.bx.old hb,h.cr.old hb,h.lt,h.ts,h.tk,Nat.le_trans h.bs hb.size⟩
theorem Sp4.big (h:Sp4 w K d lb rb cb r qb gs gr B m n y):B≤y.heap.size:=by obtain ⟨_,_,h⟩:=h;exact h.bs
theorem SpW.ofd (h:SpW w K d lb rb cb r qb gs gr B T U m n y):∀ k∈[d,lb,rb,cb],k<B:=fun k hk=>by
 have:=h.lt.1
 simp only [List.mem_cons,List.not_mem_nil,or_false] at hk
 omega
theorem SpW.ofr (h:SpW w K d lb rb cb r qb gs gr B T U m n y):∀ k∈[r,qb],k<B:=fun k hk=>by
 have:=h.lt.2
 simp only [List.mem_cons,List.not_mem_nil,or_false] at hk
 omega
def C4 (B:Nat) (y:World) (F:World→Prop) (v:Value) (e:Ending) (z:World):Prop:=e = .returned v∧Hid (F z)∧Hid (Kp B y z)
theorem c_write (hTS:TakeSaid) (gg:Sp.G) (e:Int) (hwr:m.wr≤1000000000) (h:Sp4 w K d lb rb cb r qb gs gr B m n y) :
  Calls Tryz.prog 33 #[.pointer (some ⟨d,0,none⟩),.iface 33 (.pointer (some ⟨gs,0,none⟩)),.int .i64 e,GV gg] y (C4 B y (Sp4 w K d lb rb cb r qb gs gr B (Sp.bM m K gg e) n) (.tuple #[A32 (Sp.bV m K gg e),.int .i64 (Sp.bE m K gg e)])):=by
 obtain ⟨T,U,h⟩:=h
 refine (bx_write hTS gg e h.dk h.bx h.ts' hwr).mono ?_
 rintro x z ⟨h1,h2,h3,_⟩
 exact ⟨h1,Lib.hid ⟨_,_,h.mvd h3.out h2.out⟩,Kp.of_mv h3.out h.ofd⟩
theorem f_write (gg:Sp.G) (e:Int) (hwr:n.wr≤1000000000) (h:Sp4 w K d lb rb cb r qb gs gr B m n y) :
  Calls Tryz.prog 34 #[.pointer (some ⟨r,0,none⟩),.pointer (some ⟨gr,0,none⟩),.int .i64 e,GV gg] y (C4 B y (Sp4 w K d lb rb cb r qb gs gr B m (Sp.bM n K gg e)) (.tuple #[A32 (Sp.bV n K gg e),.int .i64 (Sp.bE n K gg e)])):=by
 obtain ⟨T,U,h⟩:=h
 refine (rx_write gg e h.rf h.cr h.lt.2 h.ofK h.tk' hwr).mono ?_
 rintro x z ⟨h1,h2,h3,_⟩
 exact ⟨h1,Lib.hid ⟨_,_,h.mvr h3.out h2.out⟩,Kp.of_mv h3.out h.ofr⟩
theorem c_read (hTS:TakeSaid) (hrd:∀ j,m.rd j≤1000000000) (hL:(Dk.rdX m 0).length≤100000) (hgl:(Sc.gt (Seal.op K) 1 0 (Dk.rdX m 0)).2.L.length≤900000) (h:Sp4 w K d lb rb cb r qb gs gr B m n y) :
  Calls Tryz.prog 37 #[.pointer (some ⟨d,0,none⟩),.iface 33 (.pointer (some ⟨gs,0,none⟩))] y (C4 B y (Sp4 w K d lb rb cb r qb gs gr B (Dk.rdM m 0) n) (.tuple #[GV (Sp.bR K (Dk.rdX m 0)).1,A32 (Sp.bR K (Dk.rdX m 0)).2.1,.int .i64 (Sp.bR K (Dk.rdX m 0)).2.2])):=by
 obtain ⟨T,U,h⟩:=h
 refine (bx_read hTS h.dk h.bx h.ts' hrd hL hgl).mono ?_
 rintro x z ⟨h1,h2,h3,_⟩
 exact ⟨h1,Lib.hid ⟨_,_,h.mvd h3.out h2.out⟩,Kp.of_mv h3.out h.ofd⟩
theorem f_read (hrd:∀ j,n.rd j≤1000000000) (hL:(Dk.rdX n 0).length≤100000) (hgl:(Sc.gt (Seal.op K) 1 0 (Dk.rdX n 0)).2.L.length≤900000) (h:Sp4 w K d lb rb cb r qb gs gr B m n y) :
  Calls Tryz.prog 38 #[.pointer (some ⟨r,0,none⟩),.pointer (some ⟨gr,0,none⟩)] y (C4 B y (Sp4 w K d lb rb cb r qb gs gr B m (Dk.rdM n 0)) (.tuple #[GV (Sp.bR K (Dk.rdX n 0)).1,A32 (Sp.bR K (Dk.rdX n 0)).2.1,.int .i64 (Sp.bR K (Dk.rdX n 0)).2.2])):=by
 obtain ⟨T,U,h⟩:=h
 refine (rx_read h.rf h.cr h.lt.2 h.ofK h.tk' hrd hL hgl).mono ?_
 rintro x z ⟨h1,h2,h3,_⟩
 exact ⟨h1,Lib.hid ⟨_,_,h.mvr h3.out h2.out⟩,Kp.of_mv h3.out h.ofr⟩
theorem c_tamper (L:List Int) (p:Option Addr) (k c:Nat) (hn:L.length=k) (hnb:k≤1000000) (hb:Bs y p c L) (h:Sp4 w K d lb rb cb r qb gs gr B m n y) :
  Calls Tryz.prog 39 #[.pointer (some ⟨d,0,none⟩),.int .i64 0,.slice p k c] y (C4 B y (Sp4 w K d lb rb cb r qb gs gr B (Dk.tpM m 0 L) n) (.int .i64 (Dk.fault m 0 L))):=by
 obtain ⟨T,U,h⟩:=h
 refine (tamper_any 0 L p k c hn hnb y h.dk hb).mono ?_
 rintro x z ⟨h1,h2,h3⟩
 exact ⟨h1,Lib.hid ⟨_,_,h.mvd h3.out h2.out⟩,Kp.of_mv h3.out h.ofd⟩
theorem f_tamper (L:List Int) (p:Option Addr) (k c:Nat) (hn:L.length=k) (hnb:k≤1000000) (hb:Bs y p c L) (h:Sp4 w K d lb rb cb r qb gs gr B m n y) :
  Calls Tryz.prog 40 #[.pointer (some ⟨r,0,none⟩),.int .i64 0,.slice p k c] y (C4 B y (Sp4 w K d lb rb cb r qb gs gr B m (Dk.tpM n 0 L)) (.int .i64 (Dk.fault n 0 L))):=by
 obtain ⟨T,U,h⟩:=h
 obtain ⟨vl,vc,G,hz⟩:=h.rf
 refine (reftamper_c 0 L p k c hn hnb y hz hb).mono ?_
 rintro x z ⟨h1,h2,h3⟩
 exact ⟨h1,Lib.hid ⟨_,_,h.mvr h3.out h2.out⟩,Kp.of_mv h3.out h.ofr⟩
end
end

/-! SpZ7:  -/
section
open Go.RowKit
theorem Seal.op_le {K:List Int} {e n:Int} {h S R:List Int} (q:Seal.op K e n h S=some R):R.length≤S.length:=by
 unfold Seal.op at q
 split at q
 ·injection q with q
  rw [← q,Seal.ct_len,List.length_take]
  omega
 ·cases q
theorem sgt_le (K:List Int) (k a:Int) (b:List Int):(Sc.gt (Seal.op K) k a b).2.L.length≤b.length:=by
 unfold Sc.gt
 split
 ·cases hq:Seal.op K (Sc.ep (b.take 17)) (Sc.nu (b.take 17)) (Sc.mk k a) (b.drop 17) with
  | none=>exact Nat.zero_le _
  | some R =>
   have h:=Seal.op_le hq
   rw [List.length_drop] at h
   show R.length≤_
   omega
 ·exact Nat.zero_le _
theorem Sp.bV_len (m:Dk.M) (K:List Int) (gg:Sp.G) (e:Int):(Sp.bV m K gg e).length=32:=by
 unfold Sp.bV
 split
 ·exact dg_len _
 ·exact z32_len
theorem spend_rest (m:Dk.M):(Dk.spend m).wr=m.wr∧(Dk.spend m).rd=m.rd:=by unfold Dk.spend;split<;>exact ⟨rfl,rfl⟩
theorem wrM_same (m:Dk.M) (i:Int) (L:List Int):(Dk.wrM m i L).n=m.n∧(Dk.wrM m i L).wr≤m.wr+1∧(Dk.wrM m i L).rd=m.rd:=by
 obtain ⟨q1,q2⟩:=spend_rest m
 unfold Dk.wrM
 split
 ·exact ⟨rfl,by omega,rfl⟩
 ·split
  ·exact ⟨rfl,by omega,rfl⟩
  ·split
   ·exact ⟨Dk.spend_n m,by omega,q2⟩
   ·exact ⟨Dk.spend_n m,Nat.le_refl _,q2⟩
theorem Sp.bM_same (m:Dk.M) (K:List Int) (gg:Sp.G) (e:Int):(Sp.bM m K gg e).n=m.n∧(Sp.bM m K gg e).wr≤m.wr+1∧(Sp.bM m K gg e).rd=m.rd:=by
 unfold Sp.bM
 split
 ·split
  ·exact wrM_same _ _ _
  ·exact ⟨rfl,by omega,rfl⟩
 ·exact ⟨rfl,by omega,rfl⟩
theorem refnew5 (w:World):Calls Tryz.prog 9 #[.int .i64 5] w fun e w'=>∃ r qb,e = .returned (.tuple #[.pointer (some ⟨r,0,none⟩),.int .i64 0])∧Hid (RfAt w' (fun g=>w.heap.size≤g∧g<w'.heap.size) r qb (Dk.fresh 5))∧Hid (Below w.heap.size w w'):=by
 refine (refnew_yes 5 (by omega) (by omega) w).mono ?_
 intro e z h
 unfold RfNewD at h
 rw [if_pos (by decide)] at h
 obtain ⟨r,qb,h1,h2,h3⟩:=h
 exact ⟨r,qb,h1,h2,h3⟩
section
variable {w y z:World} {K:List Int} {d lb rb cb r qb gs gr B:Nat} {T U:Nat→Prop} {m n m' n':Dk.M}
theorem sp4_make {w0 w1 w2 w3 w4:World} (h0:Below w.heap.size w w0) (hd:DkAt w1 (fun g=>w0.heap.size≤g∧g<w1.heap.size) d lb rb cb m) (b1:Below w0.heap.size w0 w1)
  (hr:RfAt w2 (fun g=>w1.heap.size≤g∧g<w2.heap.size) r qb n) (b2:Below w1.heap.size w1 w2) (hx:BoxAt w3 gs K) (b3:Below w2.heap.size w2 w3) (hc:CrAt w3.heap.size w4 gr K) (b4:Below w3.heap.size w3 w4)
  (ts:Tab w 1) (tk:Tab w 0):Sp4 w K d lb rb cb r qb gs gr w3.heap.size m n w4:=by
 have s0:=h0.size
 have s1:=b1.size
 have s2:=b2.size
 have s3:=b3.size
 have l1:=hd.top _ hd.lt.1
 have l2:=hd.top _ hd.lt.2.1
 have l3:=hd.top _ hd.lt.2.2.1
 have l4:=hd.top _ hd.lt.2.2.2
 have l5:=hr.top _ hr.lt.1
 have l6:=hr.top _ hr.lt.2
 refine ⟨_,_,(((h0.trans (b1.mono s0)).trans (b2.mono (by omega))).trans (b3.mono (by omega))).trans (b4.mono (by omega)),((hd.old b2).old b3).old b4,(hr.old b3).old b4,fun k h1 h2=>by omega,⟨fun k h1=>by omega,fun k h1=>by omega⟩,hx.old b4,hc,⟨⟨by omega,by omega,by omega,by omega⟩,by omega,by omega⟩,ts,tk,b4.size⟩
theorem Sp4.low (h:Sp4 w K d lb rb cb r qb gs gr B m n y):Below w.heap.size w y:=by obtain ⟨_,_,h⟩:=h;exact h.bel
theorem Sp4.rdX_le (h:Sp4 w K d lb rb cb r qb gs gr B m n y):(Dk.rdX m 0).length≤1024:=by
 obtain ⟨_,_,h⟩:=h
 unfold Dk.rdX
 split
 ·exact h.dk.peek_le _
 ·exact Nat.zero_le _
theorem Sp4.cells (h:Sp4 w K d lb rb cb r qb gs gr B m n y):y.cell? ⟨r,2,none⟩=some (.int .i64 (n.wr:Int))∧y.cell? ⟨r,3,none⟩=some (.bool n.down):=by
 obtain ⟨_,_,h⟩:=h
 obtain ⟨vl,vc,G,h⟩:=h.rf
 obtain ⟨_,_,c2,c3,_⟩:=h.cells
 exact ⟨c2,c3⟩
theorem c_arm (k:Int) (hk:In64 k) (h:Sp4 w K d lb rb cb r qb gs gr B m n y):Calls Tryz.prog 31 #[.pointer (some ⟨d,0,none⟩),.int .i64 k] y (C4 B y (Sp4 w K d lb rb cb r qb gs gr B { m with left:=k } n) (.tuple #[])):=by
 obtain ⟨T,U,h⟩:=h
 refine (arm_any k hk y h.dk).mono ?_
 rintro x z ⟨h1,h2,h3⟩
 have h4:=h3.more (js:=[d,lb,rb,cb]) (fun k hk=>by simp only [List.mem_singleton] at hk;subst hk;simp)
 exact ⟨h1,Lib.hid ⟨_,_,h.mvd h4 h2.out.own⟩,Kp.of_mv h4 h.ofd⟩
theorem f_arm (k:Int) (hk:In64 k) (h:Sp4 w K d lb rb cb r qb gs gr B m n y):Calls Tryz.prog 32 #[.pointer (some ⟨r,0,none⟩),.int .i64 k] y (C4 B y (Sp4 w K d lb rb cb r qb gs gr B m { n with left:=k }) (.tuple #[])):=by
 obtain ⟨T,U,h⟩:=h
 refine (refarm_any k hk y h.rf).mono ?_
 rintro x z ⟨h1,h2,h3⟩
 have h4:=h3.out.more (js:=[r,qb]) (fun k hk=>by simp only [List.mem_singleton] at hk;subst hk;simp)
 exact ⟨h1,Lib.hid ⟨_,_,h.mvr h4 (h2.out.own _)⟩,Kp.of_mv h4 h.ofr⟩
theorem c_down (h:Sp4 w K d lb rb cb r qb gs gr B m n y):Calls Tryz.prog 35 #[.pointer (some ⟨d,0,none⟩)] y fun e w'=>e = .returned (.bool m.down)∧w'=y:=by
 obtain ⟨_,_,h⟩:=h
 exact down_any y h.dk
theorem c_writes (h:Sp4 w K d lb rb cb r qb gs gr B m n y):Calls Tryz.prog 36 #[.pointer (some ⟨d,0,none⟩)] y fun e w'=>e = .returned (.int .i64 (m.wr:Nat))∧w'=y:=by
 obtain ⟨_,_,h⟩:=h
 exact writes_any y h.dk
theorem c_rd (hrd:∀ j,m.rd j≤1000000000) (h:Sp4 w K d lb rb cb r qb gs gr B m n y):Calls Tryz.prog 17 #[.pointer (some ⟨d,0,none⟩),.int .i64 0] y fun e z=>∃ p c,e = .returned (.tuple #[.slice p (Dk.rdX m 0).length c,.int .i64 (Dk.rdE m 0)])∧Hid (Bs z p c (Dk.rdX m 0))∧Hid (Sp4 w K d lb rb cb r qb gs gr B (Dk.rdM m 0) n z)∧Hid (Kp B y z):=by
 obtain ⟨T,U,h⟩:=h
 refine (read_anyD 0 y h.dk hrd).mono ?_
 rintro x z ⟨v,h1,h2,h3,h4⟩
 obtain ⟨p,c,rfl,hb,_⟩:=own_bs h2.out.1 h2.out.2
 exact ⟨p,c,h1,hb,Lib.hid ⟨_,_,h.mvd h4.out h3.out.own⟩,Kp.of_mv h4.out h.ofd⟩
theorem f_peek (hn:0<n.n) (h:Sp4 w K d lb rb cb r qb gs gr B m n y):Calls Tryz.prog 19 #[.pointer (some ⟨r,0,none⟩),.int .i64 0] y fun e z=>∃ p c,e = .returned (.slice p (Dk.peek n 0).length c)∧Hid (Bs z p c (Dk.peek n 0))∧Hid (Below y.heap.size y z):=by
 obtain ⟨T,U,h⟩:=h
 obtain ⟨vl,vc,G,hr⟩:=h.rf
 refine (refpeek_any 0 hn y hr).mono ?_
 rintro x z ⟨v,h1,h2,h3⟩
 obtain ⟨p,c,rfl,hb,_⟩:=own_bs h2.out.1 h2.out.2
 exact ⟨p,c,h1,hb,h3⟩
end
end

/-! SpZ9:  -/
section
open Go.RowKit
def Eqv (m o:Dk.M):Prop:=o.n=m.n∧o.ls=m.ls∧o.ca=m.ca
theorem rdM_same (m:Dk.M):((Dk.rdM m 0).n=m.n∧(Dk.rdM m 0).ls=m.ls∧(Dk.rdM m 0).ca=m.ca)∧∀ j,(Dk.rdM m 0).rd j≤m.rd j+1:=by
 unfold Dk.rdM
 split
 ·refine ⟨⟨rfl,rfl,rfl⟩,fun j=>?_⟩
  show upd m.rd _ _ j≤_
  unfold upd
  split
  ·rename_i h;rw [h];exact Nat.le_refl _
  ·omega
 ·exact ⟨⟨rfl,rfl,rfl⟩,fun j=>by omega⟩
theorem tpM_same (m:Dk.M) (L:List Int):(Dk.tpM m 0 L).n=m.n∧(Dk.tpM m 0 L).rd=m.rd:=by
 unfold Dk.tpM
 split<;>exact ⟨rfl,rfl⟩
theorem Eqv.rd {m o:Dk.M} (h:Eqv m o):Eqv (Dk.rdM (Dk.rdM m 0) 0) (Dk.rdM o 0):=by
 obtain ⟨q1,q2,q3⟩:=h
 obtain ⟨⟨a1,a2,a3⟩,_⟩:=rdM_same m
 obtain ⟨⟨b1,b2,b3⟩,_⟩:=rdM_same (Dk.rdM m 0)
 obtain ⟨⟨c1,c2,c3⟩,_⟩:=rdM_same o
 exact ⟨by rw [c1,b1,a1,q1],by rw [c2,b2,a2,q2],by rw [c3,b3,a3,q3]⟩
theorem Eqv.tp {m o:Dk.M} (h:Eqv m o) (L:List Int):Eqv (Dk.tpM m 0 L) (Dk.tpM o 0 L):=by
 obtain ⟨q1,q2,q3⟩:=h
 have hf:Dk.fault o 0 L=Dk.fault m 0 L:=by unfold Dk.fault Dk.here;rw [q1]
 unfold Dk.tpM
 rw [hf]
 split
 ·exact ⟨q1,by show upd o.ls _ _=upd m.ls _ _;rw [q2],by show upd o.ca _ _=upd m.ca _ _;rw [q3]⟩
 ·exact ⟨q1,q2,q3⟩
theorem Eqv.x {m o:Dk.M} (h:Eqv m o):Dk.rdX o 0=Dk.rdX m 0:=(Rg.rdX_same h.1 h.2.1 h.2.2 0).1
theorem rdM_x (m:Dk.M):Dk.rdX (Dk.rdM m 0) 0=Dk.rdX m 0:=by obtain ⟨⟨a1,a2,a3⟩,_⟩:=rdM_same m;exact (Rg.rdX_same a1 a2 a3 0).1
theorem peek_x {m:Dk.M} (h:m.n=5):Dk.peek m 0=Dk.rdX m 0:=by
 unfold Dk.rdX
 rw [if_pos (by unfold Dk.here;rw [h];decide)]
 rfl
theorem Sp.bR_len (K B:List Int):(Sp.bR K B).2.1.length=32:=by
 unfold Sp.bR
 split
 ·exact z32_len
 ·split
  ·exact z32_len
  ·exact dg_len _
end
end Go.Proofs.YtnnalemboeccbaaGreatDoor

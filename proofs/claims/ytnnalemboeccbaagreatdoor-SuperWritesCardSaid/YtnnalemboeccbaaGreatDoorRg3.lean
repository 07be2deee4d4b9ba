/-
  RgJ, RgQ0 (merged)
-/
import Derived.Test.YtnnalemboeccbaaGreatDoorRg2
import Derived.Test.YtnnalemboeccbaaGreatDoorSc4
import Derived.Test.YtnnalemboeccbaaGreatDoorDk3
import Derived.Test.YtnnalemboeccbaaGreatDoorRg1
import Derived.Great.BuildSlice
import Derived.Test.YtnnalemboeccbaaGreatDoorSc1
namespace Go.Proofs.YtnnalemboeccbaaGreatDoor

/-! RgJ:  -/
section
open Go.RowKit
structure Kp (K:Nat) (y z:World):Prop where
 size:y.heap.size≤z.heap.size
 block:∀ k,K≤k→k<y.heap.size→z.heap[k]?=y.heap[k]?
section
variable {K B:Nat} {x y z:World}
theorem Kp.of_mv {ks:List Nat} (h:Mv ks y z) (hk:∀ k∈ks,k<K):Kp K y z:=⟨h.size,fun k h1 h2=>h.block k h2 (fun q=>by have:=hk k q;omega)⟩
theorem own_kp {e s n:Nat} {v:Value} {xs:List Value} (h:y.ownsRow B e s v n xs) (hk:Kp K y z) (hB:K≤B):z.ownsRow B e s v n xs:=by
 refine ⟨h.1,?_⟩
 rcases h.2 with h1 | ⟨g,cap,cur,h1,h2,h3,h4⟩
 ·exact Or.inl h1
 ·exact Or.inr ⟨g,cap,cur,h1,h2,(hk.block g (by omega) (lt_of_block h3)).trans h3,h4⟩
end
section
variable {x y z:World} {K d g:Nat} {m m':Dk.M} {S S':Nm.St}
theorem gt_len (S:Nm.St) (k a:Int) (B:List Int):(Sc.gt (Nm.opn S) k a B).2.L.length≤1000:=by
 by_cases h:(Sc.gt (Nm.opn S) k a B).1=0
 ·obtain ⟨h0,R,hR,he⟩:=Sc.gt_good h
  rw [he]
  have h1:=(Sc.ger_zero.1 h0).1
  have h2:=congrArg List.length (Sc.opn_some hR).2
  rw [List.length_append,List.length_drop,Nm.tg_len] at h2
  show R.length≤1000
  omega
 ·rw [Sc.gt_zero h];exact Nat.zero_le _
end
end

/-! RgQ0:  -/
section
open Go.RowKit
namespace Rg
theorem peek_put (m:Dk.M) (i:Nat) (L:List Int) (j:Nat):Dk.peek (Dk.put m i L) j=if j=i then L else Dk.peek m j:=by
 unfold Dk.peek Dk.put
 show (upd m.ca i (some L) j).getD (m.ls j)=_
 unfold upd
 by_cases h:j=i
 ·rw [if_pos h,if_pos h];rfl
 ·rw [if_neg h,if_neg h]
end Rg
end
end Go.Proofs.YtnnalemboeccbaaGreatDoor

/-
  ScI, ScM (merged)
-/
import Derived.Test.YtnnalemboeccbaaGreatDoorSc3
namespace Go.Proofs.YtnnalemboeccbaaGreatDoor

/-! ScI:  -/
section
open Go.RowKit
namespace Sc
theorem e8_inj {n m:Int} (hn:Pk.In64 n) (hm:Pk.In64 m) (h:Pk.e8 n 8=Pk.e8 m 8):n=m:=by
 rw [← Pk.in8_e8 hn,h,Pk.in8_e8 hm]
theorem mk_inj {k k' n m:Int} (hn:Pk.In64 n) (hm:Pk.In64 m) (h:mk k n=mk k' m):k=k'∧n=m:=by
 unfold mk at h
 injection h with h1 h2
 exact ⟨h1,e8_inj hn hm h2⟩
theorem a64 {s:S} (h:ers s=0):Pk.In64 s.a:=by
 have:=inP_iff.1 (ers_parts h).2.1
 unfold Pk.In64
 omega
def four (s:S):Nm.Four:=(s.e,s.n,mk s.k s.a,s.L)
theorem nsl_eq {T:Nm.St} {s:S} (h:ers s=0):nsl T s.e s.n (mk s.k s.a) s.L=s.L++Nm.tg 0 (Nm.num (four s) T.ss):=by
 unfold nsl Nm.sl
 rw [if_pos (may_of h)]
 rfl
theorem nd_ss {T:Nm.St} {s:S} (h:ers s=0):(nd T s).ss=Nm.put (four s) T.ss:=by
 rw [nd_ok h]
 unfold Nm.sld
 rw [if_pos (may_of h)]
 rfl
theorem opn_some {T:Nm.St} {e n:Int} {h x R:List Int} (ho:Nm.opn T e n h x=some R):Nm.place (e,n,h,R) T.ss ≠ 0∧x=R++Nm.tg 0 (Nm.place (e,n,h,R) T.ss):=by
 unfold Nm.opn at ho
 by_cases h0:x.length<32
 ·rw [if_pos h0] at ho;cases ho
 ·rw [if_neg h0] at ho
  by_cases h1:Nm.place (e,n,h,x.take (x.length-32)) T.ss ≠ 0∧x.drop (x.length-32)=Nm.tg 0 (Nm.place (e,n,h,x.take (x.length-32)) T.ss)
  ·rw [if_pos h1] at ho
   cases ho
   refine ⟨h1.1,?_⟩
   rw [← h1.2,List.take_append_drop]
  ·rw [if_neg h1] at ho;cases ho
theorem opn_of {T:Nm.St} {e n:Int} {h R:List Int} (hp:Nm.place (e,n,h,R) T.ss ≠ 0):Nm.opn T e n h (R++Nm.tg 0 (Nm.place (e,n,h,R) T.ss))=some R:=by
 unfold Nm.opn
 have hl:(R++Nm.tg 0 (Nm.place (e,n,h,R) T.ss)).length=R.length+32:=by rw [List.length_append,Nm.tg_len]
 rw [if_neg (by omega),hl,Nat.add_sub_cancel]
 have h1:(R++Nm.tg 0 (Nm.place (e,n,h,R) T.ss)).take R.length=R:=by simp
 have h2:(R++Nm.tg 0 (Nm.place (e,n,h,R) T.ss)).drop R.length=Nm.tg 0 (Nm.place (e,n,h,R) T.ss):=by simp
 rw [h1,h2,if_pos ⟨hp,rfl⟩]
end Sc
end

/-! ScM:  -/
section
open Go.RowKit
namespace Sc
def bys (T:Nm.St) (s:S):List Int:=fr s.k s.e s.n++(s.L++Nm.tg 0 (Nm.place (four s) T.ss))
theorem bys_len (T:Nm.St) (s:S):(bys T s).length=49+s.L.length:=by
 unfold bys
 rw [List.length_append,fr_len,List.length_append,Nm.tg_len]
 omega
theorem put_bys (T:Nm.St) {s:S} (h:ers s=0):pt (nsl T) s=(0,bys (nd T s) s):=by
 rw [pt_ok h,nsl_eq h]
 unfold bys
 rw [nd_ss h,Nm.num_place]
theorem place_nd (T:Nm.St) (t:S) {s:S} (h:Nm.place (four s) T.ss ≠ 0):Nm.place (four s) (nd T t).ss=Nm.place (four s) T.ss:=by
 by_cases h0:ers t=0
 ·rw [nd_ss h0];exact Nm.place_put h
 ·rw [nd_no h0]
theorem bys_nd (T:Nm.St) (t:S) {s:S} (h:Nm.place (four s) T.ss ≠ 0):bys (nd T t) s=bys T s:=by unfold bys;rw [place_nd T t h]
theorem place_self (T:Nm.St) {s:S} (h:ers s=0):Nm.place (four s) (nd T s).ss ≠ 0:=by rw [nd_ss h];exact Nm.put_self
theorem nd_le (T:Nm.St) (s:S):(nd T s).ss.length≤T.ss.length+1:=by
 by_cases h0:ers s=0
 ·rw [nd_ss h0];exact Nm.put_len
 ·rw [nd_no h0];omega
theorem four_inj {s t:S} (hs:ers s=0) (ht:ers t=0) (h:four s=four t):s=t:=by
 obtain ⟨k,e,n,a,L⟩:=s
 obtain ⟨k',e',n',a',L'⟩:=t
 unfold four at h
 simp only [Prod.mk.injEq] at h
 obtain ⟨rfl,rfl,h3,rfl⟩:=h
 obtain ⟨rfl,rfl⟩:=mk_inj (a64 hs) (a64 ht) h3
 rfl
end Sc
end
end Go.Proofs.YtnnalemboeccbaaGreatDoor

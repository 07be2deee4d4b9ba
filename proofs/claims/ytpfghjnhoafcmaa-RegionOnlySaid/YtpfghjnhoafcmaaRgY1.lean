/-
  What All tells was told to Write; run.
-/
import Derived.Test.YtpfghjnhoafcmaaRgY0
import Derived.Test.YtpfghjnhoafcmaaRgOp
import Derived.Test.YtpfghjnhoafcmaaRgX1
import Derived.Test.YtpfghjnhoafcmaaDk4
namespace Go.Proofs.Ytpfghjnhoafcmaa
open Go.RowKit

namespace Rg
/-- Each thing that the names remember was made of a told record. -/
def Told (T : List R) (S : Nm.St) : Prop := ∀ q ∈ S.ss, ∃ r ∈ T, q.2.2.2 = pt r
theorem told_none (T : List R) : Told T Nm.St.none := fun q hq => by cases hq
theorem told_up {T : List R} {S : Nm.St} (h : Told T S) (L : List R) : Told (T ++ L) S := fun q hq => by
  obtain ⟨r, hr, e⟩ := h q hq
  exact ⟨r, List.mem_append_left _ hr, e⟩
theorem told_vS {T : List R} {S : Nm.St} (h : Told T S) (r : R) (n : Int) : Told (T ++ [r]) (vS S r n) := fun q hq => by
  unfold vS at hq
  by_cases hm : may r = true
  · rw [if_pos hm] at hq
    by_cases he : Sc.ers (sec r n) = 0
    · rw [Sc.nd_ss he] at hq
      rcases Nm.mem_put hq with h1 | h1
      · exact told_up h [r] q h1
      · exact ⟨r, by simp, by rw [h1]; rfl⟩
    · rw [Sc.nd_no he] at hq
      exact told_up h [r] q hq
  · rw [if_neg hm] at hq
    exact told_up h [r] q hq
theorem vA_parts {m : Dk.M} (hb : ∀ i, i < m.n → Sha.Byt (Dk.peek m i)) (S : Nm.St) : ∃ o1 o2 : Option R, vA m S = o1.toList ++ o2.toList ∧ (∀ x, o1 = some x → Ok x ∧ may x = true ∧ home x = 1 ∧ ∃ n, (x.ep, n, Sc.mk 2 1, pt x) ∈ S.ss) ∧ (∀ x, o2 = some x → Ok x ∧ may x = true ∧ home x = 2 ∧ ∃ n, (x.ep, n, Sc.mk 2 2, pt x) ∈ S.ss) := by
  have key : ∀ (x : R) (k : Nat) (a : Int), alH m (vG S) k = some x → a = (k : Int) + 1 → Ok x ∧ may x = true ∧ home x = a ∧ ∃ n, (x.ep, n, Sc.mk 2 a, pt x) ∈ S.ss := fun x k a h e => by
    subst e
    have h' : hd m ((k : Int) + 1) (vG S ((k : Int) + 1)) = some x := h
    cases hh : Dk.here m ((k : Int) + 1) with
    | false => rw [hd_no _ hh] at h'; cases h'
    | true =>
      rw [hd_yes _ hh] at h'
      refine hb_only ?_ h'
      unfold Dk.rdX
      rw [hh, if_pos rfl]
      obtain ⟨j, e, hj⟩ := Dk.here_of hh
      rw [e, Int.toNat_natCast]
      exact hb j hj
  refine ⟨alH m (vG S) 0, alH m (vG S) 1, ?_, fun x h => key x 0 1 h rfl, fun x h => key x 1 2 h rfl⟩
  unfold vA al
  show ([] ++ (alH m (vG S) 0).toList) ++ (alH m (vG S) 1).toList = _
  rw [List.nil_append]
theorem gen_par {x : R} (h : may x = true) : x.gen.tmod 2 = (if home x = 1 then 0 else 1) := by
  obtain ⟨h1, _⟩ := (may_nums h).1
  rw [Int.tmod_eq_emod_of_nonneg (by omega)]
  unfold home
  split <;> simp_all <;> omega
theorem vA_told {m : Dk.M} (hb : ∀ i, i < m.n → Sha.Byt (Dk.peek m i)) {S : Nm.St} {T : List R} (h : Told T S) (hT : ∀ r ∈ T, Ok r) : ∀ x ∈ vA m S, x ∈ T := by
  obtain ⟨o1, o2, e, h1, h2⟩ := vA_parts hb S
  have key : ∀ (x : R) (a : Int), (Ok x ∧ may x = true ∧ home x = a ∧ ∃ n, (x.ep, n, Sc.mk 2 a, pt x) ∈ S.ss) → x ∈ T := fun x a hx => by
    obtain ⟨k1, _, _, n, hm⟩ := hx
    obtain ⟨r, hr, e⟩ := h _ hm
    have e' : pt x = pt r := e
    rw [unlike k1 (hT r hr) e']
    exact hr
  intro x hx
  rw [e, List.mem_append, Option.mem_toList, Option.mem_toList] at hx
  rcases hx with q | q
  · exact key x 1 (h1 x q)
  · exact key x 2 (h2 x q)
theorem vA_par {m : Dk.M} (hb : ∀ i, i < m.n → Sha.Byt (Dk.peek m i)) (S : Nm.St) : (vA m S).length ≤ 2 ∧ ∀ i, 0 < i → i < (vA m S).length → ((vA m S).getD i zero).gen.tmod 2 ≠ ((vA m S).getD 0 zero).gen.tmod 2 := by
  obtain ⟨o1, o2, e, h1, h2⟩ := vA_parts hb S
  rw [e]
  cases o1 with
  | none => cases o2 <;> simp <;> intro i a b <;> omega
  | some a =>
    cases o2 with
    | none => simp; intro i a b; omega
    | some b =>
      refine ⟨by simp, fun i h0 hi => ?_⟩
      have hi' : i < 2 := by simpa using hi
      obtain rfl : i = 1 := by omega
      obtain ⟨_, m1, k1, _⟩ := h1 a rfl
      obtain ⟨_, m2, k2, _⟩ := h2 b rfl
      show b.gen.tmod 2 ≠ a.gen.tmod 2
      rw [gen_par m1, gen_par m2, k1, k2]
      decide
/-- What is remembered behind an act. -/
def rS (S : Nm.St) (o : O) : Nm.St := if o.k = 0 then vS S o.r o.n else S
end Rg
theorem oc_at (x : Rg.O) (h : Rg.Ok x.r) (pd : Option Addr) (cd : Nat) (pf : Option Addr) (cf : Nat) : (oc x pd cd pf cf)[0]? = some (.int .i64 x.k) ∧ (oc x pd cd pf cf)[1]? = some (.int .i64 x.n) ∧ (oc x pd cd pf cf)[2]? = some (.int .i64 x.m) ∧ (∀ j, j < 136 → (oc x pd cd pf cf)[3 + j]? = (cv x.r)[j]?) ∧ (oc x pd cd pf cf)[139]? = some (.slice pd x.D.length cd) ∧ (oc x pd cd pf cf)[140]? = some (.slice pf x.L.length cf) := by
  have hl := cv_len h
  unfold oc
  refine ⟨rfl, rfl, rfl, fun j hj => ?_, ?_, ?_⟩
  · rw [List.getElem?_append_right (by simp), List.getElem?_append_left (by simp [hl]; omega)]
    congr 1
    simp
  · rw [List.getElem?_append_right (by simp), List.getElem?_append_right (by simp [hl])]
    simp [hl]
  · rw [List.getElem?_append_right (by simp), List.getElem?_append_right (by simp [hl])]
    simp [hl]
theorem oc_one (x : Rg.O) (pd : Option Addr) (cd : Nat) (pf : Option Addr) (cf : Nat) : ∀ v ∈ oc x pd cd pf cf, v.oneCell' = true := fun v hv => by
  unfold oc at hv
  rw [List.mem_append, List.mem_append] at hv
  rcases hv with q | q | q
  · simp only [List.mem_cons, List.not_mem_nil, or_false] at q
    rcases q with rfl | rfl | rfl <;> rfl
  · exact cv_one x.r v q
  · simp only [List.mem_cons, List.not_mem_nil, or_false] at q
    rcases q with rfl | rfl <;> rfl
/-- An act as an opaque row. -/
structure OpK (x : Rg.O) (A : Array Value) (pd : Option Addr) (cd : Nat) (pf : Option Addr) (cf : Nat) : Prop where
  size : A.size = 141
  one : A.all (·.oneCell') = true
  at_ : ∀ (y : World) (g : Nat) (t : TypeId), y.heap[g]? = some (.cells A t (0, 0)) → y.cell? ⟨g, 0, none⟩ = some (.int .i64 x.k) ∧ y.cell? ⟨g, 1, none⟩ = some (.int .i64 x.n) ∧ y.cell? ⟨g, 2, none⟩ = some (.int .i64 x.m) ∧ y.rangeAt g 3 (RAr x.r).toList ∧ y.cell? ⟨g, 139, none⟩ = some (.slice pd x.D.length cd) ∧ y.cell? ⟨g, 140, none⟩ = some (.slice pf x.L.length cf)
theorem opk (x : Rg.O) (h : Rg.Ok x.r) (pd : Option Addr) (cd : Nat) (pf : Option Addr) (cf : Nat) : OpK x (oc x pd cd pf cf).toArray pd cd pf cf := by
  obtain ⟨a0, a1, a2, a3, a4, a5⟩ := oc_at x h pd cd pf cf
  refine ⟨by rw [List.size_toArray, oc_len h], all_oneCell_toArray (oc_one x pd cd pf cf), fun y g t hg => ?_⟩
  have hc : ∀ j, y.cell? ⟨g, j, none⟩ = (oc x pd cd pf cf)[j]? := fun j => by rw [cell_of_row y g j _ _ _ hg, List.getElem?_toArray]
  refine ⟨(hc 0).trans a0, (hc 1).trans a1, (hc 2).trans a2, fun j v hv => ?_, (hc 139).trans a4, (hc 140).trans a5⟩
  have hj := (List.getElem?_eq_some_iff.1 hv).1
  have hl : (RAr x.r).toList.length = 136 := by rw [Array.length_toList]; exact rar_size h
  rw [hc, a3 j (by omega)]
  exact hv
theorem Try.sizeOp : (Try.prog.info? 44).map (·.size) = some 141 := by kernel_rfl

end Go.Proofs.Ytpfghjnhoafcmaa

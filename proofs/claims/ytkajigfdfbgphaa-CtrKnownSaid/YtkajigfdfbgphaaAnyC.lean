/-
  Regions that draw their order, of operations that neither call nor are guarded, in whatever fence (a loop's round too): what yields in every world that meets S may be taken first.
-/
import Derived.Test.YtkajigfdfbgphaaAesR
import Derived.OwnWalkIn
import Derived.OrdersIn
namespace Go.Proofs.Ytkajigfdfbgphaa
open Go.RowKit

section
variable {F : Fence} {n : Nat} {P : Program} {md : Region.Mode} {ops : Array Oper} {Q : Exit → Act → World → Prop} {S : World → Prop}
/-- One operation that yields, or stores. -/
def opC (P : Program) (o : Oper) (a : Act) (w : World) (K : Act → World → Prop) : Prop :=
  (∃ v w', (execOp a.eval o).run P w = .ok (.value v) w' ∧ K (a.put o.dst v) w') ∨ (∃ w', (execOp a.eval o).run P w = .ok .skip w' ∧ K (a.put o.dst undef) w')
theorem opC_mono {o : Oper} {a : Act} {w : World} {K K' : Act → World → Prop} (h : ∀ a w, K a w → K' a w) (hh : opC P o a w K) : opC P o a w K' := by
  rcases hh with ⟨v, w', h1, h2⟩ | ⟨w', h1, h2⟩
  · exact Or.inl ⟨v, w', h1, h _ _ h2⟩
  · exact Or.inr ⟨w', h1, h _ _ h2⟩
/-- Whatever order is picked from here on, and S holds behind every operation but number k. -/
def anyC (P : Program) (md : Region.Mode) (ops : Array Oper) (Q : Exit → Act → World → Prop) (S : World → Prop) (k : Nat) : Nat → Array Bool → Act → World → Prop
  | 0, listed, a, w => Region.ready md ops listed = [] ∧ Q .normal a w
  | fuel + 1, listed, a, w =>
    (Region.ready md ops listed = [] → Q .normal a w) ∧
    ∀ i ∈ Region.ready md ops listed, ∀ o, ops[i]? = some o → opC P o a w (fun a' w' => (i ≠ k → S w') ∧ anyC P md ops Q S k fuel (listed.setIfInBounds i true) a' w')
/-- Neither guarded, nor a call, nor a defer statement, nor a select statement. -/
def calmOps (ops : Array Oper) : Bool := ops.toList.all fun o => o.guard.isNone && (match o.op with | .call _ | .defer _ | .select _ _ | .go _ => false | _ => true)
theorem calm_spec (h : calmOps ops = true) {i : Nat} {o : Oper} (ho : ops[i]? = some o) : o.guard = none ∧ (∀ c, o.op ≠ .call c) ∧ (∀ c, o.op ≠ .defer c) ∧ ∀ cs b, o.op ≠ .select cs b := by
  have hm : o ∈ ops.toList := by
    rw [Array.getElem?_eq_some_iff] at ho
    obtain ⟨hi, rfl⟩ := ho
    simp
  have h2 := List.all_eq_true.1 h o hm
  simp only [Bool.and_eq_true] at h2
  refine ⟨by simpa using h2.1, fun c e => ?_, fun c e => ?_, fun cs b e => ?_⟩ <;> (have h3 := h2.2; rw [e] at h3; cases h3)
theorem anyC_in (hc : calmOps ops = true) {k : Nat} : ∀ (fuel : Nat) (listed : Array Bool) (a : Act) (w : World), anyC P md ops Q S k fuel listed a w → wpAnyIn F n P md ops Q fuel listed a w
  | 0, _, _, _, h => h
  | fuel + 1, listed, a, w, h => ⟨h.1, fun i hi => by
    unfold wpOpIn
    split
    · rename_i hno
      obtain ⟨_, o, ho, _⟩ := mem_ready.1 hi
      rw [hno] at ho
      cases ho
    · rename_i o ho
      obtain ⟨hg, hcall, hdef, _⟩ := calm_spec hc ho
      have hw : Region.wanted o (yielded ops a.tmps) = true := by simp [Region.wanted, hg]
      rw [if_pos hw]
      unfold Oper.wpIn
      refine ⟨fun f hf => ?_, ?_⟩
      · unfold Oper.about at hf
        split at hf
        · rename_i c hc'; exact absurd hc' (hcall c)
        · cases hf
      · rw [Oper.semAt_plain F _ _ hdef]
        rcases h.2 i hi o ho with ⟨v, w', h1, h2⟩ | ⟨w', h1, h2⟩
        · rw [h1]; exact anyC_in hc fuel _ _ _ h2.2
        · rw [h1]; exact anyC_in hc fuel _ _ _ h2.2⟩
theorem opC_put {oi oj : Oper} {v : Value} (hap : oi.apart ops oj = true) (hsi : ∀ cs b, oi.op ≠ .select cs b) (hsj : ∀ cs b, oj.op ≠ .select cs b) {K : Act → World → Prop} {a : Act} {w : World}
    (hy : ∀ w, S w → (execOp a.eval oi).run P w = .ok (.value v) w) (h : opC P oj (a.put oi.dst v) w K) :
    opC P oj a w (fun a' w' => (∀ w, S w → (execOp a'.eval oi).run P w = .ok (.value v) w) ∧ K (a'.put oi.dst v) w') := by
  obtain ⟨h1, h2, h3⟩ := Oper.apart_spec hap
  have keep : ∀ u, ∀ w, S w → (execOp (a.put oj.dst u).eval oi).run P w = .ok (.value v) w := fun u w hw => by
    rw [execOp_put oi hsi a oj.dst u h3]
    exact hy w hw
  unfold opC at *
  rw [execOp_put oj hsj a oi.dst v h1] at h
  rcases h with ⟨u, w', q1, q2⟩ | ⟨w', q1, q2⟩
  · exact Or.inl ⟨u, w', q1, keep u, by rw [← Act.put_comm a v u h2]; exact q2⟩
  · exact Or.inr ⟨w', q1, keep _, by rw [← Act.put_comm a v undef h2]; exact q2⟩
theorem anyC_first (hc : calmOps ops = true) {k i : Nat} {oi : Oper} {v : Value} (hi : ops[i]? = some oi) (hk : Region.waitsFor md ops k i = true) :
    ∀ (fuel : Nat) (listed : Array Bool) (a : Act) (w : World),
      (∀ j oj, ops[j]? = some oj → j ≠ i → listed.getD j true = false → (∀ e ∈ oj.after, Region.binds md e = true → e.on ≠ i) → oi.apart ops oj = true) →
      i ∈ Region.ready md ops listed → (∀ w, S w → (execOp a.eval oi).run P w = .ok (.value v) w) → S w →
      anyC P md ops Q S k fuel (listed.setIfInBounds i true) (a.put oi.dst v) w → anyC P md ops Q S k (fuel + 1) listed a w := by
  intro fuel
  induction fuel with
  | zero =>
    intro listed a w _ hr hy hS H
    refine ⟨fun h => (by rw [h] at hr; cases hr), fun j hj o ho => ?_⟩
    by_cases hji : j = i
    · subst hji
      rw [hi] at ho
      cases ho
      exact Or.inl ⟨v, w, hy w hS, fun _ => hS, H⟩
    · have := ready_mono hj hji
      rw [H.1] at this
      cases this
  | succ fuel ih =>
    intro listed a w hfree hr hy hS H
    refine ⟨fun h => (by rw [h] at hr; cases hr), fun j hj oj hoj => ?_⟩
    by_cases hji : j = i
    · subst hji
      rw [hi] at hoj
      cases hoj
      exact Or.inl ⟨v, w, hy w hS, fun _ => hS, H⟩
    · have h1 := H.2 j (ready_mono hj hji) oj hoj
      obtain ⟨hjun, oj', hoj', hall⟩ := mem_ready.1 hj
      rw [hoj] at hoj'
      cases hoj'
      have hnot : ∀ e ∈ oj.after, Region.binds md e = true → e.on ≠ i := fun e he hb heq => by
        have q1 := hall e he hb
        have q0 := (mem_ready.1 hr).1
        rw [heq] at q1
        rcases Nat.lt_or_ge i listed.size with h' | h'
        · simp [h'] at q0 q1; rw [q0] at q1; cases q1
        · simp [Array.getElem?_eq_none h'] at q1
      have hjk : j ≠ k := fun e => by
        subst e
        obtain ⟨oj', ho', e, he, hb, hon⟩ := Region.waitsFor_spec hk
        rw [hoj] at ho'
        cases ho'
        exact hnot e he hb hon
      have h2 := opC_put (hfree j oj hoj hji hjun hnot) (calm_spec hc hi).2.2.2 (calm_spec hc hoj).2.2.2 hy h1
      refine opC_mono (fun a' w' h3 => ⟨fun _ => h3.2.1 hjk, ih (listed.setIfInBounds j true) a' w' (fun m om hm hmi hun hno => ?_) (ready_mono hr (Ne.symm hji)) h3.1 (h3.2.1 hjk) ?_⟩) h2
      · refine hfree m om hm hmi ?_ hno
        by_cases hjm : j = m
        · subst hjm; exact hjun
        · rw [getD_set_ne true hjm] at hun; exact hun
      · rw [Array.setIfInBounds_comm _ _ hji]
        exact h3.2.2
/-- .. as it is used. -/
theorem anyC_take (hc : calmOps ops = true) (k i D : Nat) (v : Value) {fuel : Nat} {listed : Array Bool} {a : Act} {w : World} {op : Op} {T : TypeId} {ps : String} {af : Array Edge} (hS : S w) (ho : ops[i]? = some { dst := some D, op := op, type := T, pos := ps, after := af, guard := none })
    (hf : Region.free md ops listed i = true) (hr : (Region.ready md ops listed).contains i = true) (hk : Region.waitsFor md ops k i = true)
    (hy : ∀ w, S w → (execOp a.eval { dst := some D, op := op, type := T, pos := ps, after := af, guard := none }).run P w = .ok (.value v) w)
    (h : anyC P md ops Q S k fuel (listed.setIfInBounds i true) (a.put (some D) v) w) : anyC P md ops Q S k (fuel + 1) listed a w :=
  anyC_first hc ho hk fuel listed a w (Region.free_spec ho hf) (by simpa using hr) hy hS h
theorem anyC_one (k i : Nat) {fuel : Nat} {listed : Array Bool} {a : Act} {w : World} {oi : Oper} (ho : ops[i]? = some oi) (hr : Region.ready md ops listed = [i])
    (h : opC P oi a w (fun a' w' => (i ≠ k → S w') ∧ anyC P md ops Q S k fuel (listed.setIfInBounds i true) a' w')) : anyC P md ops Q S k (fuel + 1) listed a w :=
  ⟨fun h0 => absurd (hr ▸ h0) (by simp), fun j hj o hoj => by
    rw [hr] at hj
    simp at hj
    subst hj
    rw [ho] at hoj
    cases hoj
    exact h⟩
theorem anyC_done {k : Nat} {listed : Array Bool} {a : Act} {w : World} (hr : Region.ready md ops listed = []) (h : Q .normal a w) : ∀ fuel, anyC P md ops Q S k fuel listed a w
  | 0 => ⟨hr, h⟩
  | _ + 1 => ⟨fun _ => h, by rw [hr]; simp⟩
/-- A store, as the last operation. -/
theorem opC_store {o : Oper} {a : Act} {w w' : World} {K : Act → World → Prop} (h : (execOp a.eval o).run P w = .ok .skip w') (hk : K (a.put o.dst undef) w') : opC P o a w K := Or.inr ⟨w', h, hk⟩
theorem opC_value {o : Oper} {a : Act} {w w' : World} {v : Value} {K : Act → World → Prop} (h : (execOp a.eval o).run P w = .ok (.value v) w') (hk : K (a.put o.dst v) w') : opC P o a w K := Or.inl ⟨v, w', h, hk⟩
end
end Go.Proofs.Ytkajigfdfbgphaa

/-
  BatchAdds: the law walked.
-/
import Derived.OrdersHeld
import Derived.StillTail
import Derived.Test.YtkgefogkdmbciaaBaP0
namespace Go.Proofs.Ytkgefogkdmbciaa
open Go.RowKit

section
variable {P : Program} {md : Region.Mode} {ops : Array Oper} {Q : Exit → Act → World → Prop} {S : World → Prop}

/-- Whatever order is picked from here on, and S holds behind every operation but number k. -/
def wpAnyL (P : Program) (md : Region.Mode) (ops : Array Oper) (Q : Exit → Act → World → Prop) (S : World → Prop) (k : Nat) : Nat → Array Bool → Act → World → Prop
  | 0, listed, a, w => Region.ready md ops listed = [] ∧ Q .normal a w
  | fuel + 1, listed, a, w =>
    (Region.ready md ops listed = [] → Q .normal a w) ∧
    ∀ i ∈ Region.ready md ops listed, wpOp P ops Q i (fun a' w' => (i ≠ k → S w') ∧ wpAnyL P md ops Q S k fuel (listed.setIfInBounds i true) a' w') a w
theorem wpAny_of_L {k : Nat} : ∀ (fuel : Nat) (listed : Array Bool) (a : Act) (w : World), wpAnyL P md ops Q S k fuel listed a w → wpAny P md ops Q fuel listed a w
  | 0, _, _, _, h => h
  | fuel + 1, _, _, _, h => ⟨h.1, fun i hi => wpOp_mono (fun a' w' h' => wpAny_of_L fuel _ a' w' h'.2) (h.2 i hi)⟩
theorem wpAnyL_first {k i : Nat} {oi : Oper} {v : Value} (hi : ops[i]? = some oi) (hsel : ∀ (j : Nat) (o : Oper) cs b, ops[j]? = some o → o.op ≠ .select cs b)
    (hk : Region.waitsFor md ops k i = true) (hQ : ∀ c a w, Q (.panic c) (a.put oi.dst v) w → Q (.panic c) a w) :
    ∀ (fuel : Nat) (listed : Array Bool) (a : Act) (w : World),
      (∀ j oj, ops[j]? = some oj → j ≠ i → listed.getD j true = false → (∀ e ∈ oj.after, Region.binds md e = true → e.on ≠ i) → oi.apart ops oj = true) →
      i ∈ Region.ready md ops listed → YieldsIf P ops S oi v a → S w →
      wpAnyL P md ops Q S k fuel (listed.setIfInBounds i true) (a.put oi.dst v) w → wpAnyL P md ops Q S k (fuel + 1) listed a w := by
  intro fuel
  induction fuel with
  | zero =>
    intro listed a w _ hr hy hS H
    refine ⟨fun h => (by rw [h] at hr; cases hr), fun j hj => ?_⟩
    by_cases hji : j = i
    · subst hji; exact hy.wpOp hi hS ⟨fun _ => hS, H⟩
    · have := ready_mono hj hji
      rw [H.1] at this
      cases this
  | succ fuel ih =>
    intro listed a w hfree hr hy hS H
    refine ⟨fun h => (by rw [h] at hr; cases hr), fun j hj => ?_⟩
    by_cases hji : j = i
    · subst hji; exact hy.wpOp hi hS ⟨fun _ => hS, H⟩
    · have h1 := H.2 j (ready_mono hj hji)
      obtain ⟨hjun, oj, hoj, hall⟩ := mem_ready.1 hj
      have hnot : ∀ e ∈ oj.after, Region.binds md e = true → e.on ≠ i := fun e he hb heq => by
        have h1 := hall e he hb
        have h0 := (mem_ready.1 hr).1
        rw [heq] at h1
        rcases Nat.lt_or_ge i listed.size with h' | h'
        · simp [h'] at h0 h1; rw [h0] at h1; cases h1
        · simp [Array.getElem?_eq_none h'] at h1
      have hjk : j ≠ k := fun e => by
        subst e
        obtain ⟨oj', ho', e, he, hb, hon⟩ := Region.waitsFor_spec hk
        rw [hoj] at ho'
        cases ho'
        exact hnot e he hb hon
      have h2 := wpOp_putIf hoj (hfree j oj hoj hji hjun hnot) (fun cs b => hsel i oi cs b hi) (fun cs b => hsel j oj cs b hoj) hQ hy h1
      have hfree' : ∀ m om, ops[m]? = some om → m ≠ i → (listed.setIfInBounds j true).getD m true = false →
          (∀ e ∈ om.after, Region.binds md e = true → e.on ≠ i) → oi.apart ops om = true := fun m om hm hmi hun hno => by
        refine hfree m om hm hmi ?_ hno
        by_cases hjm : j = m
        · subst hjm; exact hjun
        · rw [getD_set_ne true hjm] at hun; exact hun
      refine wpOp_mono (fun a' w' h3 => ⟨fun _ => h3.2.1 hjk, ih (listed.setIfInBounds j true) a' w' hfree' (ready_mono hr (Ne.symm hji)) h3.1 (h3.2.1 hjk) ?_⟩) h2
      rw [Array.setIfInBounds_comm _ _ hji]
      exact h3.2.2
/-- .. as it is used: whatever operation 'op' yields in every world that meets S. -/
theorem anyL_take (k i D : Nat) (v : Value) {fuel : Nat} {listed : Array Bool} {a : Act} {w : World} {op : Op} {T : TypeId} {ps : String} {af : Array Edge} (hS : S w) (ho : ops[i]? = some { dst := some D, op := op, type := T, pos := ps, after := af, guard := none })
    (hs : Region.noSelect ops = true) (hf : Region.free md ops listed i = true) (hr : (Region.ready md ops listed).contains i = true) (hk : Region.waitsFor md ops k i = true)
    (hQ : ∀ c a w, Q (.panic c) (a.put (some D) v) w → Q (.panic c) a w) (hy : ∀ w, S w → (execOp a.eval { dst := some D, op := op, type := T, pos := ps, after := af, guard := none }).run P w = .ok (.value v) w)
    (h : wpAnyL P md ops Q S k fuel (listed.setIfInBounds i true) (a.put (some D) v) w) : wpAnyL P md ops Q S k (fuel + 1) listed a w :=
  wpAnyL_first ho (Region.noSelect_spec hs) hk hQ fuel listed a w (Region.free_spec ho hf) (by simpa using hr) (Or.inl ⟨rfl, hy⟩) hS h
theorem anyL_one (k i : Nat) {fuel : Nat} {listed : Array Bool} {a : Act} {w : World} (hr : Region.ready md ops listed = [i])
    (h : wpOp P ops Q i (fun a' w' => (i ≠ k → S w') ∧ wpAnyL P md ops Q S k fuel (listed.setIfInBounds i true) a' w') a w) : wpAnyL P md ops Q S k (fuel + 1) listed a w :=
  ⟨fun h0 => absurd (hr ▸ h0) (by simp), fun j hj => by
    rw [hr] at hj
    simp at hj
    subst hj
    exact h⟩
theorem anyL_done {k : Nat} {listed : Array Bool} {a : Act} {w : World} (hr : Region.ready md ops listed = []) (h : Q .normal a w) : ∀ fuel, wpAnyL P md ops Q S k fuel listed a w
  | 0 => ⟨hr, h⟩
  | _ + 1 => ⟨fun _ => h, by rw [hr]; simp⟩
end
theorem Es.take {w : World} {p : Option Addr} {c : Nat} {L : List Bt.En} (h : Es w p c L) (k : Nat) : Es w p c (L.take k) :=
  ⟨fun x hx => h.ok x (List.mem_of_mem_take hx), fun h0 => by
    rw [List.length_take] at h0
    obtain ⟨ab, ao, h1, h2⟩ := h.at_ (by omega)
    refine ⟨ab, ao, h1, fun i hi => ?_⟩
    rw [List.length_take] at hi
    have e : (L.take k).getD i Bt.en0 = L.getD i Bt.en0 := by
      rw [List.getD_eq_getElem?_getD, List.getD_eq_getElem?_getD, List.getElem?_take, if_pos (by omega)]
    rw [e]
    exact h2 i (by omega), ⟨by rw [List.length_take]; have := h.cap; omega, h.cap.2⟩, h.nil⟩
section
variable {ops : Array Oper} {rest : List Oper} {a : Act} {w : World} {Q : Exit → Act → World → Prop} {D : Option Tmp} {T : TypeId} {ps : String} {af : Array Edge} {gd : Option (Nat × Bool)}
theorem exec_bij {P : Program} (t : TypeId) (i j : Nat) (x y : Operand) (v u : Value) (R : Array Value) (hx : a.eval x = v) (hy : a.eval y = u) (hr : P.built t [(i, v), (j, u)] = some R) :
    (execOp a.eval { dst := D, op := .build t #[(i, x), (j, y)], type := T, pos := ps, after := af, guard := gd }).run P w = .ok (.value (.agg R)) w := by
  have hrun := run_build (P := P) w t #[(i, v), (j, u)] R hr
  unfold execOp
  simp only [hx, hy, List.map_toArray, List.map_cons, List.map_nil, hrun, Sem.run_bind, Sem.run_pure, Result.andThen_ok]
theorem bs_one_op {K : Act → World → Prop} (x : Operand) (e : Bt.En) (he : e.ok) (hx : a.eval x = .agg (EnA e)) (h : K (a.put D (.slice (some ⟨w.heap.size, 0, none⟩) 1 1)) (w.alloc (.cells (Bt.ec [e]).toArray 50))) :
    Oper.wp Try.prog { dst := D, op := .buildSlice 24 1 #[(0, x)], type := T, pos := ps, after := af, guard := gd } a w K Q := by
  have hrun := run_bs w 1 (by omega) (by omega) #[(0, .agg (EnA e))] [e] (by
    show Instr.fill _ _ [(0, .agg (EnA e))] = _
    rw [fill_en _ (Bt.ok_rep Bt.en0_ok 1) 0 e he (by simp)]
    rfl)
  unfold Oper.wp execOp
  simp only [hx, List.map_toArray, List.map_cons, List.map_nil, hrun, Sem.run_bind, Sem.run_pure, Result.andThen_ok]
  exact h
end
theorem built_trim (b : Int) : Try.prog.built 50 [(0, .int .i64 2), (1, .int .i64 b)] = some (EnA ⟨2, b, 0, Bt.Z⟩) := by
  rw [built_of Try.zeroEn Try.placesEn, fill_step _ 0 _ 0 1 _ _ rfl rfl (by simp [ZEn]), fill_step _ 1 _ 1 1 _ _ rfl rfl (by simp [ZEn])]
  unfold Instr.fill EnA Bt.cells
  simp [ZEn, Value.cells, Bt.Z]
namespace Bt
def tr (b : Int) : En := ⟨2, b, 0, Z⟩
theorem tr_ok {b : Int} (h : 0 ≤ b ∧ b ≤ 63) : (tr b).ok := ⟨⟨by show (-9223372036854775808 : Int) ≤ 2; decide, by show (2 : Int) ≤ 9223372036854775807; decide⟩, ⟨by show _ ≤ b; omega, by show b ≤ _; omega⟩, in0, z_len, z_byt⟩
/-- The first k, a trim, and of the others the first ones. -/
def ins (L : List En) (a : Nat) (b : Int) (i : Nat) : List En := L.take a ++ [tr b] ++ (L.drop a).take (i - a)
theorem ins_zero (L : List En) (a : Nat) (b : Int) : ins L a b a = L.take a ++ [tr b] := by unfold ins; rw [Nat.sub_self, List.take_zero, List.append_nil]
theorem ins_succ (L : List En) (a : Nat) (b : Int) {i : Nat} (h : a ≤ i) (hi : i < L.length) : ins L a b i ++ [L.getD i en0] = ins L a b (i + 1) := by
  unfold ins
  rw [show i + 1 - a = i - a + 1 by omega, List.take_add_one, List.getElem?_drop, show a + (i - a) = i by omega, List.getElem?_eq_getElem hi, List.getD_eq_getElem?_getD, List.getElem?_eq_getElem hi]
  simp
theorem ins_all (L : List En) (a : Nat) (b : Int) : ins L a b L.length = L.take a ++ tr b :: L.drop a := by
  have e : (L.drop a).take (L.length - a) = L.drop a := List.take_of_length_le (by simp)
  unfold ins
  rw [e]
  simp
theorem ins_len (L : List En) (a : Nat) (b : Int) {i : Nat} (h : a ≤ i) (hi : i ≤ L.length) : (ins L a b i).length = i + 1 := by
  unfold ins
  simp
  omega
theorem ins_ok {L : List En} (h : ∀ x ∈ L, x.ok) (a : Nat) {b : Int} (hb : 0 ≤ b ∧ b ≤ 63) (i : Nat) : ∀ x ∈ ins L a b i, x.ok := fun x hx => by
  unfold ins at hx
  rw [List.mem_append, List.mem_append, List.mem_singleton] at hx
  rcases hx with (hx | rfl) | hx
  · exact h x (List.mem_of_mem_take hx)
  · exact tr_ok hb
  · exact h x (List.mem_of_mem_drop (List.mem_of_mem_take hx))
theorem ins_ck {t n : Int} {L : List En} (h : ck t n L = 0) (a : Nat) (ha : a ≤ L.length) {b : Int} (hb : 0 ≤ b ∧ b ≤ 63) : ck t n (ins L a b L.length) = if L.length = 16 then 17 else 0 := by
  obtain ⟨h1, h2, h3⟩ := ck_ok h
  have hl := ins_len L a b ha (Nat.le_refl _)
  by_cases h16 : L.length = 16
  · rw [if_pos h16, ck_many (by omega)]
  · rw [if_neg h16]
    refine ck_of (by omega) h2 ?_
    rw [ins_all]
    unfold tr
    rw [go_trim b hb, List.take_append_drop]
    exact h3
theorem less_ck {t n : Int} {L : List En} (h : ck t n L = 0) : ck t n (L.take (L.length - 1)) = 0 := by
  obtain ⟨h1, h2, h3⟩ := ck_ok h
  refine ck_of (by rw [List.length_take]; omega) h2 ?_
  rw [← List.dropLast_eq_take]
  exact go_less L _ h3
attribute [irreducible] ins tr
end Bt
set_option maxHeartbeats 2000000 in
set_option maxRecDepth 100000 in
theorem adds_out (X : Array Value) (v : Value) (m : Nat) (hX : X.size = 35) (w : World) (r : Int) (hc : ∀ z : World, z.heap[w.heap.size]? = some (.cells X 26 (0, 0)) → z.cell? ⟨w.heap.size, 34, none⟩ = some v)
    (hv : ∃ p c, v = .slice p m c) (hk : ∀ y, Below w.heap.size w y → Calls Try.prog 14 #[.agg X] y (InSay r y)) (h : 300 < m ∨ r ≠ 0) (at_ bl : Int) :
    Calls Try.prog 9 #[.agg X, .int .i64 at_, .int .i64 bl] w (YesSay w) := by
  have HWK : Hid (∀ y, Calls Try.prog 10 #[] y (YesSay y)) := fun y => works_any y
  obtain ⟨p, c, rfl⟩ := hv
  have HK := Lib.hid hk
  have HXS := Lib.hid hX
  have hsx := sm_info hX
  have HC := Lib.hid hc
  clear hk hX hc
  have B0 : Hid (Below w.heap.size w (w.alloc (.cells X 26))) := (Below.refl _ w).alloc (Nat.le_refl _) _
  have G0 : Hid ((w.alloc (.cells X 26)).heap[w.heap.size]? = some (.cells X 26 (0, 0))) := heap_alloc_new w _
  go_enter Try.func9, Try.ntmps9
  go_upto_region 1 with (fail)
  change Code.wp _ _ _ _ (w.alloc (.cells X 26))
  obtain ⟨w0, hw0⟩ : ∃ y, y = w.alloc (.cells X 26) := ⟨_, rfl⟩
  rw [← hw0] at B0 G0 ⊢
  clear hw0
  have c34 := HC.out _ G0.out
  by_cases h1 : 300 < m
  · have hgt : (m : Int) > 300 := by omega
    clear h1 h
    go_wp2_with (go_at_call 10; refine (HWK.out _).mono ?_; rintro e6 w6 ⟨rfl, hb6⟩)
    go_ret
    exact ⟨rfl, B0.out.trans (hb6.mono B0.out.size)⟩
  · have hgt : ¬ (m : Int) > 300 := by omega
    have hr : r ≠ 0 := by omega
    have hb0 : (r == 0) = false := by simp [hr]
    clear h1 h hr
    go_wp2_with (first
      | ((with_reducible refine row_load_g _ _ _ _ _ _ _ ?_ ?_ G0.out Try.underlying26 ?_ (sm_info HXS.out) ?_); (exact rfl); (exact rfl); (exact rfl))
      | (go_at_call 14; refine (HK.out _ B0.out).mono ?_; rintro e1 w1 ⟨rfl, hb1⟩)
      | (go_at_call 10; refine (HWK.out _).mono ?_; rintro e6 w6 ⟨rfl, hb6⟩))
    go_ret
    exact ⟨rfl, B0.out.trans ((hb1.trans (hb6.mono hb1.size)).mono B0.out.size)⟩
set_option maxHeartbeats 8000000 in
set_option maxRecDepth 100000 in
theorem adds_core (t n : Int) (P : List Int) (p : Option Addr) (m c : Nat) (L : List Bt.En) (hm : L.length = m) (w : World) (h : Sv w P p c L) (hck : Bt.ck t n L = 0) (at_ bl : Int) :
    Calls Try.prog 9 #[.agg (SmA t P n (.slice p m c)), .int .i64 at_, .int .i64 bl] w (YesSay w) := by
  have HWK : Hid (∀ y, Calls Try.prog 10 #[] y (YesSay y)) := fun y => works_any y
  have HV : Hid (Sv w P p c L) := h
  have hl16 : m ≤ 16 := by rw [← hm]; exact (Bt.ck_ok hck).1
  obtain ⟨A, hA, _, _⟩ := a32_agg P h.len
  have HX := Lib.hid (smx_of w.heap.size t n (.slice p m c) h.len hA)
  have HXE : Hid (∀ y : World, y.heap[w.heap.size]? = some (.cells (SmA t P n (.slice p m c)) 26 (0, 0)) → SmAt y w.heap.size t P n (.slice p m c)) := fun y hy => hy
  have HXS : Hid ((SmA t P n (.slice p m c)).size = 35) := HX.out.size
  have HX1 : Hid ((SmA t P n (.slice p m c)).all (·.oneCell') = true) := smA_one _ _ _ _ _ _
  have hsx := sm_info HXS.out
  have HP : Hid (∀ y, Below w.heap.size w y → Calls Try.prog 12 #[.agg (SmA t P n (.slice p m c))] y (PutOk (Bt.ofS t P n L) (56 + 56 * m) y)) := fun y hy => put_ok t n P p m c L hm y (HV.out.old hy) hck
  have HK : Hid (∀ y, Below w.heap.size w y → Calls Try.prog 14 #[.agg (SmA t P n (.slice p m c))] y (InSay 0 y)) := fun y hy => by rw [← hck]; exact check_any t n P p m c L hm y (HV.out.old hy)
  have HPK : Hid (∀ y, Calls Try.prog 25 #[.int .i64 at_, .int .i64 ((m : Nat) + 1)] y fun r w' => w' = y ∧ r = .returned (.int .i64 (pk at_ ((m : Nat) + 1) : Nat))) := fun y => pick_at at_ ((m : Nat) + 1) (by omega) (by omega) y
  have ha := pk_lt at_ ((m : Nat) + 1) (by omega)
  obtain ⟨a, hae⟩ : ∃ a, pk at_ ((m : Nat) + 1) = a := ⟨_, rfl⟩
  rw [hae] at HPK ha
  have HAM : Hid (a ≤ m) := by show _ ≤ _; omega
  have HPB : Hid (∀ y, Calls Try.prog 25 #[.int .i64 bl, .int .i64 64] y fun r w' => w' = y ∧ r = .returned (.int .i64 (pk bl 64 : Nat))) := fun y => pick_at bl 64 (by omega) (by omega) y
  have hb := pk_lt bl 64 (by omega)
  obtain ⟨bb, hbe⟩ : ∃ bb : Int, ((pk bl 64 : Nat) : Int) = bb := ⟨_, rfl⟩
  have HBB : Hid (0 ≤ bb ∧ bb ≤ 63) := by show _ ∧ _; omega
  rw [hbe] at HPB
  have HTR : Hid (Try.prog.built 50 [(0, .int .i64 2), (1, .int .i64 bb)] = some (EnA (Bt.tr bb))) := by unfold Bt.tr; exact built_trim bb
  have HTO : Hid ((Bt.tr bb).ok) := Bt.tr_ok HBB.out
  have HCP : Hid (∀ y k, Below w.heap.size w y → k ≤ m → Calls Try.prog 29 #[.slice p k c] y fun e w' => ∃ q d, e = .returned (.slice q k d) ∧ EsO y.heap.size w' (.slice q k d) (L.take k) ∧ Below y.heap.size y w') := fun y k hy hk => copys_any (L.take k) p k c (by rw [List.length_take]; omega) (by omega) y ((HV.out.es.old hy).take k)
  have HCI : Hid (Bt.ck t n (Bt.ins L a bb m) = if m = 16 then 17 else 0) := by have e := Bt.ins_ck hck a (by rw [hm]; exact HAM.out) HBB.out; rw [hm] at e; exact e
  have HCL : Hid (Bt.ck t n (L.take (m - 1)) = 0) := by have e := Bt.less_ck hck; rw [hm] at e; exact e
  have HIO : Hid (∀ i, ∀ x ∈ Bt.ins L a bb i, x.ok) := fun i => Bt.ins_ok h.es.ok a HBB.out i
  have HIL : Hid (∀ i, a ≤ i → i ≤ m → (Bt.ins L a bb i).length = i + 1) := fun i h1 h2 => Bt.ins_len L a bb h1 (by omega)
  have HIZ : Hid (L.take a ++ [Bt.tr bb] = Bt.ins L a bb a) := (Bt.ins_zero L a bb).symm
  have HIN : Hid (∀ i, a ≤ i → i < m → Bt.ins L a bb i ++ [L.getD i Bt.en0] = Bt.ins L a bb (i + 1)) := fun i h1 h2 => Bt.ins_succ L a bb h1 (by omega)
  have HM := Lib.hid hm
  have HLN := Lib.hid h.len
  have HLB := Lib.hid h.byt
  have hw1 : IntKind.i64.wrap ((m : Int) + 1) = (m : Int) + 1 := IntWalk.i64_in _ ⟨by omega, by omega⟩
  clear h hck hm hA hae hbe ha hb
  obtain ⟨X, hX⟩ : ∃ X, SmA t P n (.slice p m c) = X := ⟨_, rfl⟩
  have HXX := Lib.hid hX
  rw [hX] at HX HXE HXS HX1 HP HK hsx ⊢
  clear hX
  have B0 : Hid (Below w.heap.size w (w.alloc (.cells X 26))) := (Below.refl _ w).alloc (Nat.le_refl _) _
  have G0 : Hid ((w.alloc (.cells X 26)).heap[w.heap.size]? = some (.cells X 26 (0, 0))) := heap_alloc_new w _
  go_enter Try.func9, Try.ntmps9
  go_upto_region 1 with (fail)
  change Code.wp _ _ _ _ (w.alloc (.cells X 26))
  obtain ⟨w0, hw0⟩ : ∃ y, y = w.alloc (.cells X 26) := ⟨_, rfl⟩
  rw [← hw0] at B0 G0 ⊢
  clear hw0
  have c34 := (HX.out.at_ _ G0.out).2.2.1
  have hgt : ¬ (m : Int) > 300 := by omega
  go_upto_region 3 with (first
    | ((with_reducible refine row_load_g _ _ _ _ _ _ _ ?_ ?_ G0.out Try.underlying26 ?_ (sm_info HXS.out) ?_); (exact rfl); (exact rfl); (exact rfl))
    | (go_at_call 14; refine (HK.out _ B0.out).mono ?_; rintro e1 w1 ⟨rfl, hb1⟩))
  have B1 : Hid (Below w.heap.size w w1) := B0.out.trans (hb1.mono B0.out.size)
  have G1 : Hid (w1.heap[w.heap.size]? = some (.cells X 26 (0, 0))) := (hb1.block _ (lt_of_block G0.out)).trans G0.out
  clear hb1 c34 G0 B0 HK
  go_upto_region 4 with (first
    | ((with_reducible refine row_load _ _ _ _ _ _ _ ?_ G1.out Try.underlying26 ?_ (sm_info HXS.out) ?_); (exact rfl); (exact rfl))
    | (go_at_call 12; refine (HP.out _ B1.out).mono ?_; rintro e2 w2 ⟨p2, c2, rfl, HO2, HB2, HL2⟩))
  have B2 : Hid (Below w.heap.size w w2) := B1.out.trans (HL2.out.mono B1.out.size)
  have G2 : Hid (w2.heap[w.heap.size]? = some (.cells X 26 (0, 0))) := (HL2.out.block _ (lt_of_block G1.out)).trans G1.out
  have c34 := (HX.out.at_ _ G2.out).2.2.1
  clear HO2 HB2 HL2 G1 B1 HP
  go_upto_region 5 with (go_at_call 25; refine (HPK.out _).mono ?_; rintro e3 w3 ⟨hw3, rfl⟩; subst w3)
  clear c34 HPK
  go_upto_region 6 with (first
    | ((with_reducible refine row_load _ _ _ _ _ _ _ ?_ G2.out Try.underlying26 ?_ (sm_info HXS.out) ?_); (exact rfl); (exact rfl))
    | ((with_reducible refine row_store _ _ _ _ _ _ _ ?_ ?_ (heap_alloc_new _ _) (sm_info HXS.out) ?_ HX1.out ?_); (exact rfl); (exact rfl); (rw [HXS.out]; rfl); intro w4 G94 ch4))
  have K4 : Hid (Below w2.heap.size w2 w4) := ch4.below ((Below.refl _ w2).alloc (Nat.le_refl _) _) (Nat.le_refl _)
  have B4 : Hid (Below w.heap.size w w4) := B2.out.trans (K4.out.mono B2.out.size)
  have G4 : Hid (w4.heap[w.heap.size]? = some (.cells X 26 (0, 0))) := (K4.out.block _ (lt_of_block G2.out)).trans G2.out
  have HGG : Hid (w.heap.size < w2.heap.size) := lt_of_block G2.out
  obtain ⟨g9, hg9⟩ : ∃ g9, w2.heap.size = g9 := ⟨_, rfl⟩
  rw [hg9] at G94 HGG ⊢
  have S4 : Hid (SmAt w4 g9 t P n (.slice p m c)) := by unfold SmAt; rw [HXX.out]; exact G94.out
  have HG9 : Hid (g9 < w4.heap.size) := lt_of_block G94.out
  clear ch4 K4 G94 G2 B2 hg9
  have c34 := (HX.out.at_ _ G4.out).2.2.1
  have hac : (a : Int) ≤ (c : Int) := by have h1 := HV.out.es.cap; have h2 := HM.out; have h3 := HAM.out; omega
  go_upto_region 7 with (go_at_call 29; refine (HCP.out _ a B4.out HAM.out).mono ?_; rintro e5 w5 ⟨q5, d5, rfl, ho5, hb5⟩; have d34 : w5.cell? ⟨g9, 34, none⟩ = some (.slice p m c) := (S4.out.old hb5).c34 HLN.out; have f34 : w5.frozen? ⟨g9, 34, none⟩ = false := (S4.out.old hb5).fr 34)
  have B5 : Hid (Below w.heap.size w w5) := B4.out.trans (hb5.mono B4.out.size)
  have G5 : Hid (w5.heap[w.heap.size]? = some (.cells X 26 (0, 0))) := (hb5.block _ (lt_of_block G4.out)).trans G4.out
  have S5 : Hid (SmAt w5 g9 t P n (.slice p m c)) := S4.out.old hb5
  have HW5 : Hid (w4.heap.size ≤ w5.heap.size) := hb5.size
  have O5 : Hid (EsO w4.heap.size w5 (.slice q5 a d5) (L.take a)) := ho5
  obtain ⟨BB, hBB⟩ : ∃ BB, w4.heap.size = BB := ⟨_, rfl⟩
  rw [hBB] at O5 HG9 HW5
  clear G4 S4 B4 hb5 ho5 c34 d34 f34 hBB
  have Oc6 : Hid (Only g9 w5 (w5.setCell ⟨g9, 34, none⟩ (.slice q5 a d5))) := (Chg.setCell w5 ⟨g9, 34, none⟩ _).only
  have S6 : Hid (SmAt (w5.setCell ⟨g9, 34, none⟩ (.slice q5 a d5)) g9 t P n (.slice q5 a d5)) := S5.out.set HLN.out _
  obtain ⟨w6, hw6⟩ : ∃ y, y = w5.setCell ⟨g9, 34, none⟩ (.slice q5 a d5) := ⟨_, rfl⟩
  rw [← hw6] at Oc6 S6 ⊢
  clear hw6
  have G6 : Hid (w6.heap[w.heap.size]? = some (.cells X 26 (0, 0))) := (Oc6.out.block _ (lt_of_block G5.out) (Nat.ne_of_lt HGG.out)).trans G5.out
  have B6 : Hid (Below w.heap.size w w6) := Oc6.out.below B5.out (Nat.le_of_lt HGG.out) B5.out.size
  have O6 : Hid (EsO BB w6 (.slice q5 a d5) (L.take a)) := O5.out.only Oc6.out HG9.out
  have HW6 : Hid (BB ≤ w6.heap.size) := Nat.le_trans HW5.out Oc6.out.size
  have HTA : Hid ((L.take a).length = a) := by show _ = _; rw [List.length_take, HM.out]; have := HAM.out; omega
  have HTB : Hid (∀ y ∈ L.take a, y.ok) := fun y hy => HV.out.es.ok y (List.mem_of_mem_take hy)
  have ha1 : a ≤ 100000 := by have := HAM.out; omega
  clear O5 G5 B5 S5 HW5 Oc6
  refine wp_region_any (by kernel_rfl) ?_
  change wpAny _ _ _ _ _ _ _ (World.drew _)
  have Sz : Hid (SmAt w6.drew g9 t P n (.slice q5 a d5)) := S6.out.drew
  have Gz : Hid (w6.drew.heap[w.heap.size]? = some (.cells X 26 (0, 0))) := G6.out
  have Bz : Hid (Below w.heap.size w w6.drew) := B6.out.drew
  have Oz : Hid (EsO BB w6.drew (.slice q5 a d5) (L.take a)) := O6.out
  have Lz : Hid (BB ≤ w6.drew.heap.size) := HW6.out
  obtain ⟨z, hz⟩ : ∃ y, y = w6.drew := ⟨_, rfl⟩
  rw [← hz] at Sz Gz Bz Oz Lz ⊢
  clear hz
  refine wpAny_of_L (S := fun y => SmAt y g9 t P n (.slice q5 a d5)) (k := 8) _ _ _ _ ?_
  refine anyL_take 8 0 41 (.pointer (some ⟨g9, 34, none⟩)) Sz.out rfl (by kernel_rfl) (by kernel_rfl) (by kernel_rfl) (by kernel_rfl) (fun _ _ _ h => h) (by intro y hy; go_simp) ?_
  try simp only [Act.put, List.setIfInBounds_toArray, List.set_cons_zero, List.set_cons_succ]
  refine anyL_take 8 1 42 (.slice q5 a d5) Sz.out rfl (by kernel_rfl) (by kernel_rfl) (by kernel_rfl) (by kernel_rfl) (fun _ _ _ h => h) (by intro y hy; have c := hy.c34 HLN.out; go_simp) ?_
  try simp only [Act.put, List.setIfInBounds_toArray, List.set_cons_zero, List.set_cons_succ]
  refine anyL_take 8 2 43 (.int .i64 bl) Sz.out rfl (by kernel_rfl) (by kernel_rfl) (by kernel_rfl) (by kernel_rfl) (fun _ _ _ h => h) (by intro y hy; go_simp) ?_
  try simp only [Act.put, List.setIfInBounds_toArray, List.set_cons_zero, List.set_cons_succ]
  refine anyL_one 8 3 (by kernel_rfl) ?_
  refine wpOp_step rfl (fun Kc hKc => ?_)
  go_simp
  refine (HPB.out _).mono ?_
  rintro e7 w7 ⟨hw7, rfl⟩
  subst w7
  dsimp only
  refine hKc _ _ ⟨fun _ => Sz.out, ?_⟩
  clear hKc Kc
  try simp only [Act.put, List.setIfInBounds_toArray, List.set_cons_zero, List.set_cons_succ]
  refine anyL_take 8 4 45 (.agg (EnA (Bt.tr bb))) Sz.out rfl (by kernel_rfl) (by kernel_rfl) (by kernel_rfl) (by kernel_rfl) (fun _ _ _ h => h) (fun y hy => exec_bij _ _ _ _ _ _ _ _ rfl rfl HTR.out) ?_
  try simp only [Act.put, List.setIfInBounds_toArray, List.set_cons_zero, List.set_cons_succ]
  refine anyL_one 8 5 (by kernel_rfl) ?_
  refine op_plain 5 _ rfl rfl (bs_one_op _ (Bt.tr bb) HTO.out rfl ?_)
  refine ⟨fun _ => Sz.out.old ((Below.refl _ z).alloc (Nat.le_refl _) _), ?_⟩
  try simp only [Act.put, List.setIfInBounds_toArray, List.set_cons_zero, List.set_cons_succ]
  refine anyL_one 8 6 (by kernel_rfl) ?_
  refine op_plain 6 _ rfl rfl (app_en_op _ _ BB _ (L.take a) (Bt.tr bb) rfl rfl Oz.out HTB.out HTO.out a HTA.out ha1 Lz.out ?_)
  intro q8 d8 w8 On Kn _
  have Sn : Hid (SmAt w8 g9 t P n (.slice q5 a d5)) := (Kn.out.block _ HG9.out).trans Sz.out
  have Gn : Hid (w8.heap[w.heap.size]? = some (.cells X 26 (0, 0))) := (Kn.out.block _ (Nat.lt_trans HGG.out HG9.out)).trans Gz.out
  have Bn : Hid (Below w.heap.size w w8) := Bz.out.trans (Kn.out.mono (Nat.le_of_lt (Nat.lt_trans HGG.out HG9.out)))
  have Ln : Hid (BB ≤ w8.heap.size) := Nat.le_trans Lz.out Kn.out.size
  have On2 : Hid (EsO BB w8 (.slice q8 (a + 1) d8) (Bt.ins L a bb a)) := by rw [← HIZ.out]; exact On.out
  refine ⟨fun _ => Sn.out, ?_⟩
  try simp only [Act.put, List.setIfInBounds_toArray, List.set_cons_zero, List.set_cons_succ]
  refine anyL_take 8 7 48 (.pointer (some ⟨g9, 34, none⟩)) Sn.out rfl (by kernel_rfl) (by kernel_rfl) (by kernel_rfl) (by kernel_rfl) (fun _ _ _ h => h) (by intro y hy; go_simp) ?_
  try simp only [Act.put, List.setIfInBounds_toArray, List.set_cons_zero, List.set_cons_succ]
  have cst := Sn.out.c34 HLN.out
  have fst := Sn.out.fr 34
  have Oc : Hid (Only g9 w8 (w8.setCell ⟨g9, 34, none⟩ (.slice q8 (a + 1) d8))) := (Chg.setCell w8 ⟨g9, 34, none⟩ _).only
  have SwA : Hid (SmAt (w8.setCell ⟨g9, 34, none⟩ (.slice q8 (a + 1) d8)) g9 t P n (.slice q8 (a + 1) d8)) := Sn.out.set HLN.out _
  refine anyL_one 8 8 (by kernel_rfl) ?_
  refine wpOp_step rfl (fun Kc hKc => ?_)
  go_simp
  change Kc _ (w8.setCell ⟨g9, 34, none⟩ (.slice q8 (a + 1) d8))
  obtain ⟨wA, hwA⟩ : ∃ y, y = w8.setCell ⟨g9, 34, none⟩ (.slice q8 (a + 1) d8) := ⟨_, rfl⟩
  rw [← hwA] at Oc SwA ⊢
  clear hwA
  refine hKc _ _ ⟨fun h => absurd rfl h, ?_⟩
  clear hKc Kc
  try simp only [Act.put, List.setIfInBounds_toArray, List.set_cons_zero, List.set_cons_succ]
  refine anyL_done (by kernel_rfl) ?_ _
  have GwA : Hid (wA.heap[w.heap.size]? = some (.cells X 26 (0, 0))) := (Oc.out.block _ (lt_of_block Gn.out) (Nat.ne_of_lt HGG.out)).trans Gn.out
  have BwA : Hid (Below w.heap.size w wA) := Oc.out.below Bn.out (Nat.le_of_lt HGG.out) Bn.out.size
  have LwA : Hid (BB ≤ wA.heap.size) := Nat.le_trans Ln.out Oc.out.size
  have OwA : Hid (EsO BB wA (.slice q8 (a + 1) d8) (Bt.ins L a bb a)) := On2.out.only Oc.out HG9.out
  clear On On2 Kn Sn Gn Bn Ln cst fst Oc Sz Gz Bz Oz Lz S6 G6 B6 O6 HW6 HTA HTR HTO HPB HIZ
  go_wp2
  go_loopw [10] (fun v10 wr => ∃ (i : Nat) (qv : Option Addr) (dv : Nat), a ≤ i ∧ i ≤ m ∧ v10 = .int .i64 i ∧ Hid (SmAt wr g9 t P n (.slice qv (i + 1) dv)) ∧ Hid (wr.heap[w.heap.size]? = some (.cells X 26 (0, 0))) ∧ Hid (Below w.heap.size w wr) ∧ Hid (EsO BB wr (.slice qv (i + 1) dv) (Bt.ins L a bb i)) ∧ Hid (BB ≤ wr.heap.size)) (fun v10 _ => m - (intOf v10).toNat)
  case atStart => exact ⟨a, q8, d8, Nat.le_refl _, HAM.out, rfl, SwA.out, GwA.out, BwA.out, OwA.out, LwA.out⟩
  case round =>
    clear SwA GwA BwA OwA LwA
    obtain ⟨i, qv, dv, hai, him, rfl, HS, HG, HB, HO, HL⟩ := hrel
    have c34 := (HX.out.at_ _ HG.out).2.2.1
    by_cases hlt : i < m
    · obtain ⟨ab, ao, hpp, _⟩ := HV.out.es.at_ (by rw [HM.out]; omega)
      subst hpp
      have HRG : Hid (wr.rangeAt ab (ao + i * 35) (EnA (L.getD i Bt.en0)).toList) := (HV.out.es.old HB.out).rng (by rw [HM.out]; exact hlt)
      have HOK : Hid ((L.getD i Bt.en0).ok) := HV.out.es.getD i
      have HNX := Lib.hid (HIN.out i hai hlt)
      have HLL : Hid ((Bt.ins L a bb i).length = i + 1) := HIL.out i hai him
      have hil : i + 1 ≤ 100000 := by omega
      have HABW : Hid (ab < w.heap.size) := World.block_lt_of_cell? w _ ((HV.out.es.rng (i := i) (by rw [HM.out]; exact hlt)) 0 (.int .i64 (L.getD i Bt.en0).k) (by unfold EnA Bt.cells; rfl))
      generalize L.getD i Bt.en0 = x at *
      have hi0 : 0 ≤ (i : Int) := by omega
      have hi1 : (i : Int) < (m : Int) := by omega
      go_upto_region 11 with (fail)
      refine wp_region_any (by kernel_rfl) ?_
      change wpAny _ _ _ _ _ _ _ (World.drew _)
      have Sz : Hid (SmAt wr.drew g9 t P n (.slice qv (i + 1) dv)) := HS.out.drew
      have Gz : Hid (wr.drew.heap[w.heap.size]? = some (.cells X 26 (0, 0))) := HG.out
      have Bz : Hid (Below w.heap.size w wr.drew) := HB.out.drew
      have Oz : Hid (EsO BB wr.drew (.slice qv (i + 1) dv) (Bt.ins L a bb i)) := HO.out
      have Lz : Hid (BB ≤ wr.drew.heap.size) := HL.out
      have Rz : Hid (wr.drew.rangeAt ab (ao + i * 35) (EnA x).toList) := HRG.out
      obtain ⟨z, hz⟩ : ∃ y, y = wr.drew := ⟨_, rfl⟩
      rw [← hz] at Sz Gz Bz Oz Lz Rz ⊢
      clear hz
      refine wpAny_of_L (S := fun y => (SmAt y g9 t P n (.slice qv (i + 1) dv) ∧ y.heap[w.heap.size]? = some (.cells X 26 (0, 0)) ∧ y.rangeAt ab (ao + i * 35) (EnA x).toList)) (k := 10) _ _ _ _ ?_
      refine anyL_take 10 0 57 (.pointer (some ⟨g9, 34, none⟩)) ⟨Sz.out, Gz.out, Rz.out⟩ rfl (by kernel_rfl) (by kernel_rfl) (by kernel_rfl) (by kernel_rfl) (fun _ _ _ h => h) (by intro y hy; go_simp) ?_
      try simp only [Act.put, List.setIfInBounds_toArray, List.set_cons_zero, List.set_cons_succ]
      refine anyL_take 10 1 58 (.slice qv (i + 1) dv) ⟨Sz.out, Gz.out, Rz.out⟩ rfl (by kernel_rfl) (by kernel_rfl) (by kernel_rfl) (by kernel_rfl) (fun _ _ _ h => h) (by intro y hy; have c := hy.1.c34 HLN.out; go_simp) ?_
      try simp only [Act.put, List.setIfInBounds_toArray, List.set_cons_zero, List.set_cons_succ]
      refine anyL_take 10 2 59 (.pointer (some ⟨w.heap.size, 34, none⟩)) ⟨Sz.out, Gz.out, Rz.out⟩ rfl (by kernel_rfl) (by kernel_rfl) (by kernel_rfl) (by kernel_rfl) (fun _ _ _ h => h) (by intro y hy; go_simp) ?_
      try simp only [Act.put, List.setIfInBounds_toArray, List.set_cons_zero, List.set_cons_succ]
      refine anyL_take 10 3 60 (.slice (some ⟨ab, ao, none⟩) m c) ⟨Sz.out, Gz.out, Rz.out⟩ rfl (by kernel_rfl) (by kernel_rfl) (by kernel_rfl) (by kernel_rfl) (fun _ _ _ h => h) (by intro y hy; have c := (HX.out.at_ _ hy.2.1).2.2.1; go_simp) ?_
      try simp only [Act.put, List.setIfInBounds_toArray, List.set_cons_zero, List.set_cons_succ]
      refine anyL_take 10 4 61 (.int .i64 (i : Nat)) ⟨Sz.out, Gz.out, Rz.out⟩ rfl (by kernel_rfl) (by kernel_rfl) (by kernel_rfl) (by kernel_rfl) (fun _ _ _ h => h) (by intro y hy; go_simp) ?_
      try simp only [Act.put, List.setIfInBounds_toArray, List.set_cons_zero, List.set_cons_succ]
      refine anyL_take 10 5 62 (.pointer (some ⟨ab, ao + i * 35, none⟩)) ⟨Sz.out, Gz.out, Rz.out⟩ rfl (by kernel_rfl) (by kernel_rfl) (by kernel_rfl) (by kernel_rfl) (fun _ _ _ h => h) (by intro y hy; go_simp) ?_
      try simp only [Act.put, List.setIfInBounds_toArray, List.set_cons_zero, List.set_cons_succ]
      refine anyL_take 10 6 63 (.agg (EnA x)) ⟨Sz.out, Gz.out, Rz.out⟩ rfl (by kernel_rfl) (by kernel_rfl) (by kernel_rfl) (by kernel_rfl) (fun _ _ _ h => h) (fun y hy => exec_arr _ _ ab (ao + i * 35) _ _ rfl hy.2.2 Try.underlying50 rfl (en_info HOK.out)) ?_
      try simp only [Act.put, List.setIfInBounds_toArray, List.set_cons_zero, List.set_cons_succ]
      refine anyL_one 10 7 (by kernel_rfl) ?_
      refine op_plain 7 _ rfl rfl (bs_one_op _ x HOK.out rfl ?_)
      refine ⟨fun _ => ⟨Sz.out.old ((Below.refl _ z).alloc (Nat.le_refl _) _), (heap_oldX _ _ (lt_of_block Gz.out)).trans Gz.out, rng_old Rz.out ((Below.refl _ z).alloc (Nat.le_refl _) _)⟩, ?_⟩
      try simp only [Act.put, List.setIfInBounds_toArray, List.set_cons_zero, List.set_cons_succ]
      refine anyL_one 10 8 (by kernel_rfl) ?_
      refine op_plain 8 _ rfl rfl (app_en_op _ _ BB _ (Bt.ins L a bb i) x rfl rfl Oz.out (HIO.out i) HOK.out (i + 1) HLL.out hil Lz.out ?_)
      intro q8 d8 w8 On Kn _
      have Sn : Hid (SmAt w8 g9 t P n (.slice qv (i + 1) dv)) := (Kn.out.block _ HG9.out).trans Sz.out
      have Gn : Hid (w8.heap[w.heap.size]? = some (.cells X 26 (0, 0))) := (Kn.out.block _ (Nat.lt_trans HGG.out HG9.out)).trans Gz.out
      have Bn : Hid (Below w.heap.size w w8) := Bz.out.trans (Kn.out.mono (Nat.le_of_lt (Nat.lt_trans HGG.out HG9.out)))
      have Ln : Hid (BB ≤ w8.heap.size) := Nat.le_trans Lz.out Kn.out.size
      have Rn : Hid (w8.rangeAt ab (ao + i * 35) (EnA x).toList) := fun j u hu => (Kn.out.cell (p := ⟨ab, ao + i * 35 + j, none⟩) (Nat.lt_trans HABW.out (Nat.lt_trans HGG.out HG9.out))).trans (Rz.out j u hu)
      have On2 : Hid (EsO BB w8 (.slice q8 (i + 1 + 1) d8) (Bt.ins L a bb (i + 1))) := by rw [← HNX.out]; exact On.out
      refine ⟨fun _ => ⟨Sn.out, Gn.out, Rn.out⟩, ?_⟩
      try simp only [Act.put, List.setIfInBounds_toArray, List.set_cons_zero, List.set_cons_succ]
      refine anyL_take 10 9 66 (.pointer (some ⟨g9, 34, none⟩)) ⟨Sn.out, Gn.out, Rn.out⟩ rfl (by kernel_rfl) (by kernel_rfl) (by kernel_rfl) (by kernel_rfl) (fun _ _ _ h => h) (by intro y hy; go_simp) ?_
      try simp only [Act.put, List.setIfInBounds_toArray, List.set_cons_zero, List.set_cons_succ]
      have cst := Sn.out.c34 HLN.out
      have fst := Sn.out.fr 34
      have Oc : Hid (Only g9 w8 (w8.setCell ⟨g9, 34, none⟩ (.slice q8 (i + 1 + 1) d8))) := (Chg.setCell w8 ⟨g9, 34, none⟩ _).only
      have SwA : Hid (SmAt (w8.setCell ⟨g9, 34, none⟩ (.slice q8 (i + 1 + 1) d8)) g9 t P n (.slice q8 (i + 1 + 1) d8)) := Sn.out.set HLN.out _
      refine anyL_one 10 10 (by kernel_rfl) ?_
      refine wpOp_step rfl (fun Kc hKc => ?_)
      go_simp
      change Kc _ (w8.setCell ⟨g9, 34, none⟩ (.slice q8 (i + 1 + 1) d8))
      obtain ⟨wA, hwA⟩ : ∃ y, y = w8.setCell ⟨g9, 34, none⟩ (.slice q8 (i + 1 + 1) d8) := ⟨_, rfl⟩
      rw [← hwA] at Oc SwA ⊢
      clear hwA
      refine hKc _ _ ⟨fun h => absurd rfl h, ?_⟩
      clear hKc Kc
      try simp only [Act.put, List.setIfInBounds_toArray, List.set_cons_zero, List.set_cons_succ]
      refine anyL_done (by kernel_rfl) ?_ _
      have GwA : Hid (wA.heap[w.heap.size]? = some (.cells X 26 (0, 0))) := (Oc.out.block _ (lt_of_block Gn.out) (Nat.ne_of_lt HGG.out)).trans Gn.out
      have BwA : Hid (Below w.heap.size w wA) := Oc.out.below Bn.out (Nat.le_of_lt HGG.out) Bn.out.size
      have LwA : Hid (BB ≤ wA.heap.size) := Nat.le_trans Ln.out Oc.out.size
      have OwA : Hid (EsO BB wA (.slice q8 (i + 1 + 1) d8) (Bt.ins L a bb (i + 1))) := On2.out.only Oc.out HG9.out
      clear On On2 Kn Sn Gn Bn Ln Rn cst fst Oc Sz Gz Bz Oz Lz Rz HRG
      go_wp2
      exact ⟨⟨i + 1, q8, d8, by omega, by omega, by go_num, SwA.out, GwA.out, BwA.out, OwA.out, LwA.out⟩, by simp [intOf]; omega⟩
    · obtain rfl : i = m := by omega
      obtain ⟨pq, cq, hpq, HEQ⟩ := HO.out.es (HIO.out i)
      rw [HIL.out i hai him] at hpq
      cases hpq
      have HSV : Hid (∀ y, Below wr.heap.size wr y → Sv y P qv dv (Bt.ins L a bb i)) := fun y hy => ⟨HLN.out, HLB.out, HEQ.old hy⟩
      have hilen := HIL.out i hai him
      have HPN : Hid (i = 16 → ∀ y, Below wr.heap.size wr y → Calls Try.prog 12 #[.agg (SmA t P n (.slice qv (i + 1) dv))] y (PutNo 17 y)) := fun h16 y hy => put_no t n P qv (i + 1) dv _ hilen y (HSV.out y hy) 17 (by rw [HCI.out, if_pos h16]) (by omega)
      have HPY : Hid (i ≠ 16 → ∀ y, Below wr.heap.size wr y → Calls Try.prog 12 #[.agg (SmA t P n (.slice qv (i + 1) dv))] y (PutOk (Bt.ofS t P n (Bt.ins L a bb i)) (56 + 56 * (i + 1)) y)) := fun h16 y hy => put_ok t n P qv (i + 1) dv _ hilen y (HSV.out y hy) (by rw [HCI.out, if_neg h16])
      have HXS2 : Hid ((SmA t P n (.slice qv (i + 1) dv)).size = 35) := smA_size _ _ _ HLN.out
      have HS' : Hid (wr.heap[g9]? = some (.cells (SmA t P n (.slice qv (i + 1) dv)) 26 (0, 0))) := HS.out
      clear hlt HSV HEQ hilen HO HIN HIL HIO HCI
      generalize SmA t P n (.slice qv (i + 1) dv) = X2 at *
      generalize Bt.ofS t P n (Bt.ins L a bb i) = RR at *
      by_cases h16 : i = 16
      · have HP2 := Lib.hid (HPN.out h16)
        have h16' : ((i : Int) == 16) = true := by rw [h16]; rfl
        clear HPN HPY h16
        go_wp2_with (first
          | ((with_reducible refine row_load _ _ _ _ _ _ _ ?_ HS'.out Try.underlying26 ?_ (sm_info HXS2.out) ?_); (exact rfl); (exact rfl))
          | (go_at_call 12; refine (HP2.out _ (Below.refl _ _)).mono ?_; rintro e8 w8 ⟨rfl, hb8⟩; have c8 := (HX.out.at_ _ ((hb8.block _ (lt_of_block HG.out)).trans HG.out)).2.2.1)
          | (go_at_call 10; refine (HWK.out _).mono ?_; rintro e9 w9 ⟨rfl, hb9⟩))
        go_ret
        exact ⟨rfl, HB.out.trans ((hb8.trans (hb9.mono hb8.size)).mono HB.out.size)⟩
      · have HP2 := Lib.hid (HPY.out h16)
        have h16' : ((i : Int) == 16) = false := by rw [beq_eq_false_iff_ne]; omega
        have h16'' : ¬ (i : Int) = 16 := by omega
        have hwl : 56 + 56 * (i : Int) + 56 = 56 + 56 * ((i : Int) + 1) := by omega
        clear HPN HPY h16
        by_cases hz : 0 < i
        · have hz' : (i : Int) > 0 := by omega
          have hwi : IntKind.i64.wrap ((i : Int) - 1) = (i : Int) - 1 := IntWalk.i64_in _ ⟨by omega, by omega⟩
          obtain ⟨k, hk⟩ : ∃ k, i = k + 1 := ⟨i - 1, by omega⟩
          have hki : (i : Int) - 1 = (k : Int) := by omega
          have HKI := Lib.hid hk
          have hkc : (k : Int) ≤ (c : Int) := by have h1 := HV.out.es.cap; have h2 := HM.out; omega
          have HCL2 : Hid (Bt.ck t n (L.take k) = 0) := by have e := HCL.out; rw [hk] at e; exact e
          clear hk hz
          go_upto_region 19 with (first
            | ((with_reducible refine row_load _ _ _ _ _ _ _ ?_ HS'.out Try.underlying26 ?_ (sm_info HXS2.out) ?_); (exact rfl); (exact rfl))
            | (go_at_call 12; refine (HP2.out _ (Below.refl _ _)).mono ?_; rintro e8 w8 ⟨p8, c8, rfl, HO8, HB8, HL8⟩; have c8 := (HX.out.at_ _ ((HL8.out.block _ (lt_of_block HG.out)).trans HG.out)).2.2.1)
            | (go_at_call 29; refine (HCP.out _ k (HB.out.trans (HL8.out.mono HB.out.size)) (by have := HKI.out; omega)).mono ?_; rintro e9 w9 ⟨q9, d9, rfl, ho9, hb9⟩; have S9 : Hid (SmAt w9 g9 t P n (.slice qv (i + 1) dv)) := (HS.out.old HL8.out).old hb9; have d34 := S9.out.c34 HLN.out; have f34 := S9.out.fr 34))
          have HL8k : Hid (g9 < w8.heap.size) := lt_of_block (HS.out.old HL8.out)
          have S10 : Hid (SmAt (w9.setCell ⟨g9, 34, none⟩ (.slice q9 k d9)) g9 t P n (.slice q9 k d9)) := S9.out.set HLN.out _
          have Oc : Hid (Only g9 w9 (w9.setCell ⟨g9, 34, none⟩ (.slice q9 k d9))) := (Chg.setCell w9 ⟨g9, 34, none⟩ _).only
          obtain ⟨w10, hw10⟩ : ∃ y, y = w9.setCell ⟨g9, 34, none⟩ (.slice q9 k d9) := ⟨_, rfl⟩
          rw [← hw10] at Oc S10 ⊢
          clear hw10 d34 f34
          have HTK : Hid (∀ y ∈ L.take k, y.ok) := fun y hy => HV.out.es.ok y (List.mem_of_mem_take hy)
          have O10 : Hid (EsO w8.heap.size w10 (.slice q9 k d9) (L.take k)) := ho9.only Oc.out HL8k.out
          have HCK : Hid (Calls Try.prog 14 #[.agg (SmA t P n (.slice q9 k d9))] w10 (InSay 0 w10)) := by
            have hlk : (L.take k).length = k := by rw [List.length_take, HM.out]; have := HKI.out; omega
            obtain ⟨q', d', hq, hes⟩ := O10.out.es HTK.out
            rw [hlk] at hq
            cases hq
            have e := check_any t n P q9 k d9 (L.take k) hlk w10 ⟨HLN.out, HLB.out, hes⟩
            rw [HCL2.out] at e
            exact e
          have HX3 : Hid ((SmA t P n (.slice q9 k d9)).size = 35) := smA_size _ _ _ HLN.out
          have S10' : Hid (w10.heap[g9]? = some (.cells (SmA t P n (.slice q9 k d9)) 26 (0, 0))) := S10.out
          have BW8 : Hid (Below w.heap.size w w8) := HB.out.trans (HL8.out.mono HB.out.size)
          have BW9 : Hid (Below w.heap.size w w9) := BW8.out.trans (hb9.mono BW8.out.size)
          have BW10 : Hid (Below w.heap.size w w10) := Oc.out.below BW9.out (Nat.le_of_lt HGG.out) BW9.out.size
          clear ho9 hb9 S9 S10 O10 Oc c8 HO8 HB8 HL8 BW8 BW9
          go_wp2_with (first
            | ((with_reducible refine row_load _ _ _ _ _ _ _ ?_ S10'.out Try.underlying26 ?_ (sm_info HX3.out) ?_); (exact rfl); (exact rfl))
            | (go_at_call 14; refine HCK.out.mono ?_; rintro e11 w11 ⟨rfl, hb11⟩)
            | (go_at_call 10; refine (HWK.out _).mono ?_; rintro e12 w12 ⟨rfl, hb12⟩))
          go_ret
          exact ⟨rfl, BW10.out.trans ((hb11.trans (hb12.mono hb11.size)).mono BW10.out.size)⟩
        · have hz' : ¬ (i : Int) > 0 := by omega
          clear hz
          go_wp2_with (first
            | ((with_reducible refine row_load _ _ _ _ _ _ _ ?_ HS'.out Try.underlying26 ?_ (sm_info HXS2.out) ?_); (exact rfl); (exact rfl))
            | (go_at_call 12; refine (HP2.out _ (Below.refl _ _)).mono ?_; rintro e8 w8 ⟨p8, c8', rfl, HO8, HB8, HL8⟩; have c8 := (HX.out.at_ _ ((HL8.out.block _ (lt_of_block HG.out)).trans HG.out)).2.2.1)
            | (go_at_call 10; refine (HWK.out _).mono ?_; rintro e9 w9 ⟨rfl, hb9⟩))
          go_ret
          exact ⟨rfl, HB.out.trans ((HL8.out.trans (hb9.mono HL8.out.size)).mono HB.out.size)⟩
theorem adds_any (t n : Int) (_ht : Pk.In64 t) (_hn : Pk.In64 n) (P : List Int) (p : Option Addr) (m c : Nat) (L : List Bt.En) (hm : L.length = m) (at_ bl : Int) (w : World) (h : Sv w P p c L) :
    Calls Try.prog 9 #[.agg (SmA t P n (.slice p m c)), .int .i64 at_, .int .i64 bl] w (YesSay w) := by
  by_cases hall : 300 < m ∨ Bt.ck t n L ≠ 0
  · refine adds_out _ (.slice p m c) m (smA_size t n _ h.len) w _ (fun z hz => ?_) ⟨p, c, rfl⟩ (fun y hy => check_any t n P p m c L hm y (h.old hy)) hall at_ bl
    have a1 : SmAt z w.heap.size t P n (.slice p m c) := hz
    exact a1.c34 h.len
  · exact adds_core t n P p m c L hm w h (by omega) at_ bl
end Go.Proofs.Ytkgefogkdmbciaa

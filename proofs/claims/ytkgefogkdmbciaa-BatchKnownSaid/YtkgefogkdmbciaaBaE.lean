/-
  Contracts: batch.within, alone.
-/
import Derived.Test.YtkgefogkdmbciaaBaD
namespace Go.Proofs.Ytkgefogkdmbciaa
open Go.RowKit

/-- The cells of one entry, as they are loaded. -/
structure EnAt (y : World) (g o : Nat) (x : Bt.En) : Prop where
  ck : y.cell? ⟨g, o, none⟩ = some (.int .i64 x.k)
  cb : y.cell? ⟨g, o + 1, none⟩ = some (.int .i64 x.b)
  cs : y.cell? ⟨g, o + 2, none⟩ = some (.int .i64 x.s)
  cu : ∀ A : Array Value, A32 x.u = .agg A → y.rangeAt g (o + 3) A.toList
theorem en_at {y : World} {g o : Nat} {x : Bt.En} (h : y.rangeAt g o (Bt.cells x)) : EnAt y g o x := by
  unfold Bt.cells at h
  refine ⟨h 0 _ rfl, h 1 _ rfl, h 2 _ rfl, fun A e j v hv => ?_⟩
  unfold A32 at e
  cases e
  have h1 := h (j + 3) v (by simpa using hv)
  rw [show o + (j + 3) = o + 3 + j by omega] at h1
  exact h1
theorem box_rng {y : World} {g : Nat} {x : Bt.En} {t : TypeId} {fr : Nat × Nat} (h : y.heap[g]? = some (.cells (EnA x) t fr)) : y.rangeAt g 0 (Bt.cells x) := fun j v hv => by
  rw [cell_of_row y g (0 + j) _ _ _ h, Nat.zero_add]
  simpa [EnA] using hv
theorem en_info {x : Bt.En} (h : x.ok) : (Try.prog.info? 50).map (·.size) = some (EnA x).size := by rw [Try.sizeEn, enA_size h]
set_option maxHeartbeats 1000000 in
theorem within_any (v a b : Int) (w : World) : Calls Try.prog 34 #[.int .i64 v, .int .i64 a, .int .i64 b] w fun e w' => e = .returned (.bool (decide (a ≤ v ∧ v ≤ b))) ∧ w' = w := by
  by_cases h1 : a ≤ v
  · have hb : decide (a ≤ v ∧ v ≤ b) = decide (v ≤ b) := by simp [h1]
    rw [hb]
    have hg : v ≥ a := h1
    go_enter Try.func34, Try.ntmps34
    go_wp2
    go_ret
    exact ⟨rfl, rfl⟩
  · have hb : decide (a ≤ v ∧ v ≤ b) = false := by simp [h1]
    rw [hb]
    have hg : ¬ v ≥ a := h1
    go_enter Try.func34, Try.ntmps34
    go_wp2
    go_ret
    exact ⟨rfl, rfl⟩
def InSay (n : Int) (w : World) (e : Ending) (w' : World) : Prop := e = .returned (.int .i64 n) ∧ Below w.heap.size w w'
theorem zero_a32 : Try.prog.built 23 [] = some (List.replicate 32 (Value.int .u8 0)).toArray := by kernel_rfl
section
variable {P : Program} {ops : Array Oper} {rest : List Oper} {a : Act} {w : World} {Q : Exit → Act → World → Prop} {D : Option Tmp} {T : TypeId} {ps : String} {af : Array Edge} {gd : Option (Nat × Bool)}
theorem build0_g (t : TypeId) (R : Array Value) (hw : Region.wanted { dst := D, op := .build t #[], type := T, pos := ps, after := af, guard := gd } (yielded ops a.tmps) = true) (hr : P.built t [] = some R) (h : wpList P ops Q rest (a.put D (.agg R)) w) :
    wpList P ops Q ({ dst := D, op := .build t #[], type := T, pos := ps, after := af, guard := gd } :: rest) a w :=
  BigFrame.wpList_want hw fun K hK => by
    have hrun := run_build (P := P) w t #[] R hr
    unfold Oper.wp execOp
    simp only [List.map_toArray, List.map_nil, hrun, Sem.run_bind, Sem.run_pure, Result.andThen_ok]
    exact hK _ _ h
end
theorem Bt.al1 {x : Bt.En} (h : x.k = 1) {p q : Bool} (hp : decide (0 ≤ x.b ∧ x.b ≤ 63) = p) (hq : decide (0 ≤ x.s ∧ x.s ≤ 63) = q) : Bt.al x = if p && q then 0 else 7 := by
  unfold Bt.al
  rw [if_pos h, ← hp, ← hq]
  simp [and_assoc]
theorem Bt.al3 {x : Bt.En} (h : x.k = 3) {p q : Bool} (hp : decide (0 ≤ x.b ∧ x.b ≤ 8) = p) (hq : decide (0 ≤ x.s ∧ x.s ≤ 63) = q) : Bt.al x = if p && q then 0 else 7 := by
  unfold Bt.al
  rw [if_neg (by omega), if_pos h, ← hp, ← hq]
  simp [and_assoc]
theorem Bt.al2 {x : Bt.En} (h : x.k = 2) {p q r : Bool} (hp : decide (0 ≤ x.b ∧ x.b ≤ 63) = p) (hq : (x.s == 0) = q) (hr : decide (x.u = Bt.Z) = r) : Bt.al x = if p && q && r then 0 else 7 := by
  unfold Bt.al
  rw [if_neg (by omega), if_neg (by omega), if_pos h, ← hp, ← hq, ← hr]
  simp [and_assoc]
theorem Bt.al0 {x : Bt.En} (h1 : ¬ x.k = 1) (h2 : ¬ x.k = 2) (h3 : ¬ x.k = 3) : Bt.al x = 5 := by
  unfold Bt.al
  rw [if_neg h1, if_neg h3, if_neg h2]
set_option maxHeartbeats 2000000 in
set_option maxRecDepth 100000 in
theorem alone_any (x : Bt.En) (hx : x.ok) (w : World) : Calls Try.prog 35 #[.agg (EnA x)] w (InSay (Bt.al x) w) := by
  have hsz := en_info hx
  obtain ⟨A, hA, hA2, _⟩ := a32_agg x.u hx.2.2.2.1
  have HA2 := Lib.hid hA2
  have B0 : Hid (Below w.heap.size w (w.alloc (.cells (EnA x) 50))) := (Below.refl _ w).alloc (Nat.le_refl _) _
  obtain ⟨c0, c1, c2, hu⟩ := en_at (box_rng (heap_alloc_new w (.cells (EnA x) 50)))
  have HU := Lib.hid (hu A hA)
  rw [Nat.zero_add] at c1 c2
  clear hu
  have HW : Hid (∀ v a b p, decide (a ≤ v ∧ v ≤ b) = p → ∀ z, Calls Try.prog 34 #[.int .i64 v, .int .i64 a, .int .i64 b] z fun e w' => e = .returned (.bool p) ∧ w' = z) := fun v a b p hp z => by rw [← hp]; exact within_any v a b z
  obtain ⟨r, hr⟩ : ∃ r, decide (x.u = Bt.Z) = r := ⟨_, rfl⟩
  obtain ⟨Z, hZ⟩ : ∃ Z, (List.replicate 32 (Value.int .u8 0)).toArray = Z := ⟨_, rfl⟩
  have HZ : Hid (Try.prog.built 23 [] = some Z) := by show _ = _; rw [← hZ]; exact zero_a32
  have heq : ∀ y, (Op.equalIn 10000 23 (.agg A) (.agg Z)).run Try.prog y = .ok r y := fun y => by
    rw [← hA, ← hr, ← hZ]
    have h := a32_eq x.u Bt.Z hx.2.2.2.1 Bt.z_len y
    rw [← h]
    unfold A32 Bt.Z
    rw [List.map_replicate]
  have H1 : Hid (x.k = 1 → ∀ p q : Bool, decide (0 ≤ x.b ∧ x.b ≤ 63) = p → decide (0 ≤ x.s ∧ x.s ≤ 63) = q → Bt.al x = if p && q then 0 else 7) := fun h p q hp hq => Bt.al1 h hp hq
  have H3 : Hid (x.k = 3 → ∀ p q : Bool, decide (0 ≤ x.b ∧ x.b ≤ 8) = p → decide (0 ≤ x.s ∧ x.s ≤ 63) = q → Bt.al x = if p && q then 0 else 7) := fun h p q hp hq => Bt.al3 h hp hq
  have H2 : Hid (x.k = 2 → ∀ p q : Bool, decide (0 ≤ x.b ∧ x.b ≤ 63) = p → (x.s == 0) = q → Bt.al x = if p && q && r then 0 else 7) := fun h p q hp hq => Bt.al2 h hp hq hr
  have H0 : Hid (¬ x.k = 1 → ¬ x.k = 2 → ¬ x.k = 3 → Bt.al x = 5) := fun h h' h'' => Bt.al0 h h' h''
  clear hx hA hr hZ hA2
  generalize EnA x = X at *
  obtain ⟨k, b, s, u⟩ := x
  simp only at c0 c1 c2 H0 H1 H2 H3
  generalize Bt.al ⟨k, b, s, u⟩ = res at *
  by_cases h1 : k = 1
  · obtain ⟨p, hp⟩ : ∃ p, decide (0 ≤ b ∧ b ≤ 63) = p := ⟨_, rfl⟩
    obtain ⟨q, hq⟩ : ∃ q, decide (0 ≤ s ∧ s ≤ 63) = q := ⟨_, rfl⟩
    have hres := H1.out h1 p q hp hq
    have W1 := Lib.hid (HW.out _ _ _ _ hp)
    have W2 := Lib.hid (HW.out _ _ _ _ hq)
    have TK := Lib.hid True.intro
    have hk : (k == 1) = true := by simp [h1]
    clear hp hq h1 H0 H1 H2 H3 HW heq
    cases p <;> cases q <;> (
      first | (have hr7 : res = 7 := hres; clear hres; subst hr7) | (have hr0 : res = 0 := hres; clear hres; subst hr0)
      go_enter Try.func35, Try.ntmps35
      go_wp2_with (first
        | (go_at_call 34; clear TK; refine (W1.out _).mono ?_; rintro e2 w2 ⟨rfl, rfl⟩)
        | (go_at_call 34; refine (W2.out _).mono ?_; rintro e2 w2 ⟨rfl, rfl⟩))
      go_ret
      exact ⟨rfl, B0.out⟩)
  by_cases h3 : k = 3
  · obtain ⟨p, hp⟩ : ∃ p, decide (0 ≤ b ∧ b ≤ 8) = p := ⟨_, rfl⟩
    obtain ⟨q, hq⟩ : ∃ q, decide (0 ≤ s ∧ s ≤ 63) = q := ⟨_, rfl⟩
    have hres := H3.out h3 p q hp hq
    have W1 := Lib.hid (HW.out _ _ _ _ hp)
    have W2 := Lib.hid (HW.out _ _ _ _ hq)
    have TK := Lib.hid True.intro
    have hk1 : (k == 1) = false := by simp [h3]
    have hk : (k == 3) = true := by simp [h3]
    clear hp hq h1 h3 H0 H1 H2 H3 HW heq
    cases p <;> cases q <;> (
      first | (have hr7 : res = 7 := hres; clear hres; subst hr7) | (have hr0 : res = 0 := hres; clear hres; subst hr0)
      go_enter Try.func35, Try.ntmps35
      go_wp2_with (first
        | (go_at_call 34; clear TK; refine (W1.out _).mono ?_; rintro e2 w2 ⟨rfl, rfl⟩)
        | (go_at_call 34; refine (W2.out _).mono ?_; rintro e2 w2 ⟨rfl, rfl⟩))
      go_ret
      exact ⟨rfl, B0.out⟩)
  by_cases h2 : k = 2
  · obtain ⟨p, hp⟩ : ∃ p, decide (0 ≤ b ∧ b ≤ 63) = p := ⟨_, rfl⟩
    obtain ⟨q, hq⟩ : ∃ q, (s == 0) = q := ⟨_, rfl⟩
    have hres := H2.out h2 p q hp hq
    have W1 := Lib.hid (HW.out _ _ _ _ hp)
    have hk1 : (k == 1) = false := by simp [h2]
    have hk3 : (k == 3) = false := by simp [h2]
    have hk : (k == 2) = true := by simp [h2]
    clear hp h1 h2 h3 H0 H1 H2 H3 HW
    cases p <;> cases q <;> cases r <;> (
      first | (have hr7 : res = 7 := hres; clear hres; subst hr7) | (have hr0 : res = 0 := hres; clear hres; subst hr0)
      go_enter Try.func35, Try.ntmps35
      go_wp2_with (first
        | (go_at_call 34; refine (W1.out _).mono ?_; rintro e2 w2 ⟨rfl, rfl⟩)
        | ((with_reducible refine build0_g _ _ ?_ HZ.out ?_); (exact rfl))
        | ((with_reducible refine rng_load_g _ _ _ _ _ _ ?_ ?_ HU.out Try.underlying23 ?_ (row_size Try.sizeSum HA2) ?_); (exact rfl); (exact rfl); (exact rfl)))
      go_ret
      exact ⟨rfl, B0.out⟩)
  · have hres := H0.out h1 h2 h3
    subst hres
    have hk1 : (k == 1) = false := by simp [h1]
    have hk3 : (k == 3) = false := by simp [h3]
    have hk2 : (k == 2) = false := by simp [h2]
    clear h1 h2 h3 H0 H1 H2 H3 HW
    go_enter Try.func35, Try.ntmps35
    go_wp2
    go_ret
    exact ⟨rfl, B0.out⟩
end Go.Proofs.Ytkgefogkdmbciaa

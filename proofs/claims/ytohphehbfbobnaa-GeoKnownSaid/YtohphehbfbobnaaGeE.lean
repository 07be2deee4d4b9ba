/-
  Package geo walked: At, Place.
-/
import Derived.Test.YtohphehbfbobnaaGeD
namespace Go.Proofs.Ytohphehbfbobnaa
open Go.RowKit

def PBox (p q : Int) : Obj := .cells #[.int .i64 p, .int .i64 q] 25
abbrev Px (y : World) (g : Nat) (p q : Int) : Prop := y.cell? ⟨g, 0, none⟩ = some (.int .i64 p) ∧ y.cell? ⟨g, 1, none⟩ = some (.int .i64 q)
theorem px_of {y : World} {g : Nat} {p q : Int} (h : y.heap[g]? = some (PBox p q)) : Px y g p q :=
  ⟨by rw [cell_of_row _ _ _ _ _ _ h]; rfl, by rw [cell_of_row _ _ _ _ _ _ h]; rfl⟩
theorem Px.old {w y : World} {g : Nat} {p q : Int} (h : Px w g p q) (hb : Below w.heap.size w y) : Px y g p q := by
  have hl := World.block_lt_of_cell? w _ h.1
  have k := fun o => World.cell?_of_block (a := ⟨g, o, none⟩) (hb.block g hl)
  exact ⟨(k 0).trans h.1, (k 1).trans h.2⟩
/-- Behind the boxes of a geometry and a place. -/
theorem gpbox (a b c p q : Int) (w : World) : Hid (Below w.heap.size w ((w.alloc (GBox a b c)).alloc (PBox p q))) ∧ Hid (∀ y, Below ((w.alloc (GBox a b c)).alloc (PBox p q)).heap.size ((w.alloc (GBox a b c)).alloc (PBox p q)) y → Bx y w.heap.size a b c ∧ Px y (w.heap.size + 1) p q) := by
  refine ⟨((Below.refl _ w).alloc (Nat.le_refl _) _).alloc (by simp) _, fun y hy => ⟨?_, ?_⟩⟩
  · exact (bx_of (by rw [heap_alloc_old _ _ (by simp)]; exact heap_alloc_new w _)).old hy
  · have h : ((w.alloc (GBox a b c)).alloc (PBox p q)).heap[w.heap.size + 1]? = some (PBox p q) := by
      have k := heap_alloc_new (w.alloc (GBox a b c)) (PBox p q)
      simpa using k
    exact (px_of h).old hy
theorem there_all (a b p q : Int) : ([(p, 0, a - 1), (q, 0, b - 1)] : List Sp3).all inn = decide (Ge.there a b p q) := by
  simp only [List.all_cons, List.all_nil, inn_eq, Bool.and_true, ← Bool.decide_and]
  exact decide_eq_decide.2 Iff.rfl
theorem at_ok {a b c p q : Int} (ho : Ge.ok a b c) (ht : Ge.there a b p q) : Ge.at_ a b c p q = 3 + p * b + q := by unfold Ge.at_; exact if_pos ⟨ho, ht⟩
theorem at_no {a b c p q : Int} (h : ¬ (Ge.ok a b c ∧ Ge.there a b p q)) : Ge.at_ a b c p q = 0 := by unfold Ge.at_; exact if_neg h
set_option maxHeartbeats 4000000 in
set_option maxRecDepth 100000 in
theorem at_any (a b c p q : Int) (w : World) : Calls Try.prog 15 #[.agg #[.int .i64 a, .int .i64 b, .int .i64 c], .agg #[.int .i64 p, .int .i64 q]] w (Num (Ge.at_ a b c p q) w) := by
  obtain ⟨B0, HX⟩ := gpbox a b c p q w
  obtain ⟨w0, hw0⟩ : ∃ x, x = (w.alloc (GBox a b c)).alloc (PBox p q) := ⟨_, rfl⟩
  rw [← hw0] at B0 HX
  by_cases ho : Ge.ok a b c
  · have hwa : IntKind.i64.wrap (a - 1) = a - 1 := IntWalk.i64_in _ ⟨by have := ho.1.1; omega, by have := ho.1.1; omega⟩
    have hwb : IntKind.i64.wrap (b - 1) = b - 1 := IntWalk.i64_in _ ⟨by have := ho.1.2.1; omega, by have := ho.1.2.1; omega⟩
    have KW : ∀ y g, y.heap[g]? = some (SBox [(p, 0, a - 1), (q, 0, b - 1)]) → Calls Try.prog 25 #[.slice (some ⟨g, 0, none⟩) 2 2] y fun e w' => e = .returned (.bool (decide (Ge.there a b p q))) ∧ Below y.heap.size y w' := fun y g hg => by
      have h := within_any [(p, 0, a - 1), (q, 0, b - 1)] 2 rfl (by omega) g y hg
      rw [there_all] at h
      exact h
    by_cases ht : Ge.there a b p q
    · rw [at_ok ho ht]
      rw [decide_eq_true ht] at KW
      have h := Ge.area p b (by have := ho.1.1; have := ht.1; omega) (by have := ho.1.2.1; omega)
      have hq : 0 ≤ q ∧ q ≤ 64 := by have := ho.1.2.1; have := ht.2; omega
      have hw1 : IntKind.i64.wrap (p * b) = p * b := IntWalk.i64_in _ ⟨by omega, by omega⟩
      have hw2 : IntKind.i64.wrap (3 + p * b) = 3 + p * b := IntWalk.i64_in _ ⟨by omega, by omega⟩
      have hw3 : IntKind.i64.wrap (3 + p * b + q) = 3 + p * b + q := IntWalk.i64_in _ ⟨by omega, by omega⟩
      have HO := Lib.hid ho
      clear ho ht
      go_enter Try.func15, Try.ntmps15
      go_upto_region 1 with (fail)
      unfold GBox PBox at hw0
      rw [← hw0]
      clear hw0
      obtain ⟨⟨x00, x01, x02⟩, y00, y01⟩ := HX.out _ (Below.refl _ _)
      go_wp2_with (first
        | (go_at_call 11; refine (check_ok HO.out _).mono ?_; rintro e1 w1 ⟨rfl, hb1⟩; obtain ⟨⟨x10, x11, x12⟩, y10, y11⟩ := HX.out _ hb1)
        | (go_at_call 25; refine (KW _ _ (heap_alloc_new _ _)).mono ?_; rintro e2 w2 ⟨rfl, hb2⟩; have B2 : Hid (Below w0.heap.size w0 w2) := Lib.hid ((hb1.alloc hb1.size _).trans (hb2.mono (Nat.le_trans hb1.size (by simp)))); obtain ⟨⟨x20, x21, x22⟩, y20, y21⟩ := HX.out _ B2.out))
      go_ret
      exact ⟨rfl, B0.out.trans (B2.out.mono B0.out.size)⟩
    · rw [at_no (fun k => ht k.2)]
      rw [decide_eq_false ht] at KW
      have HO := Lib.hid ho
      clear ho ht
      go_enter Try.func15, Try.ntmps15
      go_upto_region 1 with (fail)
      unfold GBox PBox at hw0
      rw [← hw0]
      clear hw0
      obtain ⟨⟨x00, x01, x02⟩, y00, y01⟩ := HX.out _ (Below.refl _ _)
      go_wp2_with (first
        | (go_at_call 11; refine (check_ok HO.out _).mono ?_; rintro e1 w1 ⟨rfl, hb1⟩; obtain ⟨⟨x10, x11, x12⟩, y10, y11⟩ := HX.out _ hb1)
        | (go_at_call 25; refine (KW _ _ (heap_alloc_new _ _)).mono ?_; rintro e2 w2 ⟨rfl, hb2⟩; have B2 : Hid (Below w0.heap.size w0 w2) := Lib.hid ((hb1.alloc hb1.size _).trans (hb2.mono (Nat.le_trans hb1.size (by simp))))))
      go_ret
      exact ⟨rfl, B0.out.trans (B2.out.mono B0.out.size)⟩
  · rw [at_no (fun k => ho k.1)]
    go_enter Try.func15, Try.ntmps15
    go_upto_region 1 with (fail)
    unfold GBox PBox at hw0
    rw [← hw0]
    clear hw0
    obtain ⟨⟨x00, x01, x02⟩, y00, y01⟩ := HX.out _ (Below.refl _ _)
    go_wp2_with (go_at_call 11; refine (check_no ho _).mono ?_; rintro e1 w1 ⟨rfl, hb1⟩)
    go_ret
    exact ⟨rfl, B0.out.trans (hb1.mono B0.out.size)⟩
/-- The place's box in any later world. -/
theorem pbox_at (a b c p q : Int) (w : World) : Hid (∀ y, Below ((w.alloc (GBox a b c)).alloc (PBox p q)).heap.size ((w.alloc (GBox a b c)).alloc (PBox p q)) y → y.heap[w.heap.size + 1]? = some (PBox p q)) := fun y hy => by
  have h : ((w.alloc (GBox a b c)).alloc (PBox p q)).heap[w.heap.size + 1]? = some (PBox p q) := by
    have k := heap_alloc_new (w.alloc (GBox a b c)) (PBox p q)
    simpa using k
  exact (hy.block _ (lt_of_block h)).trans h
/-- A place and whether it is there, told. -/
def PSay (p q : Int) (t : Bool) (w : World) (e : Ending) (w' : World) : Prop := e = .returned (.tuple #[.agg #[.int .i64 p, .int .i64 q], .bool t]) ∧ Below w.heap.size w w'
section
variable {P : Program}
theorem results_cell_tmp {fn : Func} {p u : Tmp} {ty : TypeId} (h : fn.results = #[.cell p ty, .tmp u]) (tmps : Array Value) (w : World) (g : Nat) (t : TypeId) (cs : Array Value) (fr : Nat × Nat) (d : TypeDesc)
    (hp : tmps.getD p undef = .pointer (some ⟨g, 0, none⟩)) (hg : w.heap[g]? = some (.cells cs t fr))
    (hu : P.underlying ty = some d) (hd : (match d with | .struct _ | .array _ _ => true | _ => false) = true) (hi : (P.info? ty).map (·.size) = some cs.size) :
    (results fn tmps).run P w = .ok (.tuple #[.agg cs, tmps.getD u undef]) w := by
  have hp' : tmps[p]?.getD undef = .pointer (some ⟨g, 0, none⟩) := by simpa using hp
  simp [results, h, hp', asAddr, run_loadVar_row w g t ty cs fr d hg hu hd hi]
end
/-- A place written over. -/
theorem pset {w : World} {g : Nat} {x y p q : Int} (h : w.heap[g]? = some (PBox x y)) : ((w.setCell ⟨g, 0, none⟩ (.int .i64 p)).setCell ⟨g, 1, none⟩ (.int .i64 q)).heap[g]? = some (PBox p q) :=
  heap_setCells g 25 [.int .i64 p, .int .i64 q] 0 [.int .i64 x, .int .i64 y] w h (by simp)
theorem pset_chg (w : World) (g : Nat) (u v : Value) : Chg g w ((w.setCell ⟨g, 0, none⟩ u).setCell ⟨g, 1, none⟩ v) := (Chg.setCell w ⟨g, 0, none⟩ u).trans (Chg.setCell _ ⟨g, 1, none⟩ v)
theorem psize : (Try.prog.info? 25).map (·.size) = some 2 := by kernel_rfl
theorem isin_all (a b t : Int) : ([(t, 3, 3 + a * b - 1)] : List Sp3).all inn = decide (3 ≤ t ∧ t ≤ 3 + a * b - 1) := by
  simp only [List.all_cons, List.all_nil, inn_eq, Bool.and_true]
theorem in_ok {a b c t : Int} (h : Ge.isin a b c t) : Ge.ps a b c t = (t - 3) / b ∧ Ge.pt a b c t = (t - 3) % b := by unfold Ge.ps Ge.pt; exact ⟨if_pos h, if_pos h⟩
theorem in_no {a b c t : Int} (h : ¬ Ge.isin a b c t) : Ge.ps a b c t = 0 ∧ Ge.pt a b c t = 0 := by unfold Ge.ps Ge.pt; exact ⟨if_neg h, if_neg h⟩
theorem sec_ok {a b c : Int} (ho : Ge.ok a b c) (w : World) : Calls Try.prog 13 #[.agg #[.int .i64 a, .int .i64 b, .int .i64 c]] w (Num (3 + a * b) w) := by
  have q := sectors_any a b c w
  rw [show Ge.sec a b c = 3 + a * b by unfold Ge.sec; exact if_pos ho] at q
  exact q
set_option maxHeartbeats 4000000 in
set_option maxRecDepth 100000 in
theorem place_any (a b c t : Int) (w : World) : Calls Try.prog 9 #[.agg #[.int .i64 a, .int .i64 b, .int .i64 c], .int .i64 t] w (PSay (Ge.ps a b c t) (Ge.pt a b c t) (decide (Ge.isin a b c t)) w) := by
  obtain ⟨B0, HX⟩ := gpbox a b c 0 0 w
  have HP := pbox_at a b c 0 0 w
  obtain ⟨w0, hw0⟩ : ∃ x, x = (w.alloc (GBox a b c)).alloc (PBox 0 0) := ⟨_, rfl⟩
  rw [← hw0] at B0 HX HP
  by_cases ho : Ge.ok a b c
  · have hA := Ge.area a b (by have := ho.1.1; omega) (by have := ho.1.2.1; omega)
    have hwa : IntKind.i64.wrap (3 + a * b - 1) = 3 + a * b - 1 := IntWalk.i64_in _ ⟨by omega, by omega⟩
    have KW : ∀ y g, y.heap[g]? = some (SBox [(t, 3, 3 + a * b - 1)]) → Calls Try.prog 25 #[.slice (some ⟨g, 0, none⟩) 1 1] y fun e w' => e = .returned (.bool (decide (3 ≤ t ∧ t ≤ 3 + a * b - 1))) ∧ Below y.heap.size y w' := fun y g hg => by
      have h := within_any [(t, 3, 3 + a * b - 1)] 1 rfl (by omega) g y hg
      rw [isin_all] at h
      exact h
    by_cases ht : 3 ≤ t ∧ t ≤ 3 + a * b - 1
    · have hi : Ge.isin a b c t := ⟨ho, ht⟩
      rw [(in_ok hi).1, (in_ok hi).2, decide_eq_true hi]
      rw [decide_eq_true ht] at KW
      have hb := ho.1.2.1
      have hw1 : IntKind.i64.wrap (t - 3) = t - 3 := IntWalk.i64_in _ ⟨by omega, by omega⟩
      have hq0 : 0 ≤ (t - 3) / b := Int.ediv_nonneg (by omega) (by omega)
      have hq1 : (t - 3) / b ≤ t - 3 := Int.ediv_le_self _ (by omega)
      have hr0 : 0 ≤ (t - 3) % b := Int.emod_nonneg _ (by omega)
      have hr1 : (t - 3) % b < b := Int.emod_lt_of_pos _ (by omega)
      have hw2 : IntKind.i64.wrap ((t - 3).tdiv b) = (t - 3) / b := by
        rw [Int.tdiv_eq_ediv_of_nonneg (by omega)]
        exact IntWalk.i64_in _ ⟨by omega, by omega⟩
      have hw3 : (t - 3).tmod b = (t - 3) % b := Int.tmod_eq_emod_of_nonneg (by omega)
      have hb0 : ¬ b = 0 := by omega
      generalize (t - 3) / b = Q at *
      generalize (t - 3) % b = R at *
      have HO := Lib.hid ho
      clear ho ht hi hA
      go_enter Try.func9, Try.ntmps9
      go_upto_region 1 with (fail)
      unfold GBox PBox at hw0
      rw [← hw0]
      clear hw0
      obtain ⟨⟨x00, x01, x02⟩, y00, y01⟩ := HX.out _ (Below.refl _ _)
      go_upto_region 4 with (first
        | (go_at_call 11; refine (check_ok HO.out _).mono ?_; rintro e1 w1 ⟨rfl, hb1⟩; obtain ⟨⟨x10, x11, x12⟩, y10, y11⟩ := HX.out _ hb1)
        | (go_at_call 13; refine (sec_ok HO.out _).mono ?_; rintro e1 w2 ⟨rfl, hb2⟩; have C2 := Lib.hid (hb1.trans (hb2.mono hb1.size)))
        | (go_at_call 25; refine (KW _ _ (heap_alloc_new _ _)).mono ?_; rintro e2 w3 ⟨rfl, hb3⟩; have B3 : Hid (Below w0.heap.size w0 w3) := Lib.hid ((C2.out.alloc C2.out.size _).trans (hb3.mono (Nat.le_trans C2.out.size (by simp)))); obtain ⟨⟨x30, x31, x32⟩, y30, y31⟩ := HX.out _ B3.out; have f0 := frozen_of_row w3 (w.heap.size + 1) 0 _ _ (HP.out _ B3.out); have f1 := frozen_of_row w3 (w.heap.size + 1) 1 _ _ (HP.out _ B3.out)))
      have f0 : w3.drew.frozen? ⟨w.heap.size + 1, 0, none⟩ = false := frozen_of_row w3.drew (w.heap.size + 1) 0 _ _ (HP.out _ B3.out.drew)
      have f1 : w3.drew.frozen? ⟨w.heap.size + 1, 1, none⟩ = false := frozen_of_row w3.drew (w.heap.size + 1) 1 _ _ (HP.out _ B3.out.drew)
      obtain ⟨⟨z30, z31, z32⟩, u30, u31⟩ := HX.out _ B3.out.drew
      go_region_law
      all_goals skip
      all_goals
        change Exit.then _ _ Exit.normal (Act.put _ (some 5) _) _
        go_wp2
        refine bodyPost_ret (results_cell_tmp rfl _ _ (w.heap.size + 1) 25 _ (0, 0) _ rfl (pset (HP.out _ B3.out)) Try.underlying25 rfl psize) rfl ⟨rfl, ?_⟩
        exact ((pset_chg w3 (w.heap.size + 1) _ _).drew).below (B0.out.trans (B3.out.mono B0.out.size)) (by omega)
    · have hi : ¬ Ge.isin a b c t := fun h => ht h.2
      rw [(in_no hi).1, (in_no hi).2, decide_eq_false hi]
      rw [decide_eq_false ht] at KW
      have HO := Lib.hid ho
      clear ho ht hi hA
      go_enter Try.func9, Try.ntmps9
      go_upto_region 1 with (fail)
      unfold GBox PBox at hw0
      rw [← hw0]
      clear hw0
      obtain ⟨⟨x00, x01, x02⟩, y00, y01⟩ := HX.out _ (Below.refl _ _)
      go_wp2_with (first
        | (go_at_call 11; refine (check_ok HO.out _).mono ?_; rintro e1 w1 ⟨rfl, hb1⟩; obtain ⟨⟨x10, x11, x12⟩, y10, y11⟩ := HX.out _ hb1)
        | (go_at_call 13; refine (sec_ok HO.out _).mono ?_; rintro e1 w2 ⟨rfl, hb2⟩; have C2 := Lib.hid (hb1.trans (hb2.mono hb1.size)))
        | (go_at_call 25; refine (KW _ _ (heap_alloc_new _ _)).mono ?_; rintro e2 w3 ⟨rfl, hb3⟩; have B3 : Hid (Below w0.heap.size w0 w3) := Lib.hid ((C2.out.alloc C2.out.size _).trans (hb3.mono (Nat.le_trans C2.out.size (by simp)))); obtain ⟨⟨x30, x31, x32⟩, y30, y31⟩ := HX.out _ B3.out; have f0 := frozen_of_row w3 (w.heap.size + 1) 0 _ _ (HP.out _ B3.out); have f1 := frozen_of_row w3 (w.heap.size + 1) 1 _ _ (HP.out _ B3.out)))
      refine bodyPost_ret (results_cell_tmp rfl _ _ (w.heap.size + 1) 25 _ (0, 0) _ rfl (pset (HP.out _ B3.out)) Try.underlying25 rfl psize) rfl ⟨rfl, ?_⟩
      exact (pset_chg w3 (w.heap.size + 1) _ _).below (B0.out.trans (B3.out.mono B0.out.size)) (by omega)
  · have hi : ¬ Ge.isin a b c t := fun h => ho h.1
    rw [(in_no hi).1, (in_no hi).2, decide_eq_false hi]
    go_enter Try.func9, Try.ntmps9
    go_upto_region 1 with (fail)
    unfold GBox PBox at hw0
    rw [← hw0]
    clear hw0
    obtain ⟨⟨x00, x01, x02⟩, y00, y01⟩ := HX.out _ (Below.refl _ _)
    go_wp2_with (first
      | (go_at_call 11; refine (check_no ho _).mono ?_; rintro e1 w1 ⟨rfl, hb1⟩; have B3 : Hid (Below w0.heap.size w0 w1) := hb1; obtain ⟨⟨x10, x11, x12⟩, y10, y11⟩ := HX.out _ hb1; have f0 := frozen_of_row w1 (w.heap.size + 1) 0 _ _ (HP.out _ B3.out); have f1 := frozen_of_row w1 (w.heap.size + 1) 1 _ _ (HP.out _ B3.out)))
    refine bodyPost_ret (results_cell_tmp rfl _ _ (w.heap.size + 1) 25 _ (0, 0) _ rfl (pset (HP.out _ B3.out)) Try.underlying25 rfl psize) rfl ⟨rfl, ?_⟩
    exact (pset_chg w1 (w.heap.size + 1) _ _).below (B0.out.trans (B3.out.mono B0.out.size)) (by omega)
end Go.Proofs.Ytohphehbfbobnaa

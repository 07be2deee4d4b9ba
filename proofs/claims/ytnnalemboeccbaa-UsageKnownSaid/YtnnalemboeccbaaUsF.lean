/-
  Package usage: what a call on a table may turn; contracts: Set, Pend.
-/
import Derived.Test.YtnnalemboeccbaaUsE
namespace Go.Proofs.Ytnnalemboeccbaa
open Go.RowKit

/-- Of what was there the rows behind v alone may have turned. -/
structure Tn (v : Value) (w y : World) : Prop where
  os : y.os = w.os
  tape : y.tape = w.tape
  output : y.output = w.output
  size : w.heap.size ≤ y.heap.size
  block : ∀ k, k < w.heap.size → v.ownBlock ≠ some k → y.heap[k]? = w.heap[k]?
section
variable {v u : Value} {w y z : World} {t : TypeId} {B b : Nat} {T L : List Us.S}
theorem Tn.refl (v : Value) (w : World) : Tn v w w := ⟨rfl, rfl, rfl, Nat.le_refl _, fun _ _ _ => rfl⟩
theorem Tn.trans (h : Tn v w y) (k : Tn v y z) : Tn v w z := ⟨k.os.trans h.os, k.tape.trans h.tape, k.output.trans h.output, Nat.le_trans h.size k.size, fun j hj hv => (k.block j (Nat.lt_of_lt_of_le hj h.size) hv).trans (h.block j hj hv)⟩
theorem Tn.of (h : Below w.heap.size w y) : Tn v w y := ⟨h.os, h.tape, h.output, h.size, fun k hk _ => h.block k hk⟩
theorem Tn.chg {g : Nat} (h : Chg g w y) (hg : v.ownBlock = some g) : Tn v w y := ⟨h.os, h.tape, h.output, by rw [h.size]; exact Nat.le_refl _, fun k _ hv => h.block k (fun e => hv (by rw [hg, e]))⟩
theorem Tn.below {w0 : World} (h : Tn v w y) (hb : Below B w0 w) (hv : ∀ g, v.ownBlock = some g → B ≤ g) (hB : B ≤ w.heap.size) : Below B w0 y :=
  hb.trans ⟨h.os, h.tape, h.output, h.size, fun k hk => h.block k (by omega) (fun e => by have := hv k e; omega)⟩
theorem SgO.tn (h : SgO B w u L) (hn : Tn v w y) (hd : ∀ g, u.ownBlock = some g → v.ownBlock ≠ some g) : SgO B y u L := by
  refine ⟨h.1, ?_⟩
  rcases h.2 with h' | ⟨g, cap, cur, rfl, q0, q1, q2⟩
  · exact Or.inl h'
  · exact Or.inr ⟨g, cap, cur, rfl, q0, (hn.block g (lt_of_block q1) (hd g rfl)).trans q1, q2⟩
theorem TAt.tn (h : TAt t B w b u T) (hn : Tn v w y) (hb : v.ownBlock ≠ some b) (hd : ∀ g, u.ownBlock = some g → v.ownBlock ≠ some g) : TAt t B y b u T :=
  ⟨(hn.block _ (lt_of_block h.box) hb).trans h.box, h.own.tn hn hd, h.lo⟩
/-- Its rows are written: the box stays. -/
theorem TAt.put {U : List Us.S} {g : Nat} (h : TAt t B w b v T) (ht : t ≠ 30) (hg : v.ownBlock = some g) (hc : Chg g w y) (ho : SgO B y v U) : TAt t B y b v U :=
  ⟨(hc.block _ (fun e => h.ne ht hg e)).trans h.box, ho, h.lo⟩
end
/-- What a call that answers a number says. -/
def TbSay (t : TypeId) (B b : Nat) (v : Value) (T' : List Us.S) (r : Value) (w : World) (e : Ending) (w' : World) : Prop :=
  e = .returned r ∧ Hid (TAt t B w' b v T') ∧ Hid (Tn v w w')
theorem tne : 50 ≠ 30 := by decide
theorem tne2 : 52 ≠ 30 := by decide
set_option maxHeartbeats 2000000 in
set_option maxRecDepth 100000 in
theorem set_no {B b : Nat} {v : Value} {T : List Us.S} (i : Int) (x : Us.S) (w : World) (h : TAt 50 B w b v T) (hI : Us.Inv T) (hno : ¬ (Us.has T i ∧ Us.ok x)) :
    Calls Try.prog 27 #[.pointer (some ⟨b, 0, none⟩), .int .i64 i, .agg (SgA x)] w (TbSay 50 B b v T (.int .i64 7) w) := by
  have HT : Hid (∀ y, Below w.heap.size w y → TAt 50 B y b v T) := fun y hy => h.old hy
  have B0 : Hid (Below w.heap.size w (w.alloc (.cells (SgA x) 30))) := (Below.refl _ w).alloc (Nat.le_refl _) _
  have G0 : Hid ((w.alloc (.cells (SgA x) 30)).heap[w.heap.size]? = some (.cells (SgA x) 30 (0, 0))) := heap_alloc_new w _
  have HH : Hid (∀ y, Below w.heap.size w y → Calls Try.prog 38 #[.pointer (some ⟨b, 0, none⟩), .int .i64 i] y fun e w' => e = .returned (.bool (decide (Us.has T i))) ∧ w' = y) := fun y hy => has_any i y (h.old hy) hI.len
  have HM : Hid (∀ y, Calls Try.prog 40 #[.agg (SgA x)] y (BoSay (decide (Us.ok x)) y)) := fun y => maybe_any x y
  clear h
  by_cases h1 : Us.has T i
  · have h2 : ¬ Us.ok x := fun q => hno ⟨h1, q⟩
    rw [decide_eq_true h1] at HH
    rw [decide_eq_false h2] at HM
    clear hno h1 h2
    go_enter Try.func27, Try.ntmps27
    go_wp2_with (first
      | (go_at_call 38; refine (HH.out _ B0.out).mono ?_; rintro e1 w1 ⟨rfl, rfl⟩)
      | ((with_reducible refine row_load_g _ _ _ _ _ _ _ ?_ ?_ G0.out Try.underlying30 ?_ (sg_info x) ?_); (exact rfl); (exact rfl); (exact rfl))
      | (go_at_call 40; refine (HM.out _).mono ?_; rintro e2 w2 ⟨rfl, hb2⟩; have B2 := Lib.hid (B0.out.trans (hb2.mono B0.out.size))))
    go_ret
    exact ⟨rfl, Lib.hid (HT.out _ B2.out), Lib.hid (Tn.of B2.out)⟩
  · rw [decide_eq_false h1] at HH
    clear hno h1
    go_enter Try.func27, Try.ntmps27
    go_wp2_with (first
      | (go_at_call 38; refine (HH.out _ B0.out).mono ?_; rintro e1 w1 ⟨rfl, rfl⟩))
    go_ret
    exact ⟨rfl, Lib.hid (HT.out _ B0.out), Lib.hid (Tn.of B0.out)⟩
theorem open_of {T : List Us.S} (hI : Us.Inv T) (i : Int) (hi : Us.has T i) : (Us.other T i.toNat → (Us.open_ T ≠ -1 ∧ Us.open_ T ≠ i)) ∧ (¬ Us.other T i.toNat → (Us.open_ T = -1 ∨ Us.open_ T = i)) := by
  have ho := Us.other_iff hI i.toNat
  have hn := Us.has_nat hi
  unfold Us.open_
  cases q : Us.fx 1 T with
  | none =>
    refine ⟨fun h => ?_, fun _ => Or.inl rfl⟩
    obtain ⟨j, h1, _⟩ := ho.1 h
    rw [q] at h1; cases h1
  | some o =>
    refine ⟨fun h => ?_, fun h => Or.inr ?_⟩
    · obtain ⟨j, h1, h2⟩ := ho.1 h
      rw [q] at h1
      injection h1 with h1
      subst h1
      exact ⟨by show (o : Int) ≠ -1; omega, by show (o : Int) ≠ i; omega⟩
    · show (o : Int) = i
      by_cases e : o = i.toNat
      · omega
      · exact absurd (ho.2 ⟨o, q, e⟩) h
set_option maxHeartbeats 4000000 in
set_option maxRecDepth 100000 in
theorem set_twice {B b : Nat} {v : Value} {T : List Us.S} (i : Int) (x : Us.S) (w : World) (h : TAt 50 B w b v T) (hI : Us.Inv T) (h1 : Us.has T i) (h2 : Us.ok x) (h3 : x.s = 1) (h4 : Us.other T i.toNat) :
    Calls Try.prog 27 #[.pointer (some ⟨b, 0, none⟩), .int .i64 i, .agg (SgA x)] w (TbSay 50 B b v T (.int .i64 10) w) := by
  have HT : Hid (∀ y, Below w.heap.size w y → TAt 50 B y b v T) := fun y hy => h.old hy
  have B0 : Hid (Below w.heap.size w (w.alloc (.cells (SgA x) 30))) := (Below.refl _ w).alloc (Nat.le_refl _) _
  have G0 : Hid ((w.alloc (.cells (SgA x) 30)).heap[w.heap.size]? = some (.cells (SgA x) 30 (0, 0))) := heap_alloc_new w _
  have HH : Hid (∀ y, Below w.heap.size w y → Calls Try.prog 38 #[.pointer (some ⟨b, 0, none⟩), .int .i64 i] y fun e w' => e = .returned (.bool true) ∧ w' = y) := fun y hy => by
    have := has_any i y (h.old hy) hI.len
    rw [decide_eq_true h1] at this
    exact this
  have HM : Hid (∀ y, Calls Try.prog 40 #[.agg (SgA x)] y (BoSay true y)) := fun y => by
    have := maybe_any x y
    rw [decide_eq_true h2] at this
    exact this
  have HP : Hid (∀ y, Below w.heap.size w y → Calls Try.prog 12 #[.pointer (some ⟨b, 0, none⟩)] y (NuSay (Us.open_ T) y)) := fun y hy => open_any y (h.old hy) hI.len
  obtain ⟨hq1', hq2'⟩ := (open_of hI i h1).1 h4
  have hq1 : (Us.open_ T != -1) = true := by simp [hq1']
  have hq2 : (Us.open_ T != i) = true := by simp [hq2']
  clear hq1' hq2'
  have hx0 : (SgA x)[0]? = some (.int .i64 1) := by rw [← h3]; rfl
  have HSX := Lib.hid (sg_info x)
  clear h h1 h2 h4 h3
  generalize Us.open_ T = o at *
  generalize SgA x = X at *
  go_enter Try.func27, Try.ntmps27
  go_upto_region 4 with (first
    | (go_at_call 38; refine (HH.out _ B0.out).mono ?_; rintro e1 w1 ⟨rfl, rfl⟩)
    | ((with_reducible refine row_load_g _ _ _ _ _ _ _ ?_ ?_ G0.out Try.underlying30 ?_ HSX.out ?_); (exact rfl); (exact rfl); (exact rfl))
    | (go_at_call 40; refine (HM.out _).mono ?_; rintro e2 w2 ⟨rfl, hb2⟩; have B2 := Lib.hid (B0.out.trans (hb2.mono B0.out.size)); have G2 := Lib.hid ((hb2.block _ (lt_of_block G0.out)).trans G0.out))
    | (go_at_call 12; refine (HP.out _ B2.out).mono ?_; rintro e3 w3 ⟨rfl, hb3⟩; have B3 := Lib.hid (B2.out.trans (hb3.mono B2.out.size)); have G3 := Lib.hid ((hb3.block _ (lt_of_block G2.out)).trans G2.out)))
  have c3 : w3.cell? ⟨w.heap.size, 0, none⟩ = some (.int .i64 1) := by rw [cell_of_row _ _ _ _ _ _ G3.out]; exact hx0
  go_wp2
  go_ret
  exact ⟨rfl, Lib.hid (HT.out _ B3.out), Lib.hid (Tn.of B3.out)⟩
theorem rng_whole {y : World} {g : Nat} {X : Array Value} {t : TypeId} (h : y.heap[g]? = some (.cells X t (0, 0))) : y.rangeAt g 0 X.toList := fun j v hv => by
  rw [cell_of_row y g _ _ _ _ h, Nat.zero_add]
  simpa using hv
set_option maxHeartbeats 4000000 in
set_option maxRecDepth 100000 in
theorem set_yes {B b : Nat} {v : Value} {T : List Us.S} (i : Int) (x : Us.S) (w : World) (h : TAt 50 B w b v T) (hI : Us.Inv T) (h1 : Us.has T i) (h2 : Us.ok x) (h3 : x.s = 1 → ¬ Us.other T i.toNat) :
    Calls Try.prog 27 #[.pointer (some ⟨b, 0, none⟩), .int .i64 i, .agg (SgA x)] w (TbSay 50 B b v (T.set i.toNat x) (.int .i64 0) w) := by
  obtain ⟨hn1, hn2⟩ := Us.has_nat h1
  obtain ⟨j, hj⟩ : ∃ j : Nat, i.toNat = j := ⟨_, rfl⟩
  rw [hj] at hn1 hn2 h3 ⊢
  have HT : Hid (∀ y, Below w.heap.size w y → TAt 50 B y b v T) := fun y hy => h.old hy
  have B0 : Hid (Below w.heap.size w (w.alloc (.cells (SgA x) 30))) := (Below.refl _ w).alloc (Nat.le_refl _) _
  have G0 : Hid ((w.alloc (.cells (SgA x) 30)).heap[w.heap.size]? = some (.cells (SgA x) 30 (0, 0))) := heap_alloc_new w _
  have HH : Hid (∀ y, Below w.heap.size w y → Calls Try.prog 38 #[.pointer (some ⟨b, 0, none⟩), .int .i64 i] y fun e w' => e = .returned (.bool true) ∧ w' = y) := fun y hy => by
    have := has_any i y (h.old hy) hI.len
    rw [decide_eq_true h1] at this
    exact this
  have HM : Hid (∀ y, Calls Try.prog 40 #[.agg (SgA x)] y (BoSay true y)) := fun y => by
    have := maybe_any x y
    rw [decide_eq_true h2] at this
    exact this
  have HP : Hid (∀ y, Below w.heap.size w y → Calls Try.prog 12 #[.pointer (some ⟨b, 0, none⟩)] y (NuSay (Us.open_ T) y)) := fun y hy => open_any y (h.old hy) hI.len
  have hq : (x.s == 1) = false ∨ (x.s = 1 ∧ (Us.open_ T = -1 ∨ Us.open_ T = i)) := by
    by_cases e : x.s = 1
    · exact Or.inr ⟨e, (open_of hI i h1).2 (by rw [hj]; exact h3 e)⟩
    · exact Or.inl (by simp [e])
  obtain ⟨g, c, rfl⟩ := h.own.isb j hn1
  have HLE : Hid (T.length ≤ 32) := hI.len
  have hx0 : (SgA x)[0]? = some (.int .i64 x.s) := rfl
  have HSX := Lib.hid (sg_info x)
  have HGL : Hid (g < w.heap.size) := by obtain ⟨_, cur, hc⟩ := h.own.blk (g := g) rfl; exact lt_of_block hc
  subst hn2
  clear h h1 h2 h3 hj hI
  obtain ⟨n, hn⟩ : ∃ n, T.length = n := ⟨_, rfl⟩
  rw [hn] at hn1 HT HLE ⊢
  generalize Us.open_ T = o at *
  obtain ⟨k, hkk⟩ : ∃ k, x.s = k := ⟨_, rfl⟩
  rw [hkk] at hx0 hq
  clear hkk
  obtain ⟨X, hX⟩ : ∃ X, SgA x = X := ⟨_, rfl⟩
  have HX : Hid (SgA x = X) := hX
  rw [hX] at hx0 HSX B0 G0 HM ⊢
  clear hX
  have hlt : (j : Int) < (n : Int) := by omega
  have hge : 0 ≤ (j : Int) := by omega
  go_enter Try.func27, Try.ntmps27
  go_upto_region 4 with (first
    | (go_at_call 38; refine (HH.out _ B0.out).mono ?_; rintro e1 w1 ⟨rfl, rfl⟩)
    | ((with_reducible refine row_load_g _ _ _ _ _ _ _ ?_ ?_ G0.out Try.underlying30 ?_ HSX.out ?_); (exact rfl); (exact rfl); (exact rfl))
    | (go_at_call 40; refine (HM.out _).mono ?_; rintro e2 w2 ⟨rfl, hb2⟩; have B2 := Lib.hid (B0.out.trans (hb2.mono B0.out.size)); have G2 := Lib.hid ((hb2.block _ (lt_of_block G0.out)).trans G0.out))
    | (go_at_call 12; refine (HP.out _ B2.out).mono ?_; rintro e3 w3 ⟨rfl, hb3⟩; have B3 := Lib.hid (B2.out.trans (hb3.mono B2.out.size)); have G3 := Lib.hid ((hb3.block _ (lt_of_block G2.out)).trans G2.out)))
  have c3 : w3.cell? ⟨w.heap.size, 0, none⟩ = some (.int .i64 k) := by rw [cell_of_row _ _ _ _ _ _ G3.out]; exact hx0
  have b3 : w3.cell? ⟨b, 0, none⟩ = some (.slice (some ⟨g, 0, none⟩) n c) := (HT.out _ B3.out).cell
  have HW : Hid (∀ z, Below w3.heap.size w3 z → z.cell? ⟨b, 0, none⟩ = some (.slice (some ⟨g, 0, none⟩) n c)) := fun z hz => (HT.out _ (B3.out.trans (hz.mono B3.out.size))).cell
  -- GEN
  have hn1' : j < T.length := by rw [hn]; exact hn1
  have hjm : ((j : Int) != -1) = true := by simp
  rcases hq with hk | ⟨rfl, rfl | rfl⟩
  · skip
    go_upto_region 6 with (fail)
    refine wp_region_any (by kernel_rfl) ?_
    change wpAny _ _ _ _ _ _ _ (World.drew _)
    have B4 : Hid (Below w.heap.size w w3.drew) := B3.out.drew
    have G4 : Hid (w3.drew.heap[w.heap.size]? = some (.cells X 30 (0, 0))) := G3.out
    have T4 : Hid (TAt 50 B w3.drew b (.slice (some ⟨g, 0, none⟩) n c) T) := HT.out _ B4.out
    obtain ⟨z, hz⟩ : ∃ y, y = w3.drew := ⟨_, rfl⟩
    rw [← hz] at B4 G4 T4 ⊢
    clear hz c3 b3
    refine wpAny_of_held (S := fun y => y.cell? ⟨b, 0, none⟩ = some (.slice (some ⟨g, 0, none⟩) n c) ∧ y.heap[w.heap.size]? = some (.cells X 30 (0, 0))) _ _ _ _ ?_
    have SD : z.cell? ⟨b, 0, none⟩ = some (.slice (some ⟨g, 0, none⟩) n c) ∧ z.heap[w.heap.size]? = some (.cells X 30 (0, 0)) := ⟨T4.out.cell, G4.out⟩
    refine anyH_take 0 31 (.pointer (some ⟨b, 0, none⟩)) SD rfl (by kernel_rfl) (by kernel_rfl) (by kernel_rfl) (fun _ _ _ h => h) (by rfl) (by intro x hx; obtain ⟨y0, y1⟩ := hx; go_simp) ?_
    try simp only [Act.put, List.setIfInBounds_toArray, List.set_cons_zero, List.set_cons_succ]
    refine anyH_take 1 32 (.pointer (some ⟨b, 0, none⟩)) SD rfl (by kernel_rfl) (by kernel_rfl) (by kernel_rfl) (fun _ _ _ h => h) (by rfl) (by intro x hx; obtain ⟨y0, y1⟩ := hx; go_simp) ?_
    try simp only [Act.put, List.setIfInBounds_toArray, List.set_cons_zero, List.set_cons_succ]
    refine anyH_take 2 33 (.pointer (some ⟨b, 0, none⟩)) SD rfl (by kernel_rfl) (by kernel_rfl) (by kernel_rfl) (fun _ _ _ h => h) (by rfl) (by intro x hx; obtain ⟨y0, y1⟩ := hx; go_simp) ?_
    try simp only [Act.put, List.setIfInBounds_toArray, List.set_cons_zero, List.set_cons_succ]
    refine anyH_take 3 34 (.slice (some ⟨g, 0, none⟩) n c) SD rfl (by kernel_rfl) (by kernel_rfl) (by kernel_rfl) (fun _ _ _ h => h) (by rfl) (by intro x hx; obtain ⟨y0, y1⟩ := hx; go_simp) ?_
    try simp only [Act.put, List.setIfInBounds_toArray, List.set_cons_zero, List.set_cons_succ]
    refine anyH_take 4 35 (.int .i64 (j : Int)) SD rfl (by kernel_rfl) (by kernel_rfl) (by kernel_rfl) (fun _ _ _ h => h) (by rfl) (by intro x hx; obtain ⟨y0, y1⟩ := hx; go_simp) ?_
    try simp only [Act.put, List.setIfInBounds_toArray, List.set_cons_zero, List.set_cons_succ]
    refine anyH_take 5 36 (.agg X) SD rfl (by kernel_rfl) (by kernel_rfl) (by kernel_rfl) (fun _ _ _ h => h) (by rfl) (fun y hy => exec_arr _ _ w.heap.size 0 _ _ rfl (rng_whole hy.2) Try.underlying30 rfl HSX.out) ?_
    try simp only [Act.put, List.setIfInBounds_toArray, List.set_cons_zero, List.set_cons_succ]
    refine anyH_take 6 37 (.pointer (some ⟨g, j * 3, none⟩)) SD rfl (by kernel_rfl) (by kernel_rfl) (by kernel_rfl) (fun _ _ _ h => h) (by rfl) (by intro x hx; obtain ⟨y0, y1⟩ := hx; go_simp) ?_
    try simp only [Act.put, List.setIfInBounds_toArray, List.set_cons_zero, List.set_cons_succ]
    refine anyH_one 7 (by kernel_rfl) ?_
    refine wpOp_step rfl (fun Kc hKc => ?_)
    rw [if_pos (by rfl)]
    refine st_sg_op _ _ B g n c j _ rfl T x hn1' rfl (by rw [← HX.out]; rfl) T4.out.own (fun w5 O5 C5 => ?_)
    have hgz : g < w.heap.size := HGL.out
    have T5 : Hid (TAt 50 B w5 b (.slice (some ⟨g, 0, none⟩) n c) (T.set j x)) := T4.out.put tne rfl C5.out O5.out
    refine hKc _ _ ⟨⟨T5.out.cell, (C5.out.block _ (by omega)).trans G4.out⟩, ?_⟩
    clear hKc Kc
    refine wpAnyH_done (by kernel_rfl) ?_ _
    go_wp2
    go_ret
    exact ⟨rfl, T5, Lib.hid ((Tn.of B4.out).trans (Tn.chg C5.out rfl))⟩
  · skip
    go_upto_region 6 with (fail)
    refine wp_region_any (by kernel_rfl) ?_
    change wpAny _ _ _ _ _ _ _ (World.drew _)
    have B4 : Hid (Below w.heap.size w w3.drew) := B3.out.drew
    have G4 : Hid (w3.drew.heap[w.heap.size]? = some (.cells X 30 (0, 0))) := G3.out
    have T4 : Hid (TAt 50 B w3.drew b (.slice (some ⟨g, 0, none⟩) n c) T) := HT.out _ B4.out
    obtain ⟨z, hz⟩ : ∃ y, y = w3.drew := ⟨_, rfl⟩
    rw [← hz] at B4 G4 T4 ⊢
    clear hz c3 b3
    refine wpAny_of_held (S := fun y => y.cell? ⟨b, 0, none⟩ = some (.slice (some ⟨g, 0, none⟩) n c) ∧ y.heap[w.heap.size]? = some (.cells X 30 (0, 0))) _ _ _ _ ?_
    have SD : z.cell? ⟨b, 0, none⟩ = some (.slice (some ⟨g, 0, none⟩) n c) ∧ z.heap[w.heap.size]? = some (.cells X 30 (0, 0)) := ⟨T4.out.cell, G4.out⟩
    refine anyH_take 0 31 (.pointer (some ⟨b, 0, none⟩)) SD rfl (by kernel_rfl) (by kernel_rfl) (by kernel_rfl) (fun _ _ _ h => h) (by rfl) (by intro x hx; obtain ⟨y0, y1⟩ := hx; go_simp) ?_
    try simp only [Act.put, List.setIfInBounds_toArray, List.set_cons_zero, List.set_cons_succ]
    refine anyH_take 1 32 (.pointer (some ⟨b, 0, none⟩)) SD rfl (by kernel_rfl) (by kernel_rfl) (by kernel_rfl) (fun _ _ _ h => h) (by rfl) (by intro x hx; obtain ⟨y0, y1⟩ := hx; go_simp) ?_
    try simp only [Act.put, List.setIfInBounds_toArray, List.set_cons_zero, List.set_cons_succ]
    refine anyH_take 2 33 (.pointer (some ⟨b, 0, none⟩)) SD rfl (by kernel_rfl) (by kernel_rfl) (by kernel_rfl) (fun _ _ _ h => h) (by rfl) (by intro x hx; obtain ⟨y0, y1⟩ := hx; go_simp) ?_
    try simp only [Act.put, List.setIfInBounds_toArray, List.set_cons_zero, List.set_cons_succ]
    refine anyH_take 3 34 (.slice (some ⟨g, 0, none⟩) n c) SD rfl (by kernel_rfl) (by kernel_rfl) (by kernel_rfl) (fun _ _ _ h => h) (by rfl) (by intro x hx; obtain ⟨y0, y1⟩ := hx; go_simp) ?_
    try simp only [Act.put, List.setIfInBounds_toArray, List.set_cons_zero, List.set_cons_succ]
    refine anyH_take 4 35 (.int .i64 (j : Int)) SD rfl (by kernel_rfl) (by kernel_rfl) (by kernel_rfl) (fun _ _ _ h => h) (by rfl) (by intro x hx; obtain ⟨y0, y1⟩ := hx; go_simp) ?_
    try simp only [Act.put, List.setIfInBounds_toArray, List.set_cons_zero, List.set_cons_succ]
    refine anyH_take 5 36 (.agg X) SD rfl (by kernel_rfl) (by kernel_rfl) (by kernel_rfl) (fun _ _ _ h => h) (by rfl) (fun y hy => exec_arr _ _ w.heap.size 0 _ _ rfl (rng_whole hy.2) Try.underlying30 rfl HSX.out) ?_
    try simp only [Act.put, List.setIfInBounds_toArray, List.set_cons_zero, List.set_cons_succ]
    refine anyH_take 6 37 (.pointer (some ⟨g, j * 3, none⟩)) SD rfl (by kernel_rfl) (by kernel_rfl) (by kernel_rfl) (fun _ _ _ h => h) (by rfl) (by intro x hx; obtain ⟨y0, y1⟩ := hx; go_simp) ?_
    try simp only [Act.put, List.setIfInBounds_toArray, List.set_cons_zero, List.set_cons_succ]
    refine anyH_one 7 (by kernel_rfl) ?_
    refine wpOp_step rfl (fun Kc hKc => ?_)
    rw [if_pos (by rfl)]
    refine st_sg_op _ _ B g n c j _ rfl T x hn1' rfl (by rw [← HX.out]; rfl) T4.out.own (fun w5 O5 C5 => ?_)
    have hgz : g < w.heap.size := HGL.out
    have T5 : Hid (TAt 50 B w5 b (.slice (some ⟨g, 0, none⟩) n c) (T.set j x)) := T4.out.put tne rfl C5.out O5.out
    refine hKc _ _ ⟨⟨T5.out.cell, (C5.out.block _ (by omega)).trans G4.out⟩, ?_⟩
    clear hKc Kc
    refine wpAnyH_done (by kernel_rfl) ?_ _
    go_wp2
    go_ret
    exact ⟨rfl, T5, Lib.hid ((Tn.of B4.out).trans (Tn.chg C5.out rfl))⟩
  · skip
    go_upto_region 6 with (fail)
    refine wp_region_any (by kernel_rfl) ?_
    change wpAny _ _ _ _ _ _ _ (World.drew _)
    have B4 : Hid (Below w.heap.size w w3.drew) := B3.out.drew
    have G4 : Hid (w3.drew.heap[w.heap.size]? = some (.cells X 30 (0, 0))) := G3.out
    have T4 : Hid (TAt 50 B w3.drew b (.slice (some ⟨g, 0, none⟩) n c) T) := HT.out _ B4.out
    obtain ⟨z, hz⟩ : ∃ y, y = w3.drew := ⟨_, rfl⟩
    rw [← hz] at B4 G4 T4 ⊢
    clear hz c3 b3
    refine wpAny_of_held (S := fun y => y.cell? ⟨b, 0, none⟩ = some (.slice (some ⟨g, 0, none⟩) n c) ∧ y.heap[w.heap.size]? = some (.cells X 30 (0, 0))) _ _ _ _ ?_
    have SD : z.cell? ⟨b, 0, none⟩ = some (.slice (some ⟨g, 0, none⟩) n c) ∧ z.heap[w.heap.size]? = some (.cells X 30 (0, 0)) := ⟨T4.out.cell, G4.out⟩
    refine anyH_take 0 31 (.pointer (some ⟨b, 0, none⟩)) SD rfl (by kernel_rfl) (by kernel_rfl) (by kernel_rfl) (fun _ _ _ h => h) (by rfl) (by intro x hx; obtain ⟨y0, y1⟩ := hx; go_simp) ?_
    try simp only [Act.put, List.setIfInBounds_toArray, List.set_cons_zero, List.set_cons_succ]
    refine anyH_take 1 32 (.pointer (some ⟨b, 0, none⟩)) SD rfl (by kernel_rfl) (by kernel_rfl) (by kernel_rfl) (fun _ _ _ h => h) (by rfl) (by intro x hx; obtain ⟨y0, y1⟩ := hx; go_simp) ?_
    try simp only [Act.put, List.setIfInBounds_toArray, List.set_cons_zero, List.set_cons_succ]
    refine anyH_take 2 33 (.pointer (some ⟨b, 0, none⟩)) SD rfl (by kernel_rfl) (by kernel_rfl) (by kernel_rfl) (fun _ _ _ h => h) (by rfl) (by intro x hx; obtain ⟨y0, y1⟩ := hx; go_simp) ?_
    try simp only [Act.put, List.setIfInBounds_toArray, List.set_cons_zero, List.set_cons_succ]
    refine anyH_take 3 34 (.slice (some ⟨g, 0, none⟩) n c) SD rfl (by kernel_rfl) (by kernel_rfl) (by kernel_rfl) (fun _ _ _ h => h) (by rfl) (by intro x hx; obtain ⟨y0, y1⟩ := hx; go_simp) ?_
    try simp only [Act.put, List.setIfInBounds_toArray, List.set_cons_zero, List.set_cons_succ]
    refine anyH_take 4 35 (.int .i64 (j : Int)) SD rfl (by kernel_rfl) (by kernel_rfl) (by kernel_rfl) (fun _ _ _ h => h) (by rfl) (by intro x hx; obtain ⟨y0, y1⟩ := hx; go_simp) ?_
    try simp only [Act.put, List.setIfInBounds_toArray, List.set_cons_zero, List.set_cons_succ]
    refine anyH_take 5 36 (.agg X) SD rfl (by kernel_rfl) (by kernel_rfl) (by kernel_rfl) (fun _ _ _ h => h) (by rfl) (fun y hy => exec_arr _ _ w.heap.size 0 _ _ rfl (rng_whole hy.2) Try.underlying30 rfl HSX.out) ?_
    try simp only [Act.put, List.setIfInBounds_toArray, List.set_cons_zero, List.set_cons_succ]
    refine anyH_take 6 37 (.pointer (some ⟨g, j * 3, none⟩)) SD rfl (by kernel_rfl) (by kernel_rfl) (by kernel_rfl) (fun _ _ _ h => h) (by rfl) (by intro x hx; obtain ⟨y0, y1⟩ := hx; go_simp) ?_
    try simp only [Act.put, List.setIfInBounds_toArray, List.set_cons_zero, List.set_cons_succ]
    refine anyH_one 7 (by kernel_rfl) ?_
    refine wpOp_step rfl (fun Kc hKc => ?_)
    rw [if_pos (by rfl)]
    refine st_sg_op _ _ B g n c j _ rfl T x hn1' rfl (by rw [← HX.out]; rfl) T4.out.own (fun w5 O5 C5 => ?_)
    have hgz : g < w.heap.size := HGL.out
    have T5 : Hid (TAt 50 B w5 b (.slice (some ⟨g, 0, none⟩) n c) (T.set j x)) := T4.out.put tne rfl C5.out O5.out
    refine hKc _ _ ⟨⟨T5.out.cell, (C5.out.block _ (by omega)).trans G4.out⟩, ?_⟩
    clear hKc Kc
    refine wpAnyH_done (by kernel_rfl) ?_ _
    go_wp2
    go_ret
    exact ⟨rfl, T5, Lib.hid ((Tn.of B4.out).trans (Tn.chg C5.out rfl))⟩
end Go.Proofs.Ytnnalemboeccbaa

/-
  The program's tree: contracts: Get, Node.
-/
import Derived.Test.YtfeemeddhhgigaaTrPb
namespace Go.Proofs.Ytfeemeddhhgigaa
open Go.RowKit

theorem rng_whole {y : World} {g : Nat} {A : Array Value} {t : TypeId} (h : y.heap[g]? = some (.cells A t (0, 0))) : y.rangeAt g 0 A.toList := fun j v hv => by
  rw [cell_of_row y g (0 + j) _ _ _ h, Nat.zero_add]
  simpa using hv
section
variable {P : Program} {ops : Array Oper} {Q : Exit → Act → World → Prop} {a : Act} {w : World}
/-- A store into the middle of a block, in a region that draws. -/
theorem op_mid {K : Act → World → Prop} (i : Nat) (ty : TypeId) (x y : Operand) {T : TypeId} {ps : String} {af : Array Edge} (ho : ops[i]? = some { dst := none, op := .store ty x y, type := T, pos := ps, after := af, guard := none })
    (g o : Nat) (t : TypeId) (old cells : Array Value) (hx : a.eval x = .pointer (some ⟨g, o, none⟩)) (hy : a.eval y = .agg cells) (hg : w.heap[g]? = some (.cells old t (0, 0)))
    (hi : (P.info? ty).map (·.size) = some cells.size) (hs : o + cells.size ≤ old.size) (h1 : cells.all (·.oneCell') = true)
    (h : ∀ w', Hid (w'.heap[g]? = some (.cells (old.toList.take o ++ cells.toList ++ old.toList.drop (o + cells.size)).toArray t (0, 0))) → Chg g w w' → K a w') : wpOp P ops Q i K a w :=
  op_store i ty x y ho g o t old.toList cells hx hy (by simpa using hg) hi (by simpa using hs) h1 (fun w' G C => h w' (show _ = _ by have := G.out; rw [this]; simp [splice]) C)
theorem op_whole {K : Act → World → Prop} (i : Nat) (ty : TypeId) (x y : Operand) {T : TypeId} {ps : String} {af : Array Edge} (ho : ops[i]? = some { dst := none, op := .store ty x y, type := T, pos := ps, after := af, guard := none })
    (g : Nat) (t : TypeId) (old cells : Array Value) (hx : a.eval x = .pointer (some ⟨g, 0, none⟩)) (hy : a.eval y = .agg cells) (hg : w.heap[g]? = some (.cells old t (0, 0)))
    (hi : (P.info? ty).map (·.size) = some cells.size) (hs : cells.size = old.size) (h1 : cells.all (·.oneCell') = true)
    (h : ∀ w', Hid (w'.heap[g]? = some (.cells cells t (0, 0))) → Chg g w w' → K a w') : wpOp P ops Q i K a w :=
  op_mid i ty x y ho g 0 t old cells hx hy hg hi (by omega) h1 (fun w' G C => h w' (show _ = _ by have := G.out; rw [this, hs]; congr 2; apply Array.ext'; simp) C)
end
theorem Tr.tz_iff {r : Pg.Rf} (h : 0 < r.1 ∨ r = Pg.zr) : decide (r = Pg.zr) = !decide (0 < r.1) := by
  rcases h with h | h
  · rw [decide_eq_true h, decide_eq_false (fun e => by rw [e] at h; exact absurd h Tr.zr_no)]; rfl
  · rw [decide_eq_true h, decide_eq_false (fun e => by rw [h] at e; exact absurd e Tr.zr_no)]; rfl
theorem Tr.get_in {t : Tr.T} (h : Tr.TZ t) (k : Nat) (hk : k < 64) : Tr.getB t (k : Int) = decide (0 < (t.b k).1) ∧ Tr.getR t (k : Int) = t.b k := by
  have e : Tr.getB t (k : Int) = decide (0 < (t.b k).1) := by
    unfold Tr.getB
    rw [Int.toNat_natCast, decide_eq_true (show Tr.inK (k : Int) by unfold Tr.inK; omega), Bool.true_and]
  refine ⟨e, ?_⟩
  unfold Tr.getR
  rw [e, Int.toNat_natCast]
  rcases h.1 k with h | h
  · rw [if_pos (decide_eq_true h)]
  · split
    · rfl
    · exact h.symm
theorem Tr.get_out {t : Tr.T} {N : Int} (h : ¬ Tr.inK N) : Tr.getB t N = false ∧ Tr.getR t N = Pg.zr := by
  have e : Tr.getB t N = false := by unfold Tr.getB; rw [decide_eq_false h, Bool.false_and]
  refine ⟨e, ?_⟩
  unfold Tr.getR
  rw [e]; rfl
theorem Tr.node_out {t : Tr.T} {N : Int} (h : ¬ Tr.inN N) : Tr.nodeB t N = false ∧ Tr.nodeR t N = Pg.zr := by
  have e : Tr.nodeB t N = false := by unfold Tr.nodeB; rw [decide_eq_false h, Bool.false_and]
  refine ⟨e, ?_⟩
  unfold Tr.nodeR
  rw [e]; rfl
set_option maxHeartbeats 4000000 in
set_option maxRecDepth 100000 in
theorem pget_any {K b : Nat} {t : Tr.T} (N : Int) (w : World) (h : PT K w b t) :
    Calls Try.prog 17 #[.pointer (some ⟨b, 0, none⟩), .int .i64 N] w (RbSay (Tr.getR t N) (Tr.getB t N) w) := by
  obtain ⟨k, hk, HR0⟩ : ∃ k : Nat, (Tr.inK N → N = (k : Int) ∧ k < 64) ∧ True := ⟨N.toNat, fun h => by unfold Tr.inK at h; omega, trivial⟩
  obtain ⟨R, Z, eA, e33, hK, hZ⟩ := rfz (h.ok.1 k)
  have HRS := Lib.hid hK.size
  have HR1 := Lib.hid hK.one
  have heqz := hK.eqz
  have HZS := Lib.hid hZ.size
  have HZ1 := Lib.hid hZ.one
  have HZV := Lib.hid hZ.val
  have HZB := Lib.hid hZ.built
  have hz := (zero_of_info hZ.zero).1
  have hzn : ¬ Z = #[] := fun h => by have := HZS.out; rw [h] at this; simp at this
  have hsz := row_size Try.sizeRef33 HZS
  have hsR := row_size Try.sizeRef33 HRS
  have R0 : Hid ((w.alloc (.cells Z 33)).heap[w.heap.size]? = some (.cells Z 33 (0, 0))) := heap_alloc_new w _
  have B0 : Hid (Below w.heap.size w (w.alloc (.cells Z 33))) := (Below.refl _ w).alloc (Nat.le_refl _) _
  obtain ⟨w0, hw0⟩ : ∃ x, x = w.alloc (.cells Z 33) := ⟨_, rfl⟩
  rw [← hw0] at R0 B0
  have HIB : Hid (∀ y, Calls Try.prog 46 #[.int .i64 N] y (BoSay (decide (Tr.inK N)) y)) := fun y => isblock_any N y
  by_cases hin : Tr.inK N
  · obtain ⟨rfl, hk64⟩ := hk hin
    obtain ⟨e1, e2⟩ := Tr.get_in h.tz k hk64
    rw [e1, e2]
    rw [decide_eq_true hin] at HIB
    rw [Tr.tz_iff (h.tz.1 k)] at heqz
    have HB : Hid (∀ y, Below w.heap.size w y → y.rangeAt b (k * 33) R.toList) := fun y hy => by rw [← eA]; exact (h.old hy).blk k hk64
    have hk0 : 0 ≤ (k : Int) := by omega
    have hk1 : (k : Int) < 64 := by omega
    unfold RbSay
    rw [e33]
    generalize decide (0 < (t.b k).1) = q at *
    clear h hK hZ e1 e2 eA e33 hin hk
    cases q with
    | true =>
      go_enter Try.func17, Try.ntmps17
      go_upto_region 4 with (first
        | (go_at_call 46; rw [← hw0]; clear hw0; refine (HIB.out _).mono ?_; rintro e1 w1 ⟨rfl, B1⟩; have BB := Lib.hid (B0.out.trans (B1.out.mono B0.out.size)); have R1 : Hid (w1.heap[w.heap.size]? = some (.cells Z 33 (0, 0))) := (B1.out.block _ (lt_of_block R0.out)).trans R0.out; have HR := Lib.hid (HB.out _ BB.out))
        | ((with_reducible refine rng_load _ _ _ _ _ _ ?_ HR.out Try.underlying33 ?_ hsR ?_); (exact rfl); (exact rfl))
        | ((with_reducible refine row_store _ _ _ _ _ _ _ ?_ ?_ (heap_alloc_new _ _) hsR ?_ HR1.out ?_); (exact rfl); (exact rfl); (rw [HRS.out, HZS.out]); intro w2 G2 ch2; have B2 := Lib.hid (ch2.below ((Below.refl _ w1).alloc (Nat.le_refl _) _) (Nat.le_refl _)); have C2 := Lib.hid (BB.out.trans (B2.out.mono BB.out.size)); have R2 := Lib.hid ((B2.out.block _ (lt_of_block R1.out)).trans R1.out); have HNE : Hid (w1.heap.size ≠ w.heap.size) := (by have := lt_of_block R1.out; show _ ≠ _; omega)))
      refine wp_region_any (by kernel_rfl) ?_
      change wpAny _ _ _ _ _ _ _ (World.drew _)
      have B3 : Hid (Below w.heap.size w w2.drew) := C2.out.drew
      have G3 : Hid (w2.drew.heap[w1.heap.size]? = some (.cells R 33 (0, 0))) := G2.out
      have R3 : Hid (w2.drew.heap[w.heap.size]? = some (.cells Z 33 (0, 0))) := R2.out
      obtain ⟨z, hz9⟩ : ∃ y, y = w2.drew := ⟨_, rfl⟩
      rw [← hz9] at B3 G3 R3 ⊢
      clear hz9
      refine wpAny_of_held (S := fun y => y.heap[w1.heap.size]? = some (.cells R 33 (0, 0))) _ _ _ _ ?_
      have SD : (fun y => y.heap[w1.heap.size]? = some (.cells R 33 (0, 0))) z := G3.out
      refine anyH_take 0 17 (.agg R) SD rfl (by kernel_rfl) (by kernel_rfl) (by kernel_rfl) (fun _ _ _ h => h) (by rfl) (fun y hy => exec_arr _ _ w1.heap.size 0 _ _ rfl (rng_whole hy) Try.underlying33 rfl hsR) ?_
      try simp only [Act.put, List.setIfInBounds_toArray, List.set_cons_zero, List.set_cons_succ]
      refine anyH_take 1 18 (.agg R) SD rfl (by kernel_rfl) (by kernel_rfl) (by kernel_rfl) (fun _ _ _ h => h) (by rfl) (fun y hy => exec_arr _ _ w1.heap.size 0 _ _ rfl (rng_whole hy) Try.underlying33 rfl hsR) ?_
      try simp only [Act.put, List.setIfInBounds_toArray, List.set_cons_zero, List.set_cons_succ]
      refine anyH_take 2 19 (.agg Z) SD rfl (by kernel_rfl) (by kernel_rfl) (by kernel_rfl) (fun _ _ _ h => h) (by rfl) (fun y hy => exec_build0 _ _ HZB.out) ?_
      try simp only [Act.put, List.setIfInBounds_toArray, List.set_cons_zero, List.set_cons_succ]
      refine anyH_take 3 20 (.bool true) SD rfl (by kernel_rfl) (by kernel_rfl) (by kernel_rfl) (fun _ _ _ h => h) (by rfl) (by intro y hy; go_simp) ?_
      try simp only [Act.put, List.setIfInBounds_toArray, List.set_cons_zero, List.set_cons_succ]
      refine anyH_one 4 (by kernel_rfl) ?_
      refine op_whole 4 _ _ _ rfl w.heap.size 33 Z R rfl rfl R3.out hsR (by rw [HRS.out, HZS.out]) HR1.out (fun w5 G5 C5 => ⟨(C5.block _ HNE.out).trans G3.out, ?_⟩)
      try simp only [Act.put, List.setIfInBounds_toArray, List.set_cons_zero, List.set_cons_succ]
      refine anyH_take 5 5 (.bool true) ((C5.block _ HNE.out).trans G3.out) rfl (by kernel_rfl) (by kernel_rfl) (by kernel_rfl) (fun _ _ _ h => h) (by rfl) (by intro y hy; go_simp) ?_
      try simp only [Act.put, List.setIfInBounds_toArray, List.set_cons_zero, List.set_cons_succ]
      refine wpAnyH_done (by kernel_rfl) ?_ _
      go_wp2
      refine bodyPost_ret (results_ct rfl _ _ w.heap.size 33 R (0, 0) _ rfl G5.out Try.underlying33 rfl hsR) rfl ⟨rfl, Lib.hid (C5.below B3.out (Nat.le_refl _))⟩
    | false =>
      go_enter Try.func17, Try.ntmps17
      go_upto_region 4 with (first
        | (go_at_call 46; rw [← hw0]; clear hw0; refine (HIB.out _).mono ?_; rintro e1 w1 ⟨rfl, B1⟩; have BB := Lib.hid (B0.out.trans (B1.out.mono B0.out.size)); have R1 : Hid (w1.heap[w.heap.size]? = some (.cells Z 33 (0, 0))) := (B1.out.block _ (lt_of_block R0.out)).trans R0.out; have HR := Lib.hid (HB.out _ BB.out))
        | ((with_reducible refine rng_load _ _ _ _ _ _ ?_ HR.out Try.underlying33 ?_ hsR ?_); (exact rfl); (exact rfl))
        | ((with_reducible refine row_store _ _ _ _ _ _ _ ?_ ?_ (heap_alloc_new _ _) hsR ?_ HR1.out ?_); (exact rfl); (exact rfl); (rw [HRS.out, HZS.out]); intro w2 G2 ch2; have B2 := Lib.hid (ch2.below ((Below.refl _ w1).alloc (Nat.le_refl _) _) (Nat.le_refl _)); have C2 := Lib.hid (BB.out.trans (B2.out.mono BB.out.size)); have R2 := Lib.hid ((B2.out.block _ (lt_of_block R1.out)).trans R1.out); have HNE : Hid (w1.heap.size ≠ w.heap.size) := (by have := lt_of_block R1.out; show _ ≠ _; omega)))
      refine wp_region_any (by kernel_rfl) ?_
      change wpAny _ _ _ _ _ _ _ (World.drew _)
      have B3 : Hid (Below w.heap.size w w2.drew) := C2.out.drew
      have G3 : Hid (w2.drew.heap[w1.heap.size]? = some (.cells R 33 (0, 0))) := G2.out
      have R3 : Hid (w2.drew.heap[w.heap.size]? = some (.cells Z 33 (0, 0))) := R2.out
      obtain ⟨z, hz9⟩ : ∃ y, y = w2.drew := ⟨_, rfl⟩
      rw [← hz9] at B3 G3 R3 ⊢
      clear hz9
      refine wpAny_of_held (S := fun y => y.heap[w1.heap.size]? = some (.cells R 33 (0, 0))) _ _ _ _ ?_
      have SD : (fun y => y.heap[w1.heap.size]? = some (.cells R 33 (0, 0))) z := G3.out
      refine anyH_take 0 17 (.agg R) SD rfl (by kernel_rfl) (by kernel_rfl) (by kernel_rfl) (fun _ _ _ h => h) (by rfl) (fun y hy => exec_arr _ _ w1.heap.size 0 _ _ rfl (rng_whole hy) Try.underlying33 rfl hsR) ?_
      try simp only [Act.put, List.setIfInBounds_toArray, List.set_cons_zero, List.set_cons_succ]
      refine anyH_take 1 18 (.agg R) SD rfl (by kernel_rfl) (by kernel_rfl) (by kernel_rfl) (fun _ _ _ h => h) (by rfl) (fun y hy => exec_arr _ _ w1.heap.size 0 _ _ rfl (rng_whole hy) Try.underlying33 rfl hsR) ?_
      try simp only [Act.put, List.setIfInBounds_toArray, List.set_cons_zero, List.set_cons_succ]
      refine anyH_take 2 19 (.agg Z) SD rfl (by kernel_rfl) (by kernel_rfl) (by kernel_rfl) (fun _ _ _ h => h) (by rfl) (fun y hy => exec_build0 _ _ HZB.out) ?_
      try simp only [Act.put, List.setIfInBounds_toArray, List.set_cons_zero, List.set_cons_succ]
      refine anyH_take 3 20 (.bool false) SD rfl (by kernel_rfl) (by kernel_rfl) (by kernel_rfl) (fun _ _ _ h => h) (by rfl) (by intro y hy; go_simp) ?_
      try simp only [Act.put, List.setIfInBounds_toArray, List.set_cons_zero, List.set_cons_succ]
      refine anyH_one 4 (by kernel_rfl) ?_
      refine op_whole 4 _ _ _ rfl w.heap.size 33 Z R rfl rfl R3.out hsR (by rw [HRS.out, HZS.out]) HR1.out (fun w5 G5 C5 => ⟨(C5.block _ HNE.out).trans G3.out, ?_⟩)
      try simp only [Act.put, List.setIfInBounds_toArray, List.set_cons_zero, List.set_cons_succ]
      refine anyH_take 5 5 (.bool false) ((C5.block _ HNE.out).trans G3.out) rfl (by kernel_rfl) (by kernel_rfl) (by kernel_rfl) (fun _ _ _ h => h) (by rfl) (by intro y hy; go_simp) ?_
      try simp only [Act.put, List.setIfInBounds_toArray, List.set_cons_zero, List.set_cons_succ]
      refine wpAnyH_done (by kernel_rfl) ?_ _
      go_wp2
      refine bodyPost_ret (results_ct rfl _ _ w.heap.size 33 R (0, 0) _ rfl G5.out Try.underlying33 rfl hsR) rfl ⟨rfl, Lib.hid (C5.below B3.out (Nat.le_refl _))⟩
  · obtain ⟨e1, e2⟩ := Tr.get_out (t := t) hin
    rw [e1, e2]
    rw [decide_eq_false hin] at HIB
    unfold RbSay
    rw [HZV.out]
    clear h hK hZ e1 e2 eA e33 hin hk
    go_enter Try.func17, Try.ntmps17
    go_wp2_with (first
      | (go_at_call 46; rw [← hw0]; clear hw0; refine (HIB.out _).mono ?_; rintro e1 w1 ⟨rfl, B1⟩; have BB := Lib.hid (B0.out.trans (B1.out.mono B0.out.size)); have R1 : Hid (w1.heap[w.heap.size]? = some (.cells Z 33 (0, 0))) := (B1.out.block _ (lt_of_block R0.out)).trans R0.out)
      | ((with_reducible refine row_build0 _ _ HZB.out ?_))
      | ((with_reducible refine row_store _ _ _ _ _ _ _ ?_ ?_ R1.out hsz ?_ HZ1.out ?_); (exact rfl); (exact rfl); (exact rfl); intro w9 G9 ch9))
    refine bodyPost_ret (results_ct rfl _ _ w.heap.size 33 Z (0, 0) _ rfl G9.out Try.underlying33 rfl hsz) rfl ⟨rfl, Lib.hid (ch9.below BB.out (Nat.le_refl _))⟩
set_option maxHeartbeats 4000000 in
set_option maxRecDepth 100000 in
theorem pnode_any {K b : Nat} {t : Tr.T} (N : Int) (w : World) (h : PT K w b t) :
    Calls Try.prog 23 #[.pointer (some ⟨b, 0, none⟩), .int .i64 N] w (RbSay (Tr.nodeR t N) (Tr.nodeB t N) w) := by
  obtain ⟨k, hk, HR0⟩ : ∃ k : Nat, (Tr.inN N → N = (k : Int) ∧ k < 9) ∧ True := ⟨N.toNat, fun h => by unfold Tr.inN at h; omega, trivial⟩
  obtain ⟨R, Z, eA, e33, hK, hZ⟩ := rfz (nr_ok h.ok k)
  have HRS := Lib.hid hK.size
  have HR1 := Lib.hid hK.one
  have HZS := Lib.hid hZ.size
  have HZ1 := Lib.hid hZ.one
  have HZV := Lib.hid hZ.val
  have HZB := Lib.hid hZ.built
  have hz := (zero_of_info hZ.zero).1
  have hzn : ¬ Z = #[] := fun h => by have := HZS.out; rw [h] at this; simp at this
  have hsz := row_size Try.sizeRef33 HZS
  have hsR := row_size Try.sizeRef33 HRS
  have R0 : Hid ((w.alloc (.cells Z 33)).heap[w.heap.size]? = some (.cells Z 33 (0, 0))) := heap_alloc_new w _
  have B0 : Hid (Below w.heap.size w (w.alloc (.cells Z 33))) := (Below.refl _ w).alloc (Nat.le_refl _) _
  obtain ⟨w0, hw0⟩ : ∃ x, x = w.alloc (.cells Z 33) := ⟨_, rfl⟩
  rw [← hw0] at R0 B0
  have HIB : Hid (∀ y, Calls Try.prog 49 #[.int .i64 N] y (BoSay (decide (Tr.inN N)) y)) := fun y => isnode_any N y
  by_cases hin : Tr.inN N
  · obtain ⟨rfl, hk9⟩ := hk hin
    obtain ⟨e1, e2⟩ := Tr.node_of (u := t) k hk9
    rw [e1, e2]
    rw [decide_eq_true hin] at HIB
    have HB : Hid (∀ y, Below w.heap.size w y → y.rangeAt b (2112 + k * 34 + 1) R.toList ∧ y.cell? ⟨b, 2112 + k * 34, none⟩ = some (.int .i64 (Tr.stn (t.n k)))) := fun y hy => by rw [← eA]; exact ⟨(h.old hy).rf k hk9, (h.old hy).st k hk9⟩
    have hk0 : 0 ≤ (k : Int) := by omega
    have hk1 : (k : Int) < 9 := by omega
    unfold RbSay
    rw [e33]
    have hcs : (Tr.stn (t.n k) = 1 ∧ Tr.cln (t.n k) = true) ∨ (Tr.stn (t.n k) = 0 ∧ Tr.cln (t.n k) = false) ∨ (Tr.stn (t.n k) = 2 ∧ Tr.cln (t.n k) = false) := by
      cases t.n k with
      | none => exact Or.inr (Or.inl ⟨rfl, rfl⟩)
      | some x =>
        cases x with
        | none => exact Or.inr (Or.inr ⟨rfl, rfl⟩)
        | some r => exact Or.inl ⟨rfl, rfl⟩
    generalize Tr.cln (t.n k) = q at *
    generalize Tr.stn (t.n k) = s at *
    clear h hK hZ e1 e2 eA e33 hin hk
    rcases hcs with ⟨rfl, rfl⟩ | ⟨rfl, rfl⟩ | ⟨rfl, rfl⟩
    · skip
      go_enter Try.func23, Try.ntmps23
      go_upto_region 3 with (first
        | (go_at_call 49; rw [← hw0]; clear hw0; refine (HIB.out _).mono ?_; rintro e1 w1 ⟨rfl, B1⟩; have BB := Lib.hid (B0.out.trans (B1.out.mono B0.out.size)); have R1 : Hid (w1.heap[w.heap.size]? = some (.cells Z 33 (0, 0))) := (B1.out.block _ (lt_of_block R0.out)).trans R0.out))
      refine wp_region_any (by kernel_rfl) ?_
      change wpAny _ _ _ _ _ _ _ (World.drew _)
      have B3 : Hid (Below w.heap.size w w1.drew) := BB.out.drew
      have R3 : Hid (w1.drew.heap[w.heap.size]? = some (.cells Z 33 (0, 0))) := R1.out
      obtain ⟨z, hz9⟩ : ∃ y, y = w1.drew := ⟨_, rfl⟩
      rw [← hz9] at B3 R3 ⊢
      clear hz9
      refine wpAny_of_held (S := fun y => y.rangeAt b (2112 + k * 34 + 1) R.toList ∧ y.cell? ⟨b, 2112 + k * 34, none⟩ = some (.int .i64 1)) _ _ _ _ ?_
      have SD : (fun y => y.rangeAt b (2112 + k * 34 + 1) R.toList ∧ y.cell? ⟨b, 2112 + k * 34, none⟩ = some (.int .i64 1)) z := HB.out _ B3.out
      refine anyH_take 0 10 (.pointer (some ⟨b, 0, none⟩)) SD rfl (by kernel_rfl) (by kernel_rfl) (by kernel_rfl) (fun _ _ _ h => h) (by rfl) (by intro y hy; obtain ⟨y0, y1⟩ := hy; go_simp) ?_
      try simp only [Act.put, List.setIfInBounds_toArray, List.set_cons_zero, List.set_cons_succ]
      refine anyH_take 1 11 (.int .i64 (k : Int)) SD rfl (by kernel_rfl) (by kernel_rfl) (by kernel_rfl) (fun _ _ _ h => h) (by rfl) (by intro y hy; obtain ⟨y0, y1⟩ := hy; go_simp) ?_
      try simp only [Act.put, List.setIfInBounds_toArray, List.set_cons_zero, List.set_cons_succ]
      refine anyH_take 2 12 (.pointer (some ⟨b, 0, none⟩)) SD rfl (by kernel_rfl) (by kernel_rfl) (by kernel_rfl) (fun _ _ _ h => h) (by rfl) (by intro y hy; obtain ⟨y0, y1⟩ := hy; go_simp) ?_
      try simp only [Act.put, List.setIfInBounds_toArray, List.set_cons_zero, List.set_cons_succ]
      refine anyH_take 3 13 (.pointer (some ⟨b, 2112, none⟩)) SD rfl (by kernel_rfl) (by kernel_rfl) (by kernel_rfl) (fun _ _ _ h => h) (by rfl) (by intro y hy; obtain ⟨y0, y1⟩ := hy; go_simp) ?_
      try simp only [Act.put, List.setIfInBounds_toArray, List.set_cons_zero, List.set_cons_succ]
      refine anyH_take 4 14 (.pointer (some ⟨b, 2112 + k * 34, none⟩)) SD rfl (by kernel_rfl) (by kernel_rfl) (by kernel_rfl) (fun _ _ _ h => h) (by rfl) (by intro y hy; obtain ⟨y0, y1⟩ := hy; go_simp) ?_
      try simp only [Act.put, List.setIfInBounds_toArray, List.set_cons_zero, List.set_cons_succ]
      refine anyH_take 5 15 (.pointer (some ⟨b, 2112 + k * 34 + 1, none⟩)) SD rfl (by kernel_rfl) (by kernel_rfl) (by kernel_rfl) (fun _ _ _ h => h) (by rfl) (by intro y hy; obtain ⟨y0, y1⟩ := hy; go_simp) ?_
      try simp only [Act.put, List.setIfInBounds_toArray, List.set_cons_zero, List.set_cons_succ]
      refine anyH_take 6 16 (.agg R) SD rfl (by kernel_rfl) (by kernel_rfl) (by kernel_rfl) (fun _ _ _ h => h) (by rfl) (fun y hy => exec_arr _ _ b (2112 + k * 34 + 1) _ _ rfl hy.1 Try.underlying33 rfl hsR) ?_
      try simp only [Act.put, List.setIfInBounds_toArray, List.set_cons_zero, List.set_cons_succ]
      refine anyH_take 7 17 (.pointer (some ⟨b, 0, none⟩)) SD rfl (by kernel_rfl) (by kernel_rfl) (by kernel_rfl) (fun _ _ _ h => h) (by rfl) (by intro y hy; obtain ⟨y0, y1⟩ := hy; go_simp) ?_
      try simp only [Act.put, List.setIfInBounds_toArray, List.set_cons_zero, List.set_cons_succ]
      refine anyH_take 8 18 (.int .i64 (k : Int)) SD rfl (by kernel_rfl) (by kernel_rfl) (by kernel_rfl) (fun _ _ _ h => h) (by rfl) (by intro y hy; obtain ⟨y0, y1⟩ := hy; go_simp) ?_
      try simp only [Act.put, List.setIfInBounds_toArray, List.set_cons_zero, List.set_cons_succ]
      refine anyH_take 9 19 (.pointer (some ⟨b, 0, none⟩)) SD rfl (by kernel_rfl) (by kernel_rfl) (by kernel_rfl) (fun _ _ _ h => h) (by rfl) (by intro y hy; obtain ⟨y0, y1⟩ := hy; go_simp) ?_
      try simp only [Act.put, List.setIfInBounds_toArray, List.set_cons_zero, List.set_cons_succ]
      refine anyH_take 10 20 (.pointer (some ⟨b, 2112, none⟩)) SD rfl (by kernel_rfl) (by kernel_rfl) (by kernel_rfl) (fun _ _ _ h => h) (by rfl) (by intro y hy; obtain ⟨y0, y1⟩ := hy; go_simp) ?_
      try simp only [Act.put, List.setIfInBounds_toArray, List.set_cons_zero, List.set_cons_succ]
      refine anyH_take 11 21 (.pointer (some ⟨b, 2112 + k * 34, none⟩)) SD rfl (by kernel_rfl) (by kernel_rfl) (by kernel_rfl) (fun _ _ _ h => h) (by rfl) (by intro y hy; obtain ⟨y0, y1⟩ := hy; go_simp) ?_
      try simp only [Act.put, List.setIfInBounds_toArray, List.set_cons_zero, List.set_cons_succ]
      refine anyH_take 12 22 (.pointer (some ⟨b, 2112 + k * 34, none⟩)) SD rfl (by kernel_rfl) (by kernel_rfl) (by kernel_rfl) (fun _ _ _ h => h) (by rfl) (by intro y hy; obtain ⟨y0, y1⟩ := hy; go_simp) ?_
      try simp only [Act.put, List.setIfInBounds_toArray, List.set_cons_zero, List.set_cons_succ]
      refine anyH_take 13 23 (.int .i64 1) SD rfl (by kernel_rfl) (by kernel_rfl) (by kernel_rfl) (fun _ _ _ h => h) (by rfl) (by intro y hy; obtain ⟨y0, y1⟩ := hy; go_simp) ?_
      try simp only [Act.put, List.setIfInBounds_toArray, List.set_cons_zero, List.set_cons_succ]
      refine anyH_take 14 24 (.bool true) SD rfl (by kernel_rfl) (by kernel_rfl) (by kernel_rfl) (fun _ _ _ h => h) (by rfl) (by intro y hy; obtain ⟨y0, y1⟩ := hy; go_simp) ?_
      try simp only [Act.put, List.setIfInBounds_toArray, List.set_cons_zero, List.set_cons_succ]
      refine anyH_one 15 (by kernel_rfl) ?_
      refine op_whole 15 _ _ _ rfl w.heap.size 33 Z R rfl rfl R3.out hsR (by rw [HRS.out, HZS.out]) HR1.out (fun w5 G5 C5 => ?_)
      have C6 := Lib.hid (C5.below B3.out (Nat.le_refl _))
      have SD6 := HB.out _ C6.out
      refine ⟨SD6, ?_⟩
      try simp only [Act.put, List.setIfInBounds_toArray, List.set_cons_zero, List.set_cons_succ]
      refine anyH_take 16 5 (.bool true) SD6 rfl (by kernel_rfl) (by kernel_rfl) (by kernel_rfl) (fun _ _ _ h => h) (by rfl) (by intro y hy; obtain ⟨y0, y1⟩ := hy; go_simp) ?_
      try simp only [Act.put, List.setIfInBounds_toArray, List.set_cons_zero, List.set_cons_succ]
      refine wpAnyH_done (by kernel_rfl) ?_ _
      go_wp2
      refine bodyPost_ret (results_ct rfl _ _ w.heap.size 33 R (0, 0) _ rfl G5.out Try.underlying33 rfl hsR) rfl ⟨rfl, C6⟩
    · skip
      go_enter Try.func23, Try.ntmps23
      go_upto_region 3 with (first
        | (go_at_call 49; rw [← hw0]; clear hw0; refine (HIB.out _).mono ?_; rintro e1 w1 ⟨rfl, B1⟩; have BB := Lib.hid (B0.out.trans (B1.out.mono B0.out.size)); have R1 : Hid (w1.heap[w.heap.size]? = some (.cells Z 33 (0, 0))) := (B1.out.block _ (lt_of_block R0.out)).trans R0.out))
      refine wp_region_any (by kernel_rfl) ?_
      change wpAny _ _ _ _ _ _ _ (World.drew _)
      have B3 : Hid (Below w.heap.size w w1.drew) := BB.out.drew
      have R3 : Hid (w1.drew.heap[w.heap.size]? = some (.cells Z 33 (0, 0))) := R1.out
      obtain ⟨z, hz9⟩ : ∃ y, y = w1.drew := ⟨_, rfl⟩
      rw [← hz9] at B3 R3 ⊢
      clear hz9
      refine wpAny_of_held (S := fun y => y.rangeAt b (2112 + k * 34 + 1) R.toList ∧ y.cell? ⟨b, 2112 + k * 34, none⟩ = some (.int .i64 0)) _ _ _ _ ?_
      have SD : (fun y => y.rangeAt b (2112 + k * 34 + 1) R.toList ∧ y.cell? ⟨b, 2112 + k * 34, none⟩ = some (.int .i64 0)) z := HB.out _ B3.out
      refine anyH_take 0 10 (.pointer (some ⟨b, 0, none⟩)) SD rfl (by kernel_rfl) (by kernel_rfl) (by kernel_rfl) (fun _ _ _ h => h) (by rfl) (by intro y hy; obtain ⟨y0, y1⟩ := hy; go_simp) ?_
      try simp only [Act.put, List.setIfInBounds_toArray, List.set_cons_zero, List.set_cons_succ]
      refine anyH_take 1 11 (.int .i64 (k : Int)) SD rfl (by kernel_rfl) (by kernel_rfl) (by kernel_rfl) (fun _ _ _ h => h) (by rfl) (by intro y hy; obtain ⟨y0, y1⟩ := hy; go_simp) ?_
      try simp only [Act.put, List.setIfInBounds_toArray, List.set_cons_zero, List.set_cons_succ]
      refine anyH_take 2 12 (.pointer (some ⟨b, 0, none⟩)) SD rfl (by kernel_rfl) (by kernel_rfl) (by kernel_rfl) (fun _ _ _ h => h) (by rfl) (by intro y hy; obtain ⟨y0, y1⟩ := hy; go_simp) ?_
      try simp only [Act.put, List.setIfInBounds_toArray, List.set_cons_zero, List.set_cons_succ]
      refine anyH_take 3 13 (.pointer (some ⟨b, 2112, none⟩)) SD rfl (by kernel_rfl) (by kernel_rfl) (by kernel_rfl) (fun _ _ _ h => h) (by rfl) (by intro y hy; obtain ⟨y0, y1⟩ := hy; go_simp) ?_
      try simp only [Act.put, List.setIfInBounds_toArray, List.set_cons_zero, List.set_cons_succ]
      refine anyH_take 4 14 (.pointer (some ⟨b, 2112 + k * 34, none⟩)) SD rfl (by kernel_rfl) (by kernel_rfl) (by kernel_rfl) (fun _ _ _ h => h) (by rfl) (by intro y hy; obtain ⟨y0, y1⟩ := hy; go_simp) ?_
      try simp only [Act.put, List.setIfInBounds_toArray, List.set_cons_zero, List.set_cons_succ]
      refine anyH_take 5 15 (.pointer (some ⟨b, 2112 + k * 34 + 1, none⟩)) SD rfl (by kernel_rfl) (by kernel_rfl) (by kernel_rfl) (fun _ _ _ h => h) (by rfl) (by intro y hy; obtain ⟨y0, y1⟩ := hy; go_simp) ?_
      try simp only [Act.put, List.setIfInBounds_toArray, List.set_cons_zero, List.set_cons_succ]
      refine anyH_take 6 16 (.agg R) SD rfl (by kernel_rfl) (by kernel_rfl) (by kernel_rfl) (fun _ _ _ h => h) (by rfl) (fun y hy => exec_arr _ _ b (2112 + k * 34 + 1) _ _ rfl hy.1 Try.underlying33 rfl hsR) ?_
      try simp only [Act.put, List.setIfInBounds_toArray, List.set_cons_zero, List.set_cons_succ]
      refine anyH_take 7 17 (.pointer (some ⟨b, 0, none⟩)) SD rfl (by kernel_rfl) (by kernel_rfl) (by kernel_rfl) (fun _ _ _ h => h) (by rfl) (by intro y hy; obtain ⟨y0, y1⟩ := hy; go_simp) ?_
      try simp only [Act.put, List.setIfInBounds_toArray, List.set_cons_zero, List.set_cons_succ]
      refine anyH_take 8 18 (.int .i64 (k : Int)) SD rfl (by kernel_rfl) (by kernel_rfl) (by kernel_rfl) (fun _ _ _ h => h) (by rfl) (by intro y hy; obtain ⟨y0, y1⟩ := hy; go_simp) ?_
      try simp only [Act.put, List.setIfInBounds_toArray, List.set_cons_zero, List.set_cons_succ]
      refine anyH_take 9 19 (.pointer (some ⟨b, 0, none⟩)) SD rfl (by kernel_rfl) (by kernel_rfl) (by kernel_rfl) (fun _ _ _ h => h) (by rfl) (by intro y hy; obtain ⟨y0, y1⟩ := hy; go_simp) ?_
      try simp only [Act.put, List.setIfInBounds_toArray, List.set_cons_zero, List.set_cons_succ]
      refine anyH_take 10 20 (.pointer (some ⟨b, 2112, none⟩)) SD rfl (by kernel_rfl) (by kernel_rfl) (by kernel_rfl) (fun _ _ _ h => h) (by rfl) (by intro y hy; obtain ⟨y0, y1⟩ := hy; go_simp) ?_
      try simp only [Act.put, List.setIfInBounds_toArray, List.set_cons_zero, List.set_cons_succ]
      refine anyH_take 11 21 (.pointer (some ⟨b, 2112 + k * 34, none⟩)) SD rfl (by kernel_rfl) (by kernel_rfl) (by kernel_rfl) (fun _ _ _ h => h) (by rfl) (by intro y hy; obtain ⟨y0, y1⟩ := hy; go_simp) ?_
      try simp only [Act.put, List.setIfInBounds_toArray, List.set_cons_zero, List.set_cons_succ]
      refine anyH_take 12 22 (.pointer (some ⟨b, 2112 + k * 34, none⟩)) SD rfl (by kernel_rfl) (by kernel_rfl) (by kernel_rfl) (fun _ _ _ h => h) (by rfl) (by intro y hy; obtain ⟨y0, y1⟩ := hy; go_simp) ?_
      try simp only [Act.put, List.setIfInBounds_toArray, List.set_cons_zero, List.set_cons_succ]
      refine anyH_take 13 23 (.int .i64 0) SD rfl (by kernel_rfl) (by kernel_rfl) (by kernel_rfl) (fun _ _ _ h => h) (by rfl) (by intro y hy; obtain ⟨y0, y1⟩ := hy; go_simp) ?_
      try simp only [Act.put, List.setIfInBounds_toArray, List.set_cons_zero, List.set_cons_succ]
      refine anyH_take 14 24 (.bool false) SD rfl (by kernel_rfl) (by kernel_rfl) (by kernel_rfl) (fun _ _ _ h => h) (by rfl) (by intro y hy; obtain ⟨y0, y1⟩ := hy; go_simp) ?_
      try simp only [Act.put, List.setIfInBounds_toArray, List.set_cons_zero, List.set_cons_succ]
      refine anyH_one 15 (by kernel_rfl) ?_
      refine op_whole 15 _ _ _ rfl w.heap.size 33 Z R rfl rfl R3.out hsR (by rw [HRS.out, HZS.out]) HR1.out (fun w5 G5 C5 => ?_)
      have C6 := Lib.hid (C5.below B3.out (Nat.le_refl _))
      have SD6 := HB.out _ C6.out
      refine ⟨SD6, ?_⟩
      try simp only [Act.put, List.setIfInBounds_toArray, List.set_cons_zero, List.set_cons_succ]
      refine anyH_take 16 5 (.bool false) SD6 rfl (by kernel_rfl) (by kernel_rfl) (by kernel_rfl) (fun _ _ _ h => h) (by rfl) (by intro y hy; obtain ⟨y0, y1⟩ := hy; go_simp) ?_
      try simp only [Act.put, List.setIfInBounds_toArray, List.set_cons_zero, List.set_cons_succ]
      refine wpAnyH_done (by kernel_rfl) ?_ _
      go_wp2
      refine bodyPost_ret (results_ct rfl _ _ w.heap.size 33 R (0, 0) _ rfl G5.out Try.underlying33 rfl hsR) rfl ⟨rfl, C6⟩
    · skip
      go_enter Try.func23, Try.ntmps23
      go_upto_region 3 with (first
        | (go_at_call 49; rw [← hw0]; clear hw0; refine (HIB.out _).mono ?_; rintro e1 w1 ⟨rfl, B1⟩; have BB := Lib.hid (B0.out.trans (B1.out.mono B0.out.size)); have R1 : Hid (w1.heap[w.heap.size]? = some (.cells Z 33 (0, 0))) := (B1.out.block _ (lt_of_block R0.out)).trans R0.out))
      refine wp_region_any (by kernel_rfl) ?_
      change wpAny _ _ _ _ _ _ _ (World.drew _)
      have B3 : Hid (Below w.heap.size w w1.drew) := BB.out.drew
      have R3 : Hid (w1.drew.heap[w.heap.size]? = some (.cells Z 33 (0, 0))) := R1.out
      obtain ⟨z, hz9⟩ : ∃ y, y = w1.drew := ⟨_, rfl⟩
      rw [← hz9] at B3 R3 ⊢
      clear hz9
      refine wpAny_of_held (S := fun y => y.rangeAt b (2112 + k * 34 + 1) R.toList ∧ y.cell? ⟨b, 2112 + k * 34, none⟩ = some (.int .i64 2)) _ _ _ _ ?_
      have SD : (fun y => y.rangeAt b (2112 + k * 34 + 1) R.toList ∧ y.cell? ⟨b, 2112 + k * 34, none⟩ = some (.int .i64 2)) z := HB.out _ B3.out
      refine anyH_take 0 10 (.pointer (some ⟨b, 0, none⟩)) SD rfl (by kernel_rfl) (by kernel_rfl) (by kernel_rfl) (fun _ _ _ h => h) (by rfl) (by intro y hy; obtain ⟨y0, y1⟩ := hy; go_simp) ?_
      try simp only [Act.put, List.setIfInBounds_toArray, List.set_cons_zero, List.set_cons_succ]
      refine anyH_take 1 11 (.int .i64 (k : Int)) SD rfl (by kernel_rfl) (by kernel_rfl) (by kernel_rfl) (fun _ _ _ h => h) (by rfl) (by intro y hy; obtain ⟨y0, y1⟩ := hy; go_simp) ?_
      try simp only [Act.put, List.setIfInBounds_toArray, List.set_cons_zero, List.set_cons_succ]
      refine anyH_take 2 12 (.pointer (some ⟨b, 0, none⟩)) SD rfl (by kernel_rfl) (by kernel_rfl) (by kernel_rfl) (fun _ _ _ h => h) (by rfl) (by intro y hy; obtain ⟨y0, y1⟩ := hy; go_simp) ?_
      try simp only [Act.put, List.setIfInBounds_toArray, List.set_cons_zero, List.set_cons_succ]
      refine anyH_take 3 13 (.pointer (some ⟨b, 2112, none⟩)) SD rfl (by kernel_rfl) (by kernel_rfl) (by kernel_rfl) (fun _ _ _ h => h) (by rfl) (by intro y hy; obtain ⟨y0, y1⟩ := hy; go_simp) ?_
      try simp only [Act.put, List.setIfInBounds_toArray, List.set_cons_zero, List.set_cons_succ]
      refine anyH_take 4 14 (.pointer (some ⟨b, 2112 + k * 34, none⟩)) SD rfl (by kernel_rfl) (by kernel_rfl) (by kernel_rfl) (fun _ _ _ h => h) (by rfl) (by intro y hy; obtain ⟨y0, y1⟩ := hy; go_simp) ?_
      try simp only [Act.put, List.setIfInBounds_toArray, List.set_cons_zero, List.set_cons_succ]
      refine anyH_take 5 15 (.pointer (some ⟨b, 2112 + k * 34 + 1, none⟩)) SD rfl (by kernel_rfl) (by kernel_rfl) (by kernel_rfl) (fun _ _ _ h => h) (by rfl) (by intro y hy; obtain ⟨y0, y1⟩ := hy; go_simp) ?_
      try simp only [Act.put, List.setIfInBounds_toArray, List.set_cons_zero, List.set_cons_succ]
      refine anyH_take 6 16 (.agg R) SD rfl (by kernel_rfl) (by kernel_rfl) (by kernel_rfl) (fun _ _ _ h => h) (by rfl) (fun y hy => exec_arr _ _ b (2112 + k * 34 + 1) _ _ rfl hy.1 Try.underlying33 rfl hsR) ?_
      try simp only [Act.put, List.setIfInBounds_toArray, List.set_cons_zero, List.set_cons_succ]
      refine anyH_take 7 17 (.pointer (some ⟨b, 0, none⟩)) SD rfl (by kernel_rfl) (by kernel_rfl) (by kernel_rfl) (fun _ _ _ h => h) (by rfl) (by intro y hy; obtain ⟨y0, y1⟩ := hy; go_simp) ?_
      try simp only [Act.put, List.setIfInBounds_toArray, List.set_cons_zero, List.set_cons_succ]
      refine anyH_take 8 18 (.int .i64 (k : Int)) SD rfl (by kernel_rfl) (by kernel_rfl) (by kernel_rfl) (fun _ _ _ h => h) (by rfl) (by intro y hy; obtain ⟨y0, y1⟩ := hy; go_simp) ?_
      try simp only [Act.put, List.setIfInBounds_toArray, List.set_cons_zero, List.set_cons_succ]
      refine anyH_take 9 19 (.pointer (some ⟨b, 0, none⟩)) SD rfl (by kernel_rfl) (by kernel_rfl) (by kernel_rfl) (fun _ _ _ h => h) (by rfl) (by intro y hy; obtain ⟨y0, y1⟩ := hy; go_simp) ?_
      try simp only [Act.put, List.setIfInBounds_toArray, List.set_cons_zero, List.set_cons_succ]
      refine anyH_take 10 20 (.pointer (some ⟨b, 2112, none⟩)) SD rfl (by kernel_rfl) (by kernel_rfl) (by kernel_rfl) (fun _ _ _ h => h) (by rfl) (by intro y hy; obtain ⟨y0, y1⟩ := hy; go_simp) ?_
      try simp only [Act.put, List.setIfInBounds_toArray, List.set_cons_zero, List.set_cons_succ]
      refine anyH_take 11 21 (.pointer (some ⟨b, 2112 + k * 34, none⟩)) SD rfl (by kernel_rfl) (by kernel_rfl) (by kernel_rfl) (fun _ _ _ h => h) (by rfl) (by intro y hy; obtain ⟨y0, y1⟩ := hy; go_simp) ?_
      try simp only [Act.put, List.setIfInBounds_toArray, List.set_cons_zero, List.set_cons_succ]
      refine anyH_take 12 22 (.pointer (some ⟨b, 2112 + k * 34, none⟩)) SD rfl (by kernel_rfl) (by kernel_rfl) (by kernel_rfl) (fun _ _ _ h => h) (by rfl) (by intro y hy; obtain ⟨y0, y1⟩ := hy; go_simp) ?_
      try simp only [Act.put, List.setIfInBounds_toArray, List.set_cons_zero, List.set_cons_succ]
      refine anyH_take 13 23 (.int .i64 2) SD rfl (by kernel_rfl) (by kernel_rfl) (by kernel_rfl) (fun _ _ _ h => h) (by rfl) (by intro y hy; obtain ⟨y0, y1⟩ := hy; go_simp) ?_
      try simp only [Act.put, List.setIfInBounds_toArray, List.set_cons_zero, List.set_cons_succ]
      refine anyH_take 14 24 (.bool false) SD rfl (by kernel_rfl) (by kernel_rfl) (by kernel_rfl) (fun _ _ _ h => h) (by rfl) (by intro y hy; obtain ⟨y0, y1⟩ := hy; go_simp) ?_
      try simp only [Act.put, List.setIfInBounds_toArray, List.set_cons_zero, List.set_cons_succ]
      refine anyH_one 15 (by kernel_rfl) ?_
      refine op_whole 15 _ _ _ rfl w.heap.size 33 Z R rfl rfl R3.out hsR (by rw [HRS.out, HZS.out]) HR1.out (fun w5 G5 C5 => ?_)
      have C6 := Lib.hid (C5.below B3.out (Nat.le_refl _))
      have SD6 := HB.out _ C6.out
      refine ⟨SD6, ?_⟩
      try simp only [Act.put, List.setIfInBounds_toArray, List.set_cons_zero, List.set_cons_succ]
      refine anyH_take 16 5 (.bool false) SD6 rfl (by kernel_rfl) (by kernel_rfl) (by kernel_rfl) (fun _ _ _ h => h) (by rfl) (by intro y hy; obtain ⟨y0, y1⟩ := hy; go_simp) ?_
      try simp only [Act.put, List.setIfInBounds_toArray, List.set_cons_zero, List.set_cons_succ]
      refine wpAnyH_done (by kernel_rfl) ?_ _
      go_wp2
      refine bodyPost_ret (results_ct rfl _ _ w.heap.size 33 R (0, 0) _ rfl G5.out Try.underlying33 rfl hsR) rfl ⟨rfl, C6⟩
  · obtain ⟨e1, e2⟩ := Tr.node_out (t := t) hin
    rw [e1, e2]
    rw [decide_eq_false hin] at HIB
    unfold RbSay
    rw [HZV.out]
    clear h hK hZ e1 e2 eA e33 hin hk
    go_enter Try.func23, Try.ntmps23
    go_wp2_with (first
      | (go_at_call 49; rw [← hw0]; clear hw0; refine (HIB.out _).mono ?_; rintro e1 w1 ⟨rfl, B1⟩; have BB := Lib.hid (B0.out.trans (B1.out.mono B0.out.size)); have R1 : Hid (w1.heap[w.heap.size]? = some (.cells Z 33 (0, 0))) := (B1.out.block _ (lt_of_block R0.out)).trans R0.out)
      | ((with_reducible refine row_build0 _ _ HZB.out ?_))
      | ((with_reducible refine row_store _ _ _ _ _ _ _ ?_ ?_ R1.out hsz ?_ HZ1.out ?_); (exact rfl); (exact rfl); (exact rfl); intro w9 G9 ch9))
    refine bodyPost_ret (results_ct rfl _ _ w.heap.size 33 Z (0, 0) _ rfl G9.out Try.underlying33 rfl hsz) rfl ⟨rfl, Lib.hid (ch9.below BB.out (Nat.le_refl _))⟩
end Go.Proofs.Ytfeemeddhhgigaa

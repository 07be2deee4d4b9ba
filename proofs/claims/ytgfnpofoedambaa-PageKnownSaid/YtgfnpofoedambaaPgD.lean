/-
  Contracts: isNode, may.
-/
import Derived.Test.YtgfnpofoedambaaPgC
namespace Go.Proofs.Ytgfnpofoedambaa
open Go.RowKit

section
variable {P : Program} {ops : Array Oper} {rest : List Oper} {a : Act} {w : World} {Q : Exit → Act → World → Prop} {D : Option Tmp} {T : TypeId} {ps : String} {af : Array Edge}
/-- An element of an array's value. -/
theorem row_index (t e : TypeId) (x y : Operand) (A : Array Value) (k n s : Nat) (v : Value) (hx : a.eval x = .agg A) (hy : a.eval y = .int .i64 (k : Int)) (hu : P.underlying t = some (.array n e)) (hk : k < n)
    (hi : (P.info? e).map (·.size) = some s) (hp : ∀ z, (part e A (k * s)).run P z = .ok v z) (h : wpList P ops Q rest (a.put D v) w) :
    wpList P ops Q ({ dst := D, op := .index t x y, type := T, pos := ps, after := af, guard := none } :: rest) a w :=
  wpList_plain rfl fun K hK => by
    have hrun : (Instr.index t (.agg A) (.int .i64 (k : Int))).run P w = .ok v w := by
      have h1 : (0 : Int) ≤ (k : Int) ∧ (k : Int) < (n : Int) := by omega
      have hk2 : ¬ n ≤ k := by omega
      cases hq : P.info? e with
      | none => simp [hq] at hi
      | some j =>
        have hs : j.size = s := by simpa [hq] using hi
        simp [Instr.index, run_underlying hu, asIntOf, h1, hk2, sizeOf, typeInfo, hq, hs, hp]
    unfold Oper.wp execOp
    simp only [hx, hy, hrun, Sem.run_bind, Sem.run_pure, Result.andThen_ok]
    exact hK _ _ h
end
/-- A node as the calls below meet it: an opaque row, and its refs' rows. -/
structure PgK (R : List Pg.Rf) (A : Array Value) (RA : Nat → Array Value) : Prop where
  size : A.size = 264
  one : A.all (·.oneCell') = true
  part : ∀ k, k < 8 → ∀ z, (part 25 A (k * 33)).run Try.prog z = .ok (.agg (RA k)) z
  rng : ∀ k, k < 8 → ∀ (z : World) (g : Nat) (t : TypeId), z.heap[g]? = some (.cells A t (0, 0)) → z.rangeAt g (k * 33) (RA k).toList
  rsize : ∀ k, k < 8 → (RA k).size = 33
  rone : ∀ k, k < 8 → (RA k).all (·.oneCell') = true
  val : ∀ k, k < 8 → R33 (R.getD k Pg.zr) = .agg (RA k)
theorem pgk {R : List Pg.Rf} (h : Pg.OkA R) : ∃ A RA, PV R = .agg A ∧ PgK R A RA := by
  refine ⟨(cs R).toArray, fun k => (cl (R.getD k Pg.zr)).toArray, by unfold PV; rfl, by rw [List.size_toArray, cs_len h], all_oneCell_toArray (cs_one R), fun k hk z => ?_, fun k hk z g t hz => ?_, fun k hk => ?_, fun k hk => all_oneCell_toArray (cl_one _), fun k hk => ?_⟩
  · exact part_ref h.2 k (by rw [h.1]; exact hk) z
  · intro j v hv
    rw [Nat.mul_comm k 33, cell_of_row z g (33 * k + j) _ _ _ hz]
    have := cs_at h.2 k (by rw [h.1]; exact hk) j v (by simpa using hv)
    simpa using this
  · rw [List.size_toArray, cl_len (Pg.ok_at h k)]
  · unfold R33 cl; rfl
theorem nd_low {i : Int} (R : List Pg.Rf) (h : ¬ (0 ≤ i ∧ i ≤ 8)) : Pg.nd i R = false := by unfold Pg.nd; rw [decide_eq_false h, Bool.false_and]
theorem nd_one {i : Int} {R : List Pg.Rf} (hR : Pg.OkA R) (k : Nat) (hk : k < 8) (h : Pg.mb (R.getD k Pg.zr) = false) : Pg.nd i R = false := by
  unfold Pg.nd
  have h2 : R.all Pg.mb = false := by
    rw [← Bool.not_eq_true, List.all_eq_true]
    intro hall
    have hm : R.getD k Pg.zr ∈ R := by
      rw [List.getD_eq_getElem?_getD, List.getElem?_eq_getElem (by rw [hR.1]; exact hk)]
      exact List.getElem_mem _
    rw [hall _ hm] at h
    cases h
  rw [h2, Bool.and_false]
theorem nd_all {i : Int} {R : List Pg.Rf} (hR : Pg.OkA R) (h : ∀ k, k < 8 → Pg.mb (R.getD k Pg.zr) = true) : Pg.nd i R = decide (0 ≤ i ∧ i ≤ 8) := by
  unfold Pg.nd
  have h2 : R.all Pg.mb = true := by
    rw [List.all_eq_true]
    intro r hr
    obtain ⟨k, hk, rfl⟩ := List.mem_iff_getElem.1 hr
    have := h k (by rw [← hR.1]; exact hk)
    rw [List.getD_eq_getElem?_getD, List.getElem?_eq_getElem hk] at this
    exact this
  rw [h2, Bool.and_true]
set_option maxHeartbeats 1000000 in
set_option maxRecDepth 100000 in
theorem isnode_any (i : Int) (R : List Pg.Rf) (h : Pg.OkA R) (w : World) : Calls Try.prog 22 #[.int .i64 i, PV R] w (BoSay (Pg.nd i R) w) := by
  obtain ⟨A, RA, eA, hk⟩ := pgk h
  rw [eA]
  have HAS := Lib.hid hk.size
  have hsz := row_size Try.sizePage HAS
  have h1 := hk.one
  have HK := Lib.hid hk
  have HC : Hid (∀ k, k < 8 → ∀ y, Calls Try.prog 36 #[.agg (RA k)] y (BoSay (Pg.mb (R.getD k Pg.zr)) y)) := fun k hk8 y => by
    have := maybe_any (R.getD k Pg.zr) (Pg.ok_at h k) y
    rw [hk.val k hk8] at this
    exact this
  have R0 : Hid ((w.alloc (.cells A 28)).heap[w.heap.size]? = some (.cells A 28 (0, 0))) := heap_alloc_new w _
  have B0 : Hid (Below w.heap.size w (w.alloc (.cells A 28))) := (Below.refl _ w).alloc (Nat.le_refl _) _
  have HR := Lib.hid h
  clear hk h eA
  by_cases hlo : i < 0
  · have HN := Lib.hid (nd_low (i := i) R (by omega))
    rw [HN.out]
    clear HN
    go_enter Try.func22, Try.ntmps22
    go_wp2
    go_ret
    exact ⟨rfl, B0.out⟩
  by_cases hhi : i ≥ 9
  · have HN := Lib.hid (nd_low (i := i) R (by omega))
    rw [HN.out]
    clear HN
    go_enter Try.func22, Try.ntmps22
    go_wp2
    go_ret
    exact ⟨rfl, B0.out⟩
  have HIN : Hid (0 ≤ i ∧ i ≤ 8) := ⟨by omega, by omega⟩
  obtain ⟨q, hq⟩ : ∃ q : Bool, Hid (Pg.nd i R = q) := ⟨_, rfl⟩
  rw [hq.out]
  go_enter Try.func22, Try.ntmps22
  go_wp2_with ((with_reducible refine row_load _ _ _ _ _ _ _ ?_ R0.out Try.underlying26 ?_ (row_size Try.sizeRefs HAS) ?_); (exact rfl); (exact rfl))
  clear hlo hhi
  go_loopw [15] (fun v15 wr => ∃ k : Nat, k ≤ 8 ∧ v15 = .int .i64 k ∧ Hid (∀ j, j < k → Pg.mb (R.getD j Pg.zr) = true) ∧ Hid (Below w.heap.size w wr)) (fun v15 _ => 8 - (intOf v15).toNat)
  case atStart => exact ⟨0, by omega, rfl, fun j hj => by omega, B0.out⟩
  case round =>
    clear B0 R0
    obtain ⟨k, hk, rfl, HM, HB⟩ := hrel
    by_cases hlt : k < 8
    · have hx : (k : Int) < 8 := by omega
      have RS : Hid ((RA k).size = 33) := HK.out.rsize k hlt
      have RO : Hid ((RA k).all (·.oneCell') = true) := HK.out.rone k hlt
      have RP : Hid (∀ z, (part 25 A (k * 33)).run Try.prog z = .ok (.agg (RA k)) z) := HK.out.part k hlt
      have RC := Lib.hid (HC.out k hlt)
      have HL : Hid (k < 8) := hlt
      cases hm : Pg.mb (R.getD k Pg.zr) with
      | false =>
        obtain rfl : q = false := by rw [← hq.out]; exact nd_one HR.out k hlt hm
        rw [hm] at RC
        clear hm HM
        generalize RA k = rk at *
        clear HK HC hlt HR HAS hsz h1 hq HIN
        go_wp2_with (first
          | ((with_reducible refine row_index _ 25 _ _ A k 8 33 _ ?_ ?_ Try.underlying26 HL.out Try.sizeRef RP.out ?_); (exact rfl); (exact rfl))
          | ((with_reducible refine row_store _ _ _ _ _ _ _ ?_ ?_ (heap_alloc_new _ _) (row_size Try.sizeRef RS) ?_ RO.out ?_); (exact rfl); (exact rfl); (rw [RS.out]; rfl); intro w2 G2 ch2)
          | ((with_reducible refine row_load _ _ _ _ _ _ _ ?_ G2.out Try.underlying25 ?_ (row_size Try.sizeRef RS) ?_); (exact rfl); (exact rfl))
          | (go_at_call 36; refine (RC.out _).mono ?_; rintro e3 w3 ⟨rfl, HB3⟩))
        have HB2 := Lib.hid (ch2.below (HB.out.alloc HB.out.size _) HB.out.size)
        have HB4 := Lib.hid (HB2.out.trans (HB3.out.mono HB2.out.size))
        go_ret
        exact ⟨rfl, HB4.out⟩
      | true =>
        have HM2 : Hid (∀ j, j < k + 1 → Pg.mb (R.getD j Pg.zr) = true) := fun j hj => by
          by_cases e : j = k
          · rw [e]; exact hm
          · exact HM.out j (by omega)
        rw [hm] at RC
        clear hm HM
        generalize RA k = rk at *
        clear HK HC hlt HR HAS hsz h1 hq HIN
        go_wp2_with (first
          | ((with_reducible refine row_index _ 25 _ _ A k 8 33 _ ?_ ?_ Try.underlying26 HL.out Try.sizeRef RP.out ?_); (exact rfl); (exact rfl))
          | ((with_reducible refine row_store _ _ _ _ _ _ _ ?_ ?_ (heap_alloc_new _ _) (row_size Try.sizeRef RS) ?_ RO.out ?_); (exact rfl); (exact rfl); (rw [RS.out]; rfl); intro w2 G2 ch2)
          | ((with_reducible refine row_load _ _ _ _ _ _ _ ?_ G2.out Try.underlying25 ?_ (row_size Try.sizeRef RS) ?_); (exact rfl); (exact rfl))
          | (go_at_call 36; refine (RC.out _).mono ?_; rintro e3 w3 ⟨rfl, HB3⟩))
        have HB2 := Lib.hid (ch2.below (HB.out.alloc HB.out.size _) HB.out.size)
        have HB4 := Lib.hid (HB2.out.trans (HB3.out.mono HB2.out.size))
        exact ⟨⟨k + 1, by omega, by go_num, HM2.out, HB4.out⟩, by simp [intOf]; omega⟩
    · obtain rfl : k = 8 := by omega
      obtain rfl : q = true := by rw [← hq.out, nd_all HR.out HM.out]; exact decide_eq_true HIN.out
      clear hlt HK HC
      go_wp2
      go_ret
      exact ⟨rfl, HB.out⟩
end Go.Proofs.Ytgfnpofoedambaa

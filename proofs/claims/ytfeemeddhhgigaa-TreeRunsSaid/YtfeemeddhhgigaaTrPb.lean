/-
  What the program's small functions answer: told, isBlock, isNode, leads; page's Empty and Leaf.
-/
import Derived.Test.YtfeemeddhhgigaaTrPa
namespace Go.Proofs.Ytfeemeddhhgigaa
open Go.RowKit

section
variable {P : Program} {ops : Array Oper} {rest : List Oper} {a : Act} {w : World} {Q : Exit → Act → World → Prop} {D : Option Tmp} {T : TypeId} {ps : String} {af : Array Edge}
/-- An element of an array's value. -/
theorem row_index (t e : TypeId) (x y : Operand) (A : Array Value) (k n s : Nat) (v : Value) (hx : a.eval x = .agg A) (hy : a.eval y = .int .i64 (k : Int)) (hu : P.underlying t = some (.array n e)) (hk : k < n)
    (hi : (P.info? e).map (·.size) = some s) (hp : ∀ z, (part e A (k * s)).run P z = .ok v z) (h : wpList P ops Q rest (a.put D v) w) :
    wpList P ops Q ({ dst := D, op := .index t x y, type := T, pos := ps, after := af, guard := none } :: rest) a w :=
  wpList_plain rfl fun K hK => by
    have hrun : (Instr.index t (.agg A) (.int .i64 (k : Int))).run P w = .ok v w := by
      have h1 : (0 : Int) ≤ (k : Int) ∧ (k : Int) < (n : Int) := by omega
      have hk2 : ¬ n ≤ k := by omega
      cases hq : P.info? e with
      | none => simp [hq] at hi
      | some j =>
        have hs : j.size = s := by simpa [hq] using hi
        simp [Instr.index, run_underlying hu, asIntOf, h1, hk2, sizeOf, typeInfo, hq, hs, hp]
    unfold Oper.wp execOp
    simp only [hx, hy, hrun, Sem.run_bind, Sem.run_pure, Result.andThen_ok]
    exact hK _ _ h
end
/-- A node as the calls below meet it: an opaque row, and its refs' rows. -/
structure PgK (R : List Pg.Rf) (A : Array Value) (RA : Nat → Array Value) : Prop where
  size : A.size = 264
  one : A.all (·.oneCell') = true
  part : ∀ k, k < 8 → ∀ z, (part 33 A (k * 33)).run Try.prog z = .ok (.agg (RA k)) z
  rng : ∀ k, k < 8 → ∀ (z : World) (g : Nat) (t : TypeId), z.heap[g]? = some (.cells A t (0, 0)) → z.rangeAt g (k * 33) (RA k).toList
  rsize : ∀ k, k < 8 → (RA k).size = 33
  rone : ∀ k, k < 8 → (RA k).all (·.oneCell') = true
  val : ∀ k, k < 8 → R33 (R.getD k Pg.zr) = .agg (RA k)
theorem pgk {R : List Pg.Rf} (h : Pg.OkA R) : ∃ A RA, PV R = .agg A ∧ PgK R A RA := by
  refine ⟨(cs R).toArray, fun k => (cl (R.getD k Pg.zr)).toArray, by unfold PV; rfl, by rw [List.size_toArray, cs_len h], all_oneCell_toArray (cs_one R), fun k hk z => ?_, fun k hk z g t hz => ?_, fun k hk => ?_, fun k hk => all_oneCell_toArray (cl_one _), fun k hk => ?_⟩
  · exact part_ref h.2 k (by rw [h.1]; exact hk) z
  · intro j v hv
    rw [Nat.mul_comm k 33, cell_of_row z g (33 * k + j) _ _ _ hz]
    have := cs_at h.2 k (by rw [h.1]; exact hk) j v (by simpa using hv)
    simpa using this
  · rw [List.size_toArray, cl_len (Pg.ok_at h k)]
  · unfold R33 cl; rfl
set_option maxRecDepth 100000 in
theorem empty_any (R : List Pg.Rf) (h : Pg.OkA R) (w : World) : Calls Try.prog 52 #[PV R] w (BoSay (decide (R = Pg.zp)) w) := by
  obtain ⟨A, RA, eA, hk⟩ := pgk h
  obtain ⟨Z, eZ⟩ : ∃ Z, (cs Pg.zp).toArray = Z := ⟨_, rfl⟩
  have HBT := Lib.hid Try.builtRefs
  have heq : ∀ y, (Op.equalIn 10000 34 (.agg A) (.agg Z)).run Try.prog y = .ok (decide (R = Pg.zp)) y := fun y => by
    have := arr_eq h Pg.ok_zp y
    rw [eA] at this
    unfold PV at this
    rw [eZ] at this
    exact this
  rw [eZ] at HBT
  rw [eA]
  have HAS := Lib.hid hk.size
  have hsz := row_size Try.sizePage HAS
  have h1 := hk.one
  have R0 : Hid ((w.alloc (.cells A 36)).heap[w.heap.size]? = some (.cells A 36 (0, 0))) := heap_alloc_new w _
  have B0 : Hid (Below w.heap.size w (w.alloc (.cells A 36))) := (Below.refl _ w).alloc (Nat.le_refl _) _
  generalize decide (R = Pg.zp) = q at *
  clear hk h eA eZ
  go_enter Try.func52, Try.ntmps52
  go_wp2_with (first
    | ((with_reducible refine row_load _ _ _ _ _ _ _ ?_ R0.out Try.underlying34 ?_ (row_size Try.sizeRefs HAS) ?_); (exact rfl); (exact rfl))
    | ((with_reducible refine row_build0 _ _ HBT.out ?_)))
  go_ret
  exact ⟨rfl, B0.out⟩
/-- A block's leaf, and its place there. -/
def Pg.lf (b : Int) : Int := if 0 ≤ b ∧ b ≤ 63 then b / 8 + 1 else 0
def Pg.lp (b : Int) : Int := if 0 ≤ b ∧ b ≤ 63 then b % 8 else 0
def LeafSay (b : Int) (w : World) (e : Ending) (w' : World) : Prop := e = .returned (.tuple #[.int .i64 (Pg.lf b), .int .i64 (Pg.lp b)]) ∧ Hid (Below w.heap.size w w')
set_option maxRecDepth 100000 in
theorem pleaf_any (b : Int) (w : World) : Calls Try.prog 65 #[.int .i64 b] w (LeafSay b w) := by
  have HB : Hid (Below w.heap.size w w) := Below.refl _ _
  unfold LeafSay Pg.lf Pg.lp
  by_cases hlo : b < 0
  · have hn : ¬ (0 ≤ b ∧ b ≤ 63) := by omega
    rw [if_neg hn, if_neg hn]
    clear hn
    go_enter Try.func65, Try.ntmps65
    go_wp2
    go_ret2
    exact ⟨rfl, HB.out⟩
  by_cases hhi : b ≥ 64
  · have hn : ¬ (0 ≤ b ∧ b ≤ 63) := by omega
    rw [if_neg hn, if_neg hn]
    clear hn
    go_enter Try.func65, Try.ntmps65
    go_wp2
    go_ret2
    exact ⟨rfl, HB.out⟩
  have hy : 0 ≤ b ∧ b ≤ 63 := by omega
  rw [if_pos hy, if_pos hy]
  have hd : b.tdiv 8 = b / 8 := Int.tdiv_eq_ediv_of_nonneg hy.1
  have hm : b.tmod 8 = b % 8 := Int.tmod_eq_emod_of_nonneg hy.1
  have hw1 : IntKind.i64.wrap (b / 8) = b / 8 := IntWalk.i64_in _ ⟨by omega, by omega⟩
  have hw2 : IntKind.i64.wrap (b % 8) = b % 8 := IntWalk.i64_in _ ⟨by omega, by omega⟩
  have hw3 : IntKind.i64.wrap (b / 8 + 1) = b / 8 + 1 := IntWalk.i64_in _ ⟨by omega, by omega⟩
  have hw4 : wrap64 (b / 8) = b / 8 := IntWalk.wrap64_in _ ⟨by omega, by omega⟩
  have hw5 : wrap64 (b % 8) = b % 8 := IntWalk.wrap64_in _ ⟨by omega, by omega⟩
  have hw6 : wrap64 (b / 8 + 1) = b / 8 + 1 := IntWalk.wrap64_in _ ⟨by omega, by omega⟩
  clear hy
  go_enter Try.func65, Try.ntmps65
  go_wp2
  go_ret2
  exact ⟨rfl, HB.out⟩
theorem rangeAt_old {w y : World} {g o : Nat} {l : List Value} (h : w.rangeAt g o l) (hb : Below w.heap.size w y) : y.rangeAt g o l := fun j v hv => by
  have hc := h j v hv
  rw [World.cell?_of_block (hb.block g (World.block_lt_of_cell? w _ hc))]
  exact hc
/-- A ref as an opaque row, with the zero one. -/
theorem rfz {r : Pg.Rf} (h : Pg.Ok r) : ∃ A Z, rfA r = A ∧ R33 r = .agg A ∧ RfK r A Z ∧ ZfK Z := by
  obtain ⟨A, Z, e, hk⟩ := rfk h
  obtain ⟨Z2, hz⟩ := zfk
  have h1 := hk.built
  rw [hz.built] at h1
  injection h1 with h1
  subst h1
  refine ⟨A, Z2, ?_, e, hk, hz⟩
  have e6 : R33 r = .agg (rfA r) := rfl
  rw [e6] at e
  injection e
theorem take_filter {α : Type} (p : α → Bool) (l : List α) (i : Nat) (d : α) (h : i < l.length) : (l.take (i + 1)).filter p = (l.take i).filter p ++ if p (l.getD i d) then [l.getD i d] else [] := by
  rw [List.take_add_one, List.filter_append, List.getD_eq_getElem?_getD, List.getElem?_eq_getElem h]
  congr 1
  show [l[i]].filter p = _
  rw [List.filter_cons, List.filter_nil]
  rfl
/-- The refs of a list that say something. -/
def Tr.some_ (L : List Pg.Rf) : List Pg.Rf := L.filter fun r => decide (r ≠ Pg.zr)
def ToSay (M : List Pg.Rf) (w : World) (e : Ending) (w' : World) : Prop := ∃ v, e = .returned v ∧ Hid (Fl w.heap.size 33 33 w' v (M.map rfA)) ∧ Hid (Below w.heap.size w w')
set_option maxHeartbeats 4000000 in
set_option maxRecDepth 100000 in
theorem told_any (L : List Pg.Rf) (p : Option Addr) (c n : Nat) (hn : L.length = n) (hL : n ≤ 1000) (hok : ∀ r ∈ L, Pg.Ok r) (w : World) (hs : ∀ i, i < n → ∃ g, p = some ⟨g, 0, none⟩ ∧ w.rangeAt g (i * 33) (rfA (L.getD i Pg.zr)).toList) :
    Calls Try.prog 45 #[.slice p n c] w (ToSay (Tr.some_ L) w) := by
  have HM : Hid (∀ y i, Below w.heap.size w y → i < n → ∃ g, p = some ⟨g, 0, none⟩ ∧ y.rangeAt g (i * 33) (rfA (L.getD i Pg.zr)).toList) := fun y i hy hi => by
    obtain ⟨g, h1, h2⟩ := hs i hi
    exact ⟨g, h1, rangeAt_old h2 hy⟩
  have HOK : Hid (∀ i, i < n → Pg.Ok (L.getD i Pg.zr)) := fun i hi => hok _ (getD_mem' L i Pg.zr (by omega))
  have HST : Hid (∀ i, i < n → Tr.some_ (L.take (i + 1)) = Tr.some_ (L.take i) ++ if decide (L.getD i Pg.zr ≠ Pg.zr) then [L.getD i Pg.zr] else []) := fun i hi => take_filter _ L i Pg.zr (by omega)
  have HLN : Hid (∀ i, i ≤ n → (Tr.some_ (L.take i)).length ≤ n) := fun i hi => by
    unfold Tr.some_
    exact Nat.le_trans (List.length_filter_le _ _) (by rw [List.length_take]; omega)
  have HEND : Hid (Tr.some_ (L.take n) = Tr.some_ L) := by show _ = _; rw [← hn, List.take_length]
  unfold ToSay
  generalize Tr.some_ L = RL at *
  clear hs hok hn
  go_enter Try.func45, Try.ntmps45
  go_wp2
  go_loopw [3, 8] (fun v3 v8 wr => ∃ i : Nat, i ≤ n ∧ v8 = .int .i64 i ∧ Hid (Fl w.heap.size 33 33 wr v3 ((Tr.some_ (L.take i)).map rfA)) ∧ Hid (Below w.heap.size w wr)) (fun _ v8 _ => n - (intOf v8).toNat)
  case atStart => exact ⟨0, Nat.zero_le _, rfl, fl_nil _ _ _ _, Below.refl _ _⟩
  case round =>
    obtain ⟨i, hi, rfl, HF, HB⟩ := hrel
    by_cases hlt : i < n
    · obtain ⟨q, hp, hr⟩ := HM.out _ i HB.out hlt
      subst hp
      have HR := Lib.hid hr
      have hi0 : 0 ≤ (i : Int) := by omega
      have hi1 : (i : Int) < (n : Int) := by omega
      obtain ⟨R, Z, eA, _, hk, hz0⟩ := rfz (HOK.out i hlt)
      have HRS := Lib.hid hk.size
      have HR1 := Lib.hid hk.one
      have heqz := hk.eqz
      have HZS := Lib.hid hz0.size
      have HZB := Lib.hid hz0.built
      have hz := (zero_of_info hz0.zero).1
      have hzn : ¬ Z = #[] := fun h => by have := HZS.out; rw [h] at this; simp at this
      have hsR := row_size Try.sizeRef33 HRS
      have HS2 := Lib.hid (HST.out i hlt)
      obtain ⟨NN, hNN'⟩ : ∃ NN, ((Tr.some_ (L.take i)).map rfA).length = NN := ⟨_, rfl⟩
      have HNN := Lib.hid hNN'
      have hNN : NN ≤ 100000 := by
        have q1 := HLN.out i hi
        rw [List.length_map] at hNN'
        omega
      rw [eA] at HR
      have HRA := Lib.hid eA
      by_cases hzr : L.getD i Pg.zr = Pg.zr
      · have HS3 : Hid (Tr.some_ (L.take (i + 1)) = Tr.some_ (L.take i)) := by show _ = _; rw [HS2.out, if_neg (by rw [decide_eq_true_eq]; exact fun e => e hzr), List.append_nil]
        rw [decide_eq_true hzr] at heqz
        clear hzr hk hz0 HM HOK HST HLN HEND hNN' HS2 HRA eA hr
        go_wp2_with (first
          | ((with_reducible refine rng_load _ _ _ _ _ _ ?_ HR.out Try.underlying33 ?_ hsR ?_); (exact rfl); (exact rfl))
          | ((with_reducible refine row_store _ _ _ _ _ _ _ ?_ ?_ (heap_alloc_new _ _) hsR ?_ HR1.out ?_); (exact rfl); (exact rfl); (rw [HRS.out, HZS.out]); intro w2 G2 ch2; have B2 := Lib.hid (ch2.below (HB.out.alloc HB.out.size _) HB.out.size); have F2 := Lib.hid (HF.out.old (ch2.below ((Below.refl _ wr).alloc (Nat.le_refl _) _) (Nat.le_refl _))))
          | ((with_reducible refine row_load _ _ _ _ _ _ _ ?_ G2.out Try.underlying33 ?_ hsR ?_); (exact rfl); (exact rfl))
          | ((with_reducible refine row_build0 _ _ HZB.out ?_)))
        exact ⟨⟨i + 1, by omega, by go_num, by rw [HS3.out]; exact F2, B2⟩, by simp [intOf]; omega⟩
      · have HS3 : Hid ((Tr.some_ (L.take (i + 1))).map rfA = (Tr.some_ (L.take i)).map rfA ++ [R]) := by show _ = _; rw [HS2.out, if_pos (decide_eq_true hzr), List.map_append, ← HRA.out]; rfl
        rw [decide_eq_false hzr] at heqz
        clear hzr hk hz0 HM HOK HST HLN HEND hNN' HS2 HRA eA hr
        go_wp2_with (first
          | ((with_reducible refine rng_load _ _ _ _ _ _ ?_ HR.out Try.underlying33 ?_ hsR ?_); (exact rfl); (exact rfl))
          | ((with_reducible refine row_store _ _ _ _ _ _ _ ?_ ?_ (heap_alloc_new _ _) hsR ?_ HR1.out ?_); (exact rfl); (exact rfl); (rw [HRS.out, HZS.out]); intro w2 G2 ch2; have B2 := Lib.hid (ch2.below (HB.out.alloc HB.out.size _) HB.out.size); have F2 := Lib.hid (HF.out.old (ch2.below ((Below.refl _ wr).alloc (Nat.le_refl _) _) (Nat.le_refl _))))
          | ((with_reducible refine row_load _ _ _ _ _ _ _ ?_ G2.out Try.underlying33 ?_ hsR ?_); (exact rfl); (exact rfl))
          | ((with_reducible refine row_build0 _ _ HZB.out ?_))
          | ((with_reducible refine bs1_g _ _ _ R 33 40 Try.underlying40 Try.infoRf (rfa_size pg_zr) HRS.out ?_ ?_ _ ?_ ?_); (decide); (decide); (exact rfl))
          | (at_builtin; (with_reducible refine app_fl _ _ _ R 33 40 Try.underlying40 Try.infoRf (rfa_size pg_zr) HRS.out ?_ ?_ HR1.out _ _ w.heap.size _ _ NN ?_ ?_ F2.out HNN.out ?_ B2.out.size ?_); (decide); (decide); (exact rfl); (exact rfl); (exact hNN); intro q9 d9 y9 HF9 HT9 HG9; have B9 := Lib.hid ((B2.out.alloc B2.out.size _).grown HG9.out (by simp; have := B2.out.size; omega) (fun g hg => (HT9.out g hg).1))))
        exact ⟨⟨i + 1, by omega, by go_num, by rw [HS3.out]; exact HF9, B9⟩, by simp [intOf]; omega⟩
    · have E : i = n := by omega
      subst E
      clear hlt HM HOK HST HLN
      go_wp2
      go_ret
      exact ⟨_, rfl, by rw [← HEND.out]; exact HF, HB⟩
theorem Pg.lf_pos (b : Int) : decide (Pg.lf b ≠ 0) = decide (0 ≤ b ∧ b ≤ 63) := by
  unfold Pg.lf
  by_cases h : 0 ≤ b ∧ b ≤ 63
  · rw [if_pos h, decide_eq_true h, decide_eq_true (by omega)]
  · rw [if_neg h, decide_eq_false h]; rfl
set_option maxRecDepth 100000 in
theorem isblock_any (b : Int) (w : World) : Calls Try.prog 46 #[.int .i64 b] w (BoSay (decide (Tr.inK b)) w) := by
  have HL := Lib.hid (pleaf_any b w)
  have HP : Hid (decide (Pg.lf b ≠ 0) = decide (Tr.inK b)) := Pg.lf_pos b
  unfold LeafSay at HL
  generalize decide (Tr.inK b) = q at *
  generalize Pg.lf b = l at *
  generalize Pg.lp b = m at *
  have HQ : Hid ((l != 0) = q) := by show _ = _; rw [← HP.out]; by_cases e : l = 0 <;> simp [e]
  clear HP
  go_enter Try.func46, Try.ntmps46
  go_wp2_with (first
    | (go_at_call 65; refine HL.out.mono ?_; rintro e1 w1 ⟨rfl, B1⟩))
  go_ret
  exact ⟨congrArg (fun x => Ending.returned (Value.bool x)) HQ.out, B1⟩
set_option maxRecDepth 100000 in
theorem isnode_any (b : Int) (w : World) : Calls Try.prog 49 #[.int .i64 b] w (BoSay (decide (Tr.inN b)) w) := by
  unfold BoSay
  by_cases h0 : b ≥ 0
  · by_cases h9 : b < 9
    · rw [decide_eq_true (show Tr.inN b by unfold Tr.inN; omega)]
      go_enter Try.func49, Try.ntmps49
      go_wp2
      go_ret
      exact ⟨rfl, Below.refl _ _⟩
    · rw [decide_eq_false (show ¬ Tr.inN b by unfold Tr.inN; omega)]
      go_enter Try.func49, Try.ntmps49
      go_wp2
      go_ret
      exact ⟨rfl, Below.refl _ _⟩
  · rw [decide_eq_false (show ¬ Tr.inN b by unfold Tr.inN; omega)]
    go_enter Try.func49, Try.ntmps49
    go_wp2
    go_ret
    exact ⟨rfl, Below.refl _ _⟩
set_option maxRecDepth 100000 in
theorem leads_any (r : Pg.Rf) (h : Pg.Ok r) (w : World) : Calls Try.prog 50 #[.agg (rfA r)] w (BoSay (decide (0 < r.1)) w) := by
  obtain ⟨A, Z, eA, _, hk, _⟩ := rfz h
  rw [eA]
  have HAS := Lib.hid hk.size
  have hsz := row_size Try.sizeRef HAS
  have h1 := hk.one
  have R0 : Hid ((w.alloc (.cells A 33)).heap[w.heap.size]? = some (.cells A 33 (0, 0))) := heap_alloc_new w _
  have B0 : Hid (Below w.heap.size w (w.alloc (.cells A 33))) := (Below.refl _ w).alloc (Nat.le_refl _) _
  have c0 : (w.alloc (.cells A 33)).cell? ⟨w.heap.size, 0, none⟩ = some (.int .i64 r.1) := by rw [cell_of_row _ _ 0 _ _ _ R0.out]; exact hk.first
  generalize r.1 = k at *
  clear hk eA h
  by_cases hp : k > 0
  · rw [decide_eq_true (show 0 < k from hp)]
    go_enter Try.func50, Try.ntmps50
    go_wp2
    go_ret
    exact ⟨rfl, B0⟩
  · rw [decide_eq_false (show ¬ 0 < k from hp)]
    go_enter Try.func50, Try.ntmps50
    go_wp2
    go_ret
    exact ⟨rfl, B0⟩
end Go.Proofs.Ytfeemeddhhgigaa

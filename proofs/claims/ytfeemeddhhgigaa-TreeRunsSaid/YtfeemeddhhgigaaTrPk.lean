/-
  The program's tree: leading; nodes held against one another; eight blocks turned at once.
-/
import Derived.Test.YtfeemeddhhgigaaTrPj
namespace Go.Proofs.Ytfeemeddhhgigaa
open Go.RowKit

theorem Try.fieldsNodeP : (Try.prog.fieldsOf 65).toList.map (fun f => (f.name, f.type, f.offset)) = [("is", 63, 0), ("ref", 33, 1)] := by kernel_rfl
theorem agg_stand (w : World) : (isAgg 63).run Try.prog w = .ok false w := by
  unfold isAgg
  rw [Sem.run_bind, run_underlying Try.underlying63 w]
  rfl
theorem part_stand (x : Tr.Nd) (w : World) : (part 63 (Tr.ndA x) 0).run Try.prog w = .ok (.int .i64 (Tr.stn x)) w := by
  unfold part
  rw [Sem.run_bind, agg_stand]
  rfl
theorem part_nref (x : Tr.Nd) (h : Pg.Ok (Tr.nr x)) (w : World) : (part 33 (Tr.ndA x) 1).run Try.prog w = .ok (.agg (cl (Tr.nr x)).toArray) w := by
  obtain ⟨i, hi⟩ := info_of_underlying Try.underlying33
  unfold part
  rw [Sem.run_bind, agg_ref]
  simp only [Result.andThen_ok, if_true, Sem.run_bind, run_sizeOf w hi, Try.cellsRef, Sem.run_pure]
  congr 2
  apply Array.ext'
  simp only [Array.toList_extract, List.extract_eq_take_drop, Nat.add_sub_cancel_left]
  show ((Tr.ndc x).drop 1).take 33 = cl (Tr.nr x)
  unfold Tr.ndc
  rw [List.drop_succ_cons, List.drop_zero, List.take_of_length_le (by rw [cl_len h]; omega)]
theorem nodeP_fields (fs : List Field) (hf : fs.map (fun f => (f.name, f.type, f.offset)) = [("is", 63, 0), ("ref", 33, 1)]) (x y : Tr.Nd) (hx : Pg.Ok (Tr.nr x)) (hy : Pg.Ok (Tr.nr y)) (w : World) :
    (Op.eqFields 9999 (Tr.ndA x) (Tr.ndA y) fs).run Try.prog w = .ok (decide (Tr.stn x = Tr.stn y ∧ Tr.nr x = Tr.nr y)) w := by
  rcases fs with _ | ⟨f1, _ | ⟨f2, _ | ⟨f3, q⟩⟩⟩
  · simp at hf
  · simp at hf
  · simp only [List.map_cons, List.map_nil, List.cons.injEq, Prod.mk.injEq, and_true] at hf
    obtain ⟨⟨n1, t1, o1⟩, n2, t2, o2⟩ := hf
    have he := run_equalIn_int (P := Try.prog) w 9998 63 .i64 .i64 (Tr.stn x) (Tr.stn y) Try.underlying63
    have he2 := refs_at 9996 (Tr.nr x) (Tr.nr y) hx hy w
    have p1 := part_stand x w
    have p2 := part_stand y w
    have p3 := part_nref x hx w
    have p4 := part_nref y hy w
    have hA : ("is" : String) ≠ "_" := by decide
    have hS : ("ref" : String) ≠ "_" := by decide
    rw [Op.eqFields, n1, t1, o1, if_pos hA, Sem.run_bind, p1, Result.andThen_ok, Sem.run_bind, p2, Result.andThen_ok, Sem.run_bind, he, Result.andThen_ok]
    by_cases h1 : Tr.stn x = Tr.stn y
    · rw [if_neg (by simp [h1]), Op.eqFields, n2, t2, o2, if_pos hS, Sem.run_bind, p3, Result.andThen_ok, Sem.run_bind, p4, Result.andThen_ok, Sem.run_bind, he2, Result.andThen_ok]
      by_cases h2 : Tr.nr x = Tr.nr y
      · rw [if_neg (by simp [h2]), Op.eqFields, decide_eq_true ⟨h1, h2⟩]
        rfl
      · rw [if_pos (by simp [h2]), decide_eq_false (fun e => h2 e.2)]
        rfl
    · rw [if_pos (by simp [h1]), decide_eq_false (fun e => h1 e.1)]
      rfl
  · simp at hf
theorem nodeP_eq (x y : Tr.Nd) (hx : Pg.Ok (Tr.nr x)) (hy : Pg.Ok (Tr.nr y)) (w : World) : (Op.equalIn 10000 65 (.agg (Tr.ndA x)) (.agg (Tr.ndA y))).run Try.prog w = .ok (decide (Tr.stn x = Tr.stn y ∧ Tr.nr x = Tr.nr y)) w := by
  rw [show (10000 : Nat) = 9999 + 1 from rfl, run_equalIn_struct w _ _ _ _ Try.underlying65 Try.stoodInHeld65]
  exact nodeP_fields _ Try.fieldsNodeP x y hx hy w
namespace Tr
open Pg (Rf zr zp)
/-- A page with just the refs that speak of sectors. -/
def ld1 (r : Rf) : Rf := if 0 < r.1 then r else zr
def ldg (p : List Rf) : List Rf := p.map ld1
theorem ldg_ok {p : List Rf} (h : Pg.OkA p) : Pg.OkA (ldg p) := by
  refine ⟨by unfold ldg; rw [List.length_map]; exact h.1, fun r hr => ?_⟩
  unfold ldg at hr
  obtain ⟨x, hx, rfl⟩ := List.mem_map.1 hr
  unfold ld1
  split
  · exact h.2 x hx
  · exact pg_zr
theorem ldg_at {p : List Rf} (h : Pg.OkA p) (j : Nat) (hj : j < 8) : (ldg p).getD j zr = ld1 (p.getD j zr) := by
  unfold ldg
  rw [List.getD_eq_getElem?_getD, List.getElem?_map, List.getD_eq_getElem?_getD, List.getElem?_eq_getElem (by rw [h.1]; exact hj)]
  rfl
theorem ld1_z (r : Rf) : 0 < (ld1 r).1 ∨ ld1 r = zr := by
  unfold ld1
  split
  · rename_i h; exact Or.inl h
  · exact Or.inr rfl
/-- The first ones led, the others as they were. -/
def LL (p : List Rf) (i : Nat) : List Rf := (ldg p).take i ++ p.drop i
theorem ll_ok {p : List Rf} (h : Pg.OkA p) (i : Nat) (hi : i ≤ 8) : Pg.OkA (LL p i) := by
  have hl := (ldg_ok h).1
  refine ⟨by unfold LL; rw [List.length_append, List.length_take, List.length_drop, hl, h.1]; omega, fun r hr => ?_⟩
  unfold LL at hr
  rcases List.mem_append.1 hr with q | q
  · exact (ldg_ok h).2 r (List.mem_of_mem_take q)
  · exact h.2 r (List.mem_of_mem_drop q)
theorem ll_zero (p : List Rf) : LL p 0 = p := by unfold LL; rw [List.take_zero, List.drop_zero, List.nil_append]
theorem ll_all {p : List Rf} (h : Pg.OkA p) : LL p 8 = ldg p := by
  unfold LL
  rw [List.take_of_length_le (by rw [(ldg_ok h).1]; omega), List.drop_of_length_le (by rw [h.1]; omega), List.append_nil]
theorem ll_succ {p : List Rf} (h : Pg.OkA p) (i : Nat) (hi : i < 8) : LL p (i + 1) = (ldg p).take i ++ (ld1 (p.getD i zr) :: p.drop (i + 1)) := by
  have hl := (ldg_ok h).1
  have e := ldg_at h i hi
  unfold LL
  rw [List.take_add_one, List.getElem?_eq_getElem (by omega), List.append_assoc]
  rw [List.getD_eq_getElem?_getD, List.getElem?_eq_getElem (by omega)] at e
  have e2 : (ldg p)[i] = ld1 (p.getD i zr) := e
  rw [e2]
  rfl
theorem ll_keep {p : List Rf} (h : Pg.OkA p) (i : Nat) (hi : i < 8) (hp : 0 < (p.getD i zr).1) : LL p (i + 1) = LL p i := by
  rw [ll_succ h i hi]
  unfold LL
  have e : ld1 (p.getD i zr) = p.getD i zr := if_pos hp
  have hi2 : i < p.length := by rw [h.1]; exact hi
  rw [e, List.drop_eq_getElem_cons hi2, List.getD_eq_getElem?_getD, List.getElem?_eq_getElem hi2]
  rfl
theorem ll_set {p : List Rf} (h : Pg.OkA p) (i : Nat) (hi : i < 8) (hp : ¬ 0 < (p.getD i zr).1) : (LL p i).set i zr = LL p (i + 1) := by
  rw [ll_succ h i hi]
  unfold LL
  have e : ld1 (p.getD i zr) = zr := if_neg hp
  have hi2 : i < p.length := by rw [h.1]; exact hi
  have ht : ((ldg p).take i).length = i := by rw [List.length_take, (ldg_ok h).1]; omega
  rw [e, List.set_append_right _ _ (by omega), ht, Nat.sub_self, List.drop_eq_getElem_cons hi2, List.set_cons_zero]
theorem ll_store {p : List Rf} (h : Pg.OkA p) (i : Nat) (hi : i < 8) (hp : ¬ 0 < (p.getD i zr).1) (A : Array Value) (hA : rfA zr = A) : ((cs (LL p i)).toArray.toList.take (i * 33) ++ A.toList ++ (cs (LL p i)).toArray.toList.drop (i * 33 + A.size)).toArray = (cs (LL p (i + 1))).toArray := by
  subst hA
  have h1 := cs_set (ll_ok h i (by omega)).2 i (by rw [(ll_ok h i (by omega)).1]; exact hi) zr
  rw [ll_set h i hi hp] at h1
  rw [rfa_size pg_zr, ← h1, Nat.mul_comm i 33]
  rfl
theorem ldg_empty {p : List Rf} (h : Pg.OkA p) : decide (ldg p = zp) = !anyP p := by
  cases ha : anyP p with
  | true =>
    show _ = false
    refine decide_eq_false (fun e => ?_)
    unfold anyP at ha
    rw [List.any_eq_true] at ha
    obtain ⟨j, hj, hp⟩ := ha
    rw [List.mem_range] at hj
    have hp' := of_decide_eq_true hp
    have h2 := ldg_at h j hj
    rw [e] at h2
    have h3 : zp.getD j zr = zr := by unfold zp; rw [List.getD_eq_getElem?_getD, List.getElem?_replicate]; split <;> rfl
    rw [h3] at h2
    have h4 : ld1 (p.getD j zr) = p.getD j zr := if_pos hp'
    rw [h4] at h2
    rw [← h2] at hp'
    exact zr_no hp'
  | false =>
    show _ = true
    refine decide_eq_true (List.ext_getElem (by rw [(ldg_ok h).1]; rfl) (fun j h1 h2 => ?_))
    rw [(ldg_ok h).1] at h1
    have h3 := ldg_at h j h1
    rw [List.getD_eq_getElem?_getD, List.getElem?_eq_getElem (by rw [(ldg_ok h).1]; exact h1)] at h3
    have h4 : (ldg p)[j] = ld1 (p.getD j zr) := h3
    rw [h4]
    have h5 : zp[j] = zr := by
      show (List.replicate 8 zr)[j]'h2 = zr
      exact List.getElem_replicate _
    rw [h5]
    refine if_neg (fun hp => ?_)
    have : anyP p = true := by
      unfold anyP
      rw [List.any_eq_true]
      exact ⟨j, List.mem_range.2 h1, decide_eq_true hp⟩
    rw [ha] at this
    cases this
/-- The blocks of a leaf, all eight, out of a list. -/
def bk (t : T) (m : Nat) (L : List Rf) : Nat → Rf := fun k => if lf k = m + 1 then L.getD (k - 8 * m) zr else t.b k
theorem bk_load {t : T} (m : Nat) (p : List Rf) (h : Pg.OkA p) (hz : ∀ k, lf k = m + 1 → t.b k = zr) : bk t m (ldg p) = loadB t (m + 1) p := by
  funext k
  unfold bk loadB
  rw [Nat.add_sub_cancel]
  by_cases e : lf k = m + 1
  · have hj : k - 8 * m < 8 := by unfold lf at e; omega
    rw [if_pos e, ldg_at h _ hj]
    unfold ld1
    by_cases hp : 0 < (p.getD (k - 8 * m) zr).1
    · rw [if_pos hp, if_pos ⟨e, hp⟩]
    · rw [if_neg hp, if_neg (fun q => hp q.2), hz k e]
  · rw [if_neg e, if_neg (fun q => e q.1)]
theorem bk_ok {t : T} (h : TOk t) (m : Nat) {L : List Rf} (hL : Pg.OkA L) : TOk ⟨bk t m L, t.n⟩ := by
  refine ⟨fun k => ?_, h.2⟩
  show Pg.Ok (bk t m L k)
  unfold bk
  split
  · exact Pg.ok_at hL _
  · exact h.1 k
theorem bk_tz {t : T} (h : TZ t) (m : Nat) {L : List Rf} (hL : ∀ j, 0 < (L.getD j zr).1 ∨ L.getD j zr = zr) : TZ ⟨bk t m L, t.n⟩ := by
  refine ⟨fun k => ?_, h.2⟩
  show 0 < (bk t m L k).1 ∨ bk t m L k = zr
  unfold bk
  split
  · exact hL _
  · exact h.1 k
theorem tcs_k {t : T} (h : TOk t) (m : Nat) (hm : m < 8) {L : List Rf} (hL : Pg.OkA L) : (tcs t).take (8 * m * 33) ++ cs L ++ (tcs t).drop (8 * m * 33 + (cs L).length) = tcs ⟨bk t m L, t.n⟩ := by
  have hl := tcb_len h
  have hl2 := tcb_len (bk_ok h m hL)
  have hc := cs_len hL
  rw [hc]
  have e1 : (tcs t).take (8 * m * 33) = (tcb t).take (8 * m * 33) := by
    unfold tcs
    rw [List.take_append_of_le_length (by omega)]
  have e2 : (tcs t).drop (8 * m * 33 + 264) = (tcb t).drop (8 * m * 33 + 264) ++ tcn t := by
    unfold tcs
    rw [List.drop_append_of_le_length (by omega)]
  rw [e1, e2, ← List.append_assoc]
  show _ = tcb ⟨bk t m L, t.n⟩ ++ tcn t
  congr 1
  apply List.ext_getElem?
  intro q
  have ht : ((tcb t).take (8 * m * 33)).length = 8 * m * 33 := by rw [List.length_take]; omega
  by_cases hq : q < 2112
  · have hk : q / 33 < 64 := by omega
    have hs : q % 33 < 33 := by omega
    have eq1 : q / 33 * 33 + q % 33 = q := by omega
    have hR := flat_get (fun k => cl (bk t m L k)) 33 64 (fun k _ => cl_len ((bk_ok h m hL).1 k)) (q / 33) (q % 33) hk hs
    rw [eq1] at hR
    have hT := flat_get (fun k => cl (t.b k)) 33 64 (fun k _ => cl_len (h.1 k)) (q / 33) (q % 33) hk hs
    rw [eq1] at hT
    have hR' : (tcb ⟨bk t m L, t.n⟩)[q]? = (cl (bk t m L (q / 33)))[q % 33]? := hR
    have hT' : (tcb t)[q]? = (cl (t.b (q / 33)))[q % 33]? := hT
    rw [hR']
    by_cases h1 : q < 8 * m * 33
    · rw [List.append_assoc, List.getElem?_append_left (by omega), List.getElem?_take, if_pos h1, hT']
      have : ¬ lf (q / 33) = m + 1 := by unfold lf; omega
      unfold bk
      rw [if_neg this]
    · by_cases h2 : q < 8 * m * 33 + 264
      · rw [List.append_assoc, List.getElem?_append_right (by omega), ht, List.getElem?_append_left (by omega)]
        have hj : q - 8 * m * 33 < (cs L).length := by omega
        obtain ⟨_, h4⟩ := cs_parts33 hL (q - 8 * m * 33) _ (List.getElem?_eq_getElem hj)
        rw [List.getElem?_eq_getElem hj, ← h4]
        have e5 : (q - 8 * m * 33) / 33 = q / 33 - 8 * m := by omega
        have e6 : (q - 8 * m * 33) % 33 = q % 33 := by omega
        have e7 : lf (q / 33) = m + 1 := by unfold lf; omega
        rw [e5, e6]
        unfold bk
        rw [if_pos e7]
      · rw [List.getElem?_append_right (by rw [List.length_append]; omega), List.length_append, ht, hc, List.getElem?_drop, show 8 * m * 33 + 264 + (q - (8 * m * 33 + 264)) = q by omega, hT']
        have : ¬ lf (q / 33) = m + 1 := by unfold lf; omega
        unfold bk
        rw [if_neg this]
  · rw [List.getElem?_eq_none (by rw [List.length_append, List.length_append, ht, hc, List.length_drop]; omega), List.getElem?_eq_none (by omega)]
end Tr
theorem PT.putk {K b : Nat} {w y : World} {t : Tr.T} (h : PT K w b t) (m : Nat) (hm : m < 8) (L : List Pg.Rf) (hL : Pg.OkA L) (hz : ∀ j, 0 < (L.getD j Pg.zr).1 ∨ L.getD j Pg.zr = Pg.zr)
    (hg : y.heap[b]? = some (.cells ((Tr.tcs t).take (8 * m * 33) ++ cs L ++ (Tr.tcs t).drop (8 * m * 33 + (cs L).length)).toArray 68 (0, 0))) : PT K y b ⟨Tr.bk t m L, t.n⟩ := by
  rw [Tr.tcs_k h.ok m hm hL] at hg
  exact ⟨hg, Tr.bk_ok h.ok m hL, Tr.bk_tz h.tz m hz, h.lo⟩
set_option maxHeartbeats 4000000 in
set_option maxRecDepth 100000 in
theorem leading_any (p : List Pg.Rf) (hp : Pg.OkA p) (w : World) : Calls Try.prog 51 #[PV p] w (PgSay (Tr.ldg p) w) := by
  obtain ⟨A, RA, eP, hkP⟩ := pgk hp
  have hAE : A = (cs p).toArray := by
    have e6 : PV p = .agg (cs p).toArray := rfl
    rw [e6] at eP
    injection eP with eP
    exact eP.symm
  rw [eP]
  have hz := (zero_of_info Try.zeroPage).1
  have HZS : Hid ((cs Pg.zp).toArray.size = 264) := by show _ = _; rw [List.size_toArray, cs_len Pg.ok_zp]
  have HLS : Hid ((cs (Tr.ldg p)).toArray.size = 264) := by show _ = _; rw [List.size_toArray, cs_len (Tr.ldg_ok hp)]
  have HL1 : Hid ((cs (Tr.ldg p)).toArray.all (·.oneCell') = true) := all_oneCell_toArray (cs_one _)
  have hsL := row_size Try.sizePage HLS
  have HPV : Hid (PV (Tr.ldg p) = .agg (cs (Tr.ldg p)).toArray) := rfl
  have HAS := Lib.hid hkP.size
  have h1 := hkP.one
  have hsA := row_size Try.sizePage HAS
  have hsA2 := row_size Try.sizeRefs HAS
  have HKP := Lib.hid hkP
  have HOK := Lib.hid (Pg.ok_at hp)
  have HL0 : Hid ((cs (Tr.LL p 0)).toArray = A) := by show _ = _; rw [Tr.ll_zero, hAE]
  have HL8 := Lib.hid (Tr.ll_all hp)
  have HKE : Hid (∀ i, i < 8 → 0 < (p.getD i Pg.zr).1 → Tr.LL p (i + 1) = Tr.LL p i) := fun i hi h => Tr.ll_keep hp i hi h
  have HST : Hid (∀ i, i < 8 → ¬ 0 < (p.getD i Pg.zr).1 → ∀ A, rfA Pg.zr = A → ((cs (Tr.LL p i)).toArray.toList.take (i * 33) ++ A.toList ++ (cs (Tr.LL p i)).toArray.toList.drop (i * 33 + A.size)).toArray = (cs (Tr.LL p (i + 1))).toArray) := fun i hi h A hA => Tr.ll_store hp i hi h A hA
  have HPS : Hid (∀ i, i ≤ 8 → (cs (Tr.LL p i)).toArray.size = 264) := fun i hi => by rw [List.size_toArray, cs_len (Tr.ll_ok hp i hi)]
  have HLD : Hid (∀ i, i < 8 → ∀ y, Calls Try.prog 50 #[.agg (rfA (p.getD i Pg.zr))] y (BoSay (decide (0 < (p.getD i Pg.zr).1)) y)) := fun i _ y => leads_any _ (Pg.ok_at hp i) y
  obtain ⟨ZA, hZA⟩ : ∃ ZA, (cs Pg.zp).toArray = ZA := ⟨_, rfl⟩
  rw [hZA] at hz HZS
  have hzn : ¬ ZA = #[] := fun h => by have := HZS.out; rw [h] at this; simp at this
  obtain ⟨Z, hz0⟩ := zfk
  have HZ3 := Lib.hid hz0.size
  have HZ31 := Lib.hid hz0.one
  have HZB := Lib.hid hz0.built
  have hzz := (zero_of_info hz0.zero).1
  have hzzn : ¬ Z = #[] := fun h => by have := HZ3.out; rw [h] at this; simp at this
  have hsZ := row_size Try.sizeRef33 HZ3
  have HZE : Hid (rfA Pg.zr = Z) := by
    have := hz0.val
    have e6 : R33 Pg.zr = .agg (rfA Pg.zr) := rfl
    rw [e6] at this
    injection this
  have B1 : Hid (Below w.heap.size w ((w.alloc (.cells A 36)).alloc (.cells ZA 36))) := ((Below.refl _ w).alloc (Nat.le_refl _) _).alloc (by simp) _
  have G1 : Hid (((w.alloc (.cells A 36)).alloc (.cells ZA 36)).heap[w.heap.size + 1]? = some (.cells ZA 36 (0, 0))) := by
    have := heap_alloc_new (w.alloc (.cells A 36)) (.cells ZA 36)
    rw [show (w.alloc (.cells A 36)).heap.size = w.heap.size + 1 by simp] at this
    exact this
  have G0 : Hid (((w.alloc (.cells A 36)).alloc (.cells ZA 36)).heap[w.heap.size]? = some (.cells A 36 (0, 0))) := (((Below.refl _ (w.alloc (.cells A 36))).alloc (Nat.le_refl _) _).block w.heap.size (by simp)).trans (heap_alloc_new w _)
  unfold PgSay
  rw [HPV.out]
  clear hp eP hkP hz0 hZA hAE
  go_enter Try.func51, Try.ntmps51
  go_wp2_with ((with_reducible refine row_load _ _ _ _ _ _ _ ?_ G0.out Try.underlying34 ?_ hsA2 ?_); (exact rfl); (exact rfl))
  clear hsA2
  go_loopw [3, 7] (fun _ v7 wr => ∃ i : Nat, i ≤ 8 ∧ v7 = .int .i64 i ∧ Hid (wr.heap[w.heap.size]? = some (.cells (cs (Tr.LL p i)).toArray 36 (0, 0))) ∧ Hid (wr.heap[w.heap.size + 1]? = some (.cells ZA 36 (0, 0))) ∧ Hid (Below w.heap.size w wr)) (fun _ v7 _ => 8 - (intOf v7).toNat)
  case atStart => exact ⟨0, by omega, rfl, by rw [HL0.out]; exact G0, G1, B1⟩
  case round =>
    clear G0 G1 B1
    obtain ⟨i, hi, rfl, HG, HG1, HB⟩ := hrel
    by_cases hlt : i < 8
    · have hi0 : 0 ≤ (i : Int) := by omega
      have hi1 : (i : Int) < 8 := by omega
      have HI8 : Hid (i < 8) := hlt
      obtain ⟨R, Z', eR, e33, hkR, _⟩ := rfz (HOK.out i)
      have hRA : RA i = R := by
        have := HKP.out.val i hlt
        rw [e33] at this
        injection this with this
        exact this.symm
      have RP : Hid (∀ z, (part 33 A (i * 33)).run Try.prog z = .ok (.agg R) z) := by have q := HKP.out.part i hlt; rw [hRA] at q; exact q
      have HRS := Lib.hid hkR.size
      have HR1 := Lib.hid hkR.one
      have hsR := row_size Try.sizeRef33 HRS
      have RC := Lib.hid (HLD.out i hlt)
      rw [eR] at RC
      unfold BoSay at RC
      have HK2 := Lib.hid (HKE.out i hlt)
      have HS2 := Lib.hid (HST.out i hlt)
      have HP2 := Lib.hid (HPS.out i hi)
      have HNN : Hid (w.heap.size + 1 ≠ w.heap.size) := by show _ ≠ _; omega
      clear hkR eR e33 hRA HKP HOK HL0 HL8 HKE HST HPS HLD hlt HLS HL1
      by_cases hpos : 0 < (p.getD i Pg.zr).1
      · rw [decide_eq_true hpos] at RC
        have HKK := Lib.hid (HK2.out hpos)
        clear HS2 HK2 hpos
        go_wp2_with (first
          | ((with_reducible refine row_index _ 33 _ _ A i 8 33 _ ?_ ?_ Try.underlying34 HI8.out Try.sizeRef RP.out ?_); (exact rfl); (exact rfl))
          | ((with_reducible refine row_store _ _ _ _ _ _ _ ?_ ?_ (heap_alloc_new _ _) hsR ?_ HR1.out ?_); (exact rfl); (exact rfl); (rw [HRS.out, HZ3.out]); intro w2 G2 ch2; have B2 := Lib.hid (ch2.below ((Below.refl _ wr).alloc (Nat.le_refl _) _) (Nat.le_refl _)))
          | ((with_reducible refine row_load _ _ _ _ _ _ _ ?_ G2.out Try.underlying33 ?_ hsR ?_); (exact rfl); (exact rfl))
          | (go_at_call 50; refine (RC.out _).mono ?_; rintro e3 w3 ⟨rfl, B3⟩; have C3 := Lib.hid (B2.out.trans (B3.out.mono B2.out.size))))
        exact ⟨⟨i + 1, by omega, by go_num, by rw [HKK.out]; exact Lib.hid (below_kept C3.out HG.out), Lib.hid (below_kept C3.out HG1.out), Lib.hid (HB.out.trans (C3.out.mono HB.out.size))⟩, by simp [intOf]; omega⟩
      · rw [decide_eq_false hpos] at RC
        have HSS := Lib.hid (HS2.out (by omega) Z HZE.out)
        clear HS2 HK2 hpos
        go_wp2_with (first
          | ((with_reducible refine row_index _ 33 _ _ A i 8 33 _ ?_ ?_ Try.underlying34 HI8.out Try.sizeRef RP.out ?_); (exact rfl); (exact rfl))
          | ((with_reducible refine row_store _ _ _ _ _ _ _ ?_ ?_ (heap_alloc_new _ _) hsR ?_ HR1.out ?_); (exact rfl); (exact rfl); (rw [HRS.out, HZ3.out]); intro w2 G2 ch2; have B2 := Lib.hid (ch2.below ((Below.refl _ wr).alloc (Nat.le_refl _) _) (Nat.le_refl _)))
          | ((with_reducible refine row_load _ _ _ _ _ _ _ ?_ G2.out Try.underlying33 ?_ hsR ?_); (exact rfl); (exact rfl))
          | (go_at_call 50; refine (RC.out _).mono ?_; rintro e3 w3 ⟨rfl, B3⟩; have C3 := Lib.hid (B2.out.trans (B3.out.mono B2.out.size)); have G3 := Lib.hid (below_kept C3.out HG.out); have G31 := Lib.hid (below_kept C3.out HG1.out); have D3 := Lib.hid (HB.out.trans (C3.out.mono HB.out.size)))
          | ((with_reducible refine row_build0 _ _ HZB.out ?_))
          | ((with_reducible refine mid_store _ _ _ w.heap.size (i * 33) _ _ _ ?_ ?_ G3.out hsZ ?_ HZ31.out ?_); (exact rfl); (exact rfl); (rw [HP2.out, HZ3.out]; have := HI8.out; omega); intro w4 G4 ch4))
        refine ⟨⟨i + 1, by omega, by go_num, ?_, Lib.hid ((ch4.block _ HNN.out).trans G31.out), Lib.hid (ch4.below D3.out (Nat.le_refl _))⟩, by simp [intOf]; omega⟩
        rw [← HSS.out]
        exact G4
    · have E : i = 8 := by omega
      subst E
      rw [HL8.out] at HG
      have HSS : Hid ((cs (Tr.ldg p)).toArray.size = ZA.size) := by show _ = _; rw [HLS.out, HZS.out]
      clear hlt HKP HOK HL0 HL8 HKE HST HPS HLD
      go_wp2_with (first
        | ((with_reducible refine row_load _ _ _ _ _ _ _ ?_ HG.out Try.underlying36 ?_ hsL ?_); (exact rfl); (exact rfl))
        | ((with_reducible refine row_store _ _ _ _ _ _ _ ?_ ?_ HG1.out hsL HSS.out HL1.out ?_); (exact rfl); (exact rfl); intro w5 G5 ch5))
      exact bodyPost_ret (results_cell1 rfl _ _ (w.heap.size + 1) 36 _ (0, 0) _ rfl G5.out Try.underlying36 rfl hsL) rfl ⟨rfl, Lib.hid (ch5.below HB.out (Nat.le_succ _))⟩
end Go.Proofs.Ytfeemeddhhgigaa

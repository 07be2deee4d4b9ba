/-
  A tree of the program that a law plays with; what a law's call does with it.
-/
import Derived.Test.YtfeemeddhhgigaaTrQa
namespace Go.Proofs.Ytfeemeddhhgigaa
open Go.RowKit

namespace Tr
open Pg (Rf zr zp)
theorem set_inv {t : T} (h : Inv t) (N : Int) (r : Rf) : Inv (setI t N r) := run_inv t ⟨0, N, r, []⟩ h
theorem del_inv {t : T} (h : Inv t) (N : Int) : Inv (delI t N) := run_inv t ⟨1, N, zr, []⟩ h
theorem tch_inv {t : T} (h : Inv t) (N : Int) : Inv (touchI t N) := run_inv t ⟨2, N, zr, []⟩ h
theorem svd_inv {t : T} (h : Inv t) (N : Int) (r : Rf) : Inv (saveI t N r) := run_inv t ⟨3, N, r, []⟩ h
theorem load_inv {t : T} (h : Inv t) (N : Int) (p : List Rf) (r : Rf) : Inv (loadI t N p r) := by
  unfold loadI
  by_cases hE : loadE t N p r = 0
  · rw [if_pos hE]
    have h0 := loadE_if t N p r
    rw [hE] at h0
    have hb : (decide (inN N) && decide (0 < r.1)) = true := by
      cases q : (decide (inN N) && decide (0 < r.1)) with
      | true => rfl
      | false => rw [q, if_pos rfl] at h0; exact absurd h0 (by decide)
    rw [if_neg (by rw [hb]; decide)] at h0
    rw [Bool.and_eq_true, decide_eq_true_eq, decide_eq_true_eq] at hb
    obtain ⟨hN, hr⟩ := hb
    have hw : nwB t N.toNat = true := by
      cases q : nwB t N.toNat with
      | true => rfl
      | false => rw [q, if_pos rfl] at h0; exact absurd h0 (by decide)
    rw [if_neg (by rw [hw]; decide)] at h0
    by_cases hz : N = 0
    · rw [if_pos hz]
      subst hz
      have hw2 : nwB t 0 = true := hw
      obtain ⟨h1, h2⟩ := (nw_root t).1 hw2
      obtain ⟨n1, n2⟩ := node_of (u := t) 0 (by omega)
      rw [show ((0 : Nat) : Int) = 0 from rfl] at n1 n2
      rw [n1] at h1
      have hnd : t.n 0 ≠ some none := fun e => by rw [e] at h1; cases h1
      have hs : (saveT t 0 r).n 0 = some (some r) := up_same t.n 0 (some (some r))
      have ho : ∀ j, j ≠ 0 → (saveT t 0 r).n j = t.n j := fun j hj => up_other t.n 0 j (some (some r)) hj
      refine ⟨h.z, h.far, fun i h1 h2 => ?_, by rw [hs]; rfl, fun i h1 h2 => ?_, fun i x h1 h2 => ?_, fun x h2 => ?_, fun i hi => ?_⟩
      · rw [ho i (by omega)]; exact h.there i h1 h2
      · rw [ho i (by omega)] at h2; exact absurd (h.dirt i h1 h2) hnd
      · rw [ho i (by omega)] at h2; exact h.cl i x h1 h2
      · rw [hs] at h2; injection h2 with h2; injection h2 with h2; rw [← h2]; exact Or.inl hr
      · rw [ho i (by omega)]; exact h.off i hi
    · rw [if_neg hz] at h0 ⊢
      have ha : anyP p = true := by
        cases q : anyP p with
        | true => rfl
        | false => rw [q, if_neg Bool.false_ne_true] at h0; exact absurd h0 (by decide)
      obtain ⟨i, hi⟩ : ∃ i, N.toNat = i := ⟨_, rfl⟩
      rw [hi] at hw ⊢
      have hi1 : 1 ≤ i := by unfold inN at hN; omega
      have hi9 : i < 9 := by unfold inN at hN; omega
      have hs : up t.n i (some (some r)) i = some (some r) := up_same _ _ _
      have ho : ∀ j, j ≠ i → up t.n i (some (some r)) j = t.n j := fun j hj => up_other _ _ _ _ hj
      have hbo : ∀ k, lf k ≠ i → loadB t i p k = t.b k := fun k hk => if_neg (fun q => hk q.1)
      refine ⟨fun k => ?_, fun k hk => ?_, fun j h1 h2 => ?_, ?_, fun j h1 h2 => ?_, fun j x h1 h2 => ?_, fun x h2 => ?_, fun j hj => ?_⟩
      · show 0 < (loadB t i p k).1 ∨ loadB t i p k = zr
        unfold loadB
        split
        · rename_i q; exact Or.inl q.2
        · exact h.z k
      · show loadB t i p k = zr
        rw [hbo k (by unfold lf; omega)]; exact h.far k hk
      · show (up t.n i (some (some r)) j).isSome = _
        by_cases e : j = i
        · subst e
          rw [hs]
          symm
          refine (has_iff _ j h1).2 ?_
          unfold anyP at ha
          rw [List.any_eq_true] at ha
          obtain ⟨q, hq, hp⟩ := ha
          rw [List.mem_range] at hq
          have hp' := of_decide_eq_true hp
          have hl : lf (8 * (j - 1) + q) = j := by unfold lf; omega
          refine ⟨8 * (j - 1) + q, hl, ?_⟩
          show 0 < (loadB t j p (8 * (j - 1) + q)).1
          unfold loadB
          rw [show 8 * (j - 1) + q - 8 * (j - 1) = q by omega, if_pos ⟨hl, hp'⟩]
          exact hp'
        · rw [ho j e, h.there j h1 h2]
          exact has_congr _ _ j h1 (fun k hk => (hbo k (by rw [hk]; exact e)).symm)
      · show (up t.n i (some (some r)) 0).isSome = true
        rw [ho 0 (by omega)]; exact h.root
      · have h2' : up t.n i (some (some r)) j = some none := h2
        show up t.n i (some (some r)) 0 = some none
        by_cases e : j = i
        · rw [e, hs] at h2'; cases h2'
        · rw [ho j e] at h2'; rw [ho 0 (by omega)]; exact h.dirt j h1 h2'
      · have h2' : up t.n i (some (some r)) j = some (some x) := h2
        by_cases e : j = i
        · rw [e, hs] at h2'; injection h2' with h2'; injection h2' with h2'; rw [← h2']; exact hr
        · rw [ho j e] at h2'; exact h.cl j x h1 h2'
      · have h2' : up t.n i (some (some r)) 0 = some (some x) := h2
        rw [ho 0 (by omega)] at h2'; exact h.cl0 x h2'
      · show up t.n i (some (some r)) j = none
        rw [ho j (by omega)]; exact h.off j hj
  · rw [if_neg hE]; exact h
end Tr
/-- A tree of the program that a law plays with. -/
structure Pp (x y : World) (b : Nat) (t : Tr.T) : Prop where
  at_ : PT x.heap.size y b t
  inv : Tr.Inv t
  old : Below x.heap.size x y
def PpSay (x : World) (b : Nat) (t' : Tr.T) (D : List Pg.Rf) (w : World) (e : Ending) (w' : World) : Prop :=
  ∃ v, e = .returned v ∧ Hid (Fl w.heap.size 33 33 w' v (D.map rfA)) ∧ Hid (Pp x w' b t') ∧ Hid (Only b w w')
def PeSay (x : World) (b : Nat) (t' : Tr.T) (E : Int) (w : World) (e : Ending) (w' : World) : Prop :=
  e = .returned (.int .i64 E) ∧ Hid (Pp x w' b t') ∧ Hid (Only b w w')
section
variable {x w y : World} {b : Nat} {t t' : Tr.T}
theorem Pp.go (h : Pp x w b t) (h2 : PT x.heap.size y b t') (hi : Tr.Inv t') (ho : Only b w y) : Pp x y b t' := ⟨h2, hi, ho.below h.old h.at_.lo h.old.size⟩
theorem Pp.next (h : Pp x w b t) (hb : Below w.heap.size w y) : Pp x y b t := ⟨h.at_.old hb, h.inv, h.old.trans (hb.mono h.old.size)⟩
theorem Pp.other {g : Nat} (h : Pp x w b t) (ho : Only g w y) (hg : b ≠ g) (hx : x.heap.size ≤ g) : Pp x y b t := ⟨h.at_.only ho hg, h.inv, ho.below h.old hx h.old.size⟩
theorem pp_new (x w : World) (hx : Below x.heap.size x w) : Calls Try.prog 10 #[] w fun e w' => ∃ b, e = .returned (.pointer (some ⟨b, 0, none⟩)) ∧ Hid (Pp x w' b Tr.new) ∧ Hid (Below w.heap.size w w') ∧ Hid (w.heap.size ≤ b) :=
  (pnew_any x.heap.size w hx.size).mono fun _ _ ⟨b, h1, h2, h3, h4⟩ => ⟨b, h1, Lib.hid ⟨h2.out, Tr.new_inv, hx.trans (h3.out.mono hx.size)⟩, h3, h4⟩
theorem pp_set (N : Int) (r : Pg.Rf) (hr : Pg.Ok r) (h : Pp x w b t) : Calls Try.prog 29 #[.pointer (some ⟨b, 0, none⟩), .int .i64 N, .agg (rfA r)] w (PpSay x b (Tr.setI t N r) (Tr.setD t N r) w) :=
  (pset_any N r hr w h.at_).mono fun _ _ ⟨v, h1, h2, h3, h4⟩ => ⟨v, h1, h2, Lib.hid (h.go h3.out (Tr.set_inv h.inv N r) h4.out), h4⟩
theorem pp_del (N : Int) (h : Pp x w b t) : Calls Try.prog 39 #[.pointer (some ⟨b, 0, none⟩), .int .i64 N] w (PpSay x b (Tr.delI t N) (Tr.delD t N) w) :=
  (pdel_any N w h.at_).mono fun _ _ ⟨v, h1, h2, h3, h4⟩ => ⟨v, h1, h2, Lib.hid (h.go h3.out (Tr.del_inv h.inv N) h4.out), h4⟩
theorem pp_touch (N : Int) (h : Pp x w b t) : Calls Try.prog 41 #[.pointer (some ⟨b, 0, none⟩), .int .i64 N] w (PpSay x b (Tr.touchI t N) (Tr.touchE t N) w) :=
  (ptouch_any N w h.at_).mono fun _ _ ⟨v, h1, h2, h3, h4⟩ => ⟨v, h1, h2, Lib.hid (h.go h3.out (Tr.tch_inv h.inv N) h4.out), h4⟩
theorem pp_saved (N : Int) (r : Pg.Rf) (hr : Pg.Ok r) (h : Pp x w b t) : Calls Try.prog 22 #[.pointer (some ⟨b, 0, none⟩), .int .i64 N, .agg (rfA r)] w (PeSay x b (Tr.saveI t N r) (Tr.saveE t N r) w) :=
  (psaved_any N r hr w h.at_).mono fun _ _ ⟨h1, h2, h3⟩ => ⟨h1, Lib.hid (h.go h2.out (Tr.svd_inv h.inv N r) h3.out), h3⟩
theorem pp_load (N : Int) (p : List Pg.Rf) (hp : Pg.OkA p) (r : Pg.Rf) (hr : Pg.Ok r) (h : Pp x w b t) : Calls Try.prog 24 #[.pointer (some ⟨b, 0, none⟩), .int .i64 N, PV p, .agg (rfA r)] w (PeSay x b (Tr.loadI t N p r) (Tr.loadE t N p r) w) :=
  (pload_any N p hp r hr w h.at_ h.inv).mono fun _ _ ⟨h1, h2, h3⟩ => ⟨h1, Lib.hid (h.go h2.out (Tr.load_inv h.inv N p r) h3.out), h3⟩
end
theorem refs_ok {t : Tr.T} (h : TOk t) : ∀ r ∈ Tr.refs t, Pg.Ok r := fun r hr => by
  have ha : ∀ x : Pg.Rf, r ∈ Tr.alv x → r = x := fun x hx => by
    unfold Tr.alv at hx
    split at hx
    · exact List.mem_singleton.1 hx
    · cases hx
  unfold Tr.refs at hr
  rcases List.mem_append.1 hr with q | q
  · obtain ⟨k, _, hk⟩ := Tr.flat_mem q
    rw [ha _ hk]; exact h.1 k
  · obtain ⟨k, _, hk⟩ := Tr.flat_mem q
    rw [ha _ hk]; exact nr_ok h k
theorem refs_le (t : Tr.T) : (Tr.refs t).length ≤ 73 := by
  have h1 := Tr.blocks_le t
  have h2 := Tr.fr_len t 9
  have e : Tr.nodes t = Tr.flat (Tr.fr t) 9 := rfl
  unfold Tr.refs
  rw [List.length_append, e]
  omega
theorem alv_ok {x : Pg.Rf} (h : Pg.Ok x) : ∀ r ∈ Tr.alv x, Pg.Ok r := fun r hr => by
  unfold Tr.alv at hr
  split at hr
  · rw [List.mem_singleton.1 hr]; exact h
  · cases hr
/-- A call's cells. -/
def OpA (o : Tr.O) : Array Value := (.int .i64 o.k :: .int .i64 o.n :: (cl o.r ++ cs o.p)).toArray
structure OpOk (o : Tr.O) : Prop where
  k : Pk.In64 o.k
  n : Pk.In64 o.n
  r : Pg.Ok o.r
  p : Pg.OkA o.p
theorem opa_size {o : Tr.O} (h : OpOk o) : (OpA o).size = 299 := by unfold OpA; simp [cl_len h.r, cs_len h.p]
theorem opa_one (o : Tr.O) : (OpA o).all (·.oneCell') = true := all_oneCell_toArray (fun v hv => by
  rcases List.mem_cons.1 hv with rfl | hv
  · rfl
  · rcases List.mem_cons.1 hv with rfl | hv
    · rfl
    · rcases List.mem_append.1 hv with q | q
      · exact cl_one _ v q
      · exact cs_one _ v q)
theorem Try.sizeOp : (Try.prog.info? 38).map (·.size) = some 299 := by kernel_rfl
/-- What is read of a call's cells at block g, place q. -/
structure OpR (y : World) (g q : Nat) (o : Tr.O) : Prop where
  k : y.cell? ⟨g, q, none⟩ = some (.int .i64 o.k)
  n : y.cell? ⟨g, q + 1, none⟩ = some (.int .i64 o.n)
  r : y.rangeAt g (q + 2) (rfA o.r).toList
  at_ : y.cell? ⟨g, q + 2, none⟩ = some (.int .i64 o.r.1)
  p : y.rangeAt g (q + 35) (cs o.p)
theorem opr_of {y : World} {g q : Nat} {o : Tr.O} (h : OpOk o) (hr : y.rangeAt g q (OpA o).toList) : OpR y g q o := by
  have e : (OpA o).toList = .int .i64 o.k :: .int .i64 o.n :: (cl o.r ++ cs o.p) := rfl
  rw [e] at hr
  have hl := cl_len h.r
  have hR : y.rangeAt g (q + 2) (rfA o.r).toList := fun j v hv => by
    have hj : j < 33 := by
      have := (List.getElem?_eq_some_iff.1 hv).1
      rw [Array.length_toList, rfa_size h.r] at this
      exact this
    have := hr (j + 2) v (by rw [List.getElem?_cons_succ, List.getElem?_cons_succ, List.getElem?_append_left (by omega)]; exact hv)
    rw [show q + 2 + j = q + (j + 2) by omega]
    exact this
  refine ⟨hr 0 _ rfl, hr 1 _ rfl, hR, hR 0 _ rfl, fun j v hv => ?_⟩
  have := hr (j + 35) v (by rw [show j + 35 = j + 33 + 1 + 1 by omega, List.getElem?_cons_succ, List.getElem?_cons_succ, List.getElem?_append_right (by omega), hl, Nat.add_sub_cancel]; exact hv)
  rw [show q + 35 + j = q + (j + 35) by omega]
  exact this
section
variable {P : Program} {ops : Array Oper} {Q : Exit → Act → World → Prop} {a : Act} {w : World}
theorem op_bs1 {K : Act → World → Prop} (i : Nat) (t e : TypeId) {D : Option Tmp} {T : TypeId} {ps : String} {af : Array Edge} (x : Operand) (ho : ops[i]? = some { dst := D, op := .buildSlice t 1 #[(0, x)], type := T, pos := ps, after := af, guard := none })
    (Z A : Array Value) (s b : Nat) (hu : P.underlying t = some (.slice e)) (hi : (P.info? e).map (fun i => (i.zero, i.size, i.bytes)) = some (some (.agg Z), s, b)) (hZ : Z.size = s) (hA : A.size = s) (h0 : 0 < s) (hl : s ≤ 1000) (hx : a.eval x = .agg A)
    (h : K (a.put D (.slice (some ⟨w.heap.size, 0, none⟩) 1 1)) (w.alloc (.cells A e))) : wpOp P ops Q i K a w :=
  op_plain i _ ho rfl (by
    obtain ⟨i, hi1, hi2, hi3, hi4⟩ := info_parts hi
    have hf : Instr.fill (fun i => some (i * s, s)) Z [(0, .agg A)] = some A := by
      rw [fill_step (fun i => some (i * s, s)) 0 (.agg A) (0 * s) s Z [] rfl hA (by omega)]
      unfold Instr.fill
      have e1 : Z.toList.drop (0 * s + s) = [] := List.drop_of_length_le (by rw [Array.length_toList]; omega)
      have e2 : (Value.agg A).cells = A := rfl
      rw [e1, e2, Nat.zero_mul, List.take_zero, List.nil_append, List.append_nil]
    have hrun := run_buildSlice (P := P) w t e 1 #[(0, .agg A)] A i (.agg Z) hu hi1 hi2 (by rw [hi3]; omega) (by rw [hi3]; omega) (by
      have e3 : (Value.agg Z).cells = Z := rfl
      rw [hi3, e3, ← hZ, made_one, hZ]
      exact hf)
    unfold Oper.wp execOp
    simp only [hx, List.map_toArray, List.map_cons, List.map_nil, hrun, Sem.run_bind, Sem.run_pure, Result.andThen_ok]
    exact h)
end
def RnSay (x : World) (b : Nat) (t : Tr.T) (o : Tr.O) (w : World) (e : Ending) (w' : World) : Prop :=
  ∃ v u, e = .returned (.tuple #[v, u]) ∧ Hid (Fl w.heap.size 33 33 w' v ((Tr.runD t o).map rfA)) ∧ Hid (Fl w.heap.size 33 33 w' u ((Tr.runM t o).map rfA)) ∧ Hid (Pp x w' b (Tr.runT t o)) ∧ Hid (Only b w w')
set_option maxHeartbeats 8000000 in
set_option maxRecDepth 100000 in
theorem run_any {x : World} {b : Nat} {t : Tr.T} (o : Tr.O) (ho : OpOk o) (w : World) (h : Pp x w b t) :
    Calls Try.prog 15 #[.pointer (some ⟨b, 0, none⟩), .agg (OpA o)] w (RnSay x b t o w) := by
  have HAS := Lib.hid (opa_size ho)
  have hA1 := opa_one o
  have hsA := row_size Try.sizeOp HAS
  have HOR : Hid (∀ y, y.heap[w.heap.size]? = some (.cells (OpA o) 38 (0, 0)) → OpR y w.heap.size 0 o) := fun y hy => opr_of ho (rng_whole hy)
  have B0 : Hid (Below w.heap.size w (w.alloc (.cells (OpA o) 38))) := (Below.refl _ w).alloc (Nat.le_refl _) _
  have R0 : Hid ((w.alloc (.cells (OpA o) 38)).heap[w.heap.size]? = some (.cells (OpA o) 38 (0, 0))) := heap_alloc_new w _
  have P0 := Lib.hid (h.next B0.out)
  have hbw : b < w.heap.size := h.at_.lt
  have HBN : Hid (w.heap.size ≠ b) := by show _ ≠ _; omega
  have HRO := Lib.hid ho.r
  have HRS := Lib.hid (rfa_size ho.r)
  have HR1 := Lib.hid (rfa_one o.r)
  have hsR := row_size Try.sizeRef33 HRS
  have HO1 : Hid (rfA o.r = rfA o.r) := rfl
  obtain ⟨w0, hw0⟩ : ∃ y, y = w.alloc (.cells (OpA o) 38) := ⟨_, rfl⟩
  have k0 := (HOR.out _ R0.out).k
  rw [← hw0] at B0 R0 P0
  obtain ⟨q1, q2, q3, q4, _⟩ := HOR.out _ R0.out
  rw [Nat.zero_add] at q2 q3 q4
  have Q3 := Lib.hid q3
  have HW0 : Hid (w.heap.size < w0.heap.size) := lt_of_block R0.out
  obtain ⟨k, N, r, p⟩ := o
  dsimp only at *
  have HF0 : ∀ y : World, Hid (Fl w.heap.size 33 33 y (.slice none 0 0) (([] : List Pg.Rf).map rfA)) := fun y => fl_nil _ _ _ _
  unfold RnSay Tr.runD Tr.runM Tr.runT
  dsimp only
  generalize OpA ⟨k, N, r, p⟩ = A at *
  by_cases h0 : k = 0
  · subst h0
    simp only [if_true]
    have HSE : Hid (Calls Try.prog 29 #[.pointer (some ⟨b, 0, none⟩), .int .i64 N, .agg (rfA r)] w0 (PpSay x b (Tr.setI t N r) (Tr.setD t N r) w0)) := pp_set N r HRO.out P0.out
    unfold PpSay at HSE
    have hok : Tr.setOk N r = (decide (Tr.inK N) && decide (0 < r.1)) := rfl
    generalize Tr.setI t N r = t' at *
    generalize Tr.setD t N r = D at *
    have HM1 : Hid (([r] : List Pg.Rf).map rfA = [rfA r]) := rfl
    generalize Tr.setOk N r = ok at *
    obtain ⟨at_, hat⟩ : ∃ a, r.1 = a := ⟨_, rfl⟩
    rw [hat] at q4 hok
    generalize rfA r = R at *
    have hc : (N < 0 ∧ ok = false) ∨ (0 ≤ N ∧ ¬ N < 64 ∧ ok = false) ∨ (0 ≤ N ∧ N < 64 ∧ ¬ at_ > 0 ∧ ok = false) ∨ (0 ≤ N ∧ N < 64 ∧ at_ > 0 ∧ ok = true) := by
      by_cases c1 : 0 ≤ N
      · by_cases c2 : N < 64
        · by_cases c3 : at_ > 0
          · exact Or.inr (Or.inr (Or.inr ⟨c1, c2, c3, by rw [hok, decide_eq_true (show Tr.inK N by unfold Tr.inK; omega), decide_eq_true (show 0 < at_ from c3)]; rfl⟩))
          · exact Or.inr (Or.inr (Or.inl ⟨c1, c2, c3, by rw [hok, decide_eq_false (show ¬ 0 < at_ from c3), Bool.and_false]⟩))
        · exact Or.inr (Or.inl ⟨c1, c2, by rw [hok, decide_eq_false (show ¬ Tr.inK N by unfold Tr.inK; omega), Bool.false_and]⟩)
      · exact Or.inl ⟨by omega, by rw [hok, decide_eq_false (show ¬ Tr.inK N by unfold Tr.inK; omega), Bool.false_and]⟩
    clear h hok hat hA1 hsA HAS HOR ho hbw
    rcases hc with ⟨c1, rfl⟩ | ⟨c1, c2, rfl⟩ | ⟨c1, c2, c3, rfl⟩ | ⟨c1, c2, c3, rfl⟩
    · skip
      go_enter Try.func15, Try.ntmps15
      go_upto_region 1 with (fail)
      rw [← hw0]
      clear hw0 k0
      go_wp2_with (first
        | ((with_reducible refine rng_load _ _ _ _ _ _ ?_ Q3.out Try.underlying33 ?_ hsR ?_); (exact rfl); (exact rfl))
        | (go_at_call 29; refine HSE.out.mono ?_; rintro e1 w1 ⟨v1, rfl, F1, P1, O1⟩))
      go_ret2
      exact ⟨_, _, rfl, Lib.hid (F1.out.mono B0.out.size), HF0 _, P1, Lib.hid ((only_of_below B0.out).trans O1.out)⟩
    · skip
      go_enter Try.func15, Try.ntmps15
      go_upto_region 1 with (fail)
      rw [← hw0]
      clear hw0 k0
      go_wp2_with (first
        | ((with_reducible refine rng_load _ _ _ _ _ _ ?_ Q3.out Try.underlying33 ?_ hsR ?_); (exact rfl); (exact rfl))
        | (go_at_call 29; refine HSE.out.mono ?_; rintro e1 w1 ⟨v1, rfl, F1, P1, O1⟩))
      go_ret2
      exact ⟨_, _, rfl, Lib.hid (F1.out.mono B0.out.size), HF0 _, P1, Lib.hid ((only_of_below B0.out).trans O1.out)⟩
    · skip
      go_enter Try.func15, Try.ntmps15
      go_upto_region 1 with (fail)
      rw [← hw0]
      clear hw0 k0
      go_wp2_with (first
        | ((with_reducible refine rng_load _ _ _ _ _ _ ?_ Q3.out Try.underlying33 ?_ hsR ?_); (exact rfl); (exact rfl))
        | (go_at_call 29; refine HSE.out.mono ?_; rintro e1 w1 ⟨v1, rfl, F1, P1, O1⟩))
      go_ret2
      exact ⟨_, _, rfl, Lib.hid (F1.out.mono B0.out.size), HF0 _, P1, Lib.hid ((only_of_below B0.out).trans O1.out)⟩
    · skip
      go_enter Try.func15, Try.ntmps15
      go_upto_region 1 with (fail)
      rw [← hw0]
      clear hw0 k0
      go_upto_region 6 with (first
        | ((with_reducible refine rng_load _ _ _ _ _ _ ?_ Q3.out Try.underlying33 ?_ hsR ?_); (exact rfl); (exact rfl))
        | (go_at_call 29; refine HSE.out.mono ?_; rintro e1 w1 ⟨v1, rfl, F1, P1, O1⟩))
      refine wp_region_any (by kernel_rfl) ?_
      change wpAny _ _ _ _ _ _ _ (World.drew _)
      have PZ : Hid (Pp x w1.drew b t') := ⟨⟨P1.out.at_.box, P1.out.at_.ok, P1.out.at_.tz, P1.out.at_.lo⟩, P1.out.inv, P1.out.old.drew⟩
      have OZ : Hid (Only b w0 w1.drew) := O1.out.drew
      have FZ : Hid (Fl w0.heap.size 33 33 w1.drew v1 (D.map rfA)) := F1.out
      obtain ⟨z, hz9⟩ : ∃ y, y = w1.drew := ⟨_, rfl⟩
      rw [← hz9] at PZ OZ FZ ⊢
      clear hz9
      refine wpAny_of_held (S := fun y => y.rangeAt w.heap.size 2 R.toList) _ _ _ _ ?_
      have SD : (fun y => y.rangeAt w.heap.size 2 R.toList) z := fun j v hv => OZ.out.cell HBN.out (Q3.out j v hv)
      refine anyH_take 0 33 v1 SD rfl (by kernel_rfl) (by kernel_rfl) (by kernel_rfl) (fun _ _ _ h => h) (by rfl) (by intro y hy; go_simp) ?_
      try simp only [Act.put, List.setIfInBounds_toArray, List.set_cons_zero, List.set_cons_succ]
      refine anyH_take 1 34 (.pointer (some ⟨w.heap.size, 2, none⟩)) SD rfl (by kernel_rfl) (by kernel_rfl) (by kernel_rfl) (fun _ _ _ h => h) (by rfl) (by intro y hy; go_simp) ?_
      try simp only [Act.put, List.setIfInBounds_toArray, List.set_cons_zero, List.set_cons_succ]
      refine anyH_take 2 35 (.agg R) SD rfl (by kernel_rfl) (by kernel_rfl) (by kernel_rfl) (fun _ _ _ h => h) (by rfl) (fun y hy => exec_arr _ _ w.heap.size 2 _ _ rfl hy Try.underlying33 rfl hsR) ?_
      try simp only [Act.put, List.setIfInBounds_toArray, List.set_cons_zero, List.set_cons_succ]
      refine anyH_take 4 4 v1 SD rfl (by kernel_rfl) (by kernel_rfl) (by kernel_rfl) (fun _ _ _ h => h) (by rfl) (by intro y hy; go_simp) ?_
      try simp only [Act.put, List.setIfInBounds_toArray, List.set_cons_zero, List.set_cons_succ]
      refine anyH_one 3 (by kernel_rfl) ?_
      refine op_bs1 3 _ _ _ rfl _ R 33 40 Try.underlying40 Try.infoRf (rfa_size pg_zr) HRS.out (by decide) (by decide) rfl ?_
      have A9 : Hid (Below z.heap.size z (z.alloc (.cells R 33))) := (Below.refl _ z).alloc (Nat.le_refl _) _
      have SD9 : (z.alloc (.cells R 33)).rangeAt w.heap.size 2 R.toList := rangeAt_old SD A9.out
      clear SD
      have SD := SD9
      refine ⟨SD, ?_⟩
      try simp only [Act.put, List.setIfInBounds_toArray, List.set_cons_zero, List.set_cons_succ]
      refine anyH_take 5 5 (.slice (some ⟨z.heap.size, 0, none⟩) 1 1) SD rfl (by kernel_rfl) (by kernel_rfl) (by kernel_rfl) (fun _ _ _ h => h) (by rfl) (by intro y hy; go_simp) ?_
      try simp only [Act.put, List.setIfInBounds_toArray, List.set_cons_zero, List.set_cons_succ]
      refine wpAnyH_done (by kernel_rfl) ?_ _
      have N9 := Lib.hid (fl_single z 33 33 R HRS.out)
      go_wp2
      go_ret2
      refine ⟨_, _, rfl, Lib.hid ((FZ.out.old A9.out).mono B0.out.size), Lib.hid ?_, Lib.hid (PZ.out.next A9.out), Lib.hid (((only_of_below B0.out).trans OZ.out).trans (only_of_below A9.out))⟩
      show Fl _ _ _ _ _ (([r] : List Pg.Rf).map rfA)
      rw [HM1.out]
      exact N9.out.mono (Nat.le_trans B0.out.size OZ.out.size)
  have e0 : (k == 0) = false := by simp [h0]
  by_cases h1 : k = 1
  · subst h1
    simp only [if_neg h0, if_true]
    have HSE : Hid (Calls Try.prog 39 #[.pointer (some ⟨b, 0, none⟩), .int .i64 N] w0 (PpSay x b (Tr.delI t N) (Tr.delD t N) w0)) := pp_del N P0.out
    unfold PpSay at HSE
    generalize Tr.delI t N = t' at *
    generalize Tr.delD t N = D at *
    clear h hA1 hsA HAS HOR ho hbw
    go_enter Try.func15, Try.ntmps15
    go_upto_region 1 with (fail)
    rw [← hw0]
    clear hw0 k0
    go_wp2_with (first
      | (go_at_call 39; refine HSE.out.mono ?_; rintro e1 w1 ⟨v1, rfl, F1, P1, O1⟩))
    go_ret2
    exact ⟨_, _, rfl, Lib.hid (F1.out.mono B0.out.size), HF0 _, P1, Lib.hid ((only_of_below B0.out).trans O1.out)⟩
  have e1 : (k == 1) = false := by simp [h1]
  by_cases h2 : k = 2
  · subst h2
    simp only [if_neg h0, if_neg h1, if_true]
    have HSE : Hid (Calls Try.prog 41 #[.pointer (some ⟨b, 0, none⟩), .int .i64 N] w0 (PpSay x b (Tr.touchI t N) (Tr.touchE t N) w0)) := pp_touch N P0.out
    unfold PpSay at HSE
    generalize Tr.touchI t N = t' at *
    generalize Tr.touchE t N = D at *
    clear h hA1 hsA HAS HOR ho hbw
    go_enter Try.func15, Try.ntmps15
    go_upto_region 1 with (fail)
    rw [← hw0]
    clear hw0 k0
    go_wp2_with (first
      | (go_at_call 41; refine HSE.out.mono ?_; rintro e1 w1 ⟨v1, rfl, F1, P1, O1⟩))
    go_ret2
    exact ⟨_, _, rfl, Lib.hid (F1.out.mono B0.out.size), HF0 _, P1, Lib.hid ((only_of_below B0.out).trans O1.out)⟩
  have e2 : (k == 2) = false := by simp [h2]
  by_cases h3 : k = 3
  · subst h3
    simp only [if_neg h0, if_neg h1, if_neg h2, if_true]
    have HSE : Hid (Calls Try.prog 22 #[.pointer (some ⟨b, 0, none⟩), .int .i64 N, .agg (rfA r)] w0 (PeSay x b (Tr.saveI t N r) (Tr.saveE t N r) w0)) := pp_saved N r HRO.out P0.out
    unfold PeSay at HSE
    have HM1 : Hid (([r] : List Pg.Rf).map rfA = [rfA r]) := rfl
    generalize Tr.saveI t N r = t' at *
    obtain ⟨E, hE⟩ : ∃ E, Tr.saveE t N r = E := ⟨_, rfl⟩
    rw [hE] at HSE ⊢
    obtain ⟨at_, hat⟩ : ∃ a, r.1 = a := ⟨_, rfl⟩
    rw [hat] at q4 ⊢
    generalize rfA r = R at *
    have HC2 : Hid (∀ y, Only b w0 y → y.cell? ⟨w.heap.size, 2, none⟩ = some (.int .i64 at_)) := fun y hy => hy.cell HBN.out q4
    clear h hE hat hA1 hsA HAS HOR ho hbw
    by_cases c1 : E = 0
    · subst c1
      by_cases c2 : at_ > 0
      · have c2' : (0 : Int) = 0 ∧ 0 < at_ := ⟨rfl, c2⟩
        rw [if_pos c2', HM1.out]
        clear c2'
        go_enter Try.func15, Try.ntmps15
        go_upto_region 1 with (fail)
        rw [← hw0]
        clear hw0 k0
        go_upto_region 14 with (first
          | ((with_reducible refine rng_load _ _ _ _ _ _ ?_ Q3.out Try.underlying33 ?_ hsR ?_); (exact rfl); (exact rfl))
          | (go_at_call 22; refine HSE.out.mono ?_; rintro e1 w1 ⟨rfl, P1, O1⟩; have d1 := HC2.out _ O1.out))
        refine wp_region_any (by kernel_rfl) ?_
        change wpAny _ _ _ _ _ _ _ (World.drew _)
        have PZ : Hid (Pp x w1.drew b t') := ⟨⟨P1.out.at_.box, P1.out.at_.ok, P1.out.at_.tz, P1.out.at_.lo⟩, P1.out.inv, P1.out.old.drew⟩
        have OZ : Hid (Only b w0 w1.drew) := O1.out.drew
        obtain ⟨z, hz9⟩ : ∃ y, y = w1.drew := ⟨_, rfl⟩
        rw [← hz9] at PZ OZ ⊢
        clear hz9
        refine wpAny_of_held (S := fun y => y.rangeAt w.heap.size 2 R.toList) _ _ _ _ ?_
        have SD : (fun y => y.rangeAt w.heap.size 2 R.toList) z := fun j v hv => OZ.out.cell HBN.out (Q3.out j v hv)
        refine anyH_take 0 65 (.pointer (some ⟨w.heap.size, 2, none⟩)) SD rfl (by kernel_rfl) (by kernel_rfl) (by kernel_rfl) (fun _ _ _ h => h) (by rfl) (by intro y hy; go_simp) ?_
        try simp only [Act.put, List.setIfInBounds_toArray, List.set_cons_zero, List.set_cons_succ]
        refine anyH_take 1 66 (.agg R) SD rfl (by kernel_rfl) (by kernel_rfl) (by kernel_rfl) (fun _ _ _ h => h) (by rfl) (fun y hy => exec_arr _ _ w.heap.size 2 _ _ rfl hy Try.underlying33 rfl hsR) ?_
        try simp only [Act.put, List.setIfInBounds_toArray, List.set_cons_zero, List.set_cons_succ]
        refine anyH_take 3 4 (.slice none 0 0) SD rfl (by kernel_rfl) (by kernel_rfl) (by kernel_rfl) (fun _ _ _ h => h) (by rfl) (by intro y hy; go_simp) ?_
        try simp only [Act.put, List.setIfInBounds_toArray, List.set_cons_zero, List.set_cons_succ]
        refine anyH_one 2 (by kernel_rfl) ?_
        refine op_bs1 2 _ _ _ rfl _ R 33 40 Try.underlying40 Try.infoRf (rfa_size pg_zr) HRS.out (by decide) (by decide) rfl ?_
        have A9 : Hid (Below z.heap.size z (z.alloc (.cells R 33))) := (Below.refl _ z).alloc (Nat.le_refl _) _
        have SD9 : (z.alloc (.cells R 33)).rangeAt w.heap.size 2 R.toList := rangeAt_old SD A9.out
        clear SD
        have SD := SD9
        refine ⟨SD, ?_⟩
        try simp only [Act.put, List.setIfInBounds_toArray, List.set_cons_zero, List.set_cons_succ]
        refine anyH_take 4 5 (.slice (some ⟨z.heap.size, 0, none⟩) 1 1) SD rfl (by kernel_rfl) (by kernel_rfl) (by kernel_rfl) (fun _ _ _ h => h) (by rfl) (by intro y hy; go_simp) ?_
        try simp only [Act.put, List.setIfInBounds_toArray, List.set_cons_zero, List.set_cons_succ]
        refine wpAnyH_done (by kernel_rfl) ?_ _
        have N9 := Lib.hid (fl_single z 33 33 R HRS.out)
        go_wp2
        go_ret2
        exact ⟨_, _, rfl, HF0 _, Lib.hid (N9.out.mono (Nat.le_trans B0.out.size OZ.out.size)), Lib.hid (PZ.out.next A9.out), Lib.hid (((only_of_below B0.out).trans OZ.out).trans (only_of_below A9.out))⟩
      · rw [if_neg (show ¬ ((0 : Int) = 0 ∧ 0 < at_) from fun q => c2 q.2)]
        go_enter Try.func15, Try.ntmps15
        go_upto_region 1 with (fail)
        rw [← hw0]
        clear hw0 k0
        go_wp2_with (first
          | ((with_reducible refine rng_load _ _ _ _ _ _ ?_ Q3.out Try.underlying33 ?_ hsR ?_); (exact rfl); (exact rfl))
          | (go_at_call 22; refine HSE.out.mono ?_; rintro e1 w1 ⟨rfl, P1, O1⟩; have d1 := HC2.out _ O1.out))
        go_ret2
        exact ⟨_, _, rfl, HF0 _, HF0 _, P1, Lib.hid ((only_of_below B0.out).trans O1.out)⟩
    · rw [if_neg (show ¬ (E = 0 ∧ 0 < at_) from fun q => c1 q.1)]
      have e3 : (E == 0) = false := by simp [c1]
      go_enter Try.func15, Try.ntmps15
      go_upto_region 1 with (fail)
      rw [← hw0]
      clear hw0 k0
      go_wp2_with (first
        | ((with_reducible refine rng_load _ _ _ _ _ _ ?_ Q3.out Try.underlying33 ?_ hsR ?_); (exact rfl); (exact rfl))
        | (go_at_call 22; refine HSE.out.mono ?_; rintro e1 w1 ⟨rfl, P1, O1⟩; have d1 := HC2.out _ O1.out))
      go_ret2
      exact ⟨_, _, rfl, HF0 _, HF0 _, P1, Lib.hid ((only_of_below B0.out).trans O1.out)⟩
  have e3 : (k == 3) = false := by simp [h3]
  simp only [if_neg h0, if_neg h1, if_neg h2, if_neg h3]
  clear h hA1 hsA HAS HOR ho hbw
  go_enter Try.func15, Try.ntmps15
  go_upto_region 1 with (fail)
  rw [← hw0]
  clear hw0 k0
  go_wp2
  go_ret2
  exact ⟨_, _, rfl, HF0 _, HF0 _, P0, Lib.hid (only_of_below B0.out)⟩
end Go.Proofs.Ytfeemeddhhgigaa

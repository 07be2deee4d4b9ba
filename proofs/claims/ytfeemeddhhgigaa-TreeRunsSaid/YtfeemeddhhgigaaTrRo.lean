/-
  What the rows of the laws share; calls that came in, opened.
-/
import Derived.Test.YtfeemeddhhgigaaRows
import Derived.Test.YtfeemeddhhgigaaTrRa
import Derived.ChangeSame
import Derived.ChangeVars
import Derived.ChangeSlices
import Derived.JoinedOf
import Derived.JoinedAt
import Derived.RowKit
import Derived.RowKitTokens
import Derived.ProofKit
import Derived.SizedLaws
import Derived.Carry
import Derived.OpenShut
import Derived.Deep.Slices
import Derived.ChangeArms
namespace Go.Proofs.Ytfeemeddhhgigaa
open Go.ChangeShapes Go.WideShapes Go.RowKit

theorem Try.own : ownKnob Try.prog.godebug = none := by kernel_rfl
theorem laid_out : laidOutB Try.prog = true := by kernel_rfl
theorem trod_below_args {H : Type} {enc : TypeId × Value → H} {t : TypeId} {W W' : World} {v : Value} {d : DataW H} {ps : List MemPlace}
    (h : DataW.Trod enc Try.prog W 0 (fun _ => true) true t v d ps) (hb : Below W.heap.size W W') (hlt : ∀ x ∈ ps, x.block < W.heap.size) (hr : Try.prog.readableRec t = true) (hrow : t < Try.prog.types.size) :
    DataW.Trod enc Try.prog W' 0 (fun b => decide (b < W.heap.size)) true t v d ps :=
  Below.trod laid_out hr hrow h hb hlt
theorem in64_wf {n : Int} (h : (Lit.int .i64 n).wf = true) : Pk.In64 n := by
  simp [Lit.wf, IntKind.min, IntKind.max, IntKind.signed, IntKind.bits] at h
  unfold Pk.In64
  omega
theorem Try.cells_int : Try.prog.cellsOf 3 = 1 := by kernel_rfl
theorem cells_sum : Try.prog.cellsOf 31 = 32 := by kernel_rfl
theorem cells_ref : Try.prog.cellsOf 33 = 33 := by kernel_rfl
/-- A digest's cells. -/
theorem open_sum_cells {H : Type} {enc : TypeId × Value → H} {W : World} {fuel : Nat} {cs : List Value} {x : DataW H × List MemPlace} (hlen : cs.length = 32) (hf : DataW.trod enc Try.prog W 0 (fun _ => true) true fuel 31 cs = some x) :
    ∃ l : List Int, cs = l.map (Value.int .u8) ∧ l.length = 32 ∧ Sha.Byt l := by
  obtain ⟨xs, m, _, _, _, hlx, hel⟩ := DataW.trod_array Try.underlying31 hf
  have each : ∀ i, i < 32 → ∃ n : Int, cs[i]? = some (.int .u8 n) ∧ 0 ≤ n ∧ n ≤ 255 := fun i hi => by
    have h1 := hel i hi
    rw [Try.cells5, Nat.mul_one, List.getElem?_eq_getElem (by omega)] at h1
    obtain ⟨n, e, _, hw⟩ := DataW.trod_int Try.underlying5 h1
    refine ⟨n, ?_, ?_⟩
    · have h2 := congrArg (fun z : List Value => z[0]?) e
      simpa [List.getElem?_take, List.getElem?_drop, Value.cells] using h2
    · simp [Lit.wf, IntKind.min, IntKind.max, IntKind.signed, IntKind.bits] at hw
      omega
  refine ⟨cs.map intOf, ?_, by simpa using hlen, fun x hx => ?_⟩
  · rw [List.map_map]
    apply List.ext_getElem?
    intro i
    by_cases hi : i < 32
    · obtain ⟨n, h1, _⟩ := each i hi
      rw [List.getElem?_map, h1]
      rfl
    · rw [List.getElem?_eq_none (by omega), List.getElem?_eq_none (by rw [List.length_map]; omega)]
  · rw [List.mem_map] at hx
    obtain ⟨y, hy, rfl⟩ := hx
    obtain ⟨i, hi, rfl⟩ := List.mem_iff_getElem.1 hy
    obtain ⟨n, h1, h2⟩ := each i (by omega)
    rw [List.getElem?_eq_getElem hi] at h1
    have h3 := Option.some.inj h1
    rw [h3]
    exact h2
def RefC (r : Int × List Int) : List Value := Value.int .i64 r.1 :: r.2.map (Value.int .u8)
def RefOk (r : Int × List Int) : Prop := r.2.length = 32 ∧ Sha.Byt r.2 ∧ Pk.In64 r.1
/-- A ref's cells. -/
theorem open_ref_cells {H : Type} {enc : TypeId × Value → H} {W : World} {fuel : Nat} {cs : List Value} {x : DataW H × List MemPlace} (hlen : cs.length = 33) (hf : DataW.trod enc Try.prog W 0 (fun _ => true) true fuel 33 cs = some x) :
    ∃ r : Int × List Int, cs = RefC r ∧ RefOk r := by
  obtain ⟨xs, m, _, _, _, hlx, hel⟩ := DataW.trod_struct Try.underlying33 hf
  have hl2 : xs.length = 2 := by simpa using hlx
  have h0 := hel 0 _ rfl
  have h1 := hel 1 _ rfl
  rw [List.getElem?_eq_getElem (by omega)] at h0 h1
  obtain ⟨k, e0, _, w0⟩ := DataW.trod_int Try.underlying3 h0
  have h1' : DataW.trod enc Try.prog W 0 (fun _ => true) true m 31 ((cs.drop 1).take 32) = some xs[1] := by
    rw [← cells_sum]; exact h1
  obtain ⟨l, e1, hl, hb⟩ := open_sum_cells (by simp; omega) h1'
  have hd : (cs.drop 1).take 32 = cs.drop 1 := List.take_of_length_le (by simp; omega)
  rw [hd] at e1
  refine ⟨(k, l), ?_, hl, hb, in64_wf w0⟩
  unfold RefC
  rw [← e1]
  cases cs with
  | nil => simp at hlen
  | cons c r =>
    have e2 : c = .int .i64 k := by simpa [Try.cells_int, Value.cells] using e0
    rw [e2]
    rfl
theorem open_ref {H : Type} {enc : TypeId × Value → H} {W : World} {base : Nat} {v : Value} {d : DataW H} {ps : List MemPlace} (hok : Value.okWide Try.prog W .any base 33 v)
    (h : DataW.Trod enc Try.prog W 0 (fun _ => true) true 33 v d ps) : ∃ r : Int × List Int, v = R33 r ∧ RefOk r := by
  obtain ⟨cs, rfl, hsz, _⟩ : ∃ cs, v = .agg cs ∧ cs.size = Try.prog.cellsOf 33 ∧ Row.okWide Try.prog W .any base 33 cs := by
    simpa [Value.okWide, Try.underlying33] using hok
  rw [cells_ref] at hsz
  obtain ⟨fuel, hf⟩ := h
  obtain ⟨r, e, hr⟩ := open_ref_cells (cs := cs.toList) (by simpa using hsz) hf
  refine ⟨r, ?_, hr⟩
  unfold R33
  congr 1
  apply Array.ext'
  rw [e]
  rfl
theorem flat_of (r : Nat → Pg.Rf) : ∀ (n : Nat) (C : List Value), C.length = n * 33 → (∀ i, i < n → (C.drop (i * 33)).take 33 = cl (r i)) → C = cs ((List.range n).map r)
  | 0, C, hl, _ => by
    have : C = [] := List.eq_nil_of_length_eq_zero (by omega)
    rw [this]
    unfold cs
    rfl
  | n + 1, C, hl, h => by
    have h1 := h n (by omega)
    have h2 := flat_of r n (C.take (n * 33)) (by rw [List.length_take]; omega) (fun i hi => by
      rw [← h i (by omega), List.drop_take, List.take_take, Nat.min_eq_left (by omega)])
    rw [List.range_succ, List.map_append, cs_append, ← h2, List.map_cons, List.map_nil, cs_cons]
    have h3 : cs ([] : List Pg.Rf) = [] := by unfold cs; rfl
    have h4 : (C.drop (n * 33)).take 33 = C.drop (n * 33) := List.take_of_length_le (by rw [List.length_drop]; omega)
    rw [h3, List.append_nil, ← h1, h4, List.take_append_drop]
theorem cells_page : Try.prog.cellsOf 36 = 264 := by kernel_rfl
set_option maxRecDepth 100000 in
theorem open_page_cells {H : Type} {enc : TypeId × Value → H} {W : World} {fuel : Nat} {C : List Value} {x : DataW H × List MemPlace} (hsz : C.length = 264) (hf : DataW.trod enc Try.prog W 0 (fun _ => true) true fuel 36 C = some x) :
    ∃ R : List Pg.Rf, C = cs R ∧ Pg.OkA R := by
  obtain ⟨xs, m, _, _, _, hlx, hel⟩ := DataW.trod_struct Try.underlying36 hf
  have hl1 : xs.length = 1 := by simpa using hlx
  have h0 := hel 0 _ rfl
  rw [List.getElem?_eq_getElem (by omega)] at h0
  have h0' : DataW.trod enc Try.prog W 0 (fun _ => true) true m 34 C = some xs[0] := by
    have e : (C.drop 0).take (Try.prog.cellsOf 34) = C := by
      rw [Try.cellsRefs, List.drop_zero]
      exact List.take_of_length_le (by rw [hsz]; exact Nat.le_refl _)
    rw [← e]
    exact h0
  obtain ⟨ys, m2, _, _, _, hly, hey⟩ := DataW.trod_array Try.underlying34 h0'
  have each : ∀ i, i < 8 → ∃ r : Pg.Rf, (C.drop (i * 33)).take 33 = cl r ∧ Pg.Ok r := fun i hi => by
    have h1 := hey i hi
    rw [Try.cellsRef, List.getElem?_eq_getElem (by omega)] at h1
    obtain ⟨r, e, hr⟩ := open_ref_cells (by rw [List.length_take, List.length_drop, hsz]; omega) h1
    refine ⟨r, ?_, hr⟩
    rw [e]
    unfold cl RefC
    rfl
  have hch : ∃ r : Nat → Pg.Rf, ∀ i, i < 8 → (C.drop (i * 33)).take 33 = cl (r i) ∧ Pg.Ok (r i) := by
    refine ⟨fun i => if hi : i < 8 then Classical.choose (each i hi) else Pg.zr, fun i hi => ?_⟩
    simp only [hi, dif_pos]
    exact Classical.choose_spec (each i hi)
  obtain ⟨r, hr⟩ := hch
  refine ⟨(List.range 8).map r, flat_of r 8 C hsz (fun i hi => (hr i hi).1), by simp, fun x hx => ?_⟩
  rw [List.mem_map] at hx
  obtain ⟨i, hi, rfl⟩ := hx
  exact (hr i (List.mem_range.1 hi)).2
theorem cells_op : Try.prog.cellsOf 38 = 299 := by kernel_rfl
theorem seg_at {α : Type} {l : List α} (m n : Nat) : l.drop m = (l.drop m).take n ++ l.drop (m + n) := by
  conv => lhs; rw [← List.take_append_drop n (l.drop m)]
  rw [List.drop_drop]
set_option maxRecDepth 100000 in
theorem open_op_cells {H : Type} {enc : TypeId × Value → H} {W : World} {fuel : Nat} {cs0 : List Value} {x : DataW H × List MemPlace} (hlen : cs0.length = 299) (hf : DataW.trod enc Try.prog W 0 (fun _ => true) true fuel 38 cs0 = some x) :
    ∃ o : Tr.O, cs0 = (OpA o).toList ∧ OpOk o := by
  obtain ⟨xs, m, _, _, _, hlx, hel⟩ := DataW.trod_struct Try.underlying38 hf
  have hl9 : xs.length = 4 := by simpa using hlx
  have h0 := hel 0 _ rfl
  have h1 := hel 1 _ rfl
  have h2 := hel 2 _ rfl
  have h3 := hel 3 _ rfl
  rw [List.getElem?_eq_getElem (by omega)] at h0 h1 h2 h3
  obtain ⟨k0, e0, _, w0⟩ := DataW.trod_int Try.underlying3 h0
  obtain ⟨k1, e1, _, w1⟩ := DataW.trod_int Try.underlying3 h1
  have g2 : DataW.trod enc Try.prog W 0 (fun _ => true) true m 33 ((cs0.drop 2).take 33) = some xs[2] := by
    rw [← cells_ref]; exact h2
  have g3 : DataW.trod enc Try.prog W 0 (fun _ => true) true m 36 ((cs0.drop 35).take 264) = some xs[3] := by
    rw [← cells_page]; exact h3
  obtain ⟨r, e2, hr⟩ := open_ref_cells (by simp; omega) g2
  obtain ⟨R, e3, hR⟩ := open_page_cells (by simp; omega) g3
  refine ⟨⟨k0, k1, r, R⟩, ?_, in64_wf w0, in64_wf w1, hr, hR⟩
  have q0 : cs0.take 2 = [.int .i64 k0, .int .i64 k1] := by
    rcases cs0 with _ | ⟨u0, _ | ⟨u1, q⟩⟩
    · simp at hlen
    · simp at hlen
    · obtain rfl : u0 = .int .i64 k0 := by simpa [Try.cells_int] using e0
      obtain rfl : u1 = .int .i64 k1 := by simpa [Try.cells_int] using e1
      rfl
  have q3 : cs0.drop 35 = cs R := by
    rw [← e3]
    exact (List.take_of_length_le (by simp; omega)).symm
  have e4 : (OpA ⟨k0, k1, r, R⟩).toList = [.int .i64 k0, .int .i64 k1] ++ (cl r ++ cs R) := rfl
  rw [e4, ← List.take_append_drop 2 cs0, q0, seg_at 2 33, e2, q3]
  rfl
set_option maxRecDepth 100000 in
theorem open_ops {H : Type} {enc : TypeId × Value → H} {W : World} {base : Nat} {v : Value} {d : DataW H} {ps : List MemPlace} (hok : Value.okWide Try.prog W .any base 22 v)
    (h : DataW.Trod enc Try.prog W 0 (fun _ => true) true 22 v d ps) : ∃ (X : List Tr.O) (p : Option Addr) (cap : Nat), v = .slice p X.length cap ∧ OpS W p X := by
  obtain ⟨a0, len, cap, rfl⟩ := okWide_slice Try.underlying22 hok
  obtain ⟨fuel, hf⟩ := h
  rcases Go.Deep.open_slice Try.underlying22 hf with ⟨hcs, _⟩ | ⟨a, len', cap', m, n, D, Pl, hcs, _, hl, hm, hmm, _, hi⟩
  · simp [Value.cells] at hcs
    obtain ⟨rfl, rfl, rfl⟩ := hcs
    exact ⟨[], none, 0, rfl, fun h0 => by simp at h0⟩
  · simp [Value.cells] at hcs
    obtain ⟨rfl, rfl, rfl⟩ := hcs
    simp only [if_true] at hmm
    have key : ∀ i, i < len → ∃ x : Tr.O, ∃ ab ao, a = ⟨ab, ao, none⟩ ∧ W.rangeAt ab (ao + i * 299) (OpA x).toList ∧ OpOk x := fun i hil => by
      obtain ⟨cs0, hc0, _⟩ := hi 0 (by omega)
      rw [cells_op, Nat.zero_mul] at hc0
      obtain ⟨_, hcl0, hat0⟩ := World.cells?_some hc0
      have z0 := hat0 0 (by omega)
      rw [List.getElem?_eq_getElem (by omega)] at z0
      obtain ⟨cs', hc, ht⟩ := hi i (by omega)
      rw [cells_op] at hc
      obtain ⟨_, hcl, hat⟩ := World.cells?_some hc
      obtain ⟨o, he, hop⟩ := open_op_cells hcl ht
      obtain ⟨ab, ao, spot⟩ := a
      have hspot : spot = none := by simpa [Addr.add] using World.cell?_spot z0
      subst hspot
      refine ⟨o, ab, ao, rfl, fun j u hu => ?_, hop⟩
      rw [← he] at hu
      have hj := (List.getElem?_eq_some_iff.1 hu).1
      have hx := hat j (by omega)
      rw [Go.Deep.add_add, Addr.add_mid, hu] at hx
      rw [show ao + i * 299 + j = ao + (i * 299 + j) by omega]
      exact hx
    obtain ⟨L, hL, hq⟩ := list_of (Q := fun i x => ∃ ab ao, a = ⟨ab, ao, none⟩ ∧ W.rangeAt ab (ao + i * 299) (OpA x).toList ∧ OpOk x) len key
    have hget : ∀ i, i < len → ∃ ab ao, a = ⟨ab, ao, none⟩ ∧ W.rangeAt ab (ao + i * 299) (OpA (L.getD i Tr.o0)).toList ∧ OpOk (L.getD i Tr.o0) := fun i hil => by
      refine hq i _ ?_
      rw [List.getD_eq_getElem?_getD, List.getElem?_eq_getElem (by omega)]
      rfl
    refine ⟨L, some a, cap, by rw [hL], fun h0 => ?_⟩
    obtain ⟨ab, ao, e, _⟩ := hget 0 (by omega)
    subst e
    refine ⟨ab, ao, rfl, fun i hil => ?_⟩
    obtain ⟨ab', ao', e', hr⟩ := hget i (by omega)
    cases e'
    exact hr
section
variable {H : Type} {enc : TypeId × Value → H} {P : Program} {w : World} {base : Nat} {spare : Nat → Bool} {held : Bool}
theorem trodAll_five {t0 t1 t2 t3 t4 : TypeId} {args : Array Value} {ds : List (DataW H)} {ps : List MemPlace} (h : DataW.TrodAll enc P w base spare held [t0, t1, t2, t3, t4] args.toList ds ps) :
    ∃ v0 v1 v2 v3 v4 d0 d1 d2 d3 d4 p0 p1 p2 p3 p4, args = #[v0, v1, v2, v3, v4] ∧ ds = [d0, d1, d2, d3, d4] ∧ ps = p0 ++ p1 ++ p2 ++ p3 ++ p4 ∧ DataW.Trod enc P w base spare held t0 v0 d0 p0 ∧ DataW.Trod enc P w base spare held t1 v1 d1 p1 ∧ DataW.Trod enc P w base spare held t2 v2 d2 p2 ∧ DataW.Trod enc P w base spare held t3 v3 d3 p3 ∧ DataW.Trod enc P w base spare held t4 v4 d4 p4 := by
  obtain ⟨v0, vs, d0, ds', p0, q, hargs, rfl, rfl, hd0, hrest⟩ := trodAll_cons h
  have hr2 : DataW.TrodAll enc P w base spare held [t1, t2, t3, t4] vs.toArray.toList ds' q := by simpa using hrest
  obtain ⟨v1, v2, v3, v4, d1, d2, d3, d4, p1, p2, p3, p4, hv, rfl, rfl, h1, h2, h3, h4⟩ := trodAll_four hr2
  have hvs : vs = [v1, v2, v3, v4] := by simpa using congrArg Array.toList hv
  refine ⟨v0, v1, v2, v3, v4, d0, d1, d2, d3, d4, p0, p1, p2, p3, p4, ?_, rfl, by simp, hd0, h1, h2, h3, h4⟩
  apply Array.ext'
  rw [hargs, hvs]
theorem trodAll_mk5 {t0 t1 t2 t3 t4 : TypeId} {v0 v1 v2 v3 v4 : Value} {d0 d1 d2 d3 d4 : DataW H} {p0 p1 p2 p3 p4 : List MemPlace} (h0 : DataW.Trod enc P w base spare held t0 v0 d0 p0) (h1 : DataW.Trod enc P w base spare held t1 v1 d1 p1)
    (h2 : DataW.Trod enc P w base spare held t2 v2 d2 p2) (h3 : DataW.Trod enc P w base spare held t3 v3 d3 p3) (h4 : DataW.Trod enc P w base spare held t4 v4 d4 p4) : DataW.TrodAll enc P w base spare held [t0, t1, t2, t3, t4] [v0, v1, v2, v3, v4] [d0, d1, d2, d3, d4] (p0 ++ (p1 ++ (p2 ++ (p3 ++ p4)))) :=
  ⟨p0, p1 ++ (p2 ++ (p3 ++ p4)), h0, trodAll_mk4 h1 h2 h3 h4, rfl⟩
end
end Go.Proofs.Ytfeemeddhhgigaa

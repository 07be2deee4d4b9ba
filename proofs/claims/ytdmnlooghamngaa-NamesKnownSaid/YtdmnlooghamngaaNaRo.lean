/-
  What the rows of the laws share: fours that came in.
-/
import Derived.Test.YtdmnlooghamngaaRows
import Derived.Test.YtdmnlooghamngaaNaW
import Derived.ChangeSame
import Derived.ChangeVars
import Derived.ChangeSlices
import Derived.JoinedOf
import Derived.JoinedAt
import Derived.RowKit
import Derived.RowKitTokens
import Derived.ProofKit
import Derived.SizedLaws
import Derived.Carry
import Derived.OpenShut
import Derived.Deep.Slices
import Derived.ChangeArms
namespace Go.Proofs.Ytdmnlooghamngaa
open Go.ChangeShapes Go.WideShapes Go.RowKit

theorem Try.own : ownKnob Try.prog.godebug = none := by kernel_rfl
theorem trod_below_args {H : Type} {enc : TypeId × Value → H} {t : TypeId} {W W' : World} {v : Value} {d : DataW H} {ps : List MemPlace}
    (h : DataW.Trod enc Try.prog W 0 (fun _ => true) true t v d ps) (hb : Below W.heap.size W W') (hlt : ∀ x ∈ ps, x.block < W.heap.size) (hr : Try.prog.readableRec t = true) (hrow : t < Try.prog.types.size) :
    DataW.Trod enc Try.prog W' 0 (fun b => decide (b < W.heap.size)) true t v d ps :=
  Below.trod laid_out hr hrow h hb hlt
section
variable {H : Type} {enc : TypeId × Value → H} {P : Program} {w : World} {base : Nat} {spare : Nat → Bool} {held : Bool}
theorem trodAll_five {t0 t1 t2 t3 t4 : TypeId} {args : Array Value} {ds : List (DataW H)} {ps : List MemPlace} (h : DataW.TrodAll enc P w base spare held [t0, t1, t2, t3, t4] args.toList ds ps) :
    ∃ v0 v1 v2 v3 v4 d0 d1 d2 d3 d4 p0 p1 p2 p3 p4, args = #[v0, v1, v2, v3, v4] ∧ ds = [d0, d1, d2, d3, d4] ∧ ps = p0 ++ p1 ++ p2 ++ p3 ++ p4 ∧ DataW.Trod enc P w base spare held t0 v0 d0 p0 ∧ DataW.Trod enc P w base spare held t1 v1 d1 p1 ∧ DataW.Trod enc P w base spare held t2 v2 d2 p2 ∧ DataW.Trod enc P w base spare held t3 v3 d3 p3 ∧ DataW.Trod enc P w base spare held t4 v4 d4 p4 := by
  obtain ⟨v0, vs, d0, ds', p0, q, hargs, rfl, rfl, hd0, hrest⟩ := trodAll_cons h
  have hr2 : DataW.TrodAll enc P w base spare held [t1, t2, t3, t4] vs.toArray.toList ds' q := by simpa using hrest
  obtain ⟨v1, v2, v3, v4, d1, d2, d3, d4, p1, p2, p3, p4, hv, rfl, rfl, h1, h2, h3, h4⟩ := trodAll_four hr2
  have hvs : vs = [v1, v2, v3, v4] := by simpa using congrArg Array.toList hv
  refine ⟨v0, v1, v2, v3, v4, d0, d1, d2, d3, d4, p0, p1, p2, p3, p4, ?_, rfl, by simp, hd0, h1, h2, h3, h4⟩
  apply Array.ext'
  rw [hargs, hvs]
theorem trodAll_mk5 {t0 t1 t2 t3 t4 : TypeId} {v0 v1 v2 v3 v4 : Value} {d0 d1 d2 d3 d4 : DataW H} {p0 p1 p2 p3 p4 : List MemPlace} (h0 : DataW.Trod enc P w base spare held t0 v0 d0 p0) (h1 : DataW.Trod enc P w base spare held t1 v1 d1 p1)
    (h2 : DataW.Trod enc P w base spare held t2 v2 d2 p2) (h3 : DataW.Trod enc P w base spare held t3 v3 d3 p3) (h4 : DataW.Trod enc P w base spare held t4 v4 d4 p4) : DataW.TrodAll enc P w base spare held [t0, t1, t2, t3, t4] [v0, v1, v2, v3, v4] [d0, d1, d2, d3, d4] (p0 ++ (p1 ++ (p2 ++ (p3 ++ p4)))) :=
  ⟨p0, p1 ++ (p2 ++ (p3 ++ p4)), h0, trodAll_mk4 h1 h2 h3 h4, rfl⟩
end
theorem list_of {α : Type} {Q : Nat → α → Prop} : ∀ n : Nat, (∀ i, i < n → ∃ x, Q i x) → ∃ L : List α, L.length = n ∧ ∀ (r : Nat) (x : α), L[r]? = some x → Q r x
  | 0, _ => ⟨[], rfl, fun r x h => by simp at h⟩
  | n + 1, h => by
    obtain ⟨L, hl, hq⟩ := list_of n (fun i hi => h i (by omega))
    obtain ⟨x, hx⟩ := h n (by omega)
    refine ⟨L ++ [x], by simp [hl], fun r y hy => ?_⟩
    by_cases hr : r < L.length
    · rw [List.getElem?_append_left hr] at hy
      exact hq r y hy
    · rw [List.getElem?_append_right (by omega)] at hy
      have h0 : r - L.length = 0 := by
        by_cases q : r - L.length = 0
        · exact q
        · rw [List.getElem?_eq_none (by simp; omega)] at hy; cases hy
      rw [h0] at hy
      obtain rfl : x = y := by simpa using hy
      have : r = n := by omega
      rw [this]
      exact hx
theorem in64_wf {n : Int} (h : (Lit.int .i64 n).wf = true) : Nm.In64 n := by
  simp [Lit.wf, IntKind.min, IntKind.max, IntKind.signed, IntKind.bits] at h
  unfold Nm.In64
  omega
theorem cells_law_four : Try.prog.cellsOf 47 = 4 := by kernel_rfl
theorem cells_bytes : Try.prog.cellsOf 30 = 1 := by kernel_rfl
set_option maxRecDepth 100000 in
theorem open_fours {H : Type} {enc : TypeId × Value → H} {W : World} {base : Nat} {v : Value} {d : DataW H} {ps : List MemPlace} (hok : Value.okWide Try.prog W .any base 44 v)
    (h : DataW.Trod enc Try.prog W 0 (fun _ => true) true 44 v d ps) : ∃ (L : List Nm.Four) (tp : Option Addr) (cap : Nat), v = .slice tp L.length cap ∧ FRows W tp L := by
  obtain ⟨a0, len, cap, rfl⟩ := okWide_slice Try.underlying44 hok
  obtain ⟨fuel, hf⟩ := h
  rcases Go.Deep.open_slice Try.underlying44 hf with ⟨hcs, _⟩ | ⟨a, len', cap', m, n, D, Pl, hcs, _, hl, hm, hmm, _, hi⟩
  · simp [Value.cells] at hcs
    obtain ⟨rfl, rfl, rfl⟩ := hcs
    exact ⟨[], none, 0, rfl, fun h0 => by simp at h0⟩
  · simp [Value.cells] at hcs
    obtain ⟨rfl, rfl, rfl⟩ := hcs
    simp only [if_true] at hmm
    have key : ∀ i, i < len → ∃ x : Nm.Four, ∃ ab ao, a = ⟨ab, ao, none⟩ ∧ ∃ ph ch pp cp, FourAt W ab (ao + i * 4) x ph ch pp cp := fun i hil => by
      obtain ⟨cs0, hc0, _⟩ := hi 0 (by omega)
      rw [cells_law_four, Nat.zero_mul] at hc0
      obtain ⟨_, hcl0, hat0⟩ := World.cells?_some hc0
      have z0 := hat0 0 (by omega)
      rw [List.getElem?_eq_getElem (by omega)] at z0
      obtain ⟨cs', hc, ht⟩ := hi i (by omega)
      rw [cells_law_four] at hc
      obtain ⟨_, hcl, hat⟩ := World.cells?_some hc
      obtain ⟨xs, n', _, _, _, hlx, hel⟩ := DataW.trod_struct Try.underlying47 ht
      match cs', hcl with
      | [u0, u1, u2, u3], _ =>
        have hl4 : xs.length = 4 := by simpa using hlx
        have h0 := hel 0 _ rfl
        have h1 := hel 1 _ rfl
        have h2 := hel 2 _ rfl
        have h3 := hel 3 _ rfl
        rw [List.getElem?_eq_getElem (by omega)] at h0 h1 h2 h3
        obtain ⟨e, e1, _, w1⟩ := DataW.trod_int Try.underlying3 h0
        obtain ⟨k, e2, _, w2⟩ := DataW.trod_int Try.underlying3 h1
        have h2' : DataW.trod enc Try.prog W 0 (fun _ => true) true n' 30 [u2] = some (xs[2]'(by omega)) := by simpa [cells_bytes] using h2
        have h3' : DataW.trod enc Try.prog W 0 (fun _ => true) true n' 30 [u3] = some (xs[3]'(by omega)) := by simpa [cells_bytes] using h3
        obtain ⟨Lh, ph, ch, e3, bh⟩ := open_bs_cells h2'
        obtain ⟨Lp, pp, cp, e4, bp⟩ := open_bs_cells h3'
        obtain rfl : u0 = .int .i64 e := by simpa [cells_int] using e1
        obtain rfl : u1 = .int .i64 k := by simpa [cells_int] using e2
        subst e3
        subst e4
        have a0 := hat 0 (by omega)
        have a1 := hat 1 (by omega)
        have a2 := hat 2 (by omega)
        have a3 := hat 3 (by omega)
        rw [Go.Deep.add_add] at a0 a1 a2 a3
        obtain ⟨ab, ao, spot⟩ := a
        have hspot : spot = none := by simpa [Addr.add] using World.cell?_spot z0
        subst hspot
        rw [Addr.add_mid] at a0 a1 a2 a3
        exact ⟨(e, k, Lh, Lp), ab, ao, rfl, ph, ch, pp, cp, a0, a1, a2, a3, bh, bp, in64_wf w1, in64_wf w2⟩
    obtain ⟨L, hL, hq⟩ := list_of len key
    refine ⟨L, some a, cap, by rw [hL], fun h0 => ?_⟩
    obtain ⟨x, hx⟩ : ∃ x, L[0]? = some x := ⟨L[0], List.getElem?_eq_getElem h0⟩
    obtain ⟨ab, ao, rfl, _⟩ := hq 0 x hx
    refine ⟨ab, ao, rfl, fun r y hy => ?_⟩
    obtain ⟨ab', ao', e, hf⟩ := hq r y hy
    cases e
    exact hf
end Go.Proofs.Ytdmnlooghamngaa

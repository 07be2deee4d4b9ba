/-
  A world in which the table is laid; a kind with a place, and a sector, that came in.
-/
import Derived.Test.YtkjfhbmdogmecaaDoorA6
import Derived.Test.YtkjfhbmdogmecaaDoorScJ
namespace Go.Proofs.YtkjfhbmdogmecaaDoor
open Go.ChangeShapes Go.WideShapes Go.RowKit

noncomputable def laidWorldS (os : Os) : World :=
  { World.holding Tryd.prog os ⟨#[], #[], []⟩ with heap := (World.holding Tryd.prog os ⟨#[], #[], []⟩).heap.modify 0 kkCells }
theorem laidWorldS_met (os : Os) (args : Array Value) : laidMet Tryd.prog rowLaid1 ((laidWorldS os).forCall (fun _ _ => 0) ⟨#[], args, []⟩).memory :=
  laidMet_of_run' 8 (by kernel_rfl) (by kernel_rfl)

set_option maxRecDepth 100000 in
/-- A kind and a place that came in. -/
theorem open_ask {H : Type} {enc : TypeId × Value → H} {W : World} {base : Nat} {v : Value} {d : DataW H} {ps : List MemPlace} (hok : Value.okWide Tryd.prog W .any base 43 v)
    (h : DataW.Trod enc Tryd.prog W 0 (fun _ => true) true 43 v d ps) : ∃ (k a : Int), v = .agg #[.int .i64 k, .int .i64 a] := by
  obtain ⟨cs, rfl, hsz, _⟩ : ∃ cs, v = .agg cs ∧ cs.size = Tryd.prog.cellsOf 43 ∧ Row.okWide Tryd.prog W .any base 43 cs := by
    simpa [Value.okWide, Tryd.underlying43] using hok
  have hc3 : Tryd.prog.cellsOf 43 = 2 := by kernel_rfl
  have hci : Tryd.prog.cellsOf 3 = 1 := by kernel_rfl
  rw [hc3] at hsz
  obtain ⟨fuel, hf⟩ := h
  obtain ⟨xs, m, _, _, _, hlx, hel⟩ := DataW.trod_struct Tryd.underlying43 hf
  obtain ⟨l⟩ := cs
  rcases l with _ | ⟨a, _ | ⟨b, _ | ⟨x, r⟩⟩⟩
  · simp at hsz
  · simp at hsz
  · have hl3 : xs.length = 2 := by simpa using hlx
    have h0 := hel 0 _ rfl
    have h1 := hel 1 _ rfl
    rw [List.getElem?_eq_getElem (by omega)] at h0 h1
    obtain ⟨e, e1, _, _⟩ := DataW.trod_int Tryd.underlying3 h0
    obtain ⟨n, e2, _, _⟩ := DataW.trod_int Tryd.underlying3 h1
    obtain rfl : a = .int .i64 e := by simpa [hci, Value.cells] using e1
    obtain rfl : b = .int .i64 n := by simpa [hci, Value.cells] using e2
    exact ⟨e, n, rfl⟩
  · simp at hsz
set_option maxRecDepth 100000 in
/-- A sector's cells that came in. -/
theorem open_sec_cells {H : Type} {enc : TypeId × Value → H} {W : World} {fuel : Nat} {cs : List Value} {x : DataW H × List MemPlace} (hsz : cs.length = 5) (hf : DataW.trod enc Tryd.prog W 0 (fun _ => true) true fuel 24 cs = some x) :
    ∃ (s : Sc.S) (p : Option Addr) (cap : Nat), cs = [.int .i64 s.k, .int .i64 s.e, .int .i64 s.n, .int .i64 s.a, .slice p s.L.length cap] ∧ Bs W p cap s.L := by
  have hci : Tryd.prog.cellsOf 3 = 1 := by kernel_rfl
  obtain ⟨xs, m, _, _, _, hlx, hel⟩ := DataW.trod_struct Tryd.underlying24 hf
  rcases cs with _ | ⟨v0, _ | ⟨v1, _ | ⟨v2, _ | ⟨v3, _ | ⟨v4, _ | ⟨x, r⟩⟩⟩⟩⟩⟩
  · simp at hsz
  · simp at hsz
  · simp at hsz
  · simp at hsz
  · simp at hsz
  · have hl3 : xs.length = 5 := by simpa using hlx
    have h0 := hel 0 _ rfl
    have h1 := hel 1 _ rfl
    have h2 := hel 2 _ rfl
    have h3 := hel 3 _ rfl
    have h4 := hel 4 _ rfl
    rw [List.getElem?_eq_getElem (by omega)] at h0 h1 h2 h3 h4
    obtain ⟨k, e0, _, _⟩ := DataW.trod_int Tryd.underlying3 h0
    obtain ⟨e, e1, _, _⟩ := DataW.trod_int Tryd.underlying3 h1
    obtain ⟨n, e2, _, _⟩ := DataW.trod_int Tryd.underlying3 h2
    obtain ⟨a, e3, _, _⟩ := DataW.trod_int Tryd.underlying3 h3
    obtain ⟨L, p, cap, e4, hb⟩ := open_bs_cells h4
    obtain rfl : v0 = .int .i64 k := by simpa [hci, Value.cells] using e0
    obtain rfl : v1 = .int .i64 e := by simpa [hci, Value.cells] using e1
    obtain rfl : v2 = .int .i64 n := by simpa [hci, Value.cells] using e2
    obtain rfl : v3 = .int .i64 a := by simpa [hci, Value.cells] using e3
    subst e4
    exact ⟨⟨k, e, n, a, L⟩, p, cap, rfl, hb⟩
  · simp at hsz
set_option maxRecDepth 100000 in
/-- A sector that came in. -/
theorem open_sec {H : Type} {enc : TypeId × Value → H} {W : World} {base : Nat} {v : Value} {d : DataW H} {ps : List MemPlace} (hok : Value.okWide Tryd.prog W .any base 24 v)
    (h : DataW.Trod enc Tryd.prog W 0 (fun _ => true) true 24 v d ps) : ∃ (s : Sc.S) (p : Option Addr) (cap : Nat), v = Sv s p s.L.length cap ∧ Bs W p cap s.L := by
  obtain ⟨cs, rfl, hsz, _⟩ : ∃ cs, v = .agg cs ∧ cs.size = Tryd.prog.cellsOf 24 ∧ Row.okWide Tryd.prog W .any base 24 cs := by
    simpa [Value.okWide, Tryd.underlying24] using hok
  have hc3 : Tryd.prog.cellsOf 24 = 5 := by kernel_rfl
  rw [hc3] at hsz
  obtain ⟨fuel, hf⟩ := h
  obtain ⟨l⟩ := cs
  obtain ⟨s, p, cap, h1, h2⟩ := open_sec_cells (cs := l) (by simpa using hsz) (by simpa [Value.cells] using hf)
  subst h1
  exact ⟨s, p, cap, rfl, h2⟩
end Go.Proofs.YtkjfhbmdogmecaaDoor

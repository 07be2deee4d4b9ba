/-
  Things that came in, opened.
-/
import Derived.Test.YtlgnlilfagjejaaPaRo
import Derived.Test.YtlgnlilfagjejaaPaX0
namespace Go.Proofs.Ytlgnlilfagjejaa
open Go.ChangeShapes Go.WideShapes Go.RowKit

theorem cells_thing : Try.prog.cellsOf 52 = 35 := by kernel_rfl
theorem th_cells (k n : Int) (r : Int × List Int) : (Pk.Th.mk k n r.1 r.2).cells = Value.int .i64 k :: Value.int .i64 n :: RefC r := by unfold Pk.Th.cells RefC; rfl
theorem th0_ok : Pk.th0.ok := ⟨⟨by decide, by decide⟩, ⟨by decide, by decide⟩, by simp [Pk.th0], byt_rep 32 0 (by omega)⟩
set_option maxRecDepth 100000 in
theorem open_things {H : Type} {enc : TypeId × Value → H} {W : World} {base : Nat} {v : Value} {d : DataW H} {ps : List MemPlace} (hok : Value.okWide Try.prog W .any base 50 v)
    (h : DataW.Trod enc Try.prog W 0 (fun _ => true) true 50 v d ps) : ∃ (l : Nat → Pk.Th) (M : Nat) (tp : Option Addr) (cap : Nat), v = .slice tp M cap ∧ TRows W tp M l ∧ (M ≤ cap ∧ cap ≤ 9223372036854775807) := by
  obtain ⟨a0, len, cap, rfl⟩ := okWide_slice Try.underlying50 hok
  obtain ⟨fuel, hf⟩ := h
  rcases Go.Deep.open_slice Try.underlying50 hf with ⟨hcs, _⟩ | ⟨a, len', cap', m, n, D, Pl, hcs, _, hl, hm, hmm, _, hi⟩
  · simp [Value.cells] at hcs
    obtain ⟨rfl, rfl, rfl⟩ := hcs
    exact ⟨fun _ => Pk.th0, 0, none, 0, rfl, ⟨fun _ => th0_ok, fun h0 => by omega⟩, Nat.le_refl _, by omega⟩
  · simp [Value.cells] at hcs
    obtain ⟨rfl, rfl, rfl⟩ := hcs
    simp only [if_true] at hmm
    have key : ∀ i, i < len → ∃ x : Pk.Th, x.ok ∧ ∃ ab ao, a = ⟨ab, ao, none⟩ ∧ W.rangeAt ab (ao + i * 35) x.cells := fun i hil => by
      obtain ⟨cs0, hc0, _⟩ := hi 0 (by omega)
      rw [cells_thing, Nat.zero_mul] at hc0
      obtain ⟨_, hcl0, hat0⟩ := World.cells?_some hc0
      have z0 := hat0 0 (by omega)
      rw [List.getElem?_eq_getElem (by omega)] at z0
      obtain ⟨cs', hc, ht⟩ := hi i (by omega)
      rw [cells_thing] at hc
      obtain ⟨_, hcl, hat⟩ := World.cells?_some hc
      obtain ⟨xs, n', _, _, _, hlx, hel⟩ := DataW.trod_struct Try.underlying52 ht
      have hl3 : xs.length = 3 := by simpa using hlx
      have h0 := hel 0 _ rfl
      have h1 := hel 1 _ rfl
      have h2 := hel 2 _ rfl
      rw [List.getElem?_eq_getElem (by omega)] at h0 h1 h2
      obtain ⟨k0, e0, _, w0⟩ := DataW.trod_int Try.underlying3 h0
      obtain ⟨k1, e1, _, w1⟩ := DataW.trod_int Try.underlying3 h1
      have h2' : DataW.trod enc Try.prog W 0 (fun _ => true) true n' 26 ((cs'.drop 2).take 33) = some xs[2] := by
        rw [← cells_ref]; exact h2
      obtain ⟨r, e2, hr⟩ := open_ref_cells (by simp; omega) h2'
      have hd : (cs'.drop 2).take 33 = cs'.drop 2 := List.take_of_length_le (by simp; omega)
      rw [hd] at e2
      have hcs' : cs' = Value.int .i64 k0 :: Value.int .i64 k1 :: RefC r := by
        rcases cs' with _ | ⟨u0, _ | ⟨u1, q⟩⟩
        · simp at hcl
        · simp at hcl
        · obtain rfl : u0 = .int .i64 k0 := by simpa [Try.cells_int] using e0
          obtain rfl : u1 = .int .i64 k1 := by simpa [Try.cells_int] using e1
          rw [← e2]
          rfl
      refine ⟨⟨k0, k1, r.1, r.2⟩, ⟨in64_wf w1, hr.2.2, hr.1, hr.2.1⟩, ?_⟩
      obtain ⟨ab, ao, spot⟩ := a
      have hspot : spot = none := by simpa [Addr.add] using World.cell?_spot z0
      subst hspot
      refine ⟨ab, ao, rfl, fun j u hu => ?_⟩
      rw [th_cells, ← hcs'] at hu
      have hj := (List.getElem?_eq_some_iff.1 hu).1
      have hx := hat j (by omega)
      rw [Go.Deep.add_add, Addr.add_mid, hu] at hx
      rw [show ao + i * 35 + j = ao + (i * 35 + j) by omega]
      exact hx
    refine ⟨fun i => if h : i < len then (key i h).choose else Pk.th0, len, some a, cap, rfl, ⟨fun i => ?_, fun h0 => ?_⟩, hl, by unfold maxLen at hm; exact hm⟩
    · by_cases hil : i < len
      · dsimp only; rw [dif_pos hil]; exact (key i hil).choose_spec.1
      · dsimp only; rw [dif_neg hil]; exact th0_ok
    · obtain ⟨_, ab, ao, e, hr⟩ := (key 0 h0).choose_spec
      subst e
      refine ⟨ab, ao, rfl, ?_, fun i hil => ?_⟩
      · have hc := hr 0 (.int .i64 (key 0 h0).choose.k) (by unfold Pk.Th.cells; rfl)
        exact World.block_lt_of_cell? W _ hc
      · dsimp only
        rw [dif_pos hil]
        obtain ⟨_, ab', ao', e', hr'⟩ := (key i hil).choose_spec
        cases e'
        exact hr'
end Go.Proofs.Ytlgnlilfagjejaa

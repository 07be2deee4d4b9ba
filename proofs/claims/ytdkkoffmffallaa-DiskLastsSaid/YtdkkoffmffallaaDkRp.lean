/-
  A slice of rows of bytes that came in, and how long its rows are.
-/
import Derived.Test.YtdkkoffmffallaaDkRo
namespace Go.Proofs.Ytdkkoffmffallaa
open Go.ChangeShapes Go.WideShapes Go.RowKit

theorem Try.bytes_u8 : Try.prog.bytesOf 5 = 1 := by kernel_rfl
theorem weights_all {H : Type} {P : Program} {e : TypeId} {n : Nat} : ∀ {ds : List (DataW H)} {d : DataW H}, d ∈ ds → n ∈ d.weights P e → n ∈ DataW.weightsAll P e ds
  | [], _, h, _ => by cases h
  | x :: r, d, h, hn => by
    simp only [DataW.weightsAll, List.mem_append]
    rcases List.mem_cons.1 h with rfl | h
    · exact Or.inl hn
    · exact Or.inr (weights_all h hn)
set_option maxRecDepth 100000 in
theorem open_mat2 {H : Type} {enc : TypeId × Value → H} {W : World} {base : Nat} {v : Value} {d : DataW H} {ps : List MemPlace} (hok : Value.okWide Try.prog W .any base 39 v)
    (h : DataW.Trod enc Try.prog W 0 (fun _ => true) true 39 v d ps) : ∃ (Rs : List (List Int)) (tp : Option Addr) (cap : Nat), v = .slice tp Rs.length cap ∧ BRows W tp Rs ∧ ((∀ n ∈ d.weights Try.prog 39, n ≤ reachBytes) → ∀ R ∈ Rs, R.length ≤ 140737488355328) := by
  obtain ⟨a0, len, cap, rfl⟩ := okWide_slice Try.underlying39 hok
  obtain ⟨fuel, hf⟩ := h
  rcases Go.Deep.open_int_rows Try.underlying39 Try.underlying31 Try.underlying5 Try.cells22 Try.cells5 hf with ⟨hcs, _⟩ | ⟨a, len', cap', A, L, C, Z, hcs, _, hl, hm, hx, hrow⟩
  · simp [Value.cells] at hcs
    obtain ⟨rfl, rfl, rfl⟩ := hcs
    exact ⟨[], none, 0, rfl, fun h0 => by simp at h0, fun _ R hR => by simp at hR⟩
  · simp [Value.cells] at hcs
    obtain ⟨rfl, rfl, rfl⟩ := hcs
    have hlen : ((List.range len).map fun r => (Z r).take (L r)).length = len := by simp
    refine ⟨(List.range len).map fun r => (Z r).take (L r), some a, cap, by rw [hlen], ?_, fun hw R hR => ?_⟩
    rotate_left
    · obtain ⟨r, hr, rfl⟩ := List.mem_map.1 hR
      have hr' : r < len := by simpa using hr
      obtain ⟨_, e2, _, e4, _, e6, _⟩ := hrow r (by omega)
      have e0 : ((Z r).take (L r)).length ≤ (Z r).length := by rw [List.length_take]; omega
      simp only [Prod.mk.injEq] at hx
      cases hA : A r with
      | none => have := e6 hA; omega
      | some a' =>
        have hmem : ((lits (H := H) .u8 ((Z r).take (L r))).length + (lits (H := H) .u8 ((Z r).drop (L r))).length) * Try.prog.bytesOf 5 ∈ d.weights Try.prog 39 := by
          rw [hx.1]
          simp only [DataW.weights, Try.underlying39]
          refine List.mem_cons_of_mem _ (List.mem_append_left _ (weights_all (List.mem_map.2 ⟨r, hr, rfl⟩) ?_))
          simp [Go.Deep.intRow, hA, DataW.weights, Try.underlying31]
        have h := hw _ hmem
        rw [Try.bytes_u8] at h
        simp only [lits, List.length_map, List.length_take, List.length_drop, reachBytes] at h ⊢
        omega
    intro h0
    rw [hlen] at h0
    obtain ⟨ab, ao, spot⟩ := a
    have hspot : spot = none := by simpa [Addr.add] using World.cell?_spot (hrow 0 (by omega)).1
    subst hspot
    have h00 := (hrow 0 (by omega)).1
    rw [Addr.add_mid] at h00
    refine ⟨ab, ao, rfl, World.block_lt_of_cell? W ⟨ab, ao + 0, none⟩ h00, fun r hr => ?_⟩
    rw [hlen] at hr
    have hg : ((List.range len).map fun r => (Z r).take (L r)).getD r [] = (Z r).take (L r) := by simp [List.getD_eq_getElem?_getD, hr]
    obtain ⟨e1, e2, e3, e4, e5, e6, e7⟩ := hrow r (by omega)
    have hll : ((Z r).take (L r)).length = L r := by simp; omega
    rw [hg, hll]
    rw [Addr.add_mid] at e1
    refine ⟨A r, C r, e1, ⟨⟨fun x hx => ?_, fun h1 => ?_⟩, ⟨by rw [hll]; exact e2, by unfold maxLen at e3; omega⟩, fun h1 => ⟨List.eq_nil_of_length_eq_zero (by rw [hll]; have := e6 h1; omega), e6 h1⟩⟩⟩
    · have h := e5 x (List.mem_of_mem_take hx)
      simp [Lit.wf, IntKind.min, IntKind.max, IntKind.signed, IntKind.bits] at h
      omega
    · rw [hll] at h1 ⊢
      cases hA : A r with
      | none => have := e6 hA; omega
      | some a' =>
        obtain ⟨bb, bo, sp⟩ := a'
        obtain ⟨_, hc⟩ := e7 _ hA
        have hsp : sp = none := by simpa [Addr.add] using World.cell?_spot (hc 0 (by omega))
        subst hsp
        refine ⟨bb, bo, rfl, fun j hj => ?_⟩
        have h := hc j (by omega)
        rw [Addr.add_mid] at h
        rw [h]
        congr 2
        simp [List.getD_eq_getElem?_getD, hj]
/-! SeR -/
end Go.Proofs.Ytdkkoffmffallaa

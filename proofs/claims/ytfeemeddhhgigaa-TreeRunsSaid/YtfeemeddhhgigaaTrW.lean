/-
  The reference's tree: contract: there.
-/
import Derived.Test.YtfeemeddhhgigaaTrV
namespace Go.Proofs.Ytfeemeddhhgigaa
open Go.RowKit

theorem bl_mem_lt {t : Tr.T} {x : Nat × Pg.Rf} (h : x ∈ Tr.bl t) : x.1 < 64 ∧ 0 < (t.b x.1).1 := by
  obtain ⟨h1, h2, h3, h4⟩ := Tr.blr_ge h
  exact ⟨by omega, h3 ▸ h4⟩
theorem getD_mem' {α : Type} (l : List α) (j : Nat) (d : α) (h : j < l.length) : l.getD j d ∈ l := by
  rw [List.getD_eq_getElem?_getD, List.getElem?_eq_getElem h]; exact List.getElem_mem h
theorem has_bl (t : Tr.T) (i : Nat) (h1 : 1 ≤ i) (h8 : i ≤ 8) : (∀ j, j < (Tr.bl t).length → Tr.lf ((Tr.bl t).getD j (0, Pg.zr)).1 = i → Tr.has t i = true) ∧ ((∀ j, j < (Tr.bl t).length → Tr.lf ((Tr.bl t).getD j (0, Pg.zr)).1 ≠ i) → Tr.has t i = false) := by
  refine ⟨fun j hj e => (Tr.has_iff t i h1).2 ⟨_, e, (bl_mem_lt (getD_mem' _ j _ hj)).2⟩, fun h => ?_⟩
  cases q : Tr.has t i with
  | false => rfl
  | true =>
    obtain ⟨k, hk, hp⟩ := (Tr.has_iff t i h1).1 q
    have hk64 : k < 64 := by unfold Tr.lf at hk; omega
    have hm : (k, t.b k) ∈ Tr.bl t := Tr.blr_mem k hp (Nat.zero_le _) (by omega)
    obtain ⟨j, hj, e⟩ := List.mem_iff_getElem.1 hm
    have e2 : (Tr.bl t).getD j (0, Pg.zr) = (k, t.b k) := by rw [List.getD_eq_getElem?_getD, List.getElem?_eq_getElem hj]; exact e
    exact absurd (by rw [e2]; exact hk) (h j hj)
set_option maxHeartbeats 2000000 in
set_option maxRecDepth 100000 in
theorem there_any {K b : Nat} {vb vn : Value} {L : List Tr.Nn} {t : Tr.T} (i : Nat) (w : World) (h : RT K w b vb vn L t) (hi1 : 1 ≤ i) (hi8 : i ≤ 8) :
    Calls Try.prog 61 #[.pointer (some ⟨b, 0, none⟩), .int .i64 (i : Int)] w fun e w' => e = .returned (.bool (Tr.has t i)) ∧ Hid (Below w.heap.size w w') := by
  obtain ⟨p, c, rfl⟩ := h.lenb
  have hle := Tr.bl_le t
  have HC : Hid (∀ y, Below w.heap.size w y → y.cell? ⟨b, 0, none⟩ = some (.slice p (Tr.bl t).length c)) := fun y hy => (h.old hy).c0
  have c0 := HC.out w (Below.refl _ _)
  obtain ⟨hh1, hh2⟩ := has_bl t i hi1 hi8
  have HF1 := Lib.hid hh1
  have HF2 := Lib.hid hh2
  have HM : Hid (∀ y i, Below w.heap.size w y → i < (Tr.bl t).length → ∃ q, p = some ⟨q, 0, none⟩ ∧ y.cell? ⟨q, i * 34, none⟩ = some (.int .i64 ((((Tr.bl t).getD i (0, Pg.zr)).1 : Nat) : Int))) := fun y i hy hi => by
    obtain ⟨q, c', e, hr⟩ := (h.old hy).mp i hi
    injection e with e _ _
    exact ⟨q, e, hr 0 _ rfl⟩
  have HLF : Hid (∀ y j, j < (Tr.bl t).length → Calls Try.prog 60 #[.int .i64 ((((Tr.bl t).getD j (0, Pg.zr)).1 : Nat) : Int)] y fun e w' => e = .returned (.int .i64 ((Tr.lf ((Tr.bl t).getD j (0, Pg.zr)).1 : Nat) : Int)) ∧ Hid (Below y.heap.size y w')) := fun y j hj => leaf_any _ (by have := (bl_mem_lt (getD_mem' (Tr.bl t) j (0, Pg.zr) hj)).1; omega) y
  generalize Tr.has t i = r at *
  obtain ⟨n, hn⟩ : ∃ n, (Tr.bl t).length = n := ⟨_, rfl⟩
  rw [hn] at HC c0 HF1 HF2 HM HLF hle
  clear h hn hh1 hh2
  generalize Tr.bl t = B at *
  go_enter Try.func61, Try.ntmps61
  go_wp2
  go_loopw [5] (fun v5 wr => ∃ k : Nat, k ≤ n ∧ v5 = .int .i64 k ∧ Hid (∀ j, j < k → Tr.lf (B.getD j (0, Pg.zr)).1 ≠ i) ∧ Hid (Below w.heap.size w wr)) (fun v5 _ => n - (intOf v5).toNat)
  case atStart => exact ⟨0, Nat.zero_le _, rfl, fun j hj => by omega, Below.refl _ _⟩
  case round =>
    obtain ⟨k, hk, rfl, HE, HB⟩ := hrel
    have d0 := HC.out _ HB.out
    by_cases hlt : k < n
    · obtain ⟨q, hp, d1⟩ := HM.out _ k HB.out hlt
      subst hp
      have hk0 : 0 ≤ (k : Int) := by omega
      have hk1 : (k : Int) < (n : Int) := by omega
      have HG := Lib.hid (HF1.out k hlt)
      have HL := Lib.hid (HLF.out wr k hlt)
      have HE2 : Hid (Tr.lf (B.getD k (0, Pg.zr)).1 ≠ i → ∀ j, j < k + 1 → Tr.lf (B.getD j (0, Pg.zr)).1 ≠ i) := fun h j hj => by
        by_cases e : j = k
        · rw [e]; exact h
        · exact HE.out j (by omega)
      generalize Tr.lf (B.getD k (0, Pg.zr)).1 = x at *
      by_cases hx : x = i
      · have e := HG.out hx
        subst e
        subst hx
        go_wp2_with (first
          | (go_at_call 60; refine HL.out.mono ?_; rintro e1 w1 ⟨rfl, B1⟩))
        go_ret
        exact ⟨rfl, Lib.hid (HB.out.trans (B1.out.mono HB.out.size))⟩
      · have hx2 : ¬ ((x : Int) = (i : Int)) := by omega
        go_wp2_with (first
          | (go_at_call 60; refine HL.out.mono ?_; rintro e1 w1 ⟨rfl, B1⟩))
        exact ⟨⟨k + 1, by omega, by go_num, HE2.out hx, Lib.hid (HB.out.trans (B1.out.mono HB.out.size))⟩, by simp [intOf]; omega⟩
    · have E : k = n := by omega
      have e := HF2.out (fun j hj => HE.out j (by omega))
      subst e
      subst E
      clear hlt
      go_wp2
      go_ret
      exact ⟨rfl, HB⟩
end Go.Proofs.Ytfeemeddhhgigaa

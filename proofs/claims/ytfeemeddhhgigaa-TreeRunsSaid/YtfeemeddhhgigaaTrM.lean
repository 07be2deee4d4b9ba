/-
  The reference's tree in memory; contracts: at, Mapped, node, leaf.
-/
import Derived.Test.YtfeemeddhhgigaaTrL
namespace Go.Proofs.Ytfeemeddhhgigaa
open Go.RowKit

theorem Fl.old {K e s : Nat} {w y : World} {v : Value} {L : List (Array Value)} (h : Fl K e s w v L) (hb : Below w.heap.size w y) : Fl K e s y v L := ⟨own_keepX h.1 hb, h.2⟩
theorem Fl.only {K e s k : Nat} {w y : World} {v : Value} {L : List (Array Value)} (h : Fl K e s w v L) (ho : Only k w y) (hk : v.ownBlock ≠ some k) : Fl K e s y v L := by
  refine ⟨⟨h.1.1, ?_⟩, h.2⟩
  rcases h.1.2 with h' | ⟨g, cap, cur, rfl, q0, q1, q2⟩
  · exact Or.inl h'
  · exact Or.inr ⟨g, cap, cur, rfl, q0, (ho.block g (lt_of_block q1) (fun e => hk (by rw [← e]; rfl))).trans q1, q2⟩
namespace Tr
/-- A block and its ref, a node, as cells. -/
def mpA (x : Nat × Pg.Rf) : Array Value := (.int .i64 (x.1 : Int) :: cl x.2).toArray
def nnA (x : Nn) : Array Value := (.int .i64 (x.i : Int) :: .bool x.d :: cl x.r).toArray
end Tr
/-- All refs of a tree are refs. -/
def TOk (t : Tr.T) : Prop := (∀ k, Pg.Ok (t.b k)) ∧ ∀ i r, t.n i = some (some r) → Pg.Ok r
theorem pg_zr : Pg.Ok Pg.zr := by
  refine ⟨by unfold Pg.zr; simp, fun x hx => ?_, by unfold Pg.zr Pk.In64; simp⟩
  unfold Pg.zr at hx
  obtain ⟨_, rfl⟩ := List.mem_replicate.1 hx
  omega
/-- The reference's tree: its box at block b, its two rows. -/
structure RT (K : Nat) (y : World) (b : Nat) (vb vn : Value) (L : List Tr.Nn) (t : Tr.T) : Prop where
  box : y.heap[b]? = some (.cells #[vb, vn] 74 (0, 0))
  bl : Fl K 85 34 y vb ((Tr.bl t).map Tr.mpA)
  nd : Fl K 70 35 y vn (L.map Tr.nnA)
  rep : Tr.NRep L t
  ok : TOk t
  lo : K ≤ b
section
variable {K b : Nat} {w y : World} {vb vn : Value} {L : List Tr.Nn} {t : Tr.T}
theorem RT.old (h : RT K w b vb vn L t) (hb : Below w.heap.size w y) : RT K y b vb vn L t := ⟨(hb.block _ (lt_of_block h.box)).trans h.box, h.bl.old hb, h.nd.old hb, h.rep, h.ok, h.lo⟩
theorem RT.c0 (h : RT K y b vb vn L t) : y.cell? ⟨b, 0, none⟩ = some vb := by rw [cell_of_row y b _ _ _ _ h.box]; rfl
theorem RT.c1 (h : RT K y b vb vn L t) : y.cell? ⟨b, 1, none⟩ = some vn := by rw [cell_of_row y b _ _ _ _ h.box]; rfl
/-- The cells of the i-th block. -/
theorem RT.mp (h : RT K y b vb vn L t) (i : Nat) (hi : i < (Tr.bl t).length) : ∃ q c, vb = .slice (some ⟨q, 0, none⟩) (Tr.bl t).length c ∧ y.rangeAt q (i * 34) (Tr.mpA ((Tr.bl t).getD i (0, Pg.zr))).toList := by
  obtain ⟨q, c, h1, _, h2⟩ := h.bl.rng i (by rw [List.length_map]; exact hi)
  rw [List.length_map] at h1
  refine ⟨q, c, h1, ?_⟩
  rw [List.getD_eq_getElem?_getD, List.getElem?_map, List.getElem?_eq_getElem hi] at h2
  rw [List.getD_eq_getElem?_getD, List.getElem?_eq_getElem hi]
  exact h2
theorem RT.nn (h : RT K y b vb vn L t) (i : Nat) (hi : i < L.length) : ∃ q c, vn = .slice (some ⟨q, 0, none⟩) L.length c ∧ y.rangeAt q (i * 35) (Tr.nnA (L.getD i ⟨0, false, Pg.zr⟩)).toList := by
  obtain ⟨q, c, h1, _, h2⟩ := h.nd.rng i (by rw [List.length_map]; exact hi)
  rw [List.length_map] at h1
  refine ⟨q, c, h1, ?_⟩
  rw [List.getD_eq_getElem?_getD, List.getElem?_map, List.getElem?_eq_getElem hi] at h2
  rw [List.getD_eq_getElem?_getD, List.getElem?_eq_getElem hi]
  exact h2
theorem RT.lenb (h : RT K y b vb vn L t) : ∃ p c, vb = .slice p (Tr.bl t).length c := by
  obtain ⟨p, c, e⟩ := h.bl.len
  rw [List.length_map] at e
  exact ⟨p, c, e⟩
theorem RT.lenn (h : RT K y b vb vn L t) : ∃ p c, vn = .slice p L.length c := by
  obtain ⟨p, c, e⟩ := h.nd.len
  rw [List.length_map] at e
  exact ⟨p, c, e⟩
end
namespace Tr
theorem cntb_le (t : T) : ∀ n, cntb t n ≤ n
  | 0 => Nat.le_refl _
  | n + 1 => by
    have := cntb_le t n
    rw [cntb]
    split <;> omega
theorem bl_le (t : T) : (bl t).length ≤ 64 := by rw [bl_len]; exact cntb_le t 64
/-- Where a block's ref stands in the list, or -1. -/
def atI (t : T) (N : Int) : Int := match (bl t).findIdx? (fun x => decide ((x.1 : Int) = N)) with
  | some i => (i : Int)
  | none => -1
theorem find_step {α : Type} (L : List α) (p : α → Bool) (i : Nat) (d : α) (hi : i < L.length) (h : ∀ j, j < i → p (L.getD j d) = false) (hp : p (L.getD i d) = true) : L.findIdx? p = some i := by
  rw [List.findIdx?_eq_some_iff_getElem]
  refine ⟨hi, ?_, fun j hj => ?_⟩
  · rw [List.getD_eq_getElem?_getD, List.getElem?_eq_getElem hi] at hp
    exact hp
  · have := h j hj
    rw [List.getD_eq_getElem?_getD, List.getElem?_eq_getElem (by omega)] at this
    rw [Bool.not_eq_true]
    exact this
theorem find_none {α : Type} (L : List α) (p : α → Bool) (d : α) (h : ∀ j, j < L.length → p (L.getD j d) = false) : L.findIdx? p = none := by
  rw [List.findIdx?_eq_none_iff]
  intro x hx
  obtain ⟨j, hj, rfl⟩ := List.mem_iff_getElem.1 hx
  have := h j hj
  rw [List.getD_eq_getElem?_getD, List.getElem?_eq_getElem hj] at this
  exact this
end Tr
set_option maxHeartbeats 2000000 in
set_option maxRecDepth 100000 in
theorem at_any {K b : Nat} {vb vn : Value} {L : List Tr.Nn} {t : Tr.T} (N : Int) (w : World) (h : RT K w b vb vn L t) :
    Calls Try.prog 57 #[.pointer (some ⟨b, 0, none⟩), .int .i64 N] w fun e w' => e = .returned (.int .i64 (Tr.atI t N)) ∧ Hid (Below w.heap.size w w') := by
  obtain ⟨p, c, rfl⟩ := h.lenb
  have HT := Lib.hid h
  have hle := Tr.bl_le t
  have HC : Hid (∀ y, Below w.heap.size w y → y.cell? ⟨b, 0, none⟩ = some (.slice p (Tr.bl t).length c)) := fun y hy => (h.old hy).c0
  have c0 := HC.out w (Below.refl _ _)
  have HF1 : Hid (∀ i, i < (Tr.bl t).length → (∀ j, j < i → ((((Tr.bl t).getD j (0, Pg.zr)).1 : Nat) : Int) ≠ N) → ((((Tr.bl t).getD i (0, Pg.zr)).1 : Nat) : Int) = N → Tr.atI t N = (i : Int)) := fun i hi h1 h2 => by
    unfold Tr.atI
    rw [Tr.find_step (Tr.bl t) (fun x => decide ((x.1 : Int) = N)) i (0, Pg.zr) hi (fun j hj => decide_eq_false (h1 j hj)) (decide_eq_true h2)]
  have HF2 : Hid ((∀ j, j < (Tr.bl t).length → ((((Tr.bl t).getD j (0, Pg.zr)).1 : Nat) : Int) ≠ N) → Tr.atI t N = -1) := fun h1 => by
    unfold Tr.atI
    rw [Tr.find_none (Tr.bl t) (fun x => decide ((x.1 : Int) = N)) (0, Pg.zr) (fun j hj => decide_eq_false (h1 j hj))]
  have HM : Hid (∀ y i, Below w.heap.size w y → i < (Tr.bl t).length → ∃ q, p = some ⟨q, 0, none⟩ ∧ y.cell? ⟨q, i * 34, none⟩ = some (.int .i64 ((((Tr.bl t).getD i (0, Pg.zr)).1 : Nat) : Int))) := fun y i hy hi => by
    obtain ⟨q, c', e, hr⟩ := (h.old hy).mp i hi
    injection e with e _ _
    exact ⟨q, e, hr 0 _ rfl⟩
  generalize Tr.atI t N = r at *
  obtain ⟨n, hn⟩ : ∃ n, (Tr.bl t).length = n := ⟨_, rfl⟩
  rw [hn] at HC c0 HF1 HF2 HM hle
  clear h HT hn
  generalize Tr.bl t = B at *
  go_enter Try.func57, Try.ntmps57
  go_wp2
  go_loopw [5] (fun v5 wr => ∃ i : Nat, i ≤ n ∧ v5 = .int .i64 i ∧ Hid (∀ j, j < i → (((B.getD j (0, Pg.zr)).1 : Nat) : Int) ≠ N) ∧ Hid (Below w.heap.size w wr)) (fun v5 _ => n - (intOf v5).toNat)
  case atStart => exact ⟨0, Nat.zero_le _, rfl, fun j hj => by omega, Below.refl _ _⟩
  case round =>
    obtain ⟨i, hi, rfl, HE, HB⟩ := hrel
    have d0 := HC.out _ HB.out
    by_cases hlt : i < n
    · obtain ⟨q, hp, d1⟩ := HM.out _ i HB.out hlt
      subst hp
      have hi0 : 0 ≤ (i : Int) := by omega
      have hi1 : (i : Int) < (n : Int) := by omega
      have HG := Lib.hid (HF1.out i hlt HE.out)
      have HE2 : Hid ((((B.getD i (0, Pg.zr)).1 : Nat) : Int) ≠ N → ∀ j, j < i + 1 → (((B.getD j (0, Pg.zr)).1 : Nat) : Int) ≠ N) := fun h j hj => by
        by_cases e : j = i
        · rw [e]; exact h
        · exact HE.out j (by omega)
      generalize (((B.getD i (0, Pg.zr)).1 : Nat) : Int) = x at *
      by_cases hx : x = N
      · have e := HG.out hx
        subst e
        subst hx
        go_wp2
        go_ret
        exact ⟨rfl, HB⟩
      · go_wp2
        exact ⟨⟨i + 1, by omega, by go_num, HE2.out hx, HB⟩, by simp [intOf]; omega⟩
    · have E : i = n := by omega
      have e := HF2.out (fun j hj => HE.out j (by omega))
      subst e
      subst E
      clear hlt
      go_wp2
      go_ret
      exact ⟨rfl, HB⟩
end Go.Proofs.Ytfeemeddhhgigaa

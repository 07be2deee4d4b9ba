/-
  The reference's tree: contracts: node, Mapped, leaf, there, dirty, Get, Node.
-/
import Derived.Test.YtfeemeddhhgigaaTrM
namespace Go.Proofs.Ytfeemeddhhgigaa
open Go.RowKit

theorem results_ct {P : Program} {fn : Func} {p v : Tmp} {ty : TypeId} (h : fn.results = #[.cell p ty, .tmp v]) (tmps : Array Value) (w : World) (g : Nat) (t : TypeId) (cs : Array Value) (fr : Nat × Nat) (d : TypeDesc)
    (hp : tmps.getD p undef = .pointer (some ⟨g, 0, none⟩)) (hg : w.heap[g]? = some (.cells cs t fr))
    (hu : P.underlying ty = some d) (hd : (match d with | .struct _ | .array _ _ => true | _ => false) = true) (hi : (P.info? ty).map (·.size) = some cs.size) :
    (results fn tmps).run P w = .ok (.tuple #[.agg cs, tmps.getD v undef]) w := by
  have hp' : tmps[p]?.getD undef = .pointer (some ⟨g, 0, none⟩) := by simpa using hp
  simp [results, h, hp', asAddr, run_loadVar_row w g t ty cs fr d hg hu hd hi]
theorem Try.sizeRef33 : (Try.prog.info? 33).map (·.size) = some 33 := by kernel_rfl
namespace Tr
open Pg (Rf zr)
theorem atI_cases (t : T) (N : Int) : (getB t N = false ∧ atI t N = -1) ∨ (getB t N = true ∧ ∃ i, i < (bl t).length ∧ atI t N = (i : Int) ∧ (bl t).getD i (0, zr) = (N.toNat, t.b N.toNat)) := by
  unfold atI
  cases q : (bl t).findIdx? (fun x => decide ((x.1 : Int) = N)) with
  | none =>
    left
    refine ⟨?_, rfl⟩
    rw [List.findIdx?_eq_none_iff] at q
    rw [← Bool.not_eq_true, getB_iff]
    rintro ⟨h1, h2⟩
    unfold inK at h1
    have := q _ (blr_mem N.toNat h2 (n := 64) (lo := 0) (by omega) (by omega))
    rw [decide_eq_false_iff_not] at this
    exact this (by show ((N.toNat : Nat) : Int) = N; omega)
  | some i =>
    right
    rw [List.findIdx?_eq_some_iff_getElem] at q
    obtain ⟨hi, hp, _⟩ := q
    have hp' := of_decide_eq_true hp
    have hm := blr_ge (f := t.b) (n := 64) (lo := 0) (x := (bl t)[i]) (List.getElem_mem hi)
    have hN : N.toNat = ((bl t)[i]).1 := by omega
    refine ⟨?_, i, hi, rfl, ?_⟩
    · rw [getB_iff, hN]
      refine ⟨by unfold inK; omega, ?_⟩
      rw [← hm.2.2.1]; exact hm.2.2.2
    · rw [List.getD_eq_getElem?_getD, List.getElem?_eq_getElem hi, hN, ← hm.2.2.1]
      rfl
/-- Where a node stands in the list, or -1. -/
def ndI (L : List Nn) (N : Int) : Int := match L.findIdx? (fun x => decide ((x.i : Int) = N)) with
  | some i => (i : Int)
  | none => -1
theorem lk_find (i : Nat) : ∀ L : List Nn, lk L i = match L.findIdx? (fun x => decide ((x.i : Int) = (i : Int))) with
    | some j => (L.getD j ⟨0, false, zr⟩).nd
    | none => none
  | [] => rfl
  | x :: r => by
    have ih := lk_find i r
    rw [List.findIdx?_cons]
    show (if x.i = i then x.nd else lk r i) = _
    by_cases e : x.i = i
    · rw [if_pos e, decide_eq_true (by omega)]
      rfl
    · rw [if_neg e, decide_eq_false (by omega), ih]
      cases q : r.findIdx? (fun x => decide ((x.i : Int) = (i : Int))) with
      | none => rfl
      | some j => rfl
theorem ndI_cases {L : List Nn} {t : T} (h : NRep L t) (h9 : ∀ i, 9 ≤ i → t.n i = none) (N : Int) : ((N < 0 ∨ t.n N.toNat = none) ∧ ndI L N = -1) ∨ (inN N ∧ ∃ i, i < L.length ∧ ndI L N = (i : Int) ∧ t.n N.toNat = (L.getD i ⟨0, false, zr⟩).nd) := by
  by_cases hN : N < 0
  · left
    refine ⟨Or.inl hN, ?_⟩
    unfold ndI
    rw [find_none L _ ⟨0, false, zr⟩ (fun j _ => decide_eq_false (by omega))]
  · have e : N = ((N.toNat : Nat) : Int) := by omega
    have h1 := lk_find N.toNat L
    rw [h N.toNat, ← e] at h1
    unfold ndI
    cases q : L.findIdx? (fun x => decide ((x.i : Int) = N)) with
    | none =>
      rw [q] at h1
      exact Or.inl ⟨Or.inr h1, rfl⟩
    | some i =>
      rw [q] at h1
      right
      rw [List.findIdx?_eq_some_iff_getElem] at q
      refine ⟨?_, i, q.1, rfl, h1⟩
      have h8 : N.toNat < 9 := by
        refine Classical.byContradiction fun hc => ?_
        rw [h9 _ (by omega)] at h1
        have h2 : (L.getD i ⟨0, false, zr⟩).nd = none := h1.symm
        unfold Nn.nd at h2
        split at h2 <;> cases h2
      unfold inN
      omega
theorem nd_facts (x : Nn) : dty x.nd = x.d ∧ cln x.nd = !x.d ∧ (x.d = false → nr x.nd = x.r) := by
  unfold Nn.nd
  cases x.d
  · exact ⟨rfl, rfl, fun _ => rfl⟩
  · exact ⟨rfl, rfl, fun h => by cases h⟩
end Tr
set_option maxHeartbeats 2000000 in
set_option maxRecDepth 100000 in
theorem nidx_any {K b : Nat} {vb vn : Value} {L : List Tr.Nn} {t : Tr.T} (N : Int) (w : World) (h : RT K w b vb vn L t) (hl : L.length ≤ 1000) :
    Calls Try.prog 56 #[.pointer (some ⟨b, 0, none⟩), .int .i64 N] w fun e w' => e = .returned (.int .i64 (Tr.ndI L N)) ∧ Hid (Below w.heap.size w w') := by
  obtain ⟨p, c, rfl⟩ := h.lenn
  have HC : Hid (∀ y, Below w.heap.size w y → y.cell? ⟨b, 1, none⟩ = some (.slice p L.length c)) := fun y hy => (h.old hy).c1
  have c0 := HC.out w (Below.refl _ _)
  have HF1 : Hid (∀ i, i < L.length → (∀ j, j < i → (((L.getD j ⟨0, false, Pg.zr⟩).i : Nat) : Int) ≠ N) → (((L.getD i ⟨0, false, Pg.zr⟩).i : Nat) : Int) = N → Tr.ndI L N = (i : Int)) := fun i hi h1 h2 => by
    unfold Tr.ndI
    rw [Tr.find_step L (fun x => decide ((x.i : Int) = N)) i ⟨0, false, Pg.zr⟩ hi (fun j hj => decide_eq_false (h1 j hj)) (decide_eq_true h2)]
  have HF2 : Hid ((∀ j, j < L.length → (((L.getD j ⟨0, false, Pg.zr⟩).i : Nat) : Int) ≠ N) → Tr.ndI L N = -1) := fun h1 => by
    unfold Tr.ndI
    rw [Tr.find_none L (fun x => decide ((x.i : Int) = N)) ⟨0, false, Pg.zr⟩ (fun j hj => decide_eq_false (h1 j hj))]
  have HM : Hid (∀ y i, Below w.heap.size w y → i < L.length → ∃ q, p = some ⟨q, 0, none⟩ ∧ y.cell? ⟨q, i * 35, none⟩ = some (.int .i64 (((L.getD i ⟨0, false, Pg.zr⟩).i : Nat) : Int))) := fun y i hy hi => by
    obtain ⟨q, c', e, hr⟩ := (h.old hy).nn i hi
    injection e with e _ _
    exact ⟨q, e, hr 0 _ rfl⟩
  generalize Tr.ndI L N = r at *
  obtain ⟨n, hn⟩ : ∃ n, L.length = n := ⟨_, rfl⟩
  rw [hn] at HC c0 HF1 HF2 HM hl
  clear h hn
  go_enter Try.func56, Try.ntmps56
  go_wp2
  go_loopw [5] (fun v5 wr => ∃ i : Nat, i ≤ n ∧ v5 = .int .i64 i ∧ Hid (∀ j, j < i → (((L.getD j ⟨0, false, Pg.zr⟩).i : Nat) : Int) ≠ N) ∧ Hid (Below w.heap.size w wr)) (fun v5 _ => n - (intOf v5).toNat)
  case atStart => exact ⟨0, Nat.zero_le _, rfl, fun j hj => by omega, Below.refl _ _⟩
  case round =>
    obtain ⟨i, hi, rfl, HE, HB⟩ := hrel
    have d0 := HC.out _ HB.out
    by_cases hlt : i < n
    · obtain ⟨q, hp, d1⟩ := HM.out _ i HB.out hlt
      subst hp
      have hi0 : 0 ≤ (i : Int) := by omega
      have hi1 : (i : Int) < (n : Int) := by omega
      have HG := Lib.hid (HF1.out i hlt HE.out)
      have HE2 : Hid ((((L.getD i ⟨0, false, Pg.zr⟩).i : Nat) : Int) ≠ N → ∀ j, j < i + 1 → (((L.getD j ⟨0, false, Pg.zr⟩).i : Nat) : Int) ≠ N) := fun h j hj => by
        by_cases e : j = i
        · rw [e]; exact h
        · exact HE.out j (by omega)
      generalize (((L.getD i ⟨0, false, Pg.zr⟩).i : Nat) : Int) = x at *
      by_cases hx : x = N
      · have e := HG.out hx
        subst e
        subst hx
        go_wp2
        go_ret
        exact ⟨rfl, HB⟩
      · go_wp2
        exact ⟨⟨i + 1, by omega, by go_num, HE2.out hx, HB⟩, by simp [intOf]; omega⟩
    · have E : i = n := by omega
      have e := HF2.out (fun j hj => HE.out j (by omega))
      subst e
      subst E
      clear hlt
      go_wp2
      go_ret
      exact ⟨rfl, HB⟩
set_option maxHeartbeats 2000000 in
set_option maxRecDepth 100000 in
theorem mapped_any {K b : Nat} {vb vn : Value} {L : List Tr.Nn} {t : Tr.T} (w : World) (h : RT K w b vb vn L t) :
    Calls Try.prog 32 #[.pointer (some ⟨b, 0, none⟩)] w fun e w' => e = .returned (.int .i64 (Tr.mapped t : Int)) ∧ Hid (Below w.heap.size w w') := by
  obtain ⟨p, c, rfl⟩ := h.lenb
  have c0 := h.c0
  rw [Tr.bl_len] at c0
  clear h
  generalize Tr.mapped t = n at *
  go_enter Try.func32, Try.ntmps32
  go_wp2
  go_ret
  exact ⟨rfl, Below.refl _ _⟩
set_option maxHeartbeats 2000000 in
set_option maxRecDepth 100000 in
theorem leaf_any (k : Nat) (hk : k < 1000) (w : World) : Calls Try.prog 60 #[.int .i64 (k : Int)] w fun e w' => e = .returned (.int .i64 ((Tr.lf k : Nat) : Int)) ∧ Hid (Below w.heap.size w w') := by
  have hw1 : IntKind.i64.wrap ((k : Int).tdiv 8) = (k : Int) / 8 := IntWalk.i64_quo _ _ ⟨by omega, by omega, by omega⟩
  have hw2 : IntKind.i64.wrap ((k : Int) / 8 + 1) = ((Tr.lf k : Nat) : Int) := by
    unfold Tr.lf
    rw [IntWalk.i64_in _ ⟨by omega, by omega⟩]
    omega
  go_enter Try.func60, Try.ntmps60
  go_wp2
  go_ret
  exact ⟨rfl, Below.refl _ _⟩
end Go.Proofs.Ytfeemeddhhgigaa

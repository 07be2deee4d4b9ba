/-
  The reference's tree: contracts: Dirty.
-/
import Derived.Test.YtfeemeddhhgigaaTrY
namespace Go.Proofs.Ytfeemeddhhgigaa
open Go.RowKit

theorem Try.infoInt : (Try.prog.info? 3).map (fun i => (i.zero, i.size, i.bytes)) = some (some (.int .i64 0), 1, 8) := by kernel_rfl
def ixc (L : List Nat) : List Value := L.map fun (i : Nat) => .int .i64 (i : Int)
/-- Places, in a row of the call's own. -/
def IxO (B : Nat) (y : World) (v : Value) (L : List Nat) : Prop := y.ownsRow B 3 1 v L.length (ixc L)
theorem ixo_nil (B : Nat) (y : World) : IxO B y (.slice none 0 0) [] := World.ownsRow_nil _ _ _ _
theorem IxO.old {B : Nat} {w y : World} {v : Value} {L : List Nat} (h : IxO B w v L) (hb : Below w.heap.size w y) : IxO B y v L := own_keepX h hb
theorem IxO.only {B k : Nat} {w y : World} {v : Value} {L : List Nat} (h : IxO B w v L) (ho : Only k w y) (hk : v.ownBlock ≠ some k) : IxO B y v L := by
  refine ⟨h.1, ?_⟩
  rcases h.2 with h' | ⟨g, cap, cur, rfl, q0, q1, q2⟩
  · exact Or.inl h'
  · exact Or.inr ⟨g, cap, cur, rfl, q0, (ho.block g (lt_of_block q1) (fun e => hk (by rw [← e]; rfl))).trans q1, q2⟩
theorem IxO.len {B : Nat} {y : World} {v : Value} {L : List Nat} (h : IxO B y v L) : ∃ p c, v = .slice p L.length c := by
  rcases h.2 with ⟨h2, h3⟩ | ⟨g, cap, cur, h2, _⟩
  · exact ⟨none, 0, by rw [h2, h3]⟩
  · exact ⟨_, cap, h2⟩
theorem IxO.at_ {B : Nat} {y : World} {v : Value} {L : List Nat} (h : IxO B y v L) (j i : Nat) (hj : L[j]? = some i) : ∃ g c, v = .slice (some ⟨g, 0, none⟩) L.length c ∧ B ≤ g ∧ g < y.heap.size ∧ y.cell? ⟨g, j, none⟩ = some (.int .i64 (i : Int)) := by
  have hl := (List.getElem?_eq_some_iff.1 hj).1
  rcases h.2 with ⟨_, h3⟩ | ⟨g, cap, cur, h2, hb, hg, hn, hm, hs, ht⟩
  · omega
  · refine ⟨g, cap, h2, hb, lt_of_block hg, ?_⟩
    have e1 : (ixc L)[j]? = some (.int .i64 (i : Int)) := by unfold ixc; rw [List.getElem?_map, hj]; rfl
    rw [← ht, List.getElem?_take, if_pos (by omega)] at e1
    rw [cell_of_row y g _ _ _ _ hg]
    simpa using e1
theorem IxO.blk {B : Nat} {y : World} {v : Value} {L : List Nat} (h : IxO B y v L) {g : Nat} (hg : v.ownBlock = some g) : B ≤ g := (own_type h g hg).1
section
variable {ops : Array Oper} {rest : List Oper} {a : Act} {w : World} {Q : Exit → Act → World → Prop} {D : Option Tmp} {T : TypeId} {ps : String} {af : Array Edge}
theorem app_ix (s xo : Operand) (B : Nat) (v : Value) (L : List Nat) (i : Nat) (hs : a.eval s = v) (hx : a.eval xo = .slice (some ⟨w.heap.size, 0, none⟩) 1 1) (hO : IxO B w v L) (hl : L.length ≤ 10000) (hB : B ≤ w.heap.size)
    (h : ∀ v' w', Hid (IxO B w' v' (L ++ [i])) → Hid (Below B w w') → wpList Try.prog ops Q rest (a.put D v') w') :
    wpList Try.prog ops Q ({ dst := D, op := .call { callee := .builtin .append, args := #[s, xo], argTypes := #[49, 49] }, type := T, pos := ps, after := af, guard := none } :: rest) a (w.alloc (.cells #[.int .i64 (i : Int)] 3)) :=
  wpList_plain rfl fun R hR => by
    obtain ⟨i0, hi1, hz0, hz1, hz2⟩ := info_parts Try.infoInt
    refine wp_append_own _ s xo 49 rfl B 3 i0 (.int .i64 0) 1 8 Try.underlying49 hi1 hz0 hz1 hz2 rfl (by decide) v L.length (ixc L) hs (hO.alloc _) ⟨w.heap.size, 0, none⟩ 1 1 [.int .i64 (i : Int)] hx rfl
      (fun j u hu => ?_) (fun u hu => ?_) (by unfold maxLen; omega) (by omega) (by simp; omega) (fun v' w' ho hg _ => ?_)
    · match j, hu with
      | 0, hu => simp at hu; subst hu; simp [Addr.add]
    · simp at hu; subst hu; rfl
    · have e : ixc L ++ [.int .i64 (i : Int)] = ixc (L ++ [i]) := by unfold ixc; rw [List.map_append]; rfl
      rw [e] at ho
      refine hR _ _ (h v' w' ?_ (((Below.refl B w).alloc hB _).grown hg (by simp; omega) (fun j hj => (World.ownsRow.lt hO j hj).1)))
      show World.ownsRow _ _ _ _ _ _ _
      rw [List.length_append]
      exact ho
end
def Tr.fd (t : Tr.T) (j : Nat) : List Nat := if Tr.dty (t.n (j + 1)) then [j + 1] else []
theorem Tr.fd_len (t : Tr.T) : ∀ n, (Tr.flat (Tr.fd t) n).length ≤ n
  | 0 => Nat.le_refl _
  | n + 1 => by
    have := Tr.fd_len t n
    rw [Tr.flat_succ, List.length_append]
    unfold Tr.fd at this ⊢
    split <;> simp <;> omega
def DiSay (t : Tr.T) (w : World) (e : Ending) (w' : World) : Prop := ∃ v, e = .returned v ∧ Hid (IxO w.heap.size w' v (Tr.dirtyL t)) ∧ Hid (Below w.heap.size w w')
set_option maxHeartbeats 2000000 in
set_option maxRecDepth 100000 in
theorem rdirty_any {K b : Nat} {vb vn : Value} {L : List Tr.Nn} {t : Tr.T} (w : World) (h : RT K w b vb vn L t) (hl : L.length ≤ 1000) (h9 : ∀ i, 9 ≤ i → t.n i = none) :
    Calls Try.prog 31 #[.pointer (some ⟨b, 0, none⟩)] w (DiSay t w) := by
  have HD : Hid (∀ y (i : Nat), i < 9 → Below w.heap.size w y → Calls Try.prog 55 #[.pointer (some ⟨b, 0, none⟩), .int .i64 (i : Int)] y fun e w' => e = .returned (.bool (Tr.dty (t.n i))) ∧ Hid (Below y.heap.size y w')) := fun y i hi hy => by
    have q := dirty1_any (i : Int) y (h.old hy) hl h9
    rw [decide_eq_true (show Tr.inN (i : Int) by unfold Tr.inN; omega), Bool.true_and, Int.toNat_natCast] at q
    exact q
  have HD0 : Hid (∀ y, Below w.heap.size w y → Calls Try.prog 55 #[.pointer (some ⟨b, 0, none⟩), .int .i64 0] y fun e w' => e = .returned (.bool (Tr.dty (t.n 0))) ∧ Hid (Below y.heap.size y w')) := fun y hy => HD.out y 0 (by omega) hy
  clear h hl h9
  go_enter Try.func31, Try.ntmps31
  go_wp2
  go_loopw [3, 4] (fun v3 v4 wr => ∃ j : Nat, 1 ≤ j ∧ j ≤ 9 ∧ v4 = .int .i64 j ∧ Hid (IxO w.heap.size wr v3 (Tr.flat (Tr.fd t) (j - 1))) ∧ Hid (Below w.heap.size w wr)) (fun _ v4 _ => 9 - (intOf v4).toNat)
  case atStart => exact ⟨1, Nat.le_refl _, by omega, rfl, ixo_nil _ _, Below.refl _ _⟩
  case round =>
    obtain ⟨j, hj1, hj9, rfl, HO, HB⟩ := hrel
    have HL : Hid ((Tr.flat (Tr.fd t) (j - 1)).length ≤ 10000) := by have := Tr.fd_len t (j - 1); show _ ≤ _; omega
    by_cases hlt : j ≤ 8
    · have hi0 : 1 ≤ (j : Int) := by omega
      have hi1 : (j : Int) ≤ 8 := by omega
      have HDj := Lib.hid (HD.out wr j (by omega) HB.out)
      have HST : Hid (Tr.flat (Tr.fd t) (j + 1 - 1) = Tr.flat (Tr.fd t) (j - 1) ++ if Tr.dty (t.n j) then [j] else []) := by
        obtain ⟨m, rfl⟩ : ∃ m, j = m + 1 := ⟨j - 1, by omega⟩
        show Tr.flat (Tr.fd t) (m + 1) = Tr.flat (Tr.fd t) m ++ _
        rw [Tr.flat_succ]; rfl
      generalize Tr.dty (t.n j) = bb at *
      cases bb with
      | true =>
        go_wp2_with (first
          | (go_at_call 55; refine HDj.out.mono ?_; rintro e3 w3 ⟨rfl, hb3⟩; have B3 := Lib.hid (HB.out.trans (hb3.out.mono HB.out.size)))
          | (at_builtin; refine app_ix _ _ w.heap.size _ (Tr.flat (Tr.fd t) (j - 1)) j rfl rfl (HO.out.old hb3.out) HL.out B3.out.size ?_; intro v5' w5 O5 B5))
        exact ⟨⟨j + 1, by omega, by omega, by go_num, by rw [HST.out]; exact O5, B3.out.trans B5.out⟩, by simp [intOf]; omega⟩
      | false =>
        go_wp2_with (first
          | (go_at_call 55; refine HDj.out.mono ?_; rintro e3 w3 ⟨rfl, hb3⟩; have B3 := Lib.hid (HB.out.trans (hb3.out.mono HB.out.size))))
        exact ⟨⟨j + 1, by omega, by omega, by go_num, by rw [HST.out, if_neg Bool.false_ne_true, List.append_nil]; exact Lib.hid (HO.out.old hb3.out), B3⟩, by simp [intOf]; omega⟩
    · have E : j = 9 := by omega
      subst E
      have HDz := Lib.hid (HD0.out wr HB.out)
      have HE : Hid (Tr.dirtyL t = Tr.flat (Tr.fd t) 8 ++ if Tr.dty (t.n 0) then [0] else []) := rfl
      unfold DiSay
      generalize Tr.dty (t.n 0) = bb at *
      cases bb with
      | true =>
        go_wp2_with (first
          | (go_at_call 55; refine HDz.out.mono ?_; rintro e3 w3 ⟨rfl, hb3⟩; have B3 := Lib.hid (HB.out.trans (hb3.out.mono HB.out.size)))
          | (at_builtin; refine app_ix _ _ w.heap.size _ (Tr.flat (Tr.fd t) 8) 0 rfl rfl (HO.out.old hb3.out) HL.out B3.out.size ?_; intro v5' w5 O5 B5))
        go_ret
        exact ⟨_, rfl, Lib.hid (by rw [HE.out]; exact O5.out), Lib.hid (B3.out.trans B5.out)⟩
      | false =>
        go_wp2_with (first
          | (go_at_call 55; refine HDz.out.mono ?_; rintro e3 w3 ⟨rfl, hb3⟩; have B3 := Lib.hid (HB.out.trans (hb3.out.mono HB.out.size))))
        go_ret
        exact ⟨_, rfl, Lib.hid (by rw [HE.out, if_neg Bool.false_ne_true, List.append_nil]; exact HO.out.old hb3.out), B3⟩
end Go.Proofs.Ytfeemeddhhgigaa

/-
  The reference's lists in memory; without, put.
-/
import Derived.Test.YtglfjjmbadffmaaDkX1
namespace Go.Proofs.Ytglfjjmbadffmaa
open Go.RowKit

/-- The sectors l, one behind the other in a row from block B on, their bytes in blocks of U. -/
def Lst (B : Nat) (y : World) (U : Nat → Prop) (v : Value) (l : List Dk.S) : Prop :=
  ∃ xs, y.ownsRow B 69 2 v l.length xs ∧ ∀ (j : Nat) (x : Dk.S), l[j]? = some x → ∃ u, xs[j * 2]? = some (.int .i64 (x.1 : Nat)) ∧ xs[j * 2 + 1]? = some u ∧ Sec y U u x.2
section
variable {B : Nat} {y z : World} {U U' : Nat → Prop} {v : Value} {l : List Dk.S}
theorem lst_at0 (B : Nat) (y : World) (U : Nat → Prop) : Lst B y U (.slice none 0 0) [] := ⟨[], World.ownsRow_nil _ _ _ _, fun j x hx => by simp at hx⟩
theorem Lst.keep (h : Lst B y U v l) (ho : ∀ g, v.ownBlock = some g → z.heap[g]? = y.heap[g]?) (hk : ∀ (g : Nat) (cur : Array Value), U g → y.heap[g]? = some (.cells cur 5 (0, 0)) → z.heap[g]? = y.heap[g]?) : Lst B z U v l := by
  obtain ⟨xs, h1, h2⟩ := h
  exact ⟨xs, own_keepB h1 ho, fun j x hx => by
    obtain ⟨u, a, b, c⟩ := h2 j x hx
    exact ⟨u, a, b, c.keep hk⟩⟩
theorem Lst.lift (h : Lst B y U v l) (hU : ∀ g, U g → U' g) : Lst B y U' v l := by
  obtain ⟨xs, h1, h2⟩ := h
  exact ⟨xs, h1, fun j x hx => by
    obtain ⟨u, a, b, c⟩ := h2 j x hx
    exact ⟨u, a, b, c.lift hU⟩⟩
theorem Lst.type (h : Lst B y U v l) : ∀ g, v.ownBlock = some g → B ≤ g ∧ ∃ cur, y.heap[g]? = some (.cells cur 69 (0, 0)) := by
  obtain ⟨xs, h1, _⟩ := h
  exact own_type h1
theorem Lst.old (h : Lst B y U v l) (hb : Below y.heap.size y z) : Lst B z U v l :=
  h.keep (fun g hg => by obtain ⟨_, cur, h2⟩ := h.type g hg; exact hb.block _ (lt_of_block h2)) (fun g cur _ hc => hb.block _ (lt_of_block hc))
theorem Lst.low (h : Lst B y U v l) : Lst 0 y U v l := by
  obtain ⟨xs, h1, h2⟩ := h
  refine ⟨xs, ⟨h1.1, ?_⟩, h2⟩
  rcases h1.2 with h3 | ⟨g, cap, cur, h3, h4, h5⟩
  · exact Or.inl h3
  · exact Or.inr ⟨g, cap, cur, h3, Nat.zero_le _, h5⟩
theorem Lst.len (h : Lst B y U v l) : ∃ a cap, v = .slice a l.length cap ∧ (0 < l.length → ∃ gs, a = some ⟨gs, 0, none⟩) := by
  obtain ⟨xs, h1, _⟩ := h
  rcases h1.2 with ⟨h2, h3⟩ | ⟨g, cap, cur, h2, _⟩
  · exact ⟨none, 0, by rw [h2, h3], fun h0 => by omega⟩
  · exact ⟨_, cap, h2, fun _ => ⟨g, rfl⟩⟩
theorem Lst.at {gs n cap : Nat} (h : Lst B y U (.slice (some ⟨gs, 0, none⟩) n cap) l) {j : Nat} {x : Dk.S} (hx : l[j]? = some x) : ∃ u, y.cell? ⟨gs, j * 2, none⟩ = some (.int .i64 (x.1 : Nat)) ∧ y.cell? ⟨gs, j * 2 + 1, none⟩ = some u ∧ Sec y U u x.2 := by
  obtain ⟨xs, h1, h2⟩ := h
  obtain ⟨u, a, b, c⟩ := h2 j x hx
  have hj := (List.getElem?_eq_some_iff.1 hx).1
  rcases h1.2 with ⟨h6, _⟩ | ⟨g, cap', cur, h6, _, h7, _, _, _, h8⟩
  · cases h6
  · cases h6
    have key : ∀ i v, i < l.length * 2 → xs[i]? = some v → y.cell? ⟨gs, i, none⟩ = some v := fun i v hi hv => by
      rw [← h8, List.getElem?_take_of_lt hi] at hv
      rw [cell_of_row y gs i _ _ _ h7]
      simpa using hv
    exact ⟨u, key _ _ (by omega) a, key _ _ (by omega) b, c⟩
end
theorem Sec.old {w y : World} {T : Nat → Prop} {v : Value} {L : List Int} (h : Sec w T v L) (hb : Below w.heap.size w y) : Sec y T v L := h.keep (fun g cur _ hc => hb.block g (lt_of_block hc))
theorem cells_new (w : World) (a b : Value) (t : TypeId) : ∀ j v, [a, b][j]? = some v → (w.alloc (.cells #[a, b] t)).cell? ⟨w.heap.size, j, none⟩ = some v := fun j v h => by
  rw [cell_of_row _ _ j _ _ _ (heap_alloc_new w _)]
  simpa using h
theorem below_new (w : World) (o : Obj) : Below w.heap.size w (w.alloc o) := (Below.refl _ w).alloc (Nat.le_refl _) _
theorem Try.infoSector : (Try.prog.info? 69).map (fun i => (i.zero, i.size, i.bytes)) = some (some (.agg #[.int .i64 0, .slice none 0 0]), 2, 32) := by kernel_rfl
theorem Try.sizeSector : (Try.prog.info? 69).map (·.size) = some 2 := by kernel_rfl
/-- append of one sector. -/
theorem append_sec {ops : Array Oper} {rest : List Oper} {a : Act} {w : World} {Q : Exit → Act → World → Prop} {D : Option Tmp} {T : TypeId} {ps : String} {af : Array Edge} (s x : Operand) (B : Nat) (V : Value) (l : List Dk.S) (z : Dk.S) (U : Nat → Prop) (q : Nat) (u : Value)
    (hs : a.eval s = V) (hx : a.eval x = .slice (some ⟨q, 0, none⟩) 1 1) (ho : Lst B w U V l) (hc : ∀ j v, [Value.int .i64 (z.1 : Nat), u][j]? = some v → w.cell? ⟨q, j, none⟩ = some v) (hu : Sec w U u z.2) (hk : l.length ≤ 1000000) (hB : B ≤ w.heap.size)
    (h : ∀ v' w', Hid (Lst B w' U v' (l ++ [z])) → Hid (w.grownBy w' V.ownBlock) → wpList Try.prog ops Q rest (a.put D v') w') :
    wpList Try.prog ops Q ({ dst := D, op := .call { callee := .builtin .append, args := #[s, x], argTypes := #[55, 55] }, type := T, pos := ps, after := af, guard := none } :: rest) a w := by
  obtain ⟨i0, hi, hz0, hz1, hz2⟩ := info_parts Try.infoSector
  obtain ⟨xs, h1, h2⟩ := ho
  obtain ⟨p, cc, hue, _⟩ := hu.bs
  refine wpList_append_own_at _ rfl s x 55 rfl B 69 i0 (.agg #[.int .i64 0, .slice none 0 0]) 2 32 Try.underlying55 hi hz0 hz1 hz2 rfl (by decide) V l.length xs hs h1 ⟨q, 0, none⟩ 1 1 [.int .i64 (z.1 : Nat), u] hx rfl (fun j v hj => ?_) (fun v hv => ?_) (by unfold maxLen; omega) (by omega) hB ?_
  · have hq : ((⟨q, 0, none⟩ : Addr).add j) = ⟨q, j, none⟩ := by simp [Addr.add]; try omega
    rw [hq]
    exact hc j v hj
  · simp at hv
    rcases hv with rfl | rfl
    · rfl
    · rw [hue]; rfl
  · intro v' w' k1 k2 _ _
    have hne : ∀ (n : Nat) (t : Value) (ys : List Value), w.ownsRow 0 5 1 t n ys → ∀ g, t.ownBlock = some g → some g ≠ V.ownBlock := fun n t ys ht g hg e => by
      obtain ⟨_, cur, h5⟩ := own_type ht g hg
      obtain ⟨_, cur', h6⟩ := own_type h1 g e.symm
      rw [h5] at h6
      injection Option.some.inj h6 with _ h7 _
      exact absurd h7 (by decide)
    have hsec : ∀ (t : Value) (M : List Int), Sec w U t M → Sec w' U t M := fun t M ht => ⟨own_keepB ht.1 (fun g hg => k2.block g (by obtain ⟨_, cur, h5⟩ := own_type ht.1 g hg; exact lt_of_block h5) (hne _ _ _ ht.1 g hg)), ht.2.1, ht.2.2⟩
    have hxl : xs.length = l.length * 2 := h1.1
    refine h v' w' (Lib.hid ⟨_, by rw [List.length_append]; exact k1, fun j y hy => ?_⟩) (Lib.hid k2)
    by_cases hjk : j < l.length
    · rw [List.getElem?_append_left hjk] at hy
      obtain ⟨t, a1, a2, a3⟩ := h2 j y hy
      exact ⟨t, by rw [List.getElem?_append_left (by omega)]; exact a1, by rw [List.getElem?_append_left (by omega)]; exact a2, hsec _ _ a3⟩
    · have hjl := (List.getElem?_eq_some_iff.1 hy).1
      rw [List.length_append, List.length_singleton] at hjl
      obtain rfl : j = l.length := by omega
      rw [List.getElem?_append_right (Nat.le_refl _)] at hy
      simp at hy
      subst hy
      exact ⟨u, by rw [List.getElem?_append_right (by omega), hxl]; simp, by rw [List.getElem?_append_right (by omega), hxl, show l.length * 2 + 1 - l.length * 2 = 1 by omega]; rfl, hsec _ _ hu⟩
set_option maxHeartbeats 2000000 in
set_option maxRecDepth 100000 in
theorem without_any (l : List Dk.S) (i : Nat) (U : Nat → Prop) (v : Value) (w : World) (hl : Lst 0 w U v l) (hn : l.length ≤ 5000) : Calls Try.prog 48 #[v, .int .i64 (i : Int)] w fun e w' => ∃ v', e = .returned v' ∧ Hid (Lst w.heap.size w' U v' (Dk.del l i)) ∧ Below w.heap.size w w' := by
  obtain ⟨a, cap, rfl, ha⟩ := hl.len
  have HL := Lib.hid hl
  have HA := Lib.hid ha
  clear hl ha
  go_enter Try.func48, Try.ntmps48
  go_upto_region 3 with (fail)
  go_loopw [5, 6] (fun v5 v6 wr => ∃ k : Nat, k ≤ l.length ∧ v6 = .int .i64 k ∧ Hid (Lst w.heap.size wr U v5 (Dk.del (l.take k) i)) ∧ Hid (Below w.heap.size w wr)) (fun _ v6 _ => l.length - (intOf v6).toNat)
  case atStart => exact ⟨0, Nat.zero_le _, rfl, Lib.hid (lst_at0 _ _ _), Lib.hid (Below.refl _ _)⟩
  case round =>
    obtain ⟨k, hk, rfl, HO, HB⟩ := hrel
    by_cases hlt : k < l.length
    · obtain ⟨x, hx⟩ : ∃ x, l[k]? = some x := ⟨_, List.getElem?_eq_getElem hlt⟩
      obtain ⟨gs, rfl⟩ := HA.out (by omega)
      obtain ⟨u, c0, c1, hu⟩ := (HL.out.old HB.out).at hx
      have hk0 : (0 : Int) ≤ (k : Int) := by omega
      have hk1 : (k : Int) < (l.length : Int) := by omega
      have HT : Hid (Dk.del (l.take (k + 1)) i = if x.1 = i then Dk.del (l.take k) i else Dk.del (l.take k) i ++ [x]) := by
        show _ = _
        rw [List.take_add_one, hx]
        unfold Dk.del
        rw [List.filter_append]
        by_cases e : x.1 = i <;> simp [e]
      have HU := Lib.hid hu
      have HDL : Hid ((Dk.del (l.take k) i).length ≤ 5000) := by
        show _ ≤ _
        unfold Dk.del
        have := List.length_filter_le (fun x : Dk.S => decide (x.1 ≠ i)) (l.take k)
        rw [List.length_take] at this
        omega
      clear hx hu
      obtain ⟨p, c, hue, _⟩ := HU.out.bs
      by_cases e : x.1 = i
      · have hxi : (x.1 : Int) = (i : Int) := by omega
        rw [hxi] at c0
        go_wp2
        exact ⟨⟨k + 1, by omega, by go_num, by rw [HT.out, if_pos e]; exact HO, HB⟩, by simp [intOf]; omega⟩
      · have hxi : ((x.1 : Int) != (i : Int)) = true := by simp; omega
        subst hue
        go_upto_region 6 with (fail)
        go_wp2_with ((with_reducible refine append_sec _ _ w.heap.size _ (Dk.del (l.take k) i) x U _ (.slice p x.2.length c) ?_ ?_ (HO.out.old (below_new wr _)) (cells_new wr _ _ _) (HU.out.old (below_new wr _)) ?_ ?_ ?_); (exact rfl); (exact rfl); (have := HDL.out; omega); (have := HB.out.size; simp; omega); intro v7 w7 hL7 hg7; have HL7 := Lib.hid hL7.out; have HB7 : Hid (Below w.heap.size w w7) := (HB.out.trans ((below_new wr _).mono HB.out.size)).grown hg7.out (by have := HB.out.size; simp; omega) (fun g hg => (HO.out.type g hg).1); clear hL7 hg7)
        exact ⟨⟨k + 1, by omega, by go_num, by rw [HT.out, if_neg e]; exact HL7, HB7⟩, by simp [intOf]; omega⟩
    · go_wp2
      go_ret
      have e : l.take k = l := List.take_of_length_le (by omega)
      rw [e] at HO
      exact ⟨_, rfl, HO, HB.out⟩
end Go.Proofs.Ytglfjjmbadffmaa

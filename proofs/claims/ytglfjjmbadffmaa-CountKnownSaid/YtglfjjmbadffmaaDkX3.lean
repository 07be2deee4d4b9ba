/-
  The reference: put.
-/
import Derived.Test.YtglfjjmbadffmaaDkX2
namespace Go.Proofs.Ytglfjjmbadffmaa
open Go.RowKit

theorem Lst.sub {B B' : Nat} {y : World} {U : Nat → Prop} {v : Value} {l : List Dk.S} (h : Lst B y U v l) (hB : B' ≤ B) : Lst B' y U v l := by
  obtain ⟨xs, h1, h2⟩ := h
  refine ⟨xs, ⟨h1.1, ?_⟩, h2⟩
  rcases h1.2 with h3 | ⟨g, cap, cur, h3, h4, h5⟩
  · exact Or.inl h3
  · exact Or.inr ⟨g, cap, cur, h3, by omega, h5⟩
theorem Lst.grew {B : Nat} {x y z : World} {U : Nat → Prop} {v : Value} {l : List Dk.S} {o : Obj} (h : Lst B y U v l) (hb : Below B x y) (hB : B ≤ x.heap.size) (hg : (y.alloc o).grownBy z v.ownBlock) : Below B x z :=
  (hb.trans ((below_new y o).mono (Nat.le_trans hB hb.size))).grown hg (by have := hb.size; simp; omega) (fun g hg => (h.type g hg).1)
theorem Dk.del_len (l : List Dk.S) (i : Nat) : (Dk.del l i).length ≤ l.length := List.length_filter_le _ _
set_option maxHeartbeats 4000000 in
set_option maxRecDepth 100000 in
theorem refput_any (l : List Dk.S) (s : Dk.S) (U : Nat → Prop) (v : Value) (p : Option Addr) (c : Nat) (w : World) (hl : Lst 0 w U v l) (hs : Sec w U (.slice p s.2.length c) s.2) (hn : l.length ≤ 5000) : Calls Try.prog 43 #[v, .agg #[.int .i64 (s.1 : Nat), .slice p s.2.length c]] w fun e w' => ∃ v', e = .returned v' ∧ Hid (Lst w.heap.size w' U v' (Dk.ins l s)) ∧ Hid (Below w.heap.size w w') := by
  obtain ⟨w1, HX⟩ : ∃ w1 : World, Hid (w1 = w.alloc (.cells #[.int .i64 (s.1 : Nat), .slice p s.2.length c] 69)) := ⟨_, rfl⟩
  have B1 : Hid (Below w.heap.size w w1) := by show Below _ _ _; rw [HX.out]; exact below_new _ _
  have HC : Hid (∀ y, Below w1.heap.size w1 y → y.cell? ⟨w.heap.size, 0, none⟩ = some (.int .i64 (s.1 : Nat)) ∧ y.cell? ⟨w.heap.size, 1, none⟩ = some (.slice p s.2.length c)) := fun y hy => by
    have h := cells_new w (.int .i64 (s.1 : Nat)) (.slice p s.2.length c) 69
    rw [← HX.out] at h
    have h0 := h 0 _ rfl
    have h1 := h 1 _ rfl
    exact ⟨(hy.cell (World.block_lt_of_cell? _ _ h0)).trans h0, (hy.cell (World.block_lt_of_cell? _ _ h1)).trans h1⟩
  have HL := Lib.hid (hl.old B1.out)
  have HS := Lib.hid (hs.old B1.out)
  have HN := Lib.hid hn
  clear hl hs
  go_enter Try.func43, Try.ntmps43
  go_upto_region 1 with (fail)
  rw [← HX.out]
  obtain ⟨b0, b1⟩ := HC.out w1 (Below.refl _ _)
  go_upto_region 5 with (go_at_call 48; refine (without_any l s.1 U v w1 HL.out HN.out).mono ?_; rintro e2 w2 ⟨v2, rfl, hl2, hb2⟩; have HL2 := Lib.hid hl2.out; have B2 := Lib.hid hb2; clear hl2 hb2)
  clear b0 b1
  obtain ⟨l', hl'⟩ : ∃ l', Hid (Dk.del l s.1 = l') := ⟨_, rfl⟩
  rw [hl'.out] at HL2
  have HN' : Hid (l'.length ≤ 5000) := by show _ ≤ _; rw [← hl'.out]; exact Nat.le_trans (Dk.del_len _ _) HN.out
  obtain ⟨a2, cap2, rfl, ha2⟩ := HL2.out.len
  have HA2 := Lib.hid ha2
  have HS2 := Lib.hid (HS.out.old B2.out)
  have HL2' := Lib.hid HL2.out.low
  have HC2 : Hid (∀ y, Below w2.heap.size w2 y → y.cell? ⟨w.heap.size, 0, none⟩ = some (.int .i64 (s.1 : Nat)) ∧ y.cell? ⟨w.heap.size, 1, none⟩ = some (.slice p s.2.length c)) := fun y hy => HC.out y (B2.out.trans (hy.mono B2.out.size))
  clear ha2 HL2 HS HL HC
  go_loopw [5, 6, 7] (fun v5 v6 v7 wr => ∃ (k : Nat) (r : List Dk.S × Bool), k ≤ l'.length ∧ v7 = .int .i64 k ∧ v6 = .bool r.2 ∧ Hid (r = (l'.take k).foldl (Dk.stp s) ([], false)) ∧ Hid (r.1.length ≤ 2 * k) ∧ Hid (Lst w2.heap.size wr U v5 r.1) ∧ Hid (Below w2.heap.size w2 wr)) (fun _ _ v7 _ => l'.length - (intOf v7).toNat)
  case atStart => exact ⟨0, ([], false), Nat.zero_le _, rfl, rfl, Lib.hid rfl, Lib.hid (Nat.le_refl _), Lib.hid (lst_at0 _ _ _), Lib.hid (Below.refl _ _)⟩
  case round =>
    obtain ⟨k, r, hk, rfl, rfl, HR, HRL, HO, HB⟩ := hrel
    by_cases hlt : k < l'.length
    · obtain ⟨x, hx⟩ : ∃ x, l'[k]? = some x := ⟨_, List.getElem?_eq_getElem hlt⟩
      obtain ⟨gs, rfl⟩ := HA2.out (by omega)
      have HT : Hid ((l'.take (k + 1)).foldl (Dk.stp s) ([], false) = Dk.stp s r x) := by
        show _ = _
        rw [List.take_add_one, hx, List.foldl_append, ← HR.out]
        rfl
      have hl5 := HN'.out
      have hk0 : (0 : Int) ≤ (k : Int) := by omega
      have hk1 : (k : Int) < (l'.length : Int) := by omega
      have HE : Hid (∃ u cu, ∀ y, Below w2.heap.size w2 y → y.cell? ⟨gs, k * 2, none⟩ = some (.int .i64 (x.1 : Nat)) ∧ y.cell? ⟨gs, k * 2 + 1, none⟩ = some (.slice u x.2.length cu) ∧ Sec y U (.slice u x.2.length cu) x.2) := by
        obtain ⟨u, c0, c1, hu⟩ := HL2'.out.at hx
        obtain ⟨q, cq, rfl, _⟩ := hu.bs
        exact ⟨q, cq, fun y hy => ⟨(hy.cell (World.block_lt_of_cell? _ _ c0)).trans c0, (hy.cell (World.block_lt_of_cell? _ _ c1)).trans c1, hu.old hy⟩⟩
      obtain ⟨u, cu, HE⟩ := HE.out
      have HE := Lib.hid HE
      have HK : Hid (r.1.length ≤ 10000) := by show _ ≤ _; have := HRL.out; have := HN'.out; omega
      obtain ⟨c0, c1, _⟩ := HE.out _ HB.out
      obtain ⟨b0, b1⟩ := HC2.out _ HB.out
      clear hx
      cases hr : r.2 with
      | true =>
        have HT2 : Hid (Dk.stp s r x = (r.1 ++ [x], true)) := by show _ = _; unfold Dk.stp; rw [hr, if_neg (by simp)]
        as_aux_lemma =>
        go_upto_region 7 with (fail)
        go_quiet (fail)
        obtain ⟨y0, HY0⟩ : ∃ y, Hid (wr.drewN nq = y) := ⟨_, rfl⟩
        have HO0 := Lib.hid (HO.out.old (below_dn (Below.refl _ wr) nq))
        have HB0 : Hid (Below w2.heap.size w2 y0) := by show Below _ _ _; rw [← HY0.out]; exact below_dn HB.out nq
        rw [HY0.out] at HO0 ⊢
        clear HY0 HO HB c0 c1 b0 b1
        obtain ⟨c0, c1, _⟩ := HE.out _ HB0.out
        obtain ⟨b0, b1⟩ := HC2.out _ HB0.out
        go_wp2_with ((with_reducible refine append_sec _ _ w2.heap.size _ r.1 x U _ (.slice u x.2.length cu) ?_ ?_ (HO0.out.old (below_new y0 _)) (cells_new y0 _ _ _) (((HE.out _ HB0.out).2.2).old (below_new y0 _)) ?_ ?_ ?_); (exact rfl); (exact rfl); (have := HK.out; simp; omega); (have := HB0.out.size; simp; omega); intro v7 w7 hL7 hg7; have HL7 := Lib.hid hL7.out; have HB7 : Hid (Below w2.heap.size w2 w7) := HO0.out.grew HB0.out (Nat.le_refl _) hg7.out; clear hL7 hg7)
        exact ⟨⟨k + 1, (r.1 ++ [x], true), by omega, by go_num, rfl, Lib.hid (HT.out.trans HT2.out).symm, Lib.hid (by have := HRL.out; simp; omega), HL7, HB7⟩, by simp [intOf]; omega⟩
      | false =>
        by_cases hsx : s.1 < x.1
        · have HT2 : Hid (Dk.stp s r x = (r.1 ++ [s] ++ [x], true)) := by show _ = _; unfold Dk.stp; rw [if_pos ⟨hr, hsx⟩]
          have hsi : (s.1 : Int) < (x.1 : Int) := by omega
          as_aux_lemma =>
          go_upto_region 7 with (fail)
          go_quiet (fail)
          obtain ⟨y0, HY0⟩ : ∃ y, Hid (wr.drewN nq = y) := ⟨_, rfl⟩
          have HO0 := Lib.hid (HO.out.old (below_dn (Below.refl _ wr) nq))
          have HB0 : Hid (Below w2.heap.size w2 y0) := by show Below _ _ _; rw [← HY0.out]; exact below_dn HB.out nq
          rw [HY0.out] at HO0 ⊢
          clear HY0 HO HB c0 c1 b0 b1
          obtain ⟨c0, c1, _⟩ := HE.out _ HB0.out
          obtain ⟨b0, b1⟩ := HC2.out _ HB0.out
          go_wp2_with (first
            | ((with_reducible refine append_sec _ _ w2.heap.size _ (r.1 ++ [s]) x U _ (.slice u x.2.length cu) ?_ ?_ (HL7.out.old (below_new w7 _)) (cells_new w7 _ _ _) (((HE.out _ HB7.out).2.2).old (below_new w7 _)) ?_ ?_ ?_); (exact rfl); (exact rfl); (have := HK.out; simp; omega); (have := HB7.out.size; simp; omega); intro v8 w8 hL8 hg8; have HL8 := Lib.hid hL8.out; have HB8 : Hid (Below w2.heap.size w2 w8) := HL7.out.grew HB7.out (Nat.le_refl _) hg8.out; clear hL8 hg8)
            | ((with_reducible refine append_sec _ _ w2.heap.size _ r.1 s U _ (.slice p s.2.length c) ?_ ?_ (HO0.out.old (below_new y0 _)) (cells_new y0 _ _ _) ((HS2.out.old HB0.out).old (below_new y0 _)) ?_ ?_ ?_); (exact rfl); (exact rfl); (have := HK.out; simp; omega); (have := HB0.out.size; simp; omega); intro v7 w7 hL7 hg7; have HL7 := Lib.hid hL7.out; have HB7 : Hid (Below w2.heap.size w2 w7) := HO0.out.grew HB0.out (Nat.le_refl _) hg7.out; clear hL7 hg7; obtain ⟨e0, e1, _⟩ := HE.out _ HB7.out))
          exact ⟨⟨k + 1, (r.1 ++ [s] ++ [x], true), by omega, by go_num, rfl, Lib.hid (HT.out.trans HT2.out).symm, Lib.hid (by have := HRL.out; simp; omega), HL8, HB8⟩, by simp [intOf]; omega⟩
        · have HT2 : Hid (Dk.stp s r x = (r.1 ++ [x], false)) := by show _ = _; unfold Dk.stp; rw [if_neg (fun h => hsx h.2), hr]
          have hsi : (x.1 : Int) ≤ (s.1 : Int) := by omega
          as_aux_lemma =>
          go_upto_region 7 with (fail)
          go_quiet (fail)
          obtain ⟨y0, HY0⟩ : ∃ y, Hid (wr.drewN nq = y) := ⟨_, rfl⟩
          have HO0 := Lib.hid (HO.out.old (below_dn (Below.refl _ wr) nq))
          have HB0 : Hid (Below w2.heap.size w2 y0) := by show Below _ _ _; rw [← HY0.out]; exact below_dn HB.out nq
          rw [HY0.out] at HO0 ⊢
          clear HY0 HO HB c0 c1 b0 b1
          obtain ⟨c0, c1, _⟩ := HE.out _ HB0.out
          obtain ⟨b0, b1⟩ := HC2.out _ HB0.out
          go_wp2_with ((with_reducible refine append_sec _ _ w2.heap.size _ r.1 x U _ (.slice u x.2.length cu) ?_ ?_ (HO0.out.old (below_new y0 _)) (cells_new y0 _ _ _) (((HE.out _ HB0.out).2.2).old (below_new y0 _)) ?_ ?_ ?_); (exact rfl); (exact rfl); (have := HK.out; simp; omega); (have := HB0.out.size; simp; omega); intro v7 w7 hL7 hg7; have HL7 := Lib.hid hL7.out; have HB7 : Hid (Below w2.heap.size w2 w7) := HO0.out.grew HB0.out (Nat.le_refl _) hg7.out; clear hL7 hg7)
          exact ⟨⟨k + 1, (r.1 ++ [x], false), by omega, by go_num, rfl, Lib.hid (HT.out.trans HT2.out).symm, Lib.hid (by have := HRL.out; simp; omega), HL7, HB7⟩, by simp [intOf]; omega⟩
    · have e : l'.take k = l' := List.take_of_length_le (by omega)
      rw [e] at HR
      have HK : Hid (r.1.length ≤ 10000) := by show _ ≤ _; have := HRL.out; have := HN'.out; omega
      have HI : Hid (Dk.ins l s = if r.2 then r.1 else r.1 ++ [s]) := by
        show _ = _
        unfold Dk.ins
        rw [hl'.out, ← HR.out]
      obtain ⟨b0, b1⟩ := HC2.out _ HB.out
      have HW := Lib.hid (Nat.le_trans B1.out.size B2.out.size)
      have HBW : Hid (∀ z, Below w2.heap.size w2 z → Below w.heap.size w z) := fun z hz => (B1.out.trans (B2.out.mono B1.out.size)).trans (hz.mono (Nat.le_trans B1.out.size B2.out.size))
      cases hr : r.2 with
      | true =>
        as_aux_lemma =>
        go_wp2
        go_ret
        refine ⟨_, rfl, Lib.hid ?_, Lib.hid (HBW.out _ HB.out)⟩
        rw [HI.out, hr, if_pos rfl]
        exact HO.out.sub HW.out
      | false =>
        as_aux_lemma =>
        go_wp2_with ((with_reducible refine append_sec _ _ w2.heap.size _ r.1 s U _ (.slice p s.2.length c) ?_ ?_ (HO.out.old (below_new wr _)) (cells_new wr _ _ _) ((HS2.out.old HB.out).old (below_new wr _)) ?_ ?_ ?_); (exact rfl); (exact rfl); (have := HK.out; simp; omega); (have := HB.out.size; simp; omega); intro v7 w7 hL7 hg7; have HL7 := Lib.hid hL7.out; have HB7 : Hid (Below w2.heap.size w2 w7) := HO.out.grew HB.out (Nat.le_refl _) hg7.out; clear hL7 hg7)
        go_ret
        refine ⟨_, rfl, Lib.hid ?_, Lib.hid (HBW.out _ HB7.out)⟩
        rw [HI.out, hr, if_neg (by decide)]
        exact HL7.out.sub HW.out
end Go.Proofs.Ytglfjjmbadffmaa

/-
  Package usage: contracts: those, Open, Count, New, Segs.
-/
import Derived.Test.YtnnalemboeccbaaUsC
namespace Go.Proofs.Ytnnalemboeccbaa
open Go.RowKit

theorem Try.infoInt : (Try.prog.info? 3).map (fun i => (i.zero, i.size, i.bytes)) = some (some (.int .i64 0), 1, 8) := by kernel_rfl
def ixc (L : List Nat) : List Value := L.map fun (i : Nat) => .int .i64 (i : Int)
/-- Places, in a row of the call's own. -/
def IxO (B : Nat) (y : World) (v : Value) (L : List Nat) : Prop := y.ownsRow B 3 1 v L.length (ixc L)
theorem ixo_nil (B : Nat) (y : World) : IxO B y (.slice none 0 0) [] := World.ownsRow_nil _ _ _ _
theorem IxO.old {B : Nat} {w y : World} {v : Value} {L : List Nat} (h : IxO B w v L) (hb : Below w.heap.size w y) : IxO B y v L := own_keepX h hb
theorem IxO.only {B k : Nat} {w y : World} {v : Value} {L : List Nat} (h : IxO B w v L) (ho : Only k w y) (hk : v.ownBlock ≠ some k) : IxO B y v L := by
  refine ⟨h.1, ?_⟩
  rcases h.2 with h' | ⟨g, cap, cur, rfl, q0, q1, q2⟩
  · exact Or.inl h'
  · exact Or.inr ⟨g, cap, cur, rfl, q0, (ho.block g (lt_of_block q1) (fun e => hk (by rw [← e]; rfl))).trans q1, q2⟩
theorem IxO.len {B : Nat} {y : World} {v : Value} {L : List Nat} (h : IxO B y v L) : ∃ p c, v = .slice p L.length c := by
  rcases h.2 with ⟨h2, h3⟩ | ⟨g, cap, cur, h2, _⟩
  · exact ⟨none, 0, by rw [h2, h3]⟩
  · exact ⟨_, cap, h2⟩
theorem IxO.at_ {B : Nat} {y : World} {v : Value} {L : List Nat} (h : IxO B y v L) (j i : Nat) (hj : L[j]? = some i) : ∃ g c, v = .slice (some ⟨g, 0, none⟩) L.length c ∧ B ≤ g ∧ g < y.heap.size ∧ y.cell? ⟨g, j, none⟩ = some (.int .i64 (i : Int)) := by
  have hl := (List.getElem?_eq_some_iff.1 hj).1
  rcases h.2 with ⟨_, h3⟩ | ⟨g, cap, cur, h2, hb, hg, hn, hm, hs, ht⟩
  · omega
  · refine ⟨g, cap, h2, hb, lt_of_block hg, ?_⟩
    have e1 : (ixc L)[j]? = some (.int .i64 (i : Int)) := by unfold ixc; rw [List.getElem?_map, hj]; rfl
    rw [← ht, List.getElem?_take, if_pos (by omega)] at e1
    rw [cell_of_row y g _ _ _ _ hg]
    simpa using e1
theorem IxO.blk {B : Nat} {y : World} {v : Value} {L : List Nat} (h : IxO B y v L) {g : Nat} (hg : v.ownBlock = some g) : B ≤ g := (own_type h g hg).1
section
variable {ops : Array Oper} {rest : List Oper} {a : Act} {w : World} {Q : Exit → Act → World → Prop} {D : Option Tmp} {T : TypeId} {ps : String} {af : Array Edge}
theorem app_ix (s xo : Operand) (B : Nat) (v : Value) (L : List Nat) (i : Nat) (hs : a.eval s = v) (hx : a.eval xo = .slice (some ⟨w.heap.size, 0, none⟩) 1 1) (hO : IxO B w v L) (hl : L.length ≤ 10000) (hB : B ≤ w.heap.size)
    (h : ∀ v' w', Hid (IxO B w' v' (L ++ [i])) → Hid (Below B w w') → wpList Try.prog ops Q rest (a.put D v') w') :
    wpList Try.prog ops Q ({ dst := D, op := .call { callee := .builtin .append, args := #[s, xo], argTypes := #[42, 42] }, type := T, pos := ps, after := af, guard := none } :: rest) a (w.alloc (.cells #[.int .i64 (i : Int)] 3)) :=
  wpList_plain rfl fun R hR => by
    obtain ⟨i0, hi1, hz0, hz1, hz2⟩ := info_parts Try.infoInt
    refine wp_append_own _ s xo 42 rfl B 3 i0 (.int .i64 0) 1 8 Try.underlying42 hi1 hz0 hz1 hz2 rfl (by decide) v L.length (ixc L) hs (hO.alloc _) ⟨w.heap.size, 0, none⟩ 1 1 [.int .i64 (i : Int)] hx rfl
      (fun j u hu => ?_) (fun u hu => ?_) (by unfold maxLen; omega) (by omega) (by simp; omega) (fun v' w' ho hg _ => ?_)
    · match j, hu with
      | 0, hu => simp at hu; subst hu; simp [Addr.add]
    · simp at hu; subst hu; rfl
    · have e : ixc L ++ [.int .i64 (i : Int)] = ixc (L ++ [i]) := by unfold ixc; rw [List.map_append]; rfl
      rw [e] at ho
      refine hR _ _ (h v' w' ?_ (((Below.refl B w).alloc hB _).grown hg (by simp; omega) (fun j hj => (World.ownsRow.lt hO j hj).1)))
      show World.ownsRow _ _ _ _ _ _ _
      rw [List.length_append]
      exact ho
end
/-- The places that are so. -/
def ThoseSay (k : Int) (T : List Us.S) (w : World) (e : Ending) (w' : World) : Prop :=
  ∃ v, e = .returned v ∧ Hid (IxO w.heap.size w' v (Us.ix k T)) ∧ Hid (Below w.heap.size w w')
set_option maxHeartbeats 2000000 in
set_option maxRecDepth 100000 in
theorem those_any {B b : Nat} {v : Value} {T : List Us.S} (k : Int) (w : World) (h : TAt 50 B w b v T) (hl : T.length ≤ 32) :
    Calls Try.prog 33 #[.pointer (some ⟨b, 0, none⟩), .func (.func 34) #[.int .i64 k] #[]] w (ThoseSay k T w) := by
  obtain ⟨p, c, rfl⟩ := h.own.len
  have hc := h.cell
  have HT : Hid (∀ y, Below w.heap.size w y → SgO B y (.slice p T.length c) T) := fun y hy => h.own.old hy
  have HIS : Hid (∀ x y, Calls Try.prog 34 #[.int .i64 k, .agg (SgA x)] y (BoSay (decide (x.s = k)) y)) := fun x y => is_any k x y
  clear h
  obtain ⟨n, hn⟩ : ∃ n, T.length = n := ⟨_, rfl⟩
  rw [hn] at hl HT hc
  have HN := Lib.hid hn
  clear hn
  go_enter Try.func33, Try.ntmps33
  go_wp2
  go_loopw [5, 6, 7, 13] (fun v5 _ _ v13 wr => ∃ i : Nat, i ≤ n ∧ v13 = .int .i64 i ∧ Hid (IxO w.heap.size wr v5 (Us.ixn k T i)) ∧ Hid (Below w.heap.size w wr)) (fun _ _ _ v13 _ => n - (intOf v13).toNat)
  case atStart => exact ⟨0, Nat.zero_le _, rfl, ixo_nil _ _, Below.refl _ _⟩
  case round =>
    obtain ⟨i, hi, rfl, HO, HB⟩ := hrel
    by_cases hlt : i < n
    · obtain ⟨g, c', hv⟩ := (HT.out _ HB.out).isb i (by rw [HN.out]; exact hlt)
      rw [HN.out] at hv
      injection hv with h1 h2 h3
      subst h1; subst h3
      have HR : Hid (wr.rangeAt g (i * 3) (SgA (Us.at_ T i)).toList) := (HT.out _ HB.out).rng i (by rw [HN.out]; exact hlt)
      have HL : Hid ((Us.ixn k T i).length ≤ 10000) := by have := Us.ixn_le k T i; show _ ≤ _; omega
      have hi0 : 0 ≤ (i : Int) := by omega
      have hi1 : (i : Int) < (n : Int) := by omega
      have HIX := Lib.hid (HIS.out (Us.at_ T i))
      have HYES : Hid ((Us.at_ T i).s = k → Us.ixn k T (i + 1) = Us.ixn k T i ++ [i]) := Us.ixn_yes
      have HNO : Hid ((Us.at_ T i).s ≠ k → Us.ixn k T (i + 1) = Us.ixn k T i) := Us.ixn_no
      obtain ⟨bb, hbb⟩ : ∃ bb, decide ((Us.at_ T i).s = k) = bb := ⟨_, rfl⟩
      rw [hbb] at HIX
      have HBB := Lib.hid hbb
      clear hbb
      generalize Us.at_ T i = x at *
      cases bb with
      | true =>
        go_wp2_with (first
          | ((with_reducible refine rng_load _ _ _ _ _ _ ?_ HR.out Try.underlying30 ?_ (sg_info x) ?_); (exact rfl); (exact rfl))
          | ((with_reducible refine row_store _ _ _ _ _ _ _ ?_ ?_ (heap_alloc_new _ _) (sg_info x) ?_ (sga_one x) ?_); (exact rfl); (exact rfl); (exact rfl); intro w2 G2 ch2; have B2 := Lib.hid (ch2.below ((HB.out).alloc HB.out.size _) HB.out.size))
          | ((with_reducible refine row_load _ _ _ _ _ _ _ ?_ G2.out Try.underlying30 ?_ (sg_info x) ?_); (exact rfl); (exact rfl))
          | (go_at_call 34; refine (HIX.out _).mono ?_; rintro e3 w3 ⟨rfl, hb3⟩; have B3 := Lib.hid (B2.out.trans (hb3.mono B2.out.size)))
          | (at_builtin; have O3 : IxO w.heap.size w3 u5 (Us.ixn k T i) := (((HO.out.old ((Below.refl _ wr).alloc (Nat.le_refl _) _)).only ch2.only (fun q => by have := (own_type HO.out _ q).2; obtain ⟨cur, hc⟩ := this; have := lt_of_block hc; omega)).old hb3); refine app_ix _ _ w.heap.size _ (Us.ixn k T i) i rfl rfl O3 HL.out B3.out.size ?_; intro v5' w5 O5 B5))
        exact ⟨⟨i + 1, by omega, by go_num, by rw [HYES.out (of_decide_eq_true HBB.out)]; exact O5.out, B3.out.trans B5.out⟩, by simp [intOf]; omega⟩
      | false =>
        go_wp2_with (first
          | ((with_reducible refine rng_load _ _ _ _ _ _ ?_ HR.out Try.underlying30 ?_ (sg_info x) ?_); (exact rfl); (exact rfl))
          | ((with_reducible refine row_store _ _ _ _ _ _ _ ?_ ?_ (heap_alloc_new _ _) (sg_info x) ?_ (sga_one x) ?_); (exact rfl); (exact rfl); (exact rfl); intro w2 G2 ch2; have B2 := Lib.hid (ch2.below ((HB.out).alloc HB.out.size _) HB.out.size))
          | ((with_reducible refine row_load _ _ _ _ _ _ _ ?_ G2.out Try.underlying30 ?_ (sg_info x) ?_); (exact rfl); (exact rfl))
          | (go_at_call 34; refine (HIX.out _).mono ?_; rintro e3 w3 ⟨rfl, hb3⟩; have B3 := Lib.hid (B2.out.trans (hb3.mono B2.out.size))))
        exact ⟨⟨i + 1, by omega, by go_num, by rw [HNO.out (of_decide_eq_false HBB.out)]; exact (((HO.out.old ((Below.refl _ wr).alloc (Nat.le_refl _) _)).only ch2.only (fun q => by have := (own_type HO.out _ q).2; obtain ⟨cur, hc⟩ := this; have := lt_of_block hc; omega)).old hb3), B3.out⟩, by simp [intOf]; omega⟩
    · have E : i = n := by omega
      have HO2 : Hid (IxO w.heap.size wr u5 (Us.ix k T)) := by
        have := HO.out
        rw [E, ← HN.out] at this
        exact this
      have hge : n ≤ i := by omega
      clear hlt HO E
      go_wp2
      go_ret
      exact ⟨_, rfl, HO2, HB⟩
set_option maxHeartbeats 1000000 in
set_option maxRecDepth 100000 in
theorem count_any {B b : Nat} {v : Value} {T : List Us.S} (k : Int) (w : World) (h : TAt 50 B w b v T) (hl : T.length ≤ 32) :
    Calls Try.prog 18 #[.pointer (some ⟨b, 0, none⟩), .int .i64 k] w (NuSay ((Us.ix k T).length : Int) w) := by
  have H1 := Lib.hid (those_any k w h hl)
  clear h
  go_enter Try.func18, Try.ntmps18
  go_wp2_with (go_at_call 33; refine H1.out.mono ?_; rintro e1 w1 ⟨v1, rfl, O1, B1⟩; obtain ⟨p1, c1, rfl⟩ := O1.out.len)
  go_ret
  exact ⟨rfl, B1.out⟩
set_option maxHeartbeats 1000000 in
set_option maxRecDepth 100000 in
theorem open_any {B b : Nat} {v : Value} {T : List Us.S} (w : World) (h : TAt 50 B w b v T) (hl : T.length ≤ 32) :
    Calls Try.prog 12 #[.pointer (some ⟨b, 0, none⟩)] w (NuSay (Us.open_ T) w) := by
  have H1 := Lib.hid (those_any 1 w h hl)
  clear h
  cases hf : Us.fx 1 T with
  | none =>
    have e : Us.open_ T = -1 := by unfold Us.open_; rw [hf]
    have hx := Us.fx_nil hf
    rw [e]
    unfold ThoseSay at H1
    rw [hx] at H1
    go_enter Try.func12, Try.ntmps12
    go_wp2_with (go_at_call 33; refine H1.out.mono ?_; rintro e1 w1 ⟨v1, rfl, O1, B1⟩; obtain ⟨p1, c1, hv1⟩ := O1.out.len; obtain rfl : v1 = .slice p1 0 c1 := hv1)
    go_ret
    exact ⟨rfl, B1.out⟩
  | some i =>
    have e : Us.open_ T = i := by unfold Us.open_; rw [hf]
    obtain ⟨r, hx⟩ := Us.fx_cons hf
    rw [e]
    unfold ThoseSay at H1
    rw [hx] at H1
    go_enter Try.func12, Try.ntmps12
    go_wp2_with (go_at_call 33; refine H1.out.mono ?_; rintro e1 w1 ⟨v1, rfl, O1, B1⟩; obtain ⟨g1, c1, hv1, _, _, hc1⟩ := O1.out.at_ 0 i rfl; obtain rfl : v1 = .slice (some ⟨g1, 0, none⟩) (r.length + 1) c1 := hv1)
    go_ret
    exact ⟨rfl, B1.out⟩
end Go.Proofs.Ytnnalemboeccbaa

/-
  A table that a law plays with; calls as data; contracts: SameSegs, does, works.
-/
import Derived.Test.YtnnalemboeccbaaUsH
namespace Go.Proofs.Ytnnalemboeccbaa
open Go.RowKit

namespace Us
/-- A call: its kind, segment, number, now, row. -/
structure O where
  k : Int
  g : Int
  n : Int
  w : Int
  x : S
noncomputable def dE (T : List S) (o : O) : Int :=
  if o.k = 0 then setE T o.g o.x else if o.k = 1 then (if takeB T then 0 else 9) else if o.k = 2 then addE T o.g o.n else if o.k = 3 then pendE T o.g else 0
noncomputable def dT (T : List S) (o : O) : List S :=
  if o.k = 0 then setT T o.g o.x else if o.k = 1 then takeT T o.w else if o.k = 2 then addT T o.g o.n o.w else if o.k = 3 then pendT T o.g else if o.k = 4 then relT T else T
theorem set_len (T : List S) (i : Int) (x : S) : (setT T i x).length = T.length := by
  unfold setT
  split
  · rw [List.length_set]
  · rfl
theorem add_len (T : List S) (i n w : Int) : (addT T i n w).length = T.length := by
  unfold addT
  split
  · rw [List.length_set]
  · rfl
theorem pend_len (T : List S) (i : Int) : (pendT T i).length = T.length := by
  unfold pendT
  split
  · rw [List.length_set]
  · rfl
theorem dT_len (T : List S) (o : O) : (dT T o).length = T.length := by
  unfold dT
  split
  · exact set_len _ _ _
  · split
    · exact take_len _ _
    · split
      · exact add_len _ _ _ _
      · split
        · exact pend_len _ _
        · split
          · exact rel_len _
          · rfl
theorem Inv.does {T : List S} (h : Inv T) (o : O) : Inv (dT T o) := by
  unfold dT
  split
  · exact h.set _ _
  · split
    · exact h.take _
    · split
      · exact h.add _ _ _
      · split
        · exact h.pend _
        · split
          · exact h.rel
          · exact h
/-- What is refused changes nothing. -/
theorem dT_same {T : List S} {o : O} (h : dE T o ≠ 0) : dT T o = T := by
  unfold dE at h
  unfold dT
  split
  · rename_i e
    rw [if_pos e] at h
    unfold setT
    rw [if_neg h]
  · rename_i e
    rw [if_neg e] at h
    split
    · rename_i e
      rw [if_pos e] at h
      unfold takeB at h
      unfold takeT
      cases q : fx 0 T with
      | none => rfl
      | some i => rw [q] at h; exact absurd rfl h
    · rename_i e
      rw [if_neg e] at h
      split
      · rename_i e
        rw [if_pos e] at h
        unfold addE at h
        unfold addT
        by_cases q : mayAdd T o.g o.n
        · rw [if_pos q] at h; exact absurd rfl h
        · rw [if_neg q]
      · rename_i e
        rw [if_neg e] at h
        split
        · rename_i e
          rw [if_pos e] at h
          unfold pendT
          rw [if_neg h]
        · rename_i e
          rw [if_neg e] at h
          exact absurd rfl h
theorem kind_of (K : Int) : K = 0 ∨ K = 1 ∨ K = 2 ∨ K = 3 ∨ K = 4 ∨ ((K == 0) = false ∧ (K == 1) = false ∧ (K == 2) = false ∧ (K == 3) = false ∧ (K == 4) = false) := by
  by_cases h0 : K = 0
  · exact Or.inl h0
  by_cases h1 : K = 1
  · exact Or.inr (Or.inl h1)
  by_cases h2 : K = 2
  · exact Or.inr (Or.inr (Or.inl h2))
  by_cases h3 : K = 3
  · exact Or.inr (Or.inr (Or.inr (Or.inl h3)))
  by_cases h4 : K = 4
  · exact Or.inr (Or.inr (Or.inr (Or.inr (Or.inl h4))))
  exact Or.inr (Or.inr (Or.inr (Or.inr (Or.inr (by simp [h0, h1, h2, h3, h4])))))
end Us
/-- A table of the program that a law plays with. -/
structure Tp (x y : World) (b : Nat) (v : Value) (T : List Us.S) : Prop where
  at_ : TAt 50 x.heap.size y b v T
  inv : Us.Inv T
  old : Below x.heap.size x y
def TpSay (x : World) (b : Nat) (v : Value) (T' : List Us.S) (r : Value) (w : World) (e : Ending) (w' : World) : Prop :=
  e = .returned r ∧ Hid (Tp x w' b v T') ∧ Hid (Tn v w w')
section
variable {x w y : World} {b : Nat} {v : Value} {T : List Us.S}
theorem Tp.lo (h : Tp x w b v T) : ∀ g, v.ownBlock = some g → x.heap.size ≤ g := fun _ hg => (h.at_.own.blk hg).1
theorem Tp.next (h : Tp x w b v T) (hb : Below w.heap.size w y) : Tp x y b v T := ⟨h.at_.old hb, h.inv, h.old.trans (hb.mono h.old.size)⟩
theorem Tp.go {T' : List Us.S} (h : Tp x w b v T) (ha : TAt 50 x.heap.size y b v T') (hi : Us.Inv T') (hn : Tn v w y) : Tp x y b v T' := ⟨ha, hi, hn.below h.old h.lo h.old.size⟩
theorem tp_new (n : Int) (x w : World) (hx : Below x.heap.size x w) : Calls Try.prog 9 #[.int .i64 n] w fun e w' => ∃ b v, e = .returned (.pointer (some ⟨b, 0, none⟩)) ∧ Hid (Tp x w' b v (Us.new n)) :=
  (new_any n w).mono fun _ _ ⟨b, v, h1, h2, h3⟩ => ⟨b, v, h1, Lib.hid ⟨⟨h2.out.box, h2.out.own.mono hx.size, Nat.le_trans hx.size h2.out.lo⟩, Us.new_inv n, hx.trans (h3.out.mono hx.size)⟩⟩
theorem tp_take (now : Int) (h : Tp x w b v T) : Calls Try.prog 21 #[.pointer (some ⟨b, 0, none⟩), .int .i64 now] w (TpSay x b v (Us.takeT T now) (.tuple #[.int .i64 (Us.takeI T), .bool (Us.takeB T)]) w) :=
  (take_any now w h.at_ h.inv).mono fun _ _ ⟨h1, h2, h3⟩ => ⟨h1, Lib.hid (h.go h2.out (h.inv.take now) h3.out), h3⟩
theorem tp_add (i n now : Int) (h : Tp x w b v T) : Calls Try.prog 25 #[.pointer (some ⟨b, 0, none⟩), .int .i64 i, .int .i64 n, .int .i64 now] w (TpSay x b v (Us.addT T i n now) (.int .i64 (Us.addE T i n)) w) :=
  (add_any i n now w h.at_ h.inv).mono fun _ _ ⟨h1, h2, h3⟩ => ⟨h1, Lib.hid (h.go h2.out (h.inv.add i n now) h3.out), h3⟩
theorem tp_pend (i : Int) (h : Tp x w b v T) : Calls Try.prog 23 #[.pointer (some ⟨b, 0, none⟩), .int .i64 i] w (TpSay x b v (Us.pendT T i) (.int .i64 (Us.pendE T i)) w) :=
  (pend_any i w h.at_ h.inv).mono fun _ _ ⟨h1, h2, h3⟩ => ⟨h1, Lib.hid (h.go h2.out (h.inv.pend i) h3.out), h3⟩
theorem tp_release (h : Tp x w b v T) : Calls Try.prog 24 #[.pointer (some ⟨b, 0, none⟩)] w (TpSay x b v (Us.relT T) (.int .i64 ((Us.ix 3 T).length : Int)) w) :=
  (release_any w h.at_ h.inv.len).mono fun _ _ ⟨h1, h2, h3⟩ => ⟨h1, Lib.hid (h.go h2.out h.inv.rel h3.out), h3⟩
theorem tp_set (i : Int) (r : Us.S) (h : Tp x w b v T) : Calls Try.prog 27 #[.pointer (some ⟨b, 0, none⟩), .int .i64 i, .agg (SgA r)] w (TpSay x b v (Us.setT T i r) (.int .i64 (Us.setE T i r)) w) := by
  by_cases h1 : Us.has T i ∧ Us.ok r
  · by_cases h2 : r.s = 1 ∧ Us.other T i.toNat
    · have e1 : Us.setE T i r = 10 := by unfold Us.setE; rw [if_neg (fun q => q h1), if_pos h2]
      have e2 : Us.setT T i r = T := by unfold Us.setT; rw [e1, if_neg (by decide)]
      rw [e1, e2]
      exact (set_twice i r w h.at_ h.inv h1.1 h1.2 h2.1 h2.2).mono fun _ _ ⟨k1, k2, k3⟩ => ⟨k1, Lib.hid (h.go k2.out h.inv k3.out), k3⟩
    · have e1 : Us.setE T i r = 0 := by unfold Us.setE; rw [if_neg (fun q => q h1), if_neg h2]
      have e2 : Us.setT T i r = T.set i.toNat r := by unfold Us.setT; rw [e1, if_pos rfl]
      have hi := h.inv.set i r
      rw [e2] at hi
      rw [e1, e2]
      exact (set_yes i r w h.at_ h.inv h1.1 h1.2 (fun q k => h2 ⟨q, k⟩)).mono fun _ _ ⟨k1, k2, k3⟩ => ⟨k1, Lib.hid (h.go k2.out hi k3.out), k3⟩
  · have e1 : Us.setE T i r = 7 := by unfold Us.setE; rw [if_pos h1]
    have e2 : Us.setT T i r = T := by unfold Us.setT; rw [e1, if_neg (by decide)]
    rw [e1, e2]
    exact (set_no i r w h.at_ h.inv h1).mono fun _ _ ⟨k1, k2, k3⟩ => ⟨k1, Lib.hid (h.go k2.out h.inv k3.out), k3⟩
theorem tp_count (k : Int) (h : Tp x w b v T) : Calls Try.prog 18 #[.pointer (some ⟨b, 0, none⟩), .int .i64 k] w (TpSay x b v T (.int .i64 ((Us.ix k T).length : Int)) w) :=
  (count_any k w h.at_ h.inv.len).mono fun _ _ ⟨h1, h2⟩ => ⟨h1, Lib.hid (h.next h2), Lib.hid (Tn.of h2)⟩
theorem tp_open (h : Tp x w b v T) : Calls Try.prog 12 #[.pointer (some ⟨b, 0, none⟩)] w (TpSay x b v T (.int .i64 (Us.open_ T)) w) :=
  (open_any w h.at_ h.inv.len).mono fun _ _ ⟨h1, h2⟩ => ⟨h1, Lib.hid (h.next h2), Lib.hid (Tn.of h2)⟩
/-- Two rows that lie apart. -/
def Ap (v u : Value) : Prop := ∀ g, u.ownBlock = some g → v.ownBlock ≠ some g
/-- What Segs tells: rows in new memory. -/
def SnSay (x : World) (b : Nat) (v : Value) (T : List Us.S) (w : World) (e : Ending) (w' : World) : Prop :=
  ∃ p c, e = .returned (.slice p T.length c) ∧ Hid (Tp x w' b v T) ∧ Hid (SgO w.heap.size w' (.slice p T.length c) T) ∧ Hid (Ap v (.slice p T.length c)) ∧ Hid (Tn v w w')
theorem tp_segs (h : Tp x w b v T) : Calls Try.prog 14 #[.pointer (some ⟨b, 0, none⟩)] w (SnSay x b v T w) :=
  (segs_any w h.at_ h.inv.len).mono fun _ _ ⟨u, h1, h2, h3⟩ => by
    obtain ⟨p, c, rfl⟩ := h2.out.len
    refine ⟨p, c, h1, Lib.hid (h.next h3.out), h2, Lib.hid (fun g hg hv => ?_), Lib.hid (Tn.of h3.out)⟩
    have := (h2.out.blk hg).1
    obtain ⟨_, cur, hc⟩ := h.at_.own.blk hv
    have := lt_of_block hc
    omega
end
theorem list_eq_of {L M : List Us.S} {n : Nat} (hl : L.length = n) (hm : M.length = n) (h : ∀ i, i < n → Us.at_ L i = Us.at_ M i) : L = M := Us.at_ext (by omega) (fun i hi => h i (by omega))
set_option maxHeartbeats 2000000 in
set_option maxRecDepth 100000 in
theorem sames_any (L M : List Us.S) (B C : Nat) (p q : Option Addr) (n m c d : Nat) (hn : L.length = n) (hm : M.length = m) (hL : n ≤ 10000) (w : World) (hp : SgO B w (.slice p n c) L) (hq : SgO C w (.slice q m d) M) :
    Calls Try.prog 15 #[.slice p n c, .slice q m d] w (BoSay (decide (L = M)) w) := by
  have Hp := Lib.hid hp; clear hp
  have Hq := Lib.hid hq; clear hq
  have HN := Lib.hid hn
  have HM := Lib.hid hm
  by_cases hnm : n = m
  · subst hnm
    clear hn hm
    obtain ⟨eb, heb⟩ : ∃ eb, decide (L = M) = eb := ⟨_, rfl⟩
    have HEB := Lib.hid heb
    rw [heb]
    clear heb
    go_enter Try.func15, Try.ntmps15
    go_wp2
    go_loopw [5] (fun v5 wr => ∃ k : Nat, k ≤ n ∧ v5 = .int .i64 k ∧ Hid (∀ i, i < k → Us.at_ L i = Us.at_ M i) ∧ Hid (Below w.heap.size w wr)) (fun v5 _ => n - (intOf v5).toNat)
    case atStart => exact ⟨0, by omega, rfl, fun i hi => by omega, Below.refl _ _⟩
    case round =>
      obtain ⟨k, hk, rfl, HE, HB⟩ := hrel
      by_cases hlt : k < n
      · obtain ⟨ab, c', hpp⟩ := Hp.out.isb k (by rw [HN.out]; exact hlt)
        obtain ⟨bb, d', hqq⟩ := Hq.out.isb k (by rw [HM.out]; exact hlt)
        injection hpp with hpp _ _
        injection hqq with hqq _ _
        subst hpp
        subst hqq
        have HR1 : Hid (∀ j, (wr.drewN j).rangeAt ab (k * 3) (SgA (Us.at_ L k)).toList) := fun j => (Hp.out.old (below_dn HB.out j)).rng k (by rw [HN.out]; exact hlt)
        have HR2 : Hid (∀ j, (wr.drewN j).rangeAt bb (k * 3) (SgA (Us.at_ M k)).toList) := fun j => (Hq.out.old (below_dn HB.out j)).rng k (by rw [HM.out]; exact hlt)
        have h1 : ∀ j, (Instr.loadAt 30 (.pointer (some ⟨ab, k * 3, none⟩))).run Try.prog (wr.drewN j) = .ok (.agg (SgA (Us.at_ L k))) (wr.drewN j) := fun j => run_loadAt_mid _ _ _ _ _ _ (HR1.out j) Try.underlying30 rfl Try.sizeSg
        have h2 : ∀ j, (Instr.loadAt 30 (.pointer (some ⟨bb, k * 3, none⟩))).run Try.prog (wr.drewN j) = .ok (.agg (SgA (Us.at_ M k))) (wr.drewN j) := fun j => run_loadAt_mid _ _ _ _ _ _ (HR2.out j) Try.underlying30 rfl Try.sizeSg
        obtain ⟨xb, hxb⟩ : ∃ xb, decide (Us.at_ L k = Us.at_ M k) = xb := ⟨_, rfl⟩
        have HXB := Lib.hid hxb
        have heq : ∀ y, (Op.equalIn 10000 30 (.agg (SgA (Us.at_ L k))) (.agg (SgA (Us.at_ M k)))).run Try.prog y = .ok xb y := fun y => by rw [← hxb]; exact seg_eq _ _ y
        clear hxb HR1 HR2
        have hi0 : 0 ≤ (k : Int) := by omega
        have hi1 : (k : Int) < (n : Int) := by omega
        generalize SgA (Us.at_ L k) = X at *
        generalize SgA (Us.at_ M k) = Y at *
        go_upto_region 6 with (fail)
        refine wp_region_quiet_lit (by kernel_rfl) (by kernel_rfl) ?_
        repeat (first
          | ((with_reducible refine quiet_load _ _ ⟨ab, k * 3, none⟩ X ?_ ?_ (fun y hy => by obtain ⟨j, rfl⟩ := hy; exact h1 j) ?_); (exact rfl); (exact rfl); simp only [Act.put, List.setIfInBounds_toArray, List.set_cons_zero, List.set_cons_succ])
          | ((with_reducible refine quiet_load _ _ ⟨bb, k * 3, none⟩ Y ?_ ?_ (fun y hy => by obtain ⟨j, rfl⟩ := hy; exact h2 j) ?_); (exact rfl); (exact rfl); simp only [Act.put, List.setIfInBounds_toArray, List.set_cons_zero, List.set_cons_succ])
          | go_big_quiet_step ((fail)))
        refine wpQuiet_nil ?_
        rintro _ ⟨nq, rfl⟩
        cases xb with
        | true =>
          go_wp2
          refine ⟨⟨k + 1, by omega, by go_num, fun i hi => ?_, below_dn HB.out _⟩, by simp [intOf]; omega⟩
          by_cases hik : i = k
          · subst hik; exact of_decide_eq_true HXB.out
          · exact HE.out i (by omega)
        | false =>
          have hf : eb = false := by
            rw [← HEB.out]
            refine decide_eq_false fun e => ?_
            have := of_decide_eq_false HXB.out
            rw [e] at this
            exact this rfl
          subst hf
          go_wp2
          go_ret
          exact ⟨rfl, below_dn HB.out _⟩
      · have E : k = n := by omega
        have hge : n ≤ k := by omega
        have hf : eb = true := by
          rw [← HEB.out]
          exact decide_eq_true (list_eq_of HN.out HM.out (fun i hi => HE.out i (by omega)))
        subst hf
        clear hlt E
        go_wp2
        go_ret
        exact ⟨rfl, HB.out⟩
  · have hd : decide (L = M) = false := decide_eq_false fun e => hnm (by rw [← hn, ← hm, e])
    rw [hd]
    have hnm' : ¬ ((n : Int) = (m : Int)) := by omega
    clear hn hm hd
    go_enter Try.func15, Try.ntmps15
    go_wp2
    go_ret
    exact ⟨rfl, Below.refl _ _⟩
end Go.Proofs.Ytnnalemboeccbaa

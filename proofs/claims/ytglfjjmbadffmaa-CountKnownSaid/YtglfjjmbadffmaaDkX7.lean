/-
  The reference: Write, Tamper.
-/
import Derived.Test.YtglfjjmbadffmaaDkX6
namespace Go.Proofs.Ytglfjjmbadffmaa
open Go.RowKit

section
variable {U : Nat → Prop} {r qb : Nat} {m : Dk.M} {vl vc : Value} {G : Nat → Option (List Int)}
theorem own_chg {U : Nat → Prop} {w y z : World} (hs : z.heap.size = y.heap.size) : Own U w z = Own U w y := by unfold Own; rw [hs]
/-- The disk where its row is laid anew, and lists that are new. -/
theorem RfC.lay {w y z : World} {m' : Dk.M} {vl' vc' : Value} {G' : Nat → Option (List Int)} (h : RfC w U r qb vl vc m G) (hb : Below w.heap.size w y) (hc : Chg r y z)
    (hr : z.heap[r]? = some (.cells #[.int .i64 (m'.n : Int), .int .i64 (Dk.rl m'), .int .i64 (m'.wr : Int), .bool m'.down, vl', vc', .slice (some ⟨qb, 0, none⟩) m.n m.n] 57 (0, 0)))
    (hl : Lst 0 y (Own U w y) vl' (Dk.lst G' m.n)) (hcc : Lst 0 y (Own U w y) vc' (Dk.lst m'.ca m.n)) (ho : (∀ g, vl'.ownBlock = some g → Own U w y g) ∧ ∀ g, vc'.ownBlock = some g → Own U w y g)
    (hn : m'.n = m.n) (hd : m'.rd = m.rd) (hls : ∀ i, m'.ls i = (G' i).getD []) (ok : Dk.Ok m') : RfC z (Own U w z) r qb vl' vc' m' G' := by
  rw [own_chg hc.size]
  have hry : y.heap[r]? = w.heap[r]? := hb.block r (h.top r h.lt.1)
  have key : ∀ (g : Nat) (cur : Array Value) (e : TypeId), y.heap[g]? = some (.cells cur e (0, 0)) → 57 ≠ e → z.heap[g]? = y.heap[g]? := fun g cur e h1 he => hc.block g (fun q => by
    rw [q, hry, h.row] at h1
    injection Option.some.inj h1 with _ h7 _
    exact he h7)
  have hqb : y.heap[qb]? = some (.cells ((List.range m.n).map fun i => Value.int .i64 (m.rd i : Int)).toArray 3 (0, 0)) := (hb.block qb (h.top qb h.lt.2)).trans h.cnt
  refine ⟨⟨Or.inl h.lt.1, Or.inl h.lt.2⟩, fun g hg => ?_, by rw [hr, hn], ?_, ?_, ho, ?_, hls, ok⟩
  · rw [hc.size]
    rcases hg with hg | hg
    · exact Nat.lt_of_lt_of_le (h.top g hg) hb.size
    · exact hg.2
  · rw [hn]
    exact hl.keep (fun g hg => by obtain ⟨_, cur, h2⟩ := hl.type g hg; exact key g cur _ h2 (by decide)) (fun g cur _ h2 => key g cur _ h2 (by decide))
  · rw [hn]
    exact hcc.keep (fun g hg => by obtain ⟨_, cur, h2⟩ := hcc.type g hg; exact key g cur _ h2 (by decide)) (fun g cur _ h2 => key g cur _ h2 (by decide))
  · rw [hn, hd]
    exact (key qb _ _ hqb (by decide)).trans hqb
theorem RfC.las' {w y : World} (h : RfC w U r qb vl vc m G) (hb : Below w.heap.size w y) : Lst 0 y (Own U w y) vl (Dk.lst G m.n) ∧ ∀ g, vl.ownBlock = some g → Own U w y g := ⟨(h.las.old hb).lift (fun _ h => Or.inl h), fun g hg => Or.inl (h.own.1 g hg)⟩
theorem RfC.cac' {w y : World} (h : RfC w U r qb vl vc m G) (hb : Below w.heap.size w y) : Lst 0 y (Own U w y) vc (Dk.lst m.ca m.n) ∧ ∀ g, vc.ownBlock = some g → Own U w y g := ⟨(h.cac.old hb).lift (fun _ h => Or.inl h), fun g hg => Or.inl (h.own.2 g hg)⟩
theorem lst_new {w y : World} {B : Nat} {v : Value} {l : List Dk.S} {U' : Nat → Prop} (h : Lst B y U' v l) (hB : w.heap.size ≤ B) : ∀ g, v.ownBlock = some g → Own U w y g := fun g hg => by
  obtain ⟨h1, cur, h2⟩ := h.type g hg
  exact Or.inr ⟨Nat.le_trans hB h1, lt_of_block h2⟩
theorem RfC.byt {y : World} {ab k : Nat} {x : Int} (h : RfC y U r qb vl vc m G) (hc : y.cell? ⟨ab, k, none⟩ = some (.int .u8 x)) : ab ≠ r := fun q => by
  obtain ⟨a, c, rfl, _⟩ := h.las.len
  obtain ⟨b, d, rfl, _⟩ := h.cac.len
  rw [q, cell_of_row y r k _ _ _ h.row] at hc
  rcases k with _ | _ | _ | _ | _ | _ | _ | k <;> simp at hc
theorem RfC.bs {y z : World} {p : Option Addr} {c : Nat} {L : List Int} (h : RfC y U r qb vl vc m G) (hb : Bs y p c L) (hm : Mv [r] y z) : Bs z p c L :=
  ⟨⟨hb.bat.1, fun h0 => by
    obtain ⟨ab, ao, h1, h2⟩ := hb.bat.2 h0
    refine ⟨ab, ao, h1, fun j hj => ?_⟩
    rw [World.cell?_of_block (hm.block ab (World.block_lt_of_cell? _ _ (h2 j hj)) (by simpa using h.byt (h2 j hj)))]
    exact h2 j hj⟩, hb.cap, hb.nil⟩
theorem Dk.ok_put {m : Dk.M} (h : Dk.Ok m) {j : Nat} {L : List Int} (hj : j < m.n) (hL : L.length ≤ 1024) (k : Nat) : Dk.Ok { m with ca := upd m.ca j (some L), wr := k } := by
  obtain ⟨o1, o2, o3, o4, o5, o6⟩ := h
  refine ⟨o1, o2, fun i hi => ?_, o4, o5, fun i X hX => ?_⟩
  · show upd m.ca j (some L) i = none
    have hi' : m.n ≤ i := hi
    rw [upd_other _ _ (by omega)]; exact o3 i hi'
  · have hX' : upd m.ca j (some L) i = some X := hX
    by_cases e : i = j
    · subst e; rw [upd_same] at hX'; cases hX'; exact hL
    · rw [upd_other _ _ e] at hX'; exact o6 i X hX'
theorem Dk.ok_over {m : Dk.M} (h : Dk.Ok m) {j : Nat} {L : List Int} (hL : L.length ≤ 1024) : Dk.Ok { m with ls := upd m.ls j L, ca := upd m.ca j none } := by
  obtain ⟨o1, o2, o3, o4, o5, o6⟩ := h
  refine ⟨o1, o2, fun i hi => ?_, o4, fun i => ?_, fun i X hX => ?_⟩
  · show upd m.ca j none i = none
    by_cases e : i = j
    · subst e; exact upd_same _ _ _
    · rw [upd_other _ _ e]; exact o3 i hi
  · show (upd m.ls j L i).length ≤ 1024
    by_cases e : i = j
    · subst e; rw [upd_same]; exact hL
    · rw [upd_other _ _ e]; exact o5 i
  · have hX' : upd m.ca j none i = some X := hX
    by_cases e : i = j
    · subst e; rw [upd_same] at hX'; cases hX'
    · rw [upd_other _ _ e] at hX'; exact o6 i X hX'
theorem Own.sub {U : Nat → Prop} {w x y : World} (h : w.heap.size ≤ x.heap.size) : ∀ g, Own U x y g → Own U w y g := fun g hg => by
  rcases hg with hg | hg
  · exact Or.inl hg
  · exact Or.inr ⟨Nat.le_trans h hg.1, hg.2⟩
theorem Own.more {U : Nat → Prop} {w x y : World} (h : x.heap.size ≤ y.heap.size) : ∀ g, Own U w x g → Own U w y g := fun g hg => by
  rcases hg with hg | hg
  · exact Or.inl hg
  · exact Or.inr ⟨hg.1, Nat.lt_of_lt_of_le hg.2 h⟩
set_option maxHeartbeats 4000000 in
set_option maxRecDepth 100000 in
theorem refwrite_c (i : Int) (L : List Int) (p : Option Addr) (n c : Nat) (hn : L.length = n) (hnb : n ≤ 1000000) (hwr : m.wr ≤ 1000000000) (w : World) (hd : RfC w U r qb vl vc m G) (hb : Bs w p c L) :
    Calls Try.prog 33 #[.pointer (some ⟨r, 0, none⟩), .int .i64 i, .slice p n c] w (RfSay U r qb (.int .i64 (Dk.wrE m i L)) (Dk.wrM m i L) w) := by
  obtain ⟨_, _, c2, c3, _, c5, _⟩ := hd.cells
  subst hn
  have HD := Lib.hid hd
  have HB := Lib.hid hb
  clear hd hb
  cases hdn : m.down with
  | true =>
    have e1 : Dk.wrE m i L = 12 := by unfold Dk.wrE; rw [hdn]; rfl
    have e2 : Dk.wrM m i L = m := by unfold Dk.wrM; rw [hdn]; rfl
    rw [hdn] at c3
    go_enter Try.func33, Try.ntmps33
    go_wp2
    go_ret
    exact ⟨by first | rfl | (rw [e1]; rfl), by rw [e2]; exact Lib.hid (RfAt.own ⟨vl, vc, G, HD.out⟩ _), Lib.hid (Mv.refl _ _)⟩
  | false =>
    rw [hdn] at c3
    by_cases hf : Dk.fault m i L = 0
    · cases hg : Dk.gone m with
      | true =>
        have e1 : Dk.wrE m i L = 12 := by rw [Dk.wrE_eq hf]; unfold Dk.spendE; rw [if_pos hg]
        have e2 : Dk.wrM m i L = Dk.spend m := by unfold Dk.wrM; rw [hdn, if_neg (by decide), if_neg (by rw [hf]; decide), hg, if_pos rfl]
        have e3 : Dk.spendE m = 12 := by unfold Dk.spendE; rw [if_pos hg]
        go_enter Try.func33, Try.ntmps33
        go_wp2_with (first
          | (go_at_call 44; refine (refwrong_any i L p _ c rfl _ HD.out).mono ?_; rw [hf]; rintro e w1 ⟨rfl, rfl⟩)
          | (go_at_call 42; refine (refspend_c _ HD.out).mono ?_; rw [e3]; rintro e w2 ⟨rfl, hd2, hm2⟩))
        go_ret
        refine ⟨by first | rfl | (rw [e1]; rfl), ?_, Lib.hid (hm2.out.more (fun k hk => by simp at hk ⊢; exact Or.inl hk))⟩
        rw [e2]
        exact Lib.hid (RfAt.own ⟨vl, vc, G, hd2.out⟩ _)
      | false =>
        obtain ⟨j, rfl, hj⟩ := Dk.here_of (Dk.fault_ok hf).1
        have hL := (Dk.fault_ok hf).2
        have e1 : Dk.wrE m j L = 0 := by rw [Dk.wrE_eq hf]; unfold Dk.spendE; rw [hg]; rfl
        have e3 : Dk.spendE m = 0 := by unfold Dk.spendE; rw [hg]; rfl
        have e2 : Dk.wrM m j L = { Dk.spend m with ca := upd (Dk.spend m).ca j (some L), wr := (Dk.spend m).wr + 1 } := by unfold Dk.wrM; rw [hdn, if_neg (by decide), if_neg (by rw [hf]; decide), hg, Dk.spend_ca, Dk.spend_wr]; rfl
        obtain ⟨m2, hm2e⟩ : ∃ m2, Hid (Dk.spend m = m2) := ⟨_, rfl⟩
        have hj2 : j < m2.n := by rw [← hm2e.out, Dk.spend_n]; exact hj
        have hwr2 : m2.wr ≤ 1000000000 := by rw [← hm2e.out, Dk.spend_wr]; exact hwr
        have hn2 := HD.out.ok.n2
        go_enter Try.func33, Try.ntmps33
        go_upto_region 8 with (first
          | (go_at_call 44; refine (refwrong_any j L p _ c rfl _ HD.out).mono ?_; rw [hf]; rintro e w1 ⟨rfl, rfl⟩)
          | (go_at_call 42; refine (refspend_c _ HD.out).mono ?_; rw [e3]; rintro e w2 ⟨rfl, hd2, hm2⟩; rw [hm2e.out] at hd2; have HM2 := Lib.hid hm2.out; have HD2 := Lib.hid hd2.out; clear hm2 hd2))
        have HBS : Hid (Bs w2.drew p c L) := (HD.out.bs HB.out HM2.out).drew
        have k1 := HD2.out.cells.2.2.2.2.2.1
        go_region_law (first
          | (go_simp; go_at_call 45; refine (copybytes_any L p _ c rfl (by omega) _ HBS.out.bat).mono ?_; rintro e w4 ⟨v4, rfl, ho4, hb4⟩; have B4 : Hid (Below w2.heap.size w2 w4) := ((Below.refl _ w2).drew).trans hb4; obtain ⟨p4, c4, rfl, _, _⟩ := own_bs ho4 HB.out.bat.1; have O4 := Lib.hid ho4; have kb : Hid (w4.cell? ⟨r, 5, none⟩ = some vc) := (B4.out.cell (World.block_lt_of_cell? _ _ k1)).trans k1; have k4 : w4.cell? ⟨r, 5, none⟩ = some vc := kb.out; clear ho4 hb4)
          | (go_simp; go_at_call 43; refine (refput_any (Dk.lst m2.ca m2.n) (j, L) (Own U w2 w4) vc p4 c4 w4 (HD2.out.cac' B4.out).1 (sec_of O4.out HB.out.bat.1 (fun g h1 h2 => Or.inr ⟨h1, h2⟩)) (by have := Dk.lst_len m2.ca m2.n; have := HD2.out.ok.n2; omega)).mono ?_; rintro e w5 ⟨v5, rfl, hl5, hb5⟩; obtain ⟨a5, q5, rfl, _⟩ := hl5.out.len; obtain ⟨l5, hl5e⟩ : ∃ l5, Hid ((Dk.ins (Dk.lst m2.ca m2.n) (j, L)).length = l5) := ⟨_, rfl⟩; rw [hl5e.out] at hl5 ⊢; have HL5 := Lib.hid hl5.out; have B5 := Lib.hid hb5.out; have R5 := Lib.hid ((B5.out.block r (Nat.lt_of_lt_of_le (HD2.out.top r HD2.out.lt.1) B4.out.size)).trans ((B4.out.block r (HD2.out.top r HD2.out.lt.1)).trans HD2.out.row)); have kc : Hid (w5.cell? ⟨r, 5, none⟩ = some vc) := (by show _ = _; rw [cell_of_row w5 r 5 _ _ _ R5.out]; try rfl); have k5 := kc.out; have f5 := frozen_of_row w5 r 5 _ _ R5.out; clear hl5 hb5))
        all_goals
          obtain ⟨w6, HW6⟩ : ∃ y : World, Hid (w5.setCell ⟨r, 5, none⟩ (.slice a5 l5 q5) = y) := ⟨_, rfl⟩
          have R6 := Lib.hid (heap_setCell_same w5 r 5 _ _ (.slice a5 l5 q5) R5.out)
          rw [HW6.out] at R6 ⊢
          have C6 : Hid (Chg r w5 w6) := by show Chg _ _ _; rw [← HW6.out]; exact Chg.setCell w5 ⟨r, 5, none⟩ _
          have c2 : w6.cell? ⟨r, 2, none⟩ = some (.int .i64 (m2.wr : Int)) := by rw [cell_of_row w6 r 2 _ _ _ R6.out]; rfl
          have f2 := frozen_of_row w6 r 2 _ _ R6.out
          have hw1 : IntKind.i64.wrap ((m2.wr : Int) + 1) = (m2.wr : Int) + 1 := IntWalk.i64_in _ ⟨by omega, by omega⟩
          go_wp2
          go_ret
          have hset := heap_setCell_same w6 r 2 _ _ (.int .i64 ((m2.wr : Int) + 1)) R6.out
          have C7 : Chg r w5 (w6.setCell ⟨r, 2, none⟩ (.int .i64 ((m2.wr : Int) + 1))) := C6.out.trans (Chg.setCell w6 ⟨r, 2, none⟩ _)
          have B25 : Below w2.heap.size w2 w5 := B4.out.trans (B5.out.mono B4.out.size)
          have hlst : Lst w4.heap.size w5 (Own U w2 w5) (.slice a5 l5 q5) (Dk.lst (upd m2.ca j (some L)) m2.n) := by
            have h := HL5.out
            rw [Dk.ins_lst _ _ _ _ hj2] at h
            exact h.lift (Own.more B5.out.size)
          have hfin := HD2.out.lay (m' := { m2 with ca := upd m2.ca j (some L), wr := m2.wr + 1 }) (vl' := vl) (vc' := .slice a5 l5 q5) (G' := G) B25 C7 (by rw [hset]; simp [Dk.rl]) (HD2.out.las' B25).1 hlst.low ⟨(HD2.out.las' B25).2, lst_new hlst B4.out.size⟩ rfl rfl HD2.out.ls (Dk.ok_put HD2.out.ok hj2 hL _)
          refine ⟨by first | rfl | (rw [e1]; rfl), ?_, Lib.hid ?_⟩
          · first | rw [e2, hm2e.out] | rw [hm2e.out]
            refine Lib.hid (RfAt.lift ⟨_, _, _, hfin⟩ (Own.sub HM2.out.size) (fun g hg => ?_))
            rcases hg with hg | hg
            · exact hfin.top g (Or.inl hg)
            · exact hg.2
          · have M7 : Mv [r, qb] w5 (w6.setCell ⟨r, 2, none⟩ (.int .i64 ((m2.wr : Int) + 1))) := Mv.only C7.only (by simp)
            exact (HM2.out.more (fun k hk => by simp at hk ⊢; exact Or.inl hk)).trans ((Mv.of_below B25).trans M7)
    · have hf' : (Dk.fault m i L == 0) = false := by simpa using hf
      have e1 : Dk.wrE m i L = Dk.fault m i L := by unfold Dk.wrE; rw [hdn, if_neg (by decide), if_pos (by simpa using hf)]
      have e2 : Dk.wrM m i L = m := by unfold Dk.wrM; rw [hdn, if_neg (by decide), if_pos (by simpa using hf)]
      go_enter Try.func33, Try.ntmps33
      go_wp2_with (go_at_call 44; refine (refwrong_any i L p _ c rfl _ HD.out).mono ?_; rintro e w1 ⟨rfl, rfl⟩)
      go_ret
      exact ⟨by first | rfl | (rw [e1]; rfl), by rw [e2]; exact Lib.hid (RfAt.own ⟨vl, vc, G, HD.out⟩ _), Lib.hid (Mv.refl _ _)⟩
end
end Go.Proofs.Ytglfjjmbadffmaa

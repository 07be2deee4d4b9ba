/-
  The law ShaApart walked: two hashes and two rows of the call's own.
-/
import Derived.Test.YtamdmkknaobgcaaDoorAddA
namespace Go.Proofs.YtamdmkknaobgcaaDoor
open Go.RowKit

theorem own_keep2 {w w' : World} {B n : Nat} {e : TypeId} {v : Value} {xs : List Value} (h : w.ownsRow B e 1 v n xs) (hk : ∀ g, v.ownBlock = some g → g < w.heap.size → w'.heap[g]? = w.heap[g]?) : w'.ownsRow B e 1 v n xs := by
  refine ⟨h.1, ?_⟩
  rcases h.2 with h1 | ⟨g, cap, cur, h1, h2, h3, h4⟩
  · exact Or.inl h1
  · exact Or.inr ⟨g, cap, cur, h1, h2, (hk g (by rw [h1]; rfl) (lt_of_block h3)).trans h3, h4⟩
/-- An append of bytes onto a row of the call's own: the row stays where it is, or lies in a new block. -/
theorem append_own2 (w : World) {ops : Array Oper} {rest : List Oper} {o : Oper} {a : Act} {Q : Exit → Act → World → Prop} (hgd : o.guard = none) (s x : Operand)
    (ho : o.op = .call { callee := .builtin .append, args := #[s, x], argTypes := #[22, 22] }) (base : Nat)
    (v : Value) (n : Nat) (xs : List Value) (hs : a.eval s = v) (hown : w.ownsRow base 5 1 v n xs)
    (ad : Addr) (m c : Nat) (news : List Value) (hx : a.eval x = .slice (some ad) m c) (hl : news.length = m) (hnews : ∀ j u, news[j]? = some u → w.cell? (ad.add j) = some u) (h1 : ∀ u ∈ news, u.oneCell' = true)
    (hb : n + m ≤ 1000000) (hbase : base ≤ w.heap.size)
    (h : ∀ v' w', w'.ownsRow base 5 1 v' (n + m) (xs ++ news) → w.grownBy w' v.ownBlock → (∀ j, v'.ownBlock = some j → v.ownBlock = some j ∨ w.heap.size ≤ j) → wpList Tryd.prog ops Q rest (a.put o.dst v') w') : wpList Tryd.prog ops Q (o :: rest) a w := by
  obtain ⟨i0, hi, hz0, hz1, hz2⟩ := info_parts Tryd.info_u8
  rcases hown.2 with ⟨hv, hn⟩ | ⟨g, cap, cur, hv, hg1, hg2, hg3, hg4, hg5, hg6⟩
  · subst hn
    have hx0 : xs = [] := List.eq_nil_of_length_eq_zero (by have := hown.1; simpa using this)
    subst hx0
    refine wpList_append_own w hgd s x 22 ho w.heap.size 5 i0 (.int .u8 0) 1 1 Tryd.underlying22 hi hz0 hz1 hz2 rfl (by decide) v 0 [] hs (by rw [hv]; exact World.ownsRow_nil _ _ _ _) ad m c news hx (by simpa using hl) hnews h1 (by unfold maxLen; omega) (by omega) (Nat.le_refl _) ?_
    intro v' w' h2 h3 _
    exact h v' w' (own_mono h2 hbase) h3 (fun j hj => Or.inr (h2.lt j hj).1)
  · by_cases hroom : n + m ≤ cap
    · refine wpList_plain hgd fun K hK => ?_
      have hxl : xs.length = n := by have := hown.1; simpa using this
      have hrun := run_append_room (P := Tryd.prog) w 22 o.type 5 i0 Tryd.underlying22 hi g n cap cur hg2 ad m c news (by rw [hz1]; omega) hnews h1 hroom (by rw [hz1]; omega)
      unfold Oper.wp
      simp [execOp, ho, resolve, invoke, builtin, hs, hv, hx, hrun, Result.andThen]
      refine hK _ _ (h _ _ ⟨?_, Or.inr ⟨g, cap, _, rfl, hg1, setRow_heap w g cur _ 5 (0, 0) hg2, hroom, hg4, ?_, ?_⟩⟩ ?_ (fun j hj => Or.inl (by rw [hv]; exact hj)))
      · rw [List.length_append, hxl, hl]; omega
      · simp [hz1]; omega
      · have e : cur.toList.take n = xs := by simpa using hg6
        have e2 : (xs ++ news).length = n + m := by rw [List.length_append, hxl, hl]
        simp only [hz1, Nat.mul_one, e]
        rw [← List.append_assoc, List.take_append_of_le_length (by rw [e2]; exact Nat.le_refl _), List.take_of_length_le (by rw [e2]; exact Nat.le_refl _)]
      · have hc := Chg.setRow w g
        rw [hv]
        exact ⟨(hc _).os, (hc _).tape, (hc _).output, by rw [(hc _).size]; exact Nat.le_refl _, fun k _ hne => (hc _).block k (fun e => hne (by rw [e]; rfl))⟩
    · refine wpList_append_grows w hgd s x 22 ho 5 i0 (.int .u8 0) 1 1 Tryd.underlying22 hi hz0 hz1 hz2 rfl (by decide) (some ⟨g, 0, none⟩) n cap xs (by rw [hs, hv]) (fun h => by cases h) (by have := hown.1; simpa using this) (fun b hb j u hj => by
        cases hb
        exact hown.cells (by rw [hv]; rfl) j u hj) ad m c news hx (by simpa using hl) hnews h1 (by omega) (by unfold maxLen; omega) (by omega) ?_
      intro v' w' h2 h3
      exact h v' w' (own_mono h2 hbase) ⟨h3.os, h3.tape, h3.output, h3.size, fun k hk _ => h3.block k hk (by simp)⟩ (fun j hj => Or.inr (h2.lt j hj).1)

theorem st_grown2 {w wi w' : World} {G : Nat} {L : List Int} {row : Option Nat} (h : St w wi G L) (ht : Tab w 1) (hg : wi.grownBy w' row) (hr : ∀ j, row = some j → G + 1 ≤ j) : St w w' G L := by
  have hlt := lt_holds h
  obtain ⟨⟨R, r1, r2⟩, a2, a3, a4, a5, a6⟩ := h
  have hb : Below w.heap.size w w' := a2.grown hg a6 (fun j hj => by have := hr j hj; omega)
  refine ⟨⟨R, r1, ?_⟩, hb, ht.below hb ht.lt, a4, a5, Nat.le_trans a6 hg.size⟩
  unfold HBlk at r2 ⊢
  rw [hg.block _ hlt (fun e => by have := hr _ e.symm; omega)]
  exact r2
theorem add_one2 (hT : TakeSaid) {w wi : World} {G1 G2 : Nat} {L1 L2 : List Int} (c : List Int) (p : Option Addr) (n cap : Nat) (hn : c.length = n) (hs : S2 w wi G1 G2 L1 L2) (hb : BytesAt wi G1 p c) (hc : n ≤ cap) (hcm : cap ≤ 9223372036854775807) (hL : L1.length + n ≤ 1152921504606846000) :
    Calls Tryd.prog 20 #[.pointer (some ⟨G1, 0, none⟩), .slice p n cap] wi fun e w' => e = .returned (.tuple #[]) ∧ S2 w w' G1 G2 (L1 ++ c) L2 ∧ Only G1 wi w' :=
  (add_st hT c p n cap hn hs.1 hb hc hcm hL).mono fun _ _ h => ⟨h.1, ⟨h.2.1, hs.2.1.other h.2.1.2.1 h.2.1.2.2.1 h.2.2 (Ne.symm hs.2.2), hs.2.2⟩, h.2.2⟩
theorem add_two2 (hT : TakeSaid) {w wi : World} {G1 G2 : Nat} {L1 L2 : List Int} (c : List Int) (p : Option Addr) (n cap : Nat) (hn : c.length = n) (hs : S2 w wi G1 G2 L1 L2) (hb : BytesAt wi G2 p c) (hc : n ≤ cap) (hcm : cap ≤ 9223372036854775807) (hL : L2.length + n ≤ 1152921504606846000) :
    Calls Tryd.prog 20 #[.pointer (some ⟨G2, 0, none⟩), .slice p n cap] wi fun e w' => e = .returned (.tuple #[]) ∧ S2 w w' G1 G2 L1 (L2 ++ c) ∧ Only G2 wi w' :=
  (add_st hT c p n cap hn hs.2.1 hb hc hcm hL).mono fun _ _ h => ⟨h.1, ⟨hs.1.other h.2.1.2.1 h.2.1.2.2.1 h.2.2 hs.2.2, h.2.1, hs.2.2⟩, h.2.2⟩
theorem bytes_ge {w w' : World} {g : Nat} {p : Option Addr} {l : List Int} (h : BAt w p l) (hb : Below w.heap.size w w') (hg : w.heap.size ≤ g) : BytesAt w' g p l := bytes_of h hb hg

set_option maxHeartbeats 3000000 in
set_option maxRecDepth 100000 in
theorem apart_any (hT : TakeSaid) (Rs : List (List Int)) (tp : Option Addr) (n cap : Nat) (hn : Rs.length = n) (w : World) (hr : BRows w tp Rs) (ht : Tab w 1) :
    Calls Tryd.prog 7 #[.slice tp n cap] w (YesSay w) := by
  subst hn
  have HT := Lib.hid hT; clear hT
  have Ht := Lib.hid ht; clear ht
  have Hr := Lib.hid hr; clear hr
  obtain ⟨i0, hi, hz0, hz1, hz2⟩ := info_parts Tryd.info_u8
  have hng := Tryd.noGuard
  go_enter Tryd.func7, Tryd.ntmps7
  go_upto_region 2 with (go_at_call 19; refine (new_any _).mono ?_; rintro e w1 ⟨rfl, hh1, hb1, hs1⟩)
  have ST1 : Hid (St w w1 w.heap.size []) := St.new Ht.out hh1 hb1
  have hsz1 : w1.heap.size = w.heap.size + 1 := hs1
  clear hh1 hb1 hs1
  go_upto_region 3 with (go_at_call 19; refine (new_any _).mono ?_; rintro e w2 ⟨rfl, hh2, hb2, hs2⟩)
  have S20 : Hid (S2 w w2 w.heap.size (w.heap.size + 1) [] []) := by
    have hbw : Below w.heap.size w w2 := ST1.out.2.1.trans (hb2.mono (by omega))
    rw [hsz1] at hh2
    refine ⟨ST1.out.below hb2, ⟨hh2, hbw, Ht.out.below hbw Ht.out.lt, by omega, by have := Ht.out.lt; omega, hbw.size⟩, by omega⟩
  clear hh2 hb2 hs2 ST1 hsz1
  go_wp2
  go_loopw [5, 6, 7] (fun v5 v6 v7 wr => ∃ k : Nat, k ≤ Rs.length ∧ k ≤ 40 ∧ v7 = .int .i64 k ∧ ∃ La Lb : List Int, Hid (S2 w wr w.heap.size (w.heap.size + 1) La Lb) ∧ Hid (wr.ownsRow (w.heap.size + 2) 5 1 v5 La.length (U8s La)) ∧ Hid (wr.ownsRow (w.heap.size + 2) 5 1 v6 Lb.length (U8s Lb)) ∧ Sha.Byt La ∧ Sha.Byt Lb ∧ La.length ≤ 1024 * k ∧ Lb.length ≤ 1024 * k ∧ Hid (∀ j, v5.ownBlock = some j → v6.ownBlock = some j → False)) (fun _ _ v7 _ => 40 - (intOf v7).toNat)
  case atStart => exact ⟨0, Nat.zero_le _, by omega, rfl, [], [], S20.out, by unfold U8s; exact World.ownsRow_nil _ _ _ _, by unfold U8s; exact World.ownsRow_nil _ _ _ _, fun x hx => by simp at hx, fun x hx => by simp at hx, by simp, by simp, fun j h _ => by cases h⟩
  case round =>
    clear S20
    obtain ⟨k, hk, hk40, rfl, La, Lb, HS, HOa, HOb, HBa, HBb, HLa, HLb, HD⟩ := hrel
    by_cases hlt : k < Rs.length
    · by_cases h40 : k < 40
      · obtain ⟨tb, to, htp, htb, hrows⟩ := Hr.out (by omega)
        subst htp
        obtain ⟨p, c, hcell, hbat, hlc, hcm, hnil⟩ := hrows k hlt
        have HPB := Lib.hid hbat
        have HRB := hbat.1
        clear hrows hbat
        generalize Rs.getD k [] = R at *
        have HCELL : Hid (∀ x, Below w.heap.size w x → x.cell? ⟨tb, to + k, none⟩ = some (.slice p R.length c)) := fun x hx => (hx.cell htb).trans hcell
        have c0 := HCELL.out _ HS.out.1.2.1
        have hn0 : 0 ≤ (k : Int) := by omega
        have hn1 : (k : Int) < (Rs.length : Int) := by omega
        clear hcell
        by_cases hbig : 1024 < R.length
        · go_wp2_with (go_at_call 14; refine (known_any HT.out _ HS.out.1.2.2.1).mono ?_; rintro e w5 ⟨rfl, hb5⟩)
          go_ret
          exact ⟨rfl, HS.out.1.2.1.trans (hb5.mono HS.out.1.2.2.2.2.2)⟩
        · rcases p with _ | ad
          · obtain rfl : c = 0 := hnil rfl
            obtain rfl : R = [] := List.eq_nil_of_length_eq_zero (by omega)
            have HC2 : Hid (∀ x, Below w.heap.size w x → x.cell? ⟨tb, to + k, none⟩ = some (.slice none 0 0)) := HCELL.out
            clear c0 hbig
            have c0 := HC2.out _ HS.out.1.2.1
            by_cases hmod : (k : Int) % 2 = 0
            · skip
              go_wp2_with (first
                | (go_at_call 20; refine (add_one2 HT.out [] none 0 0 rfl HS.out (bytes_ge HPB.out HS.out.1.2.1 (by omega)) (by decide) (by decide) (by omega)).mono ?_; rintro e w2 ⟨rfl, st2, ho2⟩; rw [List.append_nil] at st2; have T2 : Hid (S2 w w2 w.heap.size (w.heap.size + 1) La Lb) := st2; have Oa2 := Lib.hid (own_keep HOa.out (fun g h1 h2 => ho2.block g h2 (by omega))); have Ob2 := Lib.hid (own_keep HOb.out (fun g h1 h2 => ho2.block g h2 (by omega))); have c2 := HC2.out _ T2.out.1.2.1; clear st2 ho2)
                | (at_builtin; refine wpList_append_own_none rfl (.tmp 36) (.tmp 40) 22 rfl (w.heap.size + 2) 5 i0 1 Tryd.underlying22 hi u5 _ _ rfl Oa2.out rfl ?_))
              exact ⟨⟨k + 1, by omega, by omega, by go_num, La, Lb, T2.out, Oa2.out, Ob2.out, HBa, HBb, by omega, by omega, HD.out⟩, by simp [intOf]; omega⟩

            · have hmod2 : ((k : Int) % 2 == 0) = false := by simpa using hmod
              go_wp2_with (first
                | (go_at_call 20; refine (add_two2 HT.out [] none 0 0 rfl HS.out (bytes_ge HPB.out HS.out.1.2.1 (by omega)) (by decide) (by decide) (by omega)).mono ?_; rintro e w2 ⟨rfl, st2, ho2⟩; rw [List.append_nil] at st2; have T2 : Hid (S2 w w2 w.heap.size (w.heap.size + 1) La Lb) := st2; have Oa2 := Lib.hid (own_keep HOa.out (fun g h1 h2 => ho2.block g h2 (by omega))); have Ob2 := Lib.hid (own_keep HOb.out (fun g h1 h2 => ho2.block g h2 (by omega))); have c2 := HC2.out _ T2.out.1.2.1; clear st2 ho2)
                | (at_builtin; refine wpList_append_own_none rfl (.tmp 48) (.tmp 52) 22 rfl (w.heap.size + 2) 5 i0 1 Tryd.underlying22 hi u6 _ _ rfl Ob2.out rfl ?_))
              exact ⟨⟨k + 1, by omega, by omega, by go_num, La, Lb, T2.out, Oa2.out, Ob2.out, HBa, HBb, by omega, by omega, HD.out⟩, by simp [intOf]; omega⟩

          · by_cases hmod : (k : Int) % 2 = 0
            · skip
              go_wp2_with (first
                | (go_at_call 20; refine (add_one2 HT.out R (some ad) R.length c rfl HS.out (bytes_ge HPB.out HS.out.1.2.1 (by omega)) hlc hcm (by omega)).mono ?_; rintro e w2 ⟨rfl, st2, ho2⟩; have T2 : Hid (S2 w w2 w.heap.size (w.heap.size + 1) (La ++ R) Lb) := st2; have Oa2 := Lib.hid (own_keep HOa.out (fun g h1 h2 => ho2.block g h2 (by omega))); have Ob2 := Lib.hid (own_keep HOb.out (fun g h1 h2 => ho2.block g h2 (by omega))); have c2 := HCELL.out _ T2.out.1.2.1; have P2 : Hid (BAt w2 (some ad) R) := HPB.out.old T2.out.1.2.1; clear st2 ho2)
                | (at_builtin; refine append_own2 _ rfl (.tmp 36) (.tmp 40) rfl (w.heap.size + 2) u5 _ _ rfl Oa2.out ad R.length c (R.map (Value.int .u8)) rfl (by simp) (bat_cells P2.out) (bytes_one _) (by omega) (by have := lt_holds T2.out.2.1; omega) ?_; intro v' w5 hown5 hgrow5 hblk; rw [U8s_app] at hown5; have T5 : Hid (S2 w w5 w.heap.size (w.heap.size + 1) (La ++ R) Lb) := ⟨st_grown2 T2.out.1 Ht.out hgrow5 (fun j hj => by have := (Oa2.out.lt j hj).1; omega), st_grown2 T2.out.2.1 Ht.out hgrow5 (fun j hj => by have := (Oa2.out.lt j hj).1; omega), T2.out.2.2⟩; have Oa5 := Lib.hid hown5; have Ob5 := Lib.hid (own_keep2 Ob2.out (fun g hg hlt => hgrow5.block g hlt (fun e => HD.out g e.symm hg))); have HD5 : Hid (∀ j, v'.ownBlock = some j → u6.ownBlock = some j → False) := (fun j h1 h2 => (hblk j h1).elim (fun h3 => HD.out j h3 h2) (fun h3 => by have := (Ob2.out.lt j h2).2; omega)); clear hown5 hgrow5 hblk))
              refine ⟨⟨k + 1, by omega, by omega, by go_num, La ++ R, Lb, T5.out, ?_, Ob5.out, Sha.byt_append HBa HRB, HBb, by rw [List.length_append]; omega, by omega, HD5.out⟩, by simp [intOf]; omega⟩
              show World.ownsRow _ _ _ _ _ _ _
              have h := Oa5.out
              rw [List.length_append] at ⊢
              exact h

            · have hmod2 : ((k : Int) % 2 == 0) = false := by simpa using hmod
              go_wp2_with (first
                | (go_at_call 20; refine (add_two2 HT.out R (some ad) R.length c rfl HS.out (bytes_ge HPB.out HS.out.1.2.1 (by omega)) hlc hcm (by omega)).mono ?_; rintro e w2 ⟨rfl, st2, ho2⟩; have T2 : Hid (S2 w w2 w.heap.size (w.heap.size + 1) La (Lb ++ R)) := st2; have Oa2 := Lib.hid (own_keep HOa.out (fun g h1 h2 => ho2.block g h2 (by omega))); have Ob2 := Lib.hid (own_keep HOb.out (fun g h1 h2 => ho2.block g h2 (by omega))); have c2 := HCELL.out _ T2.out.1.2.1; have P2 : Hid (BAt w2 (some ad) R) := HPB.out.old T2.out.1.2.1; clear st2 ho2)
                | (at_builtin; refine append_own2 _ rfl (.tmp 48) (.tmp 52) rfl (w.heap.size + 2) u6 _ _ rfl Ob2.out ad R.length c (R.map (Value.int .u8)) rfl (by simp) (bat_cells P2.out) (bytes_one _) (by omega) (by have := lt_holds T2.out.2.1; omega) ?_; intro v' w5 hown5 hgrow5 hblk; rw [U8s_app] at hown5; have T5 : Hid (S2 w w5 w.heap.size (w.heap.size + 1) La (Lb ++ R)) := ⟨st_grown2 T2.out.1 Ht.out hgrow5 (fun j hj => by have := (Ob2.out.lt j hj).1; omega), st_grown2 T2.out.2.1 Ht.out hgrow5 (fun j hj => by have := (Ob2.out.lt j hj).1; omega), T2.out.2.2⟩; have Ob5 := Lib.hid hown5; have Oa5 := Lib.hid (own_keep2 Oa2.out (fun g hg hlt => hgrow5.block g hlt (fun e => HD.out g hg e.symm))); have HD5 : Hid (∀ j, u5.ownBlock = some j → v'.ownBlock = some j → False) := (fun j h1 h2 => (hblk j h2).elim (fun h3 => HD.out j h1 h3) (fun h3 => by have := (Oa2.out.lt j h1).2; omega)); clear hown5 hgrow5 hblk))
              refine ⟨⟨k + 1, by omega, by omega, by go_num, La, Lb ++ R, T5.out, Oa5.out, ?_, HBa, Sha.byt_append HBb HRB, by omega, by rw [List.length_append]; omega, HD5.out⟩, by simp [intOf]; omega⟩
              show World.ownsRow _ _ _ _ _ _ _
              have h := Ob5.out
              rw [List.length_append] at ⊢
              exact h

      · have E : k = 40 := by omega
        have hk2 : 40 ≤ (k : Int) := by omega
        have hk3 : (k : Int) < (Rs.length : Int) := by omega
        obtain ⟨pa, ca, hva, hba, hca1, hca2⟩ := bat_own HOa.out HBa
        obtain ⟨pb, cb, hvb, hbb, hcb1, hcb2⟩ := bat_own HOb.out HBb
        subst hva
        subst hvb
        have HBA5 := Lib.hid hba
        have HBB5 := Lib.hid hbb
        obtain ⟨A, HA⟩ : ∃ A : Array Value, Hid (A = ((Sha.dg La).map (Value.int .u8)).toArray) := ⟨_, rfl⟩
        obtain ⟨B, HB⟩ : ∃ B : Array Value, Hid (B = ((Sha.dg Lb).map (Value.int .u8)).toArray) := ⟨_, rfl⟩
        have HEQ : ∀ w, (Op.equalIn 10000 26 (.agg A) (.agg A)).run Tryd.prog w = .ok true w := fun w => by rw [HA.out]; exact sum_same _ (dg_len _) w
        have HEQ2 : ∀ w, (Op.equalIn 10000 26 (.agg B) (.agg B)).run Tryd.prog w = .ok true w := fun w => by rw [HB.out]; exact sum_same _ (dg_len _) w
        clear hba hbb
        go_wp2_with (first
          | (go_at_call 22; refine (sum_st HT.out S7.out.2.1 (by omega)).mono ?_; rintro e w8 ⟨rfl, st8, hb8⟩; rw [← HB.out]; have S8 := Lib.hid st8; have HBB8 := Lib.hid (HBB7.out.old hb8); clear st8 hb8)
          | (go_at_call 22; refine (sum_st HT.out HS.out.1 (by omega)).mono ?_; rintro e w6 ⟨rfl, st6, hb6⟩; rw [← HA.out]; have S6 : Hid (S2 w w6 w.heap.size (w.heap.size + 1) La Lb) := HS.out.below hb6; have HBA6 := Lib.hid (HBA5.out.old hb6); have HBB6 := Lib.hid (HBB5.out.old hb6); clear st6 hb6)
          | (go_at_call 16; refine (of_any'' HT.out Lb pb _ cb rfl _ (fun g hg => HBB8.out.bytes g hg) hcb1 hcb2 (by omega) S8.out.2.2.1).mono ?_; rintro e w9 ⟨rfl, hb9⟩; rw [← HB.out]; have S9 := Lib.hid (S8.out.below hb9); clear hb9)
          | (go_at_call 16; refine (of_any'' HT.out La pa _ ca rfl _ (fun g hg => HBA6.out.bytes g hg) hca1 hca2 (by omega) S6.out.1.2.2.1).mono ?_; rintro e w7 ⟨rfl, hb7⟩; rw [← HA.out]; have S7 : Hid (S2 w w7 w.heap.size (w.heap.size + 1) La Lb) := S6.out.below hb7; have HBB7 := Lib.hid (HBB6.out.old hb7); clear hb7)
          | (go_at_call 14; refine (known_any HT.out _ S9.out.2.2.1).mono ?_; rintro e wA ⟨rfl, hbA⟩; have BWA : Hid (Below w.heap.size w wA) := S9.out.2.1.trans (hbA.mono S9.out.2.2.2.2.2); clear hbA))
        go_ret
        exact ⟨rfl, BWA.out⟩

    · have hk2 : (Rs.length : Int) ≤ (k : Int) := by omega
      obtain ⟨pa, ca, hva, hba, hca1, hca2⟩ := bat_own HOa.out HBa
      obtain ⟨pb, cb, hvb, hbb, hcb1, hcb2⟩ := bat_own HOb.out HBb
      subst hva
      subst hvb
      have HBA5 := Lib.hid hba
      have HBB5 := Lib.hid hbb
      obtain ⟨A, HA⟩ : ∃ A : Array Value, Hid (A = ((Sha.dg La).map (Value.int .u8)).toArray) := ⟨_, rfl⟩
      obtain ⟨B, HB⟩ : ∃ B : Array Value, Hid (B = ((Sha.dg Lb).map (Value.int .u8)).toArray) := ⟨_, rfl⟩
      have HEQ : ∀ w, (Op.equalIn 10000 26 (.agg A) (.agg A)).run Tryd.prog w = .ok true w := fun w => by rw [HA.out]; exact sum_same _ (dg_len _) w
      have HEQ2 : ∀ w, (Op.equalIn 10000 26 (.agg B) (.agg B)).run Tryd.prog w = .ok true w := fun w => by rw [HB.out]; exact sum_same _ (dg_len _) w
      clear hba hbb
      go_wp2_with (first
        | (go_at_call 22; refine (sum_st HT.out S7.out.2.1 (by omega)).mono ?_; rintro e w8 ⟨rfl, st8, hb8⟩; rw [← HB.out]; have S8 := Lib.hid st8; have HBB8 := Lib.hid (HBB7.out.old hb8); clear st8 hb8)
        | (go_at_call 22; refine (sum_st HT.out HS.out.1 (by omega)).mono ?_; rintro e w6 ⟨rfl, st6, hb6⟩; rw [← HA.out]; have S6 : Hid (S2 w w6 w.heap.size (w.heap.size + 1) La Lb) := HS.out.below hb6; have HBA6 := Lib.hid (HBA5.out.old hb6); have HBB6 := Lib.hid (HBB5.out.old hb6); clear st6 hb6)
        | (go_at_call 16; refine (of_any'' HT.out Lb pb _ cb rfl _ (fun g hg => HBB8.out.bytes g hg) hcb1 hcb2 (by omega) S8.out.2.2.1).mono ?_; rintro e w9 ⟨rfl, hb9⟩; rw [← HB.out]; have S9 := Lib.hid (S8.out.below hb9); clear hb9)
        | (go_at_call 16; refine (of_any'' HT.out La pa _ ca rfl _ (fun g hg => HBA6.out.bytes g hg) hca1 hca2 (by omega) S6.out.1.2.2.1).mono ?_; rintro e w7 ⟨rfl, hb7⟩; rw [← HA.out]; have S7 : Hid (S2 w w7 w.heap.size (w.heap.size + 1) La Lb) := S6.out.below hb7; have HBB7 := Lib.hid (HBB6.out.old hb7); clear hb7)
        | (go_at_call 14; refine (known_any HT.out _ S9.out.2.2.1).mono ?_; rintro e wA ⟨rfl, hbA⟩; have BWA : Hid (Below w.heap.size w wA) := S9.out.2.1.trans (hbA.mono S9.out.2.2.2.2.2); clear hbA))
      go_ret
      exact ⟨rfl, BWA.out⟩


end Go.Proofs.YtamdmkknaobgcaaDoor

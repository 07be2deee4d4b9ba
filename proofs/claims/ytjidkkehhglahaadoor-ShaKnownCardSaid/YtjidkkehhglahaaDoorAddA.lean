/-
  The law ShaAdds walked.
-/
import Derived.Test.YtjidkkehhglahaaDoorMacL0
import Derived.Laws.AppendOwnNone
namespace Go.Proofs.YtjidkkehhglahaaDoor
open Go.RowKit

/-- Rows of bytes that came in. -/
def BRows (w : World) (tp : Option Addr) (Rs : List (List Int)) : Prop :=
  0 < Rs.length → ∃ tb to, tp = some ⟨tb, to, none⟩ ∧ tb < w.heap.size ∧ ∀ r, r < Rs.length → ∃ p c, w.cell? ⟨tb, to + r, none⟩ = some (.slice p (Rs.getD r []).length c) ∧ BAt w p (Rs.getD r []) ∧ (Rs.getD r []).length ≤ c ∧ c ≤ 9223372036854775807 ∧ (p = none → c = 0)
theorem own_keep {w w' : World} {B n : Nat} {e : TypeId} {v : Value} {xs : List Value} (h : w.ownsRow B e 1 v n xs) (hk : ∀ g, B ≤ g → g < w.heap.size → w'.heap[g]? = w.heap[g]?) : w'.ownsRow B e 1 v n xs := by
  refine ⟨h.1, ?_⟩
  rcases h.2 with h1 | ⟨g, cap, cur, h1, h2, h3, h4⟩
  · exact Or.inl h1
  · exact Or.inr ⟨g, cap, cur, h1, h2, (hk g h2 (lt_of_block h3)).trans h3, h4⟩
theorem bat_cells {w : World} {ad : Addr} {R : List Int} (h : BAt w (some ad) R) : ∀ j u, (R.map (Value.int .u8))[j]? = some u → w.cell? (ad.add j) = some u := fun j u hj => by
  have hjl : j < R.length := by have := (List.getElem?_eq_some_iff.1 hj).1; simpa using this
  obtain ⟨ab, ao, h1, h2⟩ := h.2 (by omega)
  cases h1
  rw [Addr.add_mid, h2 j hjl]
  rw [List.getElem?_map, List.getElem?_eq_getElem hjl] at hj
  rw [List.getD_eq_getElem?_getD, List.getElem?_eq_getElem hjl]
  simpa using hj
theorem U8s_app (l m : List Int) : U8s l ++ m.map (Value.int .u8) = U8s (l ++ m) := by simp [U8s]
theorem own_len {w : World} {B n : Nat} {v : Value} {l : List Int} (h : w.ownsRow B 5 1 v n (U8s l)) : l.length = n := by
  have := h.1
  unfold U8s at this
  simpa using this

theorem ref_of_n (L : List Int) (p : Option Addr) (n cap : Nat) (w : World) (hn : L.length = n) (hb : ∀ g, w.heap.size ≤ g → BytesAt w g p L) (hL : n ≤ 1000000) (ht : Tab w 1) :
    Calls Tryd.prog 26 #[.slice p n cap] w (SumSay L w) := by
  subst hn
  exact ref_of_any L p cap w hb hL ht
theorem st_grown {w wi w' : World} {L : List Int} {row : Option Nat} (h : St w wi w.heap.size L) (ht : Tab w 0) (hg : wi.grownBy w' row) (hr : ∀ j, row = some j → w.heap.size + 1 ≤ j) : St w w' w.heap.size L := by
  have hlt := lt_holds h
  obtain ⟨⟨R, r1, r2⟩, a2, a3, a4, a5, a6⟩ := h
  have hb : Below w.heap.size w w' := a2.grown hg a6 (fun j hj => by have := hr j hj; omega)
  refine ⟨⟨R, r1, ?_⟩, hb, ht.below hb ht.lt, a4, a5, Nat.le_trans a6 hg.size⟩
  unfold HBlk at r2 ⊢
  rw [hg.block _ hlt (fun e => by have := hr _ e.symm; omega)]
  exact r2
theorem bat_same {w : World} {B c : Nat} {p : Option Addr} {l : List Int} (h : w.ownsRow B 5 1 (.slice p l.length c) l.length (U8s l)) (hb : Sha.Byt l) : BAt w p l := by
  obtain ⟨p', c', h1, h2, _⟩ := bat_own h hb
  injection h1 with h3 _ _
  rw [h3]
  exact h2
def SpoilSay (g : Nat) (w : World) (e : Ending) (w' : World) : Prop := e = .returned (.tuple #[]) ∧ Only g w w'
set_option maxHeartbeats 1000000 in
set_option maxRecDepth 100000 in
theorem spoil_any (l : List Int) (g c : Nat) (n : Nat) (hn : l.length = n) (hL : n ≤ 1000000) (w : World) (hg : w.heap[g]? = some (.cells (l.map (Value.int .u8)).toArray 5 (0, 0))) :
    Calls Tryd.prog 25 #[.slice (some ⟨g, 0, none⟩) n c] w (SpoilSay g w) := by
  subst hn
  have Hg := Lib.hid hg; clear hg
  go_enter Tryd.func25, Tryd.ntmps25
  go_wp2
  go_loopw [2] (fun v2 wr => ∃ k : Nat, k ≤ l.length ∧ v2 = .int .i64 k ∧ ∃ m : List Int, Hid (m.length = l.length) ∧ Hid (wr.heap[g]? = some (.cells (m.map (Value.int .u8)).toArray 5 (0, 0))) ∧ Hid (Only g w wr)) (fun v2 _ => l.length - (intOf v2).toNat)
  case atStart => exact ⟨0, Nat.zero_le _, rfl, l, rfl, Hg.out, Only.refl _ _⟩
  case round =>
    clear Hg
    obtain ⟨k, hk, rfl, m, HM, HG, HO⟩ := hrel
    by_cases hlt : k < l.length
    · have c0 := row_cell HG.out k (by rw [HM.out]; exact hlt)
      have f0 := frozen_of_row wr g k _ _ HG.out
      generalize m.getD k 0 = y at *
      go_wp2
      refine ⟨⟨k + 1, by omega, by go_num, m.set k (bits .xor .u8 y 90), ?_, set_u8' HG.out, ?_⟩, by simp [intOf]; omega⟩
      · show _ = _; rw [List.length_set]; exact HM.out
      · exact HO.out.trans (Chg.setCell wr ⟨g, k, none⟩ _).only
    · have hge : l.length ≤ k := by omega
      clear hlt
      go_wp2
      go_end0
      exact ⟨rfl, HO.out⟩

set_option maxHeartbeats 600000 in
set_option maxRecDepth 100000 in
theorem adds_any (hT : TakeSaid) (Rs : List (List Int)) (tp : Option Addr) (n cap : Nat) (hn : Rs.length = n) (w : World) (hr : BRows w tp Rs) (ht : Tab w 0) (htk : Tab w 1) :
    Calls Tryd.prog 7 #[.slice tp n cap] w (YesSay w) := by
  subst hn
  have HT := Lib.hid hT; clear hT
  have Ht := Lib.hid ht; clear ht
  have Hk := Lib.hid htk; clear htk
  have Hr := Lib.hid hr; clear hr
  obtain ⟨i0, hi, hz0, hz1, hz2⟩ := info_parts Tryd.info_u8
  have hng := Tryd.noGuard
  go_enter Tryd.func7, Tryd.ntmps7
  go_wp2_with (go_at_call 5; refine (new_any _).mono ?_; rintro e w1 ⟨rfl, hh1, hb1, hs1⟩; have S10 : Hid (St w w1 w.heap.size []) := St.new Ht.out hh1 hb1; clear hh1 hb1 hs1)
  go_loopw [4, 5] (fun v4 v5 wr => ∃ k : Nat, k ≤ Rs.length ∧ k ≤ 60 ∧ v5 = .int .i64 k ∧ ∃ L : List Int, Hid (St w wr w.heap.size L) ∧ Hid (wr.ownsRow (w.heap.size + 1) 5 1 v4 L.length (U8s L)) ∧ Sha.Byt L ∧ L.length ≤ 1024 * k) (fun _ v5 _ => 60 - (intOf v5).toNat)
  case atStart => exact ⟨0, Nat.zero_le _, by omega, rfl, [], S10.out, by unfold U8s; exact World.ownsRow_nil _ _ _ _, fun x hx => by simp at hx, by simp⟩
  case round =>
    clear S10
    obtain ⟨k, hk, hk60, rfl, L, HS, HO, HBy, HLn⟩ := hrel
    by_cases hlt : k < Rs.length
    · by_cases h60 : k < 60
      · obtain ⟨tb, to, htp, htb, hrows⟩ := Hr.out (by omega)
        subst htp
        obtain ⟨p, c, hcell, hbat, hlc, hcm, hnil⟩ := hrows k hlt
        have HPB := Lib.hid hbat
        have HRB := hbat.1
        clear hrows hbat
        generalize Rs.getD k [] = R at *
        have HCELL : Hid (∀ x, Below w.heap.size w x → x.cell? ⟨tb, to + k, none⟩ = some (.slice p R.length c)) := fun x hx => (hx.cell htb).trans hcell
        have c0 := HCELL.out _ HS.out.2.1
        have hn0 : 0 ≤ (k : Int) := by omega
        have hn1 : (k : Int) < (Rs.length : Int) := by omega
        clear hcell
        by_cases hbig : 1024 < R.length
        · go_wp2_with (go_at_call 12; refine (known_any HT.out _ HS.out.2.2.1).mono ?_; rintro e w5 ⟨rfl, hb5⟩)
          go_ret
          exact ⟨rfl, HS.out.2.1.trans (hb5.mono HS.out.2.2.2.2.2)⟩
        · have hR5 : (R.length : Int) ≤ (R.length : Int) + 5 := by omega
          rcases p with _ | ad
          · obtain rfl : c = 0 := hnil rfl
            obtain rfl : R = [] := List.eq_nil_of_length_eq_zero (by omega)
            obtain ⟨p5, c5, hv5, hba5, hc51, hc52⟩ := bat_own HO.out HBy
            subst hv5
            obtain ⟨A, HA⟩ : ∃ A : Array Value, Hid (A = ((Sha.dg L).map (Value.int .u8)).toArray) := ⟨_, rfl⟩
            have HEQ : ∀ w, (Op.equalIn 10000 30 (.agg A) (.agg A)).run Tryd.prog w = .ok true w := fun w => by rw [HA.out]; exact sum_same _ (dg_len _) w
            have HC2 : Hid (∀ x, Below w.heap.size w x → x.cell? ⟨tb, to + k, none⟩ = some (.slice none 0 0)) := HCELL.out
            clear c0 hR5 hbig
            have c0 := HC2.out _ HS.out.2.1
            by_cases hmod : (k : Int) % 3 = 1
            · skip
              go_wp2_with (first
                | (go_at_call 23; refine (lent_any [] none 0 _ (HPB.out.old HS.out.2.1) (by decide)).mono ?_; rintro e w1 ⟨gl, rfl, hgl, hhl, hb1⟩; have HGL := Lib.hid hgl; have HHL := Lib.hid hhl; have B1 := Lib.hid hb1; have S1 : Hid (St w w1 w.heap.size L) := HS.out.below hb1; have c1 := HC2.out _ S1.out.2.1; have PL : Hid (BAt w1 (some ⟨gl, 0, none⟩) []) := (by have h := bat_row hhl (mk5_byt HRB); unfold mk5 at h; exact h.pre); have hgne : gl ≠ w.heap.size := (by have := lt_holds HS.out; omega); clear hgl hhl hb1)
                | (go_at_call 6; refine (add_st HT.out [] _ 0 5 rfl S1.out (bat_bytes PL.out rfl hgne) (by omega) (by omega) (by omega)).mono ?_; rintro e w2 ⟨rfl, st2, ho2⟩; rw [List.append_nil] at st2; have S2 := Lib.hid st2; have O2 := Lib.hid ho2; have c2 := HC2.out _ S2.out.2.1; have HH2 := Lib.hid ((ho2.block gl (lt_of_block HHL.out) hgne).trans HHL.out); clear st2 ho2)
                | (go_at_call 24; refine (kept_any [] gl none 5 0 _ (bat_row HH2.out (mk5_byt HRB)) (HPB.out.old S2.out.2.1) (by decide) (by decide)).mono ?_; rintro e w3 ⟨rfl, hb3⟩; have S3 : Hid (St w w3 w.heap.size L) := S2.out.below hb3; have B3 := Lib.hid hb3; have HH3 := Lib.hid ((hb3.block gl (lt_of_block HH2.out)).trans HH2.out); clear hb3)
                | (go_at_call 25; refine (spoil_any (mk5 []) gl _ _ (mk5_len []) (by decide) _ HH3.out).mono ?_; rintro e w4 ⟨rfl, ho4⟩; have hszs := HS.out.2.2.2.2.2; have hgl2 := HGL.out; have B4 : Hid (Below w.heap.size w w4) := ho4.below S3.out.2.1 (by omega) S3.out.2.2.2.2.2; have S4 : Hid (St w w4 w.heap.size L) := S3.out.other B4.out (Ht.out.below B4.out Ht.out.lt) ho4 (Ne.symm hgne); have O4 := Lib.hid (own_keep HO.out (fun g h1 h2 => by rw [ho4.block g (by have := B3.out.size; have := O2.out.size; have := B1.out.size; omega) (by omega), B3.out.block g (by have := O2.out.size; have := B1.out.size; omega), O2.out.block g (by have := B1.out.size; omega) (by omega), B1.out.block g h2])); have c4 := HC2.out _ B4.out; have P4 : Hid (BAt w4 none []) := HPB.out.old B4.out; clear ho4)
                | (at_builtin; refine wpList_append_own_none rfl _ _ 25 rfl (w.heap.size + 1) 5 i0 1 Tryd.underlying25 hi _ _ _ rfl O4.out rfl ?_; have HBA4 : Hid (BAt w4 p5 L) := bat_same O4.out hba5.1)
                | (go_at_call 11; refine (sum_st HT.out S4.out (by omega)).mono ?_; rintro e w6 ⟨rfl, st6, hb6⟩; rw [← HA.out]; have S6 := Lib.hid st6; have O6 := Lib.hid (own_keep O4.out (fun g _ h2 => hb6.block g h2)); have HBA6 := Lib.hid (HBA4.out.old hb6); clear st6 hb6)
                | (go_at_call 26; refine (ref_of_n L p5 _ c5 _ rfl (fun g hg => HBA6.out.bytes g hg) (by omega) (Hk.out.below S6.out.2.1 Hk.out.lt)).mono ?_; rintro e w7 ⟨rfl, hb7⟩; rw [← HA.out]; have S7 := Lib.hid (S6.out.below hb7); have O7 := Lib.hid (own_keep O6.out (fun g _ h2 => hb7.block g h2)); clear hb7))
              exact ⟨⟨k + 1, by omega, by omega, by go_num, L, S7.out, O7.out, HBy, by omega⟩, by simp [intOf]; omega⟩
            · have hmod2 : ((k : Int) % 3 == 1) = false := by simpa using hmod
              go_wp2_with (first
                | (go_at_call 23; refine (lent_any [] none 0 _ (HPB.out.old HS.out.2.1) (by decide)).mono ?_; rintro e w1 ⟨gl, rfl, hgl, hhl, hb1⟩; have HGL := Lib.hid hgl; have HHL := Lib.hid hhl; have B1 := Lib.hid hb1; have S1 : Hid (St w w1 w.heap.size L) := HS.out.below hb1; have c1 := HC2.out _ S1.out.2.1; have PL : Hid (BAt w1 (some ⟨gl, 0, none⟩) []) := (by have h := bat_row hhl (mk5_byt HRB); unfold mk5 at h; exact h.pre); have hgne : gl ≠ w.heap.size := (by have := lt_holds HS.out; omega); clear hgl hhl hb1)
                | (go_at_call 6; refine (add_st HT.out [] _ 0 5 rfl S1.out (bat_bytes PL.out rfl hgne) (by omega) (by omega) (by omega)).mono ?_; rintro e w2 ⟨rfl, st2, ho2⟩; rw [List.append_nil] at st2; have S2 := Lib.hid st2; have O2 := Lib.hid ho2; have c2 := HC2.out _ S2.out.2.1; have HH2 := Lib.hid ((ho2.block gl (lt_of_block HHL.out) hgne).trans HHL.out); clear st2 ho2)
                | (go_at_call 24; refine (kept_any [] gl none 5 0 _ (bat_row HH2.out (mk5_byt HRB)) (HPB.out.old S2.out.2.1) (by decide) (by decide)).mono ?_; rintro e w3 ⟨rfl, hb3⟩; have S3 : Hid (St w w3 w.heap.size L) := S2.out.below hb3; have B3 := Lib.hid hb3; have HH3 := Lib.hid ((hb3.block gl (lt_of_block HH2.out)).trans HH2.out); clear hb3)
                | (go_at_call 25; refine (spoil_any (mk5 []) gl _ _ (mk5_len []) (by decide) _ HH3.out).mono ?_; rintro e w4 ⟨rfl, ho4⟩; have hszs := HS.out.2.2.2.2.2; have hgl2 := HGL.out; have B4 : Hid (Below w.heap.size w w4) := ho4.below S3.out.2.1 (by omega) S3.out.2.2.2.2.2; have S4 : Hid (St w w4 w.heap.size L) := S3.out.other B4.out (Ht.out.below B4.out Ht.out.lt) ho4 (Ne.symm hgne); have O4 := Lib.hid (own_keep HO.out (fun g h1 h2 => by rw [ho4.block g (by have := B3.out.size; have := O2.out.size; have := B1.out.size; omega) (by omega), B3.out.block g (by have := O2.out.size; have := B1.out.size; omega), O2.out.block g (by have := B1.out.size; omega) (by omega), B1.out.block g h2])); have c4 := HC2.out _ B4.out; have P4 : Hid (BAt w4 none []) := HPB.out.old B4.out; clear ho4)
                | (at_builtin; refine wpList_append_own_none rfl _ _ 25 rfl (w.heap.size + 1) 5 i0 1 Tryd.underlying25 hi _ _ _ rfl O4.out rfl ?_; have HBA4 : Hid (BAt w4 p5 L) := bat_same O4.out hba5.1)
                )
              exact ⟨⟨k + 1, by omega, by omega, by go_num, L, S4.out, O4.out, HBy, by omega⟩, by simp [intOf]; omega⟩
          · obtain ⟨A, HA⟩ : ∃ A : Array Value, Hid (A = ((Sha.dg (L ++ R)).map (Value.int .u8)).toArray) := ⟨_, rfl⟩
            have HEQ : ∀ w, (Op.equalIn 10000 30 (.agg A) (.agg A)).run Tryd.prog w = .ok true w := fun w => by rw [HA.out]; exact sum_same _ (dg_len _) w
            by_cases hmod : (k : Int) % 3 = 1
            · skip
              go_wp2_with (first
                | (go_at_call 23; refine (lent_any R (some ad) c _ (HPB.out.old HS.out.2.1) (by omega)).mono ?_; rintro e w1 ⟨gl, rfl, hgl, hhl, hb1⟩; have HGL := Lib.hid hgl; have HHL := Lib.hid hhl; have B1 := Lib.hid hb1; have S1 : Hid (St w w1 w.heap.size L) := HS.out.below hb1; have c1 := HCELL.out _ S1.out.2.1; have PL : Hid (BAt w1 (some ⟨gl, 0, none⟩) R) := (by have h := bat_row hhl (mk5_byt HRB); unfold mk5 at h; exact h.pre); have hgne : gl ≠ w.heap.size := (by have := lt_holds HS.out; omega); clear hgl hhl hb1)
                | (go_at_call 6; refine (add_st HT.out R _ R.length (R.length + 5) rfl S1.out (bat_bytes PL.out rfl hgne) (by omega) (by omega) (by omega)).mono ?_; rintro e w2 ⟨rfl, st2, ho2⟩; have S2 := Lib.hid st2; have O2 := Lib.hid ho2; have c2 := HCELL.out _ S2.out.2.1; have HH2 := Lib.hid ((ho2.block gl (lt_of_block HHL.out) hgne).trans HHL.out); clear st2 ho2)
                | (go_at_call 24; refine (kept_any R gl (some ad) (R.length + 5) c _ (bat_row HH2.out (mk5_byt HRB)) (HPB.out.old S2.out.2.1) (by omega) (by omega)).mono ?_; rintro e w3 ⟨rfl, hb3⟩; have S3 : Hid (St w w3 w.heap.size (L ++ R)) := S2.out.below hb3; have B3 := Lib.hid hb3; have HH3 := Lib.hid ((hb3.block gl (lt_of_block HH2.out)).trans HH2.out); clear hb3)
                | (go_at_call 25; refine (spoil_any (mk5 R) gl _ _ (mk5_len R) (by omega) _ HH3.out).mono ?_; rintro e w4 ⟨rfl, ho4⟩; have hszs := HS.out.2.2.2.2.2; have hgl2 := HGL.out; have B4 : Hid (Below w.heap.size w w4) := ho4.below S3.out.2.1 (by omega) S3.out.2.2.2.2.2; have S4 : Hid (St w w4 w.heap.size (L ++ R)) := S3.out.other B4.out (Ht.out.below B4.out Ht.out.lt) ho4 (Ne.symm hgne); have O4 := Lib.hid (own_keep HO.out (fun g h1 h2 => by rw [ho4.block g (by have := B3.out.size; have := O2.out.size; have := B1.out.size; omega) (by omega), B3.out.block g (by have := O2.out.size; have := B1.out.size; omega), O2.out.block g (by have := B1.out.size; omega) (by omega), B1.out.block g h2])); have c4 := HCELL.out _ B4.out; have P4 : Hid (BAt w4 (some ad) R) := HPB.out.old B4.out; clear ho4)
                | (at_builtin; refine wpList_append_own _ rfl _ _ 25 rfl (w.heap.size + 1) 5 i0 (.int .u8 0) 1 1 Tryd.underlying25 hi hz0 hz1 hz2 rfl (by decide) _ _ _ rfl O4.out ad R.length c (R.map (Value.int .u8)) rfl (by simp) (bat_cells P4.out) (bytes_one _) (by unfold maxLen; omega) (by omega) (by have := lt_holds S4.out; omega) ?_; intro v' w5 hown5 hgrow5 _; rw [U8s_app] at hown5; obtain ⟨p5, c5, rfl, hba5, hc51, hc52⟩ := bat_own hown5 (Sha.byt_append HBy HRB); have S5 := Lib.hid (st_grown S4.out Ht.out hgrow5 (fun j hj => (O4.out.lt j hj).1)); have O5 := Lib.hid hown5; have HBA5 := Lib.hid hba5; clear hown5 hgrow5 hba5)
                | (go_at_call 11; refine (sum_st HT.out S5.out (by rw [List.length_append]; omega)).mono ?_; rintro e w6 ⟨rfl, st6, hb6⟩; rw [← HA.out]; have S6 := Lib.hid st6; have O6 := Lib.hid (own_keep O5.out (fun g _ h2 => hb6.block g h2)); have HBA6 := Lib.hid (HBA5.out.old hb6); clear st6 hb6)
                | (go_at_call 26; refine (ref_of_n (L ++ R) p5 _ c5 _ List.length_append (fun g hg => HBA6.out.bytes g hg) (by omega) (Hk.out.below S6.out.2.1 Hk.out.lt)).mono ?_; rintro e w7 ⟨rfl, hb7⟩; rw [← HA.out]; have S7 := Lib.hid (S6.out.below hb7); have O7 := Lib.hid (own_keep O6.out (fun g _ h2 => hb7.block g h2)); clear hb7))
              refine ⟨⟨k + 1, by omega, by omega, by go_num, L ++ R, S7.out, ?_, Sha.byt_append HBy HRB, by rw [List.length_append]; omega⟩, by simp [intOf]; omega⟩
              show World.ownsRow _ _ _ _ _ _ _
              have h := O7.out
              rw [List.length_append] at h ⊢
              exact h

            · have hmod2 : ((k : Int) % 3 == 1) = false := by simpa using hmod
              go_wp2_with (first
                | (go_at_call 23; refine (lent_any R (some ad) c _ (HPB.out.old HS.out.2.1) (by omega)).mono ?_; rintro e w1 ⟨gl, rfl, hgl, hhl, hb1⟩; have HGL := Lib.hid hgl; have HHL := Lib.hid hhl; have B1 := Lib.hid hb1; have S1 : Hid (St w w1 w.heap.size L) := HS.out.below hb1; have c1 := HCELL.out _ S1.out.2.1; have PL : Hid (BAt w1 (some ⟨gl, 0, none⟩) R) := (by have h := bat_row hhl (mk5_byt HRB); unfold mk5 at h; exact h.pre); have hgne : gl ≠ w.heap.size := (by have := lt_holds HS.out; omega); clear hgl hhl hb1)
                | (go_at_call 6; refine (add_st HT.out R _ R.length (R.length + 5) rfl S1.out (bat_bytes PL.out rfl hgne) (by omega) (by omega) (by omega)).mono ?_; rintro e w2 ⟨rfl, st2, ho2⟩; have S2 := Lib.hid st2; have O2 := Lib.hid ho2; have c2 := HCELL.out _ S2.out.2.1; have HH2 := Lib.hid ((ho2.block gl (lt_of_block HHL.out) hgne).trans HHL.out); clear st2 ho2)
                | (go_at_call 24; refine (kept_any R gl (some ad) (R.length + 5) c _ (bat_row HH2.out (mk5_byt HRB)) (HPB.out.old S2.out.2.1) (by omega) (by omega)).mono ?_; rintro e w3 ⟨rfl, hb3⟩; have S3 : Hid (St w w3 w.heap.size (L ++ R)) := S2.out.below hb3; have B3 := Lib.hid hb3; have HH3 := Lib.hid ((hb3.block gl (lt_of_block HH2.out)).trans HH2.out); clear hb3)
                | (go_at_call 25; refine (spoil_any (mk5 R) gl _ _ (mk5_len R) (by omega) _ HH3.out).mono ?_; rintro e w4 ⟨rfl, ho4⟩; have hszs := HS.out.2.2.2.2.2; have hgl2 := HGL.out; have B4 : Hid (Below w.heap.size w w4) := ho4.below S3.out.2.1 (by omega) S3.out.2.2.2.2.2; have S4 : Hid (St w w4 w.heap.size (L ++ R)) := S3.out.other B4.out (Ht.out.below B4.out Ht.out.lt) ho4 (Ne.symm hgne); have O4 := Lib.hid (own_keep HO.out (fun g h1 h2 => by rw [ho4.block g (by have := B3.out.size; have := O2.out.size; have := B1.out.size; omega) (by omega), B3.out.block g (by have := O2.out.size; have := B1.out.size; omega), O2.out.block g (by have := B1.out.size; omega) (by omega), B1.out.block g h2])); have c4 := HCELL.out _ B4.out; have P4 : Hid (BAt w4 (some ad) R) := HPB.out.old B4.out; clear ho4)
                | (at_builtin; refine wpList_append_own _ rfl _ _ 25 rfl (w.heap.size + 1) 5 i0 (.int .u8 0) 1 1 Tryd.underlying25 hi hz0 hz1 hz2 rfl (by decide) _ _ _ rfl O4.out ad R.length c (R.map (Value.int .u8)) rfl (by simp) (bat_cells P4.out) (bytes_one _) (by unfold maxLen; omega) (by omega) (by have := lt_holds S4.out; omega) ?_; intro v' w5 hown5 hgrow5 _; rw [U8s_app] at hown5; obtain ⟨p5, c5, rfl, hba5, hc51, hc52⟩ := bat_own hown5 (Sha.byt_append HBy HRB); have S5 := Lib.hid (st_grown S4.out Ht.out hgrow5 (fun j hj => (O4.out.lt j hj).1)); have O5 := Lib.hid hown5; have HBA5 := Lib.hid hba5; clear hown5 hgrow5 hba5)
                )
              refine ⟨⟨k + 1, by omega, by omega, by go_num, L ++ R, S5.out, ?_, Sha.byt_append HBy HRB, by rw [List.length_append]; omega⟩, by simp [intOf]; omega⟩
              show World.ownsRow _ _ _ _ _ _ _
              have h := O5.out
              rw [List.length_append] at h ⊢
              exact h

      · have E : k = 60 := by omega
        have hk2 : 60 ≤ (k : Int) := by omega
        have hk3 : (k : Int) < (Rs.length : Int) := by omega
        obtain ⟨p5, c5, hv5, hba5, hc51, hc52⟩ := bat_own HO.out HBy
        subst hv5
        have HBA5 := Lib.hid hba5
        obtain ⟨A, HA⟩ : ∃ A : Array Value, Hid (A = ((Sha.dg L).map (Value.int .u8)).toArray) := ⟨_, rfl⟩
        have HEQ : ∀ w, (Op.equalIn 10000 30 (.agg A) (.agg A)).run Tryd.prog w = .ok true w := fun w => by rw [HA.out]; exact sum_same _ (dg_len _) w
        clear hba5
        go_wp2_with (first
          | (go_at_call 11; refine (sum_st HT.out S7.out (by omega)).mono ?_; rintro e w8 ⟨rfl, st8, hb8⟩; rw [← HA.out]; have S8 := Lib.hid st8; have HBA8 := Lib.hid (HBA7.out.old hb8); clear st8 hb8)
          | (go_at_call 11; refine (sum_st HT.out HS.out (by omega)).mono ?_; rintro e w6 ⟨rfl, st6, hb6⟩; rw [← HA.out]; have S6 := Lib.hid st6; have HBA6 := Lib.hid (HBA5.out.old hb6); clear st6 hb6)
          | (go_at_call 26; refine (ref_of_n L p5 _ c5 _ rfl (fun g hg => HBA6.out.bytes g hg) (by omega) (Hk.out.below S6.out.2.1 Hk.out.lt)).mono ?_; rintro e w7 ⟨rfl, hb7⟩; rw [← HA.out]; have S7 := Lib.hid (S6.out.below hb7); have HBA7 := Lib.hid (HBA6.out.old hb7); clear hb7)
          | (go_at_call 9; refine (of_any'' HT.out L p5 _ c5 rfl _ (fun g hg => HBA8.out.bytes g hg) hc51 hc52 (by omega) S8.out.2.2.1).mono ?_; rintro e w9 ⟨rfl, hb9⟩; rw [← HA.out]; have S9 := Lib.hid (S8.out.below hb9); clear hb9)
          | (go_at_call 12; refine (known_any HT.out _ S9.out.2.2.1).mono ?_; rintro e wA ⟨rfl, hbA⟩; have BWA : Hid (Below w.heap.size w wA) := S9.out.2.1.trans (hbA.mono S9.out.2.2.2.2.2); clear hbA))
        go_ret
        exact ⟨rfl, BWA.out⟩

    · have hk2 : (Rs.length : Int) ≤ (k : Int) := by omega
      obtain ⟨p5, c5, hv5, hba5, hc51, hc52⟩ := bat_own HO.out HBy
      subst hv5
      have HBA5 := Lib.hid hba5
      obtain ⟨A, HA⟩ : ∃ A : Array Value, Hid (A = ((Sha.dg L).map (Value.int .u8)).toArray) := ⟨_, rfl⟩
      have HEQ : ∀ w, (Op.equalIn 10000 30 (.agg A) (.agg A)).run Tryd.prog w = .ok true w := fun w => by rw [HA.out]; exact sum_same _ (dg_len _) w
      clear hba5
      go_wp2_with (first
        | (go_at_call 11; refine (sum_st HT.out S7.out (by omega)).mono ?_; rintro e w8 ⟨rfl, st8, hb8⟩; rw [← HA.out]; have S8 := Lib.hid st8; have HBA8 := Lib.hid (HBA7.out.old hb8); clear st8 hb8)
        | (go_at_call 11; refine (sum_st HT.out HS.out (by omega)).mono ?_; rintro e w6 ⟨rfl, st6, hb6⟩; rw [← HA.out]; have S6 := Lib.hid st6; have HBA6 := Lib.hid (HBA5.out.old hb6); clear st6 hb6)
        | (go_at_call 26; refine (ref_of_n L p5 _ c5 _ rfl (fun g hg => HBA6.out.bytes g hg) (by omega) (Hk.out.below S6.out.2.1 Hk.out.lt)).mono ?_; rintro e w7 ⟨rfl, hb7⟩; rw [← HA.out]; have S7 := Lib.hid (S6.out.below hb7); have HBA7 := Lib.hid (HBA6.out.old hb7); clear hb7)
        | (go_at_call 9; refine (of_any'' HT.out L p5 _ c5 rfl _ (fun g hg => HBA8.out.bytes g hg) hc51 hc52 (by omega) S8.out.2.2.1).mono ?_; rintro e w9 ⟨rfl, hb9⟩; rw [← HA.out]; have S9 := Lib.hid (S8.out.below hb9); clear hb9)
        | (go_at_call 12; refine (known_any HT.out _ S9.out.2.2.1).mono ?_; rintro e wA ⟨rfl, hbA⟩; have BWA : Hid (Below w.heap.size w wA) := S9.out.2.1.trans (hbA.mono S9.out.2.2.2.2.2); clear hbA))
      go_ret
      exact ⟨rfl, BWA.out⟩


end Go.Proofs.YtjidkkehhglahaaDoor

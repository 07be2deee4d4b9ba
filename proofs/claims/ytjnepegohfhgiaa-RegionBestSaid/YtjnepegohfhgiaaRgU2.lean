/-
  The law RegionBest walked.
-/
import Derived.Test.YtjnepegohfhgiaaRgU
namespace Go.Proofs.Ytjnepegohfhgiaa
open Go.RowKit

set_option maxHeartbeats 2000000 in
set_option maxRecDepth 100000 in
theorem best_some (L : List Rg.R) (p : Option Addr) (n c : Nat) (hn : L.length = n) (hL : n ≤ 300) (lv : Int) (hl0 : 0 ≤ lv) (hl1 : lv ≤ 1099511627776) (w : World) (hp : Rs w p c L) (x : Rg.R) (hx : Rg.Ok x) (hm : x ∈ L) (hst : x.st ≤ lv + 1)
    (hb : ∀ i, i < n → (L.getD i Rg.zero).st ≤ lv + 1 → (L.getD i Rg.zero).st ≤ x.st)
    (hget : ∀ y q d, Rs y q d L → Calls Try.prog 21 #[.slice q n d, .int .i64 lv] y (fun e w' => e = .returned (.tuple #[.agg (RAr x), .bool true]) ∧ Hid (Below y.heap.size y w'))) :
    Calls Try.prog 9 #[.slice p n c, .int .i64 lv] w (YesSay w) := by
  have HWK : Hid (∀ y, Calls Try.prog 15 #[] y (YesSay y)) := fun y => works_any y
  have HP := Lib.hid hp
  have HN := Lib.hid hn
  have HB := Lib.hid hb
  have HG := Lib.hid hget
  have HH : Hid (∀ y, Below w.heap.size w y → Calls Try.prog 33 #[.slice p n c, .agg (RAr x)] y (BlSay true y)) := fun y hy => by
    have h := rhas_any L x hx p n c hn (by omega) y (hp.old hy)
    rw [decide_eq_true hm] at h
    exact h
  have HAS : Hid ((RAr x).size = 136) := rar_size hx
  have HA1 : Hid ((RAr x).all (·.oneCell') = true) := rar_one _
  have HST : Hid (∀ (z : World) g t, z.heap[g]? = some (.cells (RAr x) t (0, 0)) → z.cell? ⟨g, 1, none⟩ = some (.int .i64 x.st)) := fun z g t h => rar_st h
  obtain ⟨Z, hZ⟩ : ∃ Z, Hid (RAr Rg.zero = Z) := ⟨_, rfl⟩
  have HZS : Hid (Z.size = 136) := by show _ = _; rw [← hZ.out]; exact rar_size Rg.ok_zero
  have hz := (zero_of_info Try.zeroRec).1
  rw [show (cv Rg.zero).toArray = Z from hZ.out] at hz
  have hzn : ¬ Z = #[] := fun h => by have := HZS.out; rw [h] at this; simp at this
  have hsz := row_size Try.sizeRec HZS
  have hl : ¬ (n : Int) > 300 := by omega
  have hl2 : ¬ lv < 0 := by omega
  have hl3 : ¬ lv > 1099511627776 := by omega
  have hw : IntKind.i64.wrap (lv + 1) = lv + 1 := IntWalk.i64_in _ ⟨by omega, by omega⟩
  have hgt : ¬ x.st > lv + 1 := by omega
  clear hp hn hb hget hx hm hst
  generalize x.st = xs at *
  generalize RAr x = A at *
  go_enter Try.func9, Try.ntmps9
  go_upto_region 4 with (first
    | (go_at_call 21; refine (HG.out _ _ _ HP.out).mono ?_; rintro e1 w1 ⟨rfl, HB1⟩)
    | ((with_reducible refine row_store _ _ _ _ _ _ _ ?_ ?_ (heap_alloc_new _ _) (row_size Try.sizeRec HAS) ?_ HA1.out ?_); (exact rfl); (exact rfl); (rw [HAS.out, HZS.out]); intro w2 G2 ch2))
  have HB2 : Hid (Below w.heap.size w w2) := ch2.below (HB1.out.alloc HB1.out.size _) HB1.out.size
  obtain ⟨g, hg⟩ : ∃ b, w1.heap.size = b := ⟨_, rfl⟩
  rw [hg] at G2 ⊢
  clear hg ch2 HB1
  go_upto_region 6 with (first
    | ((with_reducible refine row_load_g _ _ _ _ _ _ _ ?_ ?_ G2.out Try.underlying29 ?_ (row_size Try.sizeRec HAS) ?_); (exact rfl); (exact rfl); (exact rfl))
    | (go_at_call 33; refine (HH.out _ HB2.out).mono ?_; rintro e3 w3 ⟨rfl, hb3⟩; have HB3 := Lib.hid (HB2.out.trans (hb3.mono HB2.out.size)); have G3 := Lib.hid ((hb3.block _ (lt_of_block G2.out)).trans G2.out); have c3 := HST.out _ _ _ G3.out; clear hb3))
  clear HG HH HB2 G2 c3
  go_wp2
  go_loopw [7] (fun v7 wr => ∃ k : Nat, k ≤ n ∧ v7 = .int .i64 k ∧ Hid (wr.heap[g]? = some (.cells A 29 (0, 0))) ∧ Hid (Below w.heap.size w wr)) (fun v7 _ => n - (intOf v7).toNat)
  case atStart => exact ⟨0, by omega, rfl, G3.out, HB3.out⟩
  case round =>
    clear G3 HB3
    obtain ⟨k, hk, rfl, G4, HB4⟩ := hrel
    by_cases hlt : k < n
    · obtain ⟨ab, ao, hpp, _⟩ := HP.out.at_ (by rw [HN.out]; omega)
      subst hpp
      have ck := rst_cell (HP.out.old HB4.out) (i := k) (by rw [HN.out]; exact hlt)
      have cx := HST.out _ _ _ G4.out
      have hi0 : 0 ≤ (k : Int) := by omega
      have hi1 : (k : Int) < (n : Int) := by omega
      have hbk := HB.out k hlt
      generalize (L.getD k Rg.zero).st = st at *
      by_cases h2 : st ≤ lv + 1
      · have h3 : ¬ st > xs := by have := hbk h2; omega
        clear hbk
        go_upto_region 9 with (fail)
        go_quiet ((fail))
        go_wp2
        exact ⟨⟨k + 1, by omega, by go_num, G4.out, below_dn HB4.out _⟩, by simp [intOf]; omega⟩
      · clear hbk
        go_upto_region 9 with (fail)
        go_quiet ((fail))
        go_wp2
        exact ⟨⟨k + 1, by omega, by go_num, G4.out, below_dn HB4.out _⟩, by simp [intOf]; omega⟩
    · have hge : n ≤ k := by omega
      clear hlt
      go_wp2_with (go_at_call 15; refine (HWK.out _).mono ?_; rintro e7 w7 ⟨rfl, hb7⟩; have B7 := Lib.hid (HB4.out.trans (hb7.mono HB4.out.size)); clear hb7)
      go_ret
      exact ⟨rfl, B7.out⟩
set_option maxHeartbeats 2000000 in
set_option maxRecDepth 100000 in
theorem best_none (L : List Rg.R) (p : Option Addr) (n c : Nat) (hn : L.length = n) (hL : n ≤ 300) (lv : Int) (hl0 : 0 ≤ lv) (hl1 : lv ≤ 1099511627776) (w : World) (hp : Rs w p c L)
    (hb : ∀ i, i < n → ¬ (L.getD i Rg.zero).st ≤ lv + 1)
    (hget : ∀ y q d, Rs y q d L → Calls Try.prog 21 #[.slice q n d, .int .i64 lv] y (fun e w' => e = .returned (.tuple #[.agg (RAr Rg.zero), .bool false]) ∧ Hid (Below y.heap.size y w'))) :
    Calls Try.prog 9 #[.slice p n c, .int .i64 lv] w (YesSay w) := by
  have HWK : Hid (∀ y, Calls Try.prog 15 #[] y (YesSay y)) := fun y => works_any y
  have HP := Lib.hid hp
  have HN := Lib.hid hn
  have HB := Lib.hid hb
  have HG := Lib.hid hget
  obtain ⟨Z, hZ⟩ : ∃ Z, Hid (RAr Rg.zero = Z) := ⟨_, rfl⟩
  have HZS : Hid (Z.size = 136) := by show _ = _; rw [← hZ.out]; exact rar_size Rg.ok_zero
  have HZ1 : Hid (Z.all (·.oneCell') = true) := by show _ = _; rw [← hZ.out]; exact rar_one _
  have hz := (zero_of_info Try.zeroRec).1
  rw [show (cv Rg.zero).toArray = Z from hZ.out] at hz
  rw [hZ.out] at HG
  have hzn : ¬ Z = #[] := fun h => by have := HZS.out; rw [h] at this; simp at this
  have hsz := row_size Try.sizeRec HZS
  have hl : ¬ (n : Int) > 300 := by omega
  have hl2 : ¬ lv < 0 := by omega
  have hl3 : ¬ lv > 1099511627776 := by omega
  have hw : IntKind.i64.wrap (lv + 1) = lv + 1 := IntWalk.i64_in _ ⟨by omega, by omega⟩
  clear hp hn hb hget
  go_enter Try.func9, Try.ntmps9
  go_upto_region 4 with (first
    | (go_at_call 21; refine (HG.out _ _ _ HP.out).mono ?_; rintro e1 w1 ⟨rfl, HB1⟩)
    | ((with_reducible refine row_store _ _ _ _ _ _ _ ?_ ?_ (heap_alloc_new _ _) (row_size Try.sizeRec HZS) ?_ HZ1.out ?_); (exact rfl); (exact rfl); (rw [HZS.out]); intro w2 G2 ch2))
  have HB2 : Hid (Below w.heap.size w w2) := ch2.below (HB1.out.alloc HB1.out.size _) HB1.out.size
  obtain ⟨g, hg⟩ : ∃ b, w1.heap.size = b := ⟨_, rfl⟩
  rw [hg]
  clear hg ch2 HB1 G2
  go_wp2
  go_loopw [7] (fun v7 wr => ∃ k : Nat, k ≤ n ∧ v7 = .int .i64 k ∧ Hid (Below w.heap.size w wr)) (fun v7 _ => n - (intOf v7).toNat)
  case atStart => exact ⟨0, by omega, rfl, HB2.out⟩
  case round =>
    clear HB2
    obtain ⟨k, hk, rfl, HB4⟩ := hrel
    by_cases hlt : k < n
    · obtain ⟨ab, ao, hpp, _⟩ := HP.out.at_ (by rw [HN.out]; omega)
      subst hpp
      have ck := rst_cell (HP.out.old HB4.out) (i := k) (by rw [HN.out]; exact hlt)
      have hi0 : 0 ≤ (k : Int) := by omega
      have hi1 : (k : Int) < (n : Int) := by omega
      have h2 : decide ((L.getD k Rg.zero).st ≤ lv + 1) = false := decide_eq_false (by have := HB.out k hlt; omega)
      generalize (L.getD k Rg.zero).st = st at *
      go_upto_region 9 with (fail)
      go_quiet ((fail))
      go_wp2
      exact ⟨⟨k + 1, by omega, by go_num, below_dn HB4.out _⟩, by simp [intOf]; omega⟩
    · have hge : n ≤ k := by omega
      clear hlt
      go_wp2_with (go_at_call 15; refine (HWK.out _).mono ?_; rintro e7 w7 ⟨rfl, hb7⟩; have B7 := Lib.hid (HB4.out.trans (hb7.mono HB4.out.size)); clear hb7)
      go_ret
      exact ⟨rfl, B7.out⟩
set_option maxHeartbeats 1000000 in
set_option maxRecDepth 100000 in
theorem best_far (p : Option Addr) (n c : Nat) (lv : Int) (w : World) (h : 300 < n ∨ lv < 0 ∨ lv > 1099511627776) : Calls Try.prog 9 #[.slice p n c, .int .i64 lv] w (YesSay w) := by
  by_cases h1 : (n : Int) > 300
  · clear h
    go_enter Try.func9, Try.ntmps9
    go_wp2_with (go_at_call 15; refine (works_any _).mono ?_; rintro e1 w1 ⟨rfl, hb1⟩)
    go_ret
    exact ⟨rfl, hb1⟩
  · by_cases h2 : lv < 0
    · clear h
      go_enter Try.func9, Try.ntmps9
      go_wp2_with (go_at_call 15; refine (works_any _).mono ?_; rintro e1 w1 ⟨rfl, hb1⟩)
      go_ret
      exact ⟨rfl, hb1⟩
    · have h3 : lv > 1099511627776 := by omega
      clear h
      go_enter Try.func9, Try.ntmps9
      go_wp2_with (go_at_call 15; refine (works_any _).mono ?_; rintro e1 w1 ⟨rfl, hb1⟩)
      go_ret
      exact ⟨rfl, hb1⟩
theorem best_any (L : List Rg.R) (p : Option Addr) (n c : Nat) (hn : L.length = n) (lv : Int) (hlv : Pk.In64 lv) (w : World) (hp : Rs w p c L) :
    Calls Try.prog 9 #[.slice p n c, .int .i64 lv] w (YesSay w) := by
  by_cases hf : 300 < n ∨ lv < 0 ∨ lv > 1099511627776
  · exact best_far p n c lv w hf
  · obtain ⟨h1, h2⟩ := Rg.chk_best lv (L := L) n (by omega)
    have hc := Rg.chk_all lv hn
    rw [hc] at h1 h2
    have hget : ∀ y q d, Rs y q d L → Calls Try.prog 21 #[.slice q n d, .int .i64 lv] y (ChSay (Rg.ch lv L) y) := fun y q d h => choose_any L q n d hn (by omega) lv hlv y h
    cases ho : Rg.ch lv L with
    | some x =>
      have hm : x ∈ L := Rg.chk_mem lv n (by omega) x (by rw [hc]; exact ho)
      rw [ho] at hget
      exact best_some L p n c hn (by omega) lv (by omega) (by omega) w hp x (hp.ok x hm) hm ((late_niff lv x).1 (h1 x ho).1) (fun i hi h => (h1 x ho).2 i hi ((late_niff lv _).2 h)) (fun y q d h => by
        have h3 := hget y q d h
        unfold ChSay at h3
        rw [show (some x).getD Rg.zero = x from rfl, rv_eq] at h3
        exact h3)
    | none =>
      rw [ho] at hget
      exact best_none L p n c hn (by omega) lv (by omega) (by omega) w hp (fun i hi => (late_iff lv _).1 (h2 ho i hi)) (fun y q d h => by
        have h3 := hget y q d h
        unfold ChSay at h3
        rw [show (none : Option Rg.R).getD Rg.zero = Rg.zero from rfl, rv_eq] at h3
        exact h3)
end Go.Proofs.Ytjnepegohfhgiaa

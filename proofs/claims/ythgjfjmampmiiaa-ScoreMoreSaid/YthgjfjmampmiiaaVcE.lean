/-
  Contract: the reference's Victim.
-/
import Derived.Test.YthgjfjmampmiiaaVcD
namespace Go.Proofs.Ythgjfjmampmiiaa
open Go.RowKit

theorem Vc.rb_some (st : Option (Nat × Int)) (h : ∀ p m, st = some (p, m) → 0 ≤ m) : decide (0 ≤ Vc.rb st) = st.isSome := by
  rcases st with _ | ⟨p, m⟩
  · rfl
  · exact decide_eq_true (h p m rfl)
theorem Vc.offer_cmp (i : Nat) (n : Int) (h0 : 0 ≤ n) (st : Option (Nat × Int)) : (Vc.rb st < n → Vc.pl (Vc.offer i n st) = (i : Int) ∧ Vc.rb (Vc.offer i n st) = n) ∧ (¬ Vc.rb st < n → Vc.offer i n st = st) := by
  rcases st with _ | ⟨p, m⟩
  · refine ⟨fun _ => ⟨rfl, rfl⟩, fun h => absurd (show (-1 : Int) < n by omega) h⟩
  · refine ⟨fun h => ?_, fun h => ?_⟩
    · have h' : m < n := h
      have e : Vc.offer i n (some (p, m)) = some (i, n) := by show (if m < n then _ else _) = _; rw [if_pos h']
      rw [e]; exact ⟨rfl, rfl⟩
    · have h' : ¬ m < n := h
      show (if m < n then _ else _) = _; rw [if_neg h']
set_option maxHeartbeats 4000000 in
set_option maxRecDepth 100000 in
theorem rvictim_any (L : List Us.S) (p : Option Addr) (n c : Nat) (hn : L.length = n) (hl : n ≤ 10000) (s lean now : Int) (hnow : In64 now) (hin : ∀ i, i < n → In64 (Us.at_ L i).a) (w : World) (h : SgS w p L) :
    Calls Try.prog 13 #[.slice p n c, .int .i64 s, .int .i64 lean, .int .i64 now] w (ViSay (Vc.vic s lean now L) w) := by
  have HT : Hid (∀ y, Below w.heap.size w y → SgS y p L) := fun y hy => h.old hy
  have HIN := Lib.hid hin
  have HNOW := Lib.hid hnow
  have HN := Lib.hid hn
  have HFIN : Hid (decide (0 ≤ Vc.rb (Vc.vicn s lean now L n)) = (Vc.vicn s lean now L n).isSome) := Vc.rb_some _ (fun p m h => by
    have := (Vc.vicn_is h).2.2
    rw [this]
    exact (Vc.worth_in _ _ _).1)
  unfold Vc.vic
  rw [hn]
  clear h hin hn hnow
  go_enter Try.func13, Try.ntmps13
  go_wp2
  go_loopw [10, 11, 12, 13] (fun v10 v11 v12 _ wr => ∃ i : Nat, i ≤ n ∧ v12 = .int .i64 i ∧ v10 = .int .i64 (Vc.rb (Vc.vicn s lean now L i)) ∧ v11 = .int .i64 (Vc.pl (Vc.vicn s lean now L i)) ∧ Hid (Below w.heap.size w wr)) (fun _ _ v12 _ _ => n - (intOf v12).toNat)
  case atStart => exact ⟨0, Nat.zero_le _, rfl, rfl, rfl, Below.refl _ _⟩
  case round =>
    obtain ⟨i, hi, rfl, rfl, rfl, HB⟩ := hrel
    by_cases hlt : i < n
    · obtain ⟨ab, ao, hp, hr⟩ := (HT.out _ HB.out) (by rw [HN.out]; omega)
      subst hp
      have HR : Hid (wr.rangeAt ab (ao + i * 3) (SgA (Us.at_ L i)).toList) := hr i (by rw [HN.out]; exact hlt)
      clear hr
      have hi0 : 0 ≤ (i : Int) := by omega
      have hi1 : (i : Int) < (n : Int) := by omega
      have HIX := Lib.hid (HIN.out i hlt)
      have HYES : Hid (Vc.may lean (Us.at_ L i) → Vc.vicn s lean now L (i + 1) = Vc.offer i (Vc.worth s now (Us.at_ L i)) (Vc.vicn s lean now L i)) := Vc.vicn_yes
      have HNO : Hid (¬ Vc.may lean (Us.at_ L i) → Vc.vicn s lean now L (i + 1) = Vc.vicn s lean now L i) := Vc.vicn_no
      obtain ⟨nx, hnx⟩ : ∃ nx, Vc.vicn s lean now L (i + 1) = nx := ⟨_, rfl⟩
      rw [hnx] at HYES HNO
      have HNX := Lib.hid hnx
      clear hnx
      have HCM := Lib.hid (Vc.offer_cmp i (Vc.worth s now (Us.at_ L i)) (Vc.worth_in s now (Us.at_ L i)).1 (Vc.vicn s lean now L i))
      obtain ⟨st, hst⟩ : ∃ st, Vc.vicn s lean now L i = st := ⟨_, rfl⟩
      rw [hst] at HYES HNO HCM ⊢
      clear hst
      generalize Us.at_ L i = x at *
      have HA : Hid (∀ y, Calls Try.prog 18 #[.int .i64 now, .int .i64 x.a] y fun e w' => e = .returned (.int .i64 (Vc.age now x.a)) ∧ w' = y) := fun y => rage_any now x.a HNOW.out HIX.out y
      have HO : Hid (∀ y, Calls Try.prog 9 #[.int .i64 s, .int .i64 x.l, .int .i64 (Vc.age now x.a)] y fun e w' => e = .returned (.int .i64 (Vc.worth s now x)) ∧ w' = y) := fun y => rof_any s x.l (Vc.age now x.a) y
      generalize Vc.worth s now x = wo at *
      generalize Vc.age now x.a = ag at *
      obtain ⟨bst, hbst⟩ : ∃ q, Vc.rb st = q := ⟨_, rfl⟩
      obtain ⟨pst, hpst⟩ : ∃ q, Vc.pl st = q := ⟨_, rfl⟩
      rw [hbst] at HCM
      have HBP := Lib.hid (And.intro hbst hpst)
      rw [hbst, hpst]
      clear hbst hpst
      obtain ⟨x0, x1, x2⟩ := rng_cells HR.out
      by_cases h1 : x.s = 2
      · by_cases h2 : x.l < 0
        · have e := HNO.out (fun h => by have := h.2.1; omega)
          subst e
          clear HYES HNO HA HO HCM
          go_wp2
          exact ⟨⟨i + 1, by omega, by go_num, by rw [HNX.out, HBP.out.1], by rw [HNX.out, HBP.out.2], HB⟩, by simp [intOf]; omega⟩
        · by_cases h3 : lean < x.l
          · have e := HNO.out (fun h => by have := h.2.2; omega)
            subst e
            clear HYES HNO HA HO HCM
            go_wp2
            exact ⟨⟨i + 1, by omega, by go_num, by rw [HNX.out, HBP.out.1], by rw [HNX.out, HBP.out.2], HB⟩, by simp [intOf]; omega⟩
          · have e := HYES.out ⟨h1, by omega, by omega⟩
            clear HYES HNO
            by_cases h4 : bst < wo
            · have HE := Lib.hid (HCM.out.1 h4)
              rw [← e] at HE
              clear HCM e
              go_upto_region 7 with (fail)
              refine wp_region_any (by kernel_rfl) ?_
              change wpAny _ _ _ _ _ _ _ (World.drew _)
              have SD : wr.drew.rangeAt ab (ao + i * 3) (SgA x).toList := rng_old HR.out (Below.refl _ wr).drew
              have B7 : Hid (Below w.heap.size w wr.drew) := HB.out.drew
              obtain ⟨z, hz⟩ : ∃ y, y = wr.drew := ⟨_, rfl⟩
              rw [← hz] at SD B7 ⊢
              clear hz
              refine wpAny_of_held (S := fun y => y.rangeAt ab (ao + i * 3) (SgA x).toList) _ _ _ _ ?_
              refine anyH_take 0 43 (.int .i64 s) SD rfl (by kernel_rfl) (by kernel_rfl) (by kernel_rfl) (fun _ _ _ h => h) (by rfl) (by intro y hy; go_simp) ?_
              try simp only [Act.put, List.setIfInBounds_toArray, List.set_cons_zero, List.set_cons_succ]
              refine anyH_take 1 44 (.slice (some ⟨ab, ao, none⟩) n c) SD rfl (by kernel_rfl) (by kernel_rfl) (by kernel_rfl) (fun _ _ _ h => h) (by rfl) (by intro y hy; go_simp) ?_
              try simp only [Act.put, List.setIfInBounds_toArray, List.set_cons_zero, List.set_cons_succ]
              refine anyH_take 2 45 (.int .i64 (i : Int)) SD rfl (by kernel_rfl) (by kernel_rfl) (by kernel_rfl) (fun _ _ _ h => h) (by rfl) (by intro y hy; go_simp) ?_
              try simp only [Act.put, List.setIfInBounds_toArray, List.set_cons_zero, List.set_cons_succ]
              refine anyH_take 3 46 (.pointer (some ⟨ab, ao + i * 3, none⟩)) SD rfl (by kernel_rfl) (by kernel_rfl) (by kernel_rfl) (fun _ _ _ h => h) (by rfl) (by intro y hy; go_simp; try (intro h; omega)) ?_
              try simp only [Act.put, List.setIfInBounds_toArray, List.set_cons_zero, List.set_cons_succ]
              refine anyH_take 4 47 (.pointer (some ⟨ab, ao + i * 3 + 1, none⟩)) SD rfl (by kernel_rfl) (by kernel_rfl) (by kernel_rfl) (fun _ _ _ h => h) (by rfl) (by intro y hy; go_simp; try (intro h; omega)) ?_
              try simp only [Act.put, List.setIfInBounds_toArray, List.set_cons_zero, List.set_cons_succ]
              refine anyH_take 5 48 (.int .i64 x.l) SD rfl (by kernel_rfl) (by kernel_rfl) (by kernel_rfl) (fun _ _ _ h => h) (by rfl) (by intro y hy; obtain ⟨y0, y1, y2⟩ := rng_cells hy; go_simp) ?_
              try simp only [Act.put, List.setIfInBounds_toArray, List.set_cons_zero, List.set_cons_succ]
              refine anyH_take 6 49 (.int .i64 now) SD rfl (by kernel_rfl) (by kernel_rfl) (by kernel_rfl) (fun _ _ _ h => h) (by rfl) (by intro y hy; go_simp) ?_
              try simp only [Act.put, List.setIfInBounds_toArray, List.set_cons_zero, List.set_cons_succ]
              refine anyH_take 7 50 (.slice (some ⟨ab, ao, none⟩) n c) SD rfl (by kernel_rfl) (by kernel_rfl) (by kernel_rfl) (fun _ _ _ h => h) (by rfl) (by intro y hy; go_simp) ?_
              try simp only [Act.put, List.setIfInBounds_toArray, List.set_cons_zero, List.set_cons_succ]
              refine anyH_take 8 51 (.int .i64 (i : Int)) SD rfl (by kernel_rfl) (by kernel_rfl) (by kernel_rfl) (fun _ _ _ h => h) (by rfl) (by intro y hy; go_simp) ?_
              try simp only [Act.put, List.setIfInBounds_toArray, List.set_cons_zero, List.set_cons_succ]
              refine anyH_take 9 52 (.pointer (some ⟨ab, ao + i * 3, none⟩)) SD rfl (by kernel_rfl) (by kernel_rfl) (by kernel_rfl) (fun _ _ _ h => h) (by rfl) (by intro y hy; go_simp; try (intro h; omega)) ?_
              try simp only [Act.put, List.setIfInBounds_toArray, List.set_cons_zero, List.set_cons_succ]
              refine anyH_take 10 53 (.pointer (some ⟨ab, ao + i * 3 + 2, none⟩)) SD rfl (by kernel_rfl) (by kernel_rfl) (by kernel_rfl) (fun _ _ _ h => h) (by rfl) (by intro y hy; go_simp; try (intro h; omega)) ?_
              try simp only [Act.put, List.setIfInBounds_toArray, List.set_cons_zero, List.set_cons_succ]
              refine anyH_take 11 54 (.int .i64 x.a) SD rfl (by kernel_rfl) (by kernel_rfl) (by kernel_rfl) (fun _ _ _ h => h) (by rfl) (by intro y hy; obtain ⟨y0, y1, y2⟩ := rng_cells hy; go_simp) ?_
              try simp only [Act.put, List.setIfInBounds_toArray, List.set_cons_zero, List.set_cons_succ]
              refine anyH_one 12 (by kernel_rfl) ?_
              refine wpOp_step rfl (fun Kc hKc => ?_)
              go_simp
              refine (HA.out _).mono ?_
              rintro e8 w8 ⟨rfl, rfl⟩

              dsimp only
              refine hKc _ _ ⟨SD, ?_⟩
              clear hKc Kc
              try simp only [Act.put, List.setIfInBounds_toArray, List.set_cons_zero, List.set_cons_succ]
              refine anyH_one 13 (by kernel_rfl) ?_
              refine wpOp_step rfl (fun Kc hKc => ?_)
              go_simp
              refine (HO.out _).mono ?_
              rintro e9 w9 ⟨rfl, rfl⟩

              dsimp only
              refine hKc _ _ ⟨SD, ?_⟩
              clear hKc Kc
              try simp only [Act.put, List.setIfInBounds_toArray, List.set_cons_zero, List.set_cons_succ]
              refine anyH_take 14 13 (.int .i64 wo) SD rfl (by kernel_rfl) (by kernel_rfl) (by kernel_rfl) (fun _ _ _ h => h) (by rfl) (by intro y hy; go_simp) ?_
              try simp only [Act.put, List.setIfInBounds_toArray, List.set_cons_zero, List.set_cons_succ]
              refine wpAnyH_done (by kernel_rfl) ?_ _
              go_wp2
              exact ⟨⟨i + 1, by omega, by go_num, by rw [HNX.out, HE.out.2], by rw [HNX.out, HE.out.1], B7⟩, by simp [intOf]; omega⟩
            · have HE := Lib.hid (e.trans (HCM.out.2 h4))
              clear HCM e
              go_upto_region 7 with (fail)
              refine wp_region_any (by kernel_rfl) ?_
              change wpAny _ _ _ _ _ _ _ (World.drew _)
              have SD : wr.drew.rangeAt ab (ao + i * 3) (SgA x).toList := rng_old HR.out (Below.refl _ wr).drew
              have B7 : Hid (Below w.heap.size w wr.drew) := HB.out.drew
              obtain ⟨z, hz⟩ : ∃ y, y = wr.drew := ⟨_, rfl⟩
              rw [← hz] at SD B7 ⊢
              clear hz
              refine wpAny_of_held (S := fun y => y.rangeAt ab (ao + i * 3) (SgA x).toList) _ _ _ _ ?_
              refine anyH_take 0 43 (.int .i64 s) SD rfl (by kernel_rfl) (by kernel_rfl) (by kernel_rfl) (fun _ _ _ h => h) (by rfl) (by intro y hy; go_simp) ?_
              try simp only [Act.put, List.setIfInBounds_toArray, List.set_cons_zero, List.set_cons_succ]
              refine anyH_take 1 44 (.slice (some ⟨ab, ao, none⟩) n c) SD rfl (by kernel_rfl) (by kernel_rfl) (by kernel_rfl) (fun _ _ _ h => h) (by rfl) (by intro y hy; go_simp) ?_
              try simp only [Act.put, List.setIfInBounds_toArray, List.set_cons_zero, List.set_cons_succ]
              refine anyH_take 2 45 (.int .i64 (i : Int)) SD rfl (by kernel_rfl) (by kernel_rfl) (by kernel_rfl) (fun _ _ _ h => h) (by rfl) (by intro y hy; go_simp) ?_
              try simp only [Act.put, List.setIfInBounds_toArray, List.set_cons_zero, List.set_cons_succ]
              refine anyH_take 3 46 (.pointer (some ⟨ab, ao + i * 3, none⟩)) SD rfl (by kernel_rfl) (by kernel_rfl) (by kernel_rfl) (fun _ _ _ h => h) (by rfl) (by intro y hy; go_simp; try (intro h; omega)) ?_
              try simp only [Act.put, List.setIfInBounds_toArray, List.set_cons_zero, List.set_cons_succ]
              refine anyH_take 4 47 (.pointer (some ⟨ab, ao + i * 3 + 1, none⟩)) SD rfl (by kernel_rfl) (by kernel_rfl) (by kernel_rfl) (fun _ _ _ h => h) (by rfl) (by intro y hy; go_simp; try (intro h; omega)) ?_
              try simp only [Act.put, List.setIfInBounds_toArray, List.set_cons_zero, List.set_cons_succ]
              refine anyH_take 5 48 (.int .i64 x.l) SD rfl (by kernel_rfl) (by kernel_rfl) (by kernel_rfl) (fun _ _ _ h => h) (by rfl) (by intro y hy; obtain ⟨y0, y1, y2⟩ := rng_cells hy; go_simp) ?_
              try simp only [Act.put, List.setIfInBounds_toArray, List.set_cons_zero, List.set_cons_succ]
              refine anyH_take 6 49 (.int .i64 now) SD rfl (by kernel_rfl) (by kernel_rfl) (by kernel_rfl) (fun _ _ _ h => h) (by rfl) (by intro y hy; go_simp) ?_
              try simp only [Act.put, List.setIfInBounds_toArray, List.set_cons_zero, List.set_cons_succ]
              refine anyH_take 7 50 (.slice (some ⟨ab, ao, none⟩) n c) SD rfl (by kernel_rfl) (by kernel_rfl) (by kernel_rfl) (fun _ _ _ h => h) (by rfl) (by intro y hy; go_simp) ?_
              try simp only [Act.put, List.setIfInBounds_toArray, List.set_cons_zero, List.set_cons_succ]
              refine anyH_take 8 51 (.int .i64 (i : Int)) SD rfl (by kernel_rfl) (by kernel_rfl) (by kernel_rfl) (fun _ _ _ h => h) (by rfl) (by intro y hy; go_simp) ?_
              try simp only [Act.put, List.setIfInBounds_toArray, List.set_cons_zero, List.set_cons_succ]
              refine anyH_take 9 52 (.pointer (some ⟨ab, ao + i * 3, none⟩)) SD rfl (by kernel_rfl) (by kernel_rfl) (by kernel_rfl) (fun _ _ _ h => h) (by rfl) (by intro y hy; go_simp; try (intro h; omega)) ?_
              try simp only [Act.put, List.setIfInBounds_toArray, List.set_cons_zero, List.set_cons_succ]
              refine anyH_take 10 53 (.pointer (some ⟨ab, ao + i * 3 + 2, none⟩)) SD rfl (by kernel_rfl) (by kernel_rfl) (by kernel_rfl) (fun _ _ _ h => h) (by rfl) (by intro y hy; go_simp; try (intro h; omega)) ?_
              try simp only [Act.put, List.setIfInBounds_toArray, List.set_cons_zero, List.set_cons_succ]
              refine anyH_take 11 54 (.int .i64 x.a) SD rfl (by kernel_rfl) (by kernel_rfl) (by kernel_rfl) (fun _ _ _ h => h) (by rfl) (by intro y hy; obtain ⟨y0, y1, y2⟩ := rng_cells hy; go_simp) ?_
              try simp only [Act.put, List.setIfInBounds_toArray, List.set_cons_zero, List.set_cons_succ]
              refine anyH_one 12 (by kernel_rfl) ?_
              refine wpOp_step rfl (fun Kc hKc => ?_)
              go_simp
              refine (HA.out _).mono ?_
              rintro e8 w8 ⟨rfl, rfl⟩

              dsimp only
              refine hKc _ _ ⟨SD, ?_⟩
              clear hKc Kc
              try simp only [Act.put, List.setIfInBounds_toArray, List.set_cons_zero, List.set_cons_succ]
              refine anyH_one 13 (by kernel_rfl) ?_
              refine wpOp_step rfl (fun Kc hKc => ?_)
              go_simp
              refine (HO.out _).mono ?_
              rintro e9 w9 ⟨rfl, rfl⟩

              dsimp only
              refine hKc _ _ ⟨SD, ?_⟩
              clear hKc Kc
              try simp only [Act.put, List.setIfInBounds_toArray, List.set_cons_zero, List.set_cons_succ]
              refine anyH_take 14 13 (.int .i64 wo) SD rfl (by kernel_rfl) (by kernel_rfl) (by kernel_rfl) (fun _ _ _ h => h) (by rfl) (by intro y hy; go_simp) ?_
              try simp only [Act.put, List.setIfInBounds_toArray, List.set_cons_zero, List.set_cons_succ]
              refine wpAnyH_done (by kernel_rfl) ?_ _
              go_wp2
              exact ⟨⟨i + 1, by omega, by go_num, by rw [HNX.out, HE.out, HBP.out.1], by rw [HNX.out, HE.out, HBP.out.2], B7⟩, by simp [intOf]; omega⟩
      · have e := HNO.out (fun h => h1 h.1)
        subst e
        clear HYES HNO HA HO HCM
        go_wp2
        exact ⟨⟨i + 1, by omega, by go_num, by rw [HNX.out, HBP.out.1], by rw [HNX.out, HBP.out.2], HB⟩, by simp [intOf]; omega⟩
    · have E : i = n := by omega
      subst E
      clear hlt
      have HF := Lib.hid HFIN.out
      generalize Vc.vicn s lean now L i = st at *
      obtain ⟨q, hq⟩ : ∃ q, Vc.pl st = q := ⟨_, rfl⟩
      obtain ⟨r, hr⟩ : ∃ r, Vc.rb st = r := ⟨_, rfl⟩
      obtain ⟨bb, hbb⟩ : ∃ bb, st.isSome = bb := ⟨_, rfl⟩
      rw [hbb, hr] at HF
      rw [hq, hr]
      have HQ : Hid (Vc.pl st = q ∧ st.isSome = bb) := ⟨hq, hbb⟩
      clear hbb hq hr HFIN
      cases bb with
      | true =>
        have h0 : 0 ≤ r := of_decide_eq_true HF.out
        go_wp2
        go_ret2
        exact ⟨by rw [HQ.out.1, HQ.out.2]; rfl, HB⟩
      | false =>
        have h0 : ¬ 0 ≤ r := of_decide_eq_false HF.out
        go_wp2
        go_ret2
        exact ⟨by rw [HQ.out.1, HQ.out.2]; rfl, HB⟩
end Go.Proofs.Ythgjfjmampmiiaa

/-
  The reference: contracts: Take, Add.
-/
import Derived.Test.YtnnalemboeccbaaUsQ2
namespace Go.Proofs.Ytnnalemboeccbaa
open Go.RowKit

namespace Us
/-- The first of those places closed. -/
def fulL (L : List Nat) (T : List S) : List S := L.foldl (fun U i => U.set i (full (at_ U i))) T
theorem fulL_len : ∀ (L : List Nat) (T : List S), (fulL L T).length = T.length
  | [], _ => rfl
  | i :: L, T => by
    show (fulL L (T.set i _)).length = _
    rw [fulL_len L, List.length_set]
theorem fulL_off : ∀ (L : List Nat) (T : List S) (j : Nat), (∀ i ∈ L, i < T.length) → j ∉ L → at_ (fulL L T) j = at_ T j
  | [], _, _, _, _ => rfl
  | i :: L, T, j, h, hj => by
    show at_ (fulL L (T.set i _)) j = _
    rw [fulL_off L _ j (fun q hq => by rw [List.length_set]; exact h q (by simp [hq])) (fun q => hj (by simp [q])), at_set _ _ _ _ (h i (by simp)), if_neg (fun q => hj (by simp [q]))]
theorem fulL_snoc (L : List Nat) (i : Nat) (T : List S) : fulL (L ++ [i]) T = (fulL L T).set i (full (at_ (fulL L T) i)) := by
  unfold fulL
  rw [List.foldl_append]
  rfl
theorem fulL_on {T : List S} {m : Nat} (hm : m < T.length) : at_ (fulL (ixn 1 T m) T) m = at_ T m :=
  fulL_off _ _ _ (fun i hi => by have := (mem_ixn.1 hi).1; omega) (fun q => by have := (mem_ixn.1 q).1; omega)
theorem fulL_all {T : List S} (h : Inv T) : fulL (ix 1 T) T = shut T := by
  unfold shut
  cases q : ix 1 T with
  | nil =>
    have : fx 1 T = none := by unfold fx; rw [q]; rfl
    rw [this]
    rfl
  | cons i r =>
    have : fx 1 T = some i := by unfold fx; rw [q]; rfl
    rw [this]
    cases r with
    | nil => rfl
    | cons j r =>
      have h1 : i ∈ ix 1 T := by rw [q]; simp
      have h2 : j ∈ ix 1 T := by rw [q]; simp
      have h3 := h.one i j (mem_ix.1 h1).1 (mem_ix.1 h2).1 (mem_ix.1 h1).2 (mem_ix.1 h2).2
      have hn : (ix 1 T).Nodup := by unfold ix ixn; exact List.Pairwise.filter _ List.nodup_range
      rw [q, h3] at hn
      simp at hn
end Us
set_option maxHeartbeats 4000000 in
set_option maxRecDepth 100000 in
theorem rtake_any {B b : Nat} {v : Value} {T : List Us.S} (now : Int) (w : World) (h : TAt 52 B w b v T) (hI : Us.Inv T) :
    Calls Try.prog 29 #[.pointer (some ⟨b, 0, none⟩), .int .i64 now] w (TkSay 52 B b v T now w) := by
  have HA : Hid (∀ y, Calls Try.prog 42 #[.int .i64 now] y fun e w' => e = .returned (.int .i64 (Us.ageOf now)) ∧ w' = y) := fun y => now_any now y
  obtain ⟨p, c, rfl⟩ := h.own.len
  obtain ⟨n, hn⟩ : ∃ n, T.length = n := ⟨_, rfl⟩
  have HN := Lib.hid hn
  have H0 := Lib.hid h
  have HII := Lib.hid hI
  have HL32 : Hid (n ≤ 32) := by show _ ≤ _; rw [← hn]; exact hI.len
  rw [hn] at H0 ⊢
  have HYES : Hid (∀ s, s < n → (Us.at_ T s).s = 0 → (∀ j, j < s → (Us.at_ T j).s ≠ 0) → Us.takeI T = s ∧ Us.takeB T = true ∧ Us.takeT T now = (Us.shut T).set s ⟨1, 0, Us.ageOf now⟩) := fun s hs h1 h2 => by
    have hf : Us.fx 0 T = some s := Us.fx_some.2 ⟨by rw [HN.out]; exact hs, h1, h2⟩
    exact ⟨by unfold Us.takeI; rw [hf], by unfold Us.takeB; rw [hf]; rfl, by unfold Us.takeT; rw [hf]⟩
  have HNO : Hid ((∀ j, j < n → (Us.at_ T j).s ≠ 0) → Us.takeI T = 0 ∧ Us.takeB T = false ∧ Us.takeT T now = T) := fun h2 => by
    have hf : Us.fx 0 T = none := Us.fx_none.2 (fun j hj => h2 j (by rw [← HN.out]; exact hj))
    exact ⟨by unfold Us.takeI; rw [hf], by unfold Us.takeB; rw [hf]; rfl, by unfold Us.takeT; rw [hf]⟩
  unfold TkSay
  generalize Us.takeI T = ti at *
  generalize Us.takeB T = tb at *
  generalize Us.takeT T now = tt at *
  generalize Us.ageOf now = a at *
  clear h hI hn
  go_enter Try.func29, Try.ntmps29
  go_wp2
  go_loopw [6, 7] (fun v6 _ y => ∃ s : Nat, s ≤ n ∧ v6 = .int .i64 s ∧ Hid (∀ j, j < s → (Us.at_ T j).s ≠ 0) ∧ y = w) (fun v6 _ _ => n - (intOf v6).toNat)
  case atStart => exact ⟨0, Nat.zero_le _, rfl, fun j hj => by omega, rfl⟩
  case round =>
    obtain ⟨s, hs, rfl, HF, rfl⟩ := hrel
    have b0 := H0.out.cell
    have hl32 : n ≤ 32 := HL32.out
    by_cases hlt : s < n
    · have HK : Hid (s < T.length) := by show _ < _; rw [HN.out]; exact hlt
      obtain ⟨g, c', hv⟩ := H0.out.own.isb s HK.out
      injection hv with q1 q2 q3
      subst q1
      clear q2 q3
      have d0 := (H0.out.own.cells s HK.out).1
      have hs0 : (0 : Int) ≤ (s : Int) := by omega
      have hs1 : (s : Int) < (n : Int) := by omega
      by_cases hz : (Us.at_ T s).s = 0
      · obtain ⟨e1, e2, e3⟩ := HYES.out s hlt hz HF.out
        subst e1; subst e2; subst e3
        rw [hz] at d0
        clear hz HF HYES HNO
        obtain ⟨wS, hwS⟩ : ∃ x, x = wr := ⟨_, rfl⟩
        subst hwS
        go_wp2
        clear d0 b0
        have HS1 : Hid (s < (Us.shut T).length) := by show _ < _; rw [Us.shut_len]; exact HK.out
        go_loopw [7] (fun v7 y => ∃ k : Nat, k ≤ n ∧ v7 = .int .i64 k ∧ Hid (TAt 52 B y b (.slice (some ⟨g, 0, none⟩) n c) (Us.fulL (Us.ixn 1 T k) T)) ∧ Hid (Tn (.slice (some ⟨g, 0, none⟩) n c) wS y)) (fun v7 _ => n - (intOf v7).toNat)
        case atStart => exact ⟨0, Nat.zero_le _, rfl, H0, Tn.refl _ _⟩
        case round =>
          clear H0
          obtain ⟨k, hk, rfl, HS, HB⟩ := hrel
          have b0 := HS.out.cell
          by_cases hkn : k < n
          · have hkT : k < T.length := by rw [HN.out]; exact hkn
            have HK2 : Hid (k < (Us.fulL (Us.ixn 1 T k) T).length) := by show _ < _; rw [Us.fulL_len]; exact hkT
            have f1 := HS.out.own.frozen (k * 3)
            have d1 := (HS.out.own.cells k HK2.out).1
            rw [Us.fulL_on hkT] at d1
            have hk0 : (0 : Int) ≤ (k : Int) := by omega
            have hk1 : (k : Int) < (n : Int) := by omega
            by_cases ho : (Us.at_ T k).s = 1
            · have HTK : Hid ((Us.fulL (Us.ixn 1 T k) T).set k (Us.full (Us.at_ (Us.fulL (Us.ixn 1 T k) T) k)) = Us.fulL (Us.ixn 1 T (k + 1)) T) := by show _ = _; rw [Us.ixn_yes ho, Us.fulL_snoc]
              have T5 : Hid (TAt 52 B (wr.setCell ⟨g, k * 3, none⟩ (.int .i64 2)) b (.slice (some ⟨g, 0, none⟩) n c) (Us.fulL (Us.ixn 1 T (k + 1)) T)) := by show TAt _ _ _ _ _ _; rw [← HTK.out]; exact HS.out.setc tne2 k 0 HK2.out (by omega) (.int .i64 2) _ rfl
              rw [ho] at d1
              clear ho hkT HTK HS
              go_wp2
              exact ⟨⟨k + 1, by omega, by go_num, T5, HB.out.trans (Tn.setc _)⟩, by simp [intOf]; omega⟩
            · have HS2 : Hid (TAt 52 B wr b (.slice (some ⟨g, 0, none⟩) n c) (Us.fulL (Us.ixn 1 T (k + 1)) T)) := by show TAt _ _ _ _ _ _; rw [Us.ixn_no ho]; exact HS.out
              have ho' : ((Us.at_ T k).s == 1) = false := by simp [ho]
              clear ho hkT HS
              generalize (Us.at_ T k).s = sk at d1 ho'
              go_wp2
              exact ⟨⟨k + 1, by omega, by go_num, HS2, HB⟩, by simp [intOf]; omega⟩
          · have hge : ¬ (k : Int) < (n : Int) := by omega
            have hkl : k = T.length := by rw [HN.out]; omega
            have HS2 : Hid (TAt 52 B wr b (.slice (some ⟨g, 0, none⟩) n c) (Us.shut T)) := by
              have := HS.out
              rw [hkl] at this
              rw [← Us.fulL_all HII.out]
              exact this
            have HB2 := HB
            clear hkl HS hkn HB
            go_upto_region 10 with (fail)
            refine wp_region_any (by kernel_rfl) ?_
            change wpAny _ _ _ _ _ _ _ (World.drew _)
            have T7 : Hid (TAt 52 B wr.drew b (.slice (some ⟨g, 0, none⟩) n c) (Us.shut T)) := HS2.out.old (Below.refl _ _).drew
            have M7 : Hid (Tn (.slice (some ⟨g, 0, none⟩) n c) wS wr.drew) := HB2.out.trans (Tn.of (Below.refl _ _).drew)
            obtain ⟨z, hz⟩ : ∃ y, y = wr.drew := ⟨_, rfl⟩
            rw [← hz] at T7 M7 ⊢
            clear hz
            refine wpAny_of_held (S := fun y => y.cell? ⟨b, 0, none⟩ = some (.slice (some ⟨g, 0, none⟩) n c)) _ _ _ _ ?_
            have SD : z.cell? ⟨b, 0, none⟩ = some (.slice (some ⟨g, 0, none⟩) n c) := T7.out.cell
            refine anyH_take 0 51 (.pointer (some ⟨b, 0, none⟩)) SD rfl (by kernel_rfl) (by kernel_rfl) (by kernel_rfl) (fun _ _ _ h => h) (by rfl) (by intro x hx; go_simp) ?_
            try simp only [Act.put, List.setIfInBounds_toArray, List.set_cons_zero, List.set_cons_succ]
            refine anyH_take 1 52 (.pointer (some ⟨b, 0, none⟩)) SD rfl (by kernel_rfl) (by kernel_rfl) (by kernel_rfl) (fun _ _ _ h => h) (by rfl) (by intro x hx; go_simp) ?_
            try simp only [Act.put, List.setIfInBounds_toArray, List.set_cons_zero, List.set_cons_succ]
            refine anyH_take 2 53 (.pointer (some ⟨b, 0, none⟩)) SD rfl (by kernel_rfl) (by kernel_rfl) (by kernel_rfl) (fun _ _ _ h => h) (by rfl) (by intro x hx; go_simp) ?_
            try simp only [Act.put, List.setIfInBounds_toArray, List.set_cons_zero, List.set_cons_succ]
            refine anyH_take 3 54 (.slice (some ⟨g, 0, none⟩) n c) SD rfl (by kernel_rfl) (by kernel_rfl) (by kernel_rfl) (fun _ _ _ h => h) (by rfl) (by intro x hx; go_simp) ?_
            try simp only [Act.put, List.setIfInBounds_toArray, List.set_cons_zero, List.set_cons_succ]
            refine anyH_take 4 55 (.int .i64 (s : Int)) SD rfl (by kernel_rfl) (by kernel_rfl) (by kernel_rfl) (fun _ _ _ h => h) (by rfl) (by intro x hx; go_simp) ?_
            try simp only [Act.put, List.setIfInBounds_toArray, List.set_cons_zero, List.set_cons_succ]
            refine anyH_take 5 56 (.int .i64 now) SD rfl (by kernel_rfl) (by kernel_rfl) (by kernel_rfl) (fun _ _ _ h => h) (by rfl) (by intro x hx; go_simp) ?_
            try simp only [Act.put, List.setIfInBounds_toArray, List.set_cons_zero, List.set_cons_succ]
            refine anyH_one 6 (by kernel_rfl) ?_
            refine wpOp_step rfl (fun Kc hKc => ?_)
            go_simp
            refine (HA.out _).mono ?_
            rintro e8 w8 ⟨rfl, rfl⟩

            dsimp only
            refine hKc _ _ ⟨SD, ?_⟩
            clear hKc Kc
            try simp only [Act.put, List.setIfInBounds_toArray, List.set_cons_zero, List.set_cons_succ]
            refine anyH_take 7 58 (.agg (SgA ⟨1, 0, a⟩)) SD rfl (by kernel_rfl) (by kernel_rfl) (by kernel_rfl) (fun _ _ _ h => h) (by rfl) (fun y hy => exec_b3 _ _ _ _ _ _ _ _ _ _ _ rfl rfl rfl (build_sgl 1 0 a)) ?_
            try simp only [Act.put, List.setIfInBounds_toArray, List.set_cons_zero, List.set_cons_succ]
            refine anyH_take 8 59 (.pointer (some ⟨g, s * 3, none⟩)) SD rfl (by kernel_rfl) (by kernel_rfl) (by kernel_rfl) (fun _ _ _ h => h) (by rfl) (by intro x hx; go_simp) ?_
            try simp only [Act.put, List.setIfInBounds_toArray, List.set_cons_zero, List.set_cons_succ]
            refine anyH_one 9 (by kernel_rfl) ?_
            refine wpOp_step rfl (fun Kc hKc => ?_)
            rw [if_pos (by rfl)]
            refine st_sg_op _ _ B g n c s _ rfl (Us.shut T) ⟨1, 0, a⟩ HS1.out rfl rfl T7.out.own (fun w9 O9 C9 => ?_)
            have T9 : Hid (TAt 52 B w9 b (.slice (some ⟨g, 0, none⟩) n c) ((Us.shut T).set s ⟨1, 0, a⟩)) := T7.out.put tne2 rfl C9.out O9.out
            refine hKc _ _ ⟨T9.out.cell, ?_⟩
            clear hKc Kc
            refine wpAnyH_done (by kernel_rfl) ?_ _
            go_wp2
            go_ret2
            exact ⟨rfl, T9, Lib.hid (M7.out.trans (Tn.chg C9.out rfl))⟩
      · have hz' : ((Us.at_ T s).s != 0) = true := by simp [hz]
        have HF2 : Hid (∀ j, j < s + 1 → (Us.at_ T j).s ≠ 0) := fun j hj => by
          by_cases e : j = s
          · rw [e]; exact hz
          · exact HF.out j (by omega)
        clear hz HF
        generalize (Us.at_ T s).s = sk at d0 hz'
        go_wp2
        exact ⟨⟨s + 1, by omega, by go_num, HF2, trivial⟩, by simp [intOf]; omega⟩
    · have hge : ¬ (s : Int) < (n : Int) := by omega
      obtain ⟨e1, e2, e3⟩ := HNO.out (fun j hj => HF.out j (by omega))
      subst e1; subst e2; subst e3
      clear hlt
      go_wp2
      go_ret2
      exact ⟨rfl, H0, Lib.hid (Tn.refl _ _)⟩
set_option maxHeartbeats 4000000 in
set_option maxRecDepth 100000 in
theorem radd_no {B b : Nat} {v : Value} {T : List Us.S} (i m now : Int) (w : World) (h : TAt 52 B w b v T) (hI : Us.Inv T) (hno : ¬ Us.mayAdd T i m) :
    Calls Try.prog 30 #[.pointer (some ⟨b, 0, none⟩), .int .i64 i, .int .i64 m, .int .i64 now] w (TbSay 52 B b v T (.int .i64 7) w) := by
  have H0 := Lib.hid h
  have HH : Hid (Calls Try.prog 41 #[.pointer (some ⟨b, 0, none⟩), .int .i64 i] w fun e w' => e = .returned (.bool (decide (Us.has T i))) ∧ w' = w) := there_any i w h
  by_cases h1 : Us.has T i
  · rw [decide_eq_true h1] at HH
    obtain ⟨hn1, hn2⟩ := Us.has_nat h1
    obtain ⟨j, hj⟩ : ∃ j : Nat, i.toNat = j := ⟨_, rfl⟩
    rw [hj] at hn1 hn2
    obtain ⟨g, c, rfl, hgw⟩ := h.gsome j hn1
    have hk := (hI.ok j hn1).2.1
    have hno' : ¬ (0 ≤ (Us.at_ T j).l + m ∧ (Us.at_ T j).l + m ≤ 64) := fun q => hno ⟨h1, by rw [hj]; omega, by rw [hj]; omega⟩
    have b2 := h.cell
    have d2 := (h.own.cells j hn1).2.1
    generalize (Us.at_ T j).l = l at *
    subst hn2
    clear h h1 hj hno hI hgw
    obtain ⟨n, hn⟩ : ∃ n, T.length = n := ⟨_, rfl⟩
    rw [hn] at hn1 H0 b2 ⊢
    have hlt : (j : Int) < (n : Int) := by omega
    have hge : 0 ≤ (j : Int) := by omega
    by_cases k1 : m < -64
    · clear hno'
      go_enter Try.func30, Try.ntmps30
      go_wp2_with (go_at_call 41; refine HH.out.mono ?_; rintro e1 w1 ⟨rfl, rfl⟩)
      go_ret
      exact ⟨rfl, H0, Lib.hid (Tn.refl _ _)⟩
    by_cases k2 : m > 64
    · clear hno'
      go_enter Try.func30, Try.ntmps30
      go_wp2_with (go_at_call 41; refine HH.out.mono ?_; rintro e1 w1 ⟨rfl, rfl⟩)
      go_ret
      exact ⟨rfl, H0, Lib.hid (Tn.refl _ _)⟩
    have hw3 : IntKind.i64.wrap (l + m) = l + m := IntWalk.i64_in _ ⟨by omega, by omega⟩
    by_cases k3 : l + m < 0
    · clear hno'
      go_enter Try.func30, Try.ntmps30
      go_wp2_with (go_at_call 41; refine HH.out.mono ?_; rintro e1 w1 ⟨rfl, rfl⟩)
      go_ret
      exact ⟨rfl, H0, Lib.hid (Tn.refl _ _)⟩
    have k4 : l + m > 64 := by omega
    clear hno'
    go_enter Try.func30, Try.ntmps30
    go_wp2_with (go_at_call 41; refine HH.out.mono ?_; rintro e1 w1 ⟨rfl, rfl⟩)
    go_ret
    exact ⟨rfl, H0, Lib.hid (Tn.refl _ _)⟩
  · rw [decide_eq_false h1] at HH
    clear h h1 hno hI
    go_enter Try.func30, Try.ntmps30
    go_wp2_with (go_at_call 41; refine HH.out.mono ?_; rintro e1 w1 ⟨rfl, rfl⟩)
    go_ret
    exact ⟨rfl, H0, Lib.hid (Tn.refl _ _)⟩
set_option maxHeartbeats 4000000 in
set_option maxRecDepth 100000 in
theorem radd_yes {B b : Nat} {v : Value} {T : List Us.S} (i m now : Int) (w : World) (h : TAt 52 B w b v T) (hI : Us.Inv T) (hy : Us.mayAdd T i m) :
    Calls Try.prog 30 #[.pointer (some ⟨b, 0, none⟩), .int .i64 i, .int .i64 m, .int .i64 now] w (TbSay 52 B b v (T.set i.toNat (Us.added (Us.at_ T i.toNat) m now)) (.int .i64 0) w) := by
  have HH : Hid (Calls Try.prog 41 #[.pointer (some ⟨b, 0, none⟩), .int .i64 i] w fun e w' => e = .returned (.bool true) ∧ w' = w) := by
    have := there_any i w h
    rw [decide_eq_true hy.1] at this
    exact this
  have T2 : Hid (TAt 52 B w b v T) := h
  have HA : Hid (∀ y, Calls Try.prog 42 #[.int .i64 now] y fun e w' => e = .returned (.int .i64 (Us.ageOf now)) ∧ w' = y) := fun y => now_any now y
  obtain ⟨h1, h2, h3⟩ := hy
  obtain ⟨hn1, hn2⟩ := Us.has_nat h1
  obtain ⟨j, hj⟩ : ∃ j : Nat, i.toNat = j := ⟨_, rfl⟩
  rw [hj] at hn1 hn2 h2 h3 ⊢
  obtain ⟨g, c, rfl, hgw⟩ := h.gsome j hn1
  have hk := (hI.ok j hn1).2.1
  have b2 := T2.out.cell
  have d2 := (T2.out.own.cells j hn1).2.1
  have f2 := T2.out.own.frozen (j * 3 + 1)
  unfold Us.added
  obtain ⟨x, hx⟩ : ∃ x, Us.at_ T j = x := ⟨_, rfl⟩
  have HX := Lib.hid hx
  rw [hx] at h2 h3 hk d2 ⊢
  clear hx
  obtain ⟨s, l, a⟩ := x
  dsimp only at h2 h3 hk d2 ⊢
  have k1 : ¬ m < -64 := by omega
  have k2 : ¬ m > 64 := by omega
  have k3 : ¬ l + m < 0 := by omega
  have k4 : ¬ l + m > 64 := by omega
  have hw3 : IntKind.i64.wrap (l + m) = l + m := IntWalk.i64_in _ ⟨by omega, by omega⟩
  have T6' : Hid (TAt 52 B (w.setCell ⟨g, j * 3 + 1, none⟩ (.int .i64 (l + m))) b (.slice (some ⟨g, 0, none⟩) T.length c) (T.set j ⟨s, l + m, a⟩)) := T2.out.setc tne2 j 1 hn1 (by omega) (.int .i64 (l + m)) ⟨s, l + m, a⟩ (by rw [HX.out]; rfl)
  have M6' : Hid (Tn (.slice (some ⟨g, 0, none⟩) T.length c) w (w.setCell ⟨g, j * 3 + 1, none⟩ (.int .i64 (l + m)))) := Tn.setc _
  have HJ2 : Hid (j < (T.set j ⟨s, l + m, a⟩).length) := by show _ < _; rw [List.length_set]; exact hn1
  have HAT : Hid (Us.at_ (T.set j ⟨s, l + m, a⟩) j = ⟨s, l + m, a⟩) := by show _ = _; rw [Us.at_set _ _ _ _ hn1, if_pos rfl]
  generalize Us.ageOf now = q at *
  subst hn2
  clear h h1 hj hI h2 h3 hk hgw
  obtain ⟨n, hn⟩ : ∃ n, T.length = n := ⟨_, rfl⟩
  rw [hn] at hn1 b2 T2 T6' M6' ⊢
  have hlt : (j : Int) < (n : Int) := by omega
  have hge : 0 ≤ (j : Int) := by omega
  by_cases hm : 0 < m
  · rw [if_pos hm]
    have hm' : m > 0 := hm
    go_enter Try.func30, Try.ntmps30
    go_upto_region 7 with (go_at_call 41; refine HH.out.mono ?_; rintro e1 w1 ⟨rfl, rfl⟩)
    obtain ⟨w6, hw6⟩ : ∃ y, y = w1.setCell ⟨g, j * 3 + 1, none⟩ (.int .i64 (l + m)) := ⟨_, rfl⟩
    rw [← hw6] at T6' M6' ⊢
    have T6 := T6'
    have M6 := M6'
    clear hw6 T6' M6' b2 d2 f2
    go_upto_region 8 with (fail)
    refine wp_region_any (by kernel_rfl) ?_
    change wpAny _ _ _ _ _ _ _ (World.drew _)
    have T7 : Hid (TAt 52 B w6.drew b (.slice (some ⟨g, 0, none⟩) n c) (T.set j ⟨s, l + m, a⟩)) := T6.out.old (Below.refl _ _).drew
    have M7 : Hid (Tn (.slice (some ⟨g, 0, none⟩) n c) w1 w6.drew) := M6.out.trans (Tn.of (Below.refl _ _).drew)
    obtain ⟨z, hz⟩ : ∃ y, y = w6.drew := ⟨_, rfl⟩
    rw [← hz] at T7 M7 ⊢
    clear hz
    refine wpAny_of_held (S := fun y => y.cell? ⟨b, 0, none⟩ = some (.slice (some ⟨g, 0, none⟩) n c)) _ _ _ _ ?_
    have SD : z.cell? ⟨b, 0, none⟩ = some (.slice (some ⟨g, 0, none⟩) n c) := T7.out.cell
    refine anyH_take 0 48 (.pointer (some ⟨b, 0, none⟩)) SD rfl (by kernel_rfl) (by kernel_rfl) (by kernel_rfl) (fun _ _ _ h => h) (by rfl) (by intro x hx; go_simp) ?_
    try simp only [Act.put, List.setIfInBounds_toArray, List.set_cons_zero, List.set_cons_succ]
    refine anyH_take 1 49 (.pointer (some ⟨b, 0, none⟩)) SD rfl (by kernel_rfl) (by kernel_rfl) (by kernel_rfl) (fun _ _ _ h => h) (by rfl) (by intro x hx; go_simp) ?_
    try simp only [Act.put, List.setIfInBounds_toArray, List.set_cons_zero, List.set_cons_succ]
    refine anyH_take 2 50 (.pointer (some ⟨b, 0, none⟩)) SD rfl (by kernel_rfl) (by kernel_rfl) (by kernel_rfl) (fun _ _ _ h => h) (by rfl) (by intro x hx; go_simp) ?_
    try simp only [Act.put, List.setIfInBounds_toArray, List.set_cons_zero, List.set_cons_succ]
    refine anyH_take 3 51 (.slice (some ⟨g, 0, none⟩) n c) SD rfl (by kernel_rfl) (by kernel_rfl) (by kernel_rfl) (fun _ _ _ h => h) (by rfl) (by intro x hx; go_simp) ?_
    try simp only [Act.put, List.setIfInBounds_toArray, List.set_cons_zero, List.set_cons_succ]
    refine anyH_take 4 52 (.int .i64 (j : Int)) SD rfl (by kernel_rfl) (by kernel_rfl) (by kernel_rfl) (fun _ _ _ h => h) (by rfl) (by intro x hx; go_simp) ?_
    try simp only [Act.put, List.setIfInBounds_toArray, List.set_cons_zero, List.set_cons_succ]
    refine anyH_take 5 53 (.int .i64 now) SD rfl (by kernel_rfl) (by kernel_rfl) (by kernel_rfl) (fun _ _ _ h => h) (by rfl) (by intro x hx; go_simp) ?_
    try simp only [Act.put, List.setIfInBounds_toArray, List.set_cons_zero, List.set_cons_succ]
    refine anyH_one 6 (by kernel_rfl) ?_
    refine wpOp_step rfl (fun Kc hKc => ?_)
    go_simp
    refine (HA.out _).mono ?_
    rintro e8 w8 ⟨rfl, rfl⟩

    dsimp only
    refine hKc _ _ ⟨SD, ?_⟩
    clear hKc Kc
    try simp only [Act.put, List.setIfInBounds_toArray, List.set_cons_zero, List.set_cons_succ]
    refine anyH_take 7 55 (.pointer (some ⟨g, j * 3, none⟩)) SD rfl (by kernel_rfl) (by kernel_rfl) (by kernel_rfl) (fun _ _ _ h => h) (by rfl) (by intro x hx; go_simp) ?_
    try simp only [Act.put, List.setIfInBounds_toArray, List.set_cons_zero, List.set_cons_succ]
    refine anyH_take 8 56 (.pointer (some ⟨g, j * 3 + 2, none⟩)) SD rfl (by kernel_rfl) (by kernel_rfl) (by kernel_rfl) (fun _ _ _ h => h) (by rfl) (by intro x hx; go_simp) ?_
    try simp only [Act.put, List.setIfInBounds_toArray, List.set_cons_zero, List.set_cons_succ]
    have f7 := T7.out.own.frozen (j * 3 + 2)
    have d7 := (T7.out.own.cells j HJ2.out).2.2
    refine anyH_one 9 (by kernel_rfl) ?_
    refine wpOp_step rfl (fun Kc hKc => ?_)
    rw [if_pos (by rfl)]
    go_simp
    have T9 : Hid (TAt 52 B (w8.setCell ⟨g, j * 3 + 2, none⟩ (.int .i64 q)) b (.slice (some ⟨g, 0, none⟩) n c) (T.set j ⟨s, l + m, q⟩)) := by
      have := T7.out.setc tne2 j 2 HJ2.out (by omega) (.int .i64 q) ⟨s, l + m, q⟩ (by rw [HAT.out]; rfl)
      rw [List.set_set] at this
      exact this
    refine hKc _ _ ⟨T9.out.cell, ?_⟩
    clear hKc Kc
    refine wpAnyH_done (by kernel_rfl) ?_ _
    go_wp2
    go_ret
    exact ⟨rfl, T9, Lib.hid (M7.out.trans (Tn.setc _))⟩
  · rw [if_neg hm]
    have hm' : ¬ m > 0 := hm
    go_enter Try.func30, Try.ntmps30
    go_upto_region 7 with (go_at_call 41; refine HH.out.mono ?_; rintro e1 w1 ⟨rfl, rfl⟩)
    obtain ⟨w6, hw6⟩ : ∃ y, y = w1.setCell ⟨g, j * 3 + 1, none⟩ (.int .i64 (l + m)) := ⟨_, rfl⟩
    rw [← hw6] at T6' M6' ⊢
    have T6 := T6'
    have M6 := M6'
    clear hw6 T6' M6' b2 d2 f2
    go_wp2
    go_ret
    exact ⟨rfl, T6, M6⟩
theorem radd_any {B b : Nat} {v : Value} {T : List Us.S} (i m now : Int) (w : World) (h : TAt 52 B w b v T) (hI : Us.Inv T) :
    Calls Try.prog 30 #[.pointer (some ⟨b, 0, none⟩), .int .i64 i, .int .i64 m, .int .i64 now] w (TbSay 52 B b v (Us.addT T i m now) (.int .i64 (Us.addE T i m)) w) := by
  unfold Us.addT Us.addE
  by_cases hy : Us.mayAdd T i m
  · rw [if_pos hy, if_pos hy]; exact radd_yes i m now w h hI hy
  · rw [if_neg hy, if_neg hy]; exact radd_no i m now w h hI hy
theorem rset_any {B b : Nat} {v : Value} {T : List Us.S} (i : Int) (r : Us.S) (w : World) (h : TAt 52 B w b v T) (hI : Us.Inv T) :
    Calls Try.prog 28 #[.pointer (some ⟨b, 0, none⟩), .int .i64 i, .agg (SgA r)] w (TbSay 52 B b v (Us.setT T i r) (.int .i64 (Us.setE T i r)) w) := by
  by_cases h1 : Us.has T i ∧ Us.ok r
  · by_cases h2 : r.s = 1 ∧ Us.other T i.toNat
    · have e1 : Us.setE T i r = 10 := by unfold Us.setE; rw [if_neg (fun q => q h1), if_pos h2]
      have e2 : Us.setT T i r = T := by unfold Us.setT; rw [e1, if_neg (by decide)]
      rw [e1, e2]
      exact rset_twice i r w h hI.len h1.1 h1.2 h2
    · have e1 : Us.setE T i r = 0 := by unfold Us.setE; rw [if_neg (fun q => q h1), if_neg h2]
      have e2 : Us.setT T i r = T.set i.toNat r := by unfold Us.setT; rw [e1, if_pos rfl]
      rw [e1, e2]
      exact rset_yes i r w h hI.len h1.1 h1.2 (fun q k => h2 ⟨q, k⟩)
  · have e1 : Us.setE T i r = 7 := by unfold Us.setE; rw [if_pos h1]
    have e2 : Us.setT T i r = T := by unfold Us.setT; rw [e1, if_neg (by decide)]
    rw [e1, e2]
    exact rset_no i r w h h1
end Go.Proofs.Ytnnalemboeccbaa

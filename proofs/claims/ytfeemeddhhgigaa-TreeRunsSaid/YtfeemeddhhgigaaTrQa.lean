/-
  Lists of refs and of numbers in a law: SameRefs, SameInts, SpoilRefs, SpoilInts, many, ref, Pick.
-/
import Derived.Test.YtfeemeddhhgigaaTrPl
namespace Go.Proofs.Ytfeemeddhhgigaa
open Go.RowKit

theorem Fl.ref {K : Nat} {y : World} {v : Value} {M : List Pg.Rf} (h : Fl K 33 33 y v (M.map rfA)) (i : Nat) (hi : i < M.length) : ∃ q c, v = .slice (some ⟨q, 0, none⟩) M.length c ∧ K ≤ q ∧ q < y.heap.size ∧ y.rangeAt q (i * 33) (rfA (M.getD i Pg.zr)).toList := by
  obtain ⟨q, c, h1, h2, h3⟩ := h.rng i (by rw [List.length_map]; exact hi)
  rw [List.length_map] at h1
  rw [List.getD_eq_getElem?_getD, List.getElem?_map, List.getElem?_eq_getElem hi] at h3
  refine ⟨q, c, h1, h2, ?_, by rw [List.getD_eq_getElem?_getD, List.getElem?_eq_getElem hi]; exact h3⟩
  subst h1
  obtain ⟨_, cur, hc⟩ := own_type h.1 q rfl
  exact lt_of_block hc
theorem rfs_ext {L M : List Pg.Rf} (hl : L.length = M.length) (h : ∀ i, i < L.length → L.getD i Pg.zr = M.getD i Pg.zr) : L = M := by
  apply List.ext_getElem hl
  intro i h1 h2
  have := h i h1
  rwa [List.getD_eq_getElem?_getD, List.getElem?_eq_getElem h1, List.getD_eq_getElem?_getD, List.getElem?_eq_getElem h2] at this
theorem nat_ext {L M : List Nat} (hl : L.length = M.length) (h : ∀ i, i < L.length → L.getD i 0 = M.getD i 0) : L = M := by
  apply List.ext_getElem hl
  intro i h1 h2
  have := h i h1
  rwa [List.getD_eq_getElem?_getD, List.getElem?_eq_getElem h1, List.getD_eq_getElem?_getD, List.getElem?_eq_getElem h2] at this
theorem rf_eqs {r s : Pg.Rf} (hr : Pg.Ok r) (hs : Pg.Ok s) (w : World) : (Op.equalIn 10000 33 (.agg (rfA r)) (.agg (rfA s))).run Try.prog w = .ok (decide (r = s)) w := ref_eq hr hs w
set_option maxHeartbeats 4000000 in
set_option maxRecDepth 100000 in
theorem samerefs_any {B C : Nat} {u v : Value} {L M : List Pg.Rf} (hoL : ∀ r ∈ L, Pg.Ok r) (hoM : ∀ r ∈ M, Pg.Ok r) (hl : L.length ≤ 10000) (w : World) (hu : Fl B 33 33 w u (L.map rfA)) (hv : Fl C 33 33 w v (M.map rfA)) :
    Calls Try.prog 26 #[u, v] w (BoSay (decide (L = M)) w) := by
  obtain ⟨p, c, hpe⟩ := hu.len
  obtain ⟨q, d, hqe⟩ := hv.len
  rw [List.length_map] at hpe hqe
  subst hpe hqe
  have HM1 : Hid (∀ y i, Below w.heap.size w y → i < L.length → ∃ g, p = some ⟨g, 0, none⟩ ∧ y.rangeAt g (i * 33) (rfA (L.getD i Pg.zr)).toList) := fun y i hy hi => by
    obtain ⟨g, c', e, _, _, hr⟩ := (hu.old hy).ref i hi
    injection e with e _ _
    exact ⟨g, e, hr⟩
  have HM2 : Hid (∀ y i, Below w.heap.size w y → i < M.length → ∃ g, q = some ⟨g, 0, none⟩ ∧ y.rangeAt g (i * 33) (rfA (M.getD i Pg.zr)).toList) := fun y i hy hi => by
    obtain ⟨g, c', e, _, _, hr⟩ := (hv.old hy).ref i hi
    injection e with e _ _
    exact ⟨g, e, hr⟩
  have HOL : Hid (∀ i, i < L.length → Pg.Ok (L.getD i Pg.zr)) := fun i hi => hoL _ (getD_mem' L i Pg.zr hi)
  have HOM : Hid (∀ i, i < M.length → Pg.Ok (M.getD i Pg.zr)) := fun i hi => hoM _ (getD_mem' M i Pg.zr hi)
  have HYES : Hid (L.length = M.length → (∀ i, i < L.length → L.getD i Pg.zr = M.getD i Pg.zr) → decide (L = M) = true) := fun h1 h2 => decide_eq_true (rfs_ext h1 h2)
  have HNO : Hid (∀ i, L.getD i Pg.zr ≠ M.getD i Pg.zr → decide (L = M) = false) := fun i h => decide_eq_false (fun e => h (by rw [e]))
  have HNL : L.length ≠ M.length → decide (L = M) = false := fun h => decide_eq_false (fun e => h (by rw [e]))
  unfold BoSay
  generalize decide (L = M) = eb at *
  obtain ⟨n, hn⟩ : ∃ n, L.length = n := ⟨_, rfl⟩
  obtain ⟨m, hm⟩ : ∃ m, M.length = m := ⟨_, rfl⟩
  rw [hn] at HM1 HOL HYES HNL hl ⊢
  rw [hm] at HM2 HOM HYES HNL ⊢
  clear hu hv hoL hoM hn hm
  by_cases hnm : n = m
  · subst hnm
    clear HNL
    go_enter Try.func26, Try.ntmps26
    go_wp2
    go_loopw [5] (fun v5 wr => ∃ k : Nat, k ≤ n ∧ v5 = .int .i64 k ∧ Hid (∀ i, i < k → L.getD i Pg.zr = M.getD i Pg.zr) ∧ Hid (Below w.heap.size w wr)) (fun v5 _ => n - (intOf v5).toNat)
    case atStart => exact ⟨0, Nat.zero_le _, rfl, fun i hi => by omega, Below.refl _ _⟩
    case round =>
      obtain ⟨k, hk, rfl, HE, HB⟩ := hrel
      by_cases hlt : k < n
      · obtain ⟨ga, hpa, _⟩ := HM1.out _ k HB.out hlt
        obtain ⟨gb, hpb, _⟩ := HM2.out _ k HB.out hlt
        subst hpa hpb
        have hi0 : 0 ≤ (k : Int) := by omega
        have hi1 : (k : Int) < (n : Int) := by omega
        have heqz := rf_eqs (HOL.out k hlt) (HOM.out k hlt)
        have HXS := Lib.hid (rfa_size (HOL.out k hlt))
        have hsX := row_size Try.sizeRef33 HXS
        have HYS := Lib.hid (rfa_size (HOM.out k hlt))
        have hsY := row_size Try.sizeRef33 HYS
        have HRX : Hid (∀ y, Below w.heap.size w y → y.rangeAt ga (k * 33) (rfA (L.getD k Pg.zr)).toList ∧ y.rangeAt gb (k * 33) (rfA (M.getD k Pg.zr)).toList) := fun y hy => by
          obtain ⟨_, e1, h1⟩ := HM1.out y k hy hlt
          obtain ⟨_, e2, h2⟩ := HM2.out y k hy hlt
          cases e1; cases e2
          exact ⟨h1, h2⟩
        have HN2 := Lib.hid (HNO.out k)
        have HE2 : Hid (L.getD k Pg.zr = M.getD k Pg.zr → ∀ i, i < k + 1 → L.getD i Pg.zr = M.getD i Pg.zr) := fun h i hi => by
          by_cases e : i = k
          · rw [e]; exact h
          · exact HE.out i (by omega)
        generalize rfA (L.getD k Pg.zr) = X at *
        generalize rfA (M.getD k Pg.zr) = Y at *
        clear HM1 HM2 HOL HOM HNO hlt
        by_cases hxy : L.getD k Pg.zr = M.getD k Pg.zr
        · have HE3 := Lib.hid (HE2.out hxy)
          rw [decide_eq_true hxy] at heqz
          clear hxy HE2 HN2 HE
          go_upto_region 6 with (fail)
          refine wp_region_any (by kernel_rfl) ?_
          change wpAny _ _ _ _ _ _ _ (World.drew _)
          have BZ : Hid (Below w.heap.size w wr.drew) := HB.out.drew
          obtain ⟨z, hz9⟩ : ∃ y, y = wr.drew := ⟨_, rfl⟩
          rw [← hz9] at BZ ⊢
          clear hz9
          refine wpAny_of_held (S := fun y => y.rangeAt ga (k * 33) X.toList ∧ y.rangeAt gb (k * 33) Y.toList) _ _ _ _ ?_
          have SD : (fun y => y.rangeAt ga (k * 33) X.toList ∧ y.rangeAt gb (k * 33) Y.toList) z := HRX.out _ BZ.out
          refine anyH_take 0 17 (.slice (some ⟨ga, 0, none⟩) n c) SD rfl (by kernel_rfl) (by kernel_rfl) (by kernel_rfl) (fun _ _ _ h => h) (by rfl) (by intro y hy; go_simp) ?_
          try simp only [Act.put, List.setIfInBounds_toArray, List.set_cons_zero, List.set_cons_succ]
          refine anyH_take 1 18 (.int .i64 (k : Int)) SD rfl (by kernel_rfl) (by kernel_rfl) (by kernel_rfl) (fun _ _ _ h => h) (by rfl) (by intro y hy; go_simp) ?_
          try simp only [Act.put, List.setIfInBounds_toArray, List.set_cons_zero, List.set_cons_succ]
          refine anyH_take 2 19 (.pointer (some ⟨ga, k * 33, none⟩)) SD rfl (by kernel_rfl) (by kernel_rfl) (by kernel_rfl) (fun _ _ _ h => h) (by rfl) (by intro y hy; go_simp) ?_
          try simp only [Act.put, List.setIfInBounds_toArray, List.set_cons_zero, List.set_cons_succ]
          refine anyH_take 3 20 (.agg X) SD rfl (by kernel_rfl) (by kernel_rfl) (by kernel_rfl) (fun _ _ _ h => h) (by rfl) (fun y hy => exec_arr _ _ ga (k * 33) _ _ rfl hy.1 Try.underlying33 rfl hsX) ?_
          try simp only [Act.put, List.setIfInBounds_toArray, List.set_cons_zero, List.set_cons_succ]
          refine anyH_take 4 21 (.slice (some ⟨gb, 0, none⟩) n d) SD rfl (by kernel_rfl) (by kernel_rfl) (by kernel_rfl) (fun _ _ _ h => h) (by rfl) (by intro y hy; go_simp) ?_
          try simp only [Act.put, List.setIfInBounds_toArray, List.set_cons_zero, List.set_cons_succ]
          refine anyH_take 5 22 (.int .i64 (k : Int)) SD rfl (by kernel_rfl) (by kernel_rfl) (by kernel_rfl) (fun _ _ _ h => h) (by rfl) (by intro y hy; go_simp) ?_
          try simp only [Act.put, List.setIfInBounds_toArray, List.set_cons_zero, List.set_cons_succ]
          refine anyH_take 6 23 (.pointer (some ⟨gb, k * 33, none⟩)) SD rfl (by kernel_rfl) (by kernel_rfl) (by kernel_rfl) (fun _ _ _ h => h) (by rfl) (by intro y hy; go_simp) ?_
          try simp only [Act.put, List.setIfInBounds_toArray, List.set_cons_zero, List.set_cons_succ]
          refine anyH_take 7 24 (.agg Y) SD rfl (by kernel_rfl) (by kernel_rfl) (by kernel_rfl) (fun _ _ _ h => h) (by rfl) (fun y hy => exec_arr _ _ gb (k * 33) _ _ rfl hy.2 Try.underlying33 rfl hsY) ?_
          try simp only [Act.put, List.setIfInBounds_toArray, List.set_cons_zero, List.set_cons_succ]
          refine anyH_take 8 25 (.bool false) SD rfl (by kernel_rfl) (by kernel_rfl) (by kernel_rfl) (fun _ _ _ h => h) (by rfl) (by intro y hy; go_simp) ?_
          try simp only [Act.put, List.setIfInBounds_toArray, List.set_cons_zero, List.set_cons_succ]
          refine wpAnyH_done (by kernel_rfl) ?_ _
          go_wp2
          exact ⟨⟨k + 1, by omega, by go_num, HE3.out, BZ⟩, by simp [intOf]; omega⟩
        · have HN3 := HN2.out hxy
          subst HN3
          rw [decide_eq_false hxy] at heqz
          clear hxy HE2 HN2 HE
          go_upto_region 6 with (fail)
          refine wp_region_any (by kernel_rfl) ?_
          change wpAny _ _ _ _ _ _ _ (World.drew _)
          have BZ : Hid (Below w.heap.size w wr.drew) := HB.out.drew
          obtain ⟨z, hz9⟩ : ∃ y, y = wr.drew := ⟨_, rfl⟩
          rw [← hz9] at BZ ⊢
          clear hz9
          refine wpAny_of_held (S := fun y => y.rangeAt ga (k * 33) X.toList ∧ y.rangeAt gb (k * 33) Y.toList) _ _ _ _ ?_
          have SD : (fun y => y.rangeAt ga (k * 33) X.toList ∧ y.rangeAt gb (k * 33) Y.toList) z := HRX.out _ BZ.out
          refine anyH_take 0 17 (.slice (some ⟨ga, 0, none⟩) n c) SD rfl (by kernel_rfl) (by kernel_rfl) (by kernel_rfl) (fun _ _ _ h => h) (by rfl) (by intro y hy; go_simp) ?_
          try simp only [Act.put, List.setIfInBounds_toArray, List.set_cons_zero, List.set_cons_succ]
          refine anyH_take 1 18 (.int .i64 (k : Int)) SD rfl (by kernel_rfl) (by kernel_rfl) (by kernel_rfl) (fun _ _ _ h => h) (by rfl) (by intro y hy; go_simp) ?_
          try simp only [Act.put, List.setIfInBounds_toArray, List.set_cons_zero, List.set_cons_succ]
          refine anyH_take 2 19 (.pointer (some ⟨ga, k * 33, none⟩)) SD rfl (by kernel_rfl) (by kernel_rfl) (by kernel_rfl) (fun _ _ _ h => h) (by rfl) (by intro y hy; go_simp) ?_
          try simp only [Act.put, List.setIfInBounds_toArray, List.set_cons_zero, List.set_cons_succ]
          refine anyH_take 3 20 (.agg X) SD rfl (by kernel_rfl) (by kernel_rfl) (by kernel_rfl) (fun _ _ _ h => h) (by rfl) (fun y hy => exec_arr _ _ ga (k * 33) _ _ rfl hy.1 Try.underlying33 rfl hsX) ?_
          try simp only [Act.put, List.setIfInBounds_toArray, List.set_cons_zero, List.set_cons_succ]
          refine anyH_take 4 21 (.slice (some ⟨gb, 0, none⟩) n d) SD rfl (by kernel_rfl) (by kernel_rfl) (by kernel_rfl) (fun _ _ _ h => h) (by rfl) (by intro y hy; go_simp) ?_
          try simp only [Act.put, List.setIfInBounds_toArray, List.set_cons_zero, List.set_cons_succ]
          refine anyH_take 5 22 (.int .i64 (k : Int)) SD rfl (by kernel_rfl) (by kernel_rfl) (by kernel_rfl) (fun _ _ _ h => h) (by rfl) (by intro y hy; go_simp) ?_
          try simp only [Act.put, List.setIfInBounds_toArray, List.set_cons_zero, List.set_cons_succ]
          refine anyH_take 6 23 (.pointer (some ⟨gb, k * 33, none⟩)) SD rfl (by kernel_rfl) (by kernel_rfl) (by kernel_rfl) (fun _ _ _ h => h) (by rfl) (by intro y hy; go_simp) ?_
          try simp only [Act.put, List.setIfInBounds_toArray, List.set_cons_zero, List.set_cons_succ]
          refine anyH_take 7 24 (.agg Y) SD rfl (by kernel_rfl) (by kernel_rfl) (by kernel_rfl) (fun _ _ _ h => h) (by rfl) (fun y hy => exec_arr _ _ gb (k * 33) _ _ rfl hy.2 Try.underlying33 rfl hsY) ?_
          try simp only [Act.put, List.setIfInBounds_toArray, List.set_cons_zero, List.set_cons_succ]
          refine anyH_take 8 25 (.bool true) SD rfl (by kernel_rfl) (by kernel_rfl) (by kernel_rfl) (fun _ _ _ h => h) (by rfl) (by intro y hy; go_simp) ?_
          try simp only [Act.put, List.setIfInBounds_toArray, List.set_cons_zero, List.set_cons_succ]
          refine wpAnyH_done (by kernel_rfl) ?_ _
          go_wp2
          go_ret
          exact ⟨rfl, BZ⟩
      · have E : k = n := by omega
        have hf := HYES.out (by trivial) (fun i hi => HE.out i (by omega))
        subst hf
        subst E
        clear hlt HM1 HM2 HOL HOM
        go_wp2
        go_ret
        exact ⟨rfl, HB⟩
  · have hf := HNL hnm
    subst hf
    have hne : ¬ ((n : Int) = (m : Int)) := by omega
    have hb1 : ((n : Int) == (m : Int)) = false := by simp; omega
    clear HNL HM1 HM2 HOL HOM HYES HNO
    go_enter Try.func26, Try.ntmps26
    go_wp2
    go_ret
    exact ⟨rfl, Below.refl _ _⟩
set_option maxHeartbeats 4000000 in
set_option maxRecDepth 100000 in
theorem sameints_any {B C : Nat} {u v : Value} {L M : List Nat} (hl : L.length ≤ 10000) (w : World) (hu : IxO B w u L) (hv : IxO C w v M) :
    Calls Try.prog 28 #[u, v] w (BoSay (decide (L = M)) w) := by
  obtain ⟨p, c, hpe⟩ := hu.len
  obtain ⟨q, d, hqe⟩ := hv.len
  subst hpe hqe
  have HM1 : Hid (∀ y i, Below w.heap.size w y → i < L.length → ∃ g, p = some ⟨g, 0, none⟩ ∧ y.cell? ⟨g, i, none⟩ = some (.int .i64 ((L.getD i 0 : Nat) : Int))) := fun y i hy hi => by
    obtain ⟨g, c', e, _, _, hr⟩ := (hu.old hy).at_ i (L.getD i 0) (by rw [List.getD_eq_getElem?_getD, List.getElem?_eq_getElem hi]; rfl)
    injection e with e _ _
    exact ⟨g, e, hr⟩
  have HM2 : Hid (∀ y i, Below w.heap.size w y → i < M.length → ∃ g, q = some ⟨g, 0, none⟩ ∧ y.cell? ⟨g, i, none⟩ = some (.int .i64 ((M.getD i 0 : Nat) : Int))) := fun y i hy hi => by
    obtain ⟨g, c', e, _, _, hr⟩ := (hv.old hy).at_ i (M.getD i 0) (by rw [List.getD_eq_getElem?_getD, List.getElem?_eq_getElem hi]; rfl)
    injection e with e _ _
    exact ⟨g, e, hr⟩
  have HYES : Hid (L.length = M.length → (∀ i, i < L.length → L.getD i 0 = M.getD i 0) → decide (L = M) = true) := fun h1 h2 => decide_eq_true (nat_ext h1 h2)
  have HNO : Hid (∀ i, L.getD i 0 ≠ M.getD i 0 → decide (L = M) = false) := fun i h => decide_eq_false (fun e => h (by rw [e]))
  have HNL : L.length ≠ M.length → decide (L = M) = false := fun h => decide_eq_false (fun e => h (by rw [e]))
  unfold BoSay
  generalize decide (L = M) = eb at *
  obtain ⟨n, hn⟩ : ∃ n, L.length = n := ⟨_, rfl⟩
  obtain ⟨m, hm⟩ : ∃ m, M.length = m := ⟨_, rfl⟩
  rw [hn] at HM1 HYES HNL hl ⊢
  rw [hm] at HM2 HYES HNL ⊢
  clear hu hv hn hm
  by_cases hnm : n = m
  · subst hnm
    clear HNL
    go_enter Try.func28, Try.ntmps28
    go_wp2
    go_loopw [5] (fun v5 wr => ∃ k : Nat, k ≤ n ∧ v5 = .int .i64 k ∧ Hid (∀ i, i < k → L.getD i 0 = M.getD i 0) ∧ Hid (Below w.heap.size w wr)) (fun v5 _ => n - (intOf v5).toNat)
    case atStart => exact ⟨0, Nat.zero_le _, rfl, fun i hi => by omega, Below.refl _ _⟩
    case round =>
      obtain ⟨k, hk, rfl, HE, HB⟩ := hrel
      by_cases hlt : k < n
      · obtain ⟨ga, hpa, _⟩ := HM1.out _ k HB.out hlt
        obtain ⟨gb, hpb, _⟩ := HM2.out _ k HB.out hlt
        subst hpa hpb
        have hi0 : 0 ≤ (k : Int) := by omega
        have hi1 : (k : Int) < (n : Int) := by omega
        have HRX : Hid (∀ y, Below w.heap.size w y → y.cell? ⟨ga, k, none⟩ = some (.int .i64 ((L.getD k 0 : Nat) : Int)) ∧ y.cell? ⟨gb, k, none⟩ = some (.int .i64 ((M.getD k 0 : Nat) : Int))) := fun y hy => by
          obtain ⟨_, e1, h1⟩ := HM1.out y k hy hlt
          obtain ⟨_, e2, h2⟩ := HM2.out y k hy hlt
          cases e1; cases e2
          exact ⟨h1, h2⟩
        have HN2 := Lib.hid (HNO.out k)
        have HE2 : Hid (L.getD k 0 = M.getD k 0 → ∀ i, i < k + 1 → L.getD i 0 = M.getD i 0) := fun h i hi => by
          by_cases e : i = k
          · rw [e]; exact h
          · exact HE.out i (by omega)
        have hxi : ∀ x y : Nat, (x = y → ((x : Int) != (y : Int)) = false) ∧ (x ≠ y → ((x : Int) != (y : Int)) = true) := fun x y => ⟨fun e => by simp [e], fun e => by simp; omega⟩
        generalize L.getD k 0 = X at *
        generalize M.getD k 0 = Y at *
        clear HM1 HM2 HNO hlt
        by_cases hxy : X = Y
        · have HE3 := Lib.hid (HE2.out hxy)
          have hx2 := (hxi X Y).1 hxy
          clear hxi HE2 HN2 HE
          go_upto_region 6 with (fail)
          refine wp_region_any (by kernel_rfl) ?_
          change wpAny _ _ _ _ _ _ _ (World.drew _)
          have BZ : Hid (Below w.heap.size w wr.drew) := HB.out.drew
          obtain ⟨z, hz9⟩ : ∃ y, y = wr.drew := ⟨_, rfl⟩
          rw [← hz9] at BZ ⊢
          clear hz9
          refine wpAny_of_held (S := fun y => y.cell? ⟨ga, k, none⟩ = some (.int .i64 (X : Int)) ∧ y.cell? ⟨gb, k, none⟩ = some (.int .i64 (Y : Int))) _ _ _ _ ?_
          have SD : (fun y => y.cell? ⟨ga, k, none⟩ = some (.int .i64 (X : Int)) ∧ y.cell? ⟨gb, k, none⟩ = some (.int .i64 (Y : Int))) z := HRX.out _ BZ.out
          refine anyH_take 0 17 (.slice (some ⟨ga, 0, none⟩) n c) SD rfl (by kernel_rfl) (by kernel_rfl) (by kernel_rfl) (fun _ _ _ h => h) (by rfl) (by intro y hy; go_simp) ?_
          try simp only [Act.put, List.setIfInBounds_toArray, List.set_cons_zero, List.set_cons_succ]
          refine anyH_take 1 18 (.int .i64 (k : Int)) SD rfl (by kernel_rfl) (by kernel_rfl) (by kernel_rfl) (fun _ _ _ h => h) (by rfl) (by intro y hy; go_simp) ?_
          try simp only [Act.put, List.setIfInBounds_toArray, List.set_cons_zero, List.set_cons_succ]
          refine anyH_take 2 19 (.pointer (some ⟨ga, k, none⟩)) SD rfl (by kernel_rfl) (by kernel_rfl) (by kernel_rfl) (fun _ _ _ h => h) (by rfl) (by intro y hy; go_simp) ?_
          try simp only [Act.put, List.setIfInBounds_toArray, List.set_cons_zero, List.set_cons_succ]
          refine anyH_take 3 20 (.int .i64 (X : Int)) SD rfl (by kernel_rfl) (by kernel_rfl) (by kernel_rfl) (fun _ _ _ h => h) (by rfl) (by intro y hy; obtain ⟨y0, y1⟩ := hy; go_simp) ?_
          try simp only [Act.put, List.setIfInBounds_toArray, List.set_cons_zero, List.set_cons_succ]
          refine anyH_take 4 21 (.slice (some ⟨gb, 0, none⟩) n d) SD rfl (by kernel_rfl) (by kernel_rfl) (by kernel_rfl) (fun _ _ _ h => h) (by rfl) (by intro y hy; go_simp) ?_
          try simp only [Act.put, List.setIfInBounds_toArray, List.set_cons_zero, List.set_cons_succ]
          refine anyH_take 5 22 (.int .i64 (k : Int)) SD rfl (by kernel_rfl) (by kernel_rfl) (by kernel_rfl) (fun _ _ _ h => h) (by rfl) (by intro y hy; go_simp) ?_
          try simp only [Act.put, List.setIfInBounds_toArray, List.set_cons_zero, List.set_cons_succ]
          refine anyH_take 6 23 (.pointer (some ⟨gb, k, none⟩)) SD rfl (by kernel_rfl) (by kernel_rfl) (by kernel_rfl) (fun _ _ _ h => h) (by rfl) (by intro y hy; go_simp) ?_
          try simp only [Act.put, List.setIfInBounds_toArray, List.set_cons_zero, List.set_cons_succ]
          refine anyH_take 7 24 (.int .i64 (Y : Int)) SD rfl (by kernel_rfl) (by kernel_rfl) (by kernel_rfl) (fun _ _ _ h => h) (by rfl) (by intro y hy; obtain ⟨y0, y1⟩ := hy; go_simp) ?_
          try simp only [Act.put, List.setIfInBounds_toArray, List.set_cons_zero, List.set_cons_succ]
          refine anyH_take 8 25 (.bool false) SD rfl (by kernel_rfl) (by kernel_rfl) (by kernel_rfl) (fun _ _ _ h => h) (by rfl) (by intro y hy; go_simp; try exact hx2) ?_
          try simp only [Act.put, List.setIfInBounds_toArray, List.set_cons_zero, List.set_cons_succ]
          refine wpAnyH_done (by kernel_rfl) ?_ _
          go_wp2
          exact ⟨⟨k + 1, by omega, by go_num, HE3.out, BZ⟩, by simp [intOf]; omega⟩
        · have HN3 := HN2.out hxy
          subst HN3
          have hx2 := (hxi X Y).2 hxy
          clear hxi HE2 HN2 HE
          go_upto_region 6 with (fail)
          refine wp_region_any (by kernel_rfl) ?_
          change wpAny _ _ _ _ _ _ _ (World.drew _)
          have BZ : Hid (Below w.heap.size w wr.drew) := HB.out.drew
          obtain ⟨z, hz9⟩ : ∃ y, y = wr.drew := ⟨_, rfl⟩
          rw [← hz9] at BZ ⊢
          clear hz9
          refine wpAny_of_held (S := fun y => y.cell? ⟨ga, k, none⟩ = some (.int .i64 (X : Int)) ∧ y.cell? ⟨gb, k, none⟩ = some (.int .i64 (Y : Int))) _ _ _ _ ?_
          have SD : (fun y => y.cell? ⟨ga, k, none⟩ = some (.int .i64 (X : Int)) ∧ y.cell? ⟨gb, k, none⟩ = some (.int .i64 (Y : Int))) z := HRX.out _ BZ.out
          refine anyH_take 0 17 (.slice (some ⟨ga, 0, none⟩) n c) SD rfl (by kernel_rfl) (by kernel_rfl) (by kernel_rfl) (fun _ _ _ h => h) (by rfl) (by intro y hy; go_simp) ?_
          try simp only [Act.put, List.setIfInBounds_toArray, List.set_cons_zero, List.set_cons_succ]
          refine anyH_take 1 18 (.int .i64 (k : Int)) SD rfl (by kernel_rfl) (by kernel_rfl) (by kernel_rfl) (fun _ _ _ h => h) (by rfl) (by intro y hy; go_simp) ?_
          try simp only [Act.put, List.setIfInBounds_toArray, List.set_cons_zero, List.set_cons_succ]
          refine anyH_take 2 19 (.pointer (some ⟨ga, k, none⟩)) SD rfl (by kernel_rfl) (by kernel_rfl) (by kernel_rfl) (fun _ _ _ h => h) (by rfl) (by intro y hy; go_simp) ?_
          try simp only [Act.put, List.setIfInBounds_toArray, List.set_cons_zero, List.set_cons_succ]
          refine anyH_take 3 20 (.int .i64 (X : Int)) SD rfl (by kernel_rfl) (by kernel_rfl) (by kernel_rfl) (fun _ _ _ h => h) (by rfl) (by intro y hy; obtain ⟨y0, y1⟩ := hy; go_simp) ?_
          try simp only [Act.put, List.setIfInBounds_toArray, List.set_cons_zero, List.set_cons_succ]
          refine anyH_take 4 21 (.slice (some ⟨gb, 0, none⟩) n d) SD rfl (by kernel_rfl) (by kernel_rfl) (by kernel_rfl) (fun _ _ _ h => h) (by rfl) (by intro y hy; go_simp) ?_
          try simp only [Act.put, List.setIfInBounds_toArray, List.set_cons_zero, List.set_cons_succ]
          refine anyH_take 5 22 (.int .i64 (k : Int)) SD rfl (by kernel_rfl) (by kernel_rfl) (by kernel_rfl) (fun _ _ _ h => h) (by rfl) (by intro y hy; go_simp) ?_
          try simp only [Act.put, List.setIfInBounds_toArray, List.set_cons_zero, List.set_cons_succ]
          refine anyH_take 6 23 (.pointer (some ⟨gb, k, none⟩)) SD rfl (by kernel_rfl) (by kernel_rfl) (by kernel_rfl) (fun _ _ _ h => h) (by rfl) (by intro y hy; go_simp) ?_
          try simp only [Act.put, List.setIfInBounds_toArray, List.set_cons_zero, List.set_cons_succ]
          refine anyH_take 7 24 (.int .i64 (Y : Int)) SD rfl (by kernel_rfl) (by kernel_rfl) (by kernel_rfl) (fun _ _ _ h => h) (by rfl) (by intro y hy; obtain ⟨y0, y1⟩ := hy; go_simp) ?_
          try simp only [Act.put, List.setIfInBounds_toArray, List.set_cons_zero, List.set_cons_succ]
          refine anyH_take 8 25 (.bool true) SD rfl (by kernel_rfl) (by kernel_rfl) (by kernel_rfl) (fun _ _ _ h => h) (by rfl) (by intro y hy; go_simp; try exact hx2) ?_
          try simp only [Act.put, List.setIfInBounds_toArray, List.set_cons_zero, List.set_cons_succ]
          refine wpAnyH_done (by kernel_rfl) ?_ _
          go_wp2
          go_ret
          exact ⟨rfl, BZ⟩
      · have E : k = n := by omega
        have hf := HYES.out (by trivial) (fun i hi => HE.out i (by omega))
        subst hf
        subst E
        clear hlt HM1 HM2 
        go_wp2
        go_ret
        exact ⟨rfl, HB⟩
  · have hf := HNL hnm
    subst hf
    have hne : ¬ ((n : Int) = (m : Int)) := by omega
    have hb1 : ((n : Int) == (m : Int)) = false := by simp; omega
    clear HNL HM1 HM2 HYES HNO
    go_enter Try.func28, Try.ntmps28
    go_wp2
    go_ret
    exact ⟨rfl, Below.refl _ _⟩
set_option maxHeartbeats 1000000 in
set_option maxRecDepth 100000 in
theorem spoilints_cells (g c n : Nat) (cur : Array Value) (l : List Int) (_hl : l.length = n) (hn : n ≤ 1000000) (w : World) (hg : w.heap[g]? = some (.cells cur 3 (0, 0))) (hc : ∀ j, j < n → cur[j]? = some (.int .i64 (l.getD j 0))) :
    Calls Try.prog 34 #[.slice (some ⟨g, 0, none⟩) n c] w fun r w' => r = .returned (.tuple #[]) ∧ Only g w w' := by
  have Hg := Lib.hid hg; have Hc := Lib.hid hc; clear hg hc
  go_enter Try.func34, Try.ntmps34
  go_wp2
  go_loopw [2] (fun v2 wr => ∃ k : Nat, k ≤ n ∧ v2 = .int .i64 k ∧ ∃ m : Array Value, Hid (∀ j, k ≤ j → j < n → m[j]? = some (.int .i64 (l.getD j 0))) ∧ Hid (wr.heap[g]? = some (.cells m 3 (0, 0))) ∧ Hid (Only g w wr)) (fun v2 _ => n - (intOf v2).toNat)
  case atStart => exact ⟨0, Nat.zero_le _, rfl, cur, fun j _ hj => Hc.out j hj, Hg.out, Only.refl _ _⟩
  case round =>
    clear Hg Hc
    obtain ⟨k, hk, rfl, m, HM, HG, HO⟩ := hrel
    by_cases hlt : k < n
    · have c0 : wr.cell? ⟨g, k, none⟩ = some (.int .i64 (l.getD k 0)) := by rw [cell_of_row wr g k _ _ _ HG.out]; exact HM.out k (Nat.le_refl _) hlt
      have f0 := frozen_of_row wr g k _ _ HG.out
      generalize l.getD k 0 = y at c0
      go_wp2
      refine ⟨⟨k + 1, by omega, by go_num, m.setIfInBounds k (.int .i64 (bits .xor .i64 y 77)), ?_, ?_, ?_⟩, by simp [intOf]; omega⟩
      · intro j h1 h2
        rw [Array.getElem?_setIfInBounds_ne (by omega)]
        exact HM.out j (by omega) h2
      · show _ = _
        rw [heap_setCell_same wr g k _ _ _ HG.out]
      · exact HO.out.trans (Chg.setCell wr ⟨g, k, none⟩ _).only
    · have hge : n ≤ k := by omega
      clear hlt
      go_wp2
      go_end0
      exact ⟨rfl, HO.out⟩
set_option maxHeartbeats 1000000 in
set_option maxRecDepth 100000 in
theorem spoilints_nil (w : World) : Calls Try.prog 34 #[.slice none 0 0] w fun r w' => r = .returned (.tuple #[]) ∧ w' = w := by
  go_enter Try.func34, Try.ntmps34
  go_wp2
  go_loopw [2] (fun v2 wr => v2 = .int .i64 0 ∧ wr = w) (fun _ _ => 0)
  case atStart => exact ⟨rfl, rfl⟩
  case round =>
    obtain ⟨rfl, rfl⟩ := hrel
    go_wp2
    go_end0
    exact ⟨rfl, rfl⟩

/-- Which number Pick answers. -/
def pk (k n : Int) : Nat := (if k.tmod n < 0 then k.tmod n + n else k.tmod n).toNat
theorem pk_lt (k n : Int) (h1 : 1 ≤ n) : (pk k n : Int) < n := by
  have hlt : k.tmod n < n := Int.tmod_lt_of_pos k (by omega)
  have hge : -n < k.tmod n := by
    have h := Int.tmod_lt_of_pos (-k) (show 0 < n by omega)
    rw [Int.neg_tmod] at h
    omega
  unfold pk
  split <;> omega
attribute [irreducible] pk
set_option maxHeartbeats 1000000 in
theorem pick_at (k n : Int) (h1 : 1 ≤ n) (hn : n ≤ 1073741824) (w : World) : Calls Try.prog 19 #[.int .i64 k, .int .i64 n] w fun r w' => w' = w ∧ r = .returned (.int .i64 (pk k n : Nat)) := by
  have hlt : k.tmod n < n := Int.tmod_lt_of_pos k (by omega)
  have hge : -n < k.tmod n := by
    have h := Int.tmod_lt_of_pos (-k) (show 0 < n by omega)
    rw [Int.neg_tmod] at h
    omega
  have hw : IntKind.i64.wrap (k.tmod n) = k.tmod n := IntWalk.i64_in _ ⟨by omega, by omega⟩
  have hnz : n ≠ 0 := by omega
  have hw2 : IntKind.i64.wrap (k.tmod n + n) = k.tmod n + n := IntWalk.i64_in _ ⟨by omega, by omega⟩
  by_cases h0 : k.tmod n < 0
  · have hp : ((pk k n : Nat) : Int) = k.tmod n + n := by unfold pk; rw [if_pos h0]; omega
    go_enter Try.func19, Try.ntmps19
    go_wp2
    go_ret
    exact ⟨rfl, by first | rfl | (rw [hp]; rfl)⟩
  · have h0' : 0 ≤ k.tmod n := by omega
    have hp : ((pk k n : Nat) : Int) = k.tmod n := by unfold pk; rw [if_neg h0]; omega
    go_enter Try.func19, Try.ntmps19
    go_wp2
    go_ret
    exact ⟨rfl, by first | rfl | (rw [hp]; rfl)⟩

theorem spoilix_any {B : Nat} {v : Value} {L : List Nat} (w : World) (h : IxO B w v L) (hl : L.length ≤ 100000) :
    Calls Try.prog 34 #[v] w fun r w' => r = .returned (.tuple #[]) ∧ Sp v w w' := by
  rcases h.2 with ⟨rfl, _⟩ | ⟨g, cap, cur, rfl, q0, q1, q2, q3, q4, q5⟩
  · exact (spoilints_nil w).mono fun r w' hh => ⟨hh.1, Or.inl hh.2⟩
  · refine (spoilints_cells g cap L.length cur (L.map fun (k : Nat) => (k : Int)) (by simp) (by omega) w q1 fun j hj => ?_).mono fun r w' hh => ⟨hh.1, Or.inr ⟨g, rfl, hh.2⟩⟩
    have h6 : (cur.toList.take (L.length * 1))[j]? = (ixc L)[j]? := by rw [q5]
    rw [List.getElem?_take_of_lt (by omega)] at h6
    have h7 : cur[j]? = (ixc L)[j]? := by simpa using h6
    rw [h7]
    unfold ixc
    rw [List.getElem?_map, List.getElem?_eq_getElem hj, List.getD_eq_getElem?_getD, List.getElem?_map, List.getElem?_eq_getElem hj]
    rfl
/-- A ref with an At alone. -/
def Tr.rf (x : Int) : Pg.Rf := (x, List.replicate 32 0)
theorem rf_ok (x : Int) (h : Pk.In64 x) : Pg.Ok (Tr.rf x) := ⟨by simp [Tr.rf], byt_rep 32 0 (by omega), h⟩
theorem Try.placesRefP : (match Try.prog.underlying 33 with
    | some (.struct fields) => fields.toList.mapM (fun f => (Try.prog.info? f.type).map fun i => (f.offset, i.size))
    | _ => none) = some [(0, 1), (1, 32)] := by kernel_rfl
theorem build_rf (x : Int) : Try.prog.built 33 [(0, .int .i64 x)] = some (rfA (Tr.rf x)) := by
  have hz := cl_len Pg.ok_zr
  rw [built_of Try.zeroRef33 Try.placesRefP, fill_step _ 0 _ 0 1 _ _ rfl rfl (by rw [List.size_toArray, hz]; omega)]
  unfold Instr.fill
  unfold rfA Tr.rf cl Pg.zr
  simp [Value.cells]
set_option maxHeartbeats 2000000 in
set_option maxRecDepth 100000 in
theorem lref_any (x : Int) (w : World) : Calls Try.prog 21 #[.int .i64 x] w fun e w' => e = .returned (.agg (rfA (Tr.rf x))) ∧ Hid (Below w.heap.size w w') := by
  obtain ⟨Z, hk⟩ := zfk
  have HZS := Lib.hid hk.size
  have hz := (zero_of_info hk.zero).1
  have hzn : ¬ Z = #[] := fun h => by have := HZS.out; rw [h] at this; simp at this
  have R0 : Hid ((w.alloc (.cells Z 33)).heap[w.heap.size]? = some (.cells Z 33 (0, 0))) := heap_alloc_new w _
  have B0 : Hid (Below w.heap.size w (w.alloc (.cells Z 33))) := (Below.refl _ w).alloc (Nat.le_refl _) _
  have HBU := Lib.hid (build_rf x)
  have HRS : Hid ((rfA (Tr.rf x)).size = 33) := by show _ = _; unfold rfA Tr.rf cl; simp
  have HR1 := Lib.hid (rfa_one (Tr.rf x))
  have hsR := row_size Try.sizeRef33 HRS
  generalize rfA (Tr.rf x) = R at *
  clear hk
  go_enter Try.func21, Try.ntmps21
  go_wp2_with (first
    | ((with_reducible refine row_build1 _ _ _ _ _ ?_ HBU.out ?_); (exact rfl))
    | ((with_reducible refine row_store _ _ _ _ _ _ _ ?_ ?_ R0.out hsR ?_ HR1.out ?_); (exact rfl); (exact rfl); (rw [HRS.out, HZS.out]); intro w6 G6 ch6))
  exact bodyPost_ret (results_cell1 rfl _ _ w.heap.size 33 _ (0, 0) _ rfl G6.out Try.underlying33 rfl hsR) rfl ⟨rfl, Lib.hid (ch6.below B0.out (Nat.le_refl _))⟩
set_option maxHeartbeats 2000000 in
set_option maxRecDepth 100000 in
theorem spoilrefs_cells (g c n : Nat) (cur : Array Value) (l : Nat → Int) (hn : n ≤ 100000) (w : World) (hg : w.heap[g]? = some (.cells cur 33 (0, 0))) (hs : n * 33 ≤ cur.size) (hc : ∀ j, j < n → cur[j * 33]? = some (.int .i64 (l j))) :
    Calls Try.prog 33 #[.slice (some ⟨g, 0, none⟩) n c] w fun r w' => r = .returned (.tuple #[]) ∧ Only g w w' := by
  have Hg := Lib.hid hg; have Hc := Lib.hid hc; have Hs := Lib.hid hs; clear hg hc hs
  have HBU := Lib.hid build_rf
  have HRS : Hid (∀ x, (rfA (Tr.rf x)).size = 33) := fun x => by unfold rfA Tr.rf cl; simp
  have HR1 : Hid (∀ x, (rfA (Tr.rf x)).all (·.oneCell') = true) := fun x => rfa_one _
  go_enter Try.func33, Try.ntmps33
  go_wp2
  go_loopw [2] (fun v2 wr => ∃ k : Nat, k ≤ n ∧ v2 = .int .i64 k ∧ ∃ m : Array Value, Hid (∀ j, k ≤ j → j < n → m[j * 33]? = some (.int .i64 (l j))) ∧ Hid (n * 33 ≤ m.size) ∧ Hid (wr.heap[g]? = some (.cells m 33 (0, 0))) ∧ Hid (Only g w wr)) (fun v2 _ => n - (intOf v2).toNat)
  case atStart => exact ⟨0, Nat.zero_le _, rfl, cur, fun j _ hj => Hc.out j hj, Hs, Hg, Only.refl _ _⟩
  case round =>
    clear Hg Hc Hs
    obtain ⟨k, hk, rfl, m, HM, HS, HG, HO⟩ := hrel
    by_cases hlt : k < n
    · have c0 : wr.cell? ⟨g, k * 33, none⟩ = some (.int .i64 (l k)) := by rw [cell_of_row wr g _ _ _ _ HG.out]; exact HM.out k (Nat.le_refl _) hlt
      have hi0 : 0 ≤ (k : Int) := by omega
      have hi1 : (k : Int) < (n : Int) := by omega
      obtain ⟨y, hy⟩ : ∃ y, l k = y := ⟨_, rfl⟩
      rw [hy] at c0
      have HBX := Lib.hid (HBU.out (bits .xor .i64 y 77))
      have HXS := Lib.hid (HRS.out (bits .xor .i64 y 77))
      have HX1 := Lib.hid (HR1.out (bits .xor .i64 y 77))
      have hsX := row_size Try.sizeRef33 HXS
      have HFIT : Hid (k * 33 + 33 ≤ m.size) := by have := HS.out; show _ ≤ _; omega
      generalize rfA (Tr.rf (bits .xor .i64 y 77)) = X at *
      clear hy HBU HRS HR1
      go_wp2_with (first
        | ((with_reducible refine row_build1 _ _ _ _ _ ?_ HBX.out ?_); (exact rfl))
        | ((with_reducible refine mid_store _ _ _ g (k * 33) _ _ _ ?_ ?_ HG.out hsX ?_ HX1.out ?_); (exact rfl); (exact rfl); (rw [HXS.out]; exact HFIT.out); intro w4 G4 ch4))
      refine ⟨⟨k + 1, by omega, by go_num, _, ?_, ?_, G4, Lib.hid (HO.out.trans ch4.only)⟩, by simp [intOf]; omega⟩
      · intro j h1 h2
        have hl : ((m.toList.take (k * 33) ++ X.toList ++ m.toList.drop (k * 33 + X.size)).toArray)[j * 33]? = m[j * 33]? := by
          have hf := HFIT.out
          have hx := HXS.out
          have e1 : (m.toList.take (k * 33) ++ X.toList ++ m.toList.drop (k * 33 + X.size))[j * 33]? = m.toList[j * 33]? := by
            rw [List.getElem?_append_right (by rw [List.length_append, List.length_take, Array.length_toList, Array.length_toList]; omega), List.getElem?_drop, List.length_append, List.length_take, Array.length_toList, Array.length_toList]
            congr 1
            omega
          simpa using e1
        rw [hl]
        exact HM.out j (by omega) h2
      · have hf := HFIT.out
        have hx := HXS.out
        have := HS.out
        show _ ≤ _
        simp only [List.size_toArray, List.length_append, List.length_take, List.length_drop, Array.length_toList]
        omega
    · have hge : n ≤ k := by omega
      clear hlt
      go_wp2
      go_end0
      exact ⟨rfl, HO.out⟩
set_option maxHeartbeats 1000000 in
set_option maxRecDepth 100000 in
theorem spoilrefs_nil (w : World) : Calls Try.prog 33 #[.slice none 0 0] w fun r w' => r = .returned (.tuple #[]) ∧ w' = w := by
  go_enter Try.func33, Try.ntmps33
  go_wp2
  go_loopw [2] (fun v2 wr => v2 = .int .i64 0 ∧ wr = w) (fun _ _ => 0)
  case atStart => exact ⟨rfl, rfl⟩
  case round =>
    obtain ⟨rfl, rfl⟩ := hrel
    go_wp2
    go_end0
    exact ⟨rfl, rfl⟩
theorem spoilrf_any {B : Nat} {v : Value} {L : List Pg.Rf} (w : World) (h : Fl B 33 33 w v (L.map rfA)) (hl : L.length ≤ 100000) :
    Calls Try.prog 33 #[v] w fun r w' => r = .returned (.tuple #[]) ∧ Sp v w w' := by
  rcases h.1.2 with ⟨rfl, _⟩ | ⟨g, cap, cur, hv, q0, q1, q2, q3, q4, q5⟩
  · exact (spoilrefs_nil w).mono fun r w' hh => ⟨hh.1, Or.inl hh.2⟩
  · simp only [List.length_map] at hv q2 q5
    subst hv
    have hsz : L.length * 33 ≤ cur.size := by omega
    refine (spoilrefs_cells g cap L.length cur (fun j => (L.getD j Pg.zr).1) hl w q1 hsz fun j hj => ?_).mono fun r w' hh => ⟨hh.1, Or.inr ⟨g, rfl, hh.2⟩⟩
    obtain ⟨g', c', e, _, _, hr⟩ := h.ref j hj
    have hgg : g' = g := by injection e with e _ _; injection e with e; injection e with e; exact e.symm
    subst hgg
    have := hr 0 _ rfl
    rw [cell_of_row w g' _ _ _ _ q1] at this
    exact this
theorem count_step (L : List Pg.Rf) (r : Pg.Rf) (i : Nat) (hi : i < L.length) : (L.take (i + 1)).count r = (L.take i).count r + if L.getD i Pg.zr = r then 1 else 0 := by
  rw [List.take_add_one, List.count_append, List.getD_eq_getElem?_getD, List.getElem?_eq_getElem hi]
  congr 1
  show [L[i]].count r = if L[i] = r then 1 else 0
  rw [List.count_singleton]
  by_cases h : L[i] = r
  · rw [if_pos (by simp [h]), if_pos h]
  · rw [if_neg (by simp [h]), if_neg h]
set_option maxHeartbeats 4000000 in
set_option maxRecDepth 100000 in
theorem many_any {B : Nat} {v : Value} {L : List Pg.Rf} (hoL : ∀ r ∈ L, Pg.Ok r) (hl : L.length ≤ 10000) (r : Pg.Rf) (hr : Pg.Ok r) (w : World) (h : Fl B 33 33 w v (L.map rfA)) :
    Calls Try.prog 16 #[v, .agg (rfA r)] w fun e w' => e = .returned (.int .i64 ((L.count r : Nat) : Int)) ∧ Hid (Below w.heap.size w w') := by
  obtain ⟨p, c, hpe⟩ := h.len
  rw [List.length_map] at hpe
  subst hpe
  have HM1 : Hid (∀ y i, Below w.heap.size w y → i < L.length → ∃ g, p = some ⟨g, 0, none⟩ ∧ y.rangeAt g (i * 33) (rfA (L.getD i Pg.zr)).toList) := fun y i hy hi => by
    obtain ⟨g, c', e, _, _, hr⟩ := (h.old hy).ref i hi
    injection e with e _ _
    exact ⟨g, e, hr⟩
  have HOL : Hid (∀ i, i < L.length → Pg.Ok (L.getD i Pg.zr)) := fun i hi => hoL _ (getD_mem' L i Pg.zr hi)
  have HCS := Lib.hid (count_step L r)
  have HCE : Hid ((L.take L.length).count r = L.count r) := by show _ = _; rw [List.take_length]
  have HCL : Hid (∀ i, (L.take i).count r ≤ L.length) := fun i => Nat.le_trans (List.count_le_length) (by rw [List.length_take]; omega)
  have HRO := Lib.hid hr
  have HRS := Lib.hid (rfa_size hr)
  have HR1 := Lib.hid (rfa_one r)
  have hsR := row_size Try.sizeRef33 HRS
  have HEQ : Hid (∀ x, Pg.Ok x → ∀ y, (Op.equalIn 10000 33 (.agg (rfA x)) (.agg (rfA r))).run Try.prog y = .ok (decide (x = r)) y) := fun x hx y => rf_eqs hx hr y
  have B0 : Hid (Below w.heap.size w (w.alloc (.cells (rfA r) 33))) := (Below.refl _ w).alloc (Nat.le_refl _) _
  have R0 : Hid ((w.alloc (.cells (rfA r) 33)).heap[w.heap.size]? = some (.cells (rfA r) 33 (0, 0))) := heap_alloc_new w _
  rw [← HCE.out]
  obtain ⟨n, hn⟩ : ∃ n, L.length = n := ⟨_, rfl⟩
  rw [hn] at HM1 HOL HCS HCL hl ⊢
  obtain ⟨R, hR⟩ : ∃ R, rfA r = R := ⟨_, rfl⟩
  rw [hR] at HRS HR1 hsR HEQ B0 R0 ⊢
  have HW : Hid (w.heap.size ≤ (w.alloc (.cells R 33)).heap.size) := B0.out.size
  clear h hoL hn hr hR HCE
  go_enter Try.func16, Try.ntmps16
  go_wp2
  go_loopw [5, 6] (fun v5 v6 wr => ∃ k : Nat, k ≤ n ∧ v6 = .int .i64 k ∧ v5 = .int .i64 (((L.take k).count r : Nat) : Int) ∧ Hid (wr.heap[w.heap.size]? = some (.cells R 33 (0, 0))) ∧ Hid (Below w.heap.size w wr)) (fun _ v6 _ => n - (intOf v6).toNat)
  case atStart => exact ⟨0, Nat.zero_le _, rfl, by rw [List.take_zero]; rfl, R0, B0⟩
  case round =>
    clear R0 B0
    obtain ⟨k, hk, rfl, rfl, HG, HB⟩ := hrel
    by_cases hlt : k < n
    · obtain ⟨ga, hpa, _⟩ := HM1.out _ k HB.out hlt
      subst hpa
      have hi0 : 0 ≤ (k : Int) := by omega
      have hi1 : (k : Int) < (n : Int) := by omega
      have hok := HOL.out k hlt
      have heqz := HEQ.out _ hok
      have HXS := Lib.hid (rfa_size hok)
      have hsX := row_size Try.sizeRef33 HXS
      have HRX : Hid (∀ y, Below w.heap.size w y → y.rangeAt ga (k * 33) (rfA (L.getD k Pg.zr)).toList) := fun y hy => by
        obtain ⟨_, e1, h1⟩ := HM1.out y k hy hlt
        cases e1
        exact h1
      have HS := Lib.hid (HCS.out k hlt)
      have HC1 := HCL.out k
      generalize rfA (L.getD k Pg.zr) = X at *
      obtain ⟨q, hq⟩ : ∃ q, (L.take k).count r = q := ⟨_, rfl⟩
      rw [hq] at HS HC1 ⊢
      have hw1 : IntKind.i64.wrap ((q : Int) + 1) = ((q + 1 : Nat) : Int) := by rw [IntWalk.i64_in _ ⟨by omega, by omega⟩]; omega
      clear HM1 HOL HEQ HCS HCL hlt hok hq
      by_cases hxy : L.getD k Pg.zr = r
      · rw [decide_eq_true hxy] at heqz
        rw [if_pos hxy] at HS
        clear hxy
        go_upto_region 5 with (fail)
        refine wp_region_any (by kernel_rfl) ?_
        change wpAny _ _ _ _ _ _ _ (World.drew _)
        have BZ : Hid (Below w.heap.size w wr.drew) := HB.out.drew
        have GZ : Hid (wr.drew.heap[w.heap.size]? = some (.cells R 33 (0, 0))) := HG.out
        obtain ⟨z, hz9⟩ : ∃ y, y = wr.drew := ⟨_, rfl⟩
        rw [← hz9] at BZ GZ ⊢
        clear hz9
        refine wpAny_of_held (S := fun y => y.rangeAt ga (k * 33) X.toList ∧ y.heap[w.heap.size]? = some (.cells R 33 (0, 0))) _ _ _ _ ?_
        have SD : (fun y => y.rangeAt ga (k * 33) X.toList ∧ y.heap[w.heap.size]? = some (.cells R 33 (0, 0))) z := ⟨HRX.out _ BZ.out, GZ.out⟩
        refine anyH_take 0 13 (.slice (some ⟨ga, 0, none⟩) n c) SD rfl (by kernel_rfl) (by kernel_rfl) (by kernel_rfl) (fun _ _ _ h => h) (by rfl) (by intro y hy; go_simp) ?_
        try simp only [Act.put, List.setIfInBounds_toArray, List.set_cons_zero, List.set_cons_succ]
        refine anyH_take 1 14 (.int .i64 (k : Int)) SD rfl (by kernel_rfl) (by kernel_rfl) (by kernel_rfl) (fun _ _ _ h => h) (by rfl) (by intro y hy; go_simp) ?_
        try simp only [Act.put, List.setIfInBounds_toArray, List.set_cons_zero, List.set_cons_succ]
        refine anyH_take 2 15 (.pointer (some ⟨ga, k * 33, none⟩)) SD rfl (by kernel_rfl) (by kernel_rfl) (by kernel_rfl) (fun _ _ _ h => h) (by rfl) (by intro y hy; go_simp) ?_
        try simp only [Act.put, List.setIfInBounds_toArray, List.set_cons_zero, List.set_cons_succ]
        refine anyH_take 3 16 (.agg X) SD rfl (by kernel_rfl) (by kernel_rfl) (by kernel_rfl) (fun _ _ _ h => h) (by rfl) (fun y hy => exec_arr _ _ ga (k * 33) _ _ rfl hy.1 Try.underlying33 rfl hsX) ?_
        try simp only [Act.put, List.setIfInBounds_toArray, List.set_cons_zero, List.set_cons_succ]
        refine anyH_take 4 17 (.agg R) SD rfl (by kernel_rfl) (by kernel_rfl) (by kernel_rfl) (fun _ _ _ h => h) (by rfl) (fun y hy => exec_arr _ _ w.heap.size 0 _ _ rfl (rng_whole hy.2) Try.underlying33 rfl hsR) ?_
        try simp only [Act.put, List.setIfInBounds_toArray, List.set_cons_zero, List.set_cons_succ]
        refine anyH_take 5 18 (.bool true) SD rfl (by kernel_rfl) (by kernel_rfl) (by kernel_rfl) (fun _ _ _ h => h) (by rfl) (by intro y hy; go_simp) ?_
        try simp only [Act.put, List.setIfInBounds_toArray, List.set_cons_zero, List.set_cons_succ]
        refine wpAnyH_done (by kernel_rfl) ?_ _
        go_wp2
        exact ⟨⟨k + 1, by omega, by go_num, by rw [HS.out]; go_num, GZ, BZ⟩, by simp [intOf]; omega⟩
      · rw [decide_eq_false hxy] at heqz
        rw [if_neg hxy, Nat.add_zero] at HS
        clear hxy
        go_upto_region 5 with (fail)
        refine wp_region_any (by kernel_rfl) ?_
        change wpAny _ _ _ _ _ _ _ (World.drew _)
        have BZ : Hid (Below w.heap.size w wr.drew) := HB.out.drew
        have GZ : Hid (wr.drew.heap[w.heap.size]? = some (.cells R 33 (0, 0))) := HG.out
        obtain ⟨z, hz9⟩ : ∃ y, y = wr.drew := ⟨_, rfl⟩
        rw [← hz9] at BZ GZ ⊢
        clear hz9
        refine wpAny_of_held (S := fun y => y.rangeAt ga (k * 33) X.toList ∧ y.heap[w.heap.size]? = some (.cells R 33 (0, 0))) _ _ _ _ ?_
        have SD : (fun y => y.rangeAt ga (k * 33) X.toList ∧ y.heap[w.heap.size]? = some (.cells R 33 (0, 0))) z := ⟨HRX.out _ BZ.out, GZ.out⟩
        refine anyH_take 0 13 (.slice (some ⟨ga, 0, none⟩) n c) SD rfl (by kernel_rfl) (by kernel_rfl) (by kernel_rfl) (fun _ _ _ h => h) (by rfl) (by intro y hy; go_simp) ?_
        try simp only [Act.put, List.setIfInBounds_toArray, List.set_cons_zero, List.set_cons_succ]
        refine anyH_take 1 14 (.int .i64 (k : Int)) SD rfl (by kernel_rfl) (by kernel_rfl) (by kernel_rfl) (fun _ _ _ h => h) (by rfl) (by intro y hy; go_simp) ?_
        try simp only [Act.put, List.setIfInBounds_toArray, List.set_cons_zero, List.set_cons_succ]
        refine anyH_take 2 15 (.pointer (some ⟨ga, k * 33, none⟩)) SD rfl (by kernel_rfl) (by kernel_rfl) (by kernel_rfl) (fun _ _ _ h => h) (by rfl) (by intro y hy; go_simp) ?_
        try simp only [Act.put, List.setIfInBounds_toArray, List.set_cons_zero, List.set_cons_succ]
        refine anyH_take 3 16 (.agg X) SD rfl (by kernel_rfl) (by kernel_rfl) (by kernel_rfl) (fun _ _ _ h => h) (by rfl) (fun y hy => exec_arr _ _ ga (k * 33) _ _ rfl hy.1 Try.underlying33 rfl hsX) ?_
        try simp only [Act.put, List.setIfInBounds_toArray, List.set_cons_zero, List.set_cons_succ]
        refine anyH_take 4 17 (.agg R) SD rfl (by kernel_rfl) (by kernel_rfl) (by kernel_rfl) (fun _ _ _ h => h) (by rfl) (fun y hy => exec_arr _ _ w.heap.size 0 _ _ rfl (rng_whole hy.2) Try.underlying33 rfl hsR) ?_
        try simp only [Act.put, List.setIfInBounds_toArray, List.set_cons_zero, List.set_cons_succ]
        refine anyH_take 5 18 (.bool false) SD rfl (by kernel_rfl) (by kernel_rfl) (by kernel_rfl) (fun _ _ _ h => h) (by rfl) (by intro y hy; go_simp) ?_
        try simp only [Act.put, List.setIfInBounds_toArray, List.set_cons_zero, List.set_cons_succ]
        refine wpAnyH_done (by kernel_rfl) ?_ _
        go_wp2
        exact ⟨⟨k + 1, by omega, by go_num, (by rw [HS.out]; try rfl), GZ, BZ⟩, by simp [intOf]; omega⟩
    · have E : k = n := by omega
      subst E
      clear hlt HM1 HOL HEQ HCS HCL
      go_wp2
      go_ret
      exact ⟨rfl, HB⟩
end Go.Proofs.Ytfeemeddhhgigaa

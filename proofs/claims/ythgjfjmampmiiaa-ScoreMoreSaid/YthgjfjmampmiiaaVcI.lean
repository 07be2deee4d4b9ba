/-
  The law ScoreMore, walked.
-/
import Derived.Test.YthgjfjmampmiiaaVcH
import Derived.Laws.AppendOwnNone
namespace Go.Proofs.Ythgjfjmampmiiaa
open Go.RowKit

theorem sgs_cells {y : World} {ab ao : Nat} {L : List Us.S} (h : ∀ i, i < L.length → y.rangeAt ab (ao + i * 3) (SgA (Us.at_ L i)).toList) : ∀ j u, (Us.sc L)[j]? = some u → y.cell? ((⟨ab, ao, none⟩ : Addr).add j) = some u := by
  intro j u hu
  have hj := (List.getElem?_eq_some_iff.1 hu).1
  rw [Us.sc_len] at hj
  have e : j = j / 3 * 3 + j % 3 := by omega
  rw [e, Us.sc_at L (j / 3) (j % 3) (by omega) (by omega)] at hu
  have h2 := h (j / 3) (by omega) (j % 3) u hu
  rw [Addr.add_mid, show ao + j = ao + j / 3 * 3 + j % 3 by omega]
  exact h2
section
variable {ops : Array Oper} {rest : List Oper} {a : Act} {w : World} {Q : Exit → Act → World → Prop} {D : Option Tmp} {T : TypeId} {ps : String} {af : Array Edge}
theorem app_sgs (s xo : Operand) (B : Nat) (v : Value) (L M : List Us.S) (p : Option Addr) (m c : Nat) (hs : a.eval s = v) (hx : a.eval xo = .slice p m c) (hO : SgO B w v L) (hm : M.length = m) (hS : SgS w p M) (hz : p = none → c = 0) (N : Nat) (hN : L.length = N) (hl : N ≤ 10000) (hml : m ≤ 10000) (hB : B ≤ w.heap.size)
    (h : ∀ q d w', Hid (SgO B w' (.slice q (N + m) d) (L ++ M)) → Hid (∀ A x, A ≤ B → Below A x w → Below A x w') → wpList Try.prog ops Q rest (a.put D (.slice q (N + m) d)) w') :
    wpList Try.prog ops Q ({ dst := D, op := .call { callee := .builtin .append, args := #[s, xo], argTypes := #[25, 25] }, type := T, pos := ps, after := af, guard := none } :: rest) a w := by
  cases p with
  | none =>
    have hM : M = [] := by
      cases M with
      | nil => rfl
      | cons x r => obtain ⟨_, _, e, _⟩ := hS (by simp); cases e
    subst hM
    have hm0 : m = 0 := by rw [← hm]; rfl
    subst hm0
    rw [hz rfl] at hx
    obtain ⟨i0, hi1, _, _, _⟩ := info_parts Try.infoSg
    obtain ⟨q, d, hv⟩ := hO.len
    rw [hN] at hv
    subst hv
    refine wpList_append_own_none rfl s xo 25 rfl B 36 i0 3 Try.underlying25 hi1 _ L.length (Us.sc L) hs hO hx ?_
    exact h q d w (by show SgO _ _ _ _; rw [List.append_nil]; exact hO) (Lib.hid (fun _ _ _ h => h))
  | some ad =>
    obtain ⟨ab, ao, sp⟩ := ad
    have hc : ∀ j u, (Us.sc M)[j]? = some u → w.cell? ((⟨ab, ao, sp⟩ : Addr).add j) = some u := by
      intro j u hu
      have hj := (List.getElem?_eq_some_iff.1 hu).1
      rw [Us.sc_len] at hj
      obtain ⟨ab', ao', e, hr⟩ := hS (by omega)
      cases e
      exact sgs_cells hr j u hu
    have hlo : ∀ k, v.ownBlock = some k → B ≤ k := fun k hk => (hO.blk hk).1
    refine app_sg s xo B v L M ⟨ab, ao, sp⟩ m c hs hx hO hm hc N hN hl hml hB (fun q d w' h1 h2 => h q d w' h1 (Lib.hid (fun A x hA hb => hb.grown h2.out (Nat.le_trans hA hB) (fun k hk => Nat.le_trans hA (hlo k hk)))))
theorem bs_sg2_op {K : Act → World → Prop} {gd : Option (Nat × Bool)} (x0 x1 : Operand) (e0 e1 : Us.S) (h0 : a.eval x0 = .agg (SgA e0)) (h1 : a.eval x1 = .agg (SgA e1))
    (h : K (a.put D (.slice (some ⟨w.heap.size, 0, none⟩) 2 2)) (w.alloc (.cells (Us.sc [e0, e1]).toArray 36))) :
    Oper.wp Try.prog { dst := D, op := .buildSlice 25 2 #[(0, x0), (1, x1)], type := T, pos := ps, after := af, guard := gd } a w K Q := by
  have hrun := run_bsg2 w e0 e1
  unfold Oper.wp execOp
  simp only [h0, h1, List.map_toArray, List.map_cons, List.map_nil, hrun, Sem.run_bind, Sem.run_pure, Result.andThen_ok]
  exact h
end
theorem in_both {L M : List Us.S} (h1 : ∀ i, i < L.length → In64 (Us.at_ L i).a) (h2 : ∀ i, i < M.length → In64 (Us.at_ M i).a) : ∀ i, i < (L ++ M).length → In64 (Us.at_ (L ++ M) i).a := by
  intro i hi
  rw [List.length_append] at hi
  by_cases h : i < L.length
  · rw [Vc.at_left h]; exact h1 i h
  · have e : i = L.length + (i - L.length) := by omega
    rw [e, Vc.at_right]
    exact h2 _ (by omega)
set_option maxHeartbeats 4000000 in
set_option maxRecDepth 100000 in
theorem more_0 (L M : List Us.S) (p p2 : Option Addr) (n n2 c c2 : Nat) (hn : L.length = n) (hn2 : M.length = n2) (s lean now : Int) (hnow : In64 now) (hin : ∀ i, i < n → In64 (Us.at_ L i).a) (hin2 : ∀ i, i < n2 → In64 (Us.at_ M i).a) (w : World) (h : SgS w p L) (h2 : SgS w p2 M) (hz : p = none → c = 0) (hz2 : p2 = none → c2 = 0) (h0 : n ≤ 2048) (h1 : n2 ≤ 2048) (hs1 : Vc.vic s lean now L = none) (hs2 : Vc.vic s lean now M = none) :
    Calls Try.prog 7 #[.slice p n c, .slice p2 n2 c2, .agg (HwA s lean now)] w (BoSay true w) := by
  have e3 : Vc.vic s lean now ([] ++ L ++ M) = none := by
    rw [List.nil_append, Vc.vic_both, hs1, hs2, hn]
    rfl
  obtain ⟨w0, hw0⟩ : ∃ x, x = w.alloc (.cells (HwA s lean now) 27) := ⟨_, rfl⟩
  obtain ⟨wa, hwa⟩ : ∃ x, x = w0.alloc (.cells #[] 36) := ⟨_, rfl⟩
  have Z0 : w0.heap.size = w.heap.size + 1 := by rw [hw0]; simp
  have B0 : Below w.heap.size w w0 := by rw [hw0]; exact (Below.refl _ w).alloc (Nat.le_refl _) _
  have BA : Hid (Below w.heap.size w wa) := by rw [hwa]; exact B0.alloc B0.size _
  have GA : Hid (wa.heap[w.heap.size]? = some (.cells (HwA s lean now) 27 (0, 0))) := by
    have g0 : w0.heap[w.heap.size]? = some (.cells (HwA s lean now) 27 (0, 0)) := by rw [hw0]; exact heap_alloc_new w _
    show _ = _
    rw [hwa]
    exact ((Below.refl _ w0).alloc (Nat.le_refl _) _).block _ (lt_of_block g0) |>.trans g0
  have OA : Hid (SgO (w.heap.size + 1) wa (.slice (some ⟨w.heap.size + 1, 0, none⟩) 0 0) []) := by
    refine ⟨rfl, Or.inr ⟨w.heap.size + 1, 0, #[], rfl, Nat.le_refl _, ?_, Nat.le_refl _, by unfold maxLen; omega, rfl, rfl⟩⟩
    rw [hwa, ← Z0]
    exact heap_alloc_new w0 _
  have ZA : Hid (w.heap.size + 1 ≤ wa.heap.size) := by show _ ≤ _; rw [hwa]; simp; omega
  have HP : Hid (∀ y, Below w.heap.size w y → SgS y p L) := fun y hy => h.old hy
  have HP2 : Hid (∀ y, Below w.heap.size w y → SgS y p2 M) := fun y hy => h2.old hy
  have HV1 : Hid (∀ y, Below w.heap.size w y → Calls Try.prog 12 #[.slice p n c, .int .i64 s, .int .i64 lean, .int .i64 now] y fun e w' => e = .returned (.tuple #[.int .i64 0, .bool false]) ∧ Hid (Below y.heap.size y w')) := fun y hy => victim_of L p n c hn (by omega) s lean now hnow hin _ _ (by rw [hs1]; rfl) (by rw [hs1]; rfl) y (h.old hy)
  have HV2 : Hid (∀ y, Below w.heap.size w y → Calls Try.prog 12 #[.slice p2 n2 c2, .int .i64 s, .int .i64 lean, .int .i64 now] y fun e w' => e = .returned (.tuple #[.int .i64 0, .bool false]) ∧ Hid (Below y.heap.size y w')) := fun y hy => victim_of M p2 n2 c2 hn2 (by omega) s lean now hnow hin2 _ _ (by rw [hs2]; rfl) (by rw [hs2]; rfl) y (h2.old hy)
  have HV3 : Hid (∀ q d y, SgO (w.heap.size + 1) y (.slice q (n + n2) d) ([] ++ L ++ M) → Calls Try.prog 12 #[.slice q (n + n2) d, .int .i64 s, .int .i64 lean, .int .i64 now] y fun e w' => e = .returned (.tuple #[.int .i64 0, .bool false]) ∧ Hid (Below y.heap.size y w')) := fun q d y hy => victim_of ([] ++ L ++ M) q (n + n2) d (by rw [List.nil_append, List.length_append]; omega) (by omega) s lean now hnow (by
    intro i hi
    have hb := in_both (L := L) (M := M) (by rw [hn]; exact hin) (by rw [hn2]; exact hin2) i (by rw [List.length_append]; omega)
    rw [List.nil_append]
    exact hb) _ _ (by rw [e3]; rfl) (by rw [e3]; rfl) y hy.reads
  have HK := Lib.hid known_any
  have HN := Lib.hid hn
  have HN2 := Lib.hid hn2
  have HZ := Lib.hid hz
  have HZ2 := Lib.hid hz2
  have HX : Hid (∀ y, Below (w.heap.size + 1) wa y → y.cell? ⟨w.heap.size, 0, none⟩ = some (.int .i64 s) ∧ y.cell? ⟨w.heap.size, 1, none⟩ = some (.int .i64 lean) ∧ y.cell? ⟨w.heap.size, 2, none⟩ = some (.int .i64 now)) := fun y hy => hw_cells ((hy.block _ (by omega)).trans GA.out)
  have k0 : (n : Int) ≤ 2048 := by omega
  have k1 : (n2 : Int) ≤ 2048 := by omega
  have k2 : (0 : Int) ≤ (n : Int) := by omega
  clear h h2 hin hin2 hn hn2 hz hz2 hs1 hs2 e3 B0 Z0 hnow
  go_enter Try.func7, Try.ntmps7
  go_wp2_with (first
    | (at_builtin; rw [← hw0, ← hwa]; refine app_sgs _ _ (w.heap.size + 1) _ [] L _ n c rfl rfl OA.out HN.out (HP.out _ BA.out) HZ.out 0 rfl (by omega) (by omega) ZA.out ?_; intro qb db wb OB GB; rw [Nat.zero_add] at OB; have BB := Lib.hid (GB.out w.heap.size w (by omega) BA.out))
    | (at_builtin; refine app_sgs _ _ (w.heap.size + 1) _ ([] ++ L) M _ n2 c2 rfl rfl OB.out HN2.out (HP2.out _ BB.out) HZ2.out n (by rw [List.nil_append]; exact HN.out) (by omega) (by omega) (Nat.le_trans ZA.out ((GB.out (w.heap.size + 1) wa (Nat.le_refl _) (Below.refl _ _)).size |> fun h => by omega)) ?_; intro qc dc wc OC GC; have BC := Lib.hid (GC.out w.heap.size w (by omega) BB.out); have DC := Lib.hid (GC.out (w.heap.size + 1) wa (Nat.le_refl _) (GB.out (w.heap.size + 1) wa (Nat.le_refl _) (Below.refl _ _))); obtain ⟨x0, x1, x2⟩ := HX.out _ DC.out)
    | (go_at_call 12; with_reducible refine (HV1.out _ BC.out).mono ?_; rintro e1 w1 ⟨rfl, b1⟩; have B1 := Lib.hid (BC.out.trans (b1.out.mono BC.out.size)); have D1 := Lib.hid (DC.out.trans (b1.out.mono (Nat.le_trans ZA.out DC.out.size))); have O1 := Lib.hid (OC.out.old b1.out); obtain ⟨y0, y1, y2⟩ := HX.out _ D1.out)
    | (go_at_call 12; with_reducible refine (HV2.out _ B1.out).mono ?_; rintro e2 w2 ⟨rfl, b2⟩; have B2 := Lib.hid (B1.out.trans (b2.out.mono B1.out.size)); have D2 := Lib.hid (D1.out.trans (b2.out.mono (Nat.le_trans ZA.out D1.out.size))); have O2 := Lib.hid (O1.out.old b2.out); obtain ⟨z0, z1, z2⟩ := HX.out _ D2.out)
    | (go_at_call 12; with_reducible refine (HV3.out _ _ _ O2.out).mono ?_; rintro e3 w3 ⟨rfl, b3⟩; have B3 := Lib.hid (B2.out.trans (b3.out.mono B2.out.size)); have D3 := Lib.hid (D2.out.trans (b3.out.mono (Nat.le_trans ZA.out D2.out.size))))
    | (go_at_call 10; refine (HK.out _).mono ?_; rintro e5 w5 ⟨rfl, B5⟩))
  go_ret
  exact ⟨rfl, B3.out.trans (B5.mono B3.out.size)⟩
set_option maxHeartbeats 4000000 in
set_option maxRecDepth 100000 in
theorem more_1 (L M : List Us.S) (p p2 : Option Addr) (n n2 c c2 : Nat) (hn : L.length = n) (hn2 : M.length = n2) (s lean now : Int) (hnow : In64 now) (hin : ∀ i, i < n → In64 (Us.at_ L i).a) (hin2 : ∀ i, i < n2 → In64 (Us.at_ M i).a) (w : World) (h : SgS w p L) (h2 : SgS w p2 M) (hz : p = none → c = 0) (hz2 : p2 = none → c2 = 0) (h0 : n ≤ 2048) (h1 : n2 ≤ 2048) (hs1 : Vc.vic s lean now L = none) (k : Nat) (m2 : Int) (hs2 : Vc.vic s lean now M = some (k, m2)) :
    Calls Try.prog 7 #[.slice p n c, .slice p2 n2 c2, .agg (HwA s lean now)] w (BoSay true w) := by
  have e3 : Vc.vic s lean now ([] ++ L ++ M) = some (n + k, m2) := by
    rw [List.nil_append, Vc.vic_both, hs1, hs2, hn]
    rfl
  obtain ⟨w0, hw0⟩ : ∃ x, x = w.alloc (.cells (HwA s lean now) 27) := ⟨_, rfl⟩
  obtain ⟨wa, hwa⟩ : ∃ x, x = w0.alloc (.cells #[] 36) := ⟨_, rfl⟩
  have Z0 : w0.heap.size = w.heap.size + 1 := by rw [hw0]; simp
  have B0 : Below w.heap.size w w0 := by rw [hw0]; exact (Below.refl _ w).alloc (Nat.le_refl _) _
  have BA : Hid (Below w.heap.size w wa) := by rw [hwa]; exact B0.alloc B0.size _
  have GA : Hid (wa.heap[w.heap.size]? = some (.cells (HwA s lean now) 27 (0, 0))) := by
    have g0 : w0.heap[w.heap.size]? = some (.cells (HwA s lean now) 27 (0, 0)) := by rw [hw0]; exact heap_alloc_new w _
    show _ = _
    rw [hwa]
    exact ((Below.refl _ w0).alloc (Nat.le_refl _) _).block _ (lt_of_block g0) |>.trans g0
  have OA : Hid (SgO (w.heap.size + 1) wa (.slice (some ⟨w.heap.size + 1, 0, none⟩) 0 0) []) := by
    refine ⟨rfl, Or.inr ⟨w.heap.size + 1, 0, #[], rfl, Nat.le_refl _, ?_, Nat.le_refl _, by unfold maxLen; omega, rfl, rfl⟩⟩
    rw [hwa, ← Z0]
    exact heap_alloc_new w0 _
  have ZA : Hid (w.heap.size + 1 ≤ wa.heap.size) := by show _ ≤ _; rw [hwa]; simp; omega
  have HP : Hid (∀ y, Below w.heap.size w y → SgS y p L) := fun y hy => h.old hy
  have HP2 : Hid (∀ y, Below w.heap.size w y → SgS y p2 M) := fun y hy => h2.old hy
  have HV1 : Hid (∀ y, Below w.heap.size w y → Calls Try.prog 12 #[.slice p n c, .int .i64 s, .int .i64 lean, .int .i64 now] y fun e w' => e = .returned (.tuple #[.int .i64 0, .bool false]) ∧ Hid (Below y.heap.size y w')) := fun y hy => victim_of L p n c hn (by omega) s lean now hnow hin _ _ (by rw [hs1]; rfl) (by rw [hs1]; rfl) y (h.old hy)
  have HV2 : Hid (∀ y, Below w.heap.size w y → Calls Try.prog 12 #[.slice p2 n2 c2, .int .i64 s, .int .i64 lean, .int .i64 now] y fun e w' => e = .returned (.tuple #[.int .i64 (k : Int), .bool true]) ∧ Hid (Below y.heap.size y w')) := fun y hy => victim_of M p2 n2 c2 hn2 (by omega) s lean now hnow hin2 _ _ (by rw [hs2]; rfl) (by rw [hs2]; rfl) y (h2.old hy)
  have HV3 : Hid (∀ q d y, SgO (w.heap.size + 1) y (.slice q (n + n2) d) ([] ++ L ++ M) → Calls Try.prog 12 #[.slice q (n + n2) d, .int .i64 s, .int .i64 lean, .int .i64 now] y fun e w' => e = .returned (.tuple #[.int .i64 ((n : Int) + (k : Int)), .bool true]) ∧ Hid (Below y.heap.size y w')) := fun q d y hy => victim_of ([] ++ L ++ M) q (n + n2) d (by rw [List.nil_append, List.length_append]; omega) (by omega) s lean now hnow (by
    intro i hi
    have hb := in_both (L := L) (M := M) (by rw [hn]; exact hin) (by rw [hn2]; exact hin2) i (by rw [List.length_append]; omega)
    rw [List.nil_append]
    exact hb) _ _ (by rw [e3]; exact Int.natCast_add n k) (by rw [e3]; rfl) y hy.reads
  have HK := Lib.hid known_any
  have HN := Lib.hid hn
  have HN2 := Lib.hid hn2
  have HZ := Lib.hid hz
  have HZ2 := Lib.hid hz2
  have HX : Hid (∀ y, Below (w.heap.size + 1) wa y → y.cell? ⟨w.heap.size, 0, none⟩ = some (.int .i64 s) ∧ y.cell? ⟨w.heap.size, 1, none⟩ = some (.int .i64 lean) ∧ y.cell? ⟨w.heap.size, 2, none⟩ = some (.int .i64 now)) := fun y hy => hw_cells ((hy.block _ (by omega)).trans GA.out)
  have hk := (Vc.vic_is hs2).1
  have hk0 : 0 ≤ (k : Int) := by omega
  have hk1 : (k : Int) < (n2 : Int) := by omega
  clear hk
  have k0 : (n : Int) ≤ 2048 := by omega
  have k1 : (n2 : Int) ≤ 2048 := by omega
  have k2 : (0 : Int) ≤ (n : Int) := by omega
  clear h h2 hin hin2 hn hn2 hz hz2 hs1 hs2 e3 B0 Z0 hnow
  go_enter Try.func7, Try.ntmps7
  go_wp2_with (first
    | (at_builtin; rw [← hw0, ← hwa]; refine app_sgs _ _ (w.heap.size + 1) _ [] L _ n c rfl rfl OA.out HN.out (HP.out _ BA.out) HZ.out 0 rfl (by omega) (by omega) ZA.out ?_; intro qb db wb OB GB; rw [Nat.zero_add] at OB; have BB := Lib.hid (GB.out w.heap.size w (by omega) BA.out))
    | (at_builtin; refine app_sgs _ _ (w.heap.size + 1) _ ([] ++ L) M _ n2 c2 rfl rfl OB.out HN2.out (HP2.out _ BB.out) HZ2.out n (by rw [List.nil_append]; exact HN.out) (by omega) (by omega) (Nat.le_trans ZA.out ((GB.out (w.heap.size + 1) wa (Nat.le_refl _) (Below.refl _ _)).size |> fun h => by omega)) ?_; intro qc dc wc OC GC; have BC := Lib.hid (GC.out w.heap.size w (by omega) BB.out); have DC := Lib.hid (GC.out (w.heap.size + 1) wa (Nat.le_refl _) (GB.out (w.heap.size + 1) wa (Nat.le_refl _) (Below.refl _ _))); obtain ⟨x0, x1, x2⟩ := HX.out _ DC.out)
    | (go_at_call 12; with_reducible refine (HV1.out _ BC.out).mono ?_; rintro e1 w1 ⟨rfl, b1⟩; have B1 := Lib.hid (BC.out.trans (b1.out.mono BC.out.size)); have D1 := Lib.hid (DC.out.trans (b1.out.mono (Nat.le_trans ZA.out DC.out.size))); have O1 := Lib.hid (OC.out.old b1.out); obtain ⟨y0, y1, y2⟩ := HX.out _ D1.out)
    | (go_at_call 12; with_reducible refine (HV2.out _ B1.out).mono ?_; rintro e2 w2 ⟨rfl, b2⟩; have B2 := Lib.hid (B1.out.trans (b2.out.mono B1.out.size)); have D2 := Lib.hid (D1.out.trans (b2.out.mono (Nat.le_trans ZA.out D1.out.size))); have O2 := Lib.hid (O1.out.old b2.out); obtain ⟨z0, z1, z2⟩ := HX.out _ D2.out)
    | (go_at_call 12; with_reducible refine (HV3.out _ _ _ O2.out).mono ?_; rintro e3 w3 ⟨rfl, b3⟩; have B3 := Lib.hid (B2.out.trans (b3.out.mono B2.out.size)); have D3 := Lib.hid (D2.out.trans (b3.out.mono (Nat.le_trans ZA.out D2.out.size))))
    | (go_at_call 10; refine (HK.out _).mono ?_; rintro e5 w5 ⟨rfl, B5⟩))
  go_ret
  exact ⟨rfl, B3.out.trans (B5.mono B3.out.size)⟩
set_option maxHeartbeats 4000000 in
set_option maxRecDepth 100000 in
theorem more_2 (L M : List Us.S) (p p2 : Option Addr) (n n2 c c2 : Nat) (hn : L.length = n) (hn2 : M.length = n2) (s lean now : Int) (hnow : In64 now) (hin : ∀ i, i < n → In64 (Us.at_ L i).a) (hin2 : ∀ i, i < n2 → In64 (Us.at_ M i).a) (w : World) (h : SgS w p L) (h2 : SgS w p2 M) (hz : p = none → c = 0) (hz2 : p2 = none → c2 = 0) (h0 : n ≤ 2048) (h1 : n2 ≤ 2048) (i : Nat) (m1 : Int) (hs1 : Vc.vic s lean now L = some (i, m1)) (hs2 : Vc.vic s lean now M = none) :
    Calls Try.prog 7 #[.slice p n c, .slice p2 n2 c2, .agg (HwA s lean now)] w (BoSay true w) := by
  have e3 : Vc.vic s lean now ([] ++ L ++ M) = some (i, m1) := by
    rw [List.nil_append, Vc.vic_both, hs1, hs2, hn]
    rfl
  obtain ⟨w0, hw0⟩ : ∃ x, x = w.alloc (.cells (HwA s lean now) 27) := ⟨_, rfl⟩
  obtain ⟨wa, hwa⟩ : ∃ x, x = w0.alloc (.cells #[] 36) := ⟨_, rfl⟩
  have Z0 : w0.heap.size = w.heap.size + 1 := by rw [hw0]; simp
  have B0 : Below w.heap.size w w0 := by rw [hw0]; exact (Below.refl _ w).alloc (Nat.le_refl _) _
  have BA : Hid (Below w.heap.size w wa) := by rw [hwa]; exact B0.alloc B0.size _
  have GA : Hid (wa.heap[w.heap.size]? = some (.cells (HwA s lean now) 27 (0, 0))) := by
    have g0 : w0.heap[w.heap.size]? = some (.cells (HwA s lean now) 27 (0, 0)) := by rw [hw0]; exact heap_alloc_new w _
    show _ = _
    rw [hwa]
    exact ((Below.refl _ w0).alloc (Nat.le_refl _) _).block _ (lt_of_block g0) |>.trans g0
  have OA : Hid (SgO (w.heap.size + 1) wa (.slice (some ⟨w.heap.size + 1, 0, none⟩) 0 0) []) := by
    refine ⟨rfl, Or.inr ⟨w.heap.size + 1, 0, #[], rfl, Nat.le_refl _, ?_, Nat.le_refl _, by unfold maxLen; omega, rfl, rfl⟩⟩
    rw [hwa, ← Z0]
    exact heap_alloc_new w0 _
  have ZA : Hid (w.heap.size + 1 ≤ wa.heap.size) := by show _ ≤ _; rw [hwa]; simp; omega
  have HP : Hid (∀ y, Below w.heap.size w y → SgS y p L) := fun y hy => h.old hy
  have HP2 : Hid (∀ y, Below w.heap.size w y → SgS y p2 M) := fun y hy => h2.old hy
  have HV1 : Hid (∀ y, Below w.heap.size w y → Calls Try.prog 12 #[.slice p n c, .int .i64 s, .int .i64 lean, .int .i64 now] y fun e w' => e = .returned (.tuple #[.int .i64 (i : Int), .bool true]) ∧ Hid (Below y.heap.size y w')) := fun y hy => victim_of L p n c hn (by omega) s lean now hnow hin _ _ (by rw [hs1]; rfl) (by rw [hs1]; rfl) y (h.old hy)
  have HV2 : Hid (∀ y, Below w.heap.size w y → Calls Try.prog 12 #[.slice p2 n2 c2, .int .i64 s, .int .i64 lean, .int .i64 now] y fun e w' => e = .returned (.tuple #[.int .i64 0, .bool false]) ∧ Hid (Below y.heap.size y w')) := fun y hy => victim_of M p2 n2 c2 hn2 (by omega) s lean now hnow hin2 _ _ (by rw [hs2]; rfl) (by rw [hs2]; rfl) y (h2.old hy)
  have HV3 : Hid (∀ q d y, SgO (w.heap.size + 1) y (.slice q (n + n2) d) ([] ++ L ++ M) → Calls Try.prog 12 #[.slice q (n + n2) d, .int .i64 s, .int .i64 lean, .int .i64 now] y fun e w' => e = .returned (.tuple #[.int .i64 (i : Int), .bool true]) ∧ Hid (Below y.heap.size y w')) := fun q d y hy => victim_of ([] ++ L ++ M) q (n + n2) d (by rw [List.nil_append, List.length_append]; omega) (by omega) s lean now hnow (by
    intro i hi
    have hb := in_both (L := L) (M := M) (by rw [hn]; exact hin) (by rw [hn2]; exact hin2) i (by rw [List.length_append]; omega)
    rw [List.nil_append]
    exact hb) _ _ (by rw [e3]; rfl) (by rw [e3]; rfl) y hy.reads
  have HK := Lib.hid known_any
  have HN := Lib.hid hn
  have HN2 := Lib.hid hn2
  have HZ := Lib.hid hz
  have HZ2 := Lib.hid hz2
  have HX : Hid (∀ y, Below (w.heap.size + 1) wa y → y.cell? ⟨w.heap.size, 0, none⟩ = some (.int .i64 s) ∧ y.cell? ⟨w.heap.size, 1, none⟩ = some (.int .i64 lean) ∧ y.cell? ⟨w.heap.size, 2, none⟩ = some (.int .i64 now)) := fun y hy => hw_cells ((hy.block _ (by omega)).trans GA.out)
  have hi := (Vc.vic_is hs1).1
  have hi0 : 0 ≤ (i : Int) := by omega
  have hi1 : (i : Int) < (n : Int) := by omega
  clear hi
  have k0 : (n : Int) ≤ 2048 := by omega
  have k1 : (n2 : Int) ≤ 2048 := by omega
  have k2 : (0 : Int) ≤ (n : Int) := by omega
  clear h h2 hin hin2 hn hn2 hz hz2 hs1 hs2 e3 B0 Z0 hnow
  go_enter Try.func7, Try.ntmps7
  go_wp2_with (first
    | (at_builtin; rw [← hw0, ← hwa]; refine app_sgs _ _ (w.heap.size + 1) _ [] L _ n c rfl rfl OA.out HN.out (HP.out _ BA.out) HZ.out 0 rfl (by omega) (by omega) ZA.out ?_; intro qb db wb OB GB; rw [Nat.zero_add] at OB; have BB := Lib.hid (GB.out w.heap.size w (by omega) BA.out))
    | (at_builtin; refine app_sgs _ _ (w.heap.size + 1) _ ([] ++ L) M _ n2 c2 rfl rfl OB.out HN2.out (HP2.out _ BB.out) HZ2.out n (by rw [List.nil_append]; exact HN.out) (by omega) (by omega) (Nat.le_trans ZA.out ((GB.out (w.heap.size + 1) wa (Nat.le_refl _) (Below.refl _ _)).size |> fun h => by omega)) ?_; intro qc dc wc OC GC; have BC := Lib.hid (GC.out w.heap.size w (by omega) BB.out); have DC := Lib.hid (GC.out (w.heap.size + 1) wa (Nat.le_refl _) (GB.out (w.heap.size + 1) wa (Nat.le_refl _) (Below.refl _ _))); obtain ⟨x0, x1, x2⟩ := HX.out _ DC.out)
    | (go_at_call 12; with_reducible refine (HV1.out _ BC.out).mono ?_; rintro e1 w1 ⟨rfl, b1⟩; have B1 := Lib.hid (BC.out.trans (b1.out.mono BC.out.size)); have D1 := Lib.hid (DC.out.trans (b1.out.mono (Nat.le_trans ZA.out DC.out.size))); have O1 := Lib.hid (OC.out.old b1.out); obtain ⟨y0, y1, y2⟩ := HX.out _ D1.out)
    | (go_at_call 12; with_reducible refine (HV2.out _ B1.out).mono ?_; rintro e2 w2 ⟨rfl, b2⟩; have B2 := Lib.hid (B1.out.trans (b2.out.mono B1.out.size)); have D2 := Lib.hid (D1.out.trans (b2.out.mono (Nat.le_trans ZA.out D1.out.size))); have O2 := Lib.hid (O1.out.old b2.out); obtain ⟨z0, z1, z2⟩ := HX.out _ D2.out)
    | (go_at_call 12; with_reducible refine (HV3.out _ _ _ O2.out).mono ?_; rintro e3 w3 ⟨rfl, b3⟩; have B3 := Lib.hid (B2.out.trans (b3.out.mono B2.out.size)); have D3 := Lib.hid (D2.out.trans (b3.out.mono (Nat.le_trans ZA.out D2.out.size))))
    | (go_at_call 10; refine (HK.out _).mono ?_; rintro e5 w5 ⟨rfl, B5⟩))
  go_ret
  exact ⟨rfl, B3.out.trans (B5.mono B3.out.size)⟩
set_option maxHeartbeats 4000000 in
set_option maxRecDepth 100000 in
theorem more_3 (L M : List Us.S) (p p2 : Option Addr) (n n2 c c2 : Nat) (hn : L.length = n) (hn2 : M.length = n2) (s lean now : Int) (hnow : In64 now) (hin : ∀ i, i < n → In64 (Us.at_ L i).a) (hin2 : ∀ i, i < n2 → In64 (Us.at_ M i).a) (w : World) (h : SgS w p L) (h2 : SgS w p2 M) (hz : p = none → c = 0) (hz2 : p2 = none → c2 = 0) (h0 : n ≤ 2048) (h1 : n2 ≤ 2048) (i : Nat) (m1 : Int) (hs1 : Vc.vic s lean now L = some (i, m1)) (k : Nat) (m2 : Int) (hs2 : Vc.vic s lean now M = some (k, m2)) (hlt : m1 < m2) :
    Calls Try.prog 7 #[.slice p n c, .slice p2 n2 c2, .agg (HwA s lean now)] w (BoSay true w) := by
  have e3 : Vc.vic s lean now ([] ++ L ++ M) = some (n + k, m2) := by
    rw [List.nil_append, Vc.vic_both, hs1, hs2, hn]
    show (if m1 < m2 then some (n + k, m2) else some (i, m1)) = _; rw [if_pos hlt]
  obtain ⟨w0, hw0⟩ : ∃ x, x = w.alloc (.cells (HwA s lean now) 27) := ⟨_, rfl⟩
  obtain ⟨wa, hwa⟩ : ∃ x, x = w0.alloc (.cells #[] 36) := ⟨_, rfl⟩
  have Z0 : w0.heap.size = w.heap.size + 1 := by rw [hw0]; simp
  have B0 : Below w.heap.size w w0 := by rw [hw0]; exact (Below.refl _ w).alloc (Nat.le_refl _) _
  have BA : Hid (Below w.heap.size w wa) := by rw [hwa]; exact B0.alloc B0.size _
  have GA : Hid (wa.heap[w.heap.size]? = some (.cells (HwA s lean now) 27 (0, 0))) := by
    have g0 : w0.heap[w.heap.size]? = some (.cells (HwA s lean now) 27 (0, 0)) := by rw [hw0]; exact heap_alloc_new w _
    show _ = _
    rw [hwa]
    exact ((Below.refl _ w0).alloc (Nat.le_refl _) _).block _ (lt_of_block g0) |>.trans g0
  have OA : Hid (SgO (w.heap.size + 1) wa (.slice (some ⟨w.heap.size + 1, 0, none⟩) 0 0) []) := by
    refine ⟨rfl, Or.inr ⟨w.heap.size + 1, 0, #[], rfl, Nat.le_refl _, ?_, Nat.le_refl _, by unfold maxLen; omega, rfl, rfl⟩⟩
    rw [hwa, ← Z0]
    exact heap_alloc_new w0 _
  have ZA : Hid (w.heap.size + 1 ≤ wa.heap.size) := by show _ ≤ _; rw [hwa]; simp; omega
  have HP : Hid (∀ y, Below w.heap.size w y → SgS y p L) := fun y hy => h.old hy
  have HP2 : Hid (∀ y, Below w.heap.size w y → SgS y p2 M) := fun y hy => h2.old hy
  have HV1 : Hid (∀ y, Below w.heap.size w y → Calls Try.prog 12 #[.slice p n c, .int .i64 s, .int .i64 lean, .int .i64 now] y fun e w' => e = .returned (.tuple #[.int .i64 (i : Int), .bool true]) ∧ Hid (Below y.heap.size y w')) := fun y hy => victim_of L p n c hn (by omega) s lean now hnow hin _ _ (by rw [hs1]; rfl) (by rw [hs1]; rfl) y (h.old hy)
  have HV2 : Hid (∀ y, Below w.heap.size w y → Calls Try.prog 12 #[.slice p2 n2 c2, .int .i64 s, .int .i64 lean, .int .i64 now] y fun e w' => e = .returned (.tuple #[.int .i64 (k : Int), .bool true]) ∧ Hid (Below y.heap.size y w')) := fun y hy => victim_of M p2 n2 c2 hn2 (by omega) s lean now hnow hin2 _ _ (by rw [hs2]; rfl) (by rw [hs2]; rfl) y (h2.old hy)
  have HV3 : Hid (∀ q d y, SgO (w.heap.size + 1) y (.slice q (n + n2) d) ([] ++ L ++ M) → Calls Try.prog 12 #[.slice q (n + n2) d, .int .i64 s, .int .i64 lean, .int .i64 now] y fun e w' => e = .returned (.tuple #[.int .i64 ((n : Int) + (k : Int)), .bool true]) ∧ Hid (Below y.heap.size y w')) := fun q d y hy => victim_of ([] ++ L ++ M) q (n + n2) d (by rw [List.nil_append, List.length_append]; omega) (by omega) s lean now hnow (by
    intro i hi
    have hb := in_both (L := L) (M := M) (by rw [hn]; exact hin) (by rw [hn2]; exact hin2) i (by rw [List.length_append]; omega)
    rw [List.nil_append]
    exact hb) _ _ (by rw [e3]; exact Int.natCast_add n k) (by rw [e3]; rfl) y hy.reads
  have HK := Lib.hid known_any
  have HN := Lib.hid hn
  have HN2 := Lib.hid hn2
  have HZ := Lib.hid hz
  have HZ2 := Lib.hid hz2
  have HX : Hid (∀ y, Below (w.heap.size + 1) wa y → y.cell? ⟨w.heap.size, 0, none⟩ = some (.int .i64 s) ∧ y.cell? ⟨w.heap.size, 1, none⟩ = some (.int .i64 lean) ∧ y.cell? ⟨w.heap.size, 2, none⟩ = some (.int .i64 now)) := fun y hy => hw_cells ((hy.block _ (by omega)).trans GA.out)
  obtain ⟨hi, hm1, hw1⟩ := Vc.vic_is hs1
  obtain ⟨hk, hm2, hw2⟩ := Vc.vic_is hs2
  obtain ⟨ab, ao, hp, hr1⟩ := h (by omega)
  obtain ⟨bb, bo, hp2, hr2⟩ := h2 (by omega)
  have HR1 : Hid (∀ y, Below w.heap.size w y → y.rangeAt ab (ao + i * 3) (SgA (Us.at_ L i)).toList) := fun y hy => rng_old (hr1 i hi) hy
  have HR2 : Hid (∀ y, Below w.heap.size w y → y.rangeAt bb (bo + k * 3) (SgA (Us.at_ M k)).toList) := fun y hy => rng_old (hr2 k hk) hy
  have HT := Vc.vic_two (s := s) (now := now) hm1 hm2
  rw [← hw1, ← hw2, if_pos hlt] at HT
  have HV4 : Hid (∀ g y, SgO g y (.slice (some ⟨g, 0, none⟩) 2 2) [Us.at_ L i, Us.at_ M k] → Calls Try.prog 12 #[.slice (some ⟨g, 0, none⟩) 2 2, .int .i64 s, .int .i64 lean, .int .i64 now] y fun e w' => e = .returned (.tuple #[.int .i64 1, .bool true]) ∧ Hid (Below y.heap.size y w')) := fun g y hy => victim_of [Us.at_ L i, Us.at_ M k] (some ⟨g, 0, none⟩) 2 2 rfl (by omega) s lean now hnow (by
    intro j hj
    rcases j with _ | _ | j
    · exact hin i (by omega)
    · exact hin2 k (by omega)
    · omega) _ _ (by rw [HT]; rfl) (by rw [HT]; rfl) y hy.reads
  subst hp
  subst hp2
  have hin0 : i < n := by omega
  have hkn0 : k < n2 := by omega
  have hi0 : 0 ≤ (i : Int) := by omega
  have hi1 : (i : Int) < (n : Int) := by omega
  have hk0 : 0 ≤ (k : Int) := by omega
  have hk1 : (k : Int) < (n2 : Int) := by omega
  clear HT hr1 hr2 hi hk hm1 hm2 hw1 hw2
  generalize Us.at_ L i = X at *
  generalize Us.at_ M k = Y at *
  have k0 : (n : Int) ≤ 2048 := by omega
  have k1 : (n2 : Int) ≤ 2048 := by omega
  have k2 : (0 : Int) ≤ (n : Int) := by omega
  clear h h2 hin hin2 hn hn2 hz hz2 hs1 hs2 e3 B0 Z0 hnow
  go_enter Try.func7, Try.ntmps7
  go_upto_region 15 with (first
    | (at_builtin; rw [← hw0, ← hwa]; refine app_sgs _ _ (w.heap.size + 1) _ [] L _ n c rfl rfl OA.out HN.out (HP.out _ BA.out) HZ.out 0 rfl (by omega) (by omega) ZA.out ?_; intro qb db wb OB GB; rw [Nat.zero_add] at OB; have BB := Lib.hid (GB.out w.heap.size w (by omega) BA.out))
    | (at_builtin; refine app_sgs _ _ (w.heap.size + 1) _ ([] ++ L) M _ n2 c2 rfl rfl OB.out HN2.out (HP2.out _ BB.out) HZ2.out n (by rw [List.nil_append]; exact HN.out) (by omega) (by omega) (Nat.le_trans ZA.out ((GB.out (w.heap.size + 1) wa (Nat.le_refl _) (Below.refl _ _)).size |> fun h => by omega)) ?_; intro qc dc wc OC GC; have BC := Lib.hid (GC.out w.heap.size w (by omega) BB.out); have DC := Lib.hid (GC.out (w.heap.size + 1) wa (Nat.le_refl _) (GB.out (w.heap.size + 1) wa (Nat.le_refl _) (Below.refl _ _))); obtain ⟨x0, x1, x2⟩ := HX.out _ DC.out)
    | (go_at_call 12; with_reducible refine (HV1.out _ BC.out).mono ?_; rintro e1 w1 ⟨rfl, b1⟩; have B1 := Lib.hid (BC.out.trans (b1.out.mono BC.out.size)); have D1 := Lib.hid (DC.out.trans (b1.out.mono (Nat.le_trans ZA.out DC.out.size))); have O1 := Lib.hid (OC.out.old b1.out); obtain ⟨y0, y1, y2⟩ := HX.out _ D1.out)
    | (go_at_call 12; with_reducible refine (HV2.out _ B1.out).mono ?_; rintro e2 w2 ⟨rfl, b2⟩; have B2 := Lib.hid (B1.out.trans (b2.out.mono B1.out.size)); have D2 := Lib.hid (D1.out.trans (b2.out.mono (Nat.le_trans ZA.out D1.out.size))); have O2 := Lib.hid (O1.out.old b2.out); obtain ⟨z0, z1, z2⟩ := HX.out _ D2.out)
    | (go_at_call 12; with_reducible refine (HV3.out _ _ _ O2.out).mono ?_; rintro e3 w3 ⟨rfl, b3⟩; have B3 := Lib.hid (B2.out.trans (b3.out.mono B2.out.size)); have D3 := Lib.hid (D2.out.trans (b3.out.mono (Nat.le_trans ZA.out D2.out.size)))))
  refine wp_region_any (by kernel_rfl) ?_
  change wpAny _ _ _ _ _ _ _ (World.drew _)
  have SD0 : Below (w.heap.size + 1) wa w3.drew ∧ Below w.heap.size w w3.drew := ⟨D3.out.drew, B3.out.drew⟩
  obtain ⟨z, hz⟩ : ∃ y, y = w3.drew := ⟨_, rfl⟩
  rw [← hz] at SD0 ⊢
  clear hz
  have SD : Hid (Below (w.heap.size + 1) wa z ∧ Below w.heap.size w z) := SD0
  refine wpAny_of_held (S := fun y => Below (w.heap.size + 1) wa y ∧ Below w.heap.size w y) _ _ _ _ ?_
  refine anyH_take 0 96 (.slice (some ⟨ab, ao, none⟩) n c) SD.out rfl (by kernel_rfl) (by kernel_rfl) (by kernel_rfl) (fun _ _ _ h => h) (by rfl) (by intro y hy; go_simp) ?_
  try simp only [Act.put, List.setIfInBounds_toArray, List.set_cons_zero, List.set_cons_succ]
  refine anyH_take 1 97 (.int .i64 (i : Int)) SD.out rfl (by kernel_rfl) (by kernel_rfl) (by kernel_rfl) (fun _ _ _ h => h) (by rfl) (by intro y hy; go_simp) ?_
  try simp only [Act.put, List.setIfInBounds_toArray, List.set_cons_zero, List.set_cons_succ]
  refine anyH_take 2 98 (.pointer (some ⟨ab, ao + i * 3, none⟩)) SD.out rfl (by kernel_rfl) (by kernel_rfl) (by kernel_rfl) (fun _ _ _ h => h) (by rfl) (by intro y hy; go_simp; try (intro h; omega)) ?_
  try simp only [Act.put, List.setIfInBounds_toArray, List.set_cons_zero, List.set_cons_succ]
  refine anyH_take 3 99 (.agg (SgA X)) SD.out rfl (by kernel_rfl) (by kernel_rfl) (by kernel_rfl) (fun _ _ _ h => h) (by rfl) (fun y hy => exec_arr _ _ ab (ao + i * 3) (SgA X) _ rfl (HR1.out _ hy.2) Try.underlying36 rfl (sg_info X)) ?_
  try simp only [Act.put, List.setIfInBounds_toArray, List.set_cons_zero, List.set_cons_succ]
  refine anyH_take 4 100 (.slice (some ⟨bb, bo, none⟩) n2 c2) SD.out rfl (by kernel_rfl) (by kernel_rfl) (by kernel_rfl) (fun _ _ _ h => h) (by rfl) (by intro y hy; go_simp) ?_
  try simp only [Act.put, List.setIfInBounds_toArray, List.set_cons_zero, List.set_cons_succ]
  refine anyH_take 5 101 (.int .i64 (k : Int)) SD.out rfl (by kernel_rfl) (by kernel_rfl) (by kernel_rfl) (fun _ _ _ h => h) (by rfl) (by intro y hy; go_simp) ?_
  try simp only [Act.put, List.setIfInBounds_toArray, List.set_cons_zero, List.set_cons_succ]
  refine anyH_take 6 102 (.pointer (some ⟨bb, bo + k * 3, none⟩)) SD.out rfl (by kernel_rfl) (by kernel_rfl) (by kernel_rfl) (fun _ _ _ h => h) (by rfl) (by intro y hy; go_simp; try (intro h; omega)) ?_
  try simp only [Act.put, List.setIfInBounds_toArray, List.set_cons_zero, List.set_cons_succ]
  refine anyH_take 7 103 (.agg (SgA Y)) SD.out rfl (by kernel_rfl) (by kernel_rfl) (by kernel_rfl) (fun _ _ _ h => h) (by rfl) (fun y hy => exec_arr _ _ bb (bo + k * 3) (SgA Y) _ rfl (HR2.out _ hy.2) Try.underlying36 rfl (sg_info Y)) ?_
  try simp only [Act.put, List.setIfInBounds_toArray, List.set_cons_zero, List.set_cons_succ]
  refine anyH_take 9 105 (.pointer (some ⟨w.heap.size, 0, none⟩)) SD.out rfl (by kernel_rfl) (by kernel_rfl) (by kernel_rfl) (fun _ _ _ h => h) (by rfl) (by intro y hy; go_simp) ?_
  try simp only [Act.put, List.setIfInBounds_toArray, List.set_cons_zero, List.set_cons_succ]
  refine anyH_take 10 106 (.int .i64 s) SD.out rfl (by kernel_rfl) (by kernel_rfl) (by kernel_rfl) (fun _ _ _ h => h) (by rfl) (by intro y hy; obtain ⟨y0, y1, y2⟩ := HX.out _ hy.1; go_simp) ?_
  try simp only [Act.put, List.setIfInBounds_toArray, List.set_cons_zero, List.set_cons_succ]
  refine anyH_take 11 107 (.pointer (some ⟨w.heap.size, 1, none⟩)) SD.out rfl (by kernel_rfl) (by kernel_rfl) (by kernel_rfl) (fun _ _ _ h => h) (by rfl) (by intro y hy; go_simp) ?_
  try simp only [Act.put, List.setIfInBounds_toArray, List.set_cons_zero, List.set_cons_succ]
  refine anyH_take 12 108 (.int .i64 lean) SD.out rfl (by kernel_rfl) (by kernel_rfl) (by kernel_rfl) (fun _ _ _ h => h) (by rfl) (by intro y hy; obtain ⟨y0, y1, y2⟩ := HX.out _ hy.1; go_simp) ?_
  try simp only [Act.put, List.setIfInBounds_toArray, List.set_cons_zero, List.set_cons_succ]
  refine anyH_take 13 109 (.pointer (some ⟨w.heap.size, 2, none⟩)) SD.out rfl (by kernel_rfl) (by kernel_rfl) (by kernel_rfl) (fun _ _ _ h => h) (by rfl) (by intro y hy; go_simp) ?_
  try simp only [Act.put, List.setIfInBounds_toArray, List.set_cons_zero, List.set_cons_succ]
  refine anyH_take 14 110 (.int .i64 now) SD.out rfl (by kernel_rfl) (by kernel_rfl) (by kernel_rfl) (fun _ _ _ h => h) (by rfl) (by intro y hy; obtain ⟨y0, y1, y2⟩ := HX.out _ hy.1; go_simp) ?_
  try simp only [Act.put, List.setIfInBounds_toArray, List.set_cons_zero, List.set_cons_succ]
  refine anyH_one 8 (by kernel_rfl) ?_
  refine wpOp_step rfl (fun Kc hKc => ?_)
  rw [if_pos (by rfl)]
  refine bs_sg2_op _ _ X Y rfl rfl ?_
  have O8 : Hid (SgO z.heap.size (z.alloc (.cells (Us.sc [X, Y]).toArray 36)) (.slice (some ⟨z.heap.size, 0, none⟩) 2 2) [X, Y]) := own_sc [X, Y] z (by simp)
  have S8 : Hid (Below (w.heap.size + 1) wa (z.alloc (.cells (Us.sc [X, Y]).toArray 36)) ∧ Below w.heap.size w (z.alloc (.cells (Us.sc [X, Y]).toArray 36))) := ⟨SD.out.1.alloc (Nat.le_trans ZA.out SD.out.1.size) _, SD.out.2.alloc SD.out.2.size _⟩
  refine hKc _ _ ⟨S8.out, ?_⟩
  clear hKc Kc
  try simp only [Act.put, List.setIfInBounds_toArray, List.set_cons_zero, List.set_cons_succ]
  generalize z.alloc (.cells (Us.sc [X, Y]).toArray 36) = w8 at *
  refine anyH_one 15 (by kernel_rfl) ?_
  refine wpOp_step rfl (fun Kc hKc => ?_)
  go_simp
  refine (HV4.out _ _ O8.out).mono ?_
  rintro e9 w9 ⟨rfl, b9⟩
  have S9 : Hid (Below (w.heap.size + 1) wa w9 ∧ Below w.heap.size w w9) := ⟨S8.out.1.trans (b9.out.mono (Nat.le_trans ZA.out S8.out.1.size)), S8.out.2.trans (b9.out.mono S8.out.2.size)⟩
  dsimp only
  refine hKc _ _ ⟨S9.out, ?_⟩
  clear hKc Kc
  try simp only [Act.put, List.setIfInBounds_toArray, List.set_cons_zero, List.set_cons_succ]
  refine anyH_take 16 95 (.tuple #[.int .i64 1, .bool true]) S9.out rfl (by kernel_rfl) (by kernel_rfl) (by kernel_rfl) (fun _ _ _ h => h) (by rfl) (by intro y hy; go_simp) ?_
  try simp only [Act.put, List.setIfInBounds_toArray, List.set_cons_zero, List.set_cons_succ]
  refine anyH_take 17 112 (.int .i64 1) S9.out rfl (by kernel_rfl) (by kernel_rfl) (by kernel_rfl) (fun _ _ _ h => h) (by rfl) (by intro y hy; go_simp) ?_
  try simp only [Act.put, List.setIfInBounds_toArray, List.set_cons_zero, List.set_cons_succ]
  refine anyH_take 18 113 (.bool true) S9.out rfl (by kernel_rfl) (by kernel_rfl) (by kernel_rfl) (fun _ _ _ h => h) (by rfl) (by intro y hy; go_simp) ?_
  try simp only [Act.put, List.setIfInBounds_toArray, List.set_cons_zero, List.set_cons_succ]
  refine anyH_take 19 14 (.int .i64 1) S9.out rfl (by kernel_rfl) (by kernel_rfl) (by kernel_rfl) (fun _ _ _ h => h) (by rfl) (by intro y hy; go_simp) ?_
  try simp only [Act.put, List.setIfInBounds_toArray, List.set_cons_zero, List.set_cons_succ]
  refine anyH_take 20 15 (.bool true) S9.out rfl (by kernel_rfl) (by kernel_rfl) (by kernel_rfl) (fun _ _ _ h => h) (by rfl) (by intro y hy; go_simp) ?_
  try simp only [Act.put, List.setIfInBounds_toArray, List.set_cons_zero, List.set_cons_succ]
  refine wpAnyH_done (by kernel_rfl) ?_ _
  go_wp2_with (first
    | (go_at_call 10; refine (HK.out _).mono ?_; rintro e5 w5 ⟨rfl, B5⟩))
  go_ret
  exact ⟨rfl, S9.out.2.trans (B5.mono S9.out.2.size)⟩
set_option maxHeartbeats 4000000 in
set_option maxRecDepth 100000 in
theorem more_4 (L M : List Us.S) (p p2 : Option Addr) (n n2 c c2 : Nat) (hn : L.length = n) (hn2 : M.length = n2) (s lean now : Int) (hnow : In64 now) (hin : ∀ i, i < n → In64 (Us.at_ L i).a) (hin2 : ∀ i, i < n2 → In64 (Us.at_ M i).a) (w : World) (h : SgS w p L) (h2 : SgS w p2 M) (hz : p = none → c = 0) (hz2 : p2 = none → c2 = 0) (h0 : n ≤ 2048) (h1 : n2 ≤ 2048) (i : Nat) (m1 : Int) (hs1 : Vc.vic s lean now L = some (i, m1)) (k : Nat) (m2 : Int) (hs2 : Vc.vic s lean now M = some (k, m2)) (hlt : ¬ m1 < m2) :
    Calls Try.prog 7 #[.slice p n c, .slice p2 n2 c2, .agg (HwA s lean now)] w (BoSay true w) := by
  have e3 : Vc.vic s lean now ([] ++ L ++ M) = some (i, m1) := by
    rw [List.nil_append, Vc.vic_both, hs1, hs2, hn]
    show (if m1 < m2 then some (n + k, m2) else some (i, m1)) = _; rw [if_neg hlt]
  obtain ⟨w0, hw0⟩ : ∃ x, x = w.alloc (.cells (HwA s lean now) 27) := ⟨_, rfl⟩
  obtain ⟨wa, hwa⟩ : ∃ x, x = w0.alloc (.cells #[] 36) := ⟨_, rfl⟩
  have Z0 : w0.heap.size = w.heap.size + 1 := by rw [hw0]; simp
  have B0 : Below w.heap.size w w0 := by rw [hw0]; exact (Below.refl _ w).alloc (Nat.le_refl _) _
  have BA : Hid (Below w.heap.size w wa) := by rw [hwa]; exact B0.alloc B0.size _
  have GA : Hid (wa.heap[w.heap.size]? = some (.cells (HwA s lean now) 27 (0, 0))) := by
    have g0 : w0.heap[w.heap.size]? = some (.cells (HwA s lean now) 27 (0, 0)) := by rw [hw0]; exact heap_alloc_new w _
    show _ = _
    rw [hwa]
    exact ((Below.refl _ w0).alloc (Nat.le_refl _) _).block _ (lt_of_block g0) |>.trans g0
  have OA : Hid (SgO (w.heap.size + 1) wa (.slice (some ⟨w.heap.size + 1, 0, none⟩) 0 0) []) := by
    refine ⟨rfl, Or.inr ⟨w.heap.size + 1, 0, #[], rfl, Nat.le_refl _, ?_, Nat.le_refl _, by unfold maxLen; omega, rfl, rfl⟩⟩
    rw [hwa, ← Z0]
    exact heap_alloc_new w0 _
  have ZA : Hid (w.heap.size + 1 ≤ wa.heap.size) := by show _ ≤ _; rw [hwa]; simp; omega
  have HP : Hid (∀ y, Below w.heap.size w y → SgS y p L) := fun y hy => h.old hy
  have HP2 : Hid (∀ y, Below w.heap.size w y → SgS y p2 M) := fun y hy => h2.old hy
  have HV1 : Hid (∀ y, Below w.heap.size w y → Calls Try.prog 12 #[.slice p n c, .int .i64 s, .int .i64 lean, .int .i64 now] y fun e w' => e = .returned (.tuple #[.int .i64 (i : Int), .bool true]) ∧ Hid (Below y.heap.size y w')) := fun y hy => victim_of L p n c hn (by omega) s lean now hnow hin _ _ (by rw [hs1]; rfl) (by rw [hs1]; rfl) y (h.old hy)
  have HV2 : Hid (∀ y, Below w.heap.size w y → Calls Try.prog 12 #[.slice p2 n2 c2, .int .i64 s, .int .i64 lean, .int .i64 now] y fun e w' => e = .returned (.tuple #[.int .i64 (k : Int), .bool true]) ∧ Hid (Below y.heap.size y w')) := fun y hy => victim_of M p2 n2 c2 hn2 (by omega) s lean now hnow hin2 _ _ (by rw [hs2]; rfl) (by rw [hs2]; rfl) y (h2.old hy)
  have HV3 : Hid (∀ q d y, SgO (w.heap.size + 1) y (.slice q (n + n2) d) ([] ++ L ++ M) → Calls Try.prog 12 #[.slice q (n + n2) d, .int .i64 s, .int .i64 lean, .int .i64 now] y fun e w' => e = .returned (.tuple #[.int .i64 (i : Int), .bool true]) ∧ Hid (Below y.heap.size y w')) := fun q d y hy => victim_of ([] ++ L ++ M) q (n + n2) d (by rw [List.nil_append, List.length_append]; omega) (by omega) s lean now hnow (by
    intro i hi
    have hb := in_both (L := L) (M := M) (by rw [hn]; exact hin) (by rw [hn2]; exact hin2) i (by rw [List.length_append]; omega)
    rw [List.nil_append]
    exact hb) _ _ (by rw [e3]; rfl) (by rw [e3]; rfl) y hy.reads
  have HK := Lib.hid known_any
  have HN := Lib.hid hn
  have HN2 := Lib.hid hn2
  have HZ := Lib.hid hz
  have HZ2 := Lib.hid hz2
  have HX : Hid (∀ y, Below (w.heap.size + 1) wa y → y.cell? ⟨w.heap.size, 0, none⟩ = some (.int .i64 s) ∧ y.cell? ⟨w.heap.size, 1, none⟩ = some (.int .i64 lean) ∧ y.cell? ⟨w.heap.size, 2, none⟩ = some (.int .i64 now)) := fun y hy => hw_cells ((hy.block _ (by omega)).trans GA.out)
  obtain ⟨hi, hm1, hw1⟩ := Vc.vic_is hs1
  obtain ⟨hk, hm2, hw2⟩ := Vc.vic_is hs2
  obtain ⟨ab, ao, hp, hr1⟩ := h (by omega)
  obtain ⟨bb, bo, hp2, hr2⟩ := h2 (by omega)
  have HR1 : Hid (∀ y, Below w.heap.size w y → y.rangeAt ab (ao + i * 3) (SgA (Us.at_ L i)).toList) := fun y hy => rng_old (hr1 i hi) hy
  have HR2 : Hid (∀ y, Below w.heap.size w y → y.rangeAt bb (bo + k * 3) (SgA (Us.at_ M k)).toList) := fun y hy => rng_old (hr2 k hk) hy
  have HT := Vc.vic_two (s := s) (now := now) hm1 hm2
  rw [← hw1, ← hw2, if_neg hlt] at HT
  have HV4 : Hid (∀ g y, SgO g y (.slice (some ⟨g, 0, none⟩) 2 2) [Us.at_ L i, Us.at_ M k] → Calls Try.prog 12 #[.slice (some ⟨g, 0, none⟩) 2 2, .int .i64 s, .int .i64 lean, .int .i64 now] y fun e w' => e = .returned (.tuple #[.int .i64 0, .bool true]) ∧ Hid (Below y.heap.size y w')) := fun g y hy => victim_of [Us.at_ L i, Us.at_ M k] (some ⟨g, 0, none⟩) 2 2 rfl (by omega) s lean now hnow (by
    intro j hj
    rcases j with _ | _ | j
    · exact hin i (by omega)
    · exact hin2 k (by omega)
    · omega) _ _ (by rw [HT]; rfl) (by rw [HT]; rfl) y hy.reads
  subst hp
  subst hp2
  have hin0 : i < n := by omega
  have hkn0 : k < n2 := by omega
  have hi0 : 0 ≤ (i : Int) := by omega
  have hi1 : (i : Int) < (n : Int) := by omega
  have hk0 : 0 ≤ (k : Int) := by omega
  have hk1 : (k : Int) < (n2 : Int) := by omega
  clear HT hr1 hr2 hi hk hm1 hm2 hw1 hw2
  generalize Us.at_ L i = X at *
  generalize Us.at_ M k = Y at *
  have k0 : (n : Int) ≤ 2048 := by omega
  have k1 : (n2 : Int) ≤ 2048 := by omega
  have k2 : (0 : Int) ≤ (n : Int) := by omega
  clear h h2 hin hin2 hn hn2 hz hz2 hs1 hs2 e3 B0 Z0 hnow
  go_enter Try.func7, Try.ntmps7
  go_upto_region 15 with (first
    | (at_builtin; rw [← hw0, ← hwa]; refine app_sgs _ _ (w.heap.size + 1) _ [] L _ n c rfl rfl OA.out HN.out (HP.out _ BA.out) HZ.out 0 rfl (by omega) (by omega) ZA.out ?_; intro qb db wb OB GB; rw [Nat.zero_add] at OB; have BB := Lib.hid (GB.out w.heap.size w (by omega) BA.out))
    | (at_builtin; refine app_sgs _ _ (w.heap.size + 1) _ ([] ++ L) M _ n2 c2 rfl rfl OB.out HN2.out (HP2.out _ BB.out) HZ2.out n (by rw [List.nil_append]; exact HN.out) (by omega) (by omega) (Nat.le_trans ZA.out ((GB.out (w.heap.size + 1) wa (Nat.le_refl _) (Below.refl _ _)).size |> fun h => by omega)) ?_; intro qc dc wc OC GC; have BC := Lib.hid (GC.out w.heap.size w (by omega) BB.out); have DC := Lib.hid (GC.out (w.heap.size + 1) wa (Nat.le_refl _) (GB.out (w.heap.size + 1) wa (Nat.le_refl _) (Below.refl _ _))); obtain ⟨x0, x1, x2⟩ := HX.out _ DC.out)
    | (go_at_call 12; with_reducible refine (HV1.out _ BC.out).mono ?_; rintro e1 w1 ⟨rfl, b1⟩; have B1 := Lib.hid (BC.out.trans (b1.out.mono BC.out.size)); have D1 := Lib.hid (DC.out.trans (b1.out.mono (Nat.le_trans ZA.out DC.out.size))); have O1 := Lib.hid (OC.out.old b1.out); obtain ⟨y0, y1, y2⟩ := HX.out _ D1.out)
    | (go_at_call 12; with_reducible refine (HV2.out _ B1.out).mono ?_; rintro e2 w2 ⟨rfl, b2⟩; have B2 := Lib.hid (B1.out.trans (b2.out.mono B1.out.size)); have D2 := Lib.hid (D1.out.trans (b2.out.mono (Nat.le_trans ZA.out D1.out.size))); have O2 := Lib.hid (O1.out.old b2.out); obtain ⟨z0, z1, z2⟩ := HX.out _ D2.out)
    | (go_at_call 12; with_reducible refine (HV3.out _ _ _ O2.out).mono ?_; rintro e3 w3 ⟨rfl, b3⟩; have B3 := Lib.hid (B2.out.trans (b3.out.mono B2.out.size)); have D3 := Lib.hid (D2.out.trans (b3.out.mono (Nat.le_trans ZA.out D2.out.size)))))
  refine wp_region_any (by kernel_rfl) ?_
  change wpAny _ _ _ _ _ _ _ (World.drew _)
  have SD0 : Below (w.heap.size + 1) wa w3.drew ∧ Below w.heap.size w w3.drew := ⟨D3.out.drew, B3.out.drew⟩
  obtain ⟨z, hz⟩ : ∃ y, y = w3.drew := ⟨_, rfl⟩
  rw [← hz] at SD0 ⊢
  clear hz
  have SD : Hid (Below (w.heap.size + 1) wa z ∧ Below w.heap.size w z) := SD0
  refine wpAny_of_held (S := fun y => Below (w.heap.size + 1) wa y ∧ Below w.heap.size w y) _ _ _ _ ?_
  refine anyH_take 0 96 (.slice (some ⟨ab, ao, none⟩) n c) SD.out rfl (by kernel_rfl) (by kernel_rfl) (by kernel_rfl) (fun _ _ _ h => h) (by rfl) (by intro y hy; go_simp) ?_
  try simp only [Act.put, List.setIfInBounds_toArray, List.set_cons_zero, List.set_cons_succ]
  refine anyH_take 1 97 (.int .i64 (i : Int)) SD.out rfl (by kernel_rfl) (by kernel_rfl) (by kernel_rfl) (fun _ _ _ h => h) (by rfl) (by intro y hy; go_simp) ?_
  try simp only [Act.put, List.setIfInBounds_toArray, List.set_cons_zero, List.set_cons_succ]
  refine anyH_take 2 98 (.pointer (some ⟨ab, ao + i * 3, none⟩)) SD.out rfl (by kernel_rfl) (by kernel_rfl) (by kernel_rfl) (fun _ _ _ h => h) (by rfl) (by intro y hy; go_simp; try (intro h; omega)) ?_
  try simp only [Act.put, List.setIfInBounds_toArray, List.set_cons_zero, List.set_cons_succ]
  refine anyH_take 3 99 (.agg (SgA X)) SD.out rfl (by kernel_rfl) (by kernel_rfl) (by kernel_rfl) (fun _ _ _ h => h) (by rfl) (fun y hy => exec_arr _ _ ab (ao + i * 3) (SgA X) _ rfl (HR1.out _ hy.2) Try.underlying36 rfl (sg_info X)) ?_
  try simp only [Act.put, List.setIfInBounds_toArray, List.set_cons_zero, List.set_cons_succ]
  refine anyH_take 4 100 (.slice (some ⟨bb, bo, none⟩) n2 c2) SD.out rfl (by kernel_rfl) (by kernel_rfl) (by kernel_rfl) (fun _ _ _ h => h) (by rfl) (by intro y hy; go_simp) ?_
  try simp only [Act.put, List.setIfInBounds_toArray, List.set_cons_zero, List.set_cons_succ]
  refine anyH_take 5 101 (.int .i64 (k : Int)) SD.out rfl (by kernel_rfl) (by kernel_rfl) (by kernel_rfl) (fun _ _ _ h => h) (by rfl) (by intro y hy; go_simp) ?_
  try simp only [Act.put, List.setIfInBounds_toArray, List.set_cons_zero, List.set_cons_succ]
  refine anyH_take 6 102 (.pointer (some ⟨bb, bo + k * 3, none⟩)) SD.out rfl (by kernel_rfl) (by kernel_rfl) (by kernel_rfl) (fun _ _ _ h => h) (by rfl) (by intro y hy; go_simp; try (intro h; omega)) ?_
  try simp only [Act.put, List.setIfInBounds_toArray, List.set_cons_zero, List.set_cons_succ]
  refine anyH_take 7 103 (.agg (SgA Y)) SD.out rfl (by kernel_rfl) (by kernel_rfl) (by kernel_rfl) (fun _ _ _ h => h) (by rfl) (fun y hy => exec_arr _ _ bb (bo + k * 3) (SgA Y) _ rfl (HR2.out _ hy.2) Try.underlying36 rfl (sg_info Y)) ?_
  try simp only [Act.put, List.setIfInBounds_toArray, List.set_cons_zero, List.set_cons_succ]
  refine anyH_take 9 105 (.pointer (some ⟨w.heap.size, 0, none⟩)) SD.out rfl (by kernel_rfl) (by kernel_rfl) (by kernel_rfl) (fun _ _ _ h => h) (by rfl) (by intro y hy; go_simp) ?_
  try simp only [Act.put, List.setIfInBounds_toArray, List.set_cons_zero, List.set_cons_succ]
  refine anyH_take 10 106 (.int .i64 s) SD.out rfl (by kernel_rfl) (by kernel_rfl) (by kernel_rfl) (fun _ _ _ h => h) (by rfl) (by intro y hy; obtain ⟨y0, y1, y2⟩ := HX.out _ hy.1; go_simp) ?_
  try simp only [Act.put, List.setIfInBounds_toArray, List.set_cons_zero, List.set_cons_succ]
  refine anyH_take 11 107 (.pointer (some ⟨w.heap.size, 1, none⟩)) SD.out rfl (by kernel_rfl) (by kernel_rfl) (by kernel_rfl) (fun _ _ _ h => h) (by rfl) (by intro y hy; go_simp) ?_
  try simp only [Act.put, List.setIfInBounds_toArray, List.set_cons_zero, List.set_cons_succ]
  refine anyH_take 12 108 (.int .i64 lean) SD.out rfl (by kernel_rfl) (by kernel_rfl) (by kernel_rfl) (fun _ _ _ h => h) (by rfl) (by intro y hy; obtain ⟨y0, y1, y2⟩ := HX.out _ hy.1; go_simp) ?_
  try simp only [Act.put, List.setIfInBounds_toArray, List.set_cons_zero, List.set_cons_succ]
  refine anyH_take 13 109 (.pointer (some ⟨w.heap.size, 2, none⟩)) SD.out rfl (by kernel_rfl) (by kernel_rfl) (by kernel_rfl) (fun _ _ _ h => h) (by rfl) (by intro y hy; go_simp) ?_
  try simp only [Act.put, List.setIfInBounds_toArray, List.set_cons_zero, List.set_cons_succ]
  refine anyH_take 14 110 (.int .i64 now) SD.out rfl (by kernel_rfl) (by kernel_rfl) (by kernel_rfl) (fun _ _ _ h => h) (by rfl) (by intro y hy; obtain ⟨y0, y1, y2⟩ := HX.out _ hy.1; go_simp) ?_
  try simp only [Act.put, List.setIfInBounds_toArray, List.set_cons_zero, List.set_cons_succ]
  refine anyH_one 8 (by kernel_rfl) ?_
  refine wpOp_step rfl (fun Kc hKc => ?_)
  rw [if_pos (by rfl)]
  refine bs_sg2_op _ _ X Y rfl rfl ?_
  have O8 : Hid (SgO z.heap.size (z.alloc (.cells (Us.sc [X, Y]).toArray 36)) (.slice (some ⟨z.heap.size, 0, none⟩) 2 2) [X, Y]) := own_sc [X, Y] z (by simp)
  have S8 : Hid (Below (w.heap.size + 1) wa (z.alloc (.cells (Us.sc [X, Y]).toArray 36)) ∧ Below w.heap.size w (z.alloc (.cells (Us.sc [X, Y]).toArray 36))) := ⟨SD.out.1.alloc (Nat.le_trans ZA.out SD.out.1.size) _, SD.out.2.alloc SD.out.2.size _⟩
  refine hKc _ _ ⟨S8.out, ?_⟩
  clear hKc Kc
  try simp only [Act.put, List.setIfInBounds_toArray, List.set_cons_zero, List.set_cons_succ]
  generalize z.alloc (.cells (Us.sc [X, Y]).toArray 36) = w8 at *
  refine anyH_one 15 (by kernel_rfl) ?_
  refine wpOp_step rfl (fun Kc hKc => ?_)
  go_simp
  refine (HV4.out _ _ O8.out).mono ?_
  rintro e9 w9 ⟨rfl, b9⟩
  have S9 : Hid (Below (w.heap.size + 1) wa w9 ∧ Below w.heap.size w w9) := ⟨S8.out.1.trans (b9.out.mono (Nat.le_trans ZA.out S8.out.1.size)), S8.out.2.trans (b9.out.mono S8.out.2.size)⟩
  dsimp only
  refine hKc _ _ ⟨S9.out, ?_⟩
  clear hKc Kc
  try simp only [Act.put, List.setIfInBounds_toArray, List.set_cons_zero, List.set_cons_succ]
  refine anyH_take 16 95 (.tuple #[.int .i64 0, .bool true]) S9.out rfl (by kernel_rfl) (by kernel_rfl) (by kernel_rfl) (fun _ _ _ h => h) (by rfl) (by intro y hy; go_simp) ?_
  try simp only [Act.put, List.setIfInBounds_toArray, List.set_cons_zero, List.set_cons_succ]
  refine anyH_take 17 112 (.int .i64 0) S9.out rfl (by kernel_rfl) (by kernel_rfl) (by kernel_rfl) (fun _ _ _ h => h) (by rfl) (by intro y hy; go_simp) ?_
  try simp only [Act.put, List.setIfInBounds_toArray, List.set_cons_zero, List.set_cons_succ]
  refine anyH_take 18 113 (.bool true) S9.out rfl (by kernel_rfl) (by kernel_rfl) (by kernel_rfl) (fun _ _ _ h => h) (by rfl) (by intro y hy; go_simp) ?_
  try simp only [Act.put, List.setIfInBounds_toArray, List.set_cons_zero, List.set_cons_succ]
  refine anyH_take 19 14 (.int .i64 0) S9.out rfl (by kernel_rfl) (by kernel_rfl) (by kernel_rfl) (fun _ _ _ h => h) (by rfl) (by intro y hy; go_simp) ?_
  try simp only [Act.put, List.setIfInBounds_toArray, List.set_cons_zero, List.set_cons_succ]
  refine anyH_take 20 15 (.bool true) S9.out rfl (by kernel_rfl) (by kernel_rfl) (by kernel_rfl) (fun _ _ _ h => h) (by rfl) (by intro y hy; go_simp) ?_
  try simp only [Act.put, List.setIfInBounds_toArray, List.set_cons_zero, List.set_cons_succ]
  refine wpAnyH_done (by kernel_rfl) ?_ _
  go_wp2_with (first
    | (go_at_call 10; refine (HK.out _).mono ?_; rintro e5 w5 ⟨rfl, B5⟩))
  go_ret
  exact ⟨rfl, S9.out.2.trans (B5.mono S9.out.2.size)⟩
set_option maxHeartbeats 4000000 in
set_option maxRecDepth 100000 in
theorem more_any (L M : List Us.S) (p p2 : Option Addr) (n n2 c c2 : Nat) (hn : L.length = n) (hn2 : M.length = n2) (s lean now : Int) (hnow : In64 now) (hin : ∀ i, i < n → In64 (Us.at_ L i).a) (hin2 : ∀ i, i < n2 → In64 (Us.at_ M i).a) (w : World) (h : SgS w p L) (h2 : SgS w p2 M) (hz : p = none → c = 0) (hz2 : p2 = none → c2 = 0) :
    Calls Try.prog 7 #[.slice p n c, .slice p2 n2 c2, .agg (HwA s lean now)] w (BoSay true w) := by
  by_cases h0 : n ≤ 2048
  · by_cases h1 : n2 ≤ 2048
    · rcases hs1 : Vc.vic s lean now L with _ | ⟨i, m1⟩
      · rcases hs2 : Vc.vic s lean now M with _ | ⟨k, m2⟩
        · exact more_0 L M p p2 n n2 c c2 hn hn2 s lean now hnow hin hin2 w h h2 hz hz2 h0 h1 hs1 hs2
        · exact more_1 L M p p2 n n2 c c2 hn hn2 s lean now hnow hin hin2 w h h2 hz hz2 h0 h1 hs1 k m2 hs2
      · rcases hs2 : Vc.vic s lean now M with _ | ⟨k, m2⟩
        · exact more_2 L M p p2 n n2 c c2 hn hn2 s lean now hnow hin hin2 w h h2 hz hz2 h0 h1 i m1 hs1 hs2
        · by_cases hlt : m1 < m2
          · exact more_3 L M p p2 n n2 c c2 hn hn2 s lean now hnow hin hin2 w h h2 hz hz2 h0 h1 i m1 hs1 k m2 hs2 hlt
          · exact more_4 L M p p2 n n2 c c2 hn hn2 s lean now hnow hin hin2 w h h2 hz hz2 h0 h1 i m1 hs1 k m2 hs2 hlt
    · have k0 : (n : Int) ≤ 2048 := by omega
      have k1 : (2048 : Int) < (n2 : Int) := by omega
      obtain ⟨w0, hw0⟩ : ∃ x, x = w.alloc (.cells (HwA s lean now) 27) := ⟨_, rfl⟩
      have B0 : Hid (Below w.heap.size w w0) := by rw [hw0]; exact (Below.refl _ w).alloc (Nat.le_refl _) _
      have HK := Lib.hid known_any
      clear h h2 hin hin2 hn hn2
      go_enter Try.func7, Try.ntmps7
      go_wp2_with (first
        | (go_at_call 10; rw [← hw0]; refine (HK.out _).mono ?_; rintro e5 w5 ⟨rfl, B5⟩))
      go_ret
      exact ⟨rfl, B0.out.trans (B5.mono B0.out.size)⟩
  · have k0 : (2048 : Int) < (n : Int) := by omega
    obtain ⟨w0, hw0⟩ : ∃ x, x = w.alloc (.cells (HwA s lean now) 27) := ⟨_, rfl⟩
    have B0 : Hid (Below w.heap.size w w0) := by rw [hw0]; exact (Below.refl _ w).alloc (Nat.le_refl _) _
    have HK := Lib.hid known_any
    clear h h2 hin hin2 hn hn2
    go_enter Try.func7, Try.ntmps7
    go_wp2_with (first
      | (go_at_call 10; rw [← hw0]; refine (HK.out _).mono ?_; rintro e5 w5 ⟨rfl, B5⟩))
    go_ret
    exact ⟨rfl, B0.out.trans (B5.mono B0.out.size)⟩
end Go.Proofs.Ythgjfjmampmiiaa

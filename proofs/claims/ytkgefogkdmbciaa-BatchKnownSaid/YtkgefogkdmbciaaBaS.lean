/-
  BatchKnown: the law walked.
-/
import Derived.Test.YtkgefogkdmbciaaBaS1
import Derived.Test.YtkgefogkdmbciaaBaQ
import Derived.Test.YtkgefogkdmbciaaBaO
import Derived.Test.YtkgefogkdmbciaaBaR
namespace Go.Proofs.Ytkgefogkdmbciaa
open Go.RowKit

section
variable {P : Program} {md : Region.Mode} {ops : Array Oper} {Q : Exit → Act → World → Prop} {S : World → Prop}
theorem anyH_two (i j : Nat) {fuel : Nat} {listed : Array Bool} {a : Act} {w : World} (hr : Region.ready md ops listed = [i, j])
    (h : wpOp P ops Q i (fun a' w' => S w' ∧ wpAnyH P md ops Q S fuel (listed.setIfInBounds i true) a' w') a w) (h2 : wpOp P ops Q j (fun a' w' => S w' ∧ wpAnyH P md ops Q S fuel (listed.setIfInBounds j true) a' w') a w) : wpAnyH P md ops Q S (fuel + 1) listed a w :=
  ⟨fun h0 => absurd (hr ▸ h0) (by simp), fun k hk => by
    rw [hr] at hk
    simp at hk
    rcases hk with rfl | rfl
    · exact h
    · exact h2⟩
end
namespace Bt
def n20 : List Int := [-9223372036854775808, -2, -1, 0, 1, 2, 3, 4, 6, 7, 8, 9, 10, 31, 32, 63, 64, 1099511627776, 1099511627777, 9223372036854775807]
theorem n20_in (k : Nat) (hk : k < 20) : Pk.In64 (n20.getD k 0) := by
  have h : ∀ x ∈ n20, Pk.In64 x := by
    intro x hx
    simp only [n20, List.mem_cons, List.not_mem_nil, or_false] at hx
    rcases hx with rfl | rfl | rfl | rfl | rfl | rfl | rfl | rfl | rfl | rfl | rfl | rfl | rfl | rfl | rfl | rfl | rfl | rfl | rfl | rfl <;> exact ⟨by decide, by decide⟩
  rw [List.getD_eq_getElem?_getD, List.getElem?_eq_getElem (by exact hk)]
  exact h _ (List.getElem_mem _)
end Bt
theorem n20_cell {y : World} {g : Nat} (h : y.heap[g]? = some (.cells (Bt.n20.map (Value.int .i64)).toArray 3 (0, 0))) (k : Nat) (hk : k < 20) : y.cell? ⟨g, k, none⟩ = some (.int .i64 (Bt.n20.getD k 0)) := by
  rw [cell_of_row y g k _ _ _ h]
  have h2 : k < Bt.n20.length := hk
  simp [List.getD_eq_getElem?_getD, h2]
theorem splice_all {A B : List Value} (h : B.length = A.length) : splice A 0 B = B := by
  unfold splice
  rw [List.take_zero, List.nil_append, Nat.zero_add, h, List.drop_length, List.append_nil]
theorem Es.only {w x : World} {p : Option Addr} {c k : Nat} {L : List Bt.En} (h : Es w p c L) (ho : Only k w x) (hk : ∀ ad, p = some ad → ad.block ≠ k) : Es x p c L :=
  ⟨h.ok, fun h0 => by
    obtain ⟨ab, ao, h1, h2⟩ := h.at_ h0
    exact ⟨ab, ao, h1, fun i hi j v hv => ho.cell (hk _ h1) (h2 i hi j v hv)⟩, h.cap, h.nil⟩
set_option maxHeartbeats 8000000 in
set_option maxRecDepth 100000 in
theorem known_any (w : World) : Calls Try.prog 8 #[] w (YesSay w) := by
  have HWK : Hid (∀ y, Calls Try.prog 10 #[] y (YesSay y)) := fun y => works_any y
  have H3 : Hid (∀ y, Calls Try.prog 28 #[] y (SmNew 3 Bt.Z (-1) 3 Bt.T3 y)) := fun y => three_any y
  have HBP : Hid (∀ y t n P q m c L, L.length = m → Sv y P q c L → Calls Try.prog 3 #[.agg (SmA t P n (.slice q m c))] y (YesSay y)) := fun y t n P q m c L hm hv => puts_any t n P q m c L hm y hv
  have HBB : Hid (∀ y t n P q m c L, Pk.In64 t → Pk.In64 n → L.length = m → Sv y P q c L → Calls Try.prog 5 #[.agg (SmA t P n (.slice q m c))] y (YesSay y)) := fun y t n P q m c L ht hn hm hv => back_any' t n ht hn P q m c L hm y hv
  have HPLN : Hid (∀ y t n P q m c L g x, Pk.In64 t → Pk.In64 n → L.length = m → Sv y P q c L → EsRow y g Bt.T3 → Calls Try.prog 7 #[.agg (SmA t P n (.slice q m c)), .agg (SmA 3 Bt.Z (-1) (.slice (some ⟨g, 0, none⟩) 3 3)), .int .i64 x, .int .u8 0] y (YesSay y)) := fun y t n P q m c L g x ht hn hm hv hg => plain_any t n ht hn P q m c L hm 3 (-1) Bt.t3_in.1 Bt.t3_in.2 Bt.Z _ 3 3 Bt.T3 Bt.t3_len x 0 (by omega) y hv ⟨Bt.z_len, Bt.z_byt, hg.es Bt.t3s_ok (by rw [Bt.t3_len]; omega)⟩
  have HBG : Hid (∀ y q c n B, B.length = n → Bs y q c B → Calls Try.prog 4 #[.slice q n c] y (YesSay y)) := fun y q c n B hn hb => by subst hn; exact gets_any B q c y hb
  have HBF : Hid (∀ y q c n B, B.length = n → Bs y q c B → Calls Try.prog 6 #[.slice q n c] y (YesSay y)) := fun y q c n B hn hb => by subst hn; exact forms_any B q c y hb
  have HSE : Hid (∀ y f a n g, (f = 0 ∨ f = 1 ∨ f = 2 ∨ f = 3 ∨ f = 4 ∨ f = 5) → a < 3 → Pk.In64 n → EsRow y g Bt.T3 → Calls Try.prog 27 #[.agg (SmA 3 Bt.Z (-1) (.slice (some ⟨g, 0, none⟩) 3 3)), .int .i64 f, .int .i64 (a : Nat), .int .i64 n] y (SetSay y)) := fun y f a n g hf ha hn hg => set_any f n a hf ha hn g y hg
  have HP3 : Hid (∀ y g, EsRow y g Bt.T3 → Calls Try.prog 12 #[.agg (SmA 3 Bt.Z (-1) (.slice (some ⟨g, 0, none⟩) 3 3))] y (PutOk (Bt.ofS 3 Bt.Z (-1) Bt.T3) 224 y)) := fun y g hy => put_three y g hy
  obtain ⟨BB, hBB⟩ : ∃ x, Bt.ofS 3 Bt.Z (-1) Bt.T3 = x := ⟨_, rfl⟩
  have HBL : Hid (BB.length = 224) := by show _ = _; rw [← hBB, Bt.ofS_len _ _ Bt.z_len Bt.t3s_ok, Bt.t3_len]
  have HBY : Hid (Sha.Byt BB) := by rw [← hBB]; exact Bt.ofS_byt _ _ Bt.z_byt Bt.t3s_ok
  rw [hBB] at HP3
  clear hBB
  have HSZ : Hid (∀ t P n v, P.length = 32 → (SmA t P n v).size = 35) := fun t P n v h => smA_size t n v h
  have hZS := sm_info (A := ZSm.toArray) rfl
  go_enter Try.func8, Try.ntmps8
  go_upto_region 2 with (fail)
  change Code.wp _ _ _ _ (w.alloc (.cells (Bt.n20.map (Value.int .i64)).toArray 3))
  have B0 : Hid (Below w.heap.size w (w.alloc (.cells (Bt.n20.map (Value.int .i64)).toArray 3))) := (Below.refl _ w).alloc (Nat.le_refl _) _
  have R0 : Hid ((w.alloc (.cells (Bt.n20.map (Value.int .i64)).toArray 3)).heap[w.heap.size]? = some (.cells (Bt.n20.map (Value.int .i64)).toArray 3 (0, 0))) := heap_alloc_new w _
  obtain ⟨w1, hw1⟩ : ∃ y, y = w.alloc (.cells (Bt.n20.map (Value.int .i64)).toArray 3) := ⟨_, rfl⟩
  rw [← hw1] at B0 R0 ⊢
  clear hw1
  have HC0 : Hid (∀ k, k < 20 → ∀ y, Below w1.heap.size w1 y → y.cell? ⟨w.heap.size, k, none⟩ = some (.int .i64 (Bt.n20.getD k 0))) := fun k hk y hy => n20_cell ((hy.block _ (lt_of_block R0.out)).trans R0.out) k hk
  clear R0
  go_upto_region 3 with (fail)
  go_loopw [2, 3, 4] (fun v2 _ _ wr => ∃ f : Nat, f ≤ 6 ∧ v2 = .int .i64 f ∧ Hid (Below w1.heap.size w1 wr)) (fun v2 _ _ _ => 6 - (intOf v2).toNat)
  case atStart => exact ⟨0, by omega, rfl, Lib.hid (Below.refl _ _)⟩
  case round =>
    obtain ⟨f, hf, rfl, HB⟩ := hrel
    by_cases hlf : f < 6
    · have hf0 : (0 : Int) ≤ (f : Int) := by omega
      have hf6 : (f : Int) < 6 := by omega
      go_upto_region 6 with (fail)
      go_loopw [3, 4] (fun v3 _ wr => ∃ a : Nat, a ≤ 3 ∧ v3 = .int .i64 a ∧ Hid (Below w1.heap.size w1 wr)) (fun v3 _ _ => 3 - (intOf v3).toNat)
      case atStart => exact ⟨0, by omega, rfl, HB⟩
      case round =>
        clear HB
        obtain ⟨a, ha, rfl, HB⟩ := hrel
        by_cases hla : a < 3
        · have ha0 : (0 : Int) ≤ (a : Int) := by omega
          have ha3 : (a : Int) < 3 := by omega
          go_upto_region 9 with (fail)
          go_loopw [4] (fun v4 wr => ∃ k : Nat, k ≤ 20 ∧ v4 = .int .i64 k ∧ Hid (Below w1.heap.size w1 wr)) (fun v4 _ => 20 - (intOf v4).toNat)
          case atStart => exact ⟨0, by omega, rfl, HB⟩
          case round =>
            clear HB
            obtain ⟨k, hk, rfl, HB⟩ := hrel
            by_cases hlk : k < 20
            · have hk0 : (0 : Int) ≤ (k : Int) := by omega
              have hk20 : (k : Int) < 20 := by omega
              obtain ⟨nv, hnv⟩ : ∃ x, Bt.n20.getD k 0 = x := ⟨_, rfl⟩
              have HNV : Hid (Pk.In64 nv) := by have h := Bt.n20_in k hlk; rw [hnv] at h; exact h
              have HC : Hid (∀ y, Below w1.heap.size w1 y → (y.cell? ⟨w.heap.size, k, none⟩ = some (.int .i64 nv))) := fun y hy => by rw [← hnv]; exact HC0.out k hlk y hy
              have HF : Hid ((f : Int) = 0 ∨ (f : Int) = 1 ∨ (f : Int) = 2 ∨ (f : Int) = 3 ∨ (f : Int) = 4 ∨ (f : Int) = 5) := by show _ ∨ _; omega
              have HST : Hid (∀ y g, EsRow y g Bt.T3 → Calls Try.prog 27 #[.agg (SmA 3 Bt.Z (-1) (.slice (some ⟨g, 0, none⟩) 3 3)), .int .i64 (f : Nat), .int .i64 (a : Nat), .int .i64 nv] y (SetSay y)) := fun y g hy => HSE.out y f a nv g HF.out hla HNV.out hy
              clear hnv
              go_upto_region 11 with (fail)
              as_aux_lemma =>
              refine wp_region_any (by kernel_rfl) ?_
              change wpAny _ _ _ _ _ _ _ (World.drew _)
              have Bz : Hid (Below w1.heap.size w1 wr.drew) := HB.out.drew
              obtain ⟨z, hz⟩ : ∃ y, y = wr.drew := ⟨_, rfl⟩
              rw [← hz] at Bz ⊢
              clear hz
              refine wpAny_of_held (S := fun y => (y.cell? ⟨w.heap.size, k, none⟩ = some (.int .i64 nv))) _ _ _ _ ?_
              clear HB
              refine anyH_take 1 31 (.int .i64 (f : Nat)) (HC.out _ Bz.out) rfl (by kernel_rfl) (by kernel_rfl) (by kernel_rfl) (fun _ _ _ h => h) (by rfl) (by intro y hy; go_simp) ?_
              try simp only [Act.put, List.setIfInBounds_toArray, List.set_cons_zero, List.set_cons_succ]
              refine anyH_take 2 32 (.int .i64 (a : Nat)) (HC.out _ Bz.out) rfl (by kernel_rfl) (by kernel_rfl) (by kernel_rfl) (fun _ _ _ h => h) (by rfl) (by intro y hy; go_simp) ?_
              try simp only [Act.put, List.setIfInBounds_toArray, List.set_cons_zero, List.set_cons_succ]
              refine anyH_take 3 33 (.slice (some ⟨w.heap.size, 0, none⟩) 20 20) (HC.out _ Bz.out) rfl (by kernel_rfl) (by kernel_rfl) (by kernel_rfl) (fun _ _ _ h => h) (by rfl) (by intro y hy; go_simp) ?_
              try simp only [Act.put, List.setIfInBounds_toArray, List.set_cons_zero, List.set_cons_succ]
              refine anyH_take 4 34 (.int .i64 (k : Nat)) (HC.out _ Bz.out) rfl (by kernel_rfl) (by kernel_rfl) (by kernel_rfl) (fun _ _ _ h => h) (by rfl) (by intro y hy; go_simp) ?_
              try simp only [Act.put, List.setIfInBounds_toArray, List.set_cons_zero, List.set_cons_succ]
              refine anyH_take 5 35 (.pointer (some ⟨w.heap.size, k, none⟩)) (HC.out _ Bz.out) rfl (by kernel_rfl) (by kernel_rfl) (by kernel_rfl) (fun _ _ _ h => h) (by rfl) (by intro y hy; go_simp) ?_
              try simp only [Act.put, List.setIfInBounds_toArray, List.set_cons_zero, List.set_cons_succ]
              refine anyH_take 6 36 (.int .i64 nv) (HC.out _ Bz.out) rfl (by kernel_rfl) (by kernel_rfl) (by kernel_rfl) (fun _ _ _ h => h) (by rfl) (by intro y hy; go_simp) ?_
              try simp only [Act.put, List.setIfInBounds_toArray, List.set_cons_zero, List.set_cons_succ]
              refine anyH_two 0 8 (by kernel_rfl) ?_ ?_
              · refine wpOp_step rfl (fun Kc hKc => ?_)
                go_simp
                refine (H3.out z).mono ?_
                rintro e3 w3 ⟨g3, rfl, E3, _, L3⟩
                have Bw3 : Hid (Below w1.heap.size w1 w3) := Bz.out.trans (L3.out.mono Bz.out.size)
                dsimp only
                refine hKc _ _ ⟨HC.out _ Bw3.out, ?_⟩
                clear hKc Kc
                try simp only [Act.put, List.setIfInBounds_toArray, List.set_cons_zero, List.set_cons_succ]
                refine anyH_two 7 8 (by kernel_rfl) ?_ ?_
                · refine wpOp_step rfl (fun Kc hKc => ?_)
                  go_simp
                  refine (HST.out w3 g3 E3.out).mono ?_
                  rintro e4 w4 ⟨t, P, n, q, c, L, rfl, HTN, HSV, HQ, L4⟩
                  have Bw4 : Hid (Below w1.heap.size w1 w4) := Bw3.out.trans (L4.out.mono Bw3.out.size)
                  dsimp only
                  refine hKc _ _ ⟨HC.out _ Bw4.out, ?_⟩
                  clear hKc Kc
                  try simp only [Act.put, List.setIfInBounds_toArray, List.set_cons_zero, List.set_cons_succ]
                  refine anyH_one 8 (by kernel_rfl) ?_
                  have HQ4 : Hid (∀ ad, q = some ad → ad.block < w4.heap.size) := fun ad e => (HQ.out ad e).2
                  refine wpOp_step rfl (fun Kc hKc => ?_)
                  go_simp
                  change Kc _ (w4.alloc (.cells ZSm.toArray 26))
                  have LA : Hid (Below w4.heap.size w4 (w4.alloc (.cells ZSm.toArray 26))) := (Below.refl _ _).alloc (Nat.le_refl _) _
                  have ZA : Hid ((w4.alloc (.cells ZSm.toArray 26)).heap[w4.heap.size]? = some (.cells ZSm.toArray 26 (0, 0))) := heap_alloc_new _ _
                  have Bwa : Hid (Below w1.heap.size w1 (w4.alloc (.cells ZSm.toArray 26))) := Bw4.out.trans (LA.out.mono Bw4.out.size)
                  obtain ⟨wa, hwa⟩ : ∃ y, y = w4.alloc (.cells ZSm.toArray 26) := ⟨_, rfl⟩
                  rw [← hwa] at LA ZA Bwa ⊢
                  clear hwa
                  obtain ⟨gx, hgx⟩ : ∃ b, w4.heap.size = b := ⟨_, rfl⟩
                  rw [hgx] at ZA HQ4 ⊢
                  have GXS : Hid (w1.heap.size ≤ gx) := by show _ ≤ _; rw [← hgx]; exact Bw4.out.size
                  refine hKc _ _ ⟨HC.out _ Bwa.out, ?_⟩
                  clear hKc Kc hgx
                  try simp only [Act.put, List.setIfInBounds_toArray, List.set_cons_zero, List.set_cons_succ]
                  have SVS : Hid (Sv wa P q c L) := HSV.out.old LA.out
                  have HQS : Hid (∀ ad, q = some ad → ad.block ≠ gx) := fun ad e => Nat.ne_of_lt (HQ4.out ad e)
                  have ZS := ZA
                  have BS := Bwa
                  clear HQ4 LA ZA L4 L3 E3 HSV HQ Bw4 Bw3 Bwa Bz
                  have HX1 : Hid ((SmA t P n (.slice q 3 c)).all (·.oneCell') = true) := smA_one _ _ _ _ _ _
                  have HXS : Hid ((SmA t P n (.slice q 3 c)).size = 35) := HSZ.out _ _ _ _ SVS.out.len
                  refine anyH_one 9 (by kernel_rfl) ?_
                  refine op_store 9 26 (.tmp 5) (.tmp 37) rfl gx 0 26 ZSm (SmA t P n (.slice q 3 c)) rfl rfl ZS.out (sm_info HXS.out) (by rw [HXS.out]; exact Nat.le_refl _) HX1.out ?_
                  intro w5 G5 ch5
                  have G5' : Hid (w5.heap[gx]? = some (.cells (SmA t P n (.slice q 3 c)) 26 (0, 0))) := by
                    have h := G5.out
                    rw [splice_all (by rw [Array.length_toList, HXS.out]; rfl)] at h
                    exact h
                  have SV5 : Hid (Sv w5 P q c L) := ⟨SVS.out.len, SVS.out.byt, SVS.out.es.only ch5.only HQS.out⟩
                  have B5 : Hid (Below w1.heap.size w1 w5) := ch5.below BS.out GXS.out
                  refine ⟨HC.out _ B5.out, ?_⟩
                  refine wpAnyH_done (by kernel_rfl) ?_ _
                  obtain ⟨X, hX⟩ : ∃ X, SmA t P n (.slice q 3 c) = X := ⟨_, rfl⟩
                  have HP1 : Hid (∀ y, Below w5.heap.size w5 y → Calls Try.prog 3 #[.agg X] y (YesSay y)) := fun y hy => by rw [← hX]; exact HBP.out y t n P q 3 c L HTN.out.2.2 (SV5.out.old hy)
                  have HP2 : Hid (∀ y, Below w5.heap.size w5 y → Calls Try.prog 5 #[.agg X] y (YesSay y)) := fun y hy => by rw [← hX]; exact HBB.out y t n P q 3 c L HTN.out.1 HTN.out.2.1 HTN.out.2.2 (SV5.out.old hy)
                  have HP3' : Hid (∀ y g, Below w5.heap.size w5 y → EsRow y g Bt.T3 → Calls Try.prog 7 #[.agg X, .agg (SmA 3 Bt.Z (-1) (.slice (some ⟨g, 0, none⟩) 3 3)), .int .i64 nv, .int .u8 0] y (YesSay y)) := fun y g hy hg => by rw [← hX]; exact HPLN.out y t n P q 3 c L g nv HTN.out.1 HTN.out.2.1 HTN.out.2.2 (SV5.out.old hy) hg
                  rw [hX] at G5' HXS HX1 ⊢
                  clear hX G5 ch5 HX1 SVS HQS ZS BS GXS
                  go_upto_region 12 with (fail)
                  refine wp_region_any (by kernel_rfl) ?_
                  change wpAny _ _ _ _ _ _ _ (World.drew _)
                  have Gu : Hid ((w5.drew.heap[gx]? = some (.cells X 26 (0, 0)) ∧ (w5.drew.cell? ⟨w.heap.size, k, none⟩ = some (.int .i64 nv)))) := ⟨G5'.out, HC.out _ B5.out.drew⟩
                  have Bu : Hid (Below w5.heap.size w5 w5.drew) := (Below.refl _ w5).drew
                  obtain ⟨u, hu⟩ : ∃ y, y = w5.drew := ⟨_, rfl⟩
                  rw [← hu] at Gu Bu ⊢
                  clear hu
                  refine wpAny_of_held (S := fun y => (y.heap[gx]? = some (.cells X 26 (0, 0)) ∧ (y.cell? ⟨w.heap.size, k, none⟩ = some (.int .i64 nv)))) _ _ _ _ ?_
                  refine anyH_take 0 38 (.agg X) Gu.out rfl (by kernel_rfl) (by kernel_rfl) (by kernel_rfl) (fun _ _ _ h => h) (by rfl) (fun y hy => exec_arr _ _ gx 0 _ _ rfl (fun j u hu => by rw [cell_of_row y _ (0 + j) _ _ _ hy.1, Nat.zero_add]; simpa using hu) Try.underlying26 rfl (sm_info HXS.out)) ?_
                  try simp only [Act.put, List.setIfInBounds_toArray, List.set_cons_zero, List.set_cons_succ]
                  refine anyH_one 1 (by kernel_rfl) ?_
                  refine wpOp_step rfl (fun Kc hKc => ?_)
                  go_simp
                  refine (HP1.out _ Bu.out).mono ?_
                  rintro r1 p1 ⟨rfl, hb1⟩
                  have K1 : Hid (Below w5.heap.size w5 p1) := Bu.out.trans (hb1.mono Bu.out.size)
                  have S1 : Hid ((p1.heap[gx]? = some (.cells X 26 (0, 0)) ∧ (p1.cell? ⟨w.heap.size, k, none⟩ = some (.int .i64 nv)))) := ⟨(K1.out.block _ (lt_of_block G5'.out)).trans G5'.out, HC.out _ (B5.out.trans (K1.out.mono B5.out.size))⟩
                  dsimp only
                  refine hKc _ _ ⟨S1.out, ?_⟩
                  clear hKc Kc
                  try simp only [Act.put, List.setIfInBounds_toArray, List.set_cons_zero, List.set_cons_succ]
                  refine anyH_take 2 40 (.bool false) S1.out rfl (by kernel_rfl) (by kernel_rfl) (by kernel_rfl) (fun _ _ _ h => h) (by rfl) (by intro y hy; go_simp) ?_
                  try simp only [Act.put, List.setIfInBounds_toArray, List.set_cons_zero, List.set_cons_succ]
                  refine anyH_take 3 41 (.bool false) S1.out rfl (by kernel_rfl) (by kernel_rfl) (by kernel_rfl) (fun _ _ _ h => h) (by rfl) (by intro y hy; go_simp) ?_
                  try simp only [Act.put, List.setIfInBounds_toArray, List.set_cons_zero, List.set_cons_succ]
                  refine anyH_take 4 42 (.agg X) S1.out rfl (by kernel_rfl) (by kernel_rfl) (by kernel_rfl) (fun _ _ _ h => h) (by rfl) (fun y hy => exec_arr _ _ gx 0 _ _ rfl (fun j u hu => by rw [cell_of_row y _ (0 + j) _ _ _ hy.1, Nat.zero_add]; simpa using hu) Try.underlying26 rfl (sm_info HXS.out)) ?_
                  try simp only [Act.put, List.setIfInBounds_toArray, List.set_cons_zero, List.set_cons_succ]
                  refine anyH_one 5 (by kernel_rfl) ?_
                  refine wpOp_step rfl (fun Kc hKc => ?_)
                  go_simp
                  refine (HP2.out _ K1.out).mono ?_
                  rintro r2 p2 ⟨rfl, hb2⟩
                  have K2 : Hid (Below w5.heap.size w5 p2) := K1.out.trans (hb2.mono K1.out.size)
                  have S2 : Hid ((p2.heap[gx]? = some (.cells X 26 (0, 0)) ∧ (p2.cell? ⟨w.heap.size, k, none⟩ = some (.int .i64 nv)))) := ⟨(K2.out.block _ (lt_of_block G5'.out)).trans G5'.out, HC.out _ (B5.out.trans (K2.out.mono B5.out.size))⟩
                  dsimp only
                  refine hKc _ _ ⟨S2.out, ?_⟩
                  clear hKc Kc
                  try simp only [Act.put, List.setIfInBounds_toArray, List.set_cons_zero, List.set_cons_succ]
                  refine anyH_take 6 44 (.bool false) S2.out rfl (by kernel_rfl) (by kernel_rfl) (by kernel_rfl) (fun _ _ _ h => h) (by rfl) (by intro y hy; go_simp) ?_
                  try simp only [Act.put, List.setIfInBounds_toArray, List.set_cons_zero, List.set_cons_succ]
                  refine anyH_take 7 45 (.bool false) S2.out rfl (by kernel_rfl) (by kernel_rfl) (by kernel_rfl) (fun _ _ _ h => h) (by rfl) (by intro y hy; go_simp) ?_
                  try simp only [Act.put, List.setIfInBounds_toArray, List.set_cons_zero, List.set_cons_succ]
                  refine anyH_take 8 46 (.bool false) S2.out rfl (by kernel_rfl) (by kernel_rfl) (by kernel_rfl) (fun _ _ _ h => h) (by rfl) (by intro y hy; go_simp) ?_
                  try simp only [Act.put, List.setIfInBounds_toArray, List.set_cons_zero, List.set_cons_succ]
                  refine anyH_take 9 47 (.agg X) S2.out rfl (by kernel_rfl) (by kernel_rfl) (by kernel_rfl) (fun _ _ _ h => h) (by rfl) (fun y hy => exec_arr _ _ gx 0 _ _ rfl (fun j u hu => by rw [cell_of_row y _ (0 + j) _ _ _ hy.1, Nat.zero_add]; simpa using hu) Try.underlying26 rfl (sm_info HXS.out)) ?_
                  try simp only [Act.put, List.setIfInBounds_toArray, List.set_cons_zero, List.set_cons_succ]
                  refine anyH_take 11 49 (.slice (some ⟨w.heap.size, 0, none⟩) 20 20) S2.out rfl (by kernel_rfl) (by kernel_rfl) (by kernel_rfl) (fun _ _ _ h => h) (by rfl) (by intro y hy; go_simp) ?_
                  try simp only [Act.put, List.setIfInBounds_toArray, List.set_cons_zero, List.set_cons_succ]
                  refine anyH_take 12 50 (.int .i64 (k : Nat)) S2.out rfl (by kernel_rfl) (by kernel_rfl) (by kernel_rfl) (fun _ _ _ h => h) (by rfl) (by intro y hy; go_simp) ?_
                  try simp only [Act.put, List.setIfInBounds_toArray, List.set_cons_zero, List.set_cons_succ]
                  refine anyH_take 13 51 (.pointer (some ⟨w.heap.size, k, none⟩)) S2.out rfl (by kernel_rfl) (by kernel_rfl) (by kernel_rfl) (fun _ _ _ h => h) (by rfl) (by intro y hy; go_simp) ?_
                  try simp only [Act.put, List.setIfInBounds_toArray, List.set_cons_zero, List.set_cons_succ]
                  refine anyH_take 14 52 (.int .i64 nv) S2.out rfl (by kernel_rfl) (by kernel_rfl) (by kernel_rfl) (fun _ _ _ h => h) (by rfl) (by intro y hy; have c := hy.2; go_simp) ?_
                  try simp only [Act.put, List.setIfInBounds_toArray, List.set_cons_zero, List.set_cons_succ]
                  refine anyH_one 10 (by kernel_rfl) ?_
                  refine wpOp_step rfl (fun Kc hKc => ?_)
                  go_simp
                  refine (H3.out _).mono ?_
                  rintro r3 p3 ⟨h3, rfl, F3, _, hb3'⟩
                  have hb3 := hb3'.out
                  have K3 : Hid (Below w5.heap.size w5 p3) := K2.out.trans (hb3.mono K2.out.size)
                  have S3 : Hid ((p3.heap[gx]? = some (.cells X 26 (0, 0)) ∧ (p3.cell? ⟨w.heap.size, k, none⟩ = some (.int .i64 nv)))) := ⟨(K3.out.block _ (lt_of_block G5'.out)).trans G5'.out, HC.out _ (B5.out.trans (K3.out.mono B5.out.size))⟩
                  dsimp only
                  refine hKc _ _ ⟨S3.out, ?_⟩
                  clear hKc Kc
                  try simp only [Act.put, List.setIfInBounds_toArray, List.set_cons_zero, List.set_cons_succ]
                  refine anyH_one 15 (by kernel_rfl) ?_
                  refine wpOp_step rfl (fun Kc hKc => ?_)
                  go_simp
                  refine (HP3'.out _ _ K3.out F3.out).mono ?_
                  rintro r4 p4 ⟨rfl, hb4⟩
                  have K4 : Hid (Below w5.heap.size w5 p4) := K3.out.trans (hb4.mono K3.out.size)
                  have S4 : Hid ((p4.heap[gx]? = some (.cells X 26 (0, 0)) ∧ (p4.cell? ⟨w.heap.size, k, none⟩ = some (.int .i64 nv)))) := ⟨(K4.out.block _ (lt_of_block G5'.out)).trans G5'.out, HC.out _ (B5.out.trans (K4.out.mono B5.out.size))⟩
                  dsimp only
                  refine hKc _ _ ⟨S4.out, ?_⟩
                  clear hKc Kc
                  try simp only [Act.put, List.setIfInBounds_toArray, List.set_cons_zero, List.set_cons_succ]
                  refine anyH_take 16 54 (.bool false) S4.out rfl (by kernel_rfl) (by kernel_rfl) (by kernel_rfl) (fun _ _ _ h => h) (by rfl) (by intro y hy; go_simp) ?_
                  try simp only [Act.put, List.setIfInBounds_toArray, List.set_cons_zero, List.set_cons_succ]
                  refine anyH_take 17 55 (.bool false) S4.out rfl (by kernel_rfl) (by kernel_rfl) (by kernel_rfl) (fun _ _ _ h => h) (by rfl) (by intro y hy; go_simp) ?_
                  try simp only [Act.put, List.setIfInBounds_toArray, List.set_cons_zero, List.set_cons_succ]
                  refine wpAnyH_done (by kernel_rfl) ?_ _
                  have BE : Hid (Below w1.heap.size w1 p4) := B5.out.trans (K4.out.mono B5.out.size)
                  go_wp2
                  exact ⟨⟨k + 1, by omega, by go_num, BE⟩, by simp [intOf]; omega⟩
                · refine wpOp_step rfl (fun Kc hKc => ?_)
                  go_simp
                  change Kc _ (w3.alloc (.cells ZSm.toArray 26))
                  have LA : Hid (Below w3.heap.size w3 (w3.alloc (.cells ZSm.toArray 26))) := (Below.refl _ _).alloc (Nat.le_refl _) _
                  have ZA : Hid ((w3.alloc (.cells ZSm.toArray 26)).heap[w3.heap.size]? = some (.cells ZSm.toArray 26 (0, 0))) := heap_alloc_new _ _
                  have Bwa : Hid (Below w1.heap.size w1 (w3.alloc (.cells ZSm.toArray 26))) := Bw3.out.trans (LA.out.mono Bw3.out.size)
                  obtain ⟨wa, hwa⟩ : ∃ y, y = w3.alloc (.cells ZSm.toArray 26) := ⟨_, rfl⟩
                  rw [← hwa] at LA ZA Bwa ⊢
                  clear hwa
                  obtain ⟨gx, hgx⟩ : ∃ b, w3.heap.size = b := ⟨_, rfl⟩
                  rw [hgx] at ZA ⊢
                  have GXS : Hid (w1.heap.size ≤ gx) := by show _ ≤ _; rw [← hgx]; exact Bw3.out.size
                  refine hKc _ _ ⟨HC.out _ Bwa.out, ?_⟩
                  clear hKc Kc hgx
                  try simp only [Act.put, List.setIfInBounds_toArray, List.set_cons_zero, List.set_cons_succ]
                  refine anyH_one 7 (by kernel_rfl) ?_
                  refine wpOp_step rfl (fun Kc hKc => ?_)
                  go_simp
                  refine (HST.out wa g3 (E3.out.old LA.out)).mono ?_
                  rintro e4 w4 ⟨t, P, n, q, c, L, rfl, HTN, HSV, HQ, L4⟩
                  have Bw4 : Hid (Below w1.heap.size w1 w4) := Bwa.out.trans (L4.out.mono Bwa.out.size)
                  dsimp only
                  refine hKc _ _ ⟨HC.out _ Bw4.out, ?_⟩
                  clear hKc Kc
                  try simp only [Act.put, List.setIfInBounds_toArray, List.set_cons_zero, List.set_cons_succ]
                  have ZS : Hid (w4.heap[gx]? = some (.cells ZSm.toArray 26 (0, 0))) := (L4.out.block _ (lt_of_block ZA.out)).trans ZA.out
                  have SVS := HSV
                  have HQS : Hid (∀ ad, q = some ad → ad.block ≠ gx) := fun ad e => Nat.ne_of_gt (Nat.lt_of_lt_of_le (lt_of_block ZA.out) (HQ.out ad e).1)
                  have BS := Bw4
                  clear LA ZA L4 L3 E3 HSV HQ Bw4 Bw3 Bwa Bz 
                  have HX1 : Hid ((SmA t P n (.slice q 3 c)).all (·.oneCell') = true) := smA_one _ _ _ _ _ _
                  have HXS : Hid ((SmA t P n (.slice q 3 c)).size = 35) := HSZ.out _ _ _ _ SVS.out.len
                  refine anyH_one 9 (by kernel_rfl) ?_
                  refine op_store 9 26 (.tmp 5) (.tmp 37) rfl gx 0 26 ZSm (SmA t P n (.slice q 3 c)) rfl rfl ZS.out (sm_info HXS.out) (by rw [HXS.out]; exact Nat.le_refl _) HX1.out ?_
                  intro w5 G5 ch5
                  have G5' : Hid (w5.heap[gx]? = some (.cells (SmA t P n (.slice q 3 c)) 26 (0, 0))) := by
                    have h := G5.out
                    rw [splice_all (by rw [Array.length_toList, HXS.out]; rfl)] at h
                    exact h
                  have SV5 : Hid (Sv w5 P q c L) := ⟨SVS.out.len, SVS.out.byt, SVS.out.es.only ch5.only HQS.out⟩
                  have B5 : Hid (Below w1.heap.size w1 w5) := ch5.below BS.out GXS.out
                  refine ⟨HC.out _ B5.out, ?_⟩
                  refine wpAnyH_done (by kernel_rfl) ?_ _
                  obtain ⟨X, hX⟩ : ∃ X, SmA t P n (.slice q 3 c) = X := ⟨_, rfl⟩
                  have HP1 : Hid (∀ y, Below w5.heap.size w5 y → Calls Try.prog 3 #[.agg X] y (YesSay y)) := fun y hy => by rw [← hX]; exact HBP.out y t n P q 3 c L HTN.out.2.2 (SV5.out.old hy)
                  have HP2 : Hid (∀ y, Below w5.heap.size w5 y → Calls Try.prog 5 #[.agg X] y (YesSay y)) := fun y hy => by rw [← hX]; exact HBB.out y t n P q 3 c L HTN.out.1 HTN.out.2.1 HTN.out.2.2 (SV5.out.old hy)
                  have HP3' : Hid (∀ y g, Below w5.heap.size w5 y → EsRow y g Bt.T3 → Calls Try.prog 7 #[.agg X, .agg (SmA 3 Bt.Z (-1) (.slice (some ⟨g, 0, none⟩) 3 3)), .int .i64 nv, .int .u8 0] y (YesSay y)) := fun y g hy hg => by rw [← hX]; exact HPLN.out y t n P q 3 c L g nv HTN.out.1 HTN.out.2.1 HTN.out.2.2 (SV5.out.old hy) hg
                  rw [hX] at G5' HXS HX1 ⊢
                  clear hX G5 ch5 HX1 SVS HQS ZS BS GXS
                  go_upto_region 12 with (fail)
                  refine wp_region_any (by kernel_rfl) ?_
                  change wpAny _ _ _ _ _ _ _ (World.drew _)
                  have Gu : Hid ((w5.drew.heap[gx]? = some (.cells X 26 (0, 0)) ∧ (w5.drew.cell? ⟨w.heap.size, k, none⟩ = some (.int .i64 nv)))) := ⟨G5'.out, HC.out _ B5.out.drew⟩
                  have Bu : Hid (Below w5.heap.size w5 w5.drew) := (Below.refl _ w5).drew
                  obtain ⟨u, hu⟩ : ∃ y, y = w5.drew := ⟨_, rfl⟩
                  rw [← hu] at Gu Bu ⊢
                  clear hu
                  refine wpAny_of_held (S := fun y => (y.heap[gx]? = some (.cells X 26 (0, 0)) ∧ (y.cell? ⟨w.heap.size, k, none⟩ = some (.int .i64 nv)))) _ _ _ _ ?_
                  refine anyH_take 0 38 (.agg X) Gu.out rfl (by kernel_rfl) (by kernel_rfl) (by kernel_rfl) (fun _ _ _ h => h) (by rfl) (fun y hy => exec_arr _ _ gx 0 _ _ rfl (fun j u hu => by rw [cell_of_row y _ (0 + j) _ _ _ hy.1, Nat.zero_add]; simpa using hu) Try.underlying26 rfl (sm_info HXS.out)) ?_
                  try simp only [Act.put, List.setIfInBounds_toArray, List.set_cons_zero, List.set_cons_succ]
                  refine anyH_one 1 (by kernel_rfl) ?_
                  refine wpOp_step rfl (fun Kc hKc => ?_)
                  go_simp
                  refine (HP1.out _ Bu.out).mono ?_
                  rintro r1 p1 ⟨rfl, hb1⟩
                  have K1 : Hid (Below w5.heap.size w5 p1) := Bu.out.trans (hb1.mono Bu.out.size)
                  have S1 : Hid ((p1.heap[gx]? = some (.cells X 26 (0, 0)) ∧ (p1.cell? ⟨w.heap.size, k, none⟩ = some (.int .i64 nv)))) := ⟨(K1.out.block _ (lt_of_block G5'.out)).trans G5'.out, HC.out _ (B5.out.trans (K1.out.mono B5.out.size))⟩
                  dsimp only
                  refine hKc _ _ ⟨S1.out, ?_⟩
                  clear hKc Kc
                  try simp only [Act.put, List.setIfInBounds_toArray, List.set_cons_zero, List.set_cons_succ]
                  refine anyH_take 2 40 (.bool false) S1.out rfl (by kernel_rfl) (by kernel_rfl) (by kernel_rfl) (fun _ _ _ h => h) (by rfl) (by intro y hy; go_simp) ?_
                  try simp only [Act.put, List.setIfInBounds_toArray, List.set_cons_zero, List.set_cons_succ]
                  refine anyH_take 3 41 (.bool false) S1.out rfl (by kernel_rfl) (by kernel_rfl) (by kernel_rfl) (fun _ _ _ h => h) (by rfl) (by intro y hy; go_simp) ?_
                  try simp only [Act.put, List.setIfInBounds_toArray, List.set_cons_zero, List.set_cons_succ]
                  refine anyH_take 4 42 (.agg X) S1.out rfl (by kernel_rfl) (by kernel_rfl) (by kernel_rfl) (fun _ _ _ h => h) (by rfl) (fun y hy => exec_arr _ _ gx 0 _ _ rfl (fun j u hu => by rw [cell_of_row y _ (0 + j) _ _ _ hy.1, Nat.zero_add]; simpa using hu) Try.underlying26 rfl (sm_info HXS.out)) ?_
                  try simp only [Act.put, List.setIfInBounds_toArray, List.set_cons_zero, List.set_cons_succ]
                  refine anyH_one 5 (by kernel_rfl) ?_
                  refine wpOp_step rfl (fun Kc hKc => ?_)
                  go_simp
                  refine (HP2.out _ K1.out).mono ?_
                  rintro r2 p2 ⟨rfl, hb2⟩
                  have K2 : Hid (Below w5.heap.size w5 p2) := K1.out.trans (hb2.mono K1.out.size)
                  have S2 : Hid ((p2.heap[gx]? = some (.cells X 26 (0, 0)) ∧ (p2.cell? ⟨w.heap.size, k, none⟩ = some (.int .i64 nv)))) := ⟨(K2.out.block _ (lt_of_block G5'.out)).trans G5'.out, HC.out _ (B5.out.trans (K2.out.mono B5.out.size))⟩
                  dsimp only
                  refine hKc _ _ ⟨S2.out, ?_⟩
                  clear hKc Kc
                  try simp only [Act.put, List.setIfInBounds_toArray, List.set_cons_zero, List.set_cons_succ]
                  refine anyH_take 6 44 (.bool false) S2.out rfl (by kernel_rfl) (by kernel_rfl) (by kernel_rfl) (fun _ _ _ h => h) (by rfl) (by intro y hy; go_simp) ?_
                  try simp only [Act.put, List.setIfInBounds_toArray, List.set_cons_zero, List.set_cons_succ]
                  refine anyH_take 7 45 (.bool false) S2.out rfl (by kernel_rfl) (by kernel_rfl) (by kernel_rfl) (fun _ _ _ h => h) (by rfl) (by intro y hy; go_simp) ?_
                  try simp only [Act.put, List.setIfInBounds_toArray, List.set_cons_zero, List.set_cons_succ]
                  refine anyH_take 8 46 (.bool false) S2.out rfl (by kernel_rfl) (by kernel_rfl) (by kernel_rfl) (fun _ _ _ h => h) (by rfl) (by intro y hy; go_simp) ?_
                  try simp only [Act.put, List.setIfInBounds_toArray, List.set_cons_zero, List.set_cons_succ]
                  refine anyH_take 9 47 (.agg X) S2.out rfl (by kernel_rfl) (by kernel_rfl) (by kernel_rfl) (fun _ _ _ h => h) (by rfl) (fun y hy => exec_arr _ _ gx 0 _ _ rfl (fun j u hu => by rw [cell_of_row y _ (0 + j) _ _ _ hy.1, Nat.zero_add]; simpa using hu) Try.underlying26 rfl (sm_info HXS.out)) ?_
                  try simp only [Act.put, List.setIfInBounds_toArray, List.set_cons_zero, List.set_cons_succ]
                  refine anyH_take 11 49 (.slice (some ⟨w.heap.size, 0, none⟩) 20 20) S2.out rfl (by kernel_rfl) (by kernel_rfl) (by kernel_rfl) (fun _ _ _ h => h) (by rfl) (by intro y hy; go_simp) ?_
                  try simp only [Act.put, List.setIfInBounds_toArray, List.set_cons_zero, List.set_cons_succ]
                  refine anyH_take 12 50 (.int .i64 (k : Nat)) S2.out rfl (by kernel_rfl) (by kernel_rfl) (by kernel_rfl) (fun _ _ _ h => h) (by rfl) (by intro y hy; go_simp) ?_
                  try simp only [Act.put, List.setIfInBounds_toArray, List.set_cons_zero, List.set_cons_succ]
                  refine anyH_take 13 51 (.pointer (some ⟨w.heap.size, k, none⟩)) S2.out rfl (by kernel_rfl) (by kernel_rfl) (by kernel_rfl) (fun _ _ _ h => h) (by rfl) (by intro y hy; go_simp) ?_
                  try simp only [Act.put, List.setIfInBounds_toArray, List.set_cons_zero, List.set_cons_succ]
                  refine anyH_take 14 52 (.int .i64 nv) S2.out rfl (by kernel_rfl) (by kernel_rfl) (by kernel_rfl) (fun _ _ _ h => h) (by rfl) (by intro y hy; have c := hy.2; go_simp) ?_
                  try simp only [Act.put, List.setIfInBounds_toArray, List.set_cons_zero, List.set_cons_succ]
                  refine anyH_one 10 (by kernel_rfl) ?_
                  refine wpOp_step rfl (fun Kc hKc => ?_)
                  go_simp
                  refine (H3.out _).mono ?_
                  rintro r3 p3 ⟨h3, rfl, F3, _, hb3'⟩
                  have hb3 := hb3'.out
                  have K3 : Hid (Below w5.heap.size w5 p3) := K2.out.trans (hb3.mono K2.out.size)
                  have S3 : Hid ((p3.heap[gx]? = some (.cells X 26 (0, 0)) ∧ (p3.cell? ⟨w.heap.size, k, none⟩ = some (.int .i64 nv)))) := ⟨(K3.out.block _ (lt_of_block G5'.out)).trans G5'.out, HC.out _ (B5.out.trans (K3.out.mono B5.out.size))⟩
                  dsimp only
                  refine hKc _ _ ⟨S3.out, ?_⟩
                  clear hKc Kc
                  try simp only [Act.put, List.setIfInBounds_toArray, List.set_cons_zero, List.set_cons_succ]
                  refine anyH_one 15 (by kernel_rfl) ?_
                  refine wpOp_step rfl (fun Kc hKc => ?_)
                  go_simp
                  refine (HP3'.out _ _ K3.out F3.out).mono ?_
                  rintro r4 p4 ⟨rfl, hb4⟩
                  have K4 : Hid (Below w5.heap.size w5 p4) := K3.out.trans (hb4.mono K3.out.size)
                  have S4 : Hid ((p4.heap[gx]? = some (.cells X 26 (0, 0)) ∧ (p4.cell? ⟨w.heap.size, k, none⟩ = some (.int .i64 nv)))) := ⟨(K4.out.block _ (lt_of_block G5'.out)).trans G5'.out, HC.out _ (B5.out.trans (K4.out.mono B5.out.size))⟩
                  dsimp only
                  refine hKc _ _ ⟨S4.out, ?_⟩
                  clear hKc Kc
                  try simp only [Act.put, List.setIfInBounds_toArray, List.set_cons_zero, List.set_cons_succ]
                  refine anyH_take 16 54 (.bool false) S4.out rfl (by kernel_rfl) (by kernel_rfl) (by kernel_rfl) (fun _ _ _ h => h) (by rfl) (by intro y hy; go_simp) ?_
                  try simp only [Act.put, List.setIfInBounds_toArray, List.set_cons_zero, List.set_cons_succ]
                  refine anyH_take 17 55 (.bool false) S4.out rfl (by kernel_rfl) (by kernel_rfl) (by kernel_rfl) (fun _ _ _ h => h) (by rfl) (by intro y hy; go_simp) ?_
                  try simp only [Act.put, List.setIfInBounds_toArray, List.set_cons_zero, List.set_cons_succ]
                  refine wpAnyH_done (by kernel_rfl) ?_ _
                  have BE : Hid (Below w1.heap.size w1 p4) := B5.out.trans (K4.out.mono B5.out.size)
                  go_wp2
                  exact ⟨⟨k + 1, by omega, by go_num, BE⟩, by simp [intOf]; omega⟩
              · refine wpOp_step rfl (fun Kc hKc => ?_)
                go_simp
                change Kc _ (z.alloc (.cells ZSm.toArray 26))
                have LA : Hid (Below z.heap.size z (z.alloc (.cells ZSm.toArray 26))) := (Below.refl _ _).alloc (Nat.le_refl _) _
                have ZA : Hid ((z.alloc (.cells ZSm.toArray 26)).heap[z.heap.size]? = some (.cells ZSm.toArray 26 (0, 0))) := heap_alloc_new _ _
                have Bwa : Hid (Below w1.heap.size w1 (z.alloc (.cells ZSm.toArray 26))) := Bz.out.trans (LA.out.mono Bz.out.size)
                obtain ⟨wa, hwa⟩ : ∃ y, y = z.alloc (.cells ZSm.toArray 26) := ⟨_, rfl⟩
                rw [← hwa] at LA ZA Bwa ⊢
                clear hwa
                obtain ⟨gx, hgx⟩ : ∃ b, z.heap.size = b := ⟨_, rfl⟩
                rw [hgx] at ZA ⊢
                have GXS : Hid (w1.heap.size ≤ gx) := by show _ ≤ _; rw [← hgx]; exact Bz.out.size
                refine hKc _ _ ⟨HC.out _ Bwa.out, ?_⟩
                clear hKc Kc hgx
                try simp only [Act.put, List.setIfInBounds_toArray, List.set_cons_zero, List.set_cons_succ]
                refine anyH_one 0 (by kernel_rfl) ?_
                refine wpOp_step rfl (fun Kc hKc => ?_)
                go_simp
                refine (H3.out wa).mono ?_
                rintro e3 w3 ⟨g3, rfl, E3, _, L3⟩
                have Bw3 : Hid (Below w1.heap.size w1 w3) := Bwa.out.trans (L3.out.mono Bwa.out.size)
                dsimp only
                refine hKc _ _ ⟨HC.out _ Bw3.out, ?_⟩
                clear hKc Kc
                try simp only [Act.put, List.setIfInBounds_toArray, List.set_cons_zero, List.set_cons_succ]
                have ZB : Hid (w3.heap[gx]? = some (.cells ZSm.toArray 26 (0, 0))) := (L3.out.block _ (lt_of_block ZA.out)).trans ZA.out
                refine anyH_one 7 (by kernel_rfl) ?_
                refine wpOp_step rfl (fun Kc hKc => ?_)
                go_simp
                refine (HST.out w3 g3 E3.out).mono ?_
                rintro e4 w4 ⟨t, P, n, q, c, L, rfl, HTN, HSV, HQ, L4⟩
                have Bw4 : Hid (Below w1.heap.size w1 w4) := Bw3.out.trans (L4.out.mono Bw3.out.size)
                dsimp only
                refine hKc _ _ ⟨HC.out _ Bw4.out, ?_⟩
                clear hKc Kc
                try simp only [Act.put, List.setIfInBounds_toArray, List.set_cons_zero, List.set_cons_succ]
                have ZS : Hid (w4.heap[gx]? = some (.cells ZSm.toArray 26 (0, 0))) := (L4.out.block _ (lt_of_block ZB.out)).trans ZB.out
                have SVS := HSV
                have HQS : Hid (∀ ad, q = some ad → ad.block ≠ gx) := fun ad e => Nat.ne_of_gt (Nat.lt_of_lt_of_le (lt_of_block ZB.out) (HQ.out ad e).1)
                have BS := Bw4
                clear LA ZA L4 L3 E3 HSV HQ Bw4 Bw3 Bwa Bz ZB
                have HX1 : Hid ((SmA t P n (.slice q 3 c)).all (·.oneCell') = true) := smA_one _ _ _ _ _ _
                have HXS : Hid ((SmA t P n (.slice q 3 c)).size = 35) := HSZ.out _ _ _ _ SVS.out.len
                refine anyH_one 9 (by kernel_rfl) ?_
                refine op_store 9 26 (.tmp 5) (.tmp 37) rfl gx 0 26 ZSm (SmA t P n (.slice q 3 c)) rfl rfl ZS.out (sm_info HXS.out) (by rw [HXS.out]; exact Nat.le_refl _) HX1.out ?_
                intro w5 G5 ch5
                have G5' : Hid (w5.heap[gx]? = some (.cells (SmA t P n (.slice q 3 c)) 26 (0, 0))) := by
                  have h := G5.out
                  rw [splice_all (by rw [Array.length_toList, HXS.out]; rfl)] at h
                  exact h
                have SV5 : Hid (Sv w5 P q c L) := ⟨SVS.out.len, SVS.out.byt, SVS.out.es.only ch5.only HQS.out⟩
                have B5 : Hid (Below w1.heap.size w1 w5) := ch5.below BS.out GXS.out
                refine ⟨HC.out _ B5.out, ?_⟩
                refine wpAnyH_done (by kernel_rfl) ?_ _
                obtain ⟨X, hX⟩ : ∃ X, SmA t P n (.slice q 3 c) = X := ⟨_, rfl⟩
                have HP1 : Hid (∀ y, Below w5.heap.size w5 y → Calls Try.prog 3 #[.agg X] y (YesSay y)) := fun y hy => by rw [← hX]; exact HBP.out y t n P q 3 c L HTN.out.2.2 (SV5.out.old hy)
                have HP2 : Hid (∀ y, Below w5.heap.size w5 y → Calls Try.prog 5 #[.agg X] y (YesSay y)) := fun y hy => by rw [← hX]; exact HBB.out y t n P q 3 c L HTN.out.1 HTN.out.2.1 HTN.out.2.2 (SV5.out.old hy)
                have HP3' : Hid (∀ y g, Below w5.heap.size w5 y → EsRow y g Bt.T3 → Calls Try.prog 7 #[.agg X, .agg (SmA 3 Bt.Z (-1) (.slice (some ⟨g, 0, none⟩) 3 3)), .int .i64 nv, .int .u8 0] y (YesSay y)) := fun y g hy hg => by rw [← hX]; exact HPLN.out y t n P q 3 c L g nv HTN.out.1 HTN.out.2.1 HTN.out.2.2 (SV5.out.old hy) hg
                rw [hX] at G5' HXS HX1 ⊢
                clear hX G5 ch5 HX1 SVS HQS ZS BS GXS
                go_upto_region 12 with (fail)
                refine wp_region_any (by kernel_rfl) ?_
                change wpAny _ _ _ _ _ _ _ (World.drew _)
                have Gu : Hid ((w5.drew.heap[gx]? = some (.cells X 26 (0, 0)) ∧ (w5.drew.cell? ⟨w.heap.size, k, none⟩ = some (.int .i64 nv)))) := ⟨G5'.out, HC.out _ B5.out.drew⟩
                have Bu : Hid (Below w5.heap.size w5 w5.drew) := (Below.refl _ w5).drew
                obtain ⟨u, hu⟩ : ∃ y, y = w5.drew := ⟨_, rfl⟩
                rw [← hu] at Gu Bu ⊢
                clear hu
                refine wpAny_of_held (S := fun y => (y.heap[gx]? = some (.cells X 26 (0, 0)) ∧ (y.cell? ⟨w.heap.size, k, none⟩ = some (.int .i64 nv)))) _ _ _ _ ?_
                refine anyH_take 0 38 (.agg X) Gu.out rfl (by kernel_rfl) (by kernel_rfl) (by kernel_rfl) (fun _ _ _ h => h) (by rfl) (fun y hy => exec_arr _ _ gx 0 _ _ rfl (fun j u hu => by rw [cell_of_row y _ (0 + j) _ _ _ hy.1, Nat.zero_add]; simpa using hu) Try.underlying26 rfl (sm_info HXS.out)) ?_
                try simp only [Act.put, List.setIfInBounds_toArray, List.set_cons_zero, List.set_cons_succ]
                refine anyH_one 1 (by kernel_rfl) ?_
                refine wpOp_step rfl (fun Kc hKc => ?_)
                go_simp
                refine (HP1.out _ Bu.out).mono ?_
                rintro r1 p1 ⟨rfl, hb1⟩
                have K1 : Hid (Below w5.heap.size w5 p1) := Bu.out.trans (hb1.mono Bu.out.size)
                have S1 : Hid ((p1.heap[gx]? = some (.cells X 26 (0, 0)) ∧ (p1.cell? ⟨w.heap.size, k, none⟩ = some (.int .i64 nv)))) := ⟨(K1.out.block _ (lt_of_block G5'.out)).trans G5'.out, HC.out _ (B5.out.trans (K1.out.mono B5.out.size))⟩
                dsimp only
                refine hKc _ _ ⟨S1.out, ?_⟩
                clear hKc Kc
                try simp only [Act.put, List.setIfInBounds_toArray, List.set_cons_zero, List.set_cons_succ]
                refine anyH_take 2 40 (.bool false) S1.out rfl (by kernel_rfl) (by kernel_rfl) (by kernel_rfl) (fun _ _ _ h => h) (by rfl) (by intro y hy; go_simp) ?_
                try simp only [Act.put, List.setIfInBounds_toArray, List.set_cons_zero, List.set_cons_succ]
                refine anyH_take 3 41 (.bool false) S1.out rfl (by kernel_rfl) (by kernel_rfl) (by kernel_rfl) (fun _ _ _ h => h) (by rfl) (by intro y hy; go_simp) ?_
                try simp only [Act.put, List.setIfInBounds_toArray, List.set_cons_zero, List.set_cons_succ]
                refine anyH_take 4 42 (.agg X) S1.out rfl (by kernel_rfl) (by kernel_rfl) (by kernel_rfl) (fun _ _ _ h => h) (by rfl) (fun y hy => exec_arr _ _ gx 0 _ _ rfl (fun j u hu => by rw [cell_of_row y _ (0 + j) _ _ _ hy.1, Nat.zero_add]; simpa using hu) Try.underlying26 rfl (sm_info HXS.out)) ?_
                try simp only [Act.put, List.setIfInBounds_toArray, List.set_cons_zero, List.set_cons_succ]
                refine anyH_one 5 (by kernel_rfl) ?_
                refine wpOp_step rfl (fun Kc hKc => ?_)
                go_simp
                refine (HP2.out _ K1.out).mono ?_
                rintro r2 p2 ⟨rfl, hb2⟩
                have K2 : Hid (Below w5.heap.size w5 p2) := K1.out.trans (hb2.mono K1.out.size)
                have S2 : Hid ((p2.heap[gx]? = some (.cells X 26 (0, 0)) ∧ (p2.cell? ⟨w.heap.size, k, none⟩ = some (.int .i64 nv)))) := ⟨(K2.out.block _ (lt_of_block G5'.out)).trans G5'.out, HC.out _ (B5.out.trans (K2.out.mono B5.out.size))⟩
                dsimp only
                refine hKc _ _ ⟨S2.out, ?_⟩
                clear hKc Kc
                try simp only [Act.put, List.setIfInBounds_toArray, List.set_cons_zero, List.set_cons_succ]
                refine anyH_take 6 44 (.bool false) S2.out rfl (by kernel_rfl) (by kernel_rfl) (by kernel_rfl) (fun _ _ _ h => h) (by rfl) (by intro y hy; go_simp) ?_
                try simp only [Act.put, List.setIfInBounds_toArray, List.set_cons_zero, List.set_cons_succ]
                refine anyH_take 7 45 (.bool false) S2.out rfl (by kernel_rfl) (by kernel_rfl) (by kernel_rfl) (fun _ _ _ h => h) (by rfl) (by intro y hy; go_simp) ?_
                try simp only [Act.put, List.setIfInBounds_toArray, List.set_cons_zero, List.set_cons_succ]
                refine anyH_take 8 46 (.bool false) S2.out rfl (by kernel_rfl) (by kernel_rfl) (by kernel_rfl) (fun _ _ _ h => h) (by rfl) (by intro y hy; go_simp) ?_
                try simp only [Act.put, List.setIfInBounds_toArray, List.set_cons_zero, List.set_cons_succ]
                refine anyH_take 9 47 (.agg X) S2.out rfl (by kernel_rfl) (by kernel_rfl) (by kernel_rfl) (fun _ _ _ h => h) (by rfl) (fun y hy => exec_arr _ _ gx 0 _ _ rfl (fun j u hu => by rw [cell_of_row y _ (0 + j) _ _ _ hy.1, Nat.zero_add]; simpa using hu) Try.underlying26 rfl (sm_info HXS.out)) ?_
                try simp only [Act.put, List.setIfInBounds_toArray, List.set_cons_zero, List.set_cons_succ]
                refine anyH_take 11 49 (.slice (some ⟨w.heap.size, 0, none⟩) 20 20) S2.out rfl (by kernel_rfl) (by kernel_rfl) (by kernel_rfl) (fun _ _ _ h => h) (by rfl) (by intro y hy; go_simp) ?_
                try simp only [Act.put, List.setIfInBounds_toArray, List.set_cons_zero, List.set_cons_succ]
                refine anyH_take 12 50 (.int .i64 (k : Nat)) S2.out rfl (by kernel_rfl) (by kernel_rfl) (by kernel_rfl) (fun _ _ _ h => h) (by rfl) (by intro y hy; go_simp) ?_
                try simp only [Act.put, List.setIfInBounds_toArray, List.set_cons_zero, List.set_cons_succ]
                refine anyH_take 13 51 (.pointer (some ⟨w.heap.size, k, none⟩)) S2.out rfl (by kernel_rfl) (by kernel_rfl) (by kernel_rfl) (fun _ _ _ h => h) (by rfl) (by intro y hy; go_simp) ?_
                try simp only [Act.put, List.setIfInBounds_toArray, List.set_cons_zero, List.set_cons_succ]
                refine anyH_take 14 52 (.int .i64 nv) S2.out rfl (by kernel_rfl) (by kernel_rfl) (by kernel_rfl) (fun _ _ _ h => h) (by rfl) (by intro y hy; have c := hy.2; go_simp) ?_
                try simp only [Act.put, List.setIfInBounds_toArray, List.set_cons_zero, List.set_cons_succ]
                refine anyH_one 10 (by kernel_rfl) ?_
                refine wpOp_step rfl (fun Kc hKc => ?_)
                go_simp
                refine (H3.out _).mono ?_
                rintro r3 p3 ⟨h3, rfl, F3, _, hb3'⟩
                have hb3 := hb3'.out
                have K3 : Hid (Below w5.heap.size w5 p3) := K2.out.trans (hb3.mono K2.out.size)
                have S3 : Hid ((p3.heap[gx]? = some (.cells X 26 (0, 0)) ∧ (p3.cell? ⟨w.heap.size, k, none⟩ = some (.int .i64 nv)))) := ⟨(K3.out.block _ (lt_of_block G5'.out)).trans G5'.out, HC.out _ (B5.out.trans (K3.out.mono B5.out.size))⟩
                dsimp only
                refine hKc _ _ ⟨S3.out, ?_⟩
                clear hKc Kc
                try simp only [Act.put, List.setIfInBounds_toArray, List.set_cons_zero, List.set_cons_succ]
                refine anyH_one 15 (by kernel_rfl) ?_
                refine wpOp_step rfl (fun Kc hKc => ?_)
                go_simp
                refine (HP3'.out _ _ K3.out F3.out).mono ?_
                rintro r4 p4 ⟨rfl, hb4⟩
                have K4 : Hid (Below w5.heap.size w5 p4) := K3.out.trans (hb4.mono K3.out.size)
                have S4 : Hid ((p4.heap[gx]? = some (.cells X 26 (0, 0)) ∧ (p4.cell? ⟨w.heap.size, k, none⟩ = some (.int .i64 nv)))) := ⟨(K4.out.block _ (lt_of_block G5'.out)).trans G5'.out, HC.out _ (B5.out.trans (K4.out.mono B5.out.size))⟩
                dsimp only
                refine hKc _ _ ⟨S4.out, ?_⟩
                clear hKc Kc
                try simp only [Act.put, List.setIfInBounds_toArray, List.set_cons_zero, List.set_cons_succ]
                refine anyH_take 16 54 (.bool false) S4.out rfl (by kernel_rfl) (by kernel_rfl) (by kernel_rfl) (fun _ _ _ h => h) (by rfl) (by intro y hy; go_simp) ?_
                try simp only [Act.put, List.setIfInBounds_toArray, List.set_cons_zero, List.set_cons_succ]
                refine anyH_take 17 55 (.bool false) S4.out rfl (by kernel_rfl) (by kernel_rfl) (by kernel_rfl) (fun _ _ _ h => h) (by rfl) (by intro y hy; go_simp) ?_
                try simp only [Act.put, List.setIfInBounds_toArray, List.set_cons_zero, List.set_cons_succ]
                refine wpAnyH_done (by kernel_rfl) ?_ _
                have BE : Hid (Below w1.heap.size w1 p4) := B5.out.trans (K4.out.mono B5.out.size)
                go_wp2
                exact ⟨⟨k + 1, by omega, by go_num, BE⟩, by simp [intOf]; omega⟩
            · have hge : (20 : Int) ≤ (k : Int) := by omega
              go_wp2
              exact ⟨⟨a + 1, by omega, by go_num, HB⟩, by simp [intOf]; omega⟩
        · have hge : (3 : Int) ≤ (a : Int) := by omega
          go_wp2
          exact ⟨⟨f + 1, by omega, by go_num, HB⟩, by simp [intOf]; omega⟩
    · have hge : (6 : Int) ≤ (f : Int) := by omega
      clear hlf
      go_upto_region 15 with (first
        | (go_at_call 28; refine (H3.out _).mono ?_; rintro e2 w2 ⟨g3, rfl, E3, _, L3⟩)
        | (go_at_call 12; refine (HP3.out _ _ E3.out).mono ?_; rintro e3 w3 ⟨p1, c1, rfl, O3, B3, L4⟩))
      have BW2 : Hid (Below w1.heap.size w1 w2) := HB.out.trans (L3.out.mono HB.out.size)
      have BW3 : Hid (Below w1.heap.size w1 w3) := BW2.out.trans (L4.out.mono BW2.out.size)
      have HPC : Hid (∀ y, Below w3.heap.size w3 y → Bs y p1 c1 BB) := fun y hy => B3.out.old hy
      have hcap : (224 : Int) ≤ (c1 : Int) := by have := B3.out.cap; rw [HBL.out] at this; omega
      clear HB BW2 L3 L4 E3 O3 HC0 HSE hge
      go_upto_region 16 with (fail)
      go_loopw [8] (fun v8 wr => ∃ i : Nat, i ≤ 224 ∧ v8 = .int .i64 i ∧ Hid (Below w3.heap.size w3 wr)) (fun v8 _ => 224 - (intOf v8).toNat)
      case atStart => exact ⟨0, by omega, rfl, Lib.hid (Below.refl _ _)⟩
      case round =>
        obtain ⟨i, hi, rfl, HB⟩ := hrel
        by_cases hli : i < 224
        · have hi0 : (0 : Int) ≤ (i : Int) := by omega
          have hi2 : (i : Int) < 224 := by omega
          have hci : (i : Int) ≤ (c1 : Int) := by omega
          have HCP : Hid (∀ y, Below w3.heap.size w3 y → Calls Try.prog 26 #[.slice p1 224 c1] y fun e w' => ∃ v, e = .returned v ∧ w'.ownsRow y.heap.size 5 1 v 224 (U8s BB) ∧ Below y.heap.size y w') := fun y hy => copybytes_any BB p1 224 c1 HBL.out (by rw [HBL.out]; omega) y (HPC.out y hy).bat
          have HTK : Hid (∀ y, Below w3.heap.size w3 y → Calls Try.prog 4 #[.slice p1 i c1] y (YesSay y)) := fun y hy => HBG.out y p1 c1 i (BB.take i) (by rw [List.length_take, HBL.out]; omega) ((HPC.out y hy).take i)
          go_upto_region 19 with (go_at_call 26; refine (HCP.out _ HB.out).mono ?_; rintro e5 w5 ⟨v5, rfl, ho5, hb5⟩)
          obtain ⟨gc, cc, rfl, hgc, hcc, hfr⟩ := own_blk ho5 (by omega)
          have BW5 : Hid (Below w3.heap.size w3 w5) := HB.out.trans (hb5.mono HB.out.size)
          have c0 := u8_at ho5 i hli
          have f0 := hfr i
          obtain ⟨y0, hy0⟩ : ∃ z, BB.getD i 0 = z := ⟨_, rfl⟩
          rw [hy0] at c0
          clear hy0
          go_upto_region 20 with (fail)
          change Code.wp _ _ _ _ (w5.setCell ⟨gc, i, none⟩ (.int .u8 (bits .xor .u8 y0 3)))
          have O6 := Lib.hid (own_setc ho5 i (bits .xor .u8 y0 3))
          have BW6 : Hid (Below w3.heap.size w3 (w5.setCell ⟨gc, i, none⟩ (.int .u8 (bits .xor .u8 y0 3)))) := (Chg.setCell w5 ⟨gc, i, none⟩ _).only.below BW5.out (Nat.le_trans HB.out.size hgc) BW5.out.size
          obtain ⟨w6, hw6⟩ : ∃ y, y = w5.setCell ⟨gc, i, none⟩ (.int .u8 (bits .xor .u8 y0 3)) := ⟨_, rfl⟩
          rw [← hw6] at O6 BW6 ⊢
          obtain ⟨BC, hBC⟩ : ∃ z, BB.set i (bits .xor .u8 y0 3) = z := ⟨_, rfl⟩
          have HBC : Hid (BC.length = 224 ∧ Sha.Byt BC) := by rw [← hBC]; exact ⟨by rw [List.length_set]; exact HBL.out, byt_set HBY.out i (bits_bytF _ _)⟩
          rw [hBC] at O6
          have HBS : Hid (∀ y, Below w6.heap.size w6 y → Bs y (some ⟨gc, 0, none⟩) cc BC) := fun y hy => by
            obtain ⟨p', c', e', h', _⟩ := own_bs O6.out HBC.out.2
            rw [HBC.out.1] at e'
            cases e'
            exact h'.old hy
          clear hBC hw6 c0 f0 ho5 hfr hgc hcc hb5 BW5 O6 HCP
          have TK := Lib.hid True.intro
          go_wp2_with (first
            | (go_at_call 4; clear TK; refine (HBG.out _ _ _ _ _ HBC.out.1 (HBS.out _ (Below.refl _ _))).mono ?_; rintro e7 w7 ⟨rfl, hb7⟩)
            | (go_at_call 6; refine (HBF.out _ _ _ _ _ HBC.out.1 (HBS.out _ hb7)).mono ?_; rintro e8 w8 ⟨rfl, hb8⟩; have BW8 : Hid (Below w3.heap.size w3 w8) := BW6.out.trans ((hb7.trans (hb8.mono hb7.size)).mono BW6.out.size))
            | (go_at_call 4; refine (HTK.out _ BW8.out).mono ?_; rintro e9 w9 ⟨rfl, hb9⟩; have BW9 : Hid (Below w3.heap.size w3 w9) := BW8.out.trans (hb9.mono BW8.out.size)))
          exact ⟨⟨i + 1, by omega, by go_num, BW9⟩, by simp [intOf]; omega⟩
        · have hgi : (224 : Int) ≤ (i : Int) := by omega
          clear HPC hcap
          have BZ0 : Hid (Below w1.heap.size w1 wr) := BW3.out.trans (HB.out.mono BW3.out.size)
          clear HB BW3 hli
          go_upto_region 23 with (fail)
          clear hgi
          obtain ⟨w4, hw4⟩ : ∃ y, y = wr := ⟨_, rfl⟩
          rw [← hw4] at BZ0 ⊢
          clear hw4
          go_loopw [10, 12] (fun v10 _ wr => ∃ k : Nat, 15 ≤ k ∧ k ≤ 18 ∧ v10 = .int .i64 k ∧ Hid (Below w4.heap.size w4 wr)) (fun v10 _ _ => 18 - (intOf v10).toNat)
          case atStart => exact ⟨15, by omega, by omega, rfl, Lib.hid (Below.refl _ _)⟩
          case round =>
            obtain ⟨k, hk15, hk, rfl, HB⟩ := hrel
            by_cases hlk : k < 18
            · have hk0 : (0 : Int) ≤ (k : Int) := by omega
              have hk18 : (k : Int) < 18 := by omega
              go_upto_region 26 with (first
                | ((with_reducible refine build0_g _ _ ?_ build_sm0 ?_); (exact rfl))
                | ((with_reducible refine row_store _ _ _ _ _ _ _ ?_ ?_ (heap_alloc_new _ _) (sm_info (A := ZSm.toArray) rfl) ?_ zsm_one ?_); (exact rfl); (exact rfl); (exact rfl); intro w5 G5 ch5))
              have K5 : Hid (Below wr.heap.size wr w5) := ch5.below ((Below.refl _ wr).alloc (Nat.le_refl _) _) (Nat.le_refl _)
              have BW5 : Hid (Below w4.heap.size w4 w5) := HB.out.trans (K5.out.mono HB.out.size)
              have HGS : Hid (w4.heap.size ≤ wr.heap.size) := HB.out.size
              have S5 : Hid (SmAt w5 wr.heap.size 0 Bt.Z 0 (.slice none 0 0)) := by show _ = _; rw [← zsm_eq]; exact G5.out
              obtain ⟨gs, hgs⟩ : ∃ b, wr.heap.size = b := ⟨_, rfl⟩
              rw [hgs] at S5 HGS ⊢
              clear hgs ch5 G5 K5 HB
              go_upto_region 27 with (fail)
              go_loopw [12] (fun v12 wr => ∃ (i : Nat) (qv : Option Addr) (dv : Nat), i ≤ k ∧ v12 = .int .i64 i ∧ Hid (SmAt wr gs 0 Bt.Z 0 (.slice qv i dv)) ∧ Hid (EsO (gs + 1) wr (.slice qv i dv) (Bt.sqs i)) ∧ Hid (Below w4.heap.size w4 wr)) (fun v12 _ => k - (intOf v12).toNat)
              case atStart => exact ⟨0, none, 0, by omega, rfl, S5, by unfold Bt.sqs; exact Lib.hid (eso_nil _ _), BW5⟩
              case round =>
                clear S5 BW5
                obtain ⟨i, qv, dv, hi, rfl, HS, HO, HB⟩ := hrel
                by_cases hli : i < k
                · have hi0 : (0 : Int) ≤ (i : Int) := by omega
                  have hik : (i : Int) < (k : Int) := by omega
                  have c34 := HS.out.c34 Bt.z_len
                  have f34 := HS.out.fr 34
                  have HSQ : Hid ((Bt.sq i).ok) := Bt.sq_ok (by omega)
                  have HSO : Hid (∀ x ∈ Bt.sqs i, x.ok) := Bt.sqs_ok (by omega)
                  have HSL : Hid ((Bt.sqs i).length = i) := Bt.sqs_len i
                  have HSN : Hid (Bt.sqs i ++ [Bt.sq i] = Bt.sqs (i + 1)) := Bt.sqs_succ i
                  have hil : i ≤ 100000 := by omega
                  have HSZ5 : Hid (gs + 1 ≤ wr.heap.size) := lt_of_block HS.out
                  have HBU := Lib.hid (built_sq i)
                  go_upto_region 28 with (first
                    | ((with_reducible refine row_build3 _ _ _ _ _ _ _ _ ?_ ?_ ?_ HBU.out ?_); (exact rfl); (exact rfl); (exact rfl))
                    | ((with_reducible refine bs_one _ (Bt.sq i) HSQ.out ?_ ?_); (exact rfl))
                    | ((with_reducible refine app_en _ _ (gs + 1) _ (Bt.sqs i) (Bt.sq i) ?_ ?_ HO.out HSO.out HSQ.out i HSL.out hil HSZ5.out ?_); (exact rfl); (exact rfl); intro q1 d1 y1 O1 K1 gr1; have S1 : Hid (SmAt y1 gs 0 Bt.Z 0 (.slice qv i dv)) := (K1.out.block gs (Nat.lt_succ_self _)).trans HS.out; have d34 := S1.out.c34 Bt.z_len; have e34 := S1.out.fr 34))
                  change Code.wp _ _ _ _ (y1.setCell ⟨gs, 34, none⟩ (.slice q1 (i + 1) d1))
                  have ch := (Chg.setCell y1 ⟨gs, 34, none⟩ (.slice q1 (i + 1) d1)).only
                  have S2 : Hid (SmAt (y1.setCell ⟨gs, 34, none⟩ (.slice q1 (i + 1) d1)) gs 0 Bt.Z 0 (.slice q1 (i + 1) d1)) := S1.out.set Bt.z_len _
                  have O2 : Hid (EsO (gs + 1) (y1.setCell ⟨gs, 34, none⟩ (.slice q1 (i + 1) d1)) (.slice q1 (i + 1) d1) (Bt.sqs (i + 1))) := by
                    rw [← HSN.out]
                    exact Lib.hid (O1.out.only ch (Nat.lt_succ_self _))
                  have KB : Hid (Below w4.heap.size w4 y1) := HB.out.trans (K1.out.mono (Nat.le_succ_of_le HGS.out))
                  have B2 : Hid (Below w4.heap.size w4 (y1.setCell ⟨gs, 34, none⟩ (.slice q1 (i + 1) d1))) := ch.below KB.out HGS.out KB.out.size
                  obtain ⟨y2, hy2⟩ : ∃ y, y = y1.setCell ⟨gs, 34, none⟩ (.slice q1 (i + 1) d1) := ⟨_, rfl⟩
                  rw [← hy2] at S2 O2 B2 ⊢
                  clear hy2 ch c34 f34 d34 e34 S1 K1 O1 gr1 HS HO HB KB HSN HBU
                  go_wp2
                  exact ⟨⟨i + 1, q1, d1, by omega, by go_num, S2, O2, B2⟩, by simp [intOf]; omega⟩
                · obtain rfl : i = k := by omega
                  have HSV : Hid (∀ y, Below wr.heap.size wr y → Sv y Bt.Z qv dv (Bt.sqs i)) := fun y hy => by
                    obtain ⟨p', c', e', h'⟩ := HO.out.es (Bt.sqs_ok (by omega))
                    rw [Bt.sqs_len] at e'
                    cases e'
                    exact ⟨Bt.z_len, Bt.z_byt, h'.old hy⟩
                  have HQ1 : Hid (∀ y, Below wr.heap.size wr y → Calls Try.prog 3 #[.agg (SmA 0 Bt.Z 0 (.slice qv i dv))] y (YesSay y)) := fun y hy => HBP.out y 0 0 Bt.Z qv i dv (Bt.sqs i) (Bt.sqs_len i) (HSV.out y hy)
                  have HQ2 : Hid (∀ y, Below wr.heap.size wr y → Calls Try.prog 5 #[.agg (SmA 0 Bt.Z 0 (.slice qv i dv))] y (YesSay y)) := fun y hy => HBB.out y 0 0 Bt.Z qv i dv (Bt.sqs i) Bt.in0 Bt.in0 (Bt.sqs_len i) (HSV.out y hy)
                  obtain ⟨cr, hcr⟩ : ∃ z, Bt.ck 0 0 (Bt.sqs i) = z := ⟨_, rfl⟩
                  have HQ3 : Hid (∀ y, Below wr.heap.size wr y → Calls Try.prog 14 #[.agg (SmA 0 Bt.Z 0 (.slice qv i dv))] y (InSay cr y)) := fun y hy => by rw [← hcr]; exact check_any 0 0 Bt.Z qv i dv (Bt.sqs i) (Bt.sqs_len i) y (HSV.out y hy)
                  have HXS : Hid ((SmA 0 Bt.Z 0 (.slice qv i dv)).size = 35) := HSZ.out _ _ _ _ Bt.z_len
                  have HSA : Hid (∀ y, Below wr.heap.size wr y → y.heap[gs]? = some (.cells (SmA 0 Bt.Z 0 (.slice qv i dv)) 26 (0, 0))) := fun y hy => HS.out.old hy
                  rw [Bt.ck_sq i (by omega)] at hcr
                  generalize SmA 0 Bt.Z 0 (.slice qv i dv) = X at *
                  have X0 := HSA.out _ (Below.refl _ _)
                  clear HS HO HSV hli
                  by_cases h16 : i ≤ 16
                  · have hle : (i : Int) ≤ 16 := by omega
                    rw [if_pos h16] at hcr
                    subst hcr
                    have HX0 := Lib.hid X0
                    clear X0
                    go_wp2_with (first
                      | ((with_reducible refine row_load_g _ _ _ _ _ _ _ ?_ ?_ HX2.out Try.underlying26 ?_ (sm_info HXS.out) ?_); (exact rfl); (exact rfl); (exact rfl))
                      | ((with_reducible refine row_load_g _ _ _ _ _ _ _ ?_ ?_ HX1.out Try.underlying26 ?_ (sm_info HXS.out) ?_); (exact rfl); (exact rfl); (exact rfl))
                      | ((with_reducible refine row_load_g _ _ _ _ _ _ _ ?_ ?_ HX0.out Try.underlying26 ?_ (sm_info HXS.out) ?_); (exact rfl); (exact rfl); (exact rfl))
                      | (go_at_call 3; refine (HQ1.out _ (Below.refl _ _)).mono ?_; rintro r1 z1 ⟨rfl, hb1⟩; have HX1 := Lib.hid (HSA.out _ hb1); clear HX0)
                      | (go_at_call 5; refine (HQ2.out _ hb1).mono ?_; rintro r2 z2 ⟨rfl, hb2'⟩; have hb2 := hb1.trans (hb2'.mono hb1.size); have HX2 := Lib.hid (HSA.out _ hb2); clear HX1)
                      | (go_at_call 14; refine (HQ3.out _ hb2).mono ?_; rintro r3 z3 ⟨rfl, hb3'⟩; have hb3 := hb2.trans (hb3'.mono hb2.size); have BW9 : Hid (Below w4.heap.size w4 z3) := HB.out.trans (hb3.mono HB.out.size)))
                    exact ⟨⟨i + 1, by omega, by omega, by go_num, BW9⟩, by simp [intOf]; omega⟩
                  · have hle : ¬ (i : Int) ≤ 16 := by omega
                    rw [if_neg h16] at hcr
                    subst hcr
                    have HX0 := Lib.hid X0
                    clear X0
                    go_wp2_with (first
                      | ((with_reducible refine row_load_g _ _ _ _ _ _ _ ?_ ?_ HX2.out Try.underlying26 ?_ (sm_info HXS.out) ?_); (exact rfl); (exact rfl); (exact rfl))
                      | ((with_reducible refine row_load_g _ _ _ _ _ _ _ ?_ ?_ HX1.out Try.underlying26 ?_ (sm_info HXS.out) ?_); (exact rfl); (exact rfl); (exact rfl))
                      | ((with_reducible refine row_load_g _ _ _ _ _ _ _ ?_ ?_ HX0.out Try.underlying26 ?_ (sm_info HXS.out) ?_); (exact rfl); (exact rfl); (exact rfl))
                      | (go_at_call 3; refine (HQ1.out _ (Below.refl _ _)).mono ?_; rintro r1 z1 ⟨rfl, hb1⟩; have HX1 := Lib.hid (HSA.out _ hb1); clear HX0)
                      | (go_at_call 5; refine (HQ2.out _ hb1).mono ?_; rintro r2 z2 ⟨rfl, hb2'⟩; have hb2 := hb1.trans (hb2'.mono hb1.size); have HX2 := Lib.hid (HSA.out _ hb2); clear HX1)
                      | (go_at_call 14; refine (HQ3.out _ hb2).mono ?_; rintro r3 z3 ⟨rfl, hb3'⟩; have hb3 := hb2.trans (hb3'.mono hb2.size); have BW9 : Hid (Below w4.heap.size w4 z3) := HB.out.trans (hb3.mono HB.out.size)))
                    exact ⟨⟨i + 1, by omega, by omega, by go_num, BW9⟩, by simp [intOf]; omega⟩
            · have hgk : (18 : Int) ≤ (k : Int) := by omega
              have HPL : Hid (∀ y, Calls Try.prog 12 #[.agg (SmA 3 Bt.Z (-1) (.slice none 0 0))] y (PutOk (Bt.ofS 3 Bt.Z (-1) []) 56 y)) := fun y => put_ok 3 (-1) Bt.Z none 0 0 [] rfl y ⟨Bt.z_len, Bt.z_byt, es_none y⟩ Bt.ck_none
              obtain ⟨B1, hB1⟩ : ∃ x, Bt.ofS 3 Bt.Z (-1) [] = x := ⟨_, rfl⟩
              have HB1L : Hid (B1.length = 56) := by show _ = _; rw [← hB1, Bt.ofS_len _ _ Bt.z_len (fun x hx => by cases hx)]; rfl
              have HB1Y : Hid (Sha.Byt B1) := by rw [← hB1]; exact Bt.ofS_byt _ _ Bt.z_byt (fun x hx => by cases hx)
              rw [hB1] at HPL
              have HBU := Lib.hid (build_sm02 3 (-1))
              clear hB1 hlk
              go_upto_region 33 with (first
                | ((with_reducible refine row_bij _ _ _ _ _ _ _ _ ?_ ?_ HBU.out ?_); (exact rfl); (exact rfl))
                | (go_at_call 12; refine (HPL.out _).mono ?_; rintro e5 w5 ⟨p5, c5, rfl, O5, B5, L5⟩))
              have BW5 : Hid (Below w4.heap.size w4 w5) := HB.out.trans (L5.out.mono HB.out.size)
              have HG1 : Hid (∀ y, Below w5.heap.size w5 y → Calls Try.prog 4 #[.slice p5 56 c5] y (YesSay y)) := fun y hy => HBG.out y p5 c5 56 B1 HB1L.out (B5.out.old hy)
              have HG3 : Hid (∀ y, Calls Try.prog 4 #[.slice none 0 0] y (YesSay y)) := fun y => HBG.out y none 0 0 [] rfl (bs_none y)
              have HOW : Hid (∀ y, Below w5.heap.size w5 y → y.ownsRow wr.heap.size 5 1 (.slice p5 56 c5) 56 (U8s B1)) := fun y hy => own_keepX O5.out hy
              have HWS : Hid (wr.heap.size ≤ w5.heap.size) := L5.out.size
              have TK := Lib.hid True.intro
              clear HPL HBU O5 B5
              go_wp2_with (first
                | (go_at_call 4; clear TK; refine (HG1.out _ (Below.refl _ _)).mono ?_; rintro r1 z1 ⟨rfl, hb1⟩; have TL := Lib.hid True.intro; have OW1 := Lib.hid (HOW.out _ hb1); have HS1 : Hid (wr.heap.size ≤ z1.heap.size) := Nat.le_trans HWS.out hb1.size)
                | ((with_reducible refine app1_g _ _ wr.heap.size _ 56 B1 0 ?_ ?_ ?_ OW1.out (by omega) HS1.out ?_); (exact rfl); (exact rfl); (exact rfl); intro v2 z2 o2 k2; have HBS2 := own_bs o2.out (Sha.byt_append HB1Y.out (fun x hx => by rw [List.mem_singleton] at hx; omega)); obtain ⟨p7, c7, hv7, hbs7, hl7⟩ := HBS2; rw [hl7] at hv7; subst hv7; have HBS7 := Lib.hid hbs7; have HL7 := Lib.hid hl7; clear hbs7 hl7 o2)
                | (go_at_call 4; clear TL; refine (HBG.out _ _ _ _ _ HL7.out HBS7.out).mono ?_; rintro r3 z3 ⟨rfl, hb3⟩)
                | (go_at_call 4; refine (HG3.out _).mono ?_; rintro r4 z4 ⟨rfl, hb4⟩)
                | (go_at_call 10; refine (HWK.out _).mono ?_; rintro r5 z5 ⟨rfl, hb5⟩))
              go_ret
              exact ⟨rfl, by
                have h1 := BW5.out.trans (hb1.mono BW5.out.size)
                have h2 := h1.trans (k2.out.mono HB.out.size)
                have h3 := h2.trans (hb3.mono h2.size)
                have h4 := h3.trans (hb4.mono h3.size)
                have h5 := h4.trans (hb5.mono h4.size)
                have h6 := BZ0.out.trans (h5.mono BZ0.out.size)
                exact B0.out.trans (h6.mono B0.out.size)⟩
end Go.Proofs.Ytkgefogkdmbciaa

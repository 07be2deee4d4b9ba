/-
  The law NamesApart walked.
-/
import Derived.Test.YtdmnlooghamngaaNaA1
namespace Go.Proofs.Ytdmnlooghamngaa
open Go.RowKit

section
variable {P : Program} {ops : Array Oper} {rest : List Oper} {a : Act} {w : World} {Q : Exit → Act → World → Prop} {D : Option Tmp} {T : TypeId} {ps : String} {af : Array Edge}
theorem fill_list : ∀ (l : List Value) (k : Nat) (Z : Array Value), k + l.length ≤ Z.size →
    (l.zipIdx k).foldl (fun (cs : Array Value) (x : Value × Nat) => cs.setIfInBounds (0 + x.2) x.1) Z = (Z.toList.take k ++ l ++ Z.toList.drop (k + l.length)).toArray
  | [], k, Z, _ => by simp
  | v :: l, k, Z, h => by
    simp only [List.length_cons] at h
    rw [List.zipIdx_cons, List.foldl_cons]
    rw [fill_list l (k + 1) _ (by simp; omega)]
    apply Array.ext'
    have hk : k < Z.toList.length := by simp; omega
    simp only [Array.toList_setIfInBounds, Nat.zero_add, List.length_cons]
    have e1 : (Z.toList.set k v).take (k + 1) = Z.toList.take k ++ [v] := by
      rw [List.take_add_one, List.getElem?_set_self hk, List.take_set_of_le (Nat.le_refl k)]
      rfl
    have e2 : (Z.toList.set k v).drop (k + 1 + l.length) = Z.toList.drop (k + (l.length + 1)) := by
      rw [List.drop_set_of_lt (by omega)]
      congr 1
      omega
    rw [e1, e2]
    simp
theorem fill_one (place : Nat → Option (Nat × Nat)) (A Z : Array Value) (n : Nat) (hp : place 0 = some (0, n)) (hA : A.size = n) (hZ : n ≤ Z.size) : Instr.fill place Z [(0, .agg A)] = some (A.toList ++ Z.toList.drop n).toArray := by
  have h := fill_list A.toList 0 Z (by simp; omega)
  unfold Instr.fill
  rw [hp]
  dsimp only
  split
  · rename_i hh
    simp [Value.cells, hA] at hh
    omega
  unfold Instr.fill
  congr 1
  show Array.foldl (fun (cs : Array Value) (x : Value × Nat) => cs.setIfInBounds (0 + x.2) x.1) Z A.zipIdx = _
  rw [← Array.foldl_toList, Array.toList_zipIdx]
  rw [h]
  simp [hA]

theorem row_buildSlice (t e : TypeId) (x : Operand) (A : Array Value) (z : Value) (n : Nat) (hx : a.eval x = .agg A) (hu : P.underlying t = some (.slice e)) (hi : (P.info? e).map (fun i => (i.zero, i.size)) = some (some z, n)) (hA : A.size = n) (h0 : 0 < n) (hn : n ≤ 1000)
    (h : wpList P ops Q rest (a.put D (.slice (some ⟨w.heap.size, 0, none⟩) 1 1)) (w.alloc (.cells A e))) :
    wpList P ops Q ({ dst := D, op := .buildSlice t 1 #[(0, x)], type := T, pos := ps, after := af, guard := none } :: rest) a w :=
  wpList_plain rfl fun K hK => by
    have hzr := (zero_of_info hi).1
    have hrun : (Instr.buildSlice t 1 #[(0, .agg A)]).run P w = .ok (.slice (some ⟨w.heap.size, 0, none⟩) 1 1) (w.alloc (.cells A e)) := by
      cases hq : P.info? e with
      | none => rw [hq] at hi; cases hi
      | some i =>
        have hs : i.size = n := by rw [hq] at hi; simp at hi; exact hi.2
        have hf := fill_one (fun i => some (i * n, n)) A ((Array.range (1 * n)).map (z.cells[· % z.cells.size]!)) n (by simp) hA (by simp)
        rw [List.drop_of_length_le (by simp), List.append_nil, Array.toArray_toList] at hf
        have h1 : ¬ (1 * n > 2 ^ 24) := by omega
        have h2 : ¬ (1 * n = 0) := by omega
        have hzz : (zeroValue e).run P w = .ok z w := hzr w
        subst hs
        rw [Nat.one_mul] at hf h1 h2
        simp [Instr.buildSlice, run_underlying hu, sizeOf, typeInfo, hq, h1, h2, hzz, hf, newRow]
    unfold Oper.wp execOp
    simp only [hx, List.map_toArray, List.map_cons, List.map_nil, hrun, Sem.run_bind, Sem.run_pure, Result.andThen_ok]
    exact hK _ _ h
end
theorem info_sum : (Try.prog.info? 42).map (fun i => (i.zero, i.size)) = some (some (.agg (List.replicate 32 (Value.int .u8 0)).toArray), 32) := by kernel_rfl
theorem info_sum3 : (Try.prog.info? 42).map (fun i => (i.zero, i.size, i.bytes)) = some (some (.agg (List.replicate 32 (Value.int .u8 0)).toArray), 32, 32) := by kernel_rfl
theorem own_onlyX {w y : World} {B e s n k : Nat} {v : Value} {xs : List Value} (h : w.ownsRow B e s v n xs) (ho : Only k w y) (hk : k < B) : y.ownsRow B e s v n xs := by
  refine ⟨h.1, ?_⟩
  rcases h.2 with h1 | ⟨g, cap, cur, h1, h2, h3, h4⟩
  · exact Or.inl h1
  · exact Or.inr ⟨g, cap, cur, h1, h2, (ho.block g (lt_of_block h3) (by omega)).trans h3, h4⟩
theorem sums_range {w : World} {B g n cap : Nat} {L : List (List Int)} (h : w.ownsRow B 42 32 (.slice (some ⟨g, 0, none⟩) n cap) n ((Nm.fl32 L n).map (Value.int .u8))) {j : Nat} (hj : j < n) : w.rangeAt g (j * 32) ((Nm.sq L j).map (Value.int .u8)) := by
  rcases h.2 with ⟨h1, _⟩ | ⟨g', cap', cur, h1, _, h3, _, _, _, h7⟩
  · cases h1
  · cases h1
    intro i v hv
    have hi : i < 32 := by
      have := (List.getElem?_eq_some_iff.1 hv).1
      rw [List.length_map, Nm.sq_len] at this
      exact this
    have h8 : ((Nm.fl32 L n).map (Value.int .u8))[j * 32 + i]? = some v := by
      rw [List.getElem?_map, Nm.fl32_at L hi n hj, ← List.getElem?_map]
      exact hv
    rw [← h7, List.getElem?_take_of_lt (by omega)] at h8
    rw [cell_of_row w g (j * 32 + i) _ _ _ h3]
    simpa using h8

set_option maxHeartbeats 8000000 in
set_option maxRecDepth 100000 in
theorem apart_small (L : List (List Int)) (tp : Option Addr) (n cap : Nat) (hn : L.length = n) (hsm : n ≤ 100 ∧ ∀ l ∈ L, l.length ≤ 4096) (w : World) (hr : BRows w tp L)
    (hg : Calls Try.prog 28 #[.slice tp n cap, .int .i64 100, .int .i64 4096] w (EqSay false w)) :
    Calls Try.prog 6 #[.slice tp n cap] w (YesSay w) := by
  have HN := Lib.hid hn; clear hn
  have HG := Lib.hid hg; clear hg
  have hn100 : n ≤ 100 := hsm.1
  have HSM := Lib.hid hsm.2; clear hsm
  have HROW : Hid (∀ (r : Nat) (l : List Int), L[r]? = some l → ∃ tb tf p c, tp = some ⟨tb, tf, none⟩ ∧ ∀ y, Below w.heap.size w y → y.cell? ⟨tb, tf + r, none⟩ = some (.slice p l.length c) ∧ Bs y p c l) := fun r l hl => by
    have hlt := (List.getElem?_eq_some_iff.1 hl).1
    obtain ⟨tb, tf, h1, h2, h3⟩ := hr (by omega)
    obtain ⟨p, c, h4, h5⟩ := h3 r hlt
    rw [Nm.getD_of hl] at h4 h5
    exact ⟨tb, tf, p, c, h1, fun y hy => ⟨(hy.cell h2).trans h4, h5.old hy⟩⟩
  clear hr
  obtain ⟨i0, hi, hz0, hz1, hz2⟩ := info_parts info_sum3
  go_enter Try.func6, Try.ntmps6
  go_wp2_with (first
    | (go_at_call 28; refine HG.out.mono ?_; rintro e1 w1 ⟨rfl, hb1⟩; have B1 := Lib.hid hb1; clear hb1)
    | (go_at_call 11; refine (new_any _).mono ?_; rintro e2 w2 ⟨g, b, c, rfl, LX, S2, hb2⟩; have B2 : Hid (Below w.heap.size w w2) := B1.out.trans (hb2.mono B1.out.size); have NE : Hid (w.heap.size ≤ b ∧ w.heap.size ≤ c ∧ g < w2.heap.size ∧ b < w2.heap.size ∧ c < w2.heap.size) := (by have := LX.out; have := B1.out.size; have := S2.out.lt; exact ⟨by omega, by omega, by omega, by omega, by omega⟩); clear hb2 LX B1))
  obtain ⟨N2, HN2⟩ : ∃ N2, Hid (N2 = w2.heap.size) := ⟨_, rfl⟩
  have HW2 : Hid (N2 ≤ w2.heap.size ∧ w.heap.size ≤ N2) := ⟨by rw [HN2.out]; exact Nat.le_refl _, by rw [HN2.out]; exact B2.out.size⟩
  rw [← HN2.out] at NE
  clear HN2
  go_loopw [4, 5] (fun v4 v5 wr => ∃ (k : Nat) (V : Value), k ≤ n ∧ v5 = .int .i64 k ∧ V = v4 ∧ Hid (StAt wr g b c (Nm.tst L k)) ∧ Hid (wr.ownsRow N2 42 32 V k ((Nm.fl32 L k).map (Value.int .u8))) ∧ Hid (Below w.heap.size w wr ∧ N2 ≤ wr.heap.size)) (fun _ v5 _ => n - (intOf v5).toNat)
  case atStart => exact ⟨0, _, Nat.zero_le _, rfl, rfl, by rw [Nm.tst_zero]; exact S2.out, by unfold Nm.fl32; exact World.ownsRow_nil _ _ _ _, B2.out, HW2.out.1⟩
  case round =>
    clear S2 B2
    obtain ⟨k, V, hk, rfl, rfl, HS, HO, HB⟩ := hrel
    by_cases hlt : k < n
    · obtain ⟨l, hl⟩ : ∃ l, L[k]? = some l := ⟨L[k]'(by rw [HN.out]; exact hlt), List.getElem?_eq_getElem _⟩
      obtain ⟨tb, tf, p, cp, rfl, hcell⟩ := HROW.out k l hl
      have HC := Lib.hid hcell; clear hcell
      have c0 := (HC.out _ HB.out.1).1
      have HLL := Lib.hid (HSM.out l (List.mem_of_getElem? hl))
      have E1 := Lib.hid (Nm.sm_tst hl)
      have E2 := Lib.hid (Nm.smd_tst hl)
      have HTS := Lib.hid (Nm.tst_ts L k)
      have HF : Hid ((Nm.fl32 L k).map (Value.int .u8) ++ (Nm.sq L k).map (Value.int .u8) = (Nm.fl32 L (k + 1)).map (Value.int .u8)) := by show _ = _; rw [← List.map_append]; rw [← Nm.fl32_succ]
      have HQ := Lib.hid (Nm.sq_len L k)
      clear hl
      generalize Nm.sq L k = Q at *
      obtain ⟨A, HA1, HA2⟩ : ∃ A : Array Value, Hid (A = (Q.map (Value.int .u8)).toArray) ∧ Hid (A.size = 32) := ⟨_, rfl, by show _ = _; simp [HQ.out]⟩
      have HAV : Hid (A32 Q = .agg A) := by show _ = _; rw [HA1.out]; rfl
      have hk0 : 0 ≤ (k : Int) := by omega
      have hk1 : (k : Int) < (n : Int) := by omega
      go_wp2_with (first
        | (go_at_call 22; refine (sum_any (Nm.tst L k) l g b c p _ cp rfl _ HS.out (HC.out _ HB.out.1).2 (by have := HTS.out; omega)).mono ?_; rintro e1 w1 ⟨rfl, S1, o1⟩; rw [E1.out, HAV.out]; rw [E2.out] at S1; have B1 : Hid (Below w.heap.size w w1) := o1.below HB.out.1 NE.out.2.1 HB.out.1.size; have O1 := Lib.hid (own_onlyX HO.out o1 NE.out.2.2.2.2); have Z1 : Hid (N2 ≤ w1.heap.size) := Nat.le_trans HB.out.2 o1.size; have O2 := Lib.hid (own_keepX O1.out ((Below.refl _ w1).alloc (Nat.le_refl _) (.cells A 42))); clear o1)
        | ((with_reducible refine row_buildSlice _ _ _ A (.agg (List.replicate 32 (Value.int .u8 0)).toArray) 32 ?_ Try.underlying52 info_sum HA2.out (by omega) (by omega) ?_); (exact rfl))
        | (at_builtin; refine wpList_append_own _ rfl _ _ 52 rfl N2 42 i0 (.agg (List.replicate 32 (Value.int .u8 0)).toArray) 32 32 Try.underlying52 hi hz0 hz1 hz2 (by simp [Value.cells]) (by decide) _ _ _ rfl O2.out ⟨w1.heap.size, 0, none⟩ 1 1 (Q.map (Value.int .u8)) rfl (by rw [List.length_map, HQ.out]) (fun j u hj => by rw [Addr.add_mid, Nat.zero_add, cell_of_row _ w1.heap.size j _ _ _ (heap_alloc_new w1 (.cells A 42)), HA1.out]; simpa using hj) (bytes_one _) (by unfold maxLen; omega) (by omega) (by have := Z1.out; simp; omega) ?_; intro v' w5 ho5 hg5 _; have HO5 := Lib.hid ho5; have HG5 := Lib.hid hg5; clear ho5 hg5)
        | go_in)
      have B2 : Hid (Below w.heap.size w (w1.alloc (.cells A 42))) := B1.out.alloc B1.out.size _
      refine ⟨⟨k + 1, _, by omega, by go_num, rfl, ?_, ?_, ?_, ?_⟩, by simp [intOf]; omega⟩
      · have hs2 := S1.out.old ((Below.refl _ w1).alloc (Nat.le_refl _) (.cells A 42))
        have hne : ∀ q, q < N2 → some q ≠ V.ownBlock := fun q hq e => by have := (HO.out.lt q e.symm).1; omega
        exact hs2.keep (HG5.out.block _ hs2.lt.1 (hne _ NE.out.2.2.1)) (HG5.out.block _ hs2.lt.2.1 (hne _ NE.out.2.2.2.1)) (HG5.out.block _ hs2.lt.2.2 (hne _ NE.out.2.2.2.2))
      · show World.ownsRow _ _ _ _ _ _ _
        have h := HO5.out
        rw [HF.out] at h
        exact h
      · exact B2.out.grown HG5.out (by have := B1.out.size; simp; omega) (fun q hq => by have := (HO.out.lt q hq).1; have := HW2.out.2; omega)
      · have h1 := HG5.out.size
        have h2 := Z1.out
        simp at h1
        omega
    · obtain rfl : k = n := by omega
      clear hlt
      have HV : Hid (0 < k → ∃ gs cs, V = .slice (some ⟨gs, 0, none⟩) k cs ∧ N2 ≤ gs) := fun h0 => by
        rcases HO.out.2 with ⟨_, h1⟩ | ⟨gs, cs, _, h1, h2, _⟩
        · omega
        · exact ⟨gs, cs, h1, h2⟩
      generalize hwL : wr = wL at *
      clear hwL
      go_wp2
      go_loopw [6] (fun v6 wr => ∃ i : Nat, i ≤ k ∧ v6 = .int .i64 i ∧ Hid (StAt wr g b c (Nm.tst L k)) ∧ Hid (wr.ownsRow N2 42 32 V k ((Nm.fl32 L k).map (Value.int .u8))) ∧ Hid (Below w.heap.size w wr ∧ N2 ≤ wr.heap.size)) (fun v6 _ => k - (intOf v6).toNat)
      case atStart => exact ⟨0, Nat.zero_le _, rfl, HS.out, HO.out, HB.out⟩
      case round =>
        clear HS HO HB
        obtain ⟨i, hi', rfl, HS, HO, HB⟩ := hrel
        by_cases hlt : i < k
        · obtain ⟨l, hl⟩ : ∃ l, L[i]? = some l := ⟨L[i]'(by rw [HN.out]; exact hlt), List.getElem?_eq_getElem _⟩
          obtain ⟨gs, cs, rfl, hgs⟩ := HV.out (by omega)
          obtain ⟨tb, tf, p, cp, rfl, hcell⟩ := HROW.out i l hl
          have HC := Lib.hid hcell; clear hcell
          have HGS := Lib.hid hgs; clear hgs
          have HLL := Lib.hid (HSM.out l (List.mem_of_getElem? hl))
          have HL := Lib.hid hl; clear hl
          have i0' : 0 ≤ (i : Int) := by omega
          have i1' : (i : Int) < (k : Int) := by omega
          obtain ⟨Ai, HAi1, HAi2⟩ : ∃ A : Array Value, Hid (A = ((Nm.sq L i).map (Value.int .u8)).toArray) ∧ Hid (A.size = 32) := ⟨_, rfl, by show _ = _; simp [Nm.sq_len]⟩
          have HRi : Hid (∀ y : World, y.ownsRow N2 42 32 (.slice (some ⟨gs, 0, none⟩) k cs) k ((Nm.fl32 L k).map (Value.int .u8)) → y.rangeAt gs (i * 32) Ai.toList) := fun y hy => by rw [HAi1.out]; exact sums_range hy hlt
          generalize hwL : wr = wM at *
          clear hwL
          go_wp2
          go_loopw [7] (fun v7 wr => ∃ j : Nat, j ≤ k ∧ v7 = .int .i64 j ∧ Hid (StAt wr g b c (Nm.tst L k)) ∧ Hid (wr.ownsRow N2 42 32 (.slice (some ⟨gs, 0, none⟩) k cs) k ((Nm.fl32 L k).map (Value.int .u8))) ∧ Hid (Below w.heap.size w wr ∧ N2 ≤ wr.heap.size)) (fun v7 _ => k - (intOf v7).toNat)
          case atStart => exact ⟨0, Nat.zero_le _, rfl, HS.out, HO.out, HB.out⟩
          case round =>
            clear HS HO HB
            obtain ⟨j, hj', rfl, HS, HO, HB⟩ := hrel
            by_cases hlj : j < k
            · obtain ⟨lj, hlj2⟩ : ∃ l, L[j]? = some l := ⟨L[j]'(by rw [HN.out]; exact hlj), List.getElem?_eq_getElem _⟩
              obtain ⟨tb', tf', pj, cj, ej, hcj⟩ := HROW.out j lj hlj2
              obtain ⟨rfl, rfl⟩ : tb = tb' ∧ tf = tf' := by cases ej; exact ⟨rfl, rfl⟩
              clear ej
              have HCj := Lib.hid hcj; clear hcj
              have j0' : 0 ≤ (j : Int) := by omega
              have j1' : (j : Int) < (k : Int) := by omega
              obtain ⟨Aj, HAj1, HAj2⟩ : ∃ A : Array Value, Hid (A = ((Nm.sq L j).map (Value.int .u8)).toArray) ∧ Hid (A.size = 32) := ⟨_, rfl, by show _ = _; simp [Nm.sq_len]⟩
              have HRj : Hid (∀ y : World, y.ownsRow N2 42 32 (.slice (some ⟨gs, 0, none⟩) k cs) k ((Nm.fl32 L k).map (Value.int .u8)) → y.rangeAt gs (j * 32) Aj.toList) := fun y hy => by rw [HAj1.out]; exact sums_range hy hlj
              have HLJ := Lib.hid (HSM.out lj (List.mem_of_getElem? hlj2))
              have HQQ : Hid (decide (Nm.sq L i = Nm.sq L j) = decide (l = lj)) := by
                have h1 := Nm.sq_iff (by rw [HN.out]; omega) HL.out hlj2
                show _ = _
                by_cases q : l = lj
                · rw [decide_eq_true q, decide_eq_true (h1.2 q)]
                · rw [decide_eq_false q, decide_eq_false (fun z => q (h1.1 z))]
              clear hlj2
              have hng := Try.noGuard
              have HEQ : ∀ x, (Op.equalIn 10000 42 (.agg Ai) (.agg Aj)).run Try.prog x = .ok (decide (l = lj)) x := fun x => by rw [HAi1.out, HAj1.out, ← HQQ.out]; exact sums_eq _ _ (Nm.sq_len _ _) (Nm.sq_len _ _) x
              have HSB : Hid (∀ y, Below w.heap.size w y → Calls Try.prog 18 #[.slice p l.length cp, .slice pj lj.length cj] y (EqSay (decide (l = lj)) y)) := fun y hy => same_all l lj p pj _ _ cp cj rfl rfl y (HC.out y hy).2.bat (HCj.out y hy).2.bat (by have := HLL.out; omega)
              generalize decide (l = lj) = q at *
              clear HQQ
              go_upto_region 15 with (fail)
              refine wp_region_any (by kernel_rfl) ?_
              change wpAny _ _ _ _ _ _ _ (World.drew _)
              have HB1 : Hid (Below w.heap.size w wr.drew ∧ N2 ≤ wr.drew.heap.size) := ⟨HB.out.1.drew, HB.out.2⟩
              have HS1 : Hid (StAt wr.drew g b c (Nm.tst L k)) := HS.out.drew
              have HO1 : Hid (wr.drew.ownsRow N2 42 32 (.slice (some ⟨gs, 0, none⟩) k cs) k ((Nm.fl32 L k).map (Value.int .u8))) := HO.out
              clear HB HS HO
              generalize wr.drew = z at *
              refine wpAny_of_held (S := fun y => y.rangeAt gs (i * 32) Ai.toList ∧ y.rangeAt gs (j * 32) Aj.toList ∧ y.cell? ⟨tb, tf + i, none⟩ = some (.slice p l.length cp) ∧ y.cell? ⟨tb, tf + j, none⟩ = some (.slice pj lj.length cj)) _ _ _ _ ?_
              have SD : Hid (z.rangeAt gs (i * 32) Ai.toList ∧ z.rangeAt gs (j * 32) Aj.toList ∧ z.cell? ⟨tb, tf + i, none⟩ = some (.slice p l.length cp) ∧ z.cell? ⟨tb, tf + j, none⟩ = some (.slice pj lj.length cj)) := ⟨HRi.out _ HO1.out, HRj.out _ HO1.out, (HC.out _ HB1.out.1).1, (HCj.out _ HB1.out.1).1⟩
              refine anyH_take 0 39 (.slice (some ⟨gs, 0, none⟩) k cs) SD.out rfl (by kernel_rfl) (by kernel_rfl) (by kernel_rfl) (fun _ _ _ h => h) (by rfl) (by intro x hx; obtain ⟨_, _, y2, y3⟩ := hx; go_simp; try (intro h; omega)) ?_
              try simp only [Act.put, List.setIfInBounds_toArray, List.set_cons_zero, List.set_cons_succ]
              refine anyH_take 1 40 (.int .i64 (i : Int)) SD.out rfl (by kernel_rfl) (by kernel_rfl) (by kernel_rfl) (fun _ _ _ h => h) (by rfl) (by intro x hx; obtain ⟨_, _, y2, y3⟩ := hx; go_simp; try (intro h; omega)) ?_
              try simp only [Act.put, List.setIfInBounds_toArray, List.set_cons_zero, List.set_cons_succ]
              refine anyH_take 2 41 (.pointer (some ⟨gs, i * 32, none⟩)) SD.out rfl (by kernel_rfl) (by kernel_rfl) (by kernel_rfl) (fun _ _ _ h => h) (by rfl) (by intro x hx; obtain ⟨_, _, y2, y3⟩ := hx; go_simp; try (intro h; omega)) ?_
              try simp only [Act.put, List.setIfInBounds_toArray, List.set_cons_zero, List.set_cons_succ]
              refine anyH_take 3 42 (.agg Ai) SD.out rfl (by kernel_rfl) (by kernel_rfl) (by kernel_rfl) (fun _ _ _ h => h) (by rfl) (fun x hx => exec_arr 42 (.tmp 41) gs (i * 32) Ai _ rfl hx.1 Try.underlying42 rfl (row_size Try.sizeSum HAi2)) ?_
              try simp only [Act.put, List.setIfInBounds_toArray, List.set_cons_zero, List.set_cons_succ]
              refine anyH_take 4 43 (.slice (some ⟨gs, 0, none⟩) k cs) SD.out rfl (by kernel_rfl) (by kernel_rfl) (by kernel_rfl) (fun _ _ _ h => h) (by rfl) (by intro x hx; obtain ⟨_, _, y2, y3⟩ := hx; go_simp; try (intro h; omega)) ?_
              try simp only [Act.put, List.setIfInBounds_toArray, List.set_cons_zero, List.set_cons_succ]
              refine anyH_take 5 44 (.int .i64 (j : Int)) SD.out rfl (by kernel_rfl) (by kernel_rfl) (by kernel_rfl) (fun _ _ _ h => h) (by rfl) (by intro x hx; obtain ⟨_, _, y2, y3⟩ := hx; go_simp; try (intro h; omega)) ?_
              try simp only [Act.put, List.setIfInBounds_toArray, List.set_cons_zero, List.set_cons_succ]
              refine anyH_take 6 45 (.pointer (some ⟨gs, j * 32, none⟩)) SD.out rfl (by kernel_rfl) (by kernel_rfl) (by kernel_rfl) (fun _ _ _ h => h) (by rfl) (by intro x hx; obtain ⟨_, _, y2, y3⟩ := hx; go_simp; try (intro h; omega)) ?_
              try simp only [Act.put, List.setIfInBounds_toArray, List.set_cons_zero, List.set_cons_succ]
              refine anyH_take 7 46 (.agg Aj) SD.out rfl (by kernel_rfl) (by kernel_rfl) (by kernel_rfl) (fun _ _ _ h => h) (by rfl) (fun x hx => exec_arr 42 (.tmp 45) gs (j * 32) Aj _ rfl hx.2.1 Try.underlying42 rfl (row_size Try.sizeSum HAj2)) ?_
              try simp only [Act.put, List.setIfInBounds_toArray, List.set_cons_zero, List.set_cons_succ]
              refine anyH_take 8 47 (.bool q) SD.out rfl (by kernel_rfl) (by kernel_rfl) (by kernel_rfl) (fun _ _ _ h => h) (by rfl) (by intro x hx; obtain ⟨_, _, y2, y3⟩ := hx; go_simp; try (intro h; omega)) ?_
              try simp only [Act.put, List.setIfInBounds_toArray, List.set_cons_zero, List.set_cons_succ]
              refine anyH_take 9 48 (.slice (some ⟨tb, tf, none⟩) k cap) SD.out rfl (by kernel_rfl) (by kernel_rfl) (by kernel_rfl) (fun _ _ _ h => h) (by rfl) (by intro x hx; obtain ⟨_, _, y2, y3⟩ := hx; go_simp; try (intro h; omega)) ?_
              try simp only [Act.put, List.setIfInBounds_toArray, List.set_cons_zero, List.set_cons_succ]
              refine anyH_take 10 49 (.int .i64 (i : Int)) SD.out rfl (by kernel_rfl) (by kernel_rfl) (by kernel_rfl) (fun _ _ _ h => h) (by rfl) (by intro x hx; obtain ⟨_, _, y2, y3⟩ := hx; go_simp; try (intro h; omega)) ?_
              try simp only [Act.put, List.setIfInBounds_toArray, List.set_cons_zero, List.set_cons_succ]
              refine anyH_take 11 50 (.pointer (some ⟨tb, tf + i, none⟩)) SD.out rfl (by kernel_rfl) (by kernel_rfl) (by kernel_rfl) (fun _ _ _ h => h) (by rfl) (by intro x hx; obtain ⟨_, _, y2, y3⟩ := hx; go_simp; try (intro h; omega)) ?_
              try simp only [Act.put, List.setIfInBounds_toArray, List.set_cons_zero, List.set_cons_succ]
              refine anyH_take 12 51 (.slice p l.length cp) SD.out rfl (by kernel_rfl) (by kernel_rfl) (by kernel_rfl) (fun _ _ _ h => h) (by rfl) (by intro x hx; obtain ⟨_, _, y2, y3⟩ := hx; go_simp; try (intro h; omega)) ?_
              try simp only [Act.put, List.setIfInBounds_toArray, List.set_cons_zero, List.set_cons_succ]
              refine anyH_take 13 52 (.slice (some ⟨tb, tf, none⟩) k cap) SD.out rfl (by kernel_rfl) (by kernel_rfl) (by kernel_rfl) (fun _ _ _ h => h) (by rfl) (by intro x hx; obtain ⟨_, _, y2, y3⟩ := hx; go_simp; try (intro h; omega)) ?_
              try simp only [Act.put, List.setIfInBounds_toArray, List.set_cons_zero, List.set_cons_succ]
              refine anyH_take 14 53 (.int .i64 (j : Int)) SD.out rfl (by kernel_rfl) (by kernel_rfl) (by kernel_rfl) (fun _ _ _ h => h) (by rfl) (by intro x hx; obtain ⟨_, _, y2, y3⟩ := hx; go_simp; try (intro h; omega)) ?_
              try simp only [Act.put, List.setIfInBounds_toArray, List.set_cons_zero, List.set_cons_succ]
              refine anyH_take 15 54 (.pointer (some ⟨tb, tf + j, none⟩)) SD.out rfl (by kernel_rfl) (by kernel_rfl) (by kernel_rfl) (fun _ _ _ h => h) (by rfl) (by intro x hx; obtain ⟨_, _, y2, y3⟩ := hx; go_simp; try (intro h; omega)) ?_
              try simp only [Act.put, List.setIfInBounds_toArray, List.set_cons_zero, List.set_cons_succ]
              refine anyH_take 16 55 (.slice pj lj.length cj) SD.out rfl (by kernel_rfl) (by kernel_rfl) (by kernel_rfl) (fun _ _ _ h => h) (by rfl) (by intro x hx; obtain ⟨_, _, y2, y3⟩ := hx; go_simp; try (intro h; omega)) ?_
              try simp only [Act.put, List.setIfInBounds_toArray, List.set_cons_zero, List.set_cons_succ]
              refine anyH_one 17 (by kernel_rfl) ?_
              refine wpOp_step rfl (fun Kc hKc => ?_)
              go_simp
              refine (HSB.out _ HB1.out.1).mono ?_
              rintro e8 w8 ⟨rfl, hb8⟩
              have HB8 : Hid (Below w.heap.size w w8 ∧ N2 ≤ w8.heap.size) := ⟨HB1.out.1.trans (hb8.mono HB1.out.1.size), Nat.le_trans HB1.out.2 hb8.size⟩
              have HS8 := Lib.hid (HS1.out.old hb8)
              have HO8 := Lib.hid (own_keepX HO1.out hb8)
              clear hb8 HS1 HO1 HB1 SD
              dsimp only
              refine hKc _ _ ⟨⟨HRi.out _ HO8.out, HRj.out _ HO8.out, (HC.out _ HB8.out.1).1, (HCj.out _ HB8.out.1).1⟩, ?_⟩
              clear hKc Kc
              try simp only [Act.put, List.setIfInBounds_toArray, List.set_cons_zero, List.set_cons_succ]
              have SD : Hid (w8.rangeAt gs (i * 32) Ai.toList ∧ w8.rangeAt gs (j * 32) Aj.toList ∧ w8.cell? ⟨tb, tf + i, none⟩ = some (.slice p l.length cp) ∧ w8.cell? ⟨tb, tf + j, none⟩ = some (.slice pj lj.length cj)) := ⟨HRi.out _ HO8.out, HRj.out _ HO8.out, (HC.out _ HB8.out.1).1, (HCj.out _ HB8.out.1).1⟩
              cases q
              all_goals
                refine anyH_take 18 57 (.bool false) SD.out rfl (by kernel_rfl) (by kernel_rfl) (by kernel_rfl) (fun _ _ _ h => h) (by rfl) (by intro x hx; obtain ⟨_, _, y2, y3⟩ := hx; go_simp; try (intro h; omega)) ?_
                try simp only [Act.put, List.setIfInBounds_toArray, List.set_cons_zero, List.set_cons_succ]
                refine wpAnyH_done (by kernel_rfl) ?_ _
                clear HEQ hng
                go_wp2
                exact ⟨⟨j + 1, by omega, by go_num, HS8.out, HO8.out, HB8.out⟩, by simp [intOf]; omega⟩
            · obtain rfl : j = k := by omega
              clear hlj
              have hng := Try.noGuard
              have HEQ : ∀ x, (Op.equalIn 10000 42 (.agg Ai) (.agg Ai)).run Try.prog x = .ok true x := fun x => by
                have h := sums_eq (Nm.sq L i) (Nm.sq L i) (Nm.sq_len _ _) (Nm.sq_len _ _) x
                rw [decide_eq_true rfl, ← HAi1.out] at h
                exact h
              have HAV : Hid (A32 (Nm.sq L i) = .agg Ai) := by show _ = _; rw [HAi1.out]; rfl
              have E1 : Hid (Nm.sm (Nm.tst L j) l = Nm.sq L i) := by show _ = _; have h := Nm.sm_end HL.out; rw [HN.out] at h; exact h
              have E2 : Hid (Nm.smd (Nm.tst L j) l = Nm.tst L j) := by show _ = _; have h := Nm.smd_end HL.out; rw [HN.out] at h; exact h
              have HTS := Lib.hid (Nm.tst_ts L j)
              go_upto_region 17 with (fail)
              refine wp_region_any (by kernel_rfl) ?_
              change wpAny _ _ _ _ _ _ _ (World.drew _)
              have HB1 : Hid (Below w.heap.size w wr.drew ∧ N2 ≤ wr.drew.heap.size) := ⟨HB.out.1.drew, HB.out.2⟩
              have HS1 : Hid (StAt wr.drew g b c (Nm.tst L j)) := HS.out.drew
              have HO1 : Hid (wr.drew.ownsRow N2 42 32 (.slice (some ⟨gs, 0, none⟩) j cs) j ((Nm.fl32 L j).map (Value.int .u8))) := HO.out
              clear HB HS HO
              generalize wr.drew = z at *
              refine wpAny_of_held (S := fun y => y.rangeAt gs (i * 32) Ai.toList ∧ y.cell? ⟨tb, tf + i, none⟩ = some (.slice p l.length cp)) _ _ _ _ ?_
              have SD : Hid (z.rangeAt gs (i * 32) Ai.toList ∧ z.cell? ⟨tb, tf + i, none⟩ = some (.slice p l.length cp)) := ⟨HRi.out _ HO1.out, (HC.out _ HB1.out.1).1⟩
              refine anyH_take 0 58 (.pointer (some ⟨g, 0, none⟩)) SD.out rfl (by kernel_rfl) (by kernel_rfl) (by kernel_rfl) (fun _ _ _ h => h) (by rfl) (by intro x hx; obtain ⟨_, y2⟩ := hx; go_simp; try (intro h; omega)) ?_
              try simp only [Act.put, List.setIfInBounds_toArray, List.set_cons_zero, List.set_cons_succ]
              refine anyH_take 1 59 (.slice (some ⟨tb, tf, none⟩) j cap) SD.out rfl (by kernel_rfl) (by kernel_rfl) (by kernel_rfl) (fun _ _ _ h => h) (by rfl) (by intro x hx; obtain ⟨_, y2⟩ := hx; go_simp; try (intro h; omega)) ?_
              try simp only [Act.put, List.setIfInBounds_toArray, List.set_cons_zero, List.set_cons_succ]
              refine anyH_take 2 60 (.int .i64 (i : Int)) SD.out rfl (by kernel_rfl) (by kernel_rfl) (by kernel_rfl) (fun _ _ _ h => h) (by rfl) (by intro x hx; obtain ⟨_, y2⟩ := hx; go_simp; try (intro h; omega)) ?_
              try simp only [Act.put, List.setIfInBounds_toArray, List.set_cons_zero, List.set_cons_succ]
              refine anyH_take 3 61 (.pointer (some ⟨tb, tf + i, none⟩)) SD.out rfl (by kernel_rfl) (by kernel_rfl) (by kernel_rfl) (fun _ _ _ h => h) (by rfl) (by intro x hx; obtain ⟨_, y2⟩ := hx; go_simp; try (intro h; omega)) ?_
              try simp only [Act.put, List.setIfInBounds_toArray, List.set_cons_zero, List.set_cons_succ]
              refine anyH_take 4 62 (.slice p l.length cp) SD.out rfl (by kernel_rfl) (by kernel_rfl) (by kernel_rfl) (fun _ _ _ h => h) (by rfl) (by intro x hx; obtain ⟨_, y2⟩ := hx; go_simp; try (intro h; omega)) ?_
              try simp only [Act.put, List.setIfInBounds_toArray, List.set_cons_zero, List.set_cons_succ]
              refine anyH_take 6 64 (.slice (some ⟨gs, 0, none⟩) j cs) SD.out rfl (by kernel_rfl) (by kernel_rfl) (by kernel_rfl) (fun _ _ _ h => h) (by rfl) (by intro x hx; obtain ⟨_, y2⟩ := hx; go_simp; try (intro h; omega)) ?_
              try simp only [Act.put, List.setIfInBounds_toArray, List.set_cons_zero, List.set_cons_succ]
              refine anyH_take 7 65 (.int .i64 (i : Int)) SD.out rfl (by kernel_rfl) (by kernel_rfl) (by kernel_rfl) (fun _ _ _ h => h) (by rfl) (by intro x hx; obtain ⟨_, y2⟩ := hx; go_simp; try (intro h; omega)) ?_
              try simp only [Act.put, List.setIfInBounds_toArray, List.set_cons_zero, List.set_cons_succ]
              refine anyH_take 8 66 (.pointer (some ⟨gs, i * 32, none⟩)) SD.out rfl (by kernel_rfl) (by kernel_rfl) (by kernel_rfl) (fun _ _ _ h => h) (by rfl) (by intro x hx; obtain ⟨_, y2⟩ := hx; go_simp; try (intro h; omega)) ?_
              try simp only [Act.put, List.setIfInBounds_toArray, List.set_cons_zero, List.set_cons_succ]
              refine anyH_take 9 67 (.agg Ai) SD.out rfl (by kernel_rfl) (by kernel_rfl) (by kernel_rfl) (fun _ _ _ h => h) (by rfl) (fun x hx => exec_arr 42 (.tmp 66) gs (i * 32) Ai _ rfl hx.1 Try.underlying42 rfl (row_size Try.sizeSum HAi2)) ?_
              try simp only [Act.put, List.setIfInBounds_toArray, List.set_cons_zero, List.set_cons_succ]
              refine anyH_one 5 (by kernel_rfl) ?_
              refine wpOp_step rfl (fun Kc hKc => ?_)
              go_simp
              refine (sum_any (Nm.tst L j) l g b c p _ cp rfl _ HS1.out (HC.out _ HB1.out.1).2 (by have := HTS.out; omega)).mono ?_
              rintro e8 w8 ⟨rfl, S8, o8⟩
              rw [E1.out, HAV.out]
              rw [E2.out] at S8
              have HB8 : Hid (Below w.heap.size w w8 ∧ N2 ≤ w8.heap.size) := ⟨o8.below HB1.out.1 NE.out.2.1 HB1.out.1.size, Nat.le_trans HB1.out.2 o8.size⟩
              have HO8 := Lib.hid (own_onlyX HO1.out o8 NE.out.2.2.2.2)
              clear o8 HS1 HO1 HB1 SD
              dsimp only
              refine hKc _ _ ⟨⟨HRi.out _ HO8.out, (HC.out _ HB8.out.1).1⟩, ?_⟩
              clear hKc Kc
              try simp only [Act.put, List.setIfInBounds_toArray, List.set_cons_zero, List.set_cons_succ]
              have SD : Hid (w8.rangeAt gs (i * 32) Ai.toList ∧ w8.cell? ⟨tb, tf + i, none⟩ = some (.slice p l.length cp)) := ⟨HRi.out _ HO8.out, (HC.out _ HB8.out.1).1⟩
              refine anyH_take 10 68 (.bool false) SD.out rfl (by kernel_rfl) (by kernel_rfl) (by kernel_rfl) (fun _ _ _ h => h) (by rfl) (by intro x hx; obtain ⟨_, y2⟩ := hx; go_simp; try (intro h; omega)) ?_
              try simp only [Act.put, List.setIfInBounds_toArray, List.set_cons_zero, List.set_cons_succ]
              refine wpAnyH_done (by kernel_rfl) ?_ _
              clear HEQ hng
              go_wp2
              exact ⟨⟨i + 1, by omega, by go_num, S8.out, HO8.out, HB8.out⟩, by simp [intOf]; omega⟩
        · obtain rfl : i = k := by omega
          clear hlt
          go_wp2_with (go_at_call 10; refine (works_any _).mono ?_; rintro e4 w4 ⟨rfl, hb4⟩; have B4 : Hid (Below w.heap.size w w4) := HB.out.1.trans (hb4.mono HB.out.1.size); clear hb4)
          go_ret
          exact ⟨rfl, B4.out⟩

theorem apart_long (tp : Option Addr) (n cap : Nat) (w : World) (hg : Calls Try.prog 28 #[.slice tp n cap, .int .i64 100, .int .i64 4096] w (EqSay true w)) :
    Calls Try.prog 6 #[.slice tp n cap] w (YesSay w) := by
  have HG := Lib.hid hg; clear hg
  go_enter Try.func6, Try.ntmps6
  go_wp2_with (first
    | (go_at_call 28; refine HG.out.mono ?_; rintro e1 w1 ⟨rfl, hb1⟩)
    | (go_at_call 10; refine (works_any _).mono ?_; rintro e4 w4 ⟨rfl, hb4⟩))
  go_ret
  exact ⟨rfl, hb1.trans (hb4.mono hb1.size)⟩
/-- NamesApart is true. -/
theorem apart_any (L : List (List Int)) (tp : Option Addr) (cap : Nat) (w : World) (hr : BRows w tp L) :
    Calls Try.prog 6 #[.slice tp L.length cap] w (YesSay w) := by
  have hg := big_any L tp L.length cap rfl w hr
  cases hb : Nm.big L with
  | true => rw [hb] at hg; exact apart_long tp _ cap w hg
  | false => rw [hb] at hg; exact apart_small L tp _ cap rfl (Nm.big_small hb) w hr hg
end Go.Proofs.Ytdmnlooghamngaa

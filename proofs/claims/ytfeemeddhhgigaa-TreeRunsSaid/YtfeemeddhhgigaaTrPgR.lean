/-
  The reference's tree: contract: Page.
-/
import Derived.Test.YtfeemeddhhgigaaTrPg
namespace Go.Proofs.Ytfeemeddhhgigaa
open Go.RowKit

set_option maxHeartbeats 8000000 in
set_option maxRecDepth 100000 in
theorem rpage_any {K b : Nat} {vb vn : Value} {L : List Tr.Nn} {t : Tr.T} (N : Int) (hN64 : -1000 ≤ N ∧ N ≤ 1000) (w : World) (h : RT K w b vb vn L t) (hl : L.length ≤ 1000) (hI : Tr.Inv t) :
    Calls Try.prog 36 #[.pointer (some ⟨b, 0, none⟩), .int .i64 N] w (PgSay (Tr.pageL t N) w) := by
  have h9 := hI.off
  have hz := (zero_of_info Try.zeroPage).1
  have HZS : Hid ((cs Pg.zp).toArray.size = 264) := by show _ = _; rw [List.size_toArray, cs_len Pg.ok_zp]
  have HZ1 : Hid ((cs Pg.zp).toArray.all (·.oneCell') = true) := all_oneCell_toArray (cs_one _)
  have HBP : Hid (Try.prog.built 36 [] = some (cs Pg.zp).toArray) := Try.builtPage
  have HOKA := Lib.hid (Tr.page_ok h.ok N)
  have HLS : Hid ((cs (Tr.pageL t N)).toArray.size = 264) := by show _ = _; rw [List.size_toArray, cs_len HOKA.out]
  have HL1 : Hid ((cs (Tr.pageL t N)).toArray.all (·.oneCell') = true) := all_oneCell_toArray (cs_one _)
  have hsL := row_size Try.sizePage HLS
  have HPV : Hid (PV (Tr.pageL t N) = .agg (cs (Tr.pageL t N)).toArray) := rfl
  have HP0 := Lib.hid (Tr.pp_zero (Tr.pageL t N))
  have HP8 := Lib.hid (Tr.pp_all HOKA.out.1)
  have HST : Hid (∀ i, i < 8 → ∀ A, rfA ((Tr.pageL t N).getD i Pg.zr) = A → ((cs (Tr.PP (Tr.pageL t N) i)).toArray.toList.take (i * 33) ++ A.toList ++ (cs (Tr.PP (Tr.pageL t N) i)).toArray.toList.drop (i * 33 + A.size)).toArray = (cs (Tr.PP (Tr.pageL t N) (i + 1))).toArray) := fun i hi A hA => Tr.pp_store HOKA.out i hi A hA
  have HPS : Hid (∀ i, i ≤ 8 → (cs (Tr.PP (Tr.pageL t N) i)).toArray.size = 264) := fun i hi => by rw [List.size_toArray, cs_len (Tr.pp_ok HOKA.out i hi)]
  have HND : Hid (N = 0 → ∀ y (i : Nat), i < 8 → Below w.heap.size w y → Calls Try.prog 35 #[.pointer (some ⟨b, 0, none⟩), .int .i64 ((i : Int) + 1)] y fun e w' => ∃ q, e = .returned (.tuple #[.agg (rfA ((Tr.pageL t N).getD i Pg.zr)), .bool q]) ∧ Hid (Below y.heap.size y w')) := fun e0 y i hi hy => by
    have q := node_any ((i : Int) + 1) y (h.old hy) hl h9
    have e1 : (Tr.pageL t N).getD i Pg.zr = Tr.nodeR t ((i : Int) + 1) := by
      subst e0
      rw [Tr.page_root t i hi]
      exact (Tr.node_of (u := t) (i + 1) (by omega)).2.symm
    rw [e1]
    exact q.mono fun _ _ ⟨a, b⟩ => ⟨_, a, b⟩
  have HGE : Hid (∀ y (m i : Nat), N = ((m + 1 : Nat) : Int) → m < 8 → i < 8 → Below w.heap.size w y → Calls Try.prog 37 #[.pointer (some ⟨b, 0, none⟩), .int .i64 ((8 * m + i : Nat) : Int)] y fun e w' => ∃ q, e = .returned (.tuple #[.agg (rfA ((Tr.pageL t N).getD i Pg.zr)), .bool q]) ∧ Hid (Below y.heap.size y w')) := fun y m i hm hm8 hi hy => by
    have q := get_any ((8 * m + i : Nat) : Int) y (h.old hy)
    have e1 : (Tr.pageL t N).getD i Pg.zr = Tr.getR t ((8 * m + i : Nat) : Int) := by
      rw [hm, Tr.page_leaf t m i hm8 hi]
      exact (Tr.get_in hI.tz (8 * m + i) (by omega)).2.symm
    rw [e1]
    exact q.mono fun _ _ ⟨a, b⟩ => ⟨_, a, b⟩
  have HOKI : Hid (∀ i, Pg.Ok ((Tr.pageL t N).getD i Pg.zr)) := fun i => Pg.ok_at HOKA.out i
  have HOUT : Hid (¬ Tr.inN N → Tr.pageL t N = Pg.zp) := fun q => Tr.page_out t N q
  have HPPZ : Hid (∀ i, i ≤ 8 → Tr.PP Pg.zp i = Pg.zp) := fun i hi => by unfold Tr.PP; rw [List.take_append_drop]
  obtain ⟨Z, hz0⟩ := zfk
  have HZS3 := Lib.hid hz0.size
  have hz3 := (zero_of_info hz0.zero).1
  have hzn3 : ¬ Z = #[] := fun h => by have := HZS3.out; rw [h] at this; simp at this
  unfold PgSay
  rw [HPV.out]
  have hcs : (N = 0) ∨ (∃ m : Nat, N = ((m + 1 : Nat) : Int) ∧ m < 8) ∨ (N < 0 ∨ 8 < N) := by
    by_cases h0 : N = 0
    · exact Or.inl h0
    · by_cases h1 : 1 ≤ N ∧ N ≤ 8
      · exact Or.inr (Or.inl ⟨N.toNat - 1, by omega, by omega⟩)
      · exact Or.inr (Or.inr (by omega))
  generalize Tr.pageL t N = LP at *
  obtain ⟨ZA, hZA⟩ : ∃ ZA, (cs Pg.zp).toArray = ZA := ⟨_, rfl⟩
  rw [hZA] at hz HZS HZ1 HBP
  have hsZ := row_size Try.sizePage HZS
  have hzn : ¬ ZA = #[] := fun h => by have := HZS.out; rw [h] at this; simp at this
  have HZP : Hid ((cs (Tr.PP LP 0)).toArray = ZA) := by show _ = _; rw [HP0.out, hZA]
  have HZZ : Hid ((cs Pg.zp).toArray = ZA) := hZA
  have HNN : Hid (w.heap.size + 1 ≠ w.heap.size) := by show _ ≠ _; omega
  have HLN : Hid (∀ x : World, (x.alloc (.cells ZA 36)).heap.size = x.heap.size + 1) := fun x => by simp
  clear h hZA hI h9 hl
  have G1a : Hid (((w.alloc (.cells ZA 36)).alloc (.cells ZA 36)).heap[w.heap.size + 1]? = some (.cells ZA 36 (0, 0))) := by
    have := heap_alloc_new (w.alloc (.cells ZA 36)) (.cells ZA 36)
    rw [HLN.out w] at this
    exact this
  have G0a : Hid (((w.alloc (.cells ZA 36)).alloc (.cells ZA 36)).heap[w.heap.size]? = some (.cells ZA 36 (0, 0))) := (((Below.refl _ (w.alloc (.cells ZA 36))).alloc (Nat.le_refl _) _).block w.heap.size (by simp)).trans (heap_alloc_new w _)
  have B1a : Hid (Below w.heap.size w ((w.alloc (.cells ZA 36)).alloc (.cells ZA 36))) := ((Below.refl _ w).alloc (Nat.le_refl _) _).alloc (by simp) _
  go_enter Try.func36, Try.ntmps36
  go_wp2_with (first
    | ((with_reducible refine row_build0 _ _ HBP.out ?_))
    | ((with_reducible refine row_store _ _ _ (w.heap.size + 1) _ _ _ ?_ ?_ G1a.out hsZ ?_ HZ1.out ?_); (exact rfl); (exact rfl); (exact rfl); intro w2 G2 ch2))
  have B2 := Lib.hid (ch2.below B1a.out (Nat.le_succ _))
  have G20 := Lib.hid ((ch2.block _ (Ne.symm HNN.out)).trans G0a.out)
  go_loopw [6] (fun v6 wr => ∃ i : Nat, i ≤ 8 ∧ v6 = .int .i64 i ∧ Hid (wr.heap[w.heap.size + 1]? = some (.cells (cs (Tr.PP LP i)).toArray 36 (0, 0))) ∧ Hid (wr.heap[w.heap.size]? = some (.cells ZA 36 (0, 0))) ∧ Hid (Below w.heap.size w wr)) (fun v6 _ => 8 - (intOf v6).toNat)
  case atStart => exact ⟨0, by omega, rfl, by rw [HZP.out]; exact G2, G20, B2⟩
  case round =>
    clear G2 G20 B2 G1a G0a B1a
    obtain ⟨i, hi, rfl, HG, HG0, HB⟩ := hrel
    by_cases hlt : i < 8
    · have hi0 : 0 ≤ (i : Int) := by omega
      have hi1 : (i : Int) < 8 := by omega
      have HS2 := Lib.hid (HST.out i hlt _ rfl)
      have HPI := Lib.hid (HPS.out i (by omega))
      have HRS := Lib.hid (rfa_size (HOKI.out i))
      have HR1 := Lib.hid (rfa_one (LP.getD i Pg.zr))
      have hsR := row_size Try.sizeRef33 HRS
      have HFIT : Hid (i * 33 + (rfA (LP.getD i Pg.zr)).size ≤ (cs (Tr.PP LP i)).toArray.size) := by show _ ≤ _; rw [HPI.out, HRS.out]; omega
      rcases hcs with h0 | ⟨m, hm, hm8⟩ | hno
      · have HC := Lib.hid (HND.out h0 wr i hlt HB.out)
        subst h0
        generalize rfA (LP.getD i Pg.zr) = R at *
        clear HND HGE HST HPS HOKI HOUT HPPZ hlt HOKA HP0 HP8
        go_wp2_with (first
          | (go_at_call 35; refine HC.out.mono ?_; rintro e3 w3 ⟨q3, rfl, B3⟩)
          | ((with_reducible refine row_store _ _ _ w3.heap.size _ _ _ ?_ ?_ (heap_alloc_new w3 _) hsR ?_ HR1.out ?_); (exact rfl); (exact rfl); (rw [HRS.out, HZS3.out]); intro w4 G4 ch4; have B4 := Lib.hid (ch4.below (B3.out.alloc B3.out.size _) B3.out.size); have G41 := Lib.hid (below_kept B4.out HG.out); have G40 := Lib.hid (below_kept B4.out HG0.out); have D4 := Lib.hid (HB.out.trans (B4.out.mono HB.out.size)))
          | ((with_reducible refine row_load _ _ w3.heap.size _ _ _ _ ?_ G4.out Try.underlying33 ?_ hsR ?_); (exact rfl); (exact rfl))
          | ((with_reducible refine mid_store _ _ _ (w.heap.size + 1) (i * 33) _ _ _ ?_ ?_ G41.out hsR HFIT.out HR1.out ?_); (exact rfl); (exact rfl); intro w5 G5 ch5))
        refine ⟨⟨i + 1, by omega, by go_num, ?_, Lib.hid ((ch5.block _ (Ne.symm HNN.out)).trans G40.out), Lib.hid (ch5.below D4.out (Nat.le_succ _))⟩, by simp [intOf]; omega⟩
        rw [← HS2.out]
        exact G5
      · have HC := Lib.hid (HGE.out wr m i hm hm8 hlt HB.out)
        have hne : (N == 0) = false := by simp; omega
        have hN1 : N ≥ 1 := by omega
        have hN8 : N ≤ 8 := by omega
        have hwa : IntKind.i64.wrap (N - 1) = (m : Int) := by rw [IntWalk.i64_in _ ⟨by omega, by omega⟩]; omega
        obtain ⟨f, hf⟩ : ∃ f : Nat, f = 8 * m := ⟨_, rfl⟩
        have hwb : IntKind.i64.wrap (8 * (m : Int)) = (f : Int) := by rw [IntWalk.i64_in _ ⟨by omega, by omega⟩]; omega
        have hwc : IntKind.i64.wrap ((f : Int) + (i : Int)) = ((f + i : Nat) : Int) := by rw [IntWalk.i64_in _ ⟨by omega, by omega⟩]; omega
        rw [← hf] at HC
        obtain ⟨fi, hfi⟩ : ∃ fi : Nat, f + i = fi := ⟨_, rfl⟩
        rw [hfi] at HC hwc
        generalize rfA (LP.getD i Pg.zr) = R at *
        clear HND HGE HST HPS HOKI HOUT HPPZ hlt HOKA HP0 HP8 hm hf hfi hm8
        go_wp2_with (first
          | (go_at_call 37; refine HC.out.mono ?_; rintro e3 w3 ⟨q3, rfl, B3⟩)
          | ((with_reducible refine row_store _ _ _ w3.heap.size _ _ _ ?_ ?_ (heap_alloc_new w3 _) hsR ?_ HR1.out ?_); (exact rfl); (exact rfl); (rw [HRS.out, HZS3.out]); intro w4 G4 ch4; have B4 := Lib.hid (ch4.below (B3.out.alloc B3.out.size _) B3.out.size); have G41 := Lib.hid (below_kept B4.out HG.out); have G40 := Lib.hid (below_kept B4.out HG0.out); have D4 := Lib.hid (HB.out.trans (B4.out.mono HB.out.size)))
          | ((with_reducible refine row_load _ _ w3.heap.size _ _ _ _ ?_ G4.out Try.underlying33 ?_ hsR ?_); (exact rfl); (exact rfl))
          | ((with_reducible refine mid_store _ _ _ (w.heap.size + 1) (i * 33) _ _ _ ?_ ?_ G41.out hsR HFIT.out HR1.out ?_); (exact rfl); (exact rfl); intro w5 G5 ch5))
        refine ⟨⟨i + 1, by omega, by go_num, ?_, Lib.hid ((ch5.block _ (Ne.symm HNN.out)).trans G40.out), Lib.hid (ch5.below D4.out (Nat.le_succ _))⟩, by simp [intOf]; omega⟩
        rw [← HS2.out]
        exact G5
      · have hne : (N == 0) = false := by simp; omega
        have hzpp := HOUT.out (by unfold Tr.inN; omega)
        have hcase : (¬ N ≥ 1) ∨ (N ≥ 1 ∧ ¬ N ≤ 8) := by omega
        have HGS : Hid (wr.heap[w.heap.size + 1]? = some (.cells (cs (Tr.PP LP (i + 1))).toArray 36 (0, 0))) := by
          show _ = _
          have q := HG.out
          rw [hzpp, HPPZ.out i hi] at q
          rw [hzpp, HPPZ.out (i + 1) (by omega)]
          exact q
        clear HND HGE HST HPS HOKI HOUT HPPZ hlt HOKA HP0 HP8 hzpp hno HS2 HPI HRS HR1 hsR HFIT
        rcases hcase with hc | ⟨hc, hd⟩
        · go_wp2
          exact ⟨⟨i + 1, by omega, by go_num, HGS, HG0, HB⟩, by simp [intOf]; omega⟩
        · go_wp2
          exact ⟨⟨i + 1, by omega, by go_num, HGS, HG0, HB⟩, by simp [intOf]; omega⟩
    · have E : i = 8 := by omega
      subst E
      rw [HP8.out] at HG
      have HSS : Hid ((cs LP).toArray.size = ZA.size) := by show _ = _; rw [HLS.out, HZS.out]
      clear hlt HND HGE HST HPS HOKI HOUT HPPZ
      go_wp2_with (first
        | ((with_reducible refine row_load _ _ (w.heap.size + 1) _ _ _ _ ?_ HG.out Try.underlying36 ?_ hsL ?_); (exact rfl); (exact rfl))
        | ((with_reducible refine row_store _ _ _ w.heap.size _ _ _ ?_ ?_ HG0.out hsL HSS.out HL1.out ?_); (exact rfl); (exact rfl); intro w5 G5 ch5))
      exact bodyPost_ret (results_cell1 rfl _ _ w.heap.size 36 _ (0, 0) _ rfl G5.out Try.underlying36 rfl hsL) rfl ⟨rfl, Lib.hid (ch5.below HB.out (Nat.le_refl _))⟩
end Go.Proofs.Ytfeemeddhhgigaa

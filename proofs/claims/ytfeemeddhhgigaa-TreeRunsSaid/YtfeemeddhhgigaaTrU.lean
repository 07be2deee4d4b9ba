/-
  The reference's tree: contract: Set.
-/
import Derived.Test.YtfeemeddhhgigaaTrT
namespace Go.Proofs.Ytfeemeddhhgigaa
open Go.RowKit

theorem nodup_len : ∀ (n : Nat) (l : List Nat), l.Nodup → (∀ x ∈ l, x < n) → l.length ≤ n
  | 0, l, _, h => by
    cases l with
    | nil => exact Nat.le_refl _
    | cons x r => exact absurd (h x (by simp)) (by omega)
  | n + 1, l, hn, h => by
    by_cases hm : n ∈ l
    · have h1 := nodup_len n (l.erase n) (hn.erase n) (fun x hx => by
        have h2 := (List.Nodup.mem_erase_iff hn).1 hx
        have := h x h2.2
        have := h2.1
        omega)
      rw [List.length_erase_of_mem hm] at h1
      omega
    · have h1 := nodup_len n l hn (fun x hx => by
        have h2 := h x hx
        by_cases e : x = n
        · exact absurd (e ▸ hx) hm
        · omega)
      omega
/-- The list of nodes: one of each index at most, from 0 to 8. -/
structure LG (L : List Tr.Nn) : Prop where
  ok : LOk L
  nd : (L.map (·.i)).Nodup
  lt : ∀ x ∈ L, x.i < 9
theorem LG.len {L : List Tr.Nn} (h : LG L) : L.length ≤ 9 := by
  have h3 := nodup_len 9 (L.map (·.i)) h.nd (fun x hx => by
    obtain ⟨y, hy, rfl⟩ := List.mem_map.1 hx
    exact h.lt y hy)
  rw [List.length_map] at h3
  exact h3
theorem LG.wo {L : List Tr.Nn} (h : LG L) (i : Nat) : LG (Tr.wo L i) := by
  unfold Tr.wo
  exact ⟨fun x hx => h.ok x (List.mem_filter.1 hx).1, h.nd.sublist (List.filter_sublist.map _), fun x hx => h.lt x (List.mem_filter.1 hx).1⟩
theorem LG.is {L : List Tr.Nn} (h : LG L) (x : Tr.Nn) (hx : Pg.Ok x.r) (hi : x.i < 9) : LG (Tr.wo L x.i ++ [x]) := by
  have hw := h.wo x.i
  refine ⟨fun y hy => ?_, ?_, fun y hy => ?_⟩
  · rcases List.mem_append.1 hy with q | q
    · exact hw.ok y q
    · rw [List.mem_singleton] at q; rw [q]; exact hx
  · rw [List.map_append, List.nodup_append]
    refine ⟨hw.nd, by simp, fun a ha b hb => ?_⟩
    obtain ⟨y, hy, rfl⟩ := List.mem_map.1 ha
    rw [List.map_singleton, List.mem_singleton] at hb
    subst hb
    unfold Tr.wo at hy
    have := (List.mem_filter.1 hy).2
    simp at this
    exact this
  · rcases List.mem_append.1 hy with q | q
    · exact hw.lt y q
    · rw [List.mem_singleton] at q; rw [q]; exact hi
/-- The reference's tree, whole. -/
def RS (K : Nat) (y : World) (b : Nat) (t : Tr.T) : Prop := ∃ vb vn L, RT K y b vb vn L t ∧ LG L
theorem RS.old {K b : Nat} {w y : World} {t : Tr.T} (h : RS K w b t) (hb : Below w.heap.size w y) : RS K y b t := by
  obtain ⟨vb, vn, L, h1, h2⟩ := h
  exact ⟨vb, vn, L, h1.old hb, h2⟩
def DdSay (K b : Nat) (t : Tr.T) (D : List Pg.Rf) (w : World) (e : Ending) (w' : World) : Prop :=
  ∃ vd, e = .returned vd ∧ Hid (Fl w.heap.size 33 33 w' vd (D.map rfA)) ∧ Hid (RS K w' b t) ∧ Hid (Only b w w')
theorem setT_is (t : Tr.T) (k : Nat) (r : Pg.Rf) (hr : 0 < r.1) : (⟨Tr.up t.b k (Tr.pR r), Tr.up (Tr.up t.n (Tr.lf k) (some none)) 0 (some none)⟩ : Tr.T) = Tr.setT t k r := by
  unfold Tr.pR Tr.setT Tr.put
  rw [if_pos hr]
theorem get_alv (t : Tr.T) (k : Nat) (hk : k < 64) : (Tr.getB t (k : Int) = true → Tr.alv (t.b k) = [t.b k] ∧ Tr.getR t (k : Int) = t.b k) ∧ (Tr.getB t (k : Int) = false → Tr.alv (t.b k) = []) := by
  have e : Tr.getB t (k : Int) = decide (0 < (t.b k).1) := by
    unfold Tr.getB
    rw [Int.toNat_natCast, decide_eq_true (show Tr.inK (k : Int) by unfold Tr.inK; omega), Bool.true_and]
  refine ⟨fun h => ?_, fun h => ?_⟩
  · have hp := of_decide_eq_true (e.symm.trans h)
    refine ⟨Tr.alv_yes hp, ?_⟩
    unfold Tr.getR
    rw [h, Int.toNat_natCast]; rfl
  · exact Tr.alv_no (of_decide_eq_false (e.symm.trans h))
set_option maxHeartbeats 4000000 in
set_option maxRecDepth 100000 in
theorem rset_any {K b : Nat} {t : Tr.T} (N : Int) (r : Pg.Rf) (hr : Pg.Ok r) (w : World) (h : RS K w b t) (h9 : ∀ i, 9 ≤ i → t.n i = none) :
    Calls Try.prog 38 #[.pointer (some ⟨b, 0, none⟩), .int .i64 N, .agg (cl r).toArray] w (DdSay K b (Tr.setI t N r) (Tr.setD t N r) w) := by
  have HRS : Hid ((cl r).toArray.size = 33) := rfa_size hr
  have hf0 : (cl r).toArray[0]? = some (.int .i64 r.1) := rfl
  have e0 : (w.alloc (.cells (cl r).toArray 33)).cell? ⟨w.heap.size, 0, none⟩ = some (.int .i64 r.1) := by rw [cell_of_row _ _ _ _ _ _ (heap_alloc_new w _)]; exact hf0
  have B0' : Below w.heap.size w (w.alloc (.cells (cl r).toArray 33)) := (Below.refl _ w).alloc (Nat.le_refl _) _
  have HN0 : Hid (Fl w.heap.size 33 33 (w.alloc (.cells (cl r).toArray 33)) (.slice none 0 0) (([] : List Pg.Rf).map rfA)) := fl_nil _ _ _ _
  have HS0 := Lib.hid (h.old B0')
  by_cases hok : Tr.setOk N r = true
  · obtain ⟨hk, hp⟩ := (Tr.setOk_iff N r).1 hok
    obtain ⟨k, hkN⟩ : ∃ k : Nat, N = (k : Int) := ⟨N.toNat, by unfold Tr.inK at hk; omega⟩
    subst hkN
    have hk64 : k < 64 := by unfold Tr.inK at hk; omega
    have eT : Tr.setI t (k : Int) r = ⟨Tr.up t.b k (Tr.pR r), Tr.up (Tr.up t.n (Tr.lf k) (some none)) 0 (some none)⟩ := by unfold Tr.setI; rw [if_pos hok, Int.toNat_natCast, ← setT_is t k r hp]
    have eD : Tr.setD t (k : Int) r = Tr.alv (t.b k) ++ Tr.alv (Tr.nr (t.n (Tr.lf k))) ++ Tr.alv (Tr.nr (t.n 0)) := by unfold Tr.setD; rw [if_pos hok, Int.toNat_natCast]; rfl
    have hlf := Tr.lf_in hk64
    obtain ⟨vb, vn, L, hT, hL⟩ := h
    have hLl := hL.len
    obtain ⟨t1, ht1⟩ : ∃ t1 : Tr.T, t1 = ⟨Tr.up t.b k (Tr.pR r), t.n⟩ := ⟨_, rfl⟩
    obtain ⟨L1, hL1⟩ : ∃ L1, L1 = Tr.wo L (Tr.lf k) ++ [(⟨Tr.lf k, true, Pg.zr⟩ : Tr.Nn)] := ⟨_, rfl⟩
    obtain ⟨t2, ht2⟩ : ∃ t2 : Tr.T, t2 = ⟨t1.b, Tr.up t1.n (Tr.lf k) (some none)⟩ := ⟨_, rfl⟩
    have gL1 : LG L1 := by rw [hL1]; exact hL.is ⟨Tr.lf k, true, Pg.zr⟩ pg_zr hlf.2
    have gL2 : LG (Tr.wo L1 0 ++ [(⟨0, true, Pg.zr⟩ : Tr.Nn)]) := gL1.is ⟨0, true, Pg.zr⟩ pg_zr (by show 0 < 9; omega)
    have n1 : t1.n = t.n := by rw [ht1]
    have n2 : t2.n 0 = t.n 0 := by rw [ht2, n1]; exact Tr.up_other t.n (Tr.lf k) 0 (some none) (by omega)
    have n9 : ∀ i, 9 ≤ i → t2.n i = none := fun i hi => by rw [ht2, n1]; exact (Tr.up_other t.n (Tr.lf k) i (some none) (by omega)).trans (h9 i hi)
    have e3 : (⟨t2.b, Tr.up t2.n 0 (some none)⟩ : Tr.T) = ⟨Tr.up t.b k (Tr.pR r), Tr.up (Tr.up t.n (Tr.lf k) (some none)) 0 (some none)⟩ := by rw [ht2, ht1]
    have HG : Hid (∀ y, RT K y b vb vn L t → Calls Try.prog 37 #[.pointer (some ⟨b, 0, none⟩), .int .i64 (k : Int)] y (RbSay (Tr.getR t (k : Int)) (Tr.getB t (k : Int)) y)) := fun y hy => get_any (k : Int) y hy
    have HP : Hid (∀ y, RT K y b vb vn L t → Calls Try.prog 58 #[.pointer (some ⟨b, 0, none⟩), .int .i64 (k : Int), .agg (cl r).toArray] y (PuSay K b vn L t1 y)) := fun y hy => by rw [ht1]; exact rput_any k r hk64 hr y hy
    have HLF : Hid (∀ y, Calls Try.prog 60 #[.int .i64 (k : Int)] y fun e w' => e = .returned (.int .i64 ((Tr.lf k : Nat) : Int)) ∧ Hid (Below y.heap.size y w')) := fun y => leaf_any k (by omega) y
    have HS1 : Hid (∀ B y vb' vn' vd D, RT K y b vb' vn' L t1 → Fl B 33 33 y vd (D.map rfA) → D.length ≤ 1000 → B ≤ y.heap.size → Calls Try.prog 59 #[.pointer (some ⟨b, 0, none⟩), vd, .int .i64 ((Tr.lf k : Nat) : Int)] y (SlSay K b B vb' L1 t2 (D ++ Tr.alv (Tr.nr (t.n (Tr.lf k)))) y)) := fun B y vb' vn' vd D hy hd hl hb => by
      have q := spoil_any (B := B) (D := D) (Tr.lf k) y hy (by omega) hL.ok (by rw [n1]; exact h9) hlf.2 hd hl hb
      rw [← hL1, ← ht2, n1] at q
      exact q
    have HS2 : Hid (∀ B y vb' vn' vd D, RT K y b vb' vn' L1 t2 → Fl B 33 33 y vd (D.map rfA) → D.length ≤ 1000 → B ≤ y.heap.size → Calls Try.prog 59 #[.pointer (some ⟨b, 0, none⟩), vd, .int .i64 0] y (SlSay K b B vb' (Tr.wo L1 0 ++ [⟨0, true, Pg.zr⟩]) ⟨Tr.up t.b k (Tr.pR r), Tr.up (Tr.up t.n (Tr.lf k) (some none)) 0 (some none)⟩ (D ++ Tr.alv (Tr.nr (t.n 0))) y)) := fun B y vb' vn' vd D hy hd hl hb => by
      have q := spoil_any (B := B) (D := D) 0 y hy (by have := gL1.len; omega) gL1.ok n9 (by omega) hd hl hb
      rw [n2, e3] at q
      exact q
    rw [eT, eD]
    obtain ⟨gA1, gA2⟩ := get_alv t k hk64
    have hro : Pg.Ok (Tr.getR t (k : Int)) := by
      unfold Tr.getR; split
      · exact hT.ok.1 _
      · exact pg_zr
    obtain ⟨OA, Z', eO, hOA⟩ := rfk hro
    have HOS := Lib.hid hOA.size
    have HO1 := Lib.hid hOA.one
    have HOR : Hid (rfA (Tr.getR t (k : Int)) = OA) := by
      have e6 : R33 (Tr.getR t (k : Int)) = .agg (rfA (Tr.getR t (k : Int))) := rfl
      rw [e6] at eO
      injection eO
    have hsO := row_size Try.sizeRef33 HOS
    unfold RbSay at HG
    rw [eO] at HG
    obtain ⟨Z, hz0⟩ := zfk
    have HZS := Lib.hid hz0.size
    have hz := (zero_of_info hz0.zero).1
    have hzn : ¬ Z = #[] := fun h => by have := HZS.out; rw [h] at this; simp at this
    have HT0 : Hid (∀ y, Below w.heap.size w y → RT K y b vb vn L t) := fun y hy => hT.old hy
    have HGL := Lib.hid gL2
    have hkk0 : 0 ≤ (k : Int) := by omega
    have hkk1 : (k : Int) ≤ 63 := by omega
    have hbw := lt_of_block hT.box
    have HBW : Hid (b ≠ w.heap.size) := fun e => by omega
    have HA0 : Hid ((Tr.alv (t.b k)).length ≤ 1) := by show _ ≤ _; unfold Tr.alv; split <;> simp
    have HA1 : Hid ((Tr.alv (Tr.nr (t.n (Tr.lf k)))).length ≤ 1) := by show _ ≤ _; unfold Tr.alv; split <;> simp
    generalize Tr.alv (Tr.nr (t.n (Tr.lf k))) = V1 at *
    generalize Tr.alv (Tr.nr (t.n 0)) = V2 at *
    generalize (⟨Tr.up t.b k (Tr.pR r), Tr.up (Tr.up t.n (Tr.lf k) (some none)) 0 (some none)⟩ : Tr.T) = t3 at *
    generalize ((Tr.lf k : Nat) : Int) = lfk at *
    generalize Tr.wo L1 0 ++ [(⟨0, true, Pg.zr⟩ : Tr.Nn)] = L2 at *
    obtain ⟨R, hRR⟩ : ∃ R, (cl r).toArray = R := ⟨_, rfl⟩
    rw [hRR] at HP HRS e0 HN0 HS0 B0' ⊢
    have hsR := row_size Try.sizeRef33 HRS
    obtain ⟨w0, hw0⟩ : ∃ y, y = w.alloc (.cells R 33) := ⟨_, rfl⟩
    have R0 : Hid (w0.heap[w.heap.size]? = some (.cells R 33 (0, 0))) := by show _ = _; rw [hw0]; exact heap_alloc_new w _
    have B0 : Hid (Below w.heap.size w w0) := by rw [hw0]; exact B0'
    have HZ0 : Hid (w.heap.size < w0.heap.size) := lt_of_block R0.out
    have HRX : Hid (∀ y, OB b w0.heap.size w0 y → y.heap[w.heap.size]? = some (.cells R 33 (0, 0))) := fun y hy => (hy.block _ HZ0.out (fun e => HBW.out e.symm)).trans R0.out
    unfold PuSay at HP
    unfold SlSay at HS1 HS2
    clear hok eT eD hT hL hL1 ht2 ht1 gL1 gL2 n1 n2 n9 e3 hro eO hOA hz0 hRR B0' HN0 HS0 hf0 h9 hLl
    cases hgb : Tr.getB t (k : Int) with
    | true =>
      obtain ⟨q1, q2⟩ := gA1 hgb
      rw [q1] at HA0 ⊢
      rw [hgb] at HG
      rw [q2] at HOR
      have ED : Hid (([t.b k] : List Pg.Rf).map rfA = [] ++ [OA]) := by show _ = _; rw [← HOR.out]; rfl
      clear gA1 gA2 q1 q2 hgb HOR
      go_enter Try.func38, Try.ntmps38
      go_wp2_with (first
        | (go_at_call 37; rw [← hw0]; clear hw0 e0; refine (HG.out _ (HT0.out _ B0.out)).mono ?_; rintro e1 w1 ⟨rfl, B1⟩)
        | ((with_reducible refine row_store _ _ _ _ _ _ _ ?_ ?_ (heap_alloc_new _ _) hsO ?_ HO1.out ?_); (exact rfl); (exact rfl); (rw [HOS.out, HZS.out]); intro w2 G2 ch2; have B2 := Lib.hid (ch2.below (B1.out.alloc B1.out.size _) B1.out.size); have T2 := Lib.hid (HT0.out _ (B0.out.trans (B2.out.mono B0.out.size))); have F2 : Hid (Fl w0.heap.size 33 33 w2 (.slice none 0 0) []) := (fl_nil _ _ _ _); have Z2 := Lib.hid B2.out.size; have P2 := Lib.hid (OB.of_below (b := b) B2.out (Nat.le_refl _)))
        | ((with_reducible refine row_load _ _ _ _ _ _ _ ?_ G2.out Try.underlying33 ?_ hsO ?_); (exact rfl); (exact rfl))
        | ((with_reducible refine bs1_g _ _ _ OA 33 40 Try.underlying40 Try.infoRf (rfa_size pg_zr) HOS.out ?_ ?_ _ ?_ ?_); (decide); (decide); (exact rfl))
        | (at_builtin; (with_reducible refine app_fl _ _ _ OA 33 40 Try.underlying40 Try.infoRf (rfa_size pg_zr) HOS.out ?_ ?_ HO1.out _ _ w0.heap.size _ [] 0 ?_ ?_ F2.out rfl ?_ Z2.out ?_); (decide); (decide); (exact rfl); (exact rfl); (omega); intro q9 d9 y9 HF9 HT9 HG9; have P9 := Lib.hid (P2.out.trans (OB.grown (b := b) HG9.out Z2.out (fun g hg => (HT9.out g hg).1))); have T9 := Lib.hid (T2.out.grown F2.out HG9.out); have R9 := Lib.hid (HRX.out _ P9.out); have F9 : Hid (Fl w0.heap.size 33 33 y9 (.slice q9 (0 + 1) d9) (([t.b k] : List Pg.Rf).map rfA)) := (by rw [ED.out]; exact HF9.out))
        | ((with_reducible refine row_load _ _ _ _ _ _ _ ?_ R9.out Try.underlying33 ?_ hsR ?_); (exact rfl); (exact rfl))
        | (go_at_call 58; refine (HP.out _ T9.out).mono ?_; rintro e3 w3 ⟨vb3, rfl, T3, O3⟩; have P3 := Lib.hid (P9.out.trans (OB.of_only O3.out P9.out.size)); have F3 := Lib.hid (F9.out.only O3.out (F9.out.off_box T9.out.box (by decide))))
        | (go_at_call 60; refine (HLF.out _).mono ?_; rintro e4 w4 ⟨rfl, B4⟩; have P4 := Lib.hid (P3.out.trans (OB.of_below (b := b) B4.out P3.out.size)); have F4 := Lib.hid (F3.out.old B4.out); have T4 := Lib.hid (T3.out.old B4.out))
        | (go_at_call 59; with_reducible refine (HS1.out _ _ _ _ _ _ T4.out F4.out (by simp) P4.out.size).mono ?_; rintro e5 w5 ⟨vd5, vn5, rfl, F5, T5, O5⟩; have P5 := Lib.hid (P4.out.trans O5.out))
        | (go_at_call 59; with_reducible refine (HS2.out _ _ _ _ _ _ T5.out F5.out (by have := HA1.out; simp; omega) P5.out.size).mono ?_; rintro e6 w6 ⟨vd6, vn6, rfl, F6, T6, O6⟩; have P6 := Lib.hid (P5.out.trans O6.out)))
      go_ret
      exact ⟨_, rfl, Lib.hid (F6.out.mono B0.out.size), Lib.hid ⟨_, _, _, T6.out, HGL.out⟩, Lib.hid ((only_of_below B0.out).trans (P6.out.only (Nat.le_refl _)))⟩
    | false =>
      have ED := gA2 hgb
      rw [ED] at HA0 ⊢
      rw [hgb] at HG
      clear gA1 gA2 hgb ED
      go_enter Try.func38, Try.ntmps38
      go_wp2_with (first
        | (go_at_call 37; rw [← hw0]; clear hw0 e0; refine (HG.out _ (HT0.out _ B0.out)).mono ?_; rintro e1 w1 ⟨rfl, B1⟩)
        | ((with_reducible refine row_store _ _ _ _ _ _ _ ?_ ?_ (heap_alloc_new _ _) hsO ?_ HO1.out ?_); (exact rfl); (exact rfl); (rw [HOS.out, HZS.out]); intro w2 G2 ch2; have B2 := Lib.hid (ch2.below (B1.out.alloc B1.out.size _) B1.out.size); have T2 := Lib.hid (HT0.out _ (B0.out.trans (B2.out.mono B0.out.size))); have F2 : Hid (Fl w0.heap.size 33 33 w2 (.slice none 0 0) (([] : List Pg.Rf).map rfA)) := (fl_nil _ _ _ _); have P2 := Lib.hid (OB.of_below (b := b) B2.out (Nat.le_refl _)); have R2 := Lib.hid (HRX.out _ P2.out))
        | ((with_reducible refine row_load _ _ _ _ _ _ _ ?_ R2.out Try.underlying33 ?_ hsR ?_); (exact rfl); (exact rfl))
        | (go_at_call 58; refine (HP.out _ T2.out).mono ?_; rintro e3 w3 ⟨vb3, rfl, T3, O3⟩; have P3 := Lib.hid (P2.out.trans (OB.of_only O3.out P2.out.size)); have F3 := Lib.hid (F2.out.only O3.out (F2.out.off_box T2.out.box (by decide))))
        | (go_at_call 60; refine (HLF.out _).mono ?_; rintro e4 w4 ⟨rfl, B4⟩; have P4 := Lib.hid (P3.out.trans (OB.of_below (b := b) B4.out P3.out.size)); have F4 := Lib.hid (F3.out.old B4.out); have T4 := Lib.hid (T3.out.old B4.out))
        | (go_at_call 59; with_reducible refine (HS1.out _ _ _ _ _ _ T4.out F4.out (by simp) P4.out.size).mono ?_; rintro e5 w5 ⟨vd5, vn5, rfl, F5, T5, O5⟩; have P5 := Lib.hid (P4.out.trans O5.out))
        | (go_at_call 59; with_reducible refine (HS2.out _ _ _ _ _ _ T5.out F5.out (by have := HA1.out; simp; omega) P5.out.size).mono ?_; rintro e6 w6 ⟨vd6, vn6, rfl, F6, T6, O6⟩; have P6 := Lib.hid (P5.out.trans O6.out)))
      go_ret
      exact ⟨_, rfl, Lib.hid (F6.out.mono B0.out.size), Lib.hid ⟨_, _, _, T6.out, HGL.out⟩, Lib.hid ((only_of_below B0.out).trans (P6.out.only (Nat.le_refl _)))⟩
  · have e1 : Tr.setI t N r = t := by unfold Tr.setI; rw [if_neg hok]
    have e2 : Tr.setD t N r = [] := by unfold Tr.setD; rw [if_neg hok]
    rw [e1, e2]
    have HB0 := Lib.hid (only_of_below (g := b) B0')
    have hc : N < 0 ∨ (0 ≤ N ∧ 63 < N) ∨ (0 ≤ N ∧ N ≤ 63 ∧ (r.1 : Int) < 1) := by
      have h5 : ¬ (Tr.inK N ∧ 0 < r.1) := fun q => hok ((Tr.setOk_iff N r).2 q)
      unfold Tr.inK at h5
      by_cases h6 : 0 < r.1
      · have h7 : ¬ (0 ≤ N ∧ N ≤ 63) := fun q => h5 ⟨q, h6⟩
        omega
      · omega
    clear hok e1 e2 h h9
    rcases hc with c1 | ⟨c1, c2⟩ | ⟨c1, c2, c3⟩
    · go_enter Try.func38, Try.ntmps38
      go_wp2_with (first | fail)
      go_ret
      exact ⟨_, rfl, HN0, HS0, HB0⟩
    · go_enter Try.func38, Try.ntmps38
      go_wp2_with (first | fail)
      go_ret
      exact ⟨_, rfl, HN0, HS0, HB0⟩
    · go_enter Try.func38, Try.ntmps38
      go_wp2_with (first | fail)
      go_ret
      exact ⟨_, rfl, HN0, HS0, HB0⟩
end Go.Proofs.Ytfeemeddhhgigaa

/-
  The reference's tree: contract: Touch.
-/
import Derived.Test.YtfeemeddhhgigaaTrU
namespace Go.Proofs.Ytfeemeddhhgigaa
open Go.RowKit

theorem nr_ok {t : Tr.T} (h : TOk t) (i : Nat) : Pg.Ok (Tr.nr (t.n i)) := by
  cases q : t.n i with
  | none => exact pg_zr
  | some y =>
    cases y with
    | none => exact pg_zr
    | some r => exact h.2 i r q
theorem RT.rs {K b : Nat} {y : World} {vb vn : Value} {L : List Tr.Nn} {t : Tr.T} (h : RT K y b vb vn L t) (hL : LG L) : RS K y b t := ⟨vb, vn, L, h, hL⟩
set_option maxHeartbeats 4000000 in
set_option maxRecDepth 100000 in
theorem rtouch_any {K b : Nat} {t : Tr.T} (N : Int) (w : World) (h : RS K w b t) (h9 : ∀ i, 9 ≤ i → t.n i = none) :
    Calls Try.prog 42 #[.pointer (some ⟨b, 0, none⟩), .int .i64 N] w (DdSay K b (Tr.touchI t N) (Tr.touchE t N) w) := by
  obtain ⟨vb, vn, L, hT, hL⟩ := h
  have hLl := hL.len
  have HN0 := Lib.hid (node_any N w hT (by omega) h9)
  have hro : Pg.Ok (Tr.nodeR t N) := by
    unfold Tr.nodeR; split
    · exact nr_ok hT.ok _
    · exact pg_zr
  have hto := Tr.touchOk_iff t N
  have hto2 : Tr.touchOk t N = (Tr.nodeB t N && decide (0 < (Tr.nodeR t N).1)) := rfl
  obtain ⟨r, hr⟩ : ∃ r, Tr.nodeR t N = r := ⟨_, rfl⟩
  obtain ⟨bc, hbc⟩ : ∃ bc, Tr.nodeB t N = bc := ⟨_, rfl⟩
  rw [hr, hbc] at HN0 hto2
  rw [hr] at hro
  obtain ⟨R, Z', eR, hk⟩ := rfk hro
  have HRS := Lib.hid hk.size
  have HR1 := Lib.hid hk.one
  have hf0 := hk.first
  unfold RbSay at HN0
  rw [eR] at HN0
  have hsR := row_size Try.sizeRef33 HRS
  obtain ⟨Z, hz0⟩ := zfk
  have HZS := Lib.hid hz0.size
  have hz := (zero_of_info hz0.zero).1
  have hzn : ¬ Z = #[] := fun h => by have := HZS.out; rw [h] at this; simp at this
  have HT0 : Hid (∀ y, Below w.heap.size w y → RT K y b vb vn L t) := fun y hy => hT.old hy
  have HLG := Lib.hid hL
  have HNIL : Hid (∀ y, Fl w.heap.size 33 33 y (.slice none 0 0) (([] : List Pg.Rf).map rfA)) := fun y => fl_nil _ _ _ _
  by_cases hok : Tr.touchOk t N = true
  · obtain ⟨hN, r', hn, hp'⟩ := hto.1 hok
    obtain ⟨i, hiN⟩ : ∃ i : Nat, N = (i : Int) := ⟨N.toNat, by unfold Tr.inN at hN; omega⟩
    subst hiN
    have hi9 : i < 9 := by unfold Tr.inN at hN; omega
    have hb : bc = true ∧ 0 < r.1 := by rw [hto2] at hok; simpa using hok
    obtain ⟨hb1, hp⟩ := hb
    subst hb1
    have eT : Tr.touchI t (i : Int) = ⟨t.b, Tr.up (Tr.up t.n i (some none)) 0 (some none)⟩ := by unfold Tr.touchI; rw [if_pos hok, Int.toNat_natCast]; rfl
    have eD : Tr.touchE t (i : Int) = Tr.touchD t i := by unfold Tr.touchE; rw [if_pos hok, Int.toNat_natCast]
    obtain ⟨t2, ht2⟩ : ∃ t2 : Tr.T, t2 = ⟨t.b, Tr.up t.n i (some none)⟩ := ⟨_, rfl⟩
    obtain ⟨L1, hL1⟩ : ∃ L1, L1 = Tr.wo L i ++ [(⟨i, true, Pg.zr⟩ : Tr.Nn)] := ⟨_, rfl⟩
    have gL1 : LG L1 := by rw [hL1]; exact hL.is ⟨i, true, Pg.zr⟩ pg_zr hi9
    have n9 : ∀ j, 9 ≤ j → t2.n j = none := fun j hj => by rw [ht2]; exact (Tr.up_other t.n i j (some none) (by omega)).trans (h9 j hj)
    have HS1 : Hid (∀ B y vd D, RT K y b vb vn L t → Fl B 33 33 y vd (D.map rfA) → D.length ≤ 1000 → B ≤ y.heap.size → Calls Try.prog 59 #[.pointer (some ⟨b, 0, none⟩), vd, .int .i64 (i : Int)] y (SlSay K b B vb L1 t2 (D ++ Tr.alv (Tr.nr (t.n i))) y)) := fun B y vd D hy hd hl hb => by
      have q := spoil_any (B := B) (D := D) i y hy (by omega) hL.ok h9 hi9 hd hl hb
      rw [← hL1, ← ht2] at q
      exact q
    have HA1 : Hid ((Tr.alv (Tr.nr (t.n i))).length ≤ 1) := by show _ ≤ _; unfold Tr.alv; split <;> simp
    unfold SlSay at HS1
    by_cases hi0 : i = 0
    · subst hi0
      have eT2 : Tr.touchI t ((0 : Nat) : Int) = t2 := by rw [eT, ht2, Tr.up_up]
      have eD2 : Tr.touchE t ((0 : Nat) : Int) = [] ++ Tr.alv (Tr.nr (t.n 0)) := by rw [eD]; rfl
      rw [eT2, eD2]
      have HGL := Lib.hid gL1
      clear eT eD eT2 eD2 hok hto hto2 hN hn hp' hT hL hL1 ht2 gL1 n9 hr hbc hro eR hk hz0 h9 hLl hi9
      rw [show ((0 : Nat) : Int) = 0 from rfl] at HN0 HS1 ⊢
      go_enter Try.func42, Try.ntmps42
      go_wp2_with (first
        | (go_at_call 35; refine HN0.out.mono ?_; rintro e1 w1 ⟨rfl, B1⟩)
        | ((with_reducible refine row_store _ _ _ _ _ _ _ ?_ ?_ (heap_alloc_new _ _) hsR ?_ HR1.out ?_); (exact rfl); (exact rfl); (rw [HRS.out, HZS.out]); intro w2 G2 ch2; have B2 := Lib.hid (ch2.below (B1.out.alloc B1.out.size _) B1.out.size); have T2 := Lib.hid (HT0.out _ B2.out); have F2 := Lib.hid (HNIL.out w2); have x2 : w2.cell? ⟨w1.heap.size, 0, none⟩ = some (.int .i64 r.1) := (by rw [cell_of_row w2 _ _ _ _ _ G2.out]; exact hf0); have P2 := Lib.hid (OB.of_below (b := b) B2.out (Nat.le_refl _)))
        | (go_at_call 59; with_reducible refine (HS1.out _ _ _ _ T2.out F2.out (by simp) B2.out.size).mono ?_; rintro e5 w5 ⟨vd5, vn5, rfl, F5, T5, O5⟩; have P5 := Lib.hid (P2.out.trans O5.out)))
      go_ret
      exact ⟨_, rfl, F5, Lib.hid (T5.out.rs HGL.out), Lib.hid (P5.out.only (Nat.le_refl _))⟩
    · have n2 : t2.n 0 = t.n 0 := by rw [ht2]; exact Tr.up_other t.n i 0 (some none) (by omega)
      have HS2 : Hid (∀ B y vb' vn' vd D, RT K y b vb' vn' L1 t2 → Fl B 33 33 y vd (D.map rfA) → D.length ≤ 1000 → B ≤ y.heap.size → Calls Try.prog 59 #[.pointer (some ⟨b, 0, none⟩), vd, .int .i64 0] y (SlSay K b B vb' (Tr.wo L1 0 ++ [⟨0, true, Pg.zr⟩]) ⟨t.b, Tr.up (Tr.up t.n i (some none)) 0 (some none)⟩ (D ++ Tr.alv (Tr.nr (t.n 0))) y)) := fun B y vb' vn' vd D hy hd hl hb => by
        have q := spoil_any (B := B) (D := D) 0 y hy (by have := gL1.len; omega) gL1.ok n9 (by omega) hd hl hb
        rw [n2] at q
        have e3 : (⟨t2.b, Tr.up t2.n 0 (some none)⟩ : Tr.T) = ⟨t.b, Tr.up (Tr.up t.n i (some none)) 0 (some none)⟩ := by rw [ht2]
        rw [e3] at q
        exact q
      have HGL := Lib.hid (gL1.is ⟨0, true, Pg.zr⟩ pg_zr (by show 0 < 9; omega))
      have eD2 : Tr.touchE t (i : Int) = [] ++ Tr.alv (Tr.nr (t.n i)) ++ Tr.alv (Tr.nr (t.n 0)) := by rw [eD]; unfold Tr.touchD; rw [if_neg hi0]; rfl
      rw [eT, eD2]
      unfold SlSay at HS2
      have hi1 : ¬ ((i : Int) = 0) := by omega
      generalize (⟨t.b, Tr.up (Tr.up t.n i (some none)) 0 (some none)⟩ : Tr.T) = t3 at *
      generalize Tr.alv (Tr.nr (t.n i)) = V1 at *
      generalize Tr.alv (Tr.nr (t.n 0)) = V2 at *
      generalize (i : Int) = ii at *
      clear eT eD eD2 hok hto hto2 hN hn hp' hT hL hL1 ht2 gL1 n9 n2 hr hbc hro eR hk hz0 h9 hLl
      go_enter Try.func42, Try.ntmps42
      go_wp2_with (first
        | (go_at_call 35; refine HN0.out.mono ?_; rintro e1 w1 ⟨rfl, B1⟩)
        | ((with_reducible refine row_store _ _ _ _ _ _ _ ?_ ?_ (heap_alloc_new _ _) hsR ?_ HR1.out ?_); (exact rfl); (exact rfl); (rw [HRS.out, HZS.out]); intro w2 G2 ch2; have B2 := Lib.hid (ch2.below (B1.out.alloc B1.out.size _) B1.out.size); have T2 := Lib.hid (HT0.out _ B2.out); have F2 := Lib.hid (HNIL.out w2); have x2 : w2.cell? ⟨w1.heap.size, 0, none⟩ = some (.int .i64 r.1) := (by rw [cell_of_row w2 _ _ _ _ _ G2.out]; exact hf0); have P2 := Lib.hid (OB.of_below (b := b) B2.out (Nat.le_refl _)))
        | (go_at_call 59; with_reducible refine (HS1.out _ _ _ _ T2.out F2.out (by simp) B2.out.size).mono ?_; rintro e5 w5 ⟨vd5, vn5, rfl, F5, T5, O5⟩; have P5 := Lib.hid (P2.out.trans O5.out))
        | (go_at_call 59; with_reducible refine (HS2.out _ _ _ _ _ _ T5.out F5.out (by have := HA1.out; simp; omega) P5.out.size).mono ?_; rintro e6 w6 ⟨vd6, vn6, rfl, F6, T6, O6⟩; have P6 := Lib.hid (P5.out.trans O6.out)))
      go_ret
      exact ⟨_, rfl, F6, Lib.hid (T6.out.rs HGL.out), Lib.hid (P6.out.only (Nat.le_refl _))⟩
  · have e1 : Tr.touchI t N = t := by unfold Tr.touchI; rw [if_neg hok]
    have e2 : Tr.touchE t N = [] := by unfold Tr.touchE; rw [if_neg hok]
    rw [e1, e2]
    have hp : bc = true → r.1 < 1 := fun hb => by
      by_cases h6 : 0 < r.1
      · exact absurd (by rw [hto2, hb, decide_eq_true h6]; rfl) hok
      · omega
    clear e1 e2 hok hto hto2 hT hL hr hbc hro eR hk hz0 h9 hLl
    cases bc with
    | true =>
      have hp1 := hp rfl
      clear hp
      go_enter Try.func42, Try.ntmps42
      go_wp2_with (first
        | (go_at_call 35; refine HN0.out.mono ?_; rintro e1 w1 ⟨rfl, B1⟩)
        | ((with_reducible refine row_store _ _ _ _ _ _ _ ?_ ?_ (heap_alloc_new _ _) hsR ?_ HR1.out ?_); (exact rfl); (exact rfl); (rw [HRS.out, HZS.out]); intro w2 G2 ch2; have B2 := Lib.hid (ch2.below (B1.out.alloc B1.out.size _) B1.out.size); have x2 : w2.cell? ⟨w1.heap.size, 0, none⟩ = some (.int .i64 r.1) := (by rw [cell_of_row w2 _ _ _ _ _ G2.out]; exact hf0)))
      go_ret
      exact ⟨_, rfl, Lib.hid (HNIL.out _), Lib.hid ((HT0.out _ B2.out).rs HLG.out), Lib.hid (only_of_below B2.out)⟩
    | false =>
      clear hp
      go_enter Try.func42, Try.ntmps42
      go_wp2_with (first
        | (go_at_call 35; refine HN0.out.mono ?_; rintro e1 w1 ⟨rfl, B1⟩)
        | ((with_reducible refine row_store _ _ _ _ _ _ _ ?_ ?_ (heap_alloc_new _ _) hsR ?_ HR1.out ?_); (exact rfl); (exact rfl); (rw [HRS.out, HZS.out]); intro w2 G2 ch2; have B2 := Lib.hid (ch2.below (B1.out.alloc B1.out.size _) B1.out.size)))
      go_ret
      exact ⟨_, rfl, Lib.hid (HNIL.out _), Lib.hid ((HT0.out _ B2.out).rs HLG.out), Lib.hid (only_of_below B2.out)⟩
end Go.Proofs.Ytfeemeddhhgigaa

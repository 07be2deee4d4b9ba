/-
  The program's tree: contracts: Set, Del, Touch.
-/
import Derived.Test.YtfeemeddhhgigaaTrPi
namespace Go.Proofs.Ytfeemeddhhgigaa
open Go.RowKit

theorem DtSay.none_ {K b : Nat} {t : Tr.T} {w y : World} (h : PT K y b t) (hb : Below w.heap.size w y) : DtSay K b t [] w (.returned (.slice none 0 0)) y := ⟨_, rfl, Lib.hid (fl_nil _ _ _ _), Lib.hid h, Lib.hid (only_of_below hb)⟩
theorem DtSay.up_ {K b : Nat} {t : Tr.T} {D : List Pg.Rf} {w x y : World} {e : Ending} (hb : Below w.heap.size w x) (h : DtSay K b t D x e y) : DtSay K b t D w e y := by
  obtain ⟨v, h1, h2, h3, h4⟩ := h
  exact ⟨v, h1, Lib.hid (h2.out.mono hb.size), h3, Lib.hid ((only_of_below hb).trans h4.out)⟩
set_option maxHeartbeats 4000000 in
set_option maxRecDepth 100000 in
theorem pset_any {K b : Nat} {t : Tr.T} (N : Int) (r : Pg.Rf) (hr : Pg.Ok r) (w : World) (h : PT K w b t) :
    Calls Try.prog 29 #[.pointer (some ⟨b, 0, none⟩), .int .i64 N, .agg (rfA r)] w (DtSay K b (Tr.setI t N r) (Tr.setD t N r) w) := by
  have HIB : Hid (∀ y, Calls Try.prog 46 #[.int .i64 N] y (BoSay (decide (Tr.inK N)) y)) := fun y => isblock_any N y
  have HLD : Hid (∀ y, Calls Try.prog 50 #[.agg (rfA r)] y (BoSay (decide (0 < r.1)) y)) := fun y => leads_any r hr y
  have HT : Hid (∀ y, Below w.heap.size w y → PT K y b t) := fun y hy => h.old hy
  have HTU : Hid (Tr.setOk N r = true → ∀ y, PT K y b t → Calls Try.prog 54 #[.pointer (some ⟨b, 0, none⟩), .int .i64 N, .agg (rfA r)] y (DtSay K b (Tr.setI t N r) (Tr.setD t N r) y)) := fun hok y hy => by
    obtain ⟨h1, h2⟩ := (Tr.setOk_iff N r).1 hok
    obtain ⟨k, rfl⟩ : ∃ k : Nat, N = (k : Int) := ⟨N.toNat, by unfold Tr.inK at h1; omega⟩
    have q := turn_any k (by unfold Tr.inK at h1; omega) r hr (Or.inl h2) y hy
    have e1 : Tr.setI t (k : Int) r = Tr.act t k r := by unfold Tr.setI; rw [if_pos hok, Int.toNat_natCast, Tr.set_act _ _ _ h2]
    have e2 : Tr.setD t (k : Int) r = Tr.dead t k := by unfold Tr.setD; rw [if_pos hok, Int.toNat_natCast]
    rw [e1, e2]
    exact q
  have hno : Tr.setOk N r = false → Tr.setI t N r = t ∧ Tr.setD t N r = [] := fun e => by unfold Tr.setI Tr.setD; rw [e]; exact ⟨rfl, rfl⟩
  have hok : Tr.setOk N r = (decide (Tr.inK N) && decide (0 < r.1)) := rfl
  obtain ⟨R, Z, eA, _, hk, hz0⟩ := rfz hr
  have HRS := Lib.hid hk.size
  have HR1 := Lib.hid hk.one
  have hsR := row_size Try.sizeRef33 HRS
  rw [eA] at HLD HTU ⊢
  have B0 : Hid (Below w.heap.size w (w.alloc (.cells R 33))) := (Below.refl _ w).alloc (Nat.le_refl _) _
  have R0 : Hid ((w.alloc (.cells R 33)).heap[w.heap.size]? = some (.cells R 33 (0, 0))) := heap_alloc_new w _
  obtain ⟨w0, hw0⟩ : ∃ x, x = w.alloc (.cells R 33) := ⟨_, rfl⟩
  rw [← hw0] at B0 R0
  unfold BoSay at HIB HLD
  clear h hk hz0 eA hr
  generalize decide (0 < r.1) = q2 at *
  generalize decide (Tr.inK N) = q1 at *
  cases q1 with
  | false =>
    obtain ⟨e1, e2⟩ := hno (by rw [hok]; rfl)
    rw [e1, e2]
    clear hno hok HTU e1 e2
    go_enter Try.func29, Try.ntmps29
    go_wp2_with (first
      | (go_at_call 46; rw [← hw0]; clear hw0; refine (HIB.out _).mono ?_; rintro e1 w1 ⟨rfl, B1⟩; have C1 := Lib.hid (B0.out.trans (B1.out.mono B0.out.size))))
    go_ret
    exact DtSay.none_ (HT.out _ C1.out) C1.out
  | true =>
    cases q2 with
    | false =>
      obtain ⟨e1, e2⟩ := hno (by rw [hok]; rfl)
      rw [e1, e2]
      clear hno hok HTU e1 e2
      go_enter Try.func29, Try.ntmps29
      go_wp2_with (first
        | (go_at_call 46; rw [← hw0]; clear hw0; refine (HIB.out _).mono ?_; rintro e1 w1 ⟨rfl, B1⟩; have C1 := Lib.hid (B0.out.trans (B1.out.mono B0.out.size)); have R1 := Lib.hid (below_kept B1.out R0.out))
        | ((with_reducible refine row_load_g _ _ _ _ _ _ _ ?_ ?_ R1.out Try.underlying33 ?_ hsR ?_); (exact rfl); (exact rfl); (exact rfl))
        | (go_at_call 50; refine (HLD.out _).mono ?_; rintro e2 w2 ⟨rfl, B2⟩; have C2 := Lib.hid (C1.out.trans (B2.out.mono C1.out.size))))
      go_ret
      exact DtSay.none_ (HT.out _ C2.out) C2.out
    | true =>
      have HU := Lib.hid (HTU.out (by rw [hok]; rfl))
      generalize Tr.setI t N r = t' at *
      generalize Tr.setD t N r = D at *
      clear hno hok HTU
      go_enter Try.func29, Try.ntmps29
      go_wp2_with (first
        | (go_at_call 46; rw [← hw0]; clear hw0; refine (HIB.out _).mono ?_; rintro e1 w1 ⟨rfl, B1⟩; have C1 := Lib.hid (B0.out.trans (B1.out.mono B0.out.size)); have R1 := Lib.hid (below_kept B1.out R0.out))
        | ((with_reducible refine row_load_g _ _ _ _ _ _ _ ?_ ?_ R1.out Try.underlying33 ?_ hsR ?_); (exact rfl); (exact rfl); (exact rfl))
        | (go_at_call 50; refine (HLD.out _).mono ?_; rintro e2 w2 ⟨rfl, B2⟩; have C2 := Lib.hid (C1.out.trans (B2.out.mono C1.out.size)); have R2 := Lib.hid (below_kept B2.out R1.out); have T2 := Lib.hid (HT.out _ C2.out))
        | ((with_reducible refine row_load _ _ _ _ _ _ _ ?_ R2.out Try.underlying33 ?_ hsR ?_); (exact rfl); (exact rfl))
        | (go_at_call 54; refine (HU.out _ T2.out).mono ?_; rintro e3 w3 ⟨v3, rfl, hs3⟩))
      go_ret
      exact DtSay.up_ C2.out ⟨v3, rfl, hs3⟩
set_option maxHeartbeats 4000000 in
set_option maxRecDepth 100000 in
theorem pdel_any {K b : Nat} {t : Tr.T} (N : Int) (w : World) (h : PT K w b t) :
    Calls Try.prog 39 #[.pointer (some ⟨b, 0, none⟩), .int .i64 N] w (DtSay K b (Tr.delI t N) (Tr.delD t N) w) := by
  have HG := Lib.hid (pget_any N w h)
  have HT : Hid (∀ y, Below w.heap.size w y → PT K y b t) := fun y hy => h.old hy
  have HTU : Hid (Tr.getB t N = true → ∀ y, PT K y b t → Calls Try.prog 54 #[.pointer (some ⟨b, 0, none⟩), .int .i64 N, .agg (rfA Pg.zr)] y (DtSay K b (Tr.delI t N) (Tr.delD t N) y)) := fun hok y hy => by
    obtain ⟨h1, h2⟩ := (Tr.getB_iff t N).1 hok
    obtain ⟨k, rfl⟩ : ∃ k : Nat, N = (k : Int) := ⟨N.toNat, by unfold Tr.inK at h1; omega⟩
    have q := turn_any k (by unfold Tr.inK at h1; omega) Pg.zr pg_zr (Or.inr rfl) y hy
    have e1 : Tr.delI t (k : Int) = Tr.act t k Pg.zr := by unfold Tr.delI; rw [if_pos hok, Int.toNat_natCast, Tr.del_act]
    have e2 : Tr.delD t (k : Int) = Tr.dead t k := by unfold Tr.delD; rw [if_pos hok, Int.toNat_natCast]
    rw [e1, e2]
    exact q
  have hno : Tr.getB t N = false → Tr.delI t N = t ∧ Tr.delD t N = [] := fun e => by unfold Tr.delI Tr.delD; rw [e]; exact ⟨rfl, rfl⟩
  have hro : Pg.Ok (Tr.getR t N) := by
    unfold Tr.getR
    split
    · exact h.ok.1 _
    · exact pg_zr
  obtain ⟨R, Z, eA, e33, hk, hz0⟩ := rfz hro
  have HRS := Lib.hid hk.size
  have HR1 := Lib.hid hk.one
  have hsR := row_size Try.sizeRef33 HRS
  have HZS := Lib.hid hz0.size
  have HZB := Lib.hid hz0.built
  have hz := (zero_of_info hz0.zero).1
  have hzn : ¬ Z = #[] := fun h => by have := HZS.out; rw [h] at this; simp at this
  have ez : rfA Pg.zr = Z := by
    have := hz0.val
    have e6 : R33 Pg.zr = .agg (rfA Pg.zr) := rfl
    rw [e6] at this
    injection this
  rw [ez] at HTU
  unfold RbSay at HG
  rw [e33] at HG
  clear h hk hz0 eA e33 hro ez
  cases hq : Tr.getB t N with
  | false =>
    obtain ⟨e1, e2⟩ := hno hq
    rw [e1, e2]
    rw [hq] at HG
    clear hno HTU e1 e2 hq
    go_enter Try.func39, Try.ntmps39
    go_wp2_with (first
      | (go_at_call 17; refine HG.out.mono ?_; rintro e1 w1 ⟨rfl, B1⟩)
      | ((with_reducible refine row_store _ _ _ _ _ _ _ ?_ ?_ (heap_alloc_new _ _) hsR ?_ HR1.out ?_); (exact rfl); (exact rfl); (rw [HRS.out, HZS.out]); intro w2 G2 ch2; have B2 := Lib.hid (ch2.below (B1.out.alloc B1.out.size _) B1.out.size)))
    go_ret
    exact DtSay.none_ (HT.out _ B2.out) B2.out
  | true =>
    have HU := Lib.hid (HTU.out hq)
    rw [hq] at HG
    generalize Tr.delI t N = t' at *
    generalize Tr.delD t N = D at *
    clear hno HTU hq
    go_enter Try.func39, Try.ntmps39
    go_wp2_with (first
      | (go_at_call 17; refine HG.out.mono ?_; rintro e1 w1 ⟨rfl, B1⟩)
      | ((with_reducible refine row_store _ _ _ _ _ _ _ ?_ ?_ (heap_alloc_new _ _) hsR ?_ HR1.out ?_); (exact rfl); (exact rfl); (rw [HRS.out, HZS.out]); intro w2 G2 ch2; have B2 := Lib.hid (ch2.below (B1.out.alloc B1.out.size _) B1.out.size); have T2 := Lib.hid (HT.out _ B2.out))
      | ((with_reducible refine row_build0 _ _ HZB.out ?_))
      | (go_at_call 54; refine (HU.out _ T2.out).mono ?_; rintro e3 w3 ⟨v3, rfl, hs3⟩))
    go_ret
    exact DtSay.up_ B2.out ⟨v3, rfl, hs3⟩
set_option maxHeartbeats 4000000 in
set_option maxRecDepth 100000 in
theorem ptouch_any {K b : Nat} {t : Tr.T} (N : Int) (w : World) (h : PT K w b t) :
    Calls Try.prog 41 #[.pointer (some ⟨b, 0, none⟩), .int .i64 N] w (DtSay K b (Tr.touchI t N) (Tr.touchE t N) w) := by
  have HG := Lib.hid (pnode_any N w h)
  have HT : Hid (∀ y, Below w.heap.size w y → PT K y b t) := fun y hy => h.old hy
  have HTU : Hid (Tr.touchOk t N = true → ∀ (y : World) (g c : Nat), PT K y b t → g ≠ b → y.cell? ⟨g, 0, none⟩ = some (.int .i64 N) → y.cell? ⟨g, 1, none⟩ = some (.int .i64 0) → Calls Try.prog 63 #[.pointer (some ⟨b, 0, none⟩), .slice (some ⟨g, 0, none⟩) 2 c] y (DtSay K b (Tr.touchI t N) (Tr.touchE t N) y)) := fun hok y g c hy h1 h2 h3 => by
    obtain ⟨h4, _⟩ := (Tr.touchOk_iff t N).1 hok
    obtain ⟨k, rfl⟩ : ∃ k : Nat, N = (k : Int) := ⟨N.toNat, by unfold Tr.inN at h4; omega⟩
    have q := soil_any k g c (by unfold Tr.inN at h4; omega) y hy h1 h2 h3
    have e1 : Tr.touchI t (k : Int) = Tr.touchT t k := by unfold Tr.touchI; rw [if_pos hok, Int.toNat_natCast]
    have e2 : Tr.touchE t (k : Int) = Tr.touchD t k := by unfold Tr.touchE; rw [if_pos hok, Int.toNat_natCast]
    rw [e1, e2]
    exact q
  have hno : Tr.touchOk t N = false → Tr.touchI t N = t ∧ Tr.touchE t N = [] := fun e => by unfold Tr.touchI Tr.touchE; rw [e]; exact ⟨rfl, rfl⟩
  have hok : Tr.touchOk t N = (Tr.nodeB t N && decide (0 < (Tr.nodeR t N).1)) := rfl
  have hro : Pg.Ok (Tr.nodeR t N) := by
    unfold Tr.nodeR
    split
    · exact nr_ok h.ok _
    · exact pg_zr
  have HLD : Hid (∀ y, Calls Try.prog 50 #[.agg (rfA (Tr.nodeR t N))] y (BoSay (decide (0 < (Tr.nodeR t N).1)) y)) := fun y => leads_any _ hro y
  have hbw : b < w.heap.size := h.lt
  obtain ⟨R, Z, eA, e33, hk, hz0⟩ := rfz hro
  have HRS := Lib.hid hk.size
  have HR1 := Lib.hid hk.one
  have hsR := row_size Try.sizeRef33 HRS
  have HZS := Lib.hid hz0.size
  have hz := (zero_of_info hz0.zero).1
  have hzn : ¬ Z = #[] := fun h => by have := HZS.out; rw [h] at this; simp at this
  unfold RbSay at HG
  unfold BoSay at HLD
  rw [e33] at HG
  rw [eA] at HLD
  clear h hk hz0 eA e33 hro
  generalize decide (0 < (Tr.nodeR t N).1) = q2 at *
  generalize Tr.nodeB t N = q1 at *
  cases q1 with
  | false =>
    obtain ⟨e1, e2⟩ := hno (by rw [hok]; rfl)
    rw [e1, e2]
    clear hno hok HTU e1 e2
    go_enter Try.func41, Try.ntmps41
    go_wp2_with (first
      | (go_at_call 23; refine HG.out.mono ?_; rintro e1 w1 ⟨rfl, B1⟩)
      | ((with_reducible refine row_store _ _ _ _ _ _ _ ?_ ?_ (heap_alloc_new _ _) hsR ?_ HR1.out ?_); (exact rfl); (exact rfl); (rw [HRS.out, HZS.out]); intro w2 G2 ch2; have B2 := Lib.hid (ch2.below (B1.out.alloc B1.out.size _) B1.out.size)))
    go_ret
    exact DtSay.none_ (HT.out _ B2.out) B2.out
  | true =>
    cases q2 with
    | false =>
      obtain ⟨e1, e2⟩ := hno (by rw [hok]; rfl)
      rw [e1, e2]
      clear hno hok HTU e1 e2
      go_enter Try.func41, Try.ntmps41
      go_wp2_with (first
        | (go_at_call 23; refine HG.out.mono ?_; rintro e1 w1 ⟨rfl, B1⟩)
        | ((with_reducible refine row_store _ _ _ _ _ _ _ ?_ ?_ (heap_alloc_new _ _) hsR ?_ HR1.out ?_); (exact rfl); (exact rfl); (rw [HRS.out, HZS.out]); intro w2 G2 ch2; have B2 := Lib.hid (ch2.below (B1.out.alloc B1.out.size _) B1.out.size))
        | ((with_reducible refine row_load_g _ _ _ _ _ _ _ ?_ ?_ G2.out Try.underlying33 ?_ hsR ?_); (exact rfl); (exact rfl); (exact rfl))
        | (go_at_call 50; refine (HLD.out _).mono ?_; rintro e3 w3 ⟨rfl, B3⟩; have C3 := Lib.hid (B2.out.trans (B3.out.mono B2.out.size))))
      go_ret
      exact DtSay.none_ (HT.out _ C3.out) C3.out
    | true =>
      have HU := Lib.hid (HTU.out (by rw [hok]; rfl))
      generalize Tr.touchI t N = t' at *
      generalize Tr.touchE t N = D at *
      clear hno hok HTU
      have HAL : Hid (∀ y : World, (y.alloc (.cells #[.int .i64 N, .int .i64 0] 3)).cell? ⟨y.heap.size, 0, none⟩ = some (.int .i64 N) ∧ (y.alloc (.cells #[.int .i64 N, .int .i64 0] 3)).cell? ⟨y.heap.size, 1, none⟩ = some (.int .i64 0) ∧ Below y.heap.size y (y.alloc (.cells #[.int .i64 N, .int .i64 0] 3))) := fun y => ⟨by rw [cell_of_row _ _ _ _ _ _ (heap_alloc_new _ _)]; rfl, by rw [cell_of_row _ _ _ _ _ _ (heap_alloc_new _ _)]; rfl, (Below.refl _ y).alloc (Nat.le_refl _) _⟩
      go_enter Try.func41, Try.ntmps41
      go_wp2_with (first
        | (go_at_call 23; refine HG.out.mono ?_; rintro e1 w1 ⟨rfl, B1⟩)
        | ((with_reducible refine row_store _ _ _ _ _ _ _ ?_ ?_ (heap_alloc_new _ _) hsR ?_ HR1.out ?_); (exact rfl); (exact rfl); (rw [HRS.out, HZS.out]); intro w2 G2 ch2; have B2 := Lib.hid (ch2.below (B1.out.alloc B1.out.size _) B1.out.size))
        | ((with_reducible refine row_load_g _ _ _ _ _ _ _ ?_ ?_ G2.out Try.underlying33 ?_ hsR ?_); (exact rfl); (exact rfl); (exact rfl))
        | (go_at_call 50; refine (HLD.out _).mono ?_; rintro e3 w3 ⟨rfl, B3⟩; have C3 := Lib.hid (B2.out.trans (B3.out.mono B2.out.size)); have n3 : w3.heap.size ≠ b := (by have := C3.out.size; omega); have C4 := Lib.hid (C3.out.trans ((HAL.out w3).2.2.mono C3.out.size)); have T4 := Lib.hid (HT.out _ C4.out))
        | (go_at_call 63; refine (HU.out _ _ _ T4.out n3 (HAL.out w3).1 (HAL.out w3).2.1).mono ?_; rintro e5 w5 ⟨v5, rfl, hs5⟩))
      go_ret
      exact DtSay.up_ C4.out ⟨v5, rfl, hs5⟩
end Go.Proofs.Ytfeemeddhhgigaa

/-
  Contracts: both Put.
-/
import Derived.Test.YtgfnpofoedambaaPgE
namespace Go.Proofs.Ytgfnpofoedambaa
open Go.RowKit

def PutNo (w : World) (e : Ending) (w' : World) : Prop := e = .returned (.tuple #[.slice none 0 0, .int .i64 7]) ∧ Hid (Below w.heap.size w w')
def PutYes (L : List Int) (w : World) (e : Ending) (w' : World) : Prop :=
  ∃ p c, e = .returned (.tuple #[.slice p 328 c, .int .i64 0]) ∧ Hid (w'.ownsRow w.heap.size 5 1 (.slice p 328 c) 328 (U8s L)) ∧ Hid (Bs w' p c L) ∧ Hid (Below w.heap.size w w')

set_option maxHeartbeats 1000000 in
set_option maxRecDepth 100000 in
theorem put_no (i : Int) (R : List Pg.Rf) (h : Pg.OkA R) (hn : Pg.nd i R = false) (w : World) : Calls Try.prog 9 #[.int .i64 i, PV R] w (PutNo w) := by
  obtain ⟨A, RA, eA, hk⟩ := pgk h
  have HC0 : Hid (∀ y, Calls Try.prog 22 #[.int .i64 i, .agg A] y (BoSay false y)) := fun y => by
    have := isnode_any i R h y
    rw [hn, eA] at this
    exact this
  rw [eA]
  have HAS := Lib.hid hk.size
  have hsz := row_size Try.sizePage HAS
  have h1 := hk.one
  have R0 : Hid ((w.alloc (.cells A 28)).heap[w.heap.size]? = some (.cells A 28 (0, 0))) := heap_alloc_new w _
  have B0 : Hid (Below w.heap.size w (w.alloc (.cells A 28))) := (Below.refl _ w).alloc (Nat.le_refl _) _
  clear hk h eA hn
  go_enter Try.func9, Try.ntmps9
  go_wp2_with (first
      | ((with_reducible refine row_load _ _ _ _ _ _ _ ?_ R0.out Try.underlying28 ?_ hsz ?_); (exact rfl); (exact rfl))
      | (go_at_call 22; refine (HC0.out _).mono ?_; rintro e1 w1 ⟨rfl, HB1⟩; have B1 := Lib.hid (B0.out.trans (HB1.out.mono B0.out.size))))
  go_ret2
  exact ⟨rfl, B1.out⟩
set_option maxHeartbeats 1000000 in
set_option maxRecDepth 100000 in
theorem put_yes (i : Int) (R : List Pg.Rf) (h : Pg.OkA R) (hn : Pg.nd i R = true) (w : World) : Calls Try.prog 9 #[.int .i64 i, PV R] w (PutYes (Pg.pt i R) w) := by
  obtain ⟨A, RA, eA, hk⟩ := pgk h
  have HC0 : Hid (∀ y, Calls Try.prog 22 #[.int .i64 i, .agg A] y (BoSay true y)) := fun y => by
    have := isnode_any i R h y
    rw [hn, eA] at this
    exact this
  have HC1 : Hid (∀ y, Calls Try.prog 23 #[.slice none 0 0, .int .i64 i] y (RowOf (Pg.ptk i R 0) 8 y)) := fun y => by
    have := int_any [] i none 0 0 8 rfl rfl (by omega) y (bs_none y)
    rw [List.nil_append, ← Pg.ptk_zero i R] at this
    exact this
  have HC2 : Hid (∀ k, k < 8 → ∀ y p c, Bs y p c (Pg.ptk i R k) → Calls Try.prog 24 #[.slice p (8 + 40 * k) c, .agg (RA k)] y (RowOf (Pg.ptk i R (k + 1)) (8 + 40 * (k + 1)) y)) := fun k hk8 y p c hy => by
    have ho := Pg.ok_at h k
    have := ref_any (Pg.ptk i R k) (R.getD k Pg.zr) ho.1 ho.2.1 p (8 + 40 * k) c (8 + 40 * (k + 1)) (Pg.ptk_len i h k (by omega)) (by omega) (by omega) y hy
    rw [hk.val k hk8, Pg.ptk_succ i R k (by rw [h.1]; exact hk8)] at this
    exact this
  have HPT : Hid (Pg.ptk i R 8 = Pg.pt i R) := by show _ = _; unfold Pg.pt; rfl
  rw [eA]
  have HAS := Lib.hid hk.size
  have hsz := row_size Try.sizePage HAS
  have h1 := hk.one
  have HK := Lib.hid hk
  have R0 : Hid ((w.alloc (.cells A 28)).heap[w.heap.size]? = some (.cells A 28 (0, 0))) := heap_alloc_new w _
  have B0 : Hid (Below w.heap.size w (w.alloc (.cells A 28))) := (Below.refl _ w).alloc (Nat.le_refl _) _
  clear hk h eA hn
  go_enter Try.func9, Try.ntmps9
  go_wp2_with (first
      | ((with_reducible refine row_load _ _ _ _ _ _ _ ?_ R0.out Try.underlying28 ?_ hsz ?_); (exact rfl); (exact rfl))
      | (go_at_call 22; refine (HC0.out _).mono ?_; rintro e1 w1 ⟨rfl, HB1⟩; have R1 := Lib.hid ((HB1.out.block _ (lt_of_block R0.out)).trans R0.out); have B1 := Lib.hid (B0.out.trans (HB1.out.mono B0.out.size)))
      | (go_at_call 23; refine (HC1.out _).mono ?_; rintro e2 w2 ⟨p2, c2, rfl, HO2, HBS2, HB2⟩; have R2 := Lib.hid ((HB2.out.block _ (lt_of_block R1.out)).trans R1.out); have B2 := Lib.hid (B1.out.trans (HB2.out.mono B1.out.size)); have HO2' := Lib.hid (own_base HO2.out B1.out.size))
      | ((with_reducible refine row_load _ _ _ _ _ _ _ ?_ R2.out Try.underlying26 ?_ (row_size Try.sizeRefs HAS) ?_); (exact rfl); (exact rfl)))
  clear HC0 HC1
  go_loopw [6, 17] (fun v6 v17 wr => ∃ (k : Nat) (p : Option Addr) (c : Nat), k ≤ 8 ∧ v17 = .int .i64 k ∧ v6 = .slice p (8 + 40 * k) c ∧ Hid (wr.ownsRow w.heap.size 5 1 v6 (8 + 40 * k) (U8s (Pg.ptk i R k))) ∧ Hid (Bs wr p c (Pg.ptk i R k)) ∧ Hid (Below w.heap.size w wr)) (fun _ v17 _ => 8 - (intOf v17).toNat)
  case atStart => exact ⟨0, p2, c2, by omega, rfl, rfl, HO2'.out, HBS2.out, B2.out⟩
  case round =>
    clear B0 R0 B1 R1 R2 B2 HO2 HBS2 HB2 HB1 HO2'
    obtain ⟨k, p, c, hk, rfl, rfl, HO, HBS, HB⟩ := hrel
    by_cases hlt : k < 8
    · have hx : (k : Int) < 8 := by omega
      have hx0 : (0 : Int) ≤ (k : Int) := by omega
      have HL : Hid (k < 8) := hlt
      have RS : Hid ((RA k).size = 33) := HK.out.rsize k hlt
      have RO : Hid ((RA k).all (·.oneCell') = true) := HK.out.rone k hlt
      have RP : Hid (∀ z, (part 25 A (k * 33)).run Try.prog z = .ok (.agg (RA k)) z) := HK.out.part k hlt

      have RC : Hid (∀ y, Bs y p c (Pg.ptk i R k) → Calls Try.prog 24 #[.slice p (8 + 40 * k) c, .agg (RA k)] y (RowOf (Pg.ptk i R (k + 1)) (8 + 40 * (k + 1)) y)) := fun y hy => HC2.out k hlt y p c hy
      have HSP : Hid (∀ y z, Below wr.heap.size wr y → Chg wr.heap.size y z → Bs z p c (Pg.ptk i R k)) := fun y z hb hc => HBS.out.old (hc.below hb (Nat.le_refl _))
      generalize RA k = rk at *
      clear HC2 HK hlt HPT HAS hsz h1
      go_wp2_with (first
        | ((with_reducible refine row_index _ 25 _ _ A k 8 33 _ ?_ ?_ Try.underlying26 HL.out Try.sizeRef RP.out ?_); (exact rfl); (exact rfl))
        | ((with_reducible refine row_store _ _ _ _ _ _ _ ?_ ?_ (heap_alloc_new _ _) (row_size Try.sizeRef RS) ?_ RO.out ?_); (exact rfl); (exact rfl); (rw [RS.out]; rfl); intro w4 G4 ch4)
        | ((with_reducible refine row_load _ _ _ _ _ _ _ ?_ G4.out Try.underlying25 ?_ (row_size Try.sizeRef RS) ?_); (exact rfl); (exact rfl))
        | (go_at_call 24; have HS4 := Lib.hid (HSP.out _ _ ((Below.refl _ _).alloc (Nat.le_refl _) _) ch4); refine (RC.out _ HS4.out).mono ?_; rintro e5 w5 ⟨p5, c5, rfl, HO5, HBS5, HB5⟩))
      have HB4 := Lib.hid (ch4.below (HB.out.alloc HB.out.size _) HB.out.size)
      have HB6 := Lib.hid (HB4.out.trans (HB5.out.mono HB4.out.size))
      have HO6 := Lib.hid (own_base HO5.out HB4.out.size)
      refine ⟨⟨k + 1, p5, c5, by omega, by go_num, rfl, HO6.out, HBS5.out, HB6.out⟩, by simp [intOf]; omega⟩
    · obtain rfl : k = 8 := by omega
      clear hlt HC2 HK
      have HO8 : Hid (wr.ownsRow w.heap.size 5 1 (.slice p 328 c) 328 (U8s (Pg.pt i R))) := by rw [← HPT.out]; exact HO.out
      have HS8 : Hid (Bs wr p c (Pg.pt i R)) := by rw [← HPT.out]; exact HBS.out
      clear HO HBS HPT
      go_wp2
      go_ret2
      exact ⟨p, c, rfl, HO8.out, HS8.out, HB.out⟩

set_option maxHeartbeats 1000000 in
set_option maxRecDepth 100000 in
theorem rput_no (i : Int) (R : List Pg.Rf) (h : Pg.OkA R) (hn : Pg.nd i R = false) (w : World) : Calls Try.prog 10 #[.int .i64 i, PV R] w (PutNo w) := by
  obtain ⟨A, RA, eA, hk⟩ := pgk h
  have HC0 : Hid (∀ y, Calls Try.prog 25 #[.int .i64 i, .agg A] y (BoSay false y)) := fun y => by
    have := may_any i R h y
    rw [hn, eA] at this
    exact this
  rw [eA]
  have HAS := Lib.hid hk.size
  have hsz := row_size Try.sizePage HAS
  have h1 := hk.one
  have R0 : Hid ((w.alloc (.cells A 28)).heap[w.heap.size]? = some (.cells A 28 (0, 0))) := heap_alloc_new w _
  have B0 : Hid (Below w.heap.size w (w.alloc (.cells A 28))) := (Below.refl _ w).alloc (Nat.le_refl _) _
  clear hk h eA hn
  go_enter Try.func10, Try.ntmps10
  go_wp2_with (first
      | ((with_reducible refine row_load _ _ _ _ _ _ _ ?_ R0.out Try.underlying28 ?_ hsz ?_); (exact rfl); (exact rfl))
      | (go_at_call 25; refine (HC0.out _).mono ?_; rintro e1 w1 ⟨rfl, HB1⟩; have B1 := Lib.hid (B0.out.trans (HB1.out.mono B0.out.size))))
  go_ret2
  exact ⟨rfl, B1.out⟩
set_option maxHeartbeats 1000000 in
set_option maxRecDepth 100000 in
theorem rput_yes (i : Int) (R : List Pg.Rf) (h : Pg.OkA R) (hn : Pg.nd i R = true) (w : World) : Calls Try.prog 10 #[.int .i64 i, PV R] w (PutYes (Pg.pt i R) w) := by
  obtain ⟨A, RA, eA, hk⟩ := pgk h
  have HC0 : Hid (∀ y, Calls Try.prog 25 #[.int .i64 i, .agg A] y (BoSay true y)) := fun y => by
    have := may_any i R h y
    rw [hn, eA] at this
    exact this
  have HC1 : Hid (∀ y, Calls Try.prog 26 #[.slice none 0 0, .int .i64 i] y (RowOf (Pg.ptk i R 0) 8 y)) := fun y => by
    have := refint_any [] i none 0 0 8 rfl rfl (by omega) y (bs_none y)
    rw [List.nil_append, ← Pg.ptk_zero i R] at this
    exact this
  have HC2 : Hid (∀ k, k < 8 → ∀ y p c, Bs y p c (Pg.ptk i R k) → Calls Try.prog 27 #[.slice p (8 + 40 * k) c, .agg (RA k)] y (RowOf (Pg.ptk i R (k + 1)) (8 + 40 * (k + 1)) y)) := fun k hk8 y p c hy => by
    have ho := Pg.ok_at h k
    have := refref_any (Pg.ptk i R k) (R.getD k Pg.zr) ho.1 ho.2.1 p (8 + 40 * k) c (8 + 40 * (k + 1)) (Pg.ptk_len i h k (by omega)) (by omega) (by omega) y hy
    rw [hk.val k hk8, Pg.ptk_succ i R k (by rw [h.1]; exact hk8)] at this
    exact this
  have HPT : Hid (Pg.ptk i R 8 = Pg.pt i R) := by show _ = _; unfold Pg.pt; rfl
  rw [eA]
  have HAS := Lib.hid hk.size
  have hsz := row_size Try.sizePage HAS
  have h1 := hk.one
  have HK := Lib.hid hk
  have R0 : Hid ((w.alloc (.cells A 28)).heap[w.heap.size]? = some (.cells A 28 (0, 0))) := heap_alloc_new w _
  have B0 : Hid (Below w.heap.size w (w.alloc (.cells A 28))) := (Below.refl _ w).alloc (Nat.le_refl _) _
  clear hk h eA hn
  go_enter Try.func10, Try.ntmps10
  go_wp2_with (first
      | ((with_reducible refine row_load _ _ _ _ _ _ _ ?_ R0.out Try.underlying28 ?_ hsz ?_); (exact rfl); (exact rfl))
      | (go_at_call 25; refine (HC0.out _).mono ?_; rintro e1 w1 ⟨rfl, HB1⟩; have R1 := Lib.hid ((HB1.out.block _ (lt_of_block R0.out)).trans R0.out); have B1 := Lib.hid (B0.out.trans (HB1.out.mono B0.out.size)))
      | (go_at_call 26; refine (HC1.out _).mono ?_; rintro e2 w2 ⟨p2, c2, rfl, HO2, HBS2, HB2⟩; have R2 := Lib.hid ((HB2.out.block _ (lt_of_block R1.out)).trans R1.out); have B2 := Lib.hid (B1.out.trans (HB2.out.mono B1.out.size)); have HO2' := Lib.hid (own_base HO2.out B1.out.size)))
  clear HC0 HC1
  go_loopw [6, 7] (fun v6 v17 wr => ∃ (k : Nat) (p : Option Addr) (c : Nat), k ≤ 8 ∧ v17 = .int .i64 k ∧ v6 = .slice p (8 + 40 * k) c ∧ Hid (wr.ownsRow w.heap.size 5 1 v6 (8 + 40 * k) (U8s (Pg.ptk i R k))) ∧ Hid (Bs wr p c (Pg.ptk i R k)) ∧ Hid (Below w.heap.size w wr) ∧ Hid (wr.heap[w.heap.size]? = some (.cells A 28 (0, 0)))) (fun _ v17 _ => 8 - (intOf v17).toNat)
  case atStart => exact ⟨0, p2, c2, by omega, rfl, rfl, HO2'.out, HBS2.out, B2.out, R2.out⟩
  case round =>
    clear B0 R0 B1 R1 R2 B2 HO2 HBS2 HB2 HB1 HO2'
    obtain ⟨k, p, c, hk, rfl, rfl, HO, HBS, HB, HG⟩ := hrel
    by_cases hlt : k < 8
    · have hx : (k : Int) < 8 := by omega
      have hx0 : (0 : Int) ≤ (k : Int) := by omega
      have HL : Hid (k < 8) := hlt
      have RS : Hid ((RA k).size = 33) := HK.out.rsize k hlt
      have RO : Hid ((RA k).all (·.oneCell') = true) := HK.out.rone k hlt
      have RP : Hid (∀ z, (part 25 A (k * 33)).run Try.prog z = .ok (.agg (RA k)) z) := HK.out.part k hlt
      have RR : Hid (wr.rangeAt w.heap.size (k * 33) (RA k).toList) := HK.out.rng k hlt wr _ _ HG.out
      have RC : Hid (∀ y, Bs y p c (Pg.ptk i R k) → Calls Try.prog 27 #[.slice p (8 + 40 * k) c, .agg (RA k)] y (RowOf (Pg.ptk i R (k + 1)) (8 + 40 * (k + 1)) y)) := fun y hy => HC2.out k hlt y p c hy
      have HSP : Hid (∀ y z, Below wr.heap.size wr y → Chg wr.heap.size y z → Bs z p c (Pg.ptk i R k)) := fun y z hb hc => HBS.out.old (hc.below hb (Nat.le_refl _))
      generalize RA k = rk at *
      clear HC2 HK hlt HPT HAS hsz h1
      go_wp2_with (first
        | ((with_reducible refine rng_load _ _ w.heap.size (k * 33) rk _ ?_ RR.out Try.underlying25 ?_ (row_size Try.sizeRef RS) ?_); (go_simp); (exact rfl))
        | (go_at_call 27; refine (RC.out _ HBS.out).mono ?_; rintro e5 w5 ⟨p5, c5, rfl, HO5, HBS5, HB5⟩))
      have HB6 := Lib.hid (HB.out.trans (HB5.out.mono HB.out.size))
      have HO6 := Lib.hid (own_base HO5.out HB.out.size)
      have HG6 := Lib.hid ((HB5.out.block _ (lt_of_block HG.out)).trans HG.out)
      refine ⟨⟨k + 1, p5, c5, by omega, by go_num, rfl, HO6.out, HBS5.out, HB6.out, HG6.out⟩, by simp [intOf]; omega⟩
    · obtain rfl : k = 8 := by omega
      clear hlt HC2 HK
      have HO8 : Hid (wr.ownsRow w.heap.size 5 1 (.slice p 328 c) 328 (U8s (Pg.pt i R))) := by rw [← HPT.out]; exact HO.out
      have HS8 : Hid (Bs wr p c (Pg.pt i R)) := by rw [← HPT.out]; exact HBS.out
      clear HO HBS HPT
      go_wp2
      go_ret2
      exact ⟨p, c, rfl, HO8.out, HS8.out, HB.out⟩
end Go.Proofs.Ytgfnpofoedambaa

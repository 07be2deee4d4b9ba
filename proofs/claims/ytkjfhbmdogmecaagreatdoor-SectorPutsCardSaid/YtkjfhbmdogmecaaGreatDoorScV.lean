/-
  Contracts of the reference: kind, number, place, Head, Kind; a Crypt that is a box: Boxed, Seal, Open.
-/
import Derived.Test.YtkjfhbmdogmecaaGreatDoorScJ
import Derived.Test.YtkjfhbmdogmecaaGreatDoorSe3
import Derived.Test.YtkjfhbmdogmecaaGreatDoorPa3
namespace Go.Proofs.YtkjfhbmdogmecaaGreatDoor
open Go.RowKit

set_option maxRecDepth 100000 in
theorem fkind_any (k : Int) (w : World) : Calls Tryz.prog 27 #[.int .i64 k] w fun e w' => e = .returned (.bool (Sc.isK k)) ∧ w = w' := by
  by_cases h0 : k ≥ 1
  · by_cases h1 : k ≤ 5
    · rw [Sc.isK_iff.2 ⟨h0, h1⟩]
      go_enter Tryz.func27, Tryz.ntmps27
      go_wp2
      go_ret
      exact ⟨rfl, rfl⟩
    · rw [show Sc.isK k = false by rw [← Bool.not_eq_true, Sc.isK_iff]; omega]
      go_enter Tryz.func27, Tryz.ntmps27
      go_wp2
      go_ret
      exact ⟨rfl, rfl⟩
  · rw [show Sc.isK k = false by rw [← Bool.not_eq_true, Sc.isK_iff]; omega]
    go_enter Tryz.func27, Tryz.ntmps27
    go_wp2
    go_ret
    exact ⟨rfl, rfl⟩
set_option maxRecDepth 100000 in
theorem fnumber_any (n : Int) (w : World) : Calls Tryz.prog 28 #[.int .i64 n] w fun e w' => e = .returned (.bool (inR n)) ∧ w = w' := by
  by_cases h0 : n ≥ 0
  · by_cases h1 : n ≤ 1099511627776
    · rw [show inR n = true by unfold inR; simp [h1]; omega]
      go_enter Tryz.func28, Tryz.ntmps28
      go_wp2
      go_ret
      exact ⟨rfl, rfl⟩
    · rw [show inR n = false by unfold inR; simp [h1]]
      go_enter Tryz.func28, Tryz.ntmps28
      go_wp2
      go_ret
      exact ⟨rfl, rfl⟩
  · rw [show inR n = false by unfold inR; simp; omega]
    go_enter Tryz.func28, Tryz.ntmps28
    go_wp2
    go_ret
    exact ⟨rfl, rfl⟩
set_option maxRecDepth 100000 in
theorem fplace_any (n : Int) (w : World) : Calls Tryz.prog 29 #[.int .i64 n] w fun e w' => e = .returned (.bool (Sc.inA n)) ∧ w = w' := by
  by_cases h0 : n ≥ 0
  · by_cases h1 : n < 4096
    · rw [Sc.inA_iff.2 ⟨h0, h1⟩]
      go_enter Tryz.func29, Tryz.ntmps29
      go_wp2
      go_ret
      exact ⟨rfl, rfl⟩
    · rw [show Sc.inA n = false by rw [← Bool.not_eq_true, Sc.inA_iff]; omega]
      have h2 : decide (n < 4096) = false := decide_eq_false h1
      go_enter Tryz.func29, Tryz.ntmps29
      go_wp2
      go_ret
      refine ⟨?_, rfl⟩
      first | rfl | (show Ending.returned (Value.bool (decide (n < 4096))) = _; rw [decide_eq_false (by omega)])
  · rw [show Sc.inA n = false by rw [← Bool.not_eq_true, Sc.inA_iff]; omega]
    go_enter Tryz.func29, Tryz.ntmps29
    go_wp2
    go_ret
    exact ⟨rfl, rfl⟩
set_option maxRecDepth 100000 in
theorem fhead_any (k n : Int) (hk : 0 ≤ k ∧ k ≤ 255) (w : World) : Calls Tryz.prog 32 #[.int .i64 k, .int .i64 n] w (RowOf (Sc.mk k n) 9 w) := by
  have hw : IntKind.u8.wrap k = k := by simp [IntKind.wrap_u8]; omega
  have B0 : Hid (Below w.heap.size w (w.alloc (.cells #[.int .u8 k] 5))) := (Below.refl _ w).alloc (Nat.le_refl _) _
  have H0 : Hid (Bs (w.alloc (.cells #[.int .u8 k] 5)) (some ⟨w.heap.size, 0, none⟩) 1 [k]) := lit_one w [k] 1 (0, 0) rfl (by omega) (fun x hx => by simp at hx; omega)
  have HC : Hid (Calls Tryz.prog 30 #[.slice (some ⟨w.heap.size, 0, none⟩) 1 1, .int .i64 n] (w.alloc (.cells #[.int .u8 k] 5)) (RowOf (Sc.mk k n) 9 (w.alloc (.cells #[.int .u8 k] 5)))) := by
    have h := refint_any [k] n (some ⟨w.heap.size, 0, none⟩) 1 1 9 rfl rfl (by omega) _ H0.out
    unfold Sc.mk
    exact h
  go_enter Tryz.func32, Tryz.ntmps32
  go_wp2_with (go_at_call 30; refine HC.out.mono ?_; rintro e1 w1 ⟨p1, c1, rfl, HO, HB, HL⟩)
  go_ret
  exact ⟨p1, c1, rfl, own_baseS HO.out (by simp), HB, B0.out.trans (HL.out.mono (by simp))⟩
set_option maxHeartbeats 1000000 in
set_option maxRecDepth 100000 in
theorem fkindb_any (b : List Int) (p : Option Addr) (n c : Nat) (hn : b.length = n) (w : World) (hp : Bs w p c b) :
    Calls Tryz.prog 15 #[.slice p n c] w fun r w' => r = .returned (.int .i64 (Sc.kd b)) ∧ w' = w := by
  have HI : Hid (∀ y x, Calls Tryz.prog 27 #[.int .i64 y] x fun r x' => r = .returned (.bool (Sc.isK y)) ∧ x = x') := fun y x => fkind_any y x
  by_cases h0 : (n : Int) < 17
  · rw [kd_short (by omega)]
    go_enter Tryz.func15, Tryz.ntmps15
    go_wp2
    go_ret
    exact ⟨rfl, rfl⟩
  · rw [kd_long (by omega)]
    obtain ⟨ab, ao, rfl, hc⟩ := hp.bat.2 (by omega)
    have hc0 := hc 0 (by omega)
    rw [Nat.add_zero] at hc0
    have hb := Sha.byt_getD hp.bat.1 0
    generalize b.getD 0 0 = x0 at *
    have hn1 : (0 : Int) < (n : Int) := by omega
    have hw : IntKind.i64.wrap x0 = x0 := IntWalk.i64_in _ ⟨by omega, by omega⟩
    clear hc hb hn hp
    cases hq : Sc.isK x0 with
    | true =>
      rw [if_pos rfl]
      go_enter Tryz.func15, Tryz.ntmps15
      go_wp2_with (go_at_call 27; refine (HI.out _ _).mono ?_; rintro e1 w1 ⟨rfl, rfl⟩; rw [hq])
      go_ret
      exact ⟨rfl, rfl⟩
    | false =>
      rw [if_neg (by simp)]
      go_enter Tryz.func15, Tryz.ntmps15
      go_wp2_with (go_at_call 27; refine (HI.out _ _).mono ?_; rintro e1 w1 ⟨rfl, rfl⟩; rw [hq])
      go_ret
      exact ⟨rfl, rfl⟩

/-- The reference's Crypt in block g that is a box of K, all of it from block B on. -/
def CrAt (B : Nat) (w : World) (g : Nat) (K : List Int) : Prop := ∃ gb, B ≤ g ∧ w.heap[g]? = some (.cells #[.pointer (some ⟨gb, 0, none⟩), .pointer none] 59 (0, 0)) ∧ RBox B w gb K
theorem CrAt.old {B : Nat} {w x : World} {g : Nat} {K : List Int} (h : CrAt B w g K) (hb : Below w.heap.size w x) : CrAt B x g K := by
  obtain ⟨gb, h0, h1, h2⟩ := h
  exact ⟨gb, h0, (hb.block _ (lt_of_block h1)).trans h1, h2.keep hb⟩
theorem CrAt.only {B j : Nat} {w x : World} {g : Nat} {K : List Int} (h : CrAt B w g K) (ho : Only j w x) (hj : j < B) : CrAt B x g K := by
  obtain ⟨gb, h0, h1, h2⟩ := h
  exact ⟨gb, h0, (ho.block _ (lt_of_block h1) (by omega)).trans h1, h2.only ho hj⟩
def NewCr (K : List Int) (w : World) (e : Ending) (w' : World) : Prop := ∃ g, e = .returned (.pointer (some ⟨g, 0, none⟩)) ∧ Hid (CrAt w.heap.size w' g K) ∧ Below w.heap.size w w'
set_option maxRecDepth 100000 in
theorem boxed_any (K : List Int) (p : Option Addr) (n c : Nat) (hn : K.length = n) (hnl : n ≤ 100000) (w : World) (hp : Bs w p c K) (ht : Tab w 1) :
    Calls Tryz.prog 6 #[.slice p n c] w (NewCr K w) := by
  have HR : Hid (Calls Tryz.prog 21 #[.slice p n c] w (RNewBox K w)) := refbox_any K p n c hn hnl w hp ht
  go_enter Tryz.func6, Tryz.ntmps6
  go_wp2_with (go_at_call 21; refine HR.out.mono ?_; rintro e1 w1 ⟨gb, rfl, G1, b1⟩)
  go_ret
  have B2 : Below w1.heap.size w1 (w1.alloc (.cells #[.pointer (some ⟨gb, 0, none⟩), .pointer none] 59)) := (Below.refl _ w1).alloc (Nat.le_refl _) _
  exact ⟨w1.heap.size, rfl, ⟨gb, b1.size, heap_alloc_new w1 _, G1.out.keep B2⟩, b1.trans (B2.mono b1.size)⟩
set_option maxRecDepth 100000 in
theorem crseal_any (K h L : List Int) (B g : Nat) (e n : Int) (ph pl : Option Addr) (nh nl ch cl : Nat) (hnh : h.length = nh) (hnl : L.length = nl)
    (w : World) (hg : CrAt B w g K) (hh : Bs w ph ch h) (hl : Bs w pl cl L) (hs : nh ≤ 4096 ∧ nl ≤ 4096) (ht : Tab w 1) :
    Calls Tryz.prog 31 #[.pointer (some ⟨g, 0, none⟩), .int .i64 e, .int .i64 n, .slice ph nh ch, .slice pl nl cl] w (OwnSay (Seal.sl K e n h L) w) := by
  obtain ⟨gb, h0, h1, h2⟩ := hg
  have c0 : w.cell? ⟨g, 0, none⟩ = some (.pointer (some ⟨gb, 0, none⟩)) := by rw [cell_of_row w g 0 _ _ _ h1]; rfl
  have HR : Hid (Calls Tryz.prog 44 #[.pointer (some ⟨gb, 0, none⟩), .int .i64 e, .int .i64 n, .slice ph nh ch, .slice pl nl cl] w (OwnSay (Seal.sl K e n h L) w)) := refseal_any K h L B gb e n ph pl nh nl ch cl hnh hnl w h2 hh hl hs ht
  clear h1 h2 hh hl
  go_enter Tryz.func31, Tryz.ntmps31
  go_wp2_with (go_at_call 44; refine HR.out.mono ?_; rintro e1 w1 ⟨p1, c1, m1, rfl, l1, o1, b1, bb1⟩)
  go_ret
  exact ⟨p1, c1, m1, rfl, l1, o1, b1, bb1⟩
set_option maxRecDepth 100000 in
theorem cropen_any (K h L : List Int) (B g : Nat) (e n : Int) (ph pl : Option Addr) (nh nl ch cl : Nat) (hnh : h.length = nh) (hnl : L.length = nl)
    (w : World) (hg : CrAt B w g K) (hh : Bs w ph ch h) (hl : Bs w pl cl L) (hs : nh ≤ 4096 ∧ nl ≤ 4096) (ht : Tab w 1) :
    Calls Tryz.prog 36 #[.pointer (some ⟨g, 0, none⟩), .int .i64 e, .int .i64 n, .slice ph nh ch, .slice pl nl cl] w (OpenSay (Seal.op K e n h L) w) := by
  obtain ⟨gb, h0, h1, h2⟩ := hg
  have c0 : w.cell? ⟨g, 0, none⟩ = some (.pointer (some ⟨gb, 0, none⟩)) := by rw [cell_of_row w g 0 _ _ _ h1]; rfl
  have HR : Hid (Calls Tryz.prog 50 #[.pointer (some ⟨gb, 0, none⟩), .int .i64 e, .int .i64 n, .slice ph nh ch, .slice pl nl cl] w (OpenSay (Seal.op K e n h L) w)) := refopen_any K h L B gb e n ph pl nh nl ch cl hnh hnl w h2 hh hl hs ht
  clear h1 h2 hh hl
  go_enter Tryz.func36, Tryz.ntmps36
  go_wp2_with (go_at_call 50; refine HR.out.mono ?_; rintro e1 w1 ⟨p1, c1, m1, rfl, l1, o1, b1, bb1⟩)
  go_ret2
  exact ⟨p1, c1, m1, rfl, l1, o1, b1, bb1⟩
end Go.Proofs.YtkjfhbmdogmecaaGreatDoor

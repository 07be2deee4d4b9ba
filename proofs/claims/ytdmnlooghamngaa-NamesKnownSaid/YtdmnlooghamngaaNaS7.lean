/-
  The law NamesRuns: its calls; long, turned, Pick.
-/
import Derived.Test.YtdmnlooghamngaaNaS5
import Derived.Test.YtdmnlooghamngaaNaS6
namespace Go.Proofs.Ytdmnlooghamngaa
open Go.RowKit

namespace Nm
/-- A call. -/
structure Cal where
  kind : Int
  epoch : Int
  number : Int
  i : Int
  head : List Int
  b : List Int
  wi : Int
end Nm
structure CalAt (y : World) (tb k : Nat) (x : Nm.Cal) (ph : Option Addr) (ch : Nat) (pp : Option Addr) (cp : Nat) : Prop where
  c0 : y.cell? ⟨tb, k, none⟩ = some (.int .i64 x.kind)
  c1 : y.cell? ⟨tb, k + 1, none⟩ = some (.int .i64 x.epoch)
  c2 : y.cell? ⟨tb, k + 2, none⟩ = some (.int .i64 x.number)
  c3 : y.cell? ⟨tb, k + 3, none⟩ = some (.int .i64 x.i)
  c4 : y.cell? ⟨tb, k + 4, none⟩ = some (.slice ph x.head.length ch)
  c5 : y.cell? ⟨tb, k + 5, none⟩ = some (.slice pp x.b.length cp)
  c6 : y.cell? ⟨tb, k + 6, none⟩ = some (.int .u8 x.wi)
  bh : Bs y ph ch x.head
  bp : Bs y pp cp x.b
  i1 : Nm.In64 x.epoch
  i2 : Nm.In64 x.number
  wb : 0 ≤ x.wi ∧ x.wi ≤ 255
theorem CalAt.old {w y : World} {tb k ch cp : Nat} {x : Nm.Cal} {ph pp : Option Addr} (h : CalAt w tb k x ph ch pp cp) (hb : Below w.heap.size w y) : CalAt y tb k x ph ch pp cp :=
  ⟨(hb.cell (World.block_lt_of_cell? _ _ h.c0)).trans h.c0, (hb.cell (World.block_lt_of_cell? _ _ h.c1)).trans h.c1, (hb.cell (World.block_lt_of_cell? _ _ h.c2)).trans h.c2, (hb.cell (World.block_lt_of_cell? _ _ h.c3)).trans h.c3, (hb.cell (World.block_lt_of_cell? _ _ h.c4)).trans h.c4, (hb.cell (World.block_lt_of_cell? _ _ h.c5)).trans h.c5, (hb.cell (World.block_lt_of_cell? _ _ h.c6)).trans h.c6, h.bh.old hb, h.bp.old hb, h.i1, h.i2, h.wb⟩
/-- The calls L, in memory. -/
def CRows (w : World) (tp : Option Addr) (L : List Nm.Cal) : Prop :=
  0 < L.length → ∃ tb tf, tp = some ⟨tb, tf, none⟩ ∧ ∀ r x, L[r]? = some x → ∃ ph ch pp cp, CalAt w tb (tf + r * 7) x ph ch pp cp
theorem CRows.old {w y : World} {tp : Option Addr} {L : List Nm.Cal} (h : CRows w tp L) (hb : Below w.heap.size w y) : CRows y tp L := fun h0 => by
  obtain ⟨tb, tf, h1, h2⟩ := h h0
  exact ⟨tb, tf, h1, fun r x hx => by
    obtain ⟨ph, ch, pp, cp, h3⟩ := h2 r x hx
    exact ⟨ph, ch, pp, cp, h3.old hb⟩⟩
def SmallC (L : List Nm.Cal) : Prop := L.length ≤ 150 ∧ ∀ x ∈ L, x.head.length ≤ 1024 ∧ x.b.length ≤ 4096
def lng (L : List Nm.Cal) : Bool := decide (150 < L.length) || L.any fun x => decide (1024 < x.head.length) || decide (4096 < x.b.length)
theorem lng_small {L : List Nm.Cal} (h : lng L = false) : SmallC L := by
  unfold lng at h
  simp only [Bool.or_eq_false_iff, decide_eq_false_iff_not, List.any_eq_false, Bool.not_eq_true] at h
  exact ⟨by omega, fun x hx => by have := h.2 x hx; omega⟩
theorem lng_long {L : List Nm.Cal} (h : 150 < L.length) : lng L = true := by unfold lng; rw [decide_eq_true h]; rfl
theorem lng_one {L : List Nm.Cal} {x : Nm.Cal} (hx : x ∈ L) (h : 1024 < x.head.length ∨ 4096 < x.b.length) : lng L = true := by
  unfold lng
  rw [Bool.or_eq_true]
  exact Or.inr (List.any_eq_true.2 ⟨x, hx, by simpa using h⟩)
theorem lng_none {L : List Nm.Cal} (h : SmallC L) : lng L = false := by
  unfold lng
  simp only [Bool.or_eq_false_iff, decide_eq_false_iff_not, List.any_eq_false, Bool.not_eq_true]
  exact ⟨by have := h.1; omega, fun x hx => by have := h.2 x hx; omega⟩
attribute [irreducible] lng

set_option maxHeartbeats 1000000 in
set_option maxRecDepth 100000 in
theorem long_any (L : List Nm.Cal) (tp : Option Addr) (n cap : Nat) (hn : L.length = n) (w : World) (hr : CRows w tp L) :
    Calls Try.prog 9 #[.slice tp n cap] w fun e w' => e = .returned (.bool (lng L)) ∧ w = w' := by
  have HR := Lib.hid hr; clear hr
  have HN := Lib.hid hn; clear hn
  by_cases h60 : (150 : Int) < (n : Int)
  · go_enter Try.func9, Try.ntmps9
    go_wp2
    go_ret
    exact ⟨by rw [lng_long (by rw [HN.out]; omega)]; rfl, rfl⟩
  · have hn60 : n ≤ 150 := by omega
    go_enter Try.func9, Try.ntmps9
    go_wp2
    go_loop [3] (fun v => ∃ k : Nat, k ≤ n ∧ v = .int .i64 k ∧ Hid (∀ r x, r < k → L[r]? = some x → x.head.length ≤ 1024 ∧ x.b.length ≤ 4096)) (fun v => n - (intOf v).toNat)
    case atStart => exact ⟨0, Nat.zero_le _, rfl, fun r x h => by omega⟩
    case round =>
      obtain ⟨k, hk, rfl, HK⟩ := hrel
      by_cases hlt : k < n
      · obtain ⟨x, hx⟩ : ∃ x, L[k]? = some x := ⟨L[k]'(by rw [HN.out]; exact hlt), List.getElem?_eq_getElem _⟩
        obtain ⟨tb, tf, rfl, hrow⟩ := HR.out (by rw [HN.out]; omega)
        obtain ⟨ph, ch, pp, cp, F⟩ := hrow k x hx
        have c4 := F.c4
        have c5 := F.c5
        have hk0 : 0 ≤ (k : Int) := by omega
        have hk1 : (k : Int) < (n : Int) := by omega
        have HXK := Lib.hid hx
        have HMEM := Lib.hid (List.mem_of_getElem? hx)
        clear hx hrow F
        by_cases h1 : (1024 : Int) < (x.head.length : Int)
        · go_wp2
          go_ret
          exact ⟨by rw [lng_one HMEM.out (Or.inl (by omega))]; rfl, rfl⟩
        · have h1' : decide ((1024 : Int) < (x.head.length : Int)) = false := by simpa using h1
          by_cases h2 : (4096 : Int) < (x.b.length : Int)
          · go_wp2
            go_ret
            exact ⟨by rw [lng_one HMEM.out (Or.inr (by omega))]; rfl, rfl⟩
          · go_wp2
            go_round
            case rel =>
              refine ⟨k + 1, by omega, by go_num, fun r y hr hy => ?_⟩
              by_cases hrk : r < k
              · exact HK.out r y hrk hy
              · obtain rfl : r = k := by omega
                rw [HXK.out] at hy
                cases hy
                exact ⟨by omega, by omega⟩
            case measure => simp [intOf]; omega
      · obtain rfl : k = n := by omega
        clear hlt
        go_wp2
        go_ret
        have hgn : lng L = false := lng_none ⟨by rw [HN.out]; omega, fun x hx => by
          obtain ⟨r, hr⟩ := List.getElem?_of_mem hx
          exact HK.out r x (by rw [← HN.out]; exact (List.getElem?_eq_some_iff.1 hr).1) hr⟩
        exact ⟨by rw [hgn]; rfl, rfl⟩

set_option maxHeartbeats 1000000 in
theorem pick_any (k n : Int) (h1 : 1 ≤ n) (hn : n ≤ 1000000) (w : World) : Calls Try.prog 14 #[.int .i64 k, .int .i64 n] w fun r w' => w' = w ∧ ∃ j : Nat, (j : Int) < n ∧ r = .returned (.int .i64 (j : Int)) := by
  have hlt : k.tmod n < n := Int.tmod_lt_of_pos k (by omega)
  have hge : -n < k.tmod n := by
    have h := Int.tmod_lt_of_pos (-k) (show 0 < n by omega)
    rw [Int.neg_tmod] at h
    omega
  have hw : IntKind.i64.wrap (k.tmod n) = k.tmod n := IntWalk.i64_in _ ⟨by omega, by omega⟩
  have hnz : n ≠ 0 := by omega
  have hw2 : IntKind.i64.wrap (k.tmod n + n) = k.tmod n + n := IntWalk.i64_in _ ⟨by omega, by omega⟩
  by_cases h0 : k.tmod n < 0
  · go_enter Try.func14, Try.ntmps14
    go_wp2
    go_ret
    exact ⟨rfl, (k.tmod n + n).toNat, by omega, by congr 2; show Value.int .i64 (k.tmod n + n) = _; congr 1; omega⟩
  · have h0' : 0 ≤ k.tmod n := by omega
    go_enter Try.func14, Try.ntmps14
    go_wp2
    go_ret
    exact ⟨rfl, (k.tmod n).toNat, by omega, by congr 2; show Value.int .i64 (k.tmod n) = _; congr 1; omega⟩

/-- Which number Pick answers. -/
def pk (k n : Int) : Nat := (if k.tmod n < 0 then k.tmod n + n else k.tmod n).toNat
theorem pk_lt (k n : Int) (h1 : 1 ≤ n) : (pk k n : Int) < n := by
  have hlt : k.tmod n < n := Int.tmod_lt_of_pos k (by omega)
  have hge : -n < k.tmod n := by
    have h := Int.tmod_lt_of_pos (-k) (show 0 < n by omega)
    rw [Int.neg_tmod] at h
    omega
  unfold pk
  split <;> omega
attribute [irreducible] pk
set_option maxHeartbeats 1000000 in
theorem pick_at (k n : Int) (h1 : 1 ≤ n) (hn : n ≤ 1000000) (w : World) : Calls Try.prog 14 #[.int .i64 k, .int .i64 n] w fun r w' => w' = w ∧ r = .returned (.int .i64 (pk k n : Nat)) := by
  have hlt : k.tmod n < n := Int.tmod_lt_of_pos k (by omega)
  have hge : -n < k.tmod n := by
    have h := Int.tmod_lt_of_pos (-k) (show 0 < n by omega)
    rw [Int.neg_tmod] at h
    omega
  have hw : IntKind.i64.wrap (k.tmod n) = k.tmod n := IntWalk.i64_in _ ⟨by omega, by omega⟩
  have hnz : n ≠ 0 := by omega
  have hw2 : IntKind.i64.wrap (k.tmod n + n) = k.tmod n + n := IntWalk.i64_in _ ⟨by omega, by omega⟩
  by_cases h0 : k.tmod n < 0
  · have hp : ((pk k n : Nat) : Int) = k.tmod n + n := by unfold pk; rw [if_pos h0]; omega
    go_enter Try.func14, Try.ntmps14
    go_wp2
    go_ret
    exact ⟨rfl, by first | rfl | (rw [hp]; rfl)⟩
  · have h0' : 0 ≤ k.tmod n := by omega
    have hp : ((pk k n : Nat) : Int) = k.tmod n := by unfold pk; rw [if_neg h0]; omega
    go_enter Try.func14, Try.ntmps14
    go_wp2
    go_ret
    exact ⟨rfl, by first | rfl | (rw [hp]; rfl)⟩

theorem bits_byt (u v : Int) : 0 ≤ bits .xor .u8 u v ∧ bits .xor .u8 u v ≤ 255 := by
  have h : ∀ x : Int, 0 ≤ IntKind.u8.wrap x ∧ IntKind.u8.wrap x ≤ 255 := fun x => by
    simp [IntKind.wrap, IntKind.signed, IntKind.bits]
    omega
  exact h _
/-- What turned says: bytes of the same length. -/
def TurnSay (m : Nat) (w : World) (e : Ending) (w' : World) : Prop := ∃ v M, e = .returned v ∧ M.length = m ∧ Sha.Byt M ∧ Hid (w'.ownsRow w.heap.size 5 1 v m (U8s M)) ∧ Below w.heap.size w w'
set_option maxHeartbeats 1000000 in
set_option maxRecDepth 100000 in
theorem turned_any (L : List Int) (p : Option Addr) (n cap : Nat) (x : Int) (hn : L.length = n) (hL : n ≤ 1000000) (w : World) (hp : Bs w p cap L) :
    Calls Try.prog 13 #[.slice p n cap, .int .u8 x] w (TurnSay n w) := by
  have HB := Lib.hid hp.bat.1
  have HP := Lib.hid hp.bat
  have HN := Lib.hid hn
  clear hp hn
  by_cases h0 : n = 0
  · subst h0
    go_enter Try.func13, Try.ntmps13
    go_wp2_with (go_at_call 30; refine (copybytes_any L p 0 cap HN.out (by rw [HN.out]; omega) _ HP.out).mono ?_; rintro e1 w1 ⟨a1, rfl, ho1, hb1⟩; obtain ⟨p1, c1, rfl, _, _⟩ := own_bs ho1 HB.out; rw [HN.out] at ho1 ⊢)
    go_ret
    exact ⟨_, L, rfl, HN.out, HB.out, Lib.hid ho1, hb1⟩
  · have hn0 : (0 : Int) < (n : Int) := by omega
    have hw1 : IntKind.i64.wrap ((n : Int) - 1) = (n : Int) - 1 := IntWalk.i64_in _ ⟨by omega, by omega⟩
    have hx1 : 0 ≤ (n : Int) - 1 := by omega
    have hx2 : (n : Int) - 1 < (n : Int) := by omega
    have hx3 : ((n : Int) - 1).toNat = n - 1 := by omega
    go_enter Try.func13, Try.ntmps13
    go_upto_region 3 with (go_at_call 30; refine (copybytes_any L p n cap HN.out (by rw [HN.out]; omega) _ HP.out).mono ?_; rintro e1 w1 ⟨a1, rfl, ho1, hb1⟩; obtain ⟨p1, c1, rfl, _, _⟩ := own_bs ho1 HB.out; rw [HN.out] at ho1 ⊢; have HO1 := Lib.hid ho1; have B1 := Lib.hid hb1; clear ho1 hb1)
    rcases HO1.out.2 with ⟨h2, _⟩ | ⟨g, cap', cur, h2, hgb, h3, h4, h5, h6, h7⟩
    · cases h2; omega
    · cases h2
      have HGB := Lib.hid hgb
      have HH3 := Lib.hid h3
      have HSZ := Lib.hid (show n ≤ c1 ∧ cur.size = c1 * 1 from ⟨h4, h6⟩)
      have HMX := Lib.hid (h5)
      have HTK := Lib.hid h7
      have c0 := u8_at HO1.out (n - 1) (by omega)
      have f0 := frozen_of_row w1 g (n - 1) _ _ h3
      clear h3 h4 h5 h6 h7 hgb
      generalize hy : L.getD (n - 1) 0 = y at *
      have HY := Lib.hid hy; clear hy
      go_wp2
      go_ret
      refine ⟨_, L.set (n - 1) (bits .xor .u8 y x), rfl, by rw [List.length_set]; exact HN.out, ?_, Lib.hid ?_, B1.out.setCell HGB.out _⟩
      · intro u hu
        rcases List.mem_or_eq_of_mem_set hu with h | h
        · exact HB.out u h
        · rw [h]; exact bits_byt _ _
      · refine ⟨by simp [U8s, HN.out], Or.inr ⟨g, c1, cur.setIfInBounds (n - 1) (.int .u8 (bits .xor .u8 y x)), rfl, HGB.out, ?_, HSZ.out.1, HMX.out, by simpa using HSZ.out.2, ?_⟩⟩
        · rw [heap_setCell_same w1 g (n - 1) _ _ _ HH3.out]
        · have h := HTK.out
          simp only [Array.toList_setIfInBounds, List.take_set]
          rw [h]
          simp [U8s, List.map_set]
end Go.Proofs.Ytdmnlooghamngaa

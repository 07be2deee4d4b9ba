/-
  Fours in memory; great, may.
-/
import Derived.Test.YtdmnlooghamngaaNaV
namespace Go.Proofs.Ytdmnlooghamngaa
open Go.RowKit

/-- A four in memory. -/
structure FourAt (y : World) (tb k : Nat) (x : Nm.Four) (ph : Option Addr) (ch : Nat) (pp : Option Addr) (cp : Nat) : Prop where
  c0 : y.cell? ⟨tb, k, none⟩ = some (.int .i64 x.1)
  c1 : y.cell? ⟨tb, k + 1, none⟩ = some (.int .i64 x.2.1)
  c2 : y.cell? ⟨tb, k + 2, none⟩ = some (.slice ph x.2.2.1.length ch)
  c3 : y.cell? ⟨tb, k + 3, none⟩ = some (.slice pp x.2.2.2.length cp)
  bh : Bs y ph ch x.2.2.1
  bp : Bs y pp cp x.2.2.2
  i1 : Nm.In64 x.1
  i2 : Nm.In64 x.2.1
theorem FourAt.old {w y : World} {tb k ch cp : Nat} {x : Nm.Four} {ph pp : Option Addr} (h : FourAt w tb k x ph ch pp cp) (hb : Below w.heap.size w y) : FourAt y tb k x ph ch pp cp :=
  have hl := World.block_lt_of_cell? w _ h.c0
  ⟨(hb.cell hl).trans h.c0, (hb.cell (World.block_lt_of_cell? w _ h.c1)).trans h.c1, (hb.cell (World.block_lt_of_cell? w _ h.c2)).trans h.c2, (hb.cell (World.block_lt_of_cell? w _ h.c3)).trans h.c3, h.bh.old hb, h.bp.old hb, h.i1, h.i2⟩
/-- Fours that came in. -/
def FRows (w : World) (tp : Option Addr) (L : List Nm.Four) : Prop :=
  0 < L.length → ∃ tb tf, tp = some ⟨tb, tf, none⟩ ∧ ∀ r x, L[r]? = some x → ∃ ph ch pp cp, FourAt w tb (tf + r * 4) x ph ch pp cp
theorem FRows.old {w y : World} {tp : Option Addr} {L : List Nm.Four} (h : FRows w tp L) (hb : Below w.heap.size w y) : FRows y tp L := fun h0 => by
  obtain ⟨tb, tf, h1, h2⟩ := h h0
  exact ⟨tb, tf, h1, fun r x hx => by
    obtain ⟨ph, ch, pp, cp, h3⟩ := h2 r x hx
    exact ⟨ph, ch, pp, cp, h3.old hb⟩⟩
def SmallL (L : List Nm.Four) : Prop := L.length ≤ 60 ∧ ∀ x ∈ L, x.2.2.1.length ≤ 1024 ∧ x.2.2.2.length ≤ 4096
def grt (L : List Nm.Four) : Bool := decide (60 < L.length) || L.any fun x => decide (1024 < x.2.2.1.length) || decide (4096 < x.2.2.2.length)
theorem grt_small {L : List Nm.Four} (h : grt L = false) : SmallL L := by
  unfold grt at h
  simp only [Bool.or_eq_false_iff, decide_eq_false_iff_not, List.any_eq_false, Bool.not_eq_true] at h
  exact ⟨by omega, fun x hx => by have := h.2 x hx; omega⟩
theorem grt_long {L : List Nm.Four} (h : 60 < L.length) : grt L = true := by unfold grt; rw [decide_eq_true h]; rfl
theorem grt_one {L : List Nm.Four} {x : Nm.Four} (hx : x ∈ L) (h : 1024 < x.2.2.1.length ∨ 4096 < x.2.2.2.length) : grt L = true := by
  unfold grt
  rw [Bool.or_eq_true]
  exact Or.inr (List.any_eq_true.2 ⟨x, hx, by simpa using h⟩)
theorem grt_none {L : List Nm.Four} (h : SmallL L) : grt L = false := by
  unfold grt
  simp only [Bool.or_eq_false_iff, decide_eq_false_iff_not, List.any_eq_false, Bool.not_eq_true]
  exact ⟨by have := h.1; omega, fun x hx => by have := h.2 x hx; omega⟩
attribute [irreducible] grt
def GreatSay (L : List Nm.Four) (w : World) (e : Ending) (w' : World) : Prop := e = .returned (.bool (grt L)) ∧ w = w'

set_option maxHeartbeats 1000000 in
set_option maxRecDepth 100000 in
theorem great_any (L : List Nm.Four) (tp : Option Addr) (n cap : Nat) (hn : L.length = n) (w : World) (hr : FRows w tp L) :
    Calls Try.prog 25 #[.slice tp n cap] w (GreatSay L w) := by
  have HR := Lib.hid hr; clear hr
  have HN := Lib.hid hn; clear hn
  by_cases h60 : (60 : Int) < (n : Int)
  · go_enter Try.func25, Try.ntmps25
    go_wp2
    go_ret
    exact ⟨by rw [grt_long (by rw [HN.out]; omega)]; rfl, rfl⟩
  · have hn60 : n ≤ 60 := by omega
    go_enter Try.func25, Try.ntmps25
    go_wp2
    go_loop [3] (fun v => ∃ k : Nat, k ≤ n ∧ v = .int .i64 k ∧ Hid (∀ r x, r < k → L[r]? = some x → x.2.2.1.length ≤ 1024 ∧ x.2.2.2.length ≤ 4096)) (fun v => n - (intOf v).toNat)
    case atStart => exact ⟨0, Nat.zero_le _, rfl, fun r x h => by omega⟩
    case round =>
      obtain ⟨k, hk, rfl, HK⟩ := hrel
      by_cases hlt : k < n
      · obtain ⟨x, hx⟩ : ∃ x, L[k]? = some x := ⟨L[k]'(by rw [HN.out]; exact hlt), List.getElem?_eq_getElem _⟩
        obtain ⟨tb, tf, rfl, hrow⟩ := HR.out (by rw [HN.out]; omega)
        obtain ⟨ph, ch, pp, cp, F⟩ := hrow k x hx
        have c2 := F.c2
        have c3 := F.c3
        have hk0 : 0 ≤ (k : Int) := by omega
        have hk1 : (k : Int) < (n : Int) := by omega
        have HXK := Lib.hid hx
        have HMEM := Lib.hid (List.mem_of_getElem? hx)
        clear hx hrow F
        by_cases h1 : (1024 : Int) < (x.2.2.1.length : Int)
        · go_wp2
          go_ret
          exact ⟨by rw [grt_one HMEM.out (Or.inl (by omega))]; rfl, rfl⟩
        · have h1' : decide ((1024 : Int) < (x.2.2.1.length : Int)) = false := by simpa using h1
          by_cases h2 : (4096 : Int) < (x.2.2.2.length : Int)
          · go_wp2
            go_ret
            exact ⟨by rw [grt_one HMEM.out (Or.inr (by omega))]; rfl, rfl⟩
          · go_wp2
            go_round
            case rel =>
              refine ⟨k + 1, by omega, by go_num, fun r y hr hy => ?_⟩
              by_cases hrk : r < k
              · exact HK.out r y hrk hy
              · obtain rfl : r = k := by omega
                rw [HXK.out] at hy
                cases hy
                exact ⟨by omega, by omega⟩
            case measure => simp [intOf]; omega
      · obtain rfl : k = n := by omega
        clear hlt
        go_wp2
        go_ret
        have hgn : grt L = false := grt_none ⟨by rw [HN.out]; omega, fun x hx => by
          obtain ⟨r, hr⟩ := List.getElem?_of_mem hx
          exact HK.out r x (by rw [← HN.out]; exact (List.getElem?_eq_some_iff.1 hr).1) hr⟩
        exact ⟨by rw [hgn]; rfl, rfl⟩

def MaySay (x : Nm.Four) (w : World) (e : Ending) (w' : World) : Prop := e = .returned (.bool (Nm.may x)) ∧ Below w.heap.size w w'
set_option maxHeartbeats 1000000 in
set_option maxRecDepth 100000 in
theorem may_any (x : Nm.Four) (v2 v3 : Value) (w : World) :
    Calls Try.prog 26 #[.agg #[.int .i64 x.1, .int .i64 x.2.1, v2, v3]] w (MaySay x w) := by
  obtain ⟨e, n, h, p⟩ := x
  have HB : Hid (∀ O, Below w.heap.size w (w.alloc O)) := fun O => (Below.refl _ w).alloc (Nat.le_refl _) O
  have HM : Hid (∀ b : Bool, b = (decide (0 ≤ e) && decide (e ≤ 1099511627776) && (decide (0 ≤ n) && decide (n ≤ 1099511627776))) → MaySay (e, n, h, p) w (.returned (.bool b)) (w.alloc (.cells #[.int .i64 e, .int .i64 n, v2, v3] 47))) := fun b hb => ⟨by unfold Nm.may Nm.inR; rw [hb], HB.out _⟩
  clear HB
  by_cases q1 : 0 ≤ e
  · by_cases q2 : 0 ≤ n
    · by_cases q3 : e ≤ 1099511627776
      · by_cases q4 : n ≤ 1099511627776
        · go_enter Try.func26, Try.ntmps26
          go_wp2
          go_ret
          exact HM.out _ (by simp [q1, q2, q3, q4])
        · have q4' : decide (n ≤ 1099511627776) = false := by simpa using q4
          go_enter Try.func26, Try.ntmps26
          go_wp2
          go_ret
          exact HM.out _ (by simp [q4])
      · have q3' : decide (e ≤ 1099511627776) = false := by simpa using q3
        go_enter Try.func26, Try.ntmps26
        go_wp2
        go_ret
        exact HM.out _ (by simp; omega)
    · have q2' : decide (0 ≤ n) = false := by simpa using q2
      go_enter Try.func26, Try.ntmps26
      go_wp2
      go_ret
      exact HM.out _ (by simp; omega)
  · have q1' : decide (0 ≤ e) = false := by simpa using q1
    go_enter Try.func26, Try.ntmps26
    go_wp2
    go_ret
    exact HM.out _ (by simp; omega)
end Go.Proofs.Ytdmnlooghamngaa

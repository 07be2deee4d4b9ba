/-
  Contracts: Seal, whatever the numbers are; Open, where nothing may be opened.
-/
import Derived.Test.YtkhaiiiioieglaaDoorSeG
namespace Go.Proofs.YtkhaiiiioieglaaDoor
open Go.RowKit

set_option maxRecDepth 100000 in
theorem seal_none (g : Nat) (e n : Int) (vh vl : Value) (h0 : (inR e && inR n) = false) (w : World) :
    Calls Tryd.prog 14 #[.pointer (some ⟨g, 0, none⟩), .int .i64 e, .int .i64 n, vh, vl] w fun r w' => r = .returned (.slice none 0 0) ∧ w' = w := by
  have HI : Hid (∀ y x, Calls Tryd.prog 26 #[.int .i64 y] x fun r x' => r = .returned (.bool (inR y)) ∧ x' = x) := fun y x => inRange_any y x
  by_cases he : inR e = true
  · have hn : inR n = false := by rw [he] at h0; simpa using h0
    go_enter Tryd.func14, Tryd.ntmps14
    go_wp2_with (go_at_call 26; refine (HI.out _ _).mono ?_; rintro e1 w1 ⟨rfl, rfl⟩; first | rw [he] | rw [hn])
    go_ret
    exact ⟨rfl, rfl⟩
  · have he2 : inR e = false := by simpa using he
    go_enter Tryd.func14, Tryd.ntmps14
    go_wp2_with (go_at_call 26; refine (HI.out _ _).mono ?_; rintro e1 w1 ⟨rfl, rfl⟩; rw [he2])
    go_ret
    exact ⟨rfl, rfl⟩
theorem seal_bad (K h L : List Int) (g : Nat) (e n : Int) (vh vl : Value) (h0 : (inR e && inR n) = false) (w : World) :
    Calls Tryd.prog 14 #[.pointer (some ⟨g, 0, none⟩), .int .i64 e, .int .i64 n, vh, vl] w (OwnSay (Seal.sl K e n h L) w) := by
  rw [Seal.sl_bad h0]
  refine (seal_none g e n vh vl h0 w).mono ?_
  rintro r w' ⟨rfl, rfl⟩
  exact ⟨none, 0, 0, rfl, rfl, (by unfold U8s; exact World.ownsRow_nil _ _ _ _), bs_none _, Below.refl _ _⟩
theorem seal_any (hT : TakeSaid) (K h L : List Int) (g : Nat) (e n : Int) (ph pl : Option Addr) (nh nl ch cl : Nat) (hnh : h.length = nh) (hnl : L.length = nl)
    (w : World) (hg : BoxAt w g K) (hh : Bs w ph ch h) (hl : Bs w pl cl L) (hs : nh + nl ≤ 100000) (ht : Tab w 1) :
    Calls Tryd.prog 14 #[.pointer (some ⟨g, 0, none⟩), .int .i64 e, .int .i64 n, .slice ph nh ch, .slice pl nl cl] w (OwnSay (Seal.sl K e n h L) w) := by
  cases h0 : (inR e && inR n) with
  | false => exact seal_bad K h L g e n _ _ h0 w
  | true =>
    simp only [Bool.and_eq_true] at h0
    exact seal_good hT K h L g e n ph pl nh nl ch cl hnh hnl h0.1 h0.2 w hg hh hl hs ht

/-- What Open answers, in memory of its own. -/
def OpenSay (o : Option (List Int)) (w : World) (e : Ending) (w' : World) : Prop :=
  ∃ p c m, e = .returned (.tuple #[.slice p m c, .bool o.isSome]) ∧ (o.getD []).length = m ∧ Hid (w'.ownsRow w.heap.size 5 1 (.slice p m c) m (U8s (o.getD []))) ∧ Hid (Bs w' p c (o.getD [])) ∧ Below w.heap.size w w'
theorem opensay_none {w w' : World} (hb : Below w.heap.size w w') : OpenSay none w (.returned (.tuple #[.slice none 0 0, .bool false])) w' :=
  ⟨none, 0, 0, rfl, rfl, (by unfold U8s; exact World.ownsRow_nil _ _ _ _), bs_none w', hb⟩

set_option maxRecDepth 100000 in
theorem open_bad (K h S : List Int) (g : Nat) (e n : Int) (vh : Value) (pS : Option Addr) (nS cS : Nat) (hnS : S.length = nS) (hs : nS ≤ 200000) (h0 : (inR e && inR n) = false ∨ nS < 32) (w : World) :
    Calls Tryd.prog 15 #[.pointer (some ⟨g, 0, none⟩), .int .i64 e, .int .i64 n, vh, .slice pS nS cS] w (OpenSay (Seal.op K e n h S) w) := by
  rw [show Seal.op K e n h S = none by
    rcases h0 with h1 | h1
    · exact Seal.op_bad h1 _ _ _
    · exact Seal.op_short _ _ _ _ _ (by omega)]
  have HI : Hid (∀ y x, Calls Tryd.prog 26 #[.int .i64 y] x fun r x' => r = .returned (.bool (inR y)) ∧ x' = x) := fun y x => inRange_any y x
  have fin : OpenSay none w (.returned (.tuple #[.slice none 0 0, .bool false])) w := opensay_none (Below.refl _ _)
  have hw : IntKind.i64.wrap ((nS : Int) - 32) = (nS : Int) - 32 := IntWalk.i64_in _ ⟨by omega, by omega⟩
  by_cases he : inR e = true
  · by_cases hn : inR n = true
    · have hlt : (nS : Int) - 32 < 0 := by
        rcases h0 with h1 | h1
        · rw [he, hn] at h1; cases h1
        · omega
      go_enter Tryd.func15, Tryd.ntmps15
      go_wp2_with (go_at_call 26; refine (HI.out _ _).mono ?_; rintro e1 w1 ⟨rfl, rfl⟩; first | rw [he] | rw [hn])
      go_ret2
      exact fin
    · have hn2 : inR n = false := by simpa using hn
      go_enter Tryd.func15, Tryd.ntmps15
      go_wp2_with (go_at_call 26; refine (HI.out _ _).mono ?_; rintro e1 w1 ⟨rfl, rfl⟩; first | rw [he] | rw [hn2])
      go_ret2
      exact fin
  · have he2 : inR e = false := by simpa using he
    go_enter Tryd.func15, Tryd.ntmps15
    go_wp2_with (go_at_call 26; refine (HI.out _ _).mono ?_; rintro e1 w1 ⟨rfl, rfl⟩; rw [he2])
    go_ret2
    exact fin
end Go.Proofs.YtkhaiiiioieglaaDoor

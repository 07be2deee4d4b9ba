/-
  A reader in memory; contracts: Read, Left, Bad, End, Byte.
-/
import Derived.Test.YtgfnpofoedambaaPaD
namespace Go.Proofs.Ytgfnpofoedambaa
open Go.RowKit

/-- A reader at block g, its bytes in block D: what is left, and whether it is bad. -/
structure RdAt (w : World) (g : Nat) (D : Option Nat) (L : List Int) (b : Bool) : Prop where
  row : ∃ p c, w.heap[g]? = some (.cells #[.slice p L.length c, .bool b] 65 (0, 0)) ∧ Bs w p c L ∧ (∀ ad, p = some ad → D = some ad.block)
  ne : D ≠ some g
  lt : ∀ d, D = some d → d < w.heap.size
theorem RdAt.glt {w : World} {g : Nat} {D : Option Nat} {L : List Int} {b : Bool} (h : RdAt w g D L b) : g < w.heap.size := by
  obtain ⟨p, c, h1, _⟩ := h.row
  exact lt_of_block h1
theorem RdAt.drew {w : World} {g : Nat} {D : Option Nat} {L : List Int} {b : Bool} (h : RdAt w g D L b) : RdAt w.drew g D L b := by
  obtain ⟨⟨p, c, h1, h2, h3⟩, h4, h5⟩ := h
  exact ⟨⟨p, c, h1, h2.drew, h3⟩, h4, h5⟩
theorem Bs.only {w x : World} {p : Option Addr} {c k : Nat} {L : List Int} (h : Bs w p c L) (ho : Only k w x) (hk : ∀ ad, p = some ad → ad.block ≠ k) : Bs x p c L :=
  ⟨⟨h.bat.1, fun h0 => by
    obtain ⟨ab, ao, h1, h2⟩ := h.bat.2 h0
    exact ⟨ab, ao, h1, fun j hj => ho.cell (hk _ h1) (h2 j hj)⟩⟩, h.cap, h.nil⟩
theorem RdAt.only {w x : World} {g k : Nat} {D : Option Nat} {L : List Int} {b : Bool} (h : RdAt w g D L b) (ho : Only k w x) (hk : k ≠ g) (hd : D ≠ some k) : RdAt x g D L b := by
  obtain ⟨⟨p, c, h1, h2, h3⟩, h4, h5⟩ := h
  exact ⟨⟨p, c, (ho.block g (lt_of_block h1) (Ne.symm hk)).trans h1, h2.only ho (fun ad ha e => hd (by rw [h3 ad ha, e])), h3⟩, h4, fun d hd => Nat.lt_of_lt_of_le (h5 d hd) ho.size⟩
theorem RdAt.old {w x : World} {g : Nat} {D : Option Nat} {L : List Int} {b : Bool} (h : RdAt w g D L b) (hb : Below w.heap.size w x) : RdAt x g D L b := by
  obtain ⟨⟨p, c, h1, h2, h3⟩, h4, h5⟩ := h
  exact ⟨⟨p, c, (hb.block g (lt_of_block h1)).trans h1, h2.old hb, h3⟩, h4, fun d hd => Nat.lt_of_lt_of_le (h5 d hd) hb.size⟩

/-- Behind Read. -/
def NewSay (L : List Int) (w : World) (e : Ending) (w' : World) : Prop :=
  ∃ g D, e = .returned (.pointer (some ⟨g, 0, none⟩)) ∧ Hid (RdAt w' g D L false) ∧ Hid (w.heap.size ≤ g ∧ ∀ d, D = some d → w.heap.size ≤ d) ∧ Hid (Below w.heap.size w w')
set_option maxHeartbeats 1000000 in
set_option maxRecDepth 100000 in
theorem read_any (L : List Int) (p : Option Addr) (n c : Nat) (hn : L.length = n) (hL : n ≤ 1000000) (w : World) (hp : Bs w p c L) :
    Calls Try.prog 28 #[.slice p n c] w (NewSay L w) := by
  have HP := Lib.hid hp; clear hp
  have HN := Lib.hid hn
  have HC : Hid (Calls Try.prog 41 #[.slice p n c] w fun e w' => ∃ v, e = .returned v ∧ w'.ownsRow w.heap.size 5 1 v n (U8s L) ∧ Below w.heap.size w w') := clone_any L p n c hn hL w HP.out
  clear hn
  go_enter Try.func28, Try.ntmps28
  go_wp2_with (first
    | (go_at_call 41; refine HC.out.mono ?_; rintro e1 w1 ⟨v1, rfl, ho1, hb1⟩; have HO1 := Lib.hid ho1; have HB1 := Lib.hid hb1; clear ho1 hb1; obtain ⟨p1, c1, rfl, hbs, _⟩ := own_bs HO1.out HP.out.bat.1; have HBS := Lib.hid hbs; clear hbs))
  go_ret
  have hw1 : w1.heap.size < (w1.alloc (.cells #[.slice p1 n c1, .bool false] 65)).heap.size := by simp
  have HB2 : Hid (Below w.heap.size w (w1.alloc (.cells #[.slice p1 n c1, .bool false] 65))) := HB1.out.alloc HB1.out.size _
  have HBS2 : Hid (Bs (w1.alloc (.cells #[.slice p1 n c1, .bool false] 65)) p1 c1 L) := HBS.out.old ((Below.refl _ w1).alloc (Nat.le_refl _) _)
  have HD : Hid (∀ d, p1.map (·.block) = some d → w.heap.size ≤ d ∧ d < w1.heap.size) := fun d hd => by
    cases p1 with
    | none => cases hd
    | some ad =>
      cases hd
      obtain ⟨h2, h1⟩ := HO1.out.lt ad.block rfl
      exact ⟨h2, h1⟩
  refine ⟨w1.heap.size, p1.map (·.block), rfl, ⟨⟨p1, c1, by rw [HN.out]; exact heap_alloc_new w1 _, HBS2.out, fun ad h => by rw [h]; rfl⟩, fun h => ?_, fun d hd => ?_⟩, ⟨HB1.out.size, fun d hd => (HD.out d hd).1⟩, HB2.out⟩
  · have h1 := (HD.out _ h).2
    omega
  · have h1 := (HD.out _ hd).2
    omega

def LeftSay (L : List Int) (w : World) (e : Ending) (w' : World) : Prop := e = .returned (.int .i64 (L.length : Nat)) ∧ Below w.heap.size w w'
def BadSay (b : Bool) (w : World) (e : Ending) (w' : World) : Prop := e = .returned (.bool b) ∧ Below w.heap.size w w'
/-- What End answers. -/
def Pk.en (L : List Int) (b : Bool) : Int := if b then 4 else if 0 < L.length then 3 else 0
def EndSay (n : Int) (w : World) (e : Ending) (w' : World) : Prop := e = .returned (.int .i64 n) ∧ Below w.heap.size w w'
set_option maxRecDepth 100000 in
theorem end_any (L : List Int) (b : Bool) (g : Nat) (D : Option Nat) (w : World) (hr : RdAt w g D L b) : Calls Try.prog 31 #[.pointer (some ⟨g, 0, none⟩)] w (EndSay (Pk.en L b) w) := by
  obtain ⟨p, c, h1, _, _⟩ := hr.row
  have c0 : w.cell? ⟨g, 0, none⟩ = some (.slice p L.length c) := by rw [cell_of_row w g 0 _ _ _ h1]; rfl
  have c1 : w.cell? ⟨g, 1, none⟩ = some (.bool b) := by rw [cell_of_row w g 1 _ _ _ h1]; rfl
  cases b with
  | true =>
    go_enter Try.func31, Try.ntmps31
    go_wp2
    go_ret
    exact ⟨rfl, Below.refl _ _⟩
  | false =>
    by_cases h0 : 0 < L.length
    · have HE : Hid (Pk.en L false = 3) := by show _ = _; unfold Pk.en; simp [h0]
      have h0' : ((L.length : Nat) : Int) > 0 := by omega
      go_enter Try.func31, Try.ntmps31
      go_wp2
      go_ret
      exact ⟨by rw [HE.out]; rfl, Below.refl _ _⟩
    · have HE : Hid (Pk.en L false = 0) := by show _ = _; unfold Pk.en; simp [h0]
      have h0' : ¬ ((L.length : Nat) : Int) > 0 := by omega
      go_enter Try.func31, Try.ntmps31
      go_wp2
      go_ret
      exact ⟨by rw [HE.out]; rfl, Below.refl _ _⟩
end Go.Proofs.Ytgfnpofoedambaa

/-
  The reference's reader in memory; contracts: Read, Left, End, next.
-/
import Derived.Test.YtgfnpofoedambaaPaN
namespace Go.Proofs.Ytgfnpofoedambaa
open Go.RowKit

/-- The reference's reader at block g, its bytes in block D: what is left, and whether it is bad. -/
structure RfRd (w : World) (g : Nat) (D : Option Nat) (L : List Int) (b : Bool) : Prop where
  row : ∃ p c a B, w.heap[g]? = some (.cells #[.slice p (List.length B) c, .int .i64 (a : Nat), .bool b] 71 (0, 0)) ∧ Bs w p c B ∧ a ≤ B.length ∧ B.length ≤ 1000000 ∧ (b = false → L = B.drop a) ∧ (b = true → L = []) ∧ (∀ ad, p = some ad → D = some ad.block)
  ne : D ≠ some g
  lt : ∀ d, D = some d → d < w.heap.size
theorem RfRd.glt {w : World} {g : Nat} {D : Option Nat} {L : List Int} {b : Bool} (h : RfRd w g D L b) : g < w.heap.size := by
  obtain ⟨p, c, a, B, h1, _⟩ := h.row
  exact lt_of_block h1
theorem RfRd.only {w x : World} {g k : Nat} {D : Option Nat} {L : List Int} {b : Bool} (h : RfRd w g D L b) (ho : Only k w x) (hk : k ≠ g) (hd : D ≠ some k) : RfRd x g D L b := by
  obtain ⟨⟨p, c, a, B, h1, h2, h3, h6, h7, h8, h9⟩, h4, h5⟩ := h
  exact ⟨⟨p, c, a, B, (ho.block g (lt_of_block h1) (Ne.symm hk)).trans h1, h2.only ho (fun ad ha e => hd (by rw [h9 ad ha, e])), h3, h6, h7, h8, h9⟩, h4, fun d hd => Nat.lt_of_lt_of_le (h5 d hd) ho.size⟩
theorem RfRd.old {w x : World} {g : Nat} {D : Option Nat} {L : List Int} {b : Bool} (h : RfRd w g D L b) (hb : Below w.heap.size w x) : RfRd x g D L b := by
  obtain ⟨⟨p, c, a, B, h1, h2, h3⟩, h4, h5⟩ := h
  exact ⟨⟨p, c, a, B, (hb.block g (lt_of_block h1)).trans h1, h2.old hb, h3⟩, h4, fun d hd => Nat.lt_of_lt_of_le (h5 d hd) hb.size⟩

def RfNew (L : List Int) (w : World) (e : Ending) (w' : World) : Prop :=
  ∃ g D, e = .returned (.pointer (some ⟨g, 0, none⟩)) ∧ Hid (RfRd w' g D L false) ∧ Hid (w.heap.size ≤ g ∧ ∀ d, D = some d → w.heap.size ≤ d) ∧ Hid (Below w.heap.size w w')
set_option maxHeartbeats 1000000 in
set_option maxRecDepth 100000 in
theorem refread_any (L : List Int) (p : Option Addr) (n c : Nat) (hn : L.length = n) (hL : n ≤ 1000000) (w : World) (hp : Bs w p c L) :
    Calls Try.prog 32 #[.slice p n c] w (RfNew L w) := by
  have HP := Lib.hid hp; clear hp
  have HN := Lib.hid hn; clear hn
  have HO : Hid ((w.alloc (.cells #[] 5)).ownsRow w.heap.size 5 1 (.slice (some ⟨w.heap.size, 0, none⟩) 0 0) 0 (U8s [])) := by
    refine ⟨by unfold U8s; rfl, Or.inr ⟨w.heap.size, 0, _, rfl, Nat.le_refl _, heap_alloc_new w _, Nat.le_refl _, by unfold maxLen; omega, by simp, by unfold U8s; simp⟩⟩
  have HB : Hid (Below w.heap.size w (w.alloc (.cells #[] 5))) := (Below.refl _ w).alloc (Nat.le_refl _) _
  have HBS : Hid (Bs (w.alloc (.cells #[] 5)) p c L) := HP.out.old HB.out
  go_enter Try.func32, Try.ntmps32
  go_wp2_with (first
    | (at_builtin; refine append_bts _ _ L w.heap.size _ _ _ p _ c rfl rfl HN.out HBS.out HO.out (by omega) (by simp) ?_; intro v5 w5 ho5 hg5; have HO5 := Lib.hid ho5; have HG5 := Lib.hid hg5; clear ho5 hg5; obtain ⟨p1, c1, rfl, hbs, _⟩ := own_bs HO5.out (Sha.byt_append (fun x hx => by cases hx) HP.out.bat.1); have HB5 := Lib.hid hbs; clear hbs)
    | go_in)
  go_ret
  have HB6 : Hid (Below w.heap.size w w5) := HB.out.grown HG5.out (by simp) (fun q hq => (HO.out.lt q hq).1)
  have HB7 : Hid (Below w.heap.size w (w5.alloc (.cells #[.slice p1 L.length c1, .int .i64 0, .bool false] 71))) := HB6.out.alloc HB6.out.size _
  have HBS2 : Hid (Bs (w5.alloc (.cells #[.slice p1 L.length c1, .int .i64 0, .bool false] 71)) p1 c1 L) := by
    have h := HB5.out.old ((Below.refl _ w5).alloc (Nat.le_refl _) (.cells #[.slice p1 L.length c1, .int .i64 0, .bool false] 71))
    rw [List.nil_append] at h
    exact h
  have HD : Hid (∀ d, p1.map (·.block) = some d → w.heap.size ≤ d ∧ d < w5.heap.size) := fun d hd => by
    cases p1 with
    | none => cases hd
    | some ad =>
      cases hd
      obtain ⟨h2, h1⟩ := HO5.out.lt ad.block rfl
      exact ⟨h2, h1⟩
  refine ⟨w5.heap.size, p1.map (·.block), rfl, ⟨⟨p1, c1, 0, L, heap_alloc_new w5 _, HBS2.out, Nat.zero_le _, by rw [HN.out]; omega, fun _ => by rw [List.drop_zero], fun h => (by cases h), fun ad h => by rw [h]; rfl⟩, fun h => ?_, fun d hd => ?_⟩, ⟨HB6.out.size, fun d hd => (HD.out d hd).1⟩, HB7.out⟩
  · have h1 := (HD.out _ h).2
    omega
  · have h1 := (HD.out _ hd).2
    simp
    omega

set_option maxRecDepth 100000 in
theorem refleft_any (L : List Int) (b : Bool) (g : Nat) (D : Option Nat) (w : World) (hr : RfRd w g D L b) : Calls Try.prog 47 #[.pointer (some ⟨g, 0, none⟩)] w (LeftSay L w) := by
  obtain ⟨p, c, a, B, h1, h2, h3, h6, h7, h8, h9⟩ := hr.row
  have c0 : w.cell? ⟨g, 0, none⟩ = some (.slice p B.length c) := by rw [cell_of_row w g 0 _ _ _ h1]; rfl
  have c1 : w.cell? ⟨g, 1, none⟩ = some (.int .i64 (a : Nat)) := by rw [cell_of_row w g 1 _ _ _ h1]; rfl
  have c2 : w.cell? ⟨g, 2, none⟩ = some (.bool b) := by rw [cell_of_row w g 2 _ _ _ h1]; rfl
  cases b with
  | true =>
    have HE := Lib.hid (h8 rfl)
    clear h1 h2 h3 h6 h7 h8 h9 hr
    go_enter Try.func47, Try.ntmps47
    go_wp2
    go_ret
    exact ⟨by rw [HE.out]; rfl, Below.refl _ _⟩
  | false =>
    have HE : Hid (((B.length : Nat) : Int) - ((a : Nat) : Int) = ((L.length : Nat) : Int)) := by
      show _ = _
      rw [h7 rfl, List.length_drop]
      omega
    clear h1 h2 h7 h8 h9 hr
    generalize B.length = n at *
    have hw : wrap64 ((n : Int) - (a : Int)) = (n : Int) - (a : Int) := IntWalk.wrap64_in _ ⟨by omega, by omega⟩
    go_enter Try.func47, Try.ntmps47
    go_wp2
    go_quiet (fail)
    go_wp2
    go_ret
    exact ⟨by rw [← HE.out]; rfl, below_dn (Below.refl _ _) _⟩
set_option maxRecDepth 100000 in
theorem refend_any (L : List Int) (b : Bool) (g : Nat) (D : Option Nat) (w : World) (hr : RfRd w g D L b) : Calls Try.prog 35 #[.pointer (some ⟨g, 0, none⟩)] w (EndSay (Pk.en L b) w) := by
  obtain ⟨p, c, a, B, h1, h2⟩ := hr.row
  have c2 : w.cell? ⟨g, 2, none⟩ = some (.bool b) := by rw [cell_of_row w g 2 _ _ _ h1]; rfl
  have HR := Lib.hid hr
  clear h1 h2 hr
  cases b with
  | true =>
    go_enter Try.func35, Try.ntmps35
    go_wp2
    go_ret
    exact ⟨rfl, Below.refl _ _⟩
  | false =>
    have HC := Lib.hid (refleft_any L false g D w HR.out)
    by_cases h0 : 0 < L.length
    · have HE : Hid (Pk.en L false = 3) := by show _ = _; unfold Pk.en; simp [h0]
      have h0' : ((L.length : Nat) : Int) > 0 := by omega
      go_enter Try.func35, Try.ntmps35
      go_wp2_with (go_at_call 47; refine HC.out.mono ?_; rintro e1 w1 ⟨rfl, hb⟩)
      go_ret
      exact ⟨by rw [HE.out]; rfl, hb⟩
    · have HE : Hid (Pk.en L false = 0) := by show _ = _; unfold Pk.en; simp [h0]
      have h0' : ¬ ((L.length : Nat) : Int) > 0 := by omega
      go_enter Try.func35, Try.ntmps35
      go_wp2_with (go_at_call 47; refine HC.out.mono ?_; rintro e1 w1 ⟨rfl, hb⟩)
      go_ret
      exact ⟨by rw [HE.out]; rfl, hb⟩
end Go.Proofs.Ytgfnpofoedambaa

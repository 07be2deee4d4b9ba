/-
  The law MacInner walked: two hashes under way.
-/
import Derived.Test.YtjidkkehhglahaaDoorMacG
namespace Go.Proofs.YtjidkkehhglahaaDoor
open Go.RowKit

theorem Holds.only {wi w' : World} {G G2 : Nat} {L : List Int} (h : Holds wi G2 L) (ho : Only G wi w') (hne : G2 ≠ G) : Holds w' G2 L := by
  obtain ⟨R, h1, h2⟩ := h
  refine ⟨R, h1, ?_⟩
  unfold HBlk at h2 ⊢
  rw [ho.block _ (lt_of_block h2) hne]
  exact h2
/-- Two hashes under way. -/
def S2 (w wi : World) (G1 G2 : Nat) (L1 L2 : List Int) : Prop := St w wi G1 L1 ∧ St w wi G2 L2 ∧ G1 ≠ G2
theorem S2.alloc {w wi : World} {G1 G2 : Nat} {L1 L2 : List Int} (h : S2 w wi G1 G2 L1 L2) (o : Obj) : S2 w (wi.alloc o) G1 G2 L1 L2 :=
  ⟨h.1.below ((Below.refl _ wi).alloc (Nat.le_refl _) o), h.2.1.below ((Below.refl _ wi).alloc (Nat.le_refl _) o), h.2.2⟩
theorem S2.below {w wi w' : World} {G1 G2 : Nat} {L1 L2 : List Int} (h : S2 w wi G1 G2 L1 L2) (hb : Below wi.heap.size wi w') : S2 w w' G1 G2 L1 L2 :=
  ⟨h.1.below hb, h.2.1.below hb, h.2.2⟩
theorem St.other {w wi w' : World} {G G2 : Nat} {L : List Int} (h : St w wi G2 L) (hb : Below w.heap.size w w') (ht : Tab w' 0) (ho : Only G wi w') (hne : G2 ≠ G) : St w w' G2 L :=
  ⟨h.1.only ho hne, hb, ht, h.2.2.2.1, h.2.2.2.2.1, Nat.le_trans h.2.2.2.2.2 ho.size⟩
theorem add_one (hT : TakeSaid) {w wi : World} {G1 G2 : Nat} {L1 L2 : List Int} (c : List Int) (p : Option Addr) (n cap : Nat) (hn : c.length = n) (hs : S2 w wi G1 G2 L1 L2) (hb : BytesAt wi G1 p c) (hc : n ≤ cap) (hcm : cap ≤ 9223372036854775807) (hL : L1.length + n ≤ 1152921504606846000) :
    Calls Tryd.prog 6 #[.pointer (some ⟨G1, 0, none⟩), .slice p n cap] wi fun e w' => e = .returned (.tuple #[]) ∧ S2 w w' G1 G2 (L1 ++ c) L2 :=
  (add_st hT c p n cap hn hs.1 hb hc hcm hL).mono fun _ _ h => ⟨h.1, h.2.1, hs.2.1.other h.2.1.2.1 h.2.1.2.2.1 h.2.2 (Ne.symm hs.2.2), hs.2.2⟩
theorem add_two (hT : TakeSaid) {w wi : World} {G1 G2 : Nat} {L1 L2 : List Int} (c : List Int) (p : Option Addr) (n cap : Nat) (hn : c.length = n) (hs : S2 w wi G1 G2 L1 L2) (hb : BytesAt wi G2 p c) (hc : n ≤ cap) (hcm : cap ≤ 9223372036854775807) (hL : L2.length + n ≤ 1152921504606846000) :
    Calls Tryd.prog 6 #[.pointer (some ⟨G2, 0, none⟩), .slice p n cap] wi fun e w' => e = .returned (.tuple #[]) ∧ S2 w w' G1 G2 L1 (L2 ++ c) :=
  (add_st hT c p n cap hn hs.2.1 hb hc hcm hL).mono fun _ _ h => ⟨h.1, hs.1.other h.2.1.2.1 h.2.1.2.2.1 h.2.2 hs.2.2, h.2.1, hs.2.2⟩
/-- One byte in a block of the call's own. -/
theorem one_byte (w : World) (x : Int) (t : TypeId) (g : Nat) (hx : 0 ≤ x ∧ x ≤ 255) (hg : g < w.heap.size) : BytesAt (w.alloc (.cells #[.int .u8 x] t)) g (some ⟨w.heap.size, 0, none⟩) [x] :=
  bytes_at' (l := [x]) (t := t) (fun y hy => by simp at hy; subst hy; exact hx) (by omega) (heap_alloc_new w _)

theorem bytes_nil {w : World} {g : Nat} {p : Option Addr} {l : List Int} (h : l.length = 0) : BytesAt w g p l := by
  obtain rfl : l = [] := List.eq_nil_of_length_eq_zero h
  exact ⟨fun x hx => by simp at hx, fun h0 => by simp at h0⟩
theorem bat_bytes {w : World} {g B : Nat} {p : Option Addr} {l : List Int} (h : BAt w p l) (hp : p = some ⟨B, 0, none⟩) (hne : B ≠ g) : BytesAt w g p l :=
  ⟨h.1, fun h0 => by
    obtain ⟨ab, ao, h1, h2⟩ := h.2 h0
    rw [hp] at h1
    cases h1
    exact ⟨B, 0, hp, hne, h2⟩⟩
theorem lt_holds {w wi : World} {G : Nat} {L : List Int} (h : St w wi G L) : G < wi.heap.size := by
  obtain ⟨R, _, h2⟩ := h.1
  exact lt_of_block h2

theorem k64_get (K : List Int) (j : Nat) (h1 : K.length ≤ 64) (h2 : j < 64) : (kb K).getD j 0 = if j < K.length then K.getD j 0 else 0 := by
  rw [kb_short K h1]
  unfold k64
  rw [List.getD_eq_getElem?_getD]
  by_cases h : j < K.length
  · rw [if_pos h, List.getElem?_append_left h, List.getD_eq_getElem?_getD]
  · rw [if_neg h, List.getElem?_append_right (by omega), List.getElem?_replicate, if_pos (by omega)]
    rfl
theorem xl_get (x : Int) (l : List Int) (j : Nat) (h : j < l.length) : (xl x l).take j ++ [bits .xor .u8 (l.getD j 0) x] = (xl x l).take (j + 1) := by
  rw [← take_snoc (xl x l) j (by rw [xl_len]; exact h)]
  congr 2
  unfold xl
  rw [List.getD_eq_getElem?_getD, List.getD_eq_getElem?_getD, List.getElem?_map, List.getElem?_eq_getElem h]
  rfl

end Go.Proofs.YtjidkkehhglahaaDoor

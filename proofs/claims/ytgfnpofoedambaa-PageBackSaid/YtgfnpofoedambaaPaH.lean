/-
  Contracts: a reader's Byte, Int, Sum, Ref.
-/
import Derived.Test.YtgfnpofoedambaaPaG
namespace Go.Proofs.Ytgfnpofoedambaa
open Go.RowKit

/-- Behind a call that reads. -/
def RdSay (v : Value) (L : List Int) (b : Bool) (g : Nat) (D : Option Nat) (w : World) (e : Ending) (w' : World) : Prop :=
  e = .returned v ∧ Hid (RdAt w' g D L b) ∧ Hid (Only g w w')
theorem RdAt.spoilt {w : World} {g : Nat} {D : Option Nat} {L : List Int} {b : Bool} (h : RdAt w g D L b) :
    RdAt ((w.setCell ⟨g, 0, none⟩ (.slice none 0 0)).setCell ⟨g, 1, none⟩ (.bool true)) g D [] true ∧ Only g w ((w.setCell ⟨g, 0, none⟩ (.slice none 0 0)).setCell ⟨g, 1, none⟩ (.bool true)) := by
  obtain ⟨⟨p, c, h1, h2, h3⟩, h4, h5⟩ := h
  refine ⟨⟨⟨none, 0, ?_, bs_none _, fun ad h => by cases h⟩, h4, fun d hd => by simpa using h5 d hd⟩, ((Chg.setCell w ⟨g, 0, none⟩ _).trans (Chg.setCell _ ⟨g, 1, none⟩ _)).only⟩
  rw [heap_setCell_same _ g 1 _ _ _ (heap_setCell_same _ g 0 _ _ _ h1)]
  rfl
/-- Where so many bytes on lie. -/
abbrev adv (ab ao k c : Nat) : Option Addr := if c = k then some ⟨ab, ao, none⟩ else some ⟨ab, ao + k, none⟩
theorem adv_bs {w : World} {ab ao c k : Nat} {L : List Int} (h : Bs w (some ⟨ab, ao, none⟩) c L) (hk : k ≤ L.length) : Bs w (adv ab ao k c) (c - k) (L.drop k) := by
  have hc := h.cap
  unfold adv
  by_cases e : k < L.length
  · rw [if_neg (by omega)]
    exact h.dropk e
  · rw [List.drop_of_length_le (by omega)]
    refine ⟨⟨fun x hx => by simp at hx, fun h0 => by simp at h0⟩, ⟨by simp, by omega⟩, fun h0 => ?_⟩
    split at h0 <;> cases h0
theorem RdAt.step {w : World} {g ab ao c k n m d : Nat} {D : Option Nat} {L : List Int} {b : Bool} (h : RdAt w g D L b) (h1 : w.heap[g]? = some (.cells #[.slice (some ⟨ab, ao, none⟩) n c, .bool b] 65 (0, 0))) (hB : Bs w (some ⟨ab, ao, none⟩) c L) (hn : L.length = n) (hk : k ≤ n) (hm : n - k = m) (hd : c - k = d) (hD : D = some ab) :
    RdAt (w.setCell ⟨g, 0, none⟩ (.slice (adv ab ao k c) m d)) g D (L.drop k) b ∧ Only g w (w.setCell ⟨g, 0, none⟩ (.slice (adv ab ao k c) m d)) := by
  subst hd
  subst hm
  subst hn
  have ho : Only g w (w.setCell ⟨g, 0, none⟩ (.slice (adv ab ao k c) (L.length - k) (c - k))) := (Chg.setCell w ⟨g, 0, none⟩ _).only
  have hne : ∀ ad, adv ab ao k c = some ad → ad.block = ab := fun ad h => by
    unfold adv at h
    split at h <;> cases h <;> rfl
  refine ⟨⟨⟨adv ab ao k c, c - k, ?_, (adv_bs hB hk).only ho (fun ad hq e => ?_), fun ad h => by rw [hne ad h, hD]⟩, h.ne, fun d hd => by simpa using h.lt d hd⟩, ho⟩
  · rw [heap_setCell_same _ g 0 _ _ _ h1, List.length_drop]
    rfl
  · rw [hne ad hq] at e
    exact h.ne (by rw [hD, e])
theorem RdAt.parts {w : World} {g : Nat} {D : Option Nat} {L : List Int} {b : Bool} (h : RdAt w g D L b) {n : Nat} (hn : L.length = n) (h0 : 0 < n) :
    ∃ ab ao c, w.heap[g]? = some (.cells #[.slice (some ⟨ab, ao, none⟩) n c, .bool b] 65 (0, 0)) ∧ Bs w (some ⟨ab, ao, none⟩) c L ∧ D = some ab ∧ n ≤ c ∧ c ≤ 9223372036854775807 := by
  subst hn
  obtain ⟨⟨p, c, h1, h2, h3⟩, h4, h5⟩ := h
  obtain ⟨ab, ao, rfl, _⟩ := h2.bat.2 h0
  exact ⟨ab, ao, c, h1, h2, h3 _ rfl, h2.cap⟩
set_option maxHeartbeats 1000000 in
set_option maxRecDepth 100000 in
theorem rint_any (L : List Int) (b : Bool) (g : Nat) (D : Option Nat) (n : Nat) (hn : L.length = n) (hL : n ≤ 10000000) (w : World) (hr : RdAt w g D L b) :
    Calls Try.prog 29 #[.pointer (some ⟨g, 0, none⟩)] w (RdSay (.int .i64 (Pk.vi L)) (Pk.nx 8 L) (Pk.nb 8 L b) g D w) := by
  have HN := Lib.hid hn; clear hn
  by_cases hlt : n < 8
  · have HV : Hid ((.int .i64 (Pk.vi L)) = (.int .i64 0 : Value)) := by show _ = _; unfold Pk.vi; rw [HN.out, if_pos hlt]
    have HX : Hid (Pk.nx 8 L = []) := by show _ = _; unfold Pk.nx; rw [HN.out, if_pos hlt]
    have HB : Hid (Pk.nb 8 L b = true) := by show _ = _; unfold Pk.nb; rw [HN.out, if_pos hlt]
    rw [HV.out, HX.out, HB.out]
    clear HV HX HB
    have HS := Lib.hid hr.spoilt
    obtain ⟨p, c, h1, _, _⟩ := hr.row
    rw [HN.out] at h1
    have c0 : w.cell? ⟨g, 0, none⟩ = some (.slice p n c) := by rw [cell_of_row w g 0 _ _ _ h1]; rfl
    have f0 := frozen_of_row w g 0 _ _ h1
    have h2 := heap_setCell_same w g 0 _ _ (Value.slice none 0 0) h1
    have c1 : (w.setCell ⟨g, 0, none⟩ (.slice none 0 0)).cell? ⟨g, 1, none⟩ = some (.bool b) := by rw [cell_of_row _ g 1 _ _ _ h2]; rfl
    have f1 := frozen_of_row _ g 1 _ _ h2
    have hlt' : (n : Int) < 8 := by omega
    clear hr h1 h2
    go_enter Try.func29, Try.ntmps29
    go_wp2
    go_ret
    exact ⟨rfl, HS.out.1, HS.out.2⟩
  · obtain ⟨ab, ao, c, h1, hB, hD, hcap⟩ := hr.parts HN.out (by omega)
    have HX : Hid (Pk.nx 8 L = L.drop 8) := by show _ = _; unfold Pk.nx; rw [HN.out, if_neg hlt]
    have HB : Hid (Pk.nb 8 L b = b) := by show _ = _; unfold Pk.nb; rw [HN.out, if_neg hlt]
    have HV : Hid (Pk.in8 (L.take 8) = Pk.vi L) := by
      show _ = _
      unfold Pk.vi
      rw [HN.out, if_neg hlt]
    rw [HX.out, HB.out]
    clear HX HB
    have hnn : 8 ≤ n := by omega
    have HS := Lib.hid (hr.step (k := 8) (m := n - 8) (d := c - 8) h1 hB HN.out hnn rfl rfl hD)
    have HT : Hid (Bs (w.setCell ⟨g, 0, none⟩ (.slice (adv ab ao 8 c) (n - 8) (c - 8))) (some ⟨ab, ao, none⟩) c (L.take 8)) :=
      (hB.only HS.out.2 (fun ad h e => by cases h; exact hr.ne (by rw [hD]; exact congrArg some e))).take 8
    have HTL : Hid ((L.take 8).length = 8) := by show _ = _; rw [List.length_take, HN.out]; omega
    have HC : Hid (Calls Try.prog 43 #[.slice (some ⟨ab, ao, none⟩) 8 c] (w.setCell ⟨g, 0, none⟩ (.slice (adv ab ao 8 c) (n - 8) (c - 8))) fun e w' => e = .returned (.int .i64 (Pk.vi L)) ∧ w' = w.setCell ⟨g, 0, none⟩ (.slice (adv ab ao 8 c) (n - 8) (c - 8))) := by
      rw [← HV.out]
      exact toint_any (L.take 8) _ 8 c HTL.out (by omega) _ HT.out
    obtain ⟨X, HXe⟩ : ∃ X, Hid (L.drop 8 = X) := ⟨_, rfl⟩
    rw [HXe.out] at HS ⊢
    have c0 : w.cell? ⟨g, 0, none⟩ = some (.slice (some ⟨ab, ao, none⟩) n c) := by rw [cell_of_row w g 0 _ _ _ h1]; rfl
    have f0 := frozen_of_row w g 0 _ _ h1
    have hge : ¬ ((n : Int) < 8) := by omega
    have hcc : ¬ ((c : Int) < 8) := by omega
    have hkn : (8 : Int) ≤ (n : Int) := by omega
    clear hr h1 hB hD hlt hL
    go_enter Try.func29, Try.ntmps29
    go_wp2_with (first
      | (go_at_call 43; refine HC.out.mono ?_; rintro e2 w2 ⟨rfl, rfl⟩)
      | go_in)
    all_goals
      first
        | (have hce : c = 8 := (by first | assumption | omega); rw [hce] at HS; go_ret; exact ⟨rfl, HS.out.1, HS.out.2⟩)
        | (go_ret; exact ⟨rfl, HS.out.1, HS.out.2⟩)

end Go.Proofs.Ytgfnpofoedambaa

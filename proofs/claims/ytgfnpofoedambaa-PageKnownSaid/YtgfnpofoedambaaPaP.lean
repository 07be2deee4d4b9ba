/-
  Contract of the reference's reader: next.
-/
import Derived.Test.YtgfnpofoedambaaPaO
namespace Go.Proofs.Ytgfnpofoedambaa
open Go.RowKit

theorem only_of_below_any {g : Nat} {w w' : World} (h : Below w.heap.size w w') : Only g w w' := ⟨h.os, h.tape, h.output, h.size, fun k hk _ => h.block k hk⟩
theorem Bs.drewN {w : World} {p : Option Addr} {c : Nat} {L : List Int} (h : Bs w p c L) (n : Nat) : Bs (w.drewN n) p c L := ⟨h.bat.drewN n, h.cap, h.nil⟩
theorem RfRd.drewN {w : World} {g : Nat} {D : Option Nat} {L : List Int} {b : Bool} (h : RfRd w g D L b) (n : Nat) : RfRd (w.drewN n) g D L b := h.old ⟨rfl, rfl, rfl, Nat.le_refl _, fun _ _ => rfl⟩
theorem Only.drewN {g : Nat} {w x : World} (h : Only g w x) (n : Nat) : Only g w (x.drewN n) := ⟨h.os, h.tape, h.output, h.size, h.block⟩
def NxShort (g : Nat) (D : Option Nat) (w : World) (e : Ending) (w' : World) : Prop :=
  e = .returned (.tuple #[.slice none 0 0, .bool false]) ∧ Hid (RfRd w' g D [] true) ∧ Hid (Only g w w')
set_option maxHeartbeats 1000000 in
set_option maxRecDepth 100000 in
theorem next_short (L : List Int) (b : Bool) (g : Nat) (D : Option Nat) (n k : Nat) (hn : L.length = n) (hk : n < k) (w : World) (hr : RfRd w g D L b) :
    Calls Try.prog 46 #[.pointer (some ⟨g, 0, none⟩), .int .i64 (k : Nat)] w (NxShort g D w) := by
  have HC : Hid (∀ y, Below w.heap.size w y → Calls Try.prog 47 #[.pointer (some ⟨g, 0, none⟩)] y fun e w' => e = .returned (.int .i64 (n : Nat)) ∧ Below y.heap.size y w') := fun y hy => by
    have h := refleft_any L b g D y (hr.old hy)
    unfold LeftSay at h
    rw [hn] at h
    exact h
  have HR := Lib.hid hr
  have hlt : (n : Int) < (k : Int) := by omega
  have HF : Hid (∀ y, Below w.heap.size w y → (∃ v, y.cell? ⟨g, 2, none⟩ = some v) ∧ y.frozen? ⟨g, 2, none⟩ = false ∧ RfRd (y.setCell ⟨g, 2, none⟩ (.bool true)) g D [] true) := fun y hy => by
    obtain ⟨⟨p, c, a, B, h1, h2, h3, h6, h7, h8, h9⟩, h4, h5⟩ := HR.out.old hy
    refine ⟨⟨.bool b, by rw [cell_of_row y g 2 _ _ _ h1]; rfl⟩, frozen_of_row y g 2 _ _ h1, ⟨p, c, a, B, ?_, h2.only (Chg.setCell y ⟨g, 2, none⟩ _).only (fun ad h e => h4 (by rw [h9 ad h, e])), h3, h6, fun h => (by cases h), fun _ => rfl, h9⟩, h4, fun d hd => by simpa using h5 d hd⟩
    rw [heap_setCell_same y g 2 _ _ _ h1]
    rfl
  have B0 : Hid (Below w.heap.size w w) := Below.refl _ _
  clear hr hn HR
  go_enter Try.func46, Try.ntmps46
  go_wp2_with (go_at_call 47; refine (HC.out _ B0.out).mono ?_; rintro e1 w1 ⟨rfl, hb⟩; obtain ⟨⟨v0, c0⟩, f0, hf⟩ := HF.out _ hb; have HF1 := Lib.hid hf; clear hf; have HB1 := Lib.hid hb; clear hb)
  go_ret2
  exact ⟨rfl, HF1.out, (only_of_below_any HB1.out).trans (Chg.setCell w1 ⟨g, 2, none⟩ _).only⟩

def NxGood (L : List Int) (k g : Nat) (D : Option Nat) (w : World) (e : Ending) (w' : World) : Prop :=
  ∃ ab o c, e = .returned (.tuple #[.slice (some ⟨ab, o, none⟩) k c, .bool true]) ∧ Hid (Bs w' (some ⟨ab, o, none⟩) c (L.take k)) ∧ Hid (RfRd w' g D (L.drop k) false) ∧ Hid (Only g w w') ∧ Hid (D = some ab)
set_option maxHeartbeats 2000000 in
set_option maxRecDepth 100000 in
theorem next_good (L : List Int) (b : Bool) (g : Nat) (D : Option Nat) (n k : Nat) (hn : L.length = n) (hk : k ≤ n) (h0 : 0 < k) (w : World) (hr : RfRd w g D L b) :
    Calls Try.prog 46 #[.pointer (some ⟨g, 0, none⟩), .int .i64 (k : Nat)] w (NxGood L k g D w) := by
  have hbf : b = false := by
    cases b with
    | false => rfl
    | true =>
      obtain ⟨p, c, a, B, h1, h2, h3, h6, h7, h8, h9⟩ := hr.row
      rw [h8 rfl] at hn
      simp at hn
      omega
  subst hbf
  have HC : Hid (∀ y, Below w.heap.size w y → Calls Try.prog 47 #[.pointer (some ⟨g, 0, none⟩)] y fun e w' => e = .returned (.int .i64 (n : Nat)) ∧ Below y.heap.size y w') := fun y hy => by
    have h := refleft_any L false g D y (hr.old hy)
    unfold LeftSay at h
    rw [hn] at h
    exact h
  have hlt : ¬ (n : Int) < (k : Int) := by omega
  obtain ⟨⟨p, c, a, B, h1, h2, h3, h6, h7, h8, h9⟩, h4, h5⟩ := hr
  have hLB := h7 rfl
  have hnl : n = B.length - a := by rw [← hn, hLB, List.length_drop]
  obtain ⟨m, hm⟩ : ∃ m, B.length = m := ⟨_, rfl⟩
  have hcap := h2.cap
  obtain ⟨ab, ao, rfl, _⟩ := h2.bat.2 (by omega)
  have HD : Hid (D = some ab) := h9 _ rfl
  have HROW : Hid (∀ y, Below w.heap.size w y → y.heap[g]? = some (.cells #[.slice (some ⟨ab, ao, none⟩) m c, .int .i64 (a : Nat), .bool false] 71 (0, 0))) := fun y hy => by
    rw [← hm]
    exact (hy.block g (lt_of_block h1)).trans h1
  have HBS : Hid (∀ y, Below w.heap.size w y → Bs (y.setCell ⟨g, 1, none⟩ (.int .i64 ((a : Int) + (k : Int)))) (some ⟨ab, ao, none⟩) c B) := fun y hy =>
    (h2.old hy).only (Chg.setCell y ⟨g, 1, none⟩ _).only (fun ad h e => h4 (by rw [h9 ad h, e]))
  have HTK : Hid (∀ y, Bs y (some ⟨ab, ao, none⟩) c B → Bs y (some ⟨ab, ao + a, none⟩) (c - a) (L.take k)) := fun y hy => by
    rw [hLB]
    exact (hy.dropk (by omega)).take k
  have HDR : Hid (L.drop k = B.drop (a + k)) := by show _ = _; rw [hLB, List.drop_drop]
  have HLT : Hid (∀ d, D = some d → d < w.heap.size) := h5
  have HNE : Hid (D ≠ some g) := h4
  have HML : Hid (B.length = m) := hm
  have B0 : Hid (Below w.heap.size w w) := Below.refl _ _
  have hmc : m ≤ c := by omega
  have hma : a + k ≤ m := by omega
  have hmb : m ≤ 1000000 := by omega
  have hcc : c ≤ 9223372036854775807 := hcap.2
  clear hn h1 h2 h3 h4 h5 h6 h7 h8 h9 hLB hnl hm hcap
  have hw2 : IntKind.i64.wrap ((a : Int) + (k : Int) - (k : Int)) = (a : Int) := by rw [IntWalk.i64_in _ ⟨by omega, by omega⟩]; omega
  have hw3 : wrap64 ((a : Int) + (k : Int) - (k : Int)) = (a : Int) := by rw [IntWalk.wrap64_in _ ⟨by omega, by omega⟩]; omega
  have hca : ¬ c = a := by omega
  have hi1 : ¬ ((a : Int) + (k : Int) < (a : Int)) := by omega
  have hi2 : ¬ ((c : Int) < (a : Int) + (k : Int)) := by omega
  have hak : a + k - a = k := by omega
  go_enter Try.func46, Try.ntmps46
  go_upto_region 4 with (go_at_call 47; refine (HC.out _ B0.out).mono ?_; rintro e1 w1 ⟨rfl, hb⟩; have r1 := HROW.out _ hb; have c1 : w1.cell? ⟨g, 1, none⟩ = some (.int .i64 (a : Nat)) := (by rw [cell_of_row w1 g 1 _ _ _ r1]; rfl); have f1 := frozen_of_row w1 g 1 _ _ r1; have HB1 := Lib.hid hb; clear hb)
  go_upto_region 5 with (fail)
  have r1 := HROW.out _ HB1.out
  have r2 := heap_setCell_same w1 g 1 _ _ (Value.int .i64 ((a : Int) + (k : Int))) r1
  have HB2 := Lib.hid (HBS.out _ HB1.out)
  have HO2 : Hid (Only g w (w1.setCell ⟨g, 1, none⟩ (.int .i64 ((a : Int) + (k : Int))))) := (only_of_below_any HB1.out).trans (Chg.setCell w1 ⟨g, 1, none⟩ _).only
  have d0 : (w1.setCell ⟨g, 1, none⟩ (.int .i64 ((a : Int) + (k : Int)))).cell? ⟨g, 0, none⟩ = some (.slice (some ⟨ab, ao, none⟩) m c) := by rw [cell_of_row _ g 0 _ _ _ r2]; rfl
  have d1 : (w1.setCell ⟨g, 1, none⟩ (.int .i64 ((a : Int) + (k : Int)))).cell? ⟨g, 1, none⟩ = some (.int .i64 ((a : Int) + (k : Int))) := by rw [cell_of_row _ g 1 _ _ _ r2]; rfl
  have HR2 : Hid (RfRd (w1.setCell ⟨g, 1, none⟩ (.int .i64 ((a : Int) + (k : Int)))) g D (L.drop k) false) := by
    refine ⟨⟨some ⟨ab, ao, none⟩, c, a + k, B, ?_, HB2.out, by rw [HML.out]; exact hma, by rw [HML.out]; exact hmb, fun _ => HDR.out, fun h => (by cases h), fun ad h => (by cases h; exact HD.out)⟩, HNE.out, fun d hd => Nat.lt_of_lt_of_le (HLT.out d hd) HO2.out.size⟩
    rw [HML.out, Int.natCast_add]
    exact r2
  have HT2 := Lib.hid (HTK.out _ HB2.out)
  clear r1 r2 HB1 HROW HC HBS HTK HDR HB2
  generalize w1.setCell ⟨g, 1, none⟩ (.int .i64 ((a : Int) + (k : Int))) = w2 at *
  go_quiet (fail)
  go_wp2
  rw [hak]
  go_ret2
  exact ⟨ab, ao + a, c - a, rfl, HT2.out.drewN _, HR2.out.drewN _, HO2.out.drewN _, HD.out⟩
end Go.Proofs.Ytgfnpofoedambaa

/-
  Contract: the reference's Get.
-/
import Derived.Test.YtjnepegohfhgiaaRgL
import Derived.Test.YtjnepegohfhgiaaRgM
namespace Go.Proofs.Ytjnepegohfhgiaa
open Go.RowKit

namespace Rg
/-- The first k fields of a record, noughts behind. -/
def fl14 (r : R) : Nat → R
  | 0 => ⟨0, 0, 0, z32, zr, 0, 0, 0, 0, z32, z32⟩
  | 1 => ⟨r.gen, 0, 0, z32, zr, 0, 0, 0, 0, z32, z32⟩
  | 2 => ⟨r.gen, r.st, 0, z32, zr, 0, 0, 0, 0, z32, z32⟩
  | 3 => ⟨r.gen, r.st, r.ep, z32, zr, 0, 0, 0, 0, z32, z32⟩
  | 4 => ⟨r.gen, r.st, r.ep, r.su, zr, 0, 0, 0, 0, z32, z32⟩
  | 5 => ⟨r.gen, r.st, r.ep, r.su, r.rt, 0, 0, 0, 0, z32, z32⟩
  | 6 => ⟨r.gen, r.st, r.ep, r.su, r.rt, r.bs, 0, 0, 0, z32, z32⟩
  | 7 => ⟨r.gen, r.st, r.ep, r.su, r.rt, r.bs, r.bl, 0, 0, z32, z32⟩
  | 8 => ⟨r.gen, r.st, r.ep, r.su, r.rt, r.bs, r.bl, r.ts, 0, z32, z32⟩
  | 9 => ⟨r.gen, r.st, r.ep, r.su, r.rt, r.bs, r.bl, r.ts, r.tl, z32, z32⟩
  | 10 => ⟨r.gen, r.st, r.ep, r.su, r.rt, r.bs, r.bl, r.ts, r.tl, r.b1, z32⟩
  | _ => r
theorem fl14_0 (r : R) : fl14 r 0 = zero := by unfold zero; rfl
theorem fl14_11 (r : R) : fl14 r 11 = r := rfl
theorem ok_zr : Pk.In64 zr.1 ∧ OkS zr.2 := by unfold zr; exact ⟨in0, oks_z⟩
theorem fl14_ok {r : R} (h : Ok r) : ∀ k, Ok (fl14 r k)
  | 0 => ⟨in0, in0, in0, oks_z, ok_zr, in0, in0, in0, in0, oks_z, oks_z⟩
  | 1 => ⟨h.gen, in0, in0, oks_z, ok_zr, in0, in0, in0, in0, oks_z, oks_z⟩
  | 2 => ⟨h.gen, h.st, in0, oks_z, ok_zr, in0, in0, in0, in0, oks_z, oks_z⟩
  | 3 => ⟨h.gen, h.st, h.ep, oks_z, ok_zr, in0, in0, in0, in0, oks_z, oks_z⟩
  | 4 => ⟨h.gen, h.st, h.ep, h.su, ok_zr, in0, in0, in0, in0, oks_z, oks_z⟩
  | 5 => ⟨h.gen, h.st, h.ep, h.su, h.rt, in0, in0, in0, in0, oks_z, oks_z⟩
  | 6 => ⟨h.gen, h.st, h.ep, h.su, h.rt, h.bs, in0, in0, in0, oks_z, oks_z⟩
  | 7 => ⟨h.gen, h.st, h.ep, h.su, h.rt, h.bs, h.bl, in0, in0, oks_z, oks_z⟩
  | 8 => ⟨h.gen, h.st, h.ep, h.su, h.rt, h.bs, h.bl, h.ts, in0, oks_z, oks_z⟩
  | 9 => ⟨h.gen, h.st, h.ep, h.su, h.rt, h.bs, h.bl, h.ts, h.tl, oks_z, oks_z⟩
  | 10 => ⟨h.gen, h.st, h.ep, h.su, h.rt, h.bs, h.bl, h.ts, h.tl, h.b1, oks_z⟩
  | _ + 11 => h
end Rg
theorem seg_set {X Y Z : List Value} {o : Nat} (i : Nat) (v : Value) (hX : X.length = o) (hi : i < Y.length) : (X ++ (Y ++ Z)).set (o + i) v = X ++ (Y.set i v ++ Z) := by
  rw [List.set_append_right _ _ (by omega), hX, Nat.add_sub_cancel_left, List.set_append_left _ _ hi]
theorem seg_mid {X Y Z V : List Value} {o n : Nat} (hX : X.length = o) (hY : Y.length = n) : (X ++ (Y ++ Z)).take o ++ V ++ (X ++ (Y ++ Z)).drop (o + n) = X ++ (V ++ Z) := by
  rw [List.take_append_of_le_length (by omega), List.take_of_length_le (by omega), ← List.append_assoc X Y Z, List.drop_append_of_le_length (by rw [List.length_append]; omega), List.drop_of_length_le (by rw [List.length_append]; omega), List.nil_append, List.append_assoc]
section
variable {r : Rg.R} (h : Rg.Ok r)
theorem set14_0 : (cv (Rg.fl14 r 0)).set 0 (.int .i64 r.gen) = cv (Rg.fl14 r 1) := by
  have e := seg_set (X := ([] : List Value)) (Y := ([Value.int .i64 0, Value.int .i64 0, Value.int .i64 0] : List Value)) (Z := (u8v Rg.z32 ++ ((Value.int .i64 Rg.zr.1 :: u8v Rg.zr.2) ++ ([Value.int .i64 0, Value.int .i64 0] ++ ([Value.int .i64 0, Value.int .i64 0] ++ (u8v Rg.z32 ++ (u8v Rg.z32))))) : List Value)) (o := 0) 0 (Value.int .i64 r.gen) rfl (by simp)
  unfold cv
  simp only [List.nil_append] at e ⊢
  exact e
theorem set14_1 : (cv (Rg.fl14 r 1)).set 1 (.int .i64 r.st) = cv (Rg.fl14 r 2) := by
  have e := seg_set (X := ([] : List Value)) (Y := ([Value.int .i64 r.gen, Value.int .i64 0, Value.int .i64 0] : List Value)) (Z := (u8v Rg.z32 ++ ((Value.int .i64 Rg.zr.1 :: u8v Rg.zr.2) ++ ([Value.int .i64 0, Value.int .i64 0] ++ ([Value.int .i64 0, Value.int .i64 0] ++ (u8v Rg.z32 ++ (u8v Rg.z32))))) : List Value)) (o := 0) 1 (Value.int .i64 r.st) rfl (by simp)
  unfold cv
  simp only [List.nil_append] at e ⊢
  exact e
theorem set14_2 : (cv (Rg.fl14 r 2)).set 2 (.int .i64 r.ep) = cv (Rg.fl14 r 3) := by
  have e := seg_set (X := ([] : List Value)) (Y := ([Value.int .i64 r.gen, Value.int .i64 r.st, Value.int .i64 0] : List Value)) (Z := (u8v Rg.z32 ++ ((Value.int .i64 Rg.zr.1 :: u8v Rg.zr.2) ++ ([Value.int .i64 0, Value.int .i64 0] ++ ([Value.int .i64 0, Value.int .i64 0] ++ (u8v Rg.z32 ++ (u8v Rg.z32))))) : List Value)) (o := 0) 2 (Value.int .i64 r.ep) rfl (by simp)
  unfold cv
  simp only [List.nil_append] at e ⊢
  exact e
theorem set14_3 : (cv (Rg.fl14 r 3)).take 3 ++ u8v r.su ++ (cv (Rg.fl14 r 3)).drop (3 + 32) = cv (Rg.fl14 r 4) := by
  have e := seg_mid (X := ([Value.int .i64 r.gen, Value.int .i64 r.st, Value.int .i64 r.ep] : List Value)) (Y := (u8v Rg.z32 : List Value)) (Z := ((Value.int .i64 Rg.zr.1 :: u8v Rg.zr.2) ++ ([Value.int .i64 0, Value.int .i64 0] ++ ([Value.int .i64 0, Value.int .i64 0] ++ (u8v Rg.z32 ++ (u8v Rg.z32)))) : List Value)) (V := (u8v r.su : List Value)) (o := 3) (n := 32) rfl (by simp [Rg.oks_z.1])
  unfold cv
  simp only [List.append_assoc] at e ⊢
  exact e
include h in
theorem set14_4 : (cv (Rg.fl14 r 4)).take 35 ++ (Value.int .i64 r.rt.1 :: u8v r.rt.2) ++ (cv (Rg.fl14 r 4)).drop (35 + 33) = cv (Rg.fl14 r 5) := by
  have e := seg_mid (X := ([Value.int .i64 r.gen, Value.int .i64 r.st, Value.int .i64 r.ep] ++ u8v r.su : List Value)) (Y := ((Value.int .i64 Rg.zr.1 :: u8v Rg.zr.2) : List Value)) (Z := ([Value.int .i64 0, Value.int .i64 0] ++ ([Value.int .i64 0, Value.int .i64 0] ++ (u8v Rg.z32 ++ (u8v Rg.z32))) : List Value)) (V := ((Value.int .i64 r.rt.1 :: u8v r.rt.2) : List Value)) (o := 35) (n := 33) (by simp [h.su.1]) (by simp [Rg.ok_zr.2.1])
  unfold cv
  simp only [List.append_assoc] at e ⊢
  exact e
include h in
theorem set14_5 : (cv (Rg.fl14 r 5)).set 68 (.int .i64 r.bs) = cv (Rg.fl14 r 6) := by
  have e := seg_set (X := ([Value.int .i64 r.gen, Value.int .i64 r.st, Value.int .i64 r.ep] ++ u8v r.su ++ (Value.int .i64 r.rt.1 :: u8v r.rt.2) : List Value)) (Y := ([Value.int .i64 0, Value.int .i64 0] : List Value)) (Z := ([Value.int .i64 0, Value.int .i64 0] ++ (u8v Rg.z32 ++ (u8v Rg.z32)) : List Value)) (o := 68) 0 (Value.int .i64 r.bs) (by simp [h.su.1, h.rt.2.1]) (by simp)
  unfold cv
  simp only [List.append_assoc] at e ⊢
  exact e
include h in
theorem set14_6 : (cv (Rg.fl14 r 6)).set 69 (.int .i64 r.bl) = cv (Rg.fl14 r 7) := by
  have e := seg_set (X := ([Value.int .i64 r.gen, Value.int .i64 r.st, Value.int .i64 r.ep] ++ u8v r.su ++ (Value.int .i64 r.rt.1 :: u8v r.rt.2) : List Value)) (Y := ([Value.int .i64 r.bs, Value.int .i64 0] : List Value)) (Z := ([Value.int .i64 0, Value.int .i64 0] ++ (u8v Rg.z32 ++ (u8v Rg.z32)) : List Value)) (o := 68) 1 (Value.int .i64 r.bl) (by simp [h.su.1, h.rt.2.1]) (by simp)
  unfold cv
  simp only [List.append_assoc] at e ⊢
  exact e
include h in
theorem set14_7 : (cv (Rg.fl14 r 7)).set 70 (.int .i64 r.ts) = cv (Rg.fl14 r 8) := by
  have e := seg_set (X := ([Value.int .i64 r.gen, Value.int .i64 r.st, Value.int .i64 r.ep] ++ u8v r.su ++ (Value.int .i64 r.rt.1 :: u8v r.rt.2) ++ [Value.int .i64 r.bs, Value.int .i64 r.bl] : List Value)) (Y := ([Value.int .i64 0, Value.int .i64 0] : List Value)) (Z := (u8v Rg.z32 ++ (u8v Rg.z32) : List Value)) (o := 70) 0 (Value.int .i64 r.ts) (by simp [h.su.1, h.rt.2.1]) (by simp)
  unfold cv
  simp only [List.append_assoc] at e ⊢
  exact e
include h in
theorem set14_8 : (cv (Rg.fl14 r 8)).set 71 (.int .i64 r.tl) = cv (Rg.fl14 r 9) := by
  have e := seg_set (X := ([Value.int .i64 r.gen, Value.int .i64 r.st, Value.int .i64 r.ep] ++ u8v r.su ++ (Value.int .i64 r.rt.1 :: u8v r.rt.2) ++ [Value.int .i64 r.bs, Value.int .i64 r.bl] : List Value)) (Y := ([Value.int .i64 r.ts, Value.int .i64 0] : List Value)) (Z := (u8v Rg.z32 ++ (u8v Rg.z32) : List Value)) (o := 70) 1 (Value.int .i64 r.tl) (by simp [h.su.1, h.rt.2.1]) (by simp)
  unfold cv
  simp only [List.append_assoc] at e ⊢
  exact e
include h in
theorem set14_9 : (cv (Rg.fl14 r 9)).take 72 ++ u8v r.b1 ++ (cv (Rg.fl14 r 9)).drop (72 + 32) = cv (Rg.fl14 r 10) := by
  have e := seg_mid (X := ([Value.int .i64 r.gen, Value.int .i64 r.st, Value.int .i64 r.ep] ++ u8v r.su ++ (Value.int .i64 r.rt.1 :: u8v r.rt.2) ++ [Value.int .i64 r.bs, Value.int .i64 r.bl] ++ [Value.int .i64 r.ts, Value.int .i64 r.tl] : List Value)) (Y := (u8v Rg.z32 : List Value)) (Z := (u8v Rg.z32 : List Value)) (V := (u8v r.b1 : List Value)) (o := 72) (n := 32) (by simp [h.su.1, h.rt.2.1]) (by simp [Rg.oks_z.1])
  unfold cv
  simp only [List.append_assoc] at e ⊢
  exact e
include h in
theorem set14_10 : (cv (Rg.fl14 r 10)).take 104 ++ u8v r.b2 ++ (cv (Rg.fl14 r 10)).drop (104 + 32) = cv (Rg.fl14 r 11) := by
  have e := seg_mid (X := ([Value.int .i64 r.gen, Value.int .i64 r.st, Value.int .i64 r.ep] ++ u8v r.su ++ (Value.int .i64 r.rt.1 :: u8v r.rt.2) ++ [Value.int .i64 r.bs, Value.int .i64 r.bl] ++ [Value.int .i64 r.ts, Value.int .i64 r.tl] ++ u8v r.b1 : List Value)) (Y := (u8v Rg.z32 : List Value)) (Z := ([] : List Value)) (V := (u8v r.b2 : List Value)) (o := 104) (n := 32) (by simp [h.su.1, h.rt.2.1, h.b1.1]) (by simp [Rg.oks_z.1])
  unfold cv
  simp only [List.append_assoc, List.append_nil] at e ⊢
  exact e
end
/-- The record that is filled, the answer's, the reader. -/
structure Gr (w wr : World) (g gp : Nat) (D : Option Nat) (Z : Array Value) (L : List Int) (b : Bool) (x : Rg.R) : Prop where
  rd : RfRd wr g D L b
  p2 : wr.heap[w.heap.size]? = some (.cells Z 29 (0, 0))
  pp : wr.heap[gp]? = some (.cells (RAr x) 29 (0, 0))
  low : Below w.heap.size w wr
  ng : w.heap.size < g
  nd2 : D ≠ some w.heap.size
  gpg : gp ≠ g
  gp2 : w.heap.size < gp
  ndp : D ≠ some gp
theorem Gr.read {w wr x : World} {g gp : Nat} {D : Option Nat} {Z : Array Value} {L L' : List Int} {b b' : Bool} {r : Rg.R} (h : Gr w wr g gp D Z L b r) (hr : RfRd x g D L' b') (ho : Only g wr x) : Gr w x g gp D Z L' b' r :=
  ⟨hr, (ho.block _ (lt_of_block h.p2) (Nat.ne_of_lt h.ng)).trans h.p2, (ho.block _ (lt_of_block h.pp) h.gpg).trans h.pp, ho.below h.low (Nat.le_of_lt h.ng) h.low.size, h.ng, h.nd2, h.gpg, h.gp2, h.ndp⟩
theorem Gr.store {w wr x : World} {g gp : Nat} {D : Option Nat} {Z : Array Value} {L : List Int} {b : Bool} {r r' : Rg.R} (h : Gr w wr g gp D Z L b r) (hp : x.heap[gp]? = some (.cells (RAr r') 29 (0, 0))) (ch : Chg gp wr x) : Gr w x g gp D Z L b r' :=
  ⟨h.rd.only ch.only h.gpg h.ndp, (ch.block _ (Nat.ne_of_lt h.gp2)).trans h.p2, hp, ch.below h.low (Nat.le_of_lt h.gp2), h.ng, h.nd2, h.gpg, h.gp2, h.ndp⟩
theorem Gr.int {w wr : World} {g gp : Nat} {D : Option Nat} {Z : Array Value} {L : List Int} {b : Bool} {r r' : Rg.R} (h : Gr w wr g gp D Z L b r) (j : Nat) (v : Int) (hs : (cv r).set j (.int .i64 v) = cv r') : Gr w (wr.setCell ⟨gp, j, none⟩ (.int .i64 v)) g gp D Z L b r' := by
  refine h.store ?_ (Chg.setCell wr ⟨gp, j, none⟩ _)
  have h1 := heap_setCell_same wr gp j _ _ (.int .i64 v) h.pp
  rw [h1]
  unfold RAr
  rw [← hs]
  simp
theorem Gr.cell {w wr : World} {g gp : Nat} {D : Option Nat} {Z : Array Value} {L : List Int} {b : Bool} {r : Rg.R} (h : Gr w wr g gp D Z L b r) {j : Nat} {v : Value} (hv : (cv r)[j]? = some v) : wr.cell? ⟨gp, j, none⟩ = some v ∧ wr.frozen? ⟨gp, j, none⟩ = false := by
  refine ⟨?_, frozen_of_row wr gp j _ _ h.pp⟩
  rw [cell_of_row wr gp j _ _ _ h.pp]
  unfold RAr
  simpa using hv
set_option maxHeartbeats 4000000 in
set_option maxRecDepth 100000 in
theorem fgget_any (L : List Int) (p : Option Addr) (n c : Nat) (hn : L.length = n) (hL : n ≤ 900000) (w : World) (hp : Bs w p c L) :
    Calls Try.prog 18 #[.slice p n c] w (GotSay L w) := by
  have HP := Lib.hid hp
  have HBY : Hid (Sha.Byt L) := hp.bat.1
  clear hp
  obtain ⟨Z, hZ⟩ : ∃ Z, Hid ((cv Rg.zero).toArray = Z) := ⟨_, rfl⟩
  have HZS : Hid (Z.size = 136) := by show _ = _; rw [← hZ.out, List.size_toArray, cv_len Rg.ok_zero]
  have HZ1 : Hid (Z.all (·.oneCell') = true) := by show _ = _; rw [← hZ.out]; exact all_oneCell_toArray (cv_one Rg.zero)
  have hz := (zero_of_info Try.zeroRec).1
  have HBT := Lib.hid Try.builtRec
  rw [hZ.out] at hz HBT
  have hzn : ¬ Z = #[] := fun h => by have := HZS.out; rw [h] at this; simp at this
  have hsz := row_size Try.sizeRec HZS
  have HOK : Hid (Rg.Ok (Rg.rc L)) := Rg.rc_ok HBY.out
  have HC0 : Hid (∀ y, Below w.heap.size w y → Calls Try.prog 51 #[.slice p n c] y (RfNew L y)) := fun y hy => refread_any L p n c hn (by omega) y (HP.out.old hy)
  have HK0 : Hid (∀ y g D, RfRd y g D L false → Calls Try.prog 52 #[.pointer (some ⟨g, 0, none⟩)] y (RfSay (.int .i64 (Rg.rc L).gen) (Rg.rs L 1) (Rg.bd L 1) g D y)) := fun y g D hy => by
    rw [Rg.rcf0, Rg.rsn0, Rg.bdn0, Rg.rs0, Rg.bd0]
    exact fint_any L false g D _ rfl y hy
  have HK1 : Hid (∀ y g D, RfRd y g D (Rg.rs L 1) (Rg.bd L 1) → Calls Try.prog 52 #[.pointer (some ⟨g, 0, none⟩)] y (RfSay (.int .i64 (Rg.rc L).st) (Rg.rs L 2) (Rg.bd L 2) g D y)) := fun y g D hy => by
    rw [Rg.rcf1, Rg.rsn1, Rg.bdn1]
    exact fint_any (Rg.rs L 1) (Rg.bd L 1) g D _ rfl y hy
  have HK2 : Hid (∀ y g D, RfRd y g D (Rg.rs L 2) (Rg.bd L 2) → Calls Try.prog 52 #[.pointer (some ⟨g, 0, none⟩)] y (RfSay (.int .i64 (Rg.rc L).ep) (Rg.rs L 3) (Rg.bd L 3) g D y)) := fun y g D hy => by
    rw [Rg.rcf2, Rg.rsn2, Rg.bdn2]
    exact fint_any (Rg.rs L 2) (Rg.bd L 2) g D _ rfl y hy
  have HK3 : Hid (∀ y g D, RfRd y g D (Rg.rs L 3) (Rg.bd L 3) → Calls Try.prog 53 #[.pointer (some ⟨g, 0, none⟩)] y (RfSay (A32 (Rg.rc L).su) (Rg.rs L 4) (Rg.bd L 4) g D y)) := fun y g D hy => by
    rw [Rg.rcf3, Rg.rsn3, Rg.bdn3]
    exact fsum_any (Rg.rs L 3) (Rg.bd L 3) g D _ rfl y hy
  have HK4 : Hid (∀ y g D, RfRd y g D (Rg.rs L 4) (Rg.bd L 4) → Calls Try.prog 54 #[.pointer (some ⟨g, 0, none⟩)] y (RfSay (R33 (Rg.rc L).rt) (Rg.rs L 5) (Rg.bd L 5) g D y)) := fun y g D hy => by
    rw [Rg.rcf4, Rg.rsn4, Rg.bdn4]
    exact fref_any (Rg.rs L 4) (Rg.bd L 4) g D _ rfl y hy
  have HK5 : Hid (∀ y g D, RfRd y g D (Rg.rs L 5) (Rg.bd L 5) → Calls Try.prog 52 #[.pointer (some ⟨g, 0, none⟩)] y (RfSay (.int .i64 (Rg.rc L).bs) (Rg.rs L 6) (Rg.bd L 6) g D y)) := fun y g D hy => by
    rw [Rg.rcf5, Rg.rsn5, Rg.bdn5]
    exact fint_any (Rg.rs L 5) (Rg.bd L 5) g D _ rfl y hy
  have HK6 : Hid (∀ y g D, RfRd y g D (Rg.rs L 6) (Rg.bd L 6) → Calls Try.prog 52 #[.pointer (some ⟨g, 0, none⟩)] y (RfSay (.int .i64 (Rg.rc L).bl) (Rg.rs L 7) (Rg.bd L 7) g D y)) := fun y g D hy => by
    rw [Rg.rcf6, Rg.rsn6, Rg.bdn6]
    exact fint_any (Rg.rs L 6) (Rg.bd L 6) g D _ rfl y hy
  have HK7 : Hid (∀ y g D, RfRd y g D (Rg.rs L 7) (Rg.bd L 7) → Calls Try.prog 52 #[.pointer (some ⟨g, 0, none⟩)] y (RfSay (.int .i64 (Rg.rc L).ts) (Rg.rs L 8) (Rg.bd L 8) g D y)) := fun y g D hy => by
    rw [Rg.rcf7, Rg.rsn7, Rg.bdn7]
    exact fint_any (Rg.rs L 7) (Rg.bd L 7) g D _ rfl y hy
  have HK8 : Hid (∀ y g D, RfRd y g D (Rg.rs L 8) (Rg.bd L 8) → Calls Try.prog 52 #[.pointer (some ⟨g, 0, none⟩)] y (RfSay (.int .i64 (Rg.rc L).tl) (Rg.rs L 9) (Rg.bd L 9) g D y)) := fun y g D hy => by
    rw [Rg.rcf8, Rg.rsn8, Rg.bdn8]
    exact fint_any (Rg.rs L 8) (Rg.bd L 8) g D _ rfl y hy
  have HK9 : Hid (∀ y g D, RfRd y g D (Rg.rs L 9) (Rg.bd L 9) → Calls Try.prog 53 #[.pointer (some ⟨g, 0, none⟩)] y (RfSay (A32 (Rg.rc L).b1) (Rg.rs L 10) (Rg.bd L 10) g D y)) := fun y g D hy => by
    rw [Rg.rcf9, Rg.rsn9, Rg.bdn9]
    exact fsum_any (Rg.rs L 9) (Rg.bd L 9) g D _ rfl y hy
  have HK10 : Hid (∀ y g D, RfRd y g D (Rg.rs L 10) (Rg.bd L 10) → Calls Try.prog 53 #[.pointer (some ⟨g, 0, none⟩)] y (RfSay (A32 (Rg.rc L).b2) (Rg.rs L 11) (Rg.bd L 11) g D y)) := fun y g D hy => by
    rw [Rg.rcf10, Rg.rsn10, Rg.bdn10]
    exact fsum_any (Rg.rs L 10) (Rg.bd L 10) g D _ rfl y hy
  have HKE : Hid (∀ y g D, RfRd y g D (Rg.rs L 11) (Rg.bd L 11) → Calls Try.prog 55 #[.pointer (some ⟨g, 0, none⟩)] y (EndSayP (Pk.en (Rg.rs L 11) (Rg.bd L 11)) y)) := fun y g D hy => refend_any _ _ g D y hy
  have HN0 : Hid (Pk.en (Rg.rs L 11) (Rg.bd L 11) ≠ 0 → Rg.er L = Pk.en (Rg.rs L 11) (Rg.bd L 11) ∧ .agg Z = RV (Rg.gt L)) := fun h => by
    have h1 : Rg.er L = Pk.en (Rg.rs L 11) (Rg.bd L 11) := by unfold Rg.er; rw [if_pos h]
    refine ⟨h1, ?_⟩
    rw [Rg.gt_none (by rw [h1]; exact h), ← hZ.out]
    unfold RV
    rfl
  have HN1 : Hid (Pk.en (Rg.rs L 11) (Rg.bd L 11) = 0 → Rg.may (Rg.rc L) = false → Rg.er L = 7 ∧ .agg Z = RV (Rg.gt L)) := fun h h2 => by
    have h1 : Rg.er L = 7 := by unfold Rg.er; rw [if_neg (by omega), h2]; rfl
    refine ⟨h1, ?_⟩
    rw [Rg.gt_none (by omega), ← hZ.out]
    unfold RV
    rfl
  have HN2 : Hid (Pk.en (Rg.rs L 11) (Rg.bd L 11) = 0 → Rg.may (Rg.rc L) = true → Rg.er L = 0 ∧ RV (Rg.rc L) = RV (Rg.gt L)) := fun h h2 => by
    have h1 : Rg.er L = 0 := by unfold Rg.er; rw [if_neg (by omega), if_pos h2]
    refine ⟨h1, ?_⟩
    unfold Rg.gt
    rw [if_pos h1]
  have HMB : Hid (∀ y, Calls Try.prog 42 #[RV (Rg.rc L)] y (BoSay (Rg.may (Rg.rc L)) y)) := fun y => fmay_any _ HOK.out y
  have HAS : Hid ((RAr (Rg.rc L)).size = 136) := rar_size HOK.out
  have HA1 : Hid ((RAr (Rg.rc L)).all (·.oneCell') = true) := rar_one _
  have HZE : Hid (Z = RAr Rg.zero) := hZ.out.symm
  obtain ⟨SU, eSU, sSU, oSU⟩ := a32_agg (Rg.rc L).su HOK.out.su.1
  obtain ⟨RT, eRT, sRT, oRT⟩ := r33_agg (Rg.rc L).rt HOK.out.rt.2.1
  obtain ⟨B1, eB1, sB1, oB1⟩ := a32_agg (Rg.rc L).b1 HOK.out.b1.1
  obtain ⟨B2, eB2, sB2, oB2⟩ := a32_agg (Rg.rc L).b2 HOK.out.b2.1
  rw [eSU] at HK3
  rw [eRT] at HK4
  rw [eB1] at HK9
  rw [eB2] at HK10
  have E3 : Hid (((RAr (Rg.fl14 (Rg.rc L) 3)).toList.take 3 ++ SU.toList ++ (RAr (Rg.fl14 (Rg.rc L) 3)).toList.drop (3 + SU.size)).toArray = RAr (Rg.fl14 (Rg.rc L) 4)) := by
    show _ = _
    have e1 : SU = (u8v (Rg.rc L).su : List Value).toArray := by unfold A32 at eSU; injection eSU with eSU; exact eSU.symm
    rw [sSU, e1]
    exact congrArg List.toArray (set14_3)
  have Z3 : Hid (3 + SU.size ≤ (RAr (Rg.fl14 (Rg.rc L) 3)).size) := by show _ ≤ _; rw [sSU, rar_size (Rg.fl14_ok HOK.out 3)]; omega
  have S3 := Lib.hid sSU
  have O3' := Lib.hid oSU
  have E4 : Hid (((RAr (Rg.fl14 (Rg.rc L) 4)).toList.take 35 ++ RT.toList ++ (RAr (Rg.fl14 (Rg.rc L) 4)).toList.drop (35 + RT.size)).toArray = RAr (Rg.fl14 (Rg.rc L) 5)) := by
    show _ = _
    have e1 : RT = ((Value.int .i64 (Rg.rc L).rt.1 :: u8v (Rg.rc L).rt.2) : List Value).toArray := by unfold R33 at eRT; injection eRT with eRT; exact eRT.symm
    rw [sRT, e1]
    exact congrArg List.toArray (set14_4 HOK.out)
  have Z4 : Hid (35 + RT.size ≤ (RAr (Rg.fl14 (Rg.rc L) 4)).size) := by show _ ≤ _; rw [sRT, rar_size (Rg.fl14_ok HOK.out 4)]; omega
  have S4 := Lib.hid sRT
  have O4' := Lib.hid oRT
  have E9 : Hid (((RAr (Rg.fl14 (Rg.rc L) 9)).toList.take 72 ++ B1.toList ++ (RAr (Rg.fl14 (Rg.rc L) 9)).toList.drop (72 + B1.size)).toArray = RAr (Rg.fl14 (Rg.rc L) 10)) := by
    show _ = _
    have e1 : B1 = (u8v (Rg.rc L).b1 : List Value).toArray := by unfold A32 at eB1; injection eB1 with eB1; exact eB1.symm
    rw [sB1, e1]
    exact congrArg List.toArray (set14_9 HOK.out)
  have Z9 : Hid (72 + B1.size ≤ (RAr (Rg.fl14 (Rg.rc L) 9)).size) := by show _ ≤ _; rw [sB1, rar_size (Rg.fl14_ok HOK.out 9)]; omega
  have S9 := Lib.hid sB1
  have O9' := Lib.hid oB1
  have E10 : Hid (((RAr (Rg.fl14 (Rg.rc L) 10)).toList.take 104 ++ B2.toList ++ (RAr (Rg.fl14 (Rg.rc L) 10)).toList.drop (104 + B2.size)).toArray = RAr (Rg.fl14 (Rg.rc L) 11)) := by
    show _ = _
    have e1 : B2 = (u8v (Rg.rc L).b2 : List Value).toArray := by unfold A32 at eB2; injection eB2 with eB2; exact eB2.symm
    rw [sB2, e1]
    exact congrArg List.toArray (set14_10 HOK.out)
  have Z10 : Hid (104 + B2.size ≤ (RAr (Rg.fl14 (Rg.rc L) 10)).size) := by show _ ≤ _; rw [sB2, rar_size (Rg.fl14_ok HOK.out 10)]; omega
  have S10 := Lib.hid sB2
  have O10' := Lib.hid oB2
  have E0 : Hid ((cv (Rg.fl14 (Rg.rc L) 0)).set 0 (.int .i64 (Rg.rc L).gen) = cv (Rg.fl14 (Rg.rc L) 1)) := set14_0
  have V0 : Hid ((cv (Rg.fl14 (Rg.rc L) 0))[0]? = some (.int .i64 0)) := by show _ = _; unfold cv; rfl
  have E1 : Hid ((cv (Rg.fl14 (Rg.rc L) 1)).set 1 (.int .i64 (Rg.rc L).st) = cv (Rg.fl14 (Rg.rc L) 2)) := set14_1
  have V1 : Hid ((cv (Rg.fl14 (Rg.rc L) 1))[1]? = some (.int .i64 0)) := by show _ = _; unfold cv; rfl
  have E2 : Hid ((cv (Rg.fl14 (Rg.rc L) 2)).set 2 (.int .i64 (Rg.rc L).ep) = cv (Rg.fl14 (Rg.rc L) 3)) := set14_2
  have V2 : Hid ((cv (Rg.fl14 (Rg.rc L) 2))[2]? = some (.int .i64 0)) := by show _ = _; unfold cv; rfl
  have E5 : Hid ((cv (Rg.fl14 (Rg.rc L) 5)).set 68 (.int .i64 (Rg.rc L).bs) = cv (Rg.fl14 (Rg.rc L) 6)) := set14_5 HOK.out
  have V5 : Hid ((cv (Rg.fl14 (Rg.rc L) 5))[68]? = some (.int .i64 0)) := at_sub (j := 0) (sub_bp (Rg.fl14_ok HOK.out 5)) rfl
  have E6 : Hid ((cv (Rg.fl14 (Rg.rc L) 6)).set 69 (.int .i64 (Rg.rc L).bl) = cv (Rg.fl14 (Rg.rc L) 7)) := set14_6 HOK.out
  have V6 : Hid ((cv (Rg.fl14 (Rg.rc L) 6))[69]? = some (.int .i64 0)) := at_sub (j := 1) (sub_bp (Rg.fl14_ok HOK.out 6)) rfl
  have E7 : Hid ((cv (Rg.fl14 (Rg.rc L) 7)).set 70 (.int .i64 (Rg.rc L).ts) = cv (Rg.fl14 (Rg.rc L) 8)) := set14_7 HOK.out
  have V7 : Hid ((cv (Rg.fl14 (Rg.rc L) 7))[70]? = some (.int .i64 0)) := at_sub (j := 0) (sub_tp (Rg.fl14_ok HOK.out 7)) rfl
  have E8 : Hid ((cv (Rg.fl14 (Rg.rc L) 8)).set 71 (.int .i64 (Rg.rc L).tl) = cv (Rg.fl14 (Rg.rc L) 9)) := set14_8 HOK.out
  have V8 : Hid ((cv (Rg.fl14 (Rg.rc L) 8))[71]? = some (.int .i64 0)) := at_sub (j := 1) (sub_tp (Rg.fl14_ok HOK.out 8)) rfl
  have F0 : Hid (Rg.fl14 (Rg.rc L) 0 = Rg.zero) := Rg.fl14_0 _
  have F11 : Hid (RAr (Rg.fl14 (Rg.rc L) 11) = RAr (Rg.rc L)) := by rw [Rg.fl14_11]; exact rfl
  rw [rv_eq] at HN2 HMB
  obtain ⟨en, hen⟩ : ∃ en, Hid (Pk.en (Rg.rs L 11) (Rg.bd L 11) = en) := ⟨_, rfl⟩
  rw [hen.out] at HKE HN0 HN1 HN2
  obtain ⟨q, hq⟩ : ∃ q, Hid (Rg.may (Rg.rc L) = q) := ⟨_, rfl⟩
  rw [hq.out] at HMB HN1 HN2
  have R0 : Hid ((w.alloc (.cells Z 29)).heap[w.heap.size]? = some (.cells Z 29 (0, 0))) := heap_alloc_new w _
  have B0 : Hid (Below w.heap.size w (w.alloc (.cells Z 29))) := (Below.refl _ w).alloc (Nat.le_refl _) _
  have HSU : Hid (w.heap.size < (w.alloc (.cells Z 29)).heap.size) := by show _ < _; simp
  clear hn hL HP HBY hZ hen hq HOK eSU eRT eB1 eB2 sSU sRT sB1 sB2 oSU oRT oB1 oB2
  generalize Rg.fl14 (Rg.rc L) = FF at *
  generalize (Rg.rc L).gen = gen at *
  generalize (Rg.rc L).st = st at *
  generalize (Rg.rc L).ep = ep at *
  generalize (Rg.rc L).bs = bs at *
  generalize (Rg.rc L).bl = bl at *
  generalize (Rg.rc L).ts = ts at *
  generalize (Rg.rc L).tl = tl at *
  go_enter Try.func18, Try.ntmps18
  go_upto_region 1 with (fail)
  obtain ⟨w0, hw0⟩ : ∃ x, x = w.alloc (.cells Z 29) := ⟨_, rfl⟩
  rw [← hw0] at B0 R0 HSU ⊢
  clear hw0
  go_upto_region 2 with (go_at_call 51; refine (HC0.out _ B0.out).mono ?_; rintro e1 w1 ⟨g, D, rfl, Q0, HG1, HB1⟩)
  go_upto_region 3 with (first
    | ((with_reducible refine row_build0 _ _ HBT.out ?_))
    | ((with_reducible refine row_store _ _ _ _ _ _ _ ?_ ?_ (heap_alloc_new _ _) (row_size Try.sizeRec HZS) ?_ HZ1.out ?_); (exact rfl); (exact rfl); (exact rfl); intro w2 G2 ch2))
  have G0 : Hid (Gr w w2 g w1.heap.size D Z (Rg.rs L 0) (Rg.bd L 0) (FF 0)) := by
    have hgw : w.heap.size < g := Nat.lt_of_lt_of_le HSU.out HG1.out.1
    have hb1 : Below w.heap.size w w1 := B0.out.trans (HB1.out.mono B0.out.size)
    have hb2 : Below w1.heap.size w1 w2 := ch2.below ((Below.refl _ w1).alloc (Nat.le_refl _) _) (Nat.le_refl _)
    have r1 := (HB1.out.block _ (lt_of_block R0.out)).trans R0.out
    have hgl := Q0.out.glt
    refine ⟨?_, (hb2.block _ (lt_of_block r1)).trans r1, ?_, hb1.trans (hb2.mono hb1.size), hgw, fun h => ?_, Nat.ne_of_gt hgl, Nat.lt_trans hgw hgl, fun h => ?_⟩
    · rw [Rg.rs0, Rg.bd0]; exact Q0.out.old hb2
    · rw [F0.out, ← HZE.out]; exact G2.out
    · have := HG1.out.2 _ h; have := HSU.out; omega
    · have := Q0.out.lt _ h; omega
  clear HC0 Q0 HB1 R0 B0 HG1 G2 ch2 hz hzn hsz HSU
  generalize w1.heap.size = gp at *
  have HK0' : Hid (∀ y, RfRd y g D (Rg.rs L 0) (Rg.bd L 0) → Calls Try.prog 52 #[.pointer (some ⟨g, 0, none⟩)] y (RfSay (.int .i64 gen) (Rg.rs L 1) (Rg.bd L 1) g D y)) := fun y hy => HK0.out y g D (by rw [Rg.rs0, Rg.bd0] at hy; exact hy)
  go_upto_region 4 with (go_at_call 52; refine (HK0'.out _ G0.out.rd).mono ?_; rintro e3 w3 ⟨rfl, Q1, OO1⟩; have GG0 := Lib.hid (G0.out.read Q1.out OO1.out); obtain ⟨cc0, ff0⟩ := GG0.out.cell V0.out; have G1 := Lib.hid (GG0.out.int 0 _ E0.out))
  clear Q1 OO1 GG0 G0 cc0 ff0 E0 V0
  obtain ⟨z0, hz0⟩ : ∃ y, y = w3.setCell ⟨gp, 0, none⟩ (.int .i64 gen) := ⟨_, rfl⟩
  rw [← hz0] at G1 ⊢
  clear hz0
  go_upto_region 5 with (go_at_call 52; refine (HK1.out _ _ _ G1.out.rd).mono ?_; rintro e4 w4 ⟨rfl, Q2, OO2⟩; have GG1 := Lib.hid (G1.out.read Q2.out OO2.out); obtain ⟨cc1, ff1⟩ := GG1.out.cell V1.out; have G2 := Lib.hid (GG1.out.int 1 _ E1.out))
  clear Q2 OO2 GG1 G1 cc1 ff1 E1 V1
  obtain ⟨z1, hz1⟩ : ∃ y, y = w4.setCell ⟨gp, 1, none⟩ (.int .i64 st) := ⟨_, rfl⟩
  rw [← hz1] at G2 ⊢
  clear hz1
  go_upto_region 6 with (go_at_call 52; refine (HK2.out _ _ _ G2.out.rd).mono ?_; rintro e5 w5 ⟨rfl, Q3, OO3⟩; have GG2 := Lib.hid (G2.out.read Q3.out OO3.out); obtain ⟨cc2, ff2⟩ := GG2.out.cell V2.out; have G3 := Lib.hid (GG2.out.int 2 _ E2.out))
  clear Q3 OO3 GG2 G2 cc2 ff2 E2 V2
  obtain ⟨z2, hz2⟩ : ∃ y, y = w5.setCell ⟨gp, 2, none⟩ (.int .i64 ep) := ⟨_, rfl⟩
  rw [← hz2] at G3 ⊢
  clear hz2
  go_upto_region 7 with (first
    | (go_at_call 53; refine (HK3.out _ _ _ G3.out.rd).mono ?_; rintro e6 w6 ⟨rfl, Q4, OO4⟩; have GG3 := Lib.hid (G3.out.read Q4.out OO4.out))
    | ((with_reducible refine mid_store _ _ _ gp 3 _ (RAr (FF 3)) SU ?_ ?_ GG3.out.pp (row_size Try.sizeSum S3) Z3.out O3'.out ?_); (first | exact rfl | go_simp); (exact rfl); intro z3 GS3 chs3; have G4 : Hid (Gr w z3 g gp D Z (Rg.rs L 4) (Rg.bd L 4) (FF 4)) := GG3.out.store (by rw [← E3.out]; exact GS3.out) chs3))
  clear Q4 OO4 GG3 G3 GS3 chs3 E3 S3 O3' Z3
  go_upto_region 8 with (first
    | (go_at_call 54; refine (HK4.out _ _ _ G4.out.rd).mono ?_; rintro e7 w7 ⟨rfl, Q5, OO5⟩; have GG4 := Lib.hid (G4.out.read Q5.out OO5.out))
    | ((with_reducible refine mid_store _ _ _ gp 35 _ (RAr (FF 4)) RT ?_ ?_ GG4.out.pp (row_size Try.sizeRef S4) Z4.out O4'.out ?_); (first | exact rfl | go_simp); (exact rfl); intro z4 GS4 chs4; have G5 : Hid (Gr w z4 g gp D Z (Rg.rs L 5) (Rg.bd L 5) (FF 5)) := GG4.out.store (by rw [← E4.out]; exact GS4.out) chs4))
  clear Q5 OO5 GG4 G4 GS4 chs4 E4 S4 O4' Z4
  go_upto_region 9 with (go_at_call 52; refine (HK5.out _ _ _ G5.out.rd).mono ?_; rintro e8 w8 ⟨rfl, Q6, OO6⟩; have GG5 := Lib.hid (G5.out.read Q6.out OO6.out); obtain ⟨cc5, ff5⟩ := GG5.out.cell V5.out; have G6 := Lib.hid (GG5.out.int 68 _ E5.out))
  clear Q6 OO6 GG5 G5 cc5 ff5 E5 V5
  obtain ⟨z5, hz5⟩ : ∃ y, y = w8.setCell ⟨gp, 68, none⟩ (.int .i64 bs) := ⟨_, rfl⟩
  rw [← hz5] at G6 ⊢
  clear hz5
  go_upto_region 10 with (go_at_call 52; refine (HK6.out _ _ _ G6.out.rd).mono ?_; rintro e9 w9 ⟨rfl, Q7, OO7⟩; have GG6 := Lib.hid (G6.out.read Q7.out OO7.out); obtain ⟨cc6, ff6⟩ := GG6.out.cell V6.out; have G7 := Lib.hid (GG6.out.int 69 _ E6.out))
  clear Q7 OO7 GG6 G6 cc6 ff6 E6 V6
  obtain ⟨z6, hz6⟩ : ∃ y, y = w9.setCell ⟨gp, 69, none⟩ (.int .i64 bl) := ⟨_, rfl⟩
  rw [← hz6] at G7 ⊢
  clear hz6
  go_upto_region 11 with (go_at_call 52; refine (HK7.out _ _ _ G7.out.rd).mono ?_; rintro e10 w10 ⟨rfl, Q8, OO8⟩; have GG7 := Lib.hid (G7.out.read Q8.out OO8.out); obtain ⟨cc7, ff7⟩ := GG7.out.cell V7.out; have G8 := Lib.hid (GG7.out.int 70 _ E7.out))
  clear Q8 OO8 GG7 G7 cc7 ff7 E7 V7
  obtain ⟨z7, hz7⟩ : ∃ y, y = w10.setCell ⟨gp, 70, none⟩ (.int .i64 ts) := ⟨_, rfl⟩
  rw [← hz7] at G8 ⊢
  clear hz7
  go_upto_region 12 with (go_at_call 52; refine (HK8.out _ _ _ G8.out.rd).mono ?_; rintro e11 w11 ⟨rfl, Q9, OO9⟩; have GG8 := Lib.hid (G8.out.read Q9.out OO9.out); obtain ⟨cc8, ff8⟩ := GG8.out.cell V8.out; have G9 := Lib.hid (GG8.out.int 71 _ E8.out))
  clear Q9 OO9 GG8 G8 cc8 ff8 E8 V8
  obtain ⟨z8, hz8⟩ : ∃ y, y = w11.setCell ⟨gp, 71, none⟩ (.int .i64 tl) := ⟨_, rfl⟩
  rw [← hz8] at G9 ⊢
  clear hz8
  go_upto_region 13 with (first
    | (go_at_call 53; refine (HK9.out _ _ _ G9.out.rd).mono ?_; rintro e12 w12 ⟨rfl, Q10, OO10⟩; have GG9 := Lib.hid (G9.out.read Q10.out OO10.out))
    | ((with_reducible refine mid_store _ _ _ gp 72 _ (RAr (FF 9)) B1 ?_ ?_ GG9.out.pp (row_size Try.sizeSum S9) Z9.out O9'.out ?_); (first | exact rfl | go_simp); (exact rfl); intro z9 GS9 chs9; have G10 : Hid (Gr w z9 g gp D Z (Rg.rs L 10) (Rg.bd L 10) (FF 10)) := GG9.out.store (by rw [← E9.out]; exact GS9.out) chs9))
  clear Q10 OO10 GG9 G9 GS9 chs9 E9 S9 O9' Z9
  go_upto_region 14 with (first
    | (go_at_call 53; refine (HK10.out _ _ _ G10.out.rd).mono ?_; rintro e13 w13 ⟨rfl, Q11, OO11⟩; have GG10 := Lib.hid (G10.out.read Q11.out OO11.out))
    | ((with_reducible refine mid_store _ _ _ gp 104 _ (RAr (FF 10)) B2 ?_ ?_ GG10.out.pp (row_size Try.sizeSum S10) Z10.out O10'.out ?_); (first | exact rfl | go_simp); (exact rfl); intro z10 GS10 chs10; have G11 : Hid (Gr w z10 g gp D Z (Rg.rs L 11) (Rg.bd L 11) (FF 11)) := GG10.out.store (by rw [← E10.out]; exact GS10.out) chs10))
  clear Q11 OO11 GG10 G10 GS10 chs10 E10 S10 O10' Z10
  rw [show RAr (FF 11) = RAr (FF 11) from rfl] at F11
  have QA := Lib.hid G11.out.rd
  have RE := Lib.hid (HKE.out z10 g D QA.out)
  have Ga : Hid (z10.heap[gp]? = some (.cells (RAr (Rg.rc L)) 29 (0, 0))) := by rw [← F11.out]; exact G11.out.pp
  have RA : Hid (z10.heap[w.heap.size]? = some (.cells Z 29 (0, 0))) := G11.out.p2
  have BA : Hid (Below w.heap.size w z10) := G11.out.low
  generalize RAr (Rg.rc L) = A at *
  have RZ : Hid (∀ x, Below z10.heap.size z10 x → x.heap[w.heap.size]? = some (.cells Z 29 (0, 0))) := fun x hx => (hx.block _ (lt_of_block RA.out)).trans RA.out
  have RP : Hid (∀ x, Below z10.heap.size z10 x → x.heap[gp]? = some (.cells A 29 (0, 0))) := fun x hx => (hx.block _ (lt_of_block Ga.out)).trans Ga.out
  have RB : Hid (∀ x, Below z10.heap.size z10 x → Below w.heap.size w x) := fun x hx => BA.out.trans (hx.mono BA.out.size)
  clear HKE QA RA BA Ga G11 HK0 HK0' HK1 HK2 HK3 HK4 HK5 HK6 HK7 HK8 HK9 HK10
  by_cases h0 : en = 0
  · subst h0
    cases q with
    | false =>
      have HE := Lib.hid (HN1.out rfl rfl)
      clear HN0 HN1 HN2
      go_wp2_with (first
        | (go_at_call 55; refine RE.out.mono ?_; rintro e17 w17 ⟨rfl, hb7⟩; have HB7 := Lib.hid hb7; clear hb7)
        | ((with_reducible refine row_load _ _ _ _ _ _ _ ?_ (RP.out _ HB7.out) Try.underlying29 ?_ (row_size Try.sizeRec HAS) ?_); (exact rfl); (exact rfl))
        | (go_at_call 42; refine (HMB.out _).mono ?_; rintro e18 w18 ⟨rfl, HB8⟩; have HB9 := Lib.hid (HB7.out.trans (HB8.out.mono HB7.out.size)))
        | ((with_reducible refine row_build0 _ _ HBT.out ?_))
        | ((with_reducible refine row_store _ _ _ _ _ _ _ ?_ ?_ (RZ.out _ HB9.out) (row_size Try.sizeRec HZS) ?_ HZ1.out ?_); (exact rfl); (exact rfl); (exact rfl); intro w19 G9 ch9))
      refine bodyPost_ret (results_cell_tmp rfl _ _ w.heap.size 29 Z (0, 0) _ rfl G9 Try.underlying29 rfl (row_size Try.sizeRec HZS)) rfl ⟨?_, ch9.below (RB.out _ HB9.out) (Nat.le_refl _)⟩
      rw [HE.out.1, ← HE.out.2]; rfl
    | true =>
      have HE := Lib.hid (HN2.out rfl rfl)
      clear HN0 HN1 HN2
      go_wp2_with (first
        | (go_at_call 55; refine RE.out.mono ?_; rintro e17 w17 ⟨rfl, hb7⟩; have HB7 := Lib.hid hb7; clear hb7)
        | ((with_reducible refine row_load _ _ _ _ _ _ _ ?_ (RP.out _ HB9.out) Try.underlying29 ?_ (row_size Try.sizeRec HAS) ?_); (exact rfl); (exact rfl))
        | ((with_reducible refine row_load _ _ _ _ _ _ _ ?_ (RP.out _ HB7.out) Try.underlying29 ?_ (row_size Try.sizeRec HAS) ?_); (exact rfl); (exact rfl))
        | (go_at_call 42; refine (HMB.out _).mono ?_; rintro e18 w18 ⟨rfl, HB8⟩; have HB9 := Lib.hid (HB7.out.trans (HB8.out.mono HB7.out.size)))
        | ((with_reducible refine row_store _ _ _ _ _ _ _ ?_ ?_ (RZ.out _ HB9.out) (row_size Try.sizeRec HAS) ?_ HA1.out ?_); (exact rfl); (exact rfl); (rw [HAS.out, HZS.out]); intro w19 G9 ch9))
      refine bodyPost_ret (results_cell_tmp rfl _ _ w.heap.size 29 A (0, 0) _ rfl G9 Try.underlying29 rfl (row_size Try.sizeRec HAS)) rfl ⟨?_, ch9.below (RB.out _ HB9.out) (Nat.le_refl _)⟩
      rw [HE.out.1, ← HE.out.2]; rfl
  · have HE := Lib.hid (HN0.out h0)
    have hb0 : (en == 0) = false := by simpa using h0
    clear HN0 HN1 HN2
    go_wp2_with (first
      | (go_at_call 55; refine RE.out.mono ?_; rintro e17 w17 ⟨rfl, hb7⟩; have HB7 := Lib.hid hb7; clear hb7)
      | ((with_reducible refine row_build0 _ _ HBT.out ?_))
      | ((with_reducible refine row_store _ _ _ _ _ _ _ ?_ ?_ (RZ.out _ HB7.out) (row_size Try.sizeRec HZS) ?_ HZ1.out ?_); (exact rfl); (exact rfl); (exact rfl); intro w19 G9 ch9))
    refine bodyPost_ret (results_cell_tmp rfl _ _ w.heap.size 29 Z (0, 0) _ rfl G9 Try.underlying29 rfl (row_size Try.sizeRec HZS)) rfl ⟨?_, ch9.below (RB.out _ HB7.out) (Nat.le_refl _)⟩
    rw [HE.out.1, ← HE.out.2]; rfl
end Go.Proofs.Ytjnepegohfhgiaa

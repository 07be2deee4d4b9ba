/-
  The law DiskKnown walked.
-/
import Derived.Test.YtdkkoffmffallaaDkO
namespace Go.Proofs.Ytdkkoffmffallaa
open Go.RowKit

namespace Dk
def Z (n : Nat) : List Int := List.replicate n 0
theorem z_len (n : Nat) : (Z n).length = n := by simp [Z]
def j0 : M := fresh 4
def j1 : M := wrM j0 1 [9]
def j2 : M := tpM j1 1 [10]
def j3 : M := tpM j2 4 []
def j4 : M := tpM j3 0 (Z 1025)
def j5 : M := wrM j4 0 (Z 1025)
def j6 : M := wrM j5 0 (Z 1024)
def j7 : M := { j6 with left := 2 }
def j8 : M := wrM j7 9 []
def j9 : M := spend j8
def j10 : M := wrM j9 3 []
def j11 : M := syM j10
def j12 : M := spend j11
theorem je1 : wrE j0 1 [9] = 0 := by decide
theorem je2 : fault j1 1 [10] = 0 := by decide
theorem jd2 : dl j2 = [] := by decide
theorem je3 : fault j2 4 [] = 7 := by decide
theorem jm3 : j3 = j2 := rfl
theorem f0 {m : M} (hn : m.n = 4) (L : List Int) : fault m 0 L = if 1024 < L.length then 3 else 0 := by
  unfold fault here
  rw [hn]
  rfl
theorem je4 : fault j3 0 (Z 1025) = 3 := by rw [f0 rfl, z_len]; rfl
theorem jm4 : j4 = j3 := by unfold j4 tpM; rw [je4]; rfl
theorem jf5 : fault j4 0 (Z 1025) = 3 := by rw [jm4, je4]
theorem je5 : wrE j4 0 (Z 1025) = 3 := by unfold wrE; rw [jf5, jm4]; rfl
theorem jm5 : j5 = j2 := by unfold j5 wrM; rw [jf5, jm4, jm3]; rfl
theorem jf6 : fault j5 0 (Z 1024) = 0 := by rw [jm5, f0 rfl, z_len]; rfl
theorem je6 : wrE j5 0 (Z 1024) = 0 := by unfold wrE; rw [jf6, jm5]; rfl
theorem jm6 : j6 = { spend j2 with ca := upd j2.ca 0 (some (Z 1024)), wr := 2 } := by unfold j6 wrM; rw [jf6, jm5]; rfl
theorem jm7 : j7 = { spend j2 with ca := upd j2.ca 0 (some (Z 1024)), wr := 2, left := 2 } := by unfold j7; rw [jm6]
theorem je8 : wrE j7 9 [] = 7 := by rw [jm7]; decide
theorem jm8 : j8 = j7 := by unfold j8; rw [jm7]; rfl
theorem je9 : spendE j8 = 0 := by rw [jm8, jm7]; decide
theorem je10 : wrE j9 3 [] = 0 := by unfold j9; rw [jm8, jm7]; decide
theorem je11 : spendE j10 = 12 := by unfold j10 j9; rw [jm8, jm7]; decide
theorem jd11 : j11.down = true := by unfold j11 j10 j9; rw [jm8, jm7]; decide
theorem je12 : spendE j11 = 12 := by unfold j11 j10 j9; rw [jm8, jm7]; decide
theorem jw12 : j12.wr = 3 := by unfold j12 j11 j10 j9; rw [jm8, jm7]; decide
theorem jr12 : (if here j12 1 then (j12.rd (1 : Int).toNat : Int) else 0) = 0 := by unfold j12 j11 j10 j9; rw [jm8, jm7]; decide
theorem jb : j0.wr ≤ 1000000000 ∧ j2.wr ≤ 1000000000 ∧ j4.wr ≤ 1000000000 ∧ j5.wr ≤ 1000000000 ∧ j7.wr ≤ 1000000000 ∧ j9.wr ≤ 1000000000 := by
  refine ⟨by decide, by decide, ?_, ?_, ?_, ?_⟩
  · rw [jm4, jm3]; decide
  · rw [jm5]; decide
  · rw [jm7]; decide
  · unfold j9; rw [jm8, jm7]; decide
end Dk
def E7 : List Int := [-9223372036854775808, -1, 0, 1, 4096, 4097, 9223372036854775807]
def zeros (n : Nat) : Obj := .cells (Array.replicate n (Value.int .u8 0)) 5
theorem bsz (y : World) (n : Nat) (hn : n ≤ 100000) : Bs (y.alloc (zeros n)) (some ⟨y.heap.size, 0, none⟩) n (Dk.Z n) := by
  have h : (y.alloc (zeros n)).heap[y.heap.size]? = some (.cells ((Dk.Z n).map (Value.int .u8)).toArray 5 (0, 0)) := by
    rw [heap_alloc_new]
    unfold Dk.Z
    simp [zeros]
  exact bs_row (bat_row h (fun x hx => by unfold Dk.Z at hx; simp at hx; omega)) ⟨by rw [Dk.z_len]; exact Nat.le_refl _, by omega⟩
set_option maxHeartbeats 4000000 in
set_option maxRecDepth 100000 in
theorem diskknown_any (w : World) : Calls Try.prog 6 #[] w (YesSay w) := by
  have D1 : ∀ (y : World) (o : Obj), Below y.heap.size y (y.alloc o) := fun y o => (Below.refl _ _).alloc (Nat.le_refl _) o
  have DN := Lib.hid D1
  clear D1
  have m1 : ∀ w, (Instr.makeSlice 31 (.int .i64 1025) (.int .i64 1025)).run Try.prog w = .ok (.slice (some ⟨w.heap.size, 0, none⟩) 1025 1025) (w.alloc (zeros 1025)) := make_run 31 5 (.int .u8 0) 1 1025 Try.underlying31 Try.info_u8 rfl (by omega) (by omega)
  have m2 : ∀ w, (Instr.makeSlice 31 (.int .i64 1024) (.int .i64 1024)).run Try.prog w = .ok (.slice (some ⟨w.heap.size, 0, none⟩) 1024 1024) (w.alloc (zeros 1024)) := make_run 31 5 (.int .u8 0) 1 1024 Try.underlying31 Try.info_u8 rfl (by omega) (by omega)
  go_enter Try.func6, Try.ntmps6
  go_upto_region 3 with (fail)
  obtain ⟨w1, HW1⟩ : ∃ y : World, Hid (w.alloc (.cells (E7.map (Value.int .i64)).toArray 3) = y) := ⟨_, rfl⟩
  have HN1 : Hid (w1.heap[w.heap.size]? = some (.cells (E7.map (Value.int .i64)).toArray 3 (0, 0))) := by
    show _ = _
    rw [← HW1.out]
    exact heap_alloc_new w _
  have BW : Hid (Below w.heap.size w w1) := by
    show Below _ _ _
    rw [← HW1.out]
    exact (Below.refl _ w).alloc (Nat.le_refl _) _
  have HW2 := HW1.out
  unfold E7 at HW2
  simp only [List.map_cons, List.map_nil] at HW2
  rw [HW2]
  have HN : Hid (∀ y, Below w1.heap.size w1 y → ∀ j : Nat, j < 7 → y.cell? ⟨w.heap.size, j, none⟩ = some (.int .i64 (E7.getD j 0))) := fun y hy j hj => by
    rw [cell_of_row y _ j _ _ _ ((hy.block _ (lt_of_block HN1.out)).trans HN1.out)]
    have h8 : E7.length = 7 := rfl
    simp [List.getD_eq_getElem?_getD, h8, hj]
  clear HW1 HW2 HN1
  go_loopw [2, 3, 4, 5] (fun v2 _ _ _ wr => ∃ i : Nat, i ≤ 7 ∧ v2 = .int .i64 i ∧ Hid (Below w1.heap.size w1 wr)) (fun v2 _ _ _ _ => 7 - (intOf v2).toNat)
  case atStart => exact ⟨0, by omega, rfl, Below.refl _ _⟩
  case round =>
    obtain ⟨i, hi, rfl, HB⟩ := hrel
    by_cases hlt : i < 7
    · have hc := HN.out _ HB.out i hlt
      have h7 : i = 0 ∨ i = 1 ∨ i = 2 ∨ i = 3 ∨ i = 4 ∨ i = 5 ∨ i = 6 := by omega
      have fin : ∀ y, Below wr.heap.size wr y → Hid (Below w1.heap.size w1 y) := fun y hy => HB.out.trans (hy.mono HB.out.size)
      have FIN := Lib.hid fin
      clear fin
      have no : ∀ (n : Int) (y : World), Dk.may n = false → Calls Try.prog 9 #[.int .i64 n] y fun e y' => e = .returned (.tuple #[.pointer none, .int .i64 7]) ∧ y' = y := fun n y hm => (disk_new n y).mono (fun e y' h => by unfold NewSay at h; rw [hm, if_neg (by decide)] at h; exact h)
      have NO := Lib.hid no
      clear no
      rcases h7 with rfl | rfl | rfl | rfl | rfl | rfl | rfl
      · have hc' : wr.cell? ⟨w.heap.size, 0, none⟩ = some (.int .i64 (-9223372036854775808)) := hc
        clear hc
        go_wp2_with (go_at_call 9; refine (NO.out _ _ (by decide)).mono ?_; rintro e2 w2 ⟨rfl, rfl⟩)
        exact ⟨⟨1, by omega, rfl, HB⟩, by simp [intOf]⟩
      · have hc' : wr.cell? ⟨w.heap.size, 1, none⟩ = some (.int .i64 (-1)) := hc
        clear hc
        go_wp2_with (go_at_call 9; refine (NO.out _ _ (by decide)).mono ?_; rintro e2 w2 ⟨rfl, rfl⟩)
        exact ⟨⟨2, by omega, rfl, HB⟩, by simp [intOf]⟩
      · have hc' : wr.cell? ⟨w.heap.size, 2, none⟩ = some (.int .i64 0) := hc
        clear hc
        go_wp2_with (go_at_call 9; refine (NO.out _ _ (by decide)).mono ?_; rintro e2 w2 ⟨rfl, rfl⟩)
        exact ⟨⟨3, by omega, rfl, HB⟩, by simp [intOf]⟩
      · have hc' : wr.cell? ⟨w.heap.size, 3, none⟩ = some (.int .i64 1) := hc
        clear hc
        go_wp2_with (go_at_call 9; refine (new4 1 (by omega) (by omega) _).mono ?_; rintro e2 w2 ⟨d, lb, rb, cb, rfl, hd2, hb2⟩; have B2 := FIN.out _ hb2; clear hd2 hb2)
        exact ⟨⟨4, by omega, rfl, B2⟩, by simp [intOf]⟩
      · have hc' : wr.cell? ⟨w.heap.size, 4, none⟩ = some (.int .i64 4096) := hc
        clear hc
        go_wp2_with (go_at_call 9; refine (new4 4096 (by omega) (by omega) _).mono ?_; rintro e2 w2 ⟨d, lb, rb, cb, rfl, hd2, hb2⟩; have B2 := FIN.out _ hb2; clear hd2 hb2)
        exact ⟨⟨5, by omega, rfl, B2⟩, by simp [intOf]⟩
      · have hc' : wr.cell? ⟨w.heap.size, 5, none⟩ = some (.int .i64 4097) := hc
        clear hc
        go_wp2_with (go_at_call 9; refine (NO.out _ _ (by decide)).mono ?_; rintro e2 w2 ⟨rfl, rfl⟩)
        exact ⟨⟨6, by omega, rfl, HB⟩, by simp [intOf]⟩
      · have hc' : wr.cell? ⟨w.heap.size, 6, none⟩ = some (.int .i64 9223372036854775807) := hc
        clear hc
        go_wp2_with (go_at_call 9; refine (NO.out _ _ (by decide)).mono ?_; rintro e2 w2 ⟨rfl, rfl⟩)
        exact ⟨⟨7, by omega, rfl, HB⟩, by simp [intOf]⟩
    · obtain rfl : i = 7 := by omega
      clear hlt HN
      have BR : Hid (Below w.heap.size w wr) := BW.out.trans (HB.out.mono BW.out.size)
      clear HB BW
      go_wp2_with (first
        | (go_at_call 9; refine (new4 4 (by omega) (by omega) _).mono ?_; rintro e0 q0 ⟨d, lb, rb, cb, rfl, hd, hb⟩; have H0 : Hid (Sit w q0 _ d lb rb cb Dk.j0) := Lib.hid (Sit.new hd.out hb BR.out); clear hd hb)
        | (go_at_call 15; refine (write_any 3 [] _ 0 0 rfl (by omega) Dk.jb.2.2.2.2.2 _ H9.out.dk (bs_none _)).mono ?_; rw [Dk.je10]; rintro e10 q10 ⟨rfl, hd, hm⟩; have H10 : Hid (Sit w q10 _ d lb rb cb Dk.j10) := Lib.hid (H9.out.write hd.out hm.out); clear hd hm)
        | (go_at_call 15; refine (write_any 9 [] _ 0 0 rfl (by omega) Dk.jb.2.2.2.2.1 _ H7.out.dk (bs_none _)).mono ?_; rw [Dk.je8]; rintro e8 q8 ⟨rfl, hd, hm⟩; have H8 : Hid (Sit w q8 _ d lb rb cb Dk.j8) := Lib.hid (H7.out.write hd.out hm.out); clear hd hm)
        | (go_at_call 15; refine (write_any 0 (Dk.Z 1024) _ 1024 1024 (Dk.z_len 1024) (by omega) Dk.jb.2.2.2.1 _ (H5.out.next (DN.out _ (zeros 1024))).dk (bsz q5 1024 (by omega))).mono ?_; rw [Dk.je6]; rintro e6 q6 ⟨rfl, hd, hm⟩; have H6 : Hid (Sit w q6 _ d lb rb cb Dk.j6) := Lib.hid ((H5.out.next (DN.out _ (zeros 1024))).write hd.out hm.out); clear hd hm)
        | (go_at_call 15; refine (write_any 0 (Dk.Z 1025) _ 1025 1025 (Dk.z_len 1025) (by omega) Dk.jb.2.2.1 _ (H4.out.next (DN.out _ (zeros 1025))).dk (bsz q4 1025 (by omega))).mono ?_; rw [Dk.je5]; rintro e5 q5 ⟨rfl, hd, hm⟩; have H5 : Hid (Sit w q5 _ d lb rb cb Dk.j5) := Lib.hid ((H4.out.next (DN.out _ (zeros 1025))).write hd.out hm.out); clear hd hm)
        | (go_at_call 15; refine (write_any 1 [9] _ 1 1 rfl (by omega) Dk.jb.1 _ (H0.out.next (DN.out _ (lit1 9))).dk (bs1 q0 9 (by omega))).mono ?_; rw [Dk.je1]; rintro e1 q1 ⟨rfl, hd, hm⟩; have H1 : Hid (Sit w q1 _ d lb rb cb Dk.j1) := Lib.hid ((H0.out.next (DN.out _ (lit1 9))).write hd.out hm.out); clear hd hm)
        | (go_at_call 25; refine (tamper_any 0 (Dk.Z 1025) _ 1025 1025 (Dk.z_len 1025) (by omega) _ (H3.out.next (DN.out _ (zeros 1025))).dk (bsz q3 1025 (by omega))).mono ?_; rw [Dk.je4]; rintro e4 q4 ⟨rfl, hd, hm⟩; have H4 : Hid (Sit w q4 _ d lb rb cb Dk.j4) := Lib.hid ((H3.out.next (DN.out _ (zeros 1025))).write hd.out hm.out); clear hd hm)
        | (go_at_call 25; refine (tamper_any 4 [] _ 0 0 rfl (by omega) _ K2.out.dk (bs_none _)).mono ?_; rw [Dk.je3]; rintro e3 q3 ⟨rfl, hd, hm⟩; have H3 : Hid (Sit w q3 _ d lb rb cb Dk.j3) := Lib.hid (K2.out.write hd.out hm.out); clear hd hm)
        | (go_at_call 25; refine (tamper_any 1 [10] _ 1 1 rfl (by omega) _ (H1.out.next (DN.out _ (lit1 10))).dk (bs1 q1 10 (by omega))).mono ?_; rw [Dk.je2]; rintro e2 q2 ⟨rfl, hd, hm⟩; have H2 : Hid (Sit w q2 _ d lb rb cb Dk.j2) := Lib.hid ((H1.out.next (DN.out _ (lit1 10))).write hd.out hm.out); clear hd hm)
        | (go_at_call 20; refine (dirty_any _ H2.out.dk Dk.jb.2.1).mono ?_; rintro e2 p2 ⟨v2, rfl, ho2, hb2⟩; obtain ⟨a2, c2, rfl⟩ := own_len ho2.out; rw [show (Dk.dl Dk.j2).length = 0 from congrArg List.length Dk.jd2]; have K2 : Hid (Sit w p2 _ d lb rb cb Dk.j2) := Lib.hid (H2.out.next hb2); clear ho2 hb2)
        | (go_at_call 22; refine (arm_any 2 (by unfold In64; omega) _ H6.out.dk).mono ?_; rintro e7 q7 ⟨rfl, hd, hm⟩; have H7 : Hid (Sit w q7 _ d lb rb cb Dk.j7) := Lib.hid (H6.out.row hd.out hm); clear hd hm)
        | (go_at_call 23; refine (spend_any _ H11.out.dk).mono ?_; rw [Dk.je12]; rintro e12 q12 ⟨rfl, hd, hm⟩; have H12 : Hid (Sit w q12 _ d lb rb cb Dk.j12) := Lib.hid (H11.out.row hd.out hm); clear hd hm)
        | (go_at_call 23; refine (spend_any _ H8.out.dk).mono ?_; rw [Dk.je9]; rintro e9 q9 ⟨rfl, hd, hm⟩; have H9 : Hid (Sit w q9 _ d lb rb cb Dk.j9) := Lib.hid (H8.out.row hd.out hm); clear hd hm)
        | (go_at_call 16; refine (sync_any _ H10.out.dk).mono ?_; rw [Dk.je11]; rintro e11 q11 ⟨rfl, hd, hm⟩; have H11 : Hid (Sit w q11 _ d lb rb cb Dk.j11) := Lib.hid (H10.out.disk hd.out hm.out); clear hd hm)
        | (go_at_call 21; refine (down_any _ H11.out.dk).mono ?_; rw [Dk.jd11]; rintro ed qd ⟨rfl, rfl⟩)
        | (go_at_call 26; refine (writes_any _ H12.out.dk).mono ?_; rw [Dk.jw12]; rintro ed qd ⟨rfl, rfl⟩)
        | (go_at_call 27; refine (reads_any 1 _ H12.out.dk).mono ?_; rw [Dk.jr12]; rintro ed qd ⟨rfl, rfl⟩)
        | (go_at_call 12; refine (known_any _).mono ?_; rintro ek qk ⟨rfl, hbk⟩; have HK := Lib.hid (H12.out.next hbk).old; clear hbk))
      go_ret
      exact ⟨rfl, HK.out⟩
end Go.Proofs.Ytdkkoffmffallaa

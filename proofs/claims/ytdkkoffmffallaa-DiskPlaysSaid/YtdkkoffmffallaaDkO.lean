/-
  A disk in a law; known.
-/
import Derived.Test.YtdkkoffmffallaaDkN
namespace Go.Proofs.Ytdkkoffmffallaa
open Go.RowKit

/-- A disk that a law plays with: x: the world in which the law began. -/
structure Sit (x y : World) (T : Nat → Prop) (d lb rb cb : Nat) (m : Dk.M) : Prop where
  dk : DkAt y T d lb rb cb m
  old : Below x.heap.size x y
  base : ∀ g, T g → x.heap.size ≤ g
section
variable {x y z : World} {T : Nat → Prop} {d lb rb cb : Nat} {m m' : Dk.M}
theorem Sit.ks (h : Sit x y T d lb rb cb m) : ∀ k ∈ [d, lb, rb, cb], x.heap.size ≤ k := fun k hk => by
  simp at hk
  rcases hk with rfl | rfl | rfl | rfl
  · exact h.base _ h.dk.lt.1
  · exact h.base _ h.dk.lt.2.1
  · exact h.base _ h.dk.lt.2.2.1
  · exact h.base _ h.dk.lt.2.2.2
theorem Sit.disk (h : Sit x y T d lb rb cb m) (hd : DkAt z T d lb rb cb m') (hm : Mv [d, lb, rb, cb] y z) : Sit x z T d lb rb cb m' := ⟨hd, hm.below h.old h.ks h.old.size, h.base⟩
theorem Sit.row (h : Sit x y T d lb rb cb m) (hd : DkAt z T d lb rb cb m') (hm : Mv [d] y z) : Sit x z T d lb rb cb m' := h.disk hd (hm.more (fun k hk => by simp at hk ⊢; exact Or.inl hk))
theorem Sit.write (h : Sit x y T d lb rb cb m) (hd : DkAt z (Own T y z) d lb rb cb m') (hm : Mv [d, lb, rb, cb] y z) : Sit x z (Own T y z) d lb rb cb m' := ⟨hd, hm.below h.old h.ks h.old.size, fun g hg => by
  rcases hg with h1 | h1
  · exact h.base g h1
  · exact Nat.le_trans h.old.size h1.1⟩
theorem Sit.next (h : Sit x y T d lb rb cb m) (hb : Below y.heap.size y z) : Sit x z T d lb rb cb m := ⟨h.dk.old hb, h.old.trans (hb.mono h.old.size), h.base⟩
theorem Sit.new (h : DkAt z (fun g => y.heap.size ≤ g ∧ g < z.heap.size) d lb rb cb m) (hb : Below y.heap.size y z) (ho : Below x.heap.size x y) : Sit x z (fun g => y.heap.size ≤ g ∧ g < z.heap.size) d lb rb cb m := ⟨h, ho.trans (hb.mono ho.size), fun _ hg => Nat.le_trans ho.size hg.1⟩
end
def lit1 (v : Int) : Obj := .cells #[.int .u8 v] 5
theorem bs1 (y : World) (v : Int) (hv : 0 ≤ v ∧ v ≤ 255) : Bs (y.alloc (lit1 v)) (some ⟨y.heap.size, 0, none⟩) 1 [v] := lit_one y [v] 1 (0, 0) rfl (by omega) (fun x hx => by simp at hx; omega)
def nums2 (a b : Int) : Obj := .cells #[.int .i64 a, .int .i64 b] 3
theorem new4 (n : Nat) (h1 : 1 ≤ n) (h2 : n ≤ 4096) (w : World) : Calls Try.prog 9 #[.int .i64 (n : Int)] w fun e w' => ∃ d lb rb cb, e = .returned (.tuple #[.pointer (some ⟨d, 0, none⟩), .int .i64 0]) ∧ Hid (DkAt w' (fun g => w.heap.size ≤ g ∧ g < w'.heap.size) d lb rb cb (Dk.fresh n)) ∧ Below w.heap.size w w' := by
  refine (disk_new (n : Int) w).mono ?_
  intro e w' h
  unfold NewSay at h
  rw [if_pos (by unfold Dk.may; simp; omega), Int.toNat_natCast] at h
  exact h
def ints (L : List Int) : Obj := .cells (L.map (Value.int .i64)).toArray 3
theorem iat_new {y z : World} {T : Nat → Prop} {d lb rb cb : Nat} {m : Dk.M} (h : DkAt y T d lb rb cb m) (L : List Int) (hm : Mv [d, lb, rb, cb] (y.alloc (ints L)) z) : IAt z (some ⟨y.heap.size, 0, none⟩) L := fun h0 => by
  refine ⟨_, 0, rfl, fun j hj => ?_⟩
  have hb : z.heap[y.heap.size]? = some (.cells (L.map (Value.int .i64)).toArray 3 (0, 0)) := by
    rw [hm.block y.heap.size (by simp) (fun hin => ?_)]
    · exact heap_alloc_new y _
    · have t1 := h.top _ h.lt.1
      have t2 := h.top _ h.lt.2.1
      have t3 := h.top _ h.lt.2.2.1
      have t4 := h.top _ h.lt.2.2.2
      simp only [List.mem_cons, List.not_mem_nil, or_false] at hin
      rcases hin with e | e | e | e <;> omega
  rw [cell_of_row z _ (0 + j) _ _ _ hb]
  simp [List.getD_eq_getElem?_getD, hj]
/-- What was read, as it is held against something. -/
theorem rd_bs {B : Nat} {y : World} {v : Value} {L : List Int} (h : Hid (y.ownsRow B 5 1 v L.length (U8s L) ∧ Sha.Byt L)) : ∃ p c, v = .slice p L.length c ∧ Bs y p c L := by
  obtain ⟨p, c, h1, h2, _⟩ := own_bs h.out.1 h.out.2
  exact ⟨p, c, h1, h2⟩
namespace Dk
def k1 : M := wrM (fresh 4) 1 [7]
def k2 : M := syM k1
def k3 : M := wrM k2 1 [8]
def k4 : M := wrM k3 2 [9]
def k5 : M := crash k4 (fate [0, 1])
def k6 : M := rdM k5 1
theorem kw1 : wrE (fresh 4) 1 [7] = 0 := by decide
theorem ks1 : spendE k1 = 0 := by decide
theorem kw2 : wrE k2 1 [8] = 0 := by decide
theorem kw3 : wrE k3 2 [9] = 0 := by decide
theorem kr5 : rdE k5 1 = 0 ∧ rdX k5 1 = [7] := by decide
theorem kr6 : rdE k6 2 = 0 ∧ rdX k6 2 = [9] := by decide
theorem kb : (fresh 4).wr ≤ 1000000000 ∧ k2.wr ≤ 1000000000 ∧ k3.wr ≤ 1000000000 ∧ k4.wr ≤ 1000000000 := by decide
theorem krd (j : Nat) : k5.rd j = 0 := rfl
theorem krd6 (j : Nat) : k6.rd j ≤ 1 := by
  show upd (fun _ => 0) 1 (0 + 1) j ≤ 1
  unfold upd
  by_cases h : j = 1
  · rw [if_pos h]; omega
  · rw [if_neg h]; exact Nat.zero_le 1
end Dk
set_option maxHeartbeats 4000000 in
set_option maxRecDepth 100000 in
theorem known_any (w : World) : Calls Try.prog 12 #[] w (YesSay w) := by
  have D1 : ∀ (y : World) (o : Obj), Below y.heap.size y (y.alloc o) := fun y o => (Below.refl _ _).alloc (Nat.le_refl _) o
  have DN := Lib.hid D1
  clear D1
  go_enter Try.func12, Try.ntmps12
  go_wp2_with (first
    | (go_at_call 9; refine (new4 4 (by omega) (by omega) _).mono ?_; rintro e1 w1 ⟨d, lb, rb, cb, rfl, hd1, hb1⟩; have H1 := Lib.hid (Sit.new hd1.out hb1 (Below.refl _ w)); clear hd1 hb1)
    | (go_at_call 15; refine (write_any 2 [9] _ 1 1 rfl (by omega) Dk.kb.2.2.1 _ (H4.out.next (DN.out _ (lit1 9))).dk (bs1 w4 9 (by omega))).mono ?_; rw [Dk.kw3]; rintro e5 w5 ⟨rfl, hd5, hm5⟩; have H5 : Hid (Sit w w5 _ d lb rb cb Dk.k4) := Lib.hid ((H4.out.next (DN.out _ (lit1 9))).write hd5.out hm5.out); clear hd5 hm5)
    | (go_at_call 15; refine (write_any 1 [8] _ 1 1 rfl (by omega) Dk.kb.2.1 _ (H3.out.next (DN.out _ (lit1 8))).dk (bs1 w3 8 (by omega))).mono ?_; rw [Dk.kw2]; rintro e4 w4 ⟨rfl, hd4, hm4⟩; have H4 : Hid (Sit w w4 _ d lb rb cb Dk.k3) := Lib.hid ((H3.out.next (DN.out _ (lit1 8))).write hd4.out hm4.out); clear hd4 hm4)
    | (go_at_call 16; refine (sync_any _ H2.out.dk).mono ?_; rw [Dk.ks1]; rintro e3 w3 ⟨rfl, hd3, hm3⟩; have H3 : Hid (Sit w w3 _ d lb rb cb Dk.k2) := Lib.hid (H2.out.disk hd3.out hm3.out); clear hd3 hm3)
    | (go_at_call 15; refine (write_any 1 [7] _ 1 1 rfl (by omega) Dk.kb.1 _ (H1.out.next (DN.out _ (lit1 7))).dk (bs1 w1 7 (by omega))).mono ?_; rw [Dk.kw1]; rintro e2 w2 ⟨rfl, hd2, hm2⟩; have H2 : Hid (Sit w w2 _ d lb rb cb Dk.k1) := Lib.hid ((H1.out.next (DN.out _ (lit1 7))).write hd2.out hm2.out); clear hd2 hm2)
    | (go_at_call 17; refine (crash_any [0, 1] _ 2 2 rfl _ (H5.out.next (DN.out _ (ints [0, 1]))).dk Dk.kb.2.2.2 (fun z hz => iat_new H5.out.dk [0, 1] hz)).mono ?_; rintro e6 w6 ⟨rfl, hd6, hm6⟩; have H6 : Hid (Sit w w6 _ d lb rb cb Dk.k5) := Lib.hid ((H5.out.next (DN.out _ (ints [0, 1]))).disk hd6.out hm6.out); clear hd6 hm6)
    | (go_at_call 18; refine (read_any 2 _ H7.out.dk (fun j => Nat.le_trans (Dk.krd6 j) (by omega))).mono ?_; rintro e8 w8 ⟨v8, rfl, hv8, hd8, hm8⟩; obtain ⟨p8, c8, rfl, hb8⟩ := rd_bs hv8; rw [show Dk.rdX Dk.k6 2 = [9] from Dk.kr6.2] at hb8 ⊢; rw [show Dk.rdE Dk.k6 2 = 0 from Dk.kr6.1]; have H8 := Lib.hid (H7.out.disk hd8.out hm8.out); have R7 := Lib.hid (H7.out.dk.bs P7.out hm8.out); have R8 := Lib.hid hb8; clear hv8 hd8 hm8 hb8)
    | (go_at_call 18; refine (read_any 1 _ H6.out.dk (fun j => by rw [show Dk.k5.rd j = 0 from Dk.krd j]; omega)).mono ?_; rintro e7 w7 ⟨v7, rfl, hv7, hd7, hm7⟩; obtain ⟨p7, c7, rfl, hb7⟩ := rd_bs hv7; rw [show Dk.rdX Dk.k5 1 = [7] from Dk.kr5.2] at hb7 ⊢; rw [show Dk.rdE Dk.k5 1 = 0 from Dk.kr5.1]; have H7 : Hid (Sit w w7 _ d lb rb cb Dk.k6) := Lib.hid (H6.out.disk hd7.out hm7.out); have P7 := Lib.hid hb7; clear hv7 hd7 hm7 hb7)
    | (go_at_call 19; refine (same_any [9] p8 _ 1 1 c8 1 rfl rfl _ ((R8.out.old (DN.out _ (lit1 7))).old S9.out |>.old (DN.out _ (lit1 9))).bat (bs1 w9 9 (by omega)).bat (by decide)).mono ?_; rintro e10 w10 ⟨rfl, hb10⟩; have B10 : Hid (Below w9.heap.size w9 w10) := (DN.out _ (lit1 9)).trans (hb10.mono (DN.out _ (lit1 9)).size); clear hb10)
    | (go_at_call 19; refine (same_any [7] p7 _ 1 1 c7 1 rfl rfl _ (R7.out.old (DN.out _ (lit1 7))).bat (bs1 w8 7 (by omega)).bat (by decide)).mono ?_; rintro e9 w9 ⟨rfl, hb9⟩; have S9 := Lib.hid hb9; have H9 := Lib.hid (H8.out.next ((DN.out _ (lit1 7)).trans (hb9.mono (DN.out _ (lit1 7)).size))); clear hb9))
  go_ret
  exact ⟨rfl, (H9.out.next B10.out).old⟩
end Go.Proofs.Ytdkkoffmffallaa

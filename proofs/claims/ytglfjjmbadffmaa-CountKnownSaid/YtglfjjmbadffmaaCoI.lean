/-
  CountRuns walked.
-/
import Derived.Test.YtglfjjmbadffmaaCoH
namespace Go.Proofs.Ytglfjjmbadffmaa
open Go.RowKit

def OBox (K I : Int) : Obj := .cells #[.int .i64 K, .int .i64 I] 37
theorem obox_cells {y : World} {g : Nat} {K I : Int} (h : y.heap[g]? = some (OBox K I)) : y.cell? ⟨g, 0, none⟩ = some (.int .i64 K) ∧ y.cell? ⟨g, 1, none⟩ = some (.int .i64 I) := by
  unfold OBox at h
  constructor <;> rw [cell_of_row y g _ _ _ _ h] <;> rfl
/-- What run says. -/
def RunSay (x : World) (d c r e : Nat) (m : Dk.M) (ev : Ending) (w' : World) : Prop := ev = .returned (.bool true) ∧ ∃ m' v', Hid (Ru x w' d c r e m' v' m' v' []) ∧ Hid (m'.wr ≤ m.wr + 1)
set_option maxHeartbeats 8000000 in
set_option maxRecDepth 100000 in
theorem run_any {x : World} {d c r e : Nat} {m : Dk.M} {v : Int} (K I : Int) (w : World) (h : Ru x w d c r e m v m v []) (hI : In64 I) (hwr : m.wr ≤ 1000000) :
    Calls Try.prog 14 #[.pointer (some ⟨d, 0, none⟩), .pointer (some ⟨c, 0, none⟩), .pointer (some ⟨r, 0, none⟩), .pointer (some ⟨e, 0, none⟩), .agg #[.int .i64 K, .int .i64 I]] w (RunSay x d c r e m) := by
  have HI := Lib.hid hI
  have HWR : Hid (m.wr ≤ 1000000000) := by show _ ≤ _; omega
  obtain ⟨w1, HW1⟩ : ∃ y : World, Hid (y = w.alloc (OBox K I)) := ⟨_, rfl⟩
  have H1 : Hid (Ru x w1 d c r e m v m v [(w.heap.size, OBox K I)]) := by show Ru _ _ _ _ _ _ _ _ _ _ _; rw [HW1.out]; exact h.box _
  go_enter Try.func14, Try.ntmps14
  go_upto_region 1 with (fail)
  have HW1' := HW1.out
  unfold OBox at HW1'
  rw [← HW1']
  clear HW1' HW1 h hI
  obtain ⟨b0, b1⟩ := obox_cells H1.out.at
  rcases Cn.kind_of K with rfl | rfl | rfl | rfl | rfl | ⟨k0, k1, k2, k3, k4⟩
  · -- 0
    go_upto_region 3 with (fail)
    have H2 := Lib.hid (H1.out.next (Below.refl _ w1).drew)
    go_region_held3 (fun y => y.cell? ⟨w.heap.size, 1, none⟩ = some (.int .i64 I))
      (first | exact b1 | exact (obox_cells H2.out.at).2 | exact (obox_cells H3.out.at).2 | exact (obox_cells H4.out.at).2)
      ((first
        | (go_at_call 23; refine (ru_raise I H2.out).mono ?_; rintro e3 w3 ⟨rfl, H3⟩)
        | (go_at_call 30; refine (ru_rraise I H3.out).mono ?_; rintro e4 w4 ⟨rfl, H4⟩)))
    go_wp2
    go_ret
    exact ⟨rfl, _, _, Lib.hid H4.out.bare, Lib.hid (by rw [Cn.rM_wr]; omega)⟩
  · -- 1
    go_wp2_with (first
      | (go_at_call 25; refine (ru_arm I HI.out H1.out).mono ?_; rintro e3 w3 ⟨rfl, H3⟩; have b3 := (obox_cells H3.out.at).2)
      | (go_at_call 31; refine (ru_rarm I HI.out H3.out).mono ?_; rintro e4 w4 ⟨rfl, H4⟩))
    go_ret
    exact ⟨rfl, _, _, Lib.hid H4.out.bare, Lib.hid (by show m.wr ≤ _; omega)⟩
  · -- 2
    go_wp2_with (first
      | (go_at_call 26; refine (ru_crash HWR.out H1.out).mono ?_; rintro e3 w3 ⟨rfl, H3⟩; have b3 := (obox_cells H3.out.at).2)
      | (go_at_call 32; refine (ru_rcrash H3.out).mono ?_; rintro e4 w4 ⟨rfl, H4⟩))
    go_ret
    exact ⟨rfl, _, _, Lib.hid H4.out.bare, Lib.hid (by rw [(Cn.cra_n m).2.1]; omega)⟩
  · -- 3
    go_upto_region 11 with (fail)
    have H2 := Lib.hid (H1.out.next (Below.refl _ w1).drew)
    go_region_held3 (fun y => y.cell? ⟨w.heap.size, 1, none⟩ = some (.int .i64 I))
      (first | exact b1 | exact (obox_cells H2.out.at).2 | exact (obox_cells H3.out.at).2 | exact (obox_cells H4.out.at).2)
      ((first
        | (go_at_call 27; refine (ru_write I HWR.out H2.out).mono ?_; rintro e3 w3 ⟨rfl, H3⟩)
        | (go_at_call 33; refine (ru_rwrite I HWR.out H3.out).mono ?_; rintro e4 w4 ⟨rfl, H4⟩)))
    go_wp2
    go_ret
    exact ⟨rfl, _, _, Lib.hid H4.out.bare, Lib.hid (by exact Cn.wrM_wr m I [])⟩
  · -- 4
    go_wp2_with (first
      | (go_at_call 28; refine (ru_sync H1.out).mono ?_; rintro e3 w3 ⟨rfl, H3⟩; have b3 := (obox_cells H3.out.at).2)
      | (go_at_call 34; refine (ru_rsync H3.out).mono ?_; rintro e4 w4 ⟨rfl, H4⟩))
    go_ret
    exact ⟨rfl, _, _, Lib.hid H4.out.bare, Lib.hid (by rw [Cn.syM_wr]; omega)⟩
  · go_wp2
    go_ret
    exact ⟨rfl, _, _, Lib.hid H1.out.bare, Lib.hid (by omega)⟩
theorem ref_new4 (n : Nat) (h1 : 1 ≤ n) (h2 : n ≤ 4096) (w : World) : Calls Try.prog 11 #[.int .i64 (n : Int)] w fun e w' => ∃ r qb, e = .returned (.tuple #[.pointer (some ⟨r, 0, none⟩), .int .i64 0]) ∧ Hid (RfAt w' (fun g => w.heap.size ≤ g ∧ g < w'.heap.size) r qb (Dk.fresh n)) ∧ Below w.heap.size w w' := by
  refine (ref_new (n : Int) w).mono ?_
  intro e w' h
  unfold RfNew at h
  rw [if_pos (by unfold Dk.may; simp; omega), Int.toNat_natCast] at h
  exact h
/-- Both disks, no counter yet. -/
def Rd0 (x y : World) (d r : Nat) (m : Dk.M) : Prop := ∃ T lb rb cb U qb, Bth x y T d lb rb cb m U r qb m
/-- .. the program's counter alone. -/
def Rd1 (x y : World) (d c r : Nat) (m : Dk.M) : Prop := ∃ T lb rb cb U qb, Bth x y T d lb rb cb m U r qb m ∧ CnAt y c d 0 ∧ x.heap.size ≤ c ∧ ¬ T c ∧ ¬ U c
theorem rd0_new {x w : World} {d : Nat} {n : Nat} (h1 : 1 ≤ n) (h2 : n ≤ 4096) (h : Sd x w d (Dk.fresh n)) : Calls Try.prog 11 #[.int .i64 (n : Int)] w fun e w' => ∃ r, e = .returned (.tuple #[.pointer (some ⟨r, 0, none⟩), .int .i64 0]) ∧ Hid (Rd0 x w' d r (Dk.fresh n)) := by
  obtain ⟨T, lb, rb, cb, h⟩ := h
  refine (ref_new4 n h1 h2 w).mono ?_
  rintro e w' ⟨r, qb, rfl, hr, hb⟩
  exact ⟨r, rfl, Lib.hid ⟨T, lb, rb, cb, _, qb, h.next hb, hr.out, fun g hg => Nat.le_trans h.old.size hg.1, fun g hg hu => by have := h.dk.top g hg; omega⟩⟩
theorem rd1_new {x w : World} {d r : Nat} {m : Dk.M} (h : Rd0 x w d r m) : Calls Try.prog 12 #[.pointer (some ⟨d, 0, none⟩)] w fun e w' => ∃ c, e = .returned (.pointer (some ⟨c, 0, none⟩)) ∧ Hid (Rd1 x w' d c r m) := by
  obtain ⟨T, lb, rb, cb, U, qb, h⟩ := h
  refine (cnew_any d w).mono ?_
  rintro e w' ⟨rfl, g1, g2⟩
  exact ⟨_, rfl, Lib.hid ⟨T, lb, rb, cb, U, qb, h.next g2.out, g1.out, h.a.old.size, fun ht => by have := h.a.dk.top _ ht; omega, fun hu => by have := h.b.top _ hu; omega⟩⟩
theorem ru_new {x w : World} {d c r : Nat} {m : Dk.M} (h : Rd1 x w d c r m) : Calls Try.prog 13 #[.pointer (some ⟨r, 0, none⟩)] w fun e w' => ∃ e0, e = .returned (.pointer (some ⟨e0, 0, none⟩)) ∧ Hid (Ru x w' d c r e0 m 0 m 0 []) := by
  obtain ⟨T, lb, rb, cb, U, qb, h, hc, h1, h2, h3⟩ := h
  refine (rcnew_any r w).mono ?_
  rintro e w' ⟨rfl, g1, g2⟩
  exact ⟨_, rfl, Lib.hid ⟨T, lb, rb, cb, U, qb, h.next g2.out, hc.old g2.out, g1.out, ⟨h1, h.a.old.size⟩, ⟨h2, h3, fun ht => by have := h.a.dk.top _ ht; omega, fun hu => by have := h.b.top _ hu; omega, fun q => by have := hc.lt; omega⟩, fun p hp => by simp at hp⟩⟩
set_option maxHeartbeats 8000000 in
set_option maxRecDepth 100000 in
theorem runs_any (L : List (Int × Int)) (tp : Option Addr) (cap : Nat) (w : World) (hl : ORows w tp L) :
    Calls Try.prog 3 #[.slice tp L.length cap] w (YesSay w) := by
  have HL : Hid (∀ y, Below w.heap.size w y → ORows y tp L) := fun y hy => hl.old hy
  clear hl
  by_cases hlen : 200 < L.length
  · have hlen' : (200 : Int) < (L.length : Int) := by omega
    go_enter Try.func3, Try.ntmps3
    go_wp2_with (go_at_call 9; refine (works_any _).mono ?_; rintro e1 w1 ⟨rfl, hb1⟩)
    go_ret
    exact ⟨rfl, hb1⟩
  · have hlen' : (L.length : Int) ≤ 200 := by omega
    have hlen2 : L.length ≤ 200 := by omega
    clear hlen
    have KR : Hid (∀ y d, Sd w y d (Dk.fresh 8) → Calls Try.prog 11 #[.int .i64 8] y fun e w' => ∃ r, e = .returned (.tuple #[.pointer (some ⟨r, 0, none⟩), .int .i64 0]) ∧ Hid (Rd0 w w' d r (Dk.fresh 8))) := fun y d h => rd0_new (n := 8) (by omega) (by omega) h
    go_enter Try.func3, Try.ntmps3
    go_upto_region 10 with (first
      | (go_at_call 10; refine (sd_new 8 (by omega) (by omega) w _ (Below.refl _ _)).mono ?_; rintro e0 q0 ⟨d, rfl, H0⟩)
      | (go_at_call 11; refine (KR.out _ _ H0.out).mono ?_; rintro e1 q1 ⟨r, rfl, H1⟩)
      | (go_at_call 12; refine (rd1_new H1.out).mono ?_; rintro e2 q2 ⟨c, rfl, H2⟩)
      | (go_at_call 13; refine (ru_new H2.out).mono ?_; rintro e3 q3 ⟨e, rfl, H3⟩))
    go_loopw [9] (fun v9 wr => ∃ (i : Nat) (m : Dk.M) (v : Int), i ≤ L.length ∧ v9 = .int .i64 i ∧ Hid (m.wr ≤ i) ∧ Hid (Ru w wr d c r e m v m v [])) (fun v9 _ => L.length - (intOf v9).toNat)
    case atStart => exact ⟨0, _, _, by omega, rfl, Lib.hid (Nat.le_refl _), H3⟩
    case round =>
      obtain ⟨i, m, v, hi, rfl, HW, HS⟩ := hrel
      by_cases hlt : i < L.length
      · obtain ⟨⟨K, x⟩, hx⟩ : ∃ x, L[i]? = some x := ⟨_, List.getElem?_eq_getElem hlt⟩
        obtain ⟨ab, ao, rfl, hcl⟩ := HL.out _ HS.out.old (by omega)
        obtain ⟨ck, cn, _, hwn⟩ := hcl i _ hx
        have HWN := Lib.hid hwn
        dsimp only at ck cn
        clear hcl hx hwn
        have hi0 : (0 : Int) ≤ (i : Int) := by omega
        have hil : (i : Int) < (L.length : Int) := by omega
        have HWR : Hid (m.wr ≤ 1000000) := by have := HW.out; show _ ≤ _; omega
        go_wp2_with (first
          | (go_at_call 14; refine (run_any K x _ HS.out HWN.out HWR.out).mono ?_; rintro e4 w4 ⟨rfl, m4, v4, H4, W4⟩)
          | (go_at_call 15; refine (ru_value H4.out).mono ?_; rintro e5 w5 ⟨rfl, rfl⟩)
          | (go_at_call 16; refine (ru_rvalue H4.out).mono ?_; rintro e6 w6 ⟨rfl, rfl⟩))
        exact ⟨⟨i + 1, _, _, by omega, by go_num, Lib.hid (by have := HW.out; have := W4.out; omega), H4⟩, by simp [intOf]; omega⟩
      · have hge : (L.length : Int) ≤ (i : Int) := by omega
        go_wp2_with (go_at_call 9; refine (works_any _).mono ?_; rintro e9 w9 ⟨rfl, hb9⟩)
        go_ret
        exact ⟨rfl, HS.out.old.trans (hb9.mono HS.out.old.size)⟩
end Go.Proofs.Ytglfjjmbadffmaa

/-
  Numbers: LentInts, KeptInts, SpoilInts.
-/
import Derived.Test.YtdkkoffmffallaaDkX9
namespace Go.Proofs.Ytdkkoffmffallaa
open Go.RowKit

section
variable {P : Program} {ops : Array Oper} {rest : List Oper} {a : Act} {w : World} {Q : Exit → Act → World → Prop} {D : Option Tmp} {T : TypeId} {ps : String} {af : Array Edge}
end
/-- Five marks behind a text. -/
def mi5 (L : List Int) : List Int := L ++ List.replicate 5 (-77)
theorem mi5_len (L : List Int) : (mi5 L).length = L.length + 5 := by simp [mi5]
theorem mi5_lo (L : List Int) (j : Nat) (hj : j < L.length) : (mi5 L).getD j 0 = L.getD j 0 := getD_append_left' L _ j hj
theorem mi5_hi (L : List Int) (j : Nat) (h1 : L.length ≤ j) (h2 : j < L.length + 5) : (mi5 L).getD j 0 = (-77) := by
  unfold mi5
  rw [List.getD_eq_getElem?_getD, List.getElem?_append_right h1, List.getElem?_replicate, if_pos (by omega)]
  rfl
def fi5 (L : List Int) (k : Nat) : List Int := (mi5 L).take k ++ List.replicate (L.length + 5 - k) 0
theorem fi5_len (L : List Int) (k : Nat) (hk : k ≤ L.length + 5) : (fi5 L k).length = L.length + 5 := by simp [fi5, mi5]; omega
theorem fi5_zero (L : List Int) : (fi5 L 0).map (Value.int .i64) = List.replicate (L.length + 5) (Value.int .i64 0) := by simp [fi5]
theorem fi5_all (L : List Int) : fi5 L (L.length + 5) = mi5 L := by
  unfold fi5
  rw [List.take_of_length_le (by rw [mi5_len]; omega), Nat.sub_self]
  simp
theorem fi5_step (L : List Int) (k : Nat) (hk : k < L.length + 5) : (fi5 L k).set k ((mi5 L).getD k 0) = fi5 L (k + 1) := by
  unfold fi5
  have hl : ((mi5 L).take k).length = k := by simp [mi5]; omega
  rw [List.set_append_right _ _ (by omega), hl, Nat.sub_self, show L.length + 5 - k = (L.length + 5 - (k + 1)) + 1 by omega, List.replicate_succ, List.set_cons_zero,
    ← take_snoc (mi5 L) k (by rw [mi5_len]; omega), List.append_assoc]
  rfl
theorem fi5_cell {w : World} {g : Nat} {L : List Int} {k : Nat} {t : TypeId} {fr : Nat × Nat} (h : w.heap[g]? = some (.cells ((fi5 L k).map (Value.int .i64)).toArray t fr)) (hk : k ≤ L.length + 5) (j : Nat) (hj : j < L.length + 5) : w.cell? ⟨g, j, none⟩ = some (.int .i64 ((fi5 L k).getD j 0)) := by
  rw [cell_of_row w g j _ _ _ h]
  have := fi5_len L k hk
  simp [List.getD_eq_getElem?_getD, this, hj]
theorem set_i64' {w : World} {g i : Nat} {l : List Int} {x : Int} {t : TypeId} (h : w.heap[g]? = some (.cells (l.map (Value.int .i64)).toArray t (0, 0))) :
    (w.setCell ⟨g, i, none⟩ (.int .i64 x)).heap[g]? = some (.cells ((l.set i x).map (Value.int .i64)).toArray t (0, 0)) := by
  rw [heap_setCell_same w g i _ _ _ h]
  congr 2
  apply Array.ext'
  simp
/-- What LentInts says. -/
def LentISay (L : List Int) (w : World) (e : Ending) (w' : World) : Prop :=
  ∃ g, e = .returned (.slice (some ⟨g, 0, none⟩) (L.length + 5) (L.length + 5)) ∧ w.heap.size ≤ g ∧ w'.heap[g]? = some (.cells ((mi5 L).map (Value.int .i64)).toArray 3 (0, 0)) ∧ Below w.heap.size w w'
set_option maxHeartbeats 1000000 in
set_option maxRecDepth 100000 in
theorem lentints_any (L : List Int) (p : Option Addr) (cap : Nat) (w : World) (hp : IAt w p L) (hL : L.length ≤ 1000000) :
    Calls Try.prog 35 #[.slice p L.length cap] w (LentISay L w) := by
  have Hp := Lib.hid hp; clear hp
  have hcast : Hid (((L.length : Int) + 5) = ((L.length + 5 : Nat) : Int)) := by show _ = _; omega
  go_enter Try.func35, Try.ntmps35
  go_upto_region 2 with ((with_reducible refine make_at _ 3 _ _ (.int .i64 0) 8 (L.length + 5) (L.length + 5) ?_ ?_ ?_ ?_ rfl ?_ ?_ ?_ ?_); (exact congrArg (Value.int .i64) hcast.out); (exact congrArg (Value.int .i64) hcast.out); (exact Try.underlying32); (exact Try.info_int); omega; omega; omega; intro w1 G1 hb1 hs1)
  have G1' : Hid (w1.heap[w.heap.size]? = some (.cells ((fi5 L 0).map (Value.int .i64)).toArray 3 (0, 0))) := by
    show _ = _; rw [fi5_zero]; exact G1.out
  have HB1 := Lib.hid hb1
  clear hb1 G1 hcast
  go_wp2
  go_loopw [4] (fun v4 wr => ∃ k : Nat, k ≤ L.length + 5 ∧ v4 = .int .i64 k ∧ Hid (wr.heap[w.heap.size]? = some (.cells ((fi5 L k).map (Value.int .i64)).toArray 3 (0, 0))) ∧ Hid (Below w.heap.size w wr)) (fun v4 _ => L.length + 5 - (intOf v4).toNat)
  case atStart => exact ⟨0, by omega, rfl, G1'.out, HB1.out⟩
  case round =>
    clear G1' HB1 hs1
    obtain ⟨k, hk, rfl, HG, HB⟩ := hrel
    by_cases hlt : k < L.length + 5
    · have c0 := fi5_cell HG.out hk k hlt
      have f0 := frozen_of_row wr w.heap.size k _ _ HG.out
      generalize (fi5 L k).getD k 0 = y0 at c0
      by_cases hin : k < L.length
      · obtain ⟨ab, ao, hpp, hcs⟩ := Hp.out (by omega)
        subst hpp
        have hlt2 : ab < w.heap.size := World.block_lt_of_cell? w _ (hcs 0 (by omega))
        have c1 : wr.cell? ⟨ab, ao + k, none⟩ = some (.int .i64 (L.getD k 0)) := (HB.out.cell hlt2).trans (hcs k hin)
        have c2 : (wr.setCell ⟨w.heap.size, k, none⟩ (.int .i64 (-77))).cell? ⟨ab, ao + k, none⟩ = some (.int .i64 (L.getD k 0)) := by
          rw [World.cell?_of_block (w := wr) (heap_setCell_other _ _ _ _ (by simp; omega))]; exact c1
        have h1 := set_i64' (i := k) (x := (-77)) HG.out
        have c3 : (wr.setCell ⟨w.heap.size, k, none⟩ (.int .i64 (-77))).cell? ⟨w.heap.size, k, none⟩ = some (.int .i64 (-77)) := by
          rw [cell_of_row _ _ k _ _ _ h1]
          have := fi5_len L k hk
          simp [this, hlt]
        have f3 := frozen_of_row _ w.heap.size k _ _ h1
        have HF : Hid ((fi5 L k).set k (L.getD k 0) = fi5 L (k + 1)) := by show _ = _; rw [← mi5_lo L k hin]; exact fi5_step L k hlt
        generalize L.getD k 0 = x at *
        have H1 := Lib.hid h1
        clear h1
        go_wp2
        refine ⟨⟨k + 1, by omega, by go_num, ?_, ?_⟩, by simp [intOf]; omega⟩
        · have h2 := set_i64' (i := k) (x := x) H1.out
          rw [List.set_set, HF.out] at h2
          exact h2
        · exact (HB.out.setCell (by simp) _).setCell (by simp) _
      · have HF : Hid ((fi5 L k).set k (-77) = fi5 L (k + 1)) := by show _ = _; rw [← mi5_hi L k (by omega) hlt]; exact fi5_step L k hlt
        go_wp2
        refine ⟨⟨k + 1, by omega, by go_num, ?_, ?_⟩, by simp [intOf]; omega⟩
        · have h2 := set_i64' (i := k) (x := (-77)) HG.out
          rw [HF.out] at h2
          exact h2
        · exact HB.out.setCell (by simp) _
    · have E : k = L.length + 5 := by omega
      have HG2 : Hid (wr.heap[w.heap.size]? = some (.cells ((mi5 L).map (Value.int .i64)).toArray 3 (0, 0))) := by
        have := HG.out
        rw [E, fi5_all] at this
        exact this
      have hge : L.length + 5 ≤ k := by omega
      clear E hlt HG
      go_wp2
      go_ret
      exact ⟨w.heap.size, rfl, Nat.le_refl _, HG2.out, HB.out⟩
theorem IAt.pre {w : World} {p : Option Addr} {L M : List Int} (h : IAt w p (L ++ M)) : IAt w p L := fun h0 => by
  obtain ⟨ab, ao, h1, h2⟩ := h (by rw [List.length_append]; omega)
  refine ⟨ab, ao, h1, fun j hj => ?_⟩
  rw [h2 j (by rw [List.length_append]; omega), getD_append_left' L _ j hj]
theorem IAt.at {w : World} {g : Nat} {l : List Int} (h : IAt w (some ⟨g, 0, none⟩) l) (j : Nat) (hj : j < l.length) : w.cell? ⟨g, j, none⟩ = some (.int .i64 (l.getD j 0)) := by
  obtain ⟨ab, ao, h1, h2⟩ := h (by omega)
  cases h1
  have h := h2 j hj
  rw [Nat.zero_add] at h
  exact h
theorem iat_row {w : World} {g : Nat} {l : List Int} {t : TypeId} {fr : Nat × Nat} (h : w.heap[g]? = some (.cells (l.map (Value.int .i64)).toArray t fr)) : IAt w (some ⟨g, 0, none⟩) l := fun _ => ⟨g, 0, rfl, fun j hj => by
  rw [Nat.zero_add, cell_of_row w g j _ _ _ h]
  simp [List.getD_eq_getElem?_getD, hj]⟩
set_option maxHeartbeats 1000000 in
set_option maxRecDepth 100000 in
theorem keptints_any (L : List Int) (g : Nat) (q : Option Addr) (c d : Nat) (w : World) (hp : IAt w (some ⟨g, 0, none⟩) (mi5 L)) (hq : IAt w q L) (hL : L.length ≤ 1000000) (hc : L.length + 5 ≤ c) :
    Calls Try.prog 37 #[.slice (some ⟨g, 0, none⟩) (L.length + 5) c, .slice q L.length d] w (YesSay w) := by
  have Hp := Lib.hid hp; clear hp
  have Hq := Lib.hid hq; clear hq
  have HPL : Hid (IAt w (some ⟨g, 0, none⟩) L) := by
    have h := Hp.out
    unfold mi5 at h
    exact h.pre
  go_enter Try.func37, Try.ntmps37
  go_wp2_with (go_at_call 24; refine (same_ints L _ _ _ _ _ _ rfl rfl _ (fun y hy => HPL.out.old hy) (fun y hy => Hq.out.old hy) (by omega)).mono ?_; rintro e w1 ⟨rfl, hb1⟩)
  have HB1 := Lib.hid hb1
  clear hb1
  go_loopw [5] (fun v5 wr => ∃ k : Nat, k ≤ 5 ∧ v5 = .int .i64 ((L.length : Int) + k) ∧ Hid (Below w.heap.size w wr)) (fun v5 _ => L.length + 5 - (intOf v5).toNat)
  case atStart => exact ⟨0, by omega, by simp, HB1.out⟩
  case round =>
    clear HB1
    obtain ⟨k, hk, rfl, HB⟩ := hrel
    by_cases hlt : k < 5
    · have c0 := (Hp.out.old HB.out).at (L.length + k) (by rw [mi5_len]; omega)
      rw [mi5_hi L (L.length + k) (by omega) (by omega)] at c0
      go_wp2
      exact ⟨⟨k + 1, by omega, by congr 1, HB.out⟩, by simp [intOf]; omega⟩
    · have E : k = 5 := by omega
      subst E
      go_wp2
      go_ret
      exact ⟨rfl, HB.out⟩
set_option maxHeartbeats 1000000 in
set_option maxRecDepth 100000 in
theorem spoilints_cells (g c n : Nat) (cur : Array Value) (l : List Int) (_hl : l.length = n) (hn : n ≤ 1000000) (w : World) (hg : w.heap[g]? = some (.cells cur 3 (0, 0))) (hc : ∀ j, j < n → cur[j]? = some (.int .i64 (l.getD j 0))) :
    Calls Try.prog 42 #[.slice (some ⟨g, 0, none⟩) n c] w fun r w' => r = .returned (.tuple #[]) ∧ Only g w w' := by
  have Hg := Lib.hid hg; have Hc := Lib.hid hc; clear hg hc
  go_enter Try.func42, Try.ntmps42
  go_wp2
  go_loopw [2] (fun v2 wr => ∃ k : Nat, k ≤ n ∧ v2 = .int .i64 k ∧ ∃ m : Array Value, Hid (∀ j, k ≤ j → j < n → m[j]? = some (.int .i64 (l.getD j 0))) ∧ Hid (wr.heap[g]? = some (.cells m 3 (0, 0))) ∧ Hid (Only g w wr)) (fun v2 _ => n - (intOf v2).toNat)
  case atStart => exact ⟨0, Nat.zero_le _, rfl, cur, fun j _ hj => Hc.out j hj, Hg.out, Only.refl _ _⟩
  case round =>
    clear Hg Hc
    obtain ⟨k, hk, rfl, m, HM, HG, HO⟩ := hrel
    by_cases hlt : k < n
    · have c0 : wr.cell? ⟨g, k, none⟩ = some (.int .i64 (l.getD k 0)) := by rw [cell_of_row wr g k _ _ _ HG.out]; exact HM.out k (Nat.le_refl _) hlt
      have f0 := frozen_of_row wr g k _ _ HG.out
      generalize l.getD k 0 = y at c0
      go_wp2
      refine ⟨⟨k + 1, by omega, by go_num, m.setIfInBounds k (.int .i64 (bits .xor .i64 y 77)), ?_, ?_, ?_⟩, by simp [intOf]; omega⟩
      · intro j h1 h2
        rw [Array.getElem?_setIfInBounds_ne (by omega)]
        exact HM.out j (by omega) h2
      · show _ = _
        rw [heap_setCell_same wr g k _ _ _ HG.out]
      · exact HO.out.trans (Chg.setCell wr ⟨g, k, none⟩ _).only
    · have hge : n ≤ k := by omega
      clear hlt
      go_wp2
      go_end0
      exact ⟨rfl, HO.out⟩
set_option maxHeartbeats 1000000 in
set_option maxRecDepth 100000 in
theorem spoilints_nil (w : World) : Calls Try.prog 42 #[.slice none 0 0] w fun r w' => r = .returned (.tuple #[]) ∧ w' = w := by
  go_enter Try.func42, Try.ntmps42
  go_wp2
  go_loopw [2] (fun v2 wr => v2 = .int .i64 0 ∧ wr = w) (fun _ _ => 0)
  case atStart => exact ⟨rfl, rfl⟩
  case round =>
    obtain ⟨rfl, rfl⟩ := hrel
    go_wp2
    go_end0
    exact ⟨rfl, rfl⟩

theorem spoilints_own {B n : Nat} {v : Value} {l : List Nat} {w : World} (h : w.ownsRow B 3 1 v n (I64s l)) (hn : n ≤ 1000000) :
    Calls Try.prog 42 #[v] w fun r w' => r = .returned (.tuple #[]) ∧ Sp v w w' := by
  have hl : l.length = n := by have := h.1; unfold I64s at this; simpa using this
  rcases h.2 with ⟨rfl, rfl⟩ | ⟨g, cap, cur, rfl, q0, q1, q2, q3, q4, q5⟩
  · exact (spoilints_nil w).mono fun r w' hh => ⟨hh.1, Or.inl hh.2⟩
  · refine (spoilints_cells g cap n cur (l.map fun (k : Nat) => (k : Int)) (by simpa using hl) hn w q1 fun j hj => ?_).mono fun r w' hh => ⟨hh.1, Or.inr ⟨g, rfl, hh.2⟩⟩
    have h6 : (cur.toList.take (n * 1))[j]? = (I64s l)[j]? := by rw [q5]
    rw [List.getElem?_take_of_lt (by omega)] at h6
    have h7 : cur[j]? = (I64s l)[j]? := by simpa using h6
    rw [h7]
    unfold I64s
    have hj' : j < l.length := by omega
    simp [List.getD_eq_getElem?_getD, hj']
end Go.Proofs.Ytdkkoffmffallaa

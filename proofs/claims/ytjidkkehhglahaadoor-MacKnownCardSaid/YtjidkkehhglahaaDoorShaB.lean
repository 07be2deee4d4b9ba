/-
  Contract: sha.words.
-/
import Derived.Test.YtjidkkehhglahaaDoorShaA
import Derived.BigRegion
import Derived.Deep.Cut
import Derived.Test.YtjidkkehhglahaaDoorShaL
namespace Go.Proofs.YtjidkkehhglahaaDoor
open Go.RowKit

theorem wa_one (l : List Int) : (Sha.wa l).all (·.oneCell') = true := by
  refine Array.all_eq_true_iff_forall_mem.2 (fun v hv => ?_)
  simp only [Sha.wa, List.mem_toArray, List.mem_append, List.mem_map, List.mem_replicate] at hv
  rcases hv with ⟨x, _, rfl⟩ | ⟨_, rfl⟩ <;> rfl

theorem Tryd.size53 : (Tryd.prog.info? 60).map (·.size) = some 64 := by kernel_rfl

/-- What the loops of 'words' keep: the row's box, the result's cells, the words' array. -/
def WordsOk (w wr : World) (cs Z W : Array Value) : Prop :=
  wr.heap[w.heap.size]? = some (.cells cs 46 (0, 0)) ∧ wr.heap[w.heap.size + 1]? = some (.cells Z 60 (0, 0)) ∧ wr.heap[w.heap.size + 2]? = some (.cells W 60 (0, 0)) ∧ Below w.heap.size w wr ∧ wr.heap.size = w.heap.size + 3

theorem WordsOk.step {w wr : World} {cs Z : Array Value} {l : List Int} (h : WordsOk w wr cs Z (Sha.wa l)) (k : Nat) (hk : l.length = k) (hl : k < 64) (x : Int) :
    WordsOk w ((wr.setCell ⟨w.heap.size + 1 + 1, k, none⟩ (.int .u32 x)).drew) cs Z (Sha.wa (l ++ [x])) := by
  obtain ⟨h1, h2, h3, h4, h5⟩ := h
  subst hk
  refine ⟨?_, ?_, ?_, ?_, ?_⟩
  · rw [heap_drew, heap_setCell_other _ _ _ _ (by simp; omega)]; exact h1
  · rw [heap_drew, heap_setCell_other _ _ _ _ (by simp)]; exact h2
  · rw [heap_drew, heap_setCell_same wr (w.heap.size + 2) l.length _ _ _ h3, Sha.wa_set l x hl]
  · exact ((h4.setCell (by simp; omega) _).drew)
  · simpa using h5

set_option maxRecDepth 100000 in
set_option maxHeartbeats 1000000 in
theorem words_any (cs : Array Value) (r : Nat → Int) (hcs : ∀ i, i < 64 → cs[i]? = some (.int .u8 (r i))) (hr : ∀ i, i < 64 → 0 ≤ r i ∧ r i ≤ 255) (w : World) :
    Calls Tryd.prog 36 #[.agg cs] w fun e w' => e = .returned (.agg (Sha.wa (Sha.wl r 64))) ∧ Below w.heap.size w w' := by
  have Hcs := Lib.hid hcs; clear hcs
  have Hr := Lib.hid hr; clear hr
  go_enter Tryd.func36, Tryd.ntmps36
  go_wp2
  go_loopw [10] (fun i wr => ∃ k : Nat, k ≤ 16 ∧ i = .int .i64 k ∧ WordsOk w wr cs (Sha.wa []) (Sha.wa (Sha.wl r k))) (fun i _ => 16 - (intOf i).toNat)
  case atStart =>
    refine ⟨0, by omega, rfl, ?_, ?_, ?_, ?_, ?_⟩
    · exact heap3_0 w _ _ _
    · rw [Sha.wa_nil]; exact heap3_1 w _ _ _
    · rw [Sha.wl, Sha.wa_nil]; exact heap3_2 w _ _ _
    · exact (((Below.refl _ _).alloc (Nat.le_refl _) _).alloc (by simp) _).alloc (by simp; omega) _
    · simp
  case round =>
    obtain ⟨k, hk, rfl, hok⟩ := hrel
    obtain ⟨h1, h2, h3, h4, h5⟩ := id hok
    have B := Lib.hid hok; clear hok
    by_cases hlt : k < 16
    · have c0 := (cell_of_row wr w.heap.size (4 * k) cs _ _ h1).trans (Hcs.out (4 * k) (by omega))
      have c1 := (cell_of_row wr w.heap.size (4 * k + 1) cs _ _ h1).trans (Hcs.out (4 * k + 1) (by omega))
      have c2 := (cell_of_row wr w.heap.size (4 * k + 2) cs _ _ h1).trans (Hcs.out (4 * k + 2) (by omega))
      have c3 := (cell_of_row wr w.heap.size (4 * k + 3) cs _ _ h1).trans (Hcs.out (4 * k + 3) (by omega))
      obtain ⟨y, hy⟩ := Sha.wa_in (Sha.wl r k) k (by rw [Sha.wl_len]; omega) (by omega)
      have cy := (cell_of_row wr (w.heap.size + 1 + 1) k _ _ _ h3).trans hy
      have fy := frozen_of_row wr (w.heap.size + 1 + 1) k _ _ h3
      obtain ⟨p0, q0⟩ := Hr.out (4 * k) (by omega)
      obtain ⟨p1, q1⟩ := Hr.out (4 * k + 1) (by omega)
      obtain ⟨p2, q2⟩ := Hr.out (4 * k + 2) (by omega)
      obtain ⟨p3, q3⟩ := Hr.out (4 * k + 3) (by omega)
      clear h1 h2 h3 h4 h5 hy
      go_wp2
      go_region
      go_wp2
      refine ⟨⟨k + 1, by omega, by go_num, ?_⟩, by simp [intOf]; omega⟩
      have := B.out.step k (Sha.wl_len r k) (by omega) (Sha.be4 (r (4 * k)) (r (4 * k + 1)) (r (4 * k + 2)) (r (4 * k + 3)))
      rw [show Sha.wl r (k + 1) = Sha.wl r k ++ [Sha.be4 (r (4 * k)) (r (4 * k + 1)) (r (4 * k + 2)) (r (4 * k + 3))] by simp [Sha.wl, hlt]]
      exact this
    · have E : k = 16 := by omega
      have hge : 16 ≤ k := by omega
      have B0 : WordsOk w wr cs (Sha.wa []) (Sha.wa (Sha.wl r 16)) := by rw [← E]; exact B.out
      clear E B hlt h1 h2 h3 h4 h5
      have B := Lib.hid B0; clear B0
      go_wp2
      go_loopw [45] (fun i wr => ∃ k : Nat, k ≤ 48 ∧ i = .int .i64 k ∧ WordsOk w wr cs (Sha.wa []) (Sha.wa (Sha.wl r (16 + k)))) (fun i _ => 48 - (intOf i).toNat)
      case atStart => exact ⟨0, by omega, rfl, B.out⟩
      case round =>
        clear B
        obtain ⟨j, hj, rfl, hok⟩ := hrel
        obtain ⟨h1, h2, h3, h4, h5⟩ := id hok
        have B := Lib.hid hok; clear hok
        by_cases hlt : j < 48
        · have c0 := (cell_of_row wr (w.heap.size + 1 + 1) (j + 14) _ _ _ h3).trans (Sha.wa_get _ (j + 14) (by rw [Sha.wl_len]; omega))
          have c1 := (cell_of_row wr (w.heap.size + 1 + 1) (j + 9) _ _ _ h3).trans (Sha.wa_get _ (j + 9) (by rw [Sha.wl_len]; omega))
          have c2 := (cell_of_row wr (w.heap.size + 1 + 1) (j + 1) _ _ _ h3).trans (Sha.wa_get _ (j + 1) (by rw [Sha.wl_len]; omega))
          have c3 := (cell_of_row wr (w.heap.size + 1 + 1) j _ _ _ h3).trans (Sha.wa_get _ j (by rw [Sha.wl_len]; omega))
          obtain ⟨y, hy⟩ := Sha.wa_in (Sha.wl r (16 + j)) (j + 16) (by rw [Sha.wl_len]; omega) (by omega)
          have cy := (cell_of_row wr (w.heap.size + 1 + 1) (j + 16) _ _ _ h3).trans hy
          have fy := frozen_of_row wr (w.heap.size + 1 + 1) (j + 16) _ _ h3
          clear h1 h2 h3 h4 h5 hy
          go_wp2_with (go_at_call 37; refine (right_any _ _ (by decide) _).mono ?_; rintro e w' ⟨rfl, rfl⟩)
          go_region
          go_wp2
          refine ⟨⟨j + 1, by omega, by go_num, ?_⟩, by simp [intOf]; omega⟩
          have hst := B.out.step (j + 16) (by rw [Sha.wl_len]; omega) (by omega) (Sha.nw ((Sha.wl r (16 + j)).getD (j + 14) 0) ((Sha.wl r (16 + j)).getD (j + 9) 0) ((Sha.wl r (16 + j)).getD (j + 1) 0) ((Sha.wl r (16 + j)).getD j 0))
          rw [← Sha.wl_next r j] at hst
          simpa [Sha.nw, Sha.g0, Sha.g1] using hst
        · have E : j = 48 := by omega
          have hge2 : 48 ≤ j := by omega
          rw [E] at h3
          clear E hlt
          obtain ⟨A, HA, hA, hZ, hO⟩ : ∃ A : Array Value, Hid (A = Sha.wa (Sha.wl r 64)) ∧ Hid (A.size = 64) ∧ Hid ((Sha.wa []).size = 64) ∧ Hid (A.all (·.oneCell') = true) := ⟨_, rfl, Sha.wa_size _ (by simp [Sha.wl_len]), Sha.wa_size _ (by simp), wa_one _⟩
          have H3 : Hid (wr.heap[w.heap.size + 2]? = some (.cells A 60 (0, 0))) := by rw [HA.out]; exact h3
          have H2 := Lib.hid h2
          have H4 := Lib.hid h4
          have H5 := Lib.hid h5
          clear h1 h2 h3 h4 h5 B
          go_upto_region 17 with (fail)
          refine wp_region_lit ?_
          refine row_load _ _ _ _ _ _ _ rfl H3.out Tryd.underlying60 rfl (by rw [hA.out]; exact Tryd.size53) ?_
          refine row_store _ _ _ _ _ _ _ rfl rfl H2.out (by rw [hA.out]; exact Tryd.size53) (by rw [hA.out, hZ.out]) hO.out ?_
          intro w2 g2 ch
          refine wpList_nil ?_
          go_wp2
          refine bodyPost_ret (results_cell_row rfl _ _ (w.heap.size + 1) 60 A (0, 0) _ rfl g2.out Tryd.underlying60 rfl (by rw [hA.out]; exact Tryd.size53)) rfl ⟨by rw [HA.out], ch.below H4.out (by omega)⟩

theorem row_size {P : Program} {ty : TypeId} {n : Nat} (h : (P.info? ty).map (·.size) = some n) {A : Array Value} (hA : Hid (A.size = n)) : (P.info? ty).map (·.size) = some A.size := by
  rw [hA.out]; exact h
/-- The words of a row, as an array. -/
def WordsSay (r : Nat → Int) (w : World) (e : Ending) (w' : World) : Prop :=
  ∃ A : Array Value, e = .returned (.agg A) ∧ Hid (A.size = 64) ∧ Hid (A.all (·.oneCell') = true) ∧ Hid (∀ t, t < 64 → A[t]? = some (.int .u32 (Sha.wd r t))) ∧ Below w.heap.size w w'
theorem words_row (cs : Array Value) (r : Nat → Int) (hcs : ∀ i, i < 64 → cs[i]? = some (.int .u8 (r i))) (hr : ∀ i, i < 64 → 0 ≤ r i ∧ r i ≤ 255) (w : World) :
    Calls Tryd.prog 36 #[.agg cs] w (WordsSay r w) :=
  (words_any cs r hcs hr w).mono fun _ _ ⟨he, hb⟩ => ⟨_, he, Sha.wa_size _ (by simp [Sha.wl_len]), wa_one _, fun t ht => by unfold Sha.wd; exact Sha.wa_get _ t (by simpa [Sha.wl_len] using ht), hb⟩

end Go.Proofs.YtjidkkehhglahaaDoor

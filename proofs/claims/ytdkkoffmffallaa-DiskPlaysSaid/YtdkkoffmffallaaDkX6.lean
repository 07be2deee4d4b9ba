/-
  The reference: Read, Dirty, New.
-/
import Derived.Test.YtdkkoffmffallaaDkX5
namespace Go.Proofs.Ytdkkoffmffallaa
open Go.RowKit

section
variable {U : Nat → Prop} {r qb : Nat} {m : Dk.M} {vl vc : Value} {G : Nat → Option (List Int)}
theorem RfC.counted {y z : World} {j : Nat} (h : RfC y U r qb vl vc m G) (hm : Mv [qb] y z) (hr : z.heap[qb]? = some (.cells (((List.range m.n).map fun i => Value.int .i64 (m.rd i : Int)).toArray.setIfInBounds j (.int .i64 ((m.rd j : Int) + 1))) 3 (0, 0))) (hj : j < m.n) :
    RfC z U r qb vl vc { m with rd := upd m.rd j (m.rd j + 1) } G := by
  have key : ∀ g, U g → g ≠ qb → z.heap[g]? = y.heap[g]? := fun g hg hn => hm.block g (h.top g hg) (by simpa using hn)
  have ne : ∀ (g : Nat) (cur : Array Value) (e : TypeId), y.heap[g]? = some (.cells cur e (0, 0)) → 3 ≠ e → g ≠ qb := fun g cur e h1 he q => by
    rw [q, h.cnt] at h1
    injection Option.some.inj h1 with _ h7 _
    exact he h7
  obtain ⟨o1, o2, o3, o4, o5, o6⟩ := h.ok
  refine ⟨h.lt, fun g hg => Nat.lt_of_lt_of_le (h.top g hg) hm.size, (key r h.lt.1 (ne _ _ _ h.row (by decide))).trans h.row, ?_, ?_, h.own, ?_, h.ls, ⟨o1, o2, o3, o4, o5, o6⟩⟩
  · exact h.las.keep (fun g hg => by obtain ⟨_, cur, h2⟩ := h.las.type g hg; exact key g (h.own.1 g hg) (ne _ _ _ h2 (by decide))) (fun g cur hg hc => key g hg (ne _ _ _ hc (by decide)))
  · exact h.cac.keep (fun g hg => by obtain ⟨_, cur, h2⟩ := h.cac.type g hg; exact key g (h.own.2 g hg) (ne _ _ _ h2 (by decide))) (fun g cur hg hc => key g hg (ne _ _ _ hc (by decide)))
  · rw [hr]
    congr 2
    apply Array.ext_getElem?
    intro k
    by_cases hkj : k = j
    · subst hkj
      rw [Array.getElem?_setIfInBounds_self_of_lt (by simpa using hj)]
      simp [hj, upd_same]
    · rw [Array.getElem?_setIfInBounds_ne (fun e => hkj e.symm)]
      by_cases hk : k < m.n
      · simp [hk, upd_other _ _ hkj]
      · simp [hk]
/-- What the reference's Read says. -/
def RfRd (U : Nat → Prop) (r qb : Nat) (m : Dk.M) (i : Int) (w : World) (e : Ending) (w' : World) : Prop := ∃ v, e = .returned (.tuple #[v, .int .i64 (Dk.rdE m i)]) ∧ Hid (w'.ownsRow w.heap.size 5 1 v (Dk.rdX m i).length (U8s (Dk.rdX m i)) ∧ Sha.Byt (Dk.rdX m i)) ∧ Hid (RfAt w' U r qb (Dk.rdM m i)) ∧ Hid (Mv [r, qb] w w')
set_option maxHeartbeats 2000000 in
set_option maxRecDepth 100000 in
theorem refread_any (i : Int) (w : World) (hd : RfAt w U r qb m) (hrd : ∀ j, m.rd j ≤ 1000000000) : Calls Try.prog 32 #[.pointer (some ⟨r, 0, none⟩), .int .i64 i] w (RfRd U r qb m i w) := by
  obtain ⟨vl, vc, G, hd⟩ := hd
  obtain ⟨c0, _, _, _, _, _, c6⟩ := hd.cells
  have HD := Lib.hid hd; clear hd
  by_cases hh : Dk.here m i = true
  · obtain ⟨j, rfl, hj⟩ := Dk.here_of hh
    have e1 : Dk.rdE m j = 0 := by unfold Dk.rdE; rw [hh]; rfl
    have e2 : Dk.rdX m j = Dk.peek m j := by unfold Dk.rdX; rw [hh]; rfl
    have e3 : Dk.rdM m j = { m with rd := upd m.rd j (m.rd j + 1) } := by unfold Dk.rdM; rw [hh]; rfl
    have c2 : w.cell? ⟨qb, j, none⟩ = some (.int .i64 (m.rd j : Int)) := by
      rw [cell_of_row w qb j _ _ _ HD.out.cnt]
      simp [hj]
    have f2 := frozen_of_row w qb j _ _ HD.out.cnt
    have hw1 : IntKind.i64.wrap ((m.rd j : Int) + 1) = (m.rd j : Int) + 1 := IntWalk.i64_in _ (by have := hrd j; constructor <;> omega)
    have hl1 : (0 : Int) ≤ (j : Int) := by omega
    have hl2 : (j : Int) < (m.n : Int) := by omega
    clear hrd
    obtain ⟨w2, hw2⟩ : ∃ y : World, Hid ((w.setCell ⟨qb, j, none⟩ (.int .i64 ((m.rd j : Int) + 1))).drew = y) := ⟨_, rfl⟩
    have M2 : Hid (Mv [qb] w w2) := by show Mv _ _ _; rw [← hw2.out]; exact ((Mv.refl _ _).setCell _ _ (by simp)).drew
    have D2 : Hid (RfC w2 U r qb vl vc { m with rd := upd m.rd j (m.rd j + 1) } G) := by
      refine HD.out.counted M2.out ?_ hj
      rw [← hw2.out]
      exact heap_setCell_same w qb j _ _ _ HD.out.cnt
    have M4 : Hid (Mv [r, qb] w w2) := M2.out.more (fun k hk => by simp at hk ⊢; subst hk; simp)
    go_enter Try.func32, Try.ntmps32
    go_upto_region 3 with (fail)
    go_still_tail 14, (by kernel_rfl)
    go_upto_region 4 with (fail)
    rw [hw2.out]
    go_wp2_with (go_at_call 52; refine (refpeek_any (m := { m with rd := upd m.rd j (m.rd j + 1) }) j hj _ D2.out).mono ?_; rintro e w4 ⟨v4, rfl, ho4, hb4⟩)
    go_ret2
    refine ⟨v4, by rw [e1]; rfl, Lib.hid ?_, Lib.hid ?_, Lib.hid (M4.out.trans (Mv.of_below hb4.out))⟩
    · rw [e2]
      exact ⟨own_base ho4.out.1 M2.out.size, ho4.out.2⟩
    · rw [e3]; exact ⟨vl, vc, G, D2.out.keep hb4.out.size (fun g hg => hb4.out.block g (D2.out.top g hg))⟩
  · have hh : Dk.here m i = false := by cases h : Dk.here m i <;> simp_all
    have e1 : Dk.rdE m i = 7 := by unfold Dk.rdE; rw [hh]; rfl
    have e2 : Dk.rdX m i = [] := by unfold Dk.rdX; rw [hh]; rfl
    have e3 : Dk.rdM m i = m := by unfold Dk.rdM; rw [hh]; rfl
    have key : RfRd U r qb m i w (.returned (.tuple #[.slice none 0 0, .int .i64 7])) w := by
      refine ⟨.slice none 0 0, by rw [e1], Lib.hid ?_, Lib.hid ?_, Lib.hid (Mv.refl _ _)⟩
      · rw [e2]
        exact ⟨by unfold U8s; exact World.ownsRow_nil _ _ _ _, fun x hx => by simp at hx⟩
      · rw [e3]; exact ⟨vl, vc, G, HD.out⟩
    have KEY := Lib.hid key; clear key
    by_cases h0 : i < 0
    · go_enter Try.func32, Try.ntmps32
      go_wp2
      go_ret2
      exact KEY.out
    · have h0' : (0 : Int) ≤ i := by omega
      have h1 : (m.n : Int) ≤ i := by
        unfold Dk.here at hh
        rw [decide_eq_true h0'] at hh
        simp at hh
        exact hh
      go_enter Try.func32, Try.ntmps32
      go_wp2
      go_ret2
      exact KEY.out
set_option maxHeartbeats 2000000 in
set_option maxRecDepth 100000 in
theorem refdirty_any (w : World) (hd : RfAt w U r qb m) : Calls Try.prog 41 #[.pointer (some ⟨r, 0, none⟩)] w (DirtySay m w) := by
  obtain ⟨vl, vc, G, hd⟩ := hd
  obtain ⟨_, _, _, _, _, c5, _⟩ := hd.cells
  have hn2 := hd.ok.n2
  obtain ⟨l, hl⟩ : ∃ l, Hid (Dk.lst m.ca m.n = l) := ⟨_, rfl⟩
  have HNO : Hid (l.map (·.1) = Dk.dl m) := by show _ = _; rw [← hl.out, Dk.lst_nos]; rfl
  have HLE : Hid (l.length ≤ 5000) := by show _ ≤ _; rw [← hl.out]; have := Dk.lst_len m.ca m.n; omega
  have hc := hd.cac
  rw [hl.out] at hc
  obtain ⟨a, cap, rfl, ha⟩ := hc.len
  have HL := Lib.hid hc
  have HA := Lib.hid ha
  have HCK : Hid (∀ y, Below w.heap.size w y → y.cell? ⟨r, 5, none⟩ = some (.slice a l.length cap)) := fun y hy => (hy.cell (World.block_lt_of_cell? _ _ c5)).trans c5
  clear hd hc ha c5
  go_enter Try.func41, Try.ntmps41
  go_upto_region 3 with (fail)
  go_loopw [3, 4] (fun v3 v4 wr => ∃ k : Nat, k ≤ l.length ∧ v4 = .int .i64 k ∧ Hid (wr.ownsRow w.heap.size 3 1 v3 k (I64s ((l.take k).map (·.1)))) ∧ Hid (Below w.heap.size w wr)) (fun _ v4 _ => l.length - (intOf v4).toNat)
  case atStart => exact ⟨0, Nat.zero_le _, rfl, Lib.hid (World.ownsRow_nil _ _ _ _), Lib.hid (Below.refl _ _)⟩
  case round =>
    obtain ⟨k, hk, rfl, HO, HB⟩ := hrel
    have c5 := HCK.out _ HB.out
    have hl5 := HLE.out
    by_cases hlt : k < l.length
    · obtain ⟨x, hx⟩ : ∃ x, l[k]? = some x := ⟨_, List.getElem?_eq_getElem hlt⟩
      obtain ⟨gs, rfl⟩ := HA.out (by omega)
      obtain ⟨u, c0, _, _⟩ := (HL.out.old HB.out).at hx
      have hk0 : (0 : Int) ≤ (k : Int) := by omega
      have hk1 : (k : Int) < (l.length : Int) := by omega
      have HT : Hid ((l.take (k + 1)).map (·.1) = (l.take k).map (·.1) ++ [x.1]) := by
        show _ = _
        rw [List.take_add_one, hx, List.map_append]
        rfl
      clear hx
      go_wp2_with (at_builtin; refine append_int _ _ w.heap.size _ k ((l.take k).map (·.1)) ⟨wr.heap.size, 0, none⟩ x.1 rfl rfl (own_keepX HO.out (below_new wr _)) (by rw [cell_of_row _ _ 0 _ _ _ (heap_alloc_new wr _)]; rfl) (by omega) (by have := HB.out.size; simp; omega) ?_; intro v7 w7 hL7 hg7; have HL7 := Lib.hid hL7; have HB7 : Hid (Below w.heap.size w w7) := (HB.out.trans ((below_new wr _).mono HB.out.size)).grown hg7 (by have := HB.out.size; simp; omega) (fun g hg => (HO.out.lt g hg).1); clear hL7 hg7)
      exact ⟨⟨k + 1, by omega, by go_num, by rw [HT.out]; exact HL7, HB7⟩, by simp [intOf]; omega⟩
    · obtain rfl : k = l.length := by omega
      go_wp2
      go_ret
      refine ⟨_, rfl, Lib.hid ?_, HB.out⟩
      have h := HO.out
      rw [List.take_length, HNO.out] at h
      rw [← HNO.out, List.length_map, HNO.out]
      exact h
end
/-- What the reference's New says. -/
def RfNew (n : Int) (w : World) (e : Ending) (w' : World) : Prop :=
  if Dk.may n then ∃ r qb, e = .returned (.tuple #[.pointer (some ⟨r, 0, none⟩), .int .i64 0]) ∧ Hid (RfAt w' (fun g => w.heap.size ≤ g ∧ g < w'.heap.size) r qb (Dk.fresh n.toNat)) ∧ Below w.heap.size w w'
  else e = .returned (.tuple #[.pointer none, .int .i64 7]) ∧ w' = w
theorem refnew_no (n : Int) (h : Dk.may n = false) (w : World) : Calls Try.prog 10 #[.int .i64 n] w (RfNew n w) := by
  by_cases h1 : 1 ≤ n
  · have h2 : 4096 < n := by
      unfold Dk.may at h
      simp [h1] at h
      exact h
    go_enter Try.func10, Try.ntmps10
    go_wp2
    go_ret2
    unfold RfNew
    rw [h, if_neg (by decide)]
    exact ⟨rfl, rfl⟩
  · have h2 : n < 1 := by omega
    go_enter Try.func10, Try.ntmps10
    go_wp2
    go_ret2
    unfold RfNew
    rw [h, if_neg (by decide)]
    exact ⟨rfl, rfl⟩
set_option maxHeartbeats 2000000 in
set_option maxRecDepth 100000 in
theorem refnew_yes (n : Nat) (h1 : 1 ≤ n) (h2 : n ≤ 4096) (w : World) : Calls Try.prog 10 #[.int .i64 (n : Int)] w (RfNew n w) := by
  have hm : Dk.may n = true := by unfold Dk.may; simp; omega
  have hl1 : (1 : Int) ≤ (n : Int) := by omega
  have hl2 : (n : Int) ≤ 4096 := by omega
  have m2 := make_run 32 3 (.int .i64 0) 8 n Try.underlying32 Try.info_int rfl (by omega) (by omega)
  go_enter Try.func10, Try.ntmps10
  go_wp2
  go_ret2
  unfold RfNew
  rw [hm, if_pos rfl, Int.toNat_natCast]
  refine ⟨w.heap.size + 1, w.heap.size, rfl, Lib.hid ⟨.slice none 0 0, .slice none 0 0, fun _ => none, ⟨⟨by omega, by simp⟩, ⟨Nat.le_refl _, by simp; omega⟩⟩, fun g h => h.2, ?_, ?_, ?_, ⟨(fun g hg => by cases hg), (fun g hg => by cases hg)⟩, ?_, fun i => rfl, ⟨h1, h2, fun i _ => rfl, by unfold In64 Dk.fresh; dsimp only; omega, fun i => by simp [Dk.fresh], fun i L hL => by cases hL⟩⟩, below_two w _ _⟩
  · have h := heap_alloc_new (w.alloc (.cells (Array.replicate n (Value.int .i64 0)) 3)) (.cells #[.int .i64 (n : Int), .int .i64 (-1), .int .i64 0, .bool false, .slice none 0 0, .slice none 0 0, .slice (some ⟨w.heap.size, 0, none⟩) n n] 62)
    have hs : (w.alloc (.cells (Array.replicate n (Value.int .i64 0)) 3)).heap.size = w.heap.size + 1 := by simp
    rw [hs] at h
    exact h
  · rw [Dk.lst_nil]; exact lst_at0 _ _ _
  · show Lst _ _ _ _ (Dk.lst (fun _ => none) n)
    rw [Dk.lst_nil]; exact lst_at0 _ _ _
  · rw [heap_alloc_old _ _ (by simp), heap_alloc_new]
    unfold Dk.fresh
    congr 2
    apply Array.ext
    · simp
    · intro j _ _; simp
theorem ref_new (n : Int) (w : World) : Calls Try.prog 10 #[.int .i64 n] w (RfNew n w) := by
  cases h : Dk.may n with
  | false => exact refnew_no n h w
  | true =>
    have h' := h
    unfold Dk.may at h'
    simp at h'
    obtain ⟨k, rfl⟩ : ∃ k : Nat, n = (k : Int) := ⟨n.toNat, by omega⟩
    exact refnew_yes k (by omega) (by omega) w
end Go.Proofs.Ytdkkoffmffallaa

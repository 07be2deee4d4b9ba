/-
  The reference's disk in memory; Spend, wrong, Arm, Reads.
-/
import Derived.Test.YtglfjjmbadffmaaDkX3
namespace Go.Proofs.Ytglfjjmbadffmaa
open Go.RowKit

/-- How many operations are left, as the reference counts them. -/
def Dk.rl (m : Dk.M) : Int := if m.left < 0 then -1 else m.left
/-- The reference's disk in block r, what it has in blocks of U. -/
structure RfC (y : World) (U : Nat → Prop) (r qb : Nat) (vl vc : Value) (m : Dk.M) (G : Nat → Option (List Int)) : Prop where
  lt : U r ∧ U qb
  top : ∀ g, U g → g < y.heap.size
  row : y.heap[r]? = some (.cells #[.int .i64 (m.n : Int), .int .i64 (Dk.rl m), .int .i64 (m.wr : Int), .bool m.down, vl, vc, .slice (some ⟨qb, 0, none⟩) m.n m.n] 57 (0, 0))
  las : Lst 0 y U vl (Dk.lst G m.n)
  cac : Lst 0 y U vc (Dk.lst m.ca m.n)
  own : (∀ g, vl.ownBlock = some g → U g) ∧ ∀ g, vc.ownBlock = some g → U g
  cnt : y.heap[qb]? = some (.cells ((List.range m.n).map fun i => Value.int .i64 (m.rd i : Int)).toArray 3 (0, 0))
  ls : ∀ i, m.ls i = (G i).getD []
  ok : Dk.Ok m
def RfAt (y : World) (U : Nat → Prop) (r qb : Nat) (m : Dk.M) : Prop := ∃ vl vc G, RfC y U r qb vl vc m G
section
variable {y z : World} {U U' : Nat → Prop} {r qb : Nat} {vl vc : Value} {m : Dk.M} {G : Nat → Option (List Int)}
theorem RfC.ne (h : RfC y U r qb vl vc m G) {g : Nat} {cur : Array Value} {e : TypeId} (hg : y.heap[g]? = some (.cells cur e (0, 0))) (he : 57 ≠ e) : g ≠ r := fun q => by
  rw [q, h.row] at hg
  injection Option.some.inj hg with _ h7 _
  exact he h7
theorem RfC.lasK (h : RfC y U r qb vl vc m G) (hk : ∀ g, U g → g ≠ r → z.heap[g]? = y.heap[g]?) : Lst 0 z U vl (Dk.lst G m.n) :=
  h.las.keep (fun g hg => by obtain ⟨_, cur, h2⟩ := h.las.type g hg; exact hk g (h.own.1 g hg) (h.ne h2 (by decide))) (fun g cur hg hc => hk g hg (h.ne hc (by decide)))
theorem RfC.cacK (h : RfC y U r qb vl vc m G) (hk : ∀ g, U g → g ≠ r → z.heap[g]? = y.heap[g]?) : Lst 0 z U vc (Dk.lst m.ca m.n) :=
  h.cac.keep (fun g hg => by obtain ⟨_, cur, h2⟩ := h.cac.type g hg; exact hk g (h.own.2 g hg) (h.ne h2 (by decide))) (fun g cur hg hc => hk g hg (h.ne hc (by decide)))
theorem RfC.cntK (h : RfC y U r qb vl vc m G) (hk : ∀ g, U g → g ≠ r → z.heap[g]? = y.heap[g]?) : z.heap[qb]? = some (.cells ((List.range m.n).map fun i => Value.int .i64 (m.rd i : Int)).toArray 3 (0, 0)) := (hk qb h.lt.2 (h.ne h.cnt (by decide))).trans h.cnt
theorem RfC.keep (h : RfC y U r qb vl vc m G) (hs : y.heap.size ≤ z.heap.size) (hk : ∀ g, U g → z.heap[g]? = y.heap[g]?) : RfC z U r qb vl vc m G :=
  ⟨h.lt, fun g hg => Nat.lt_of_lt_of_le (h.top g hg) hs, (hk r h.lt.1).trans h.row, h.lasK (fun g hg _ => hk g hg), h.cacK (fun g hg _ => hk g hg), h.own, h.cntK (fun g hg _ => hk g hg), h.ls, h.ok⟩
theorem RfC.lift (h : RfC y U r qb vl vc m G) (hU : ∀ g, U g → U' g) (ht : ∀ g, U' g → g < y.heap.size) : RfC y U' r qb vl vc m G :=
  ⟨⟨hU _ h.lt.1, hU _ h.lt.2⟩, ht, h.row, h.las.lift hU, h.cac.lift hU, ⟨fun g hg => hU g (h.own.1 g hg), fun g hg => hU g (h.own.2 g hg)⟩, h.cnt, h.ls, h.ok⟩
theorem RfC.cells (h : RfC y U r qb vl vc m G) : y.cell? ⟨r, 0, none⟩ = some (.int .i64 (m.n : Int)) ∧ y.cell? ⟨r, 1, none⟩ = some (.int .i64 (Dk.rl m)) ∧ y.cell? ⟨r, 2, none⟩ = some (.int .i64 (m.wr : Int)) ∧ y.cell? ⟨r, 3, none⟩ = some (.bool m.down) ∧ y.cell? ⟨r, 4, none⟩ = some vl ∧ y.cell? ⟨r, 5, none⟩ = some vc ∧ y.cell? ⟨r, 6, none⟩ = some (.slice (some ⟨qb, 0, none⟩) m.n m.n) := by
  refine ⟨?_, ?_, ?_, ?_, ?_, ?_, ?_⟩ <;> rw [cell_of_row y r _ _ _ _ h.row] <;> rfl
theorem RfC.row_set (h : RfC y U r qb vl vc m G) {m' : Dk.M} (hm : Mv [r] y z) (hr : z.heap[r]? = some (.cells #[.int .i64 (m'.n : Int), .int .i64 (Dk.rl m'), .int .i64 (m'.wr : Int), .bool m'.down, vl, vc, .slice (some ⟨qb, 0, none⟩) m.n m.n] 57 (0, 0)))
    (hn : m'.n = m.n) (hl : m'.ls = m.ls) (hc : m'.ca = m.ca) (hd : m'.rd = m.rd) (hi : In64 m'.left) : RfC z U r qb vl vc m' G := by
  have hk : ∀ g, U g → g ≠ r → z.heap[g]? = y.heap[g]? := fun g hg hgr => hm.block g (h.top g hg) (by simpa using hgr)
  obtain ⟨o1, o2, o3, o4, o5, o6⟩ := h.ok
  exact ⟨h.lt, fun g hg => Nat.lt_of_lt_of_le (h.top g hg) hm.size, by rw [hr, hn], by rw [hn]; exact h.lasK hk, by rw [hn, hc]; exact h.cacK hk, h.own, by rw [hn, hd]; exact h.cntK hk, by rw [hl]; exact h.ls, ⟨by rw [hn]; exact o1, by rw [hn]; exact o2, by rw [hn, hc]; exact o3, hi, by rw [hl]; exact o5, by rw [hc]; exact o6⟩⟩
theorem RfAt.keep (h : RfAt y U r qb m) (hs : y.heap.size ≤ z.heap.size) (hk : ∀ g, U g → z.heap[g]? = y.heap[g]?) : RfAt z U r qb m := by
  obtain ⟨vl, vc, G, h⟩ := h
  exact ⟨vl, vc, G, h.keep hs hk⟩
theorem RfAt.lift (h : RfAt y U r qb m) (hU : ∀ g, U g → U' g) (ht : ∀ g, U' g → g < y.heap.size) : RfAt y U' r qb m := by
  obtain ⟨vl, vc, G, h⟩ := h
  exact ⟨vl, vc, G, h.lift hU ht⟩
theorem RfAt.lt (h : RfAt y U r qb m) : U r ∧ U qb := by obtain ⟨vl, vc, G, h⟩ := h; exact h.lt
theorem RfAt.top (h : RfAt y U r qb m) : ∀ g, U g → g < y.heap.size := by obtain ⟨vl, vc, G, h⟩ := h; exact h.top
theorem RfAt.ok (h : RfAt y U r qb m) : Dk.Ok m := by obtain ⟨vl, vc, G, h⟩ := h; exact h.ok
theorem RfAt.old (h : RfAt y U r qb m) (hb : Below y.heap.size y z) : RfAt z U r qb m := h.keep hb.size (fun g hg => hb.block g (h.top g hg))
theorem RfAt.mv {ks : List Nat} (h : RfAt y U r qb m) (hm : Mv ks y z) (hk : ∀ k ∈ ks, ¬ U k) : RfAt z U r qb m := h.keep hm.size (fun g hg => hm.block g (h.top g hg) (fun hin => hk g hin hg))
theorem RfAt.own (h : RfAt y U r qb m) (x : World) : RfAt y (Own U x y) r qb m := h.lift (fun _ h => Or.inl h) (fun g hg => by
  rcases hg with h1 | h1
  · exact h.top g h1
  · exact h1.2)
end
/-- What a call of the reference says that may turn it. -/
def RfSay (U : Nat → Prop) (r qb : Nat) (v : Value) (m' : Dk.M) (w : World) (e : Ending) (w' : World) : Prop := e = .returned v ∧ Hid (RfAt w' (Own U w w') r qb m') ∧ Hid (Mv [r, qb] w w')
/-- .. and that makes nothing. -/
def RfSay0 (U : Nat → Prop) (r qb : Nat) (v : Value) (m' : Dk.M) (w : World) (e : Ending) (w' : World) : Prop := e = .returned v ∧ Hid (RfAt w' U r qb m') ∧ Hid (Mv [r] w w')
section
variable {U : Nat → Prop} {r qb : Nat} {m : Dk.M} {vl vc : Value} {G : Nat → Option (List Int)}
set_option maxHeartbeats 1000000 in
set_option maxRecDepth 100000 in
theorem refspend_c (w : World) (hd : RfC w U r qb vl vc m G) : Calls Try.prog 42 #[.pointer (some ⟨r, 0, none⟩)] w fun e w' => e = .returned (.int .i64 (Dk.spendE m)) ∧ Hid (RfC w' U r qb vl vc (Dk.spend m) G) ∧ Hid (Mv [r] w w') := by
  obtain ⟨_, c1, _, c3, _, _, _⟩ := hd.cells
  have f1 := frozen_of_row w r 1 _ _ hd.row
  have f3 := frozen_of_row w r 3 _ _ hd.row
  have HD := Lib.hid hd; clear hd
  have key : ∀ (j : Nat) (u : Value), (w.setCell ⟨r, j, none⟩ u).heap[r]? = some (.cells ((#[.int .i64 (m.n : Int), .int .i64 (Dk.rl m), .int .i64 (m.wr : Int), .bool m.down, vl, vc, .slice (some ⟨qb, 0, none⟩) m.n m.n] : Array Value).setIfInBounds j u) 57 (0, 0)) := fun j u => heap_setCell_same w r j _ _ u HD.out.row
  have KEY := Lib.hid key; clear key
  have HL := Lib.hid HD.out.ok.left
  cases hdn : m.down with
  | true =>
    have hg : Dk.gone m = true := by unfold Dk.gone; rw [hdn]; rfl
    have es : Dk.spend m = { m with down := true } := by unfold Dk.spend; rw [if_pos hg]
    have e0 : ({ m with down := true } : Dk.M) = m := by rw [← hdn]
    have ee : Dk.spendE m = 12 := by unfold Dk.spendE; rw [if_pos hg]
    rw [hdn] at c3
    go_enter Try.func42, Try.ntmps42
    go_wp2
    go_ret
    refine ⟨by first | rfl | (rw [ee]; rfl), Lib.hid ?_, Lib.hid (Mv.refl _ _)⟩
    rw [es, e0]
    exact HD.out
  | false =>
    rw [hdn] at c3
    by_cases h0 : m.left = 0
    · have hg : Dk.gone m = true := by unfold Dk.gone; rw [h0]; simp
      have es : Dk.spend m = { m with down := true } := by unfold Dk.spend; rw [if_pos hg]
      have ee : Dk.spendE m = 12 := by unfold Dk.spendE; rw [if_pos hg]
      have e1 : Dk.rl m = 0 := by unfold Dk.rl; rw [h0]; rfl
      rw [e1] at c1
      go_enter Try.func42, Try.ntmps42
      go_wp2
      go_ret
      refine ⟨by first | rfl | (rw [ee]; rfl), Lib.hid ?_, Lib.hid ((Mv.refl _ _).setCell _ _ (by simp))⟩
      rw [es]
      exact HD.out.row_set ((Mv.refl _ _).setCell _ _ (by simp)) (by rw [KEY.out]; rfl) rfl rfl rfl rfl HL.out
    · have hg : Dk.gone m = false := by unfold Dk.gone; rw [hdn]; simp [h0]
      have ee : Dk.spendE m = 0 := by unfold Dk.spendE; rw [hg]; rfl
      by_cases hp : 0 < m.left
      · have es : Dk.spend m = { m with left := m.left - 1 } := by unfold Dk.spend; rw [hg, if_pos hp]; rfl
        have e1 : Dk.rl m = m.left := by unfold Dk.rl; rw [if_neg (by omega)]
        have e2 : Dk.rl { m with left := m.left - 1 } = m.left - 1 := by unfold Dk.rl; rw [if_neg (by dsimp only; omega)]
        rw [e1] at c1
        have h0' : (m.left == 0) = false := by simpa using h0
        have hw1 : IntKind.i64.wrap (m.left - 1) = m.left - 1 := IntWalk.i64_in _ (by have h := HL.out; unfold In64 at h; constructor <;> omega)
        go_enter Try.func42, Try.ntmps42
        go_wp2
        go_ret
        refine ⟨by first | rfl | (rw [ee]; rfl), Lib.hid ?_, Lib.hid ((Mv.refl _ _).setCell _ _ (by simp))⟩
        rw [es]
        exact HD.out.row_set ((Mv.refl _ _).setCell _ _ (by simp)) (by rw [KEY.out, e2]; simp [hdn]) rfl rfl rfl rfl (by have h := HL.out; unfold In64 at h ⊢; dsimp only; omega)
      · have es : Dk.spend m = m := by unfold Dk.spend; rw [hg, if_neg hp]; rfl
        have e1 : Dk.rl m = -1 := by unfold Dk.rl; rw [if_pos (by omega)]
        rw [e1] at c1
        go_enter Try.func42, Try.ntmps42
        go_wp2
        go_ret
        exact ⟨by first | rfl | (rw [ee]; rfl), Lib.hid (by first | exact HD.out | (rw [es]; exact HD.out)), Lib.hid (Mv.refl _ _)⟩
theorem refspend_any (w : World) (hd : RfAt w U r qb m) : Calls Try.prog 42 #[.pointer (some ⟨r, 0, none⟩)] w (RfSay0 U r qb (.int .i64 (Dk.spendE m)) (Dk.spend m) w) := by
  obtain ⟨vl, vc, G, h⟩ := hd
  refine (refspend_c w h).mono ?_
  rintro e w' ⟨rfl, h1, h2⟩
  exact ⟨rfl, Lib.hid ⟨vl, vc, G, h1.out⟩, h2⟩
set_option maxHeartbeats 1000000 in
set_option maxRecDepth 100000 in
theorem refwrong_any (i : Int) (L : List Int) (p : Option Addr) (n c : Nat) (hn : L.length = n) (w : World) (hd : RfC w U r qb vl vc m G) :
    Calls Try.prog 44 #[.pointer (some ⟨r, 0, none⟩), .int .i64 i, .slice p n c] w fun e w' => e = .returned (.int .i64 (Dk.fault m i L)) ∧ w' = w := by
  subst hn
  obtain ⟨c0, _⟩ := hd.cells
  clear hd
  by_cases h0 : i < 0
  · have e : Dk.fault m i L = 7 := by unfold Dk.fault Dk.here; rw [decide_eq_false (by omega)]; simp
    go_enter Try.func44, Try.ntmps44
    go_wp2
    go_ret
    exact ⟨by first | rfl | (rw [e]; rfl), rfl⟩
  · have h0' : (0 : Int) ≤ i := by omega
    by_cases h1 : (m.n : Int) ≤ i
    · have e : Dk.fault m i L = 7 := by unfold Dk.fault Dk.here; rw [decide_eq_false (show ¬ i < (m.n : Int) by omega)]; simp
      go_enter Try.func44, Try.ntmps44
      go_wp2
      go_ret
      exact ⟨by first | rfl | (rw [e]; rfl), rfl⟩
    · have h1' : i < (m.n : Int) := by omega
      have hh : Dk.here m i = true := by unfold Dk.here; rw [decide_eq_true h0', decide_eq_true h1']; rfl
      by_cases hl : (1024 : Int) < (L.length : Int)
      · have e : Dk.fault m i L = 3 := by unfold Dk.fault; rw [hh, if_neg (by decide), if_pos (by omega)]
        go_enter Try.func44, Try.ntmps44
        go_wp2
        go_ret
        exact ⟨by first | rfl | (rw [e]; rfl), rfl⟩
      · have e : Dk.fault m i L = 0 := by unfold Dk.fault; rw [hh, if_neg (by decide), if_neg (by omega)]
        go_enter Try.func44, Try.ntmps44
        go_wp2
        go_ret
        exact ⟨by first | rfl | (rw [e]; rfl), rfl⟩
set_option maxHeartbeats 1000000 in
set_option maxRecDepth 100000 in
theorem refarm_any (n : Int) (hn : In64 n) (w : World) (hd : RfAt w U r qb m) : Calls Try.prog 31 #[.pointer (some ⟨r, 0, none⟩), .int .i64 n] w (RfSay0 U r qb (.tuple #[]) { m with left := n } w) := by
  obtain ⟨vl, vc, G, hd⟩ := hd
  obtain ⟨_, c1, _⟩ := hd.cells
  have f1 := frozen_of_row w r 1 _ _ hd.row
  have HD := Lib.hid hd; clear hd
  have HN := Lib.hid hn; clear hn
  have KEY := Lib.hid (fun (u : Value) => heap_setCell_same w r 1 _ _ u HD.out.row)
  by_cases h0 : n < 0
  · have e1 : Dk.rl { m with left := n } = -1 := by unfold Dk.rl; rw [if_pos h0]
    have HK2 : Hid (∀ u u', ((w.setCell ⟨r, 1, none⟩ u).setCell ⟨r, 1, none⟩ u').heap[r]? = _) := fun u u' => heap_setCell_same _ r 1 _ _ u' (KEY.out u)
    have f1' : (w.setCell ⟨r, 1, none⟩ (.int .i64 n)).frozen? ⟨r, 1, none⟩ = false := frozen_of_row _ r 1 _ _ (KEY.out _)
    go_enter Try.func31, Try.ntmps31
    go_wp2
    go_end0
    refine ⟨rfl, Lib.hid ⟨vl, vc, G, ?_⟩, Lib.hid (((Mv.refl _ _).setCell _ _ (by simp)).setCell _ _ (by simp))⟩
    exact HD.out.row_set (((Mv.refl _ _).setCell _ _ (by simp)).setCell _ _ (by simp)) (by rw [HK2.out, e1]; simp) rfl rfl rfl rfl HN.out
  · have e1 : Dk.rl { m with left := n } = n := by unfold Dk.rl; rw [if_neg h0]
    have h0' : (0 : Int) ≤ n := by omega
    go_enter Try.func31, Try.ntmps31
    go_wp2
    go_end0
    refine ⟨rfl, Lib.hid ⟨vl, vc, G, ?_⟩, Lib.hid ((Mv.refl _ _).setCell _ _ (by simp))⟩
    exact HD.out.row_set ((Mv.refl _ _).setCell _ _ (by simp)) (by rw [KEY.out, e1]; simp) rfl rfl rfl rfl HN.out
end
end Go.Proofs.Ytglfjjmbadffmaa

/-
  Bytes in memory; contracts: rillkit.LentBytes, SameBytes, KeptBytes.
-/
import Derived.Test.YtkajigfdfbgphaaAesC
import Derived.Test.YtkajigfdfbgphaaShaO
namespace Go.Proofs.Ytkajigfdfbgphaa
open Go.RowKit

namespace Sha
def Byt (l : List Int) : Prop := ∀ x ∈ l, 0 ≤ x ∧ x ≤ 255
theorem byt_take {l : List Int} (h : Byt l) (n : Nat) : Byt (l.take n) := fun x hx => h x (List.mem_of_mem_take hx)
theorem byt_drop {l : List Int} (h : Byt l) (n : Nat) : Byt (l.drop n) := fun x hx => h x (List.mem_of_mem_drop hx)
theorem byt_append {l m : List Int} (h : Byt l) (k : Byt m) : Byt (l ++ m) := fun x hx => (List.mem_append.1 hx).elim (h x) (k x)
theorem byt_getD {l : List Int} (h : Byt l) (i : Nat) : 0 ≤ l.getD i 0 ∧ l.getD i 0 ≤ 255 := by
  by_cases hi : i < l.length
  · rw [List.getD_eq_getElem?_getD, List.getElem?_eq_getElem hi]; exact h _ (List.getElem_mem hi)
  · rw [List.getD_eq_getElem?_getD, List.getElem?_eq_none (by omega)]; simp
end Sha
theorem take_snoc (L : List Int) (k : Nat) (hk : k < L.length) : L.take k ++ [L.getD k 0] = L.take (k + 1) := by
  rw [List.take_add_one, List.getElem?_eq_getElem hk, List.getD_eq_getElem?_getD, List.getElem?_eq_getElem hk]; rfl
theorem Try.size5 : (Try.prog.info? 5).map (·.size) = some 1 := by kernel_rfl
theorem Try.info_u8 : (Try.prog.info? 5).map (fun i => (i.zero, i.size, i.bytes)) = some (some (.int .u8 0), 1, 1) := by kernel_rfl
theorem Try.info_u32 : (Try.prog.info? 54).map (fun i => (i.zero, i.size, i.bytes)) = some (some (.int .u32 0), 1, 4) := by kernel_rfl

/-- The bytes l in memory, as a slice sees them. -/
def BAt (w : World) (p : Option Addr) (l : List Int) : Prop :=
  Sha.Byt l ∧ (0 < l.length → ∃ ab ao, p = some ⟨ab, ao, none⟩ ∧ ∀ j, j < l.length → w.cell? ⟨ab, ao + j, none⟩ = some (.int .u8 (l.getD j 0)))
theorem BAt.below {w w' : World} {B : Nat} {p : Option Addr} {l : List Int} (h : BAt w p l) (hb : Below B w w') (hB : w.heap.size ≤ B) : BAt w' p l :=
  ⟨h.1, fun h0 => by
    obtain ⟨ab, ao, h1, h2⟩ := h.2 h0
    have hlt : ab < w.heap.size := World.block_lt_of_cell? w _ (h2 0 h0)
    exact ⟨ab, ao, h1, fun j hj => (hb.cell (Nat.lt_of_lt_of_le hlt hB)).trans (h2 j hj)⟩⟩
/-- What came in lies beneath the first heap's end, and stays. -/
theorem BAt.old {w w1 : World} {p : Option Addr} {l : List Int} (h : BAt w p l) (hb : Below w.heap.size w w1) : BAt w1 p l := h.below hb (Nat.le_refl _)
theorem BAt.drew {w : World} {p : Option Addr} {l : List Int} (h : BAt w p l) : BAt w.drew p l := h
theorem BAt.drewN {w : World} {p : Option Addr} {l : List Int} (h : BAt w p l) (n : Nat) : BAt (w.drewN n) p l := h
theorem byt_rep (n : Nat) (x : Int) (h : 0 ≤ x ∧ x ≤ 255) : Sha.Byt (List.replicate n x) := fun y hy => by
  rw [List.mem_replicate] at hy
  omega
/-- A row that is known whole, read from its beginning. -/
theorem bat_row {w : World} {g : Nat} {l : List Int} {t : TypeId} {fr : Nat × Nat} (h : w.heap[g]? = some (.cells (l.map (Value.int .u8)).toArray t fr)) (hb : Sha.Byt l) : BAt w (some ⟨g, 0, none⟩) l :=
  ⟨hb, fun _ => ⟨g, 0, rfl, fun j hj => by
    rw [cell_of_row w g (0 + j) _ _ _ h]
    simp [List.getD_eq_getElem?_getD, hj]⟩⟩
theorem getD_append_left' (l m : List Int) (j : Nat) (hj : j < l.length) : (l ++ m).getD j 0 = l.getD j 0 := by
  rw [List.getD_eq_getElem?_getD, List.getD_eq_getElem?_getD, List.getElem?_append_left hj]
theorem BAt.pre {w : World} {p : Option Addr} {l m : List Int} (h : BAt w p (l ++ m)) : BAt w p l :=
  ⟨fun x hx => h.1 x (List.mem_append_left _ hx), fun h0 => by
    obtain ⟨ab, ao, h1, h2⟩ := h.2 (by rw [List.length_append]; omega)
    refine ⟨ab, ao, h1, fun j hj => ?_⟩
    rw [h2 j (by rw [List.length_append]; omega), getD_append_left' l m j hj]⟩

/-- Five marks behind a text. -/
def mk5 (L : List Int) : List Int := L ++ List.replicate 5 165
theorem mk5_len (L : List Int) : (mk5 L).length = L.length + 5 := by simp [mk5]
theorem mk5_byt {L : List Int} (h : Sha.Byt L) : Sha.Byt (mk5 L) := Sha.byt_append h (byt_rep 5 165 (by omega))
theorem mk5_lo (L : List Int) (j : Nat) (hj : j < L.length) : (mk5 L).getD j 0 = L.getD j 0 := getD_append_left' L _ j hj
theorem mk5_hi (L : List Int) (j : Nat) (h1 : L.length ≤ j) (h2 : j < L.length + 5) : (mk5 L).getD j 0 = 165 := by
  unfold mk5
  rw [List.getD_eq_getElem?_getD, List.getElem?_append_right h1, List.getElem?_replicate, if_pos (by omega)]
  rfl
def fl5 (L : List Int) (k : Nat) : List Int := (mk5 L).take k ++ List.replicate (L.length + 5 - k) 0
theorem fl5_len (L : List Int) (k : Nat) (hk : k ≤ L.length + 5) : (fl5 L k).length = L.length + 5 := by simp [fl5, mk5]; omega
theorem fl5_zero (L : List Int) : (fl5 L 0).map (Value.int .u8) = List.replicate (L.length + 5) (Value.int .u8 0) := by simp [fl5]
theorem fl5_all (L : List Int) : fl5 L (L.length + 5) = mk5 L := by
  unfold fl5
  rw [List.take_of_length_le (by rw [mk5_len]; omega), Nat.sub_self]
  simp
theorem fl5_step (L : List Int) (k : Nat) (hk : k < L.length + 5) : (fl5 L k).set k ((mk5 L).getD k 0) = fl5 L (k + 1) := by
  unfold fl5
  have hl : ((mk5 L).take k).length = k := by simp [mk5]; omega
  rw [List.set_append_right _ _ (by omega), hl, Nat.sub_self, show L.length + 5 - k = (L.length + 5 - (k + 1)) + 1 by omega, List.replicate_succ, List.set_cons_zero,
    ← take_snoc (mk5 L) k (by rw [mk5_len]; omega), List.append_assoc]
  rfl
theorem fl5_cell {w : World} {g : Nat} {L : List Int} {k : Nat} {t : TypeId} {fr : Nat × Nat} (h : w.heap[g]? = some (.cells ((fl5 L k).map (Value.int .u8)).toArray t fr)) (hk : k ≤ L.length + 5) (j : Nat) (hj : j < L.length + 5) : w.cell? ⟨g, j, none⟩ = some (.int .u8 ((fl5 L k).getD j 0)) := by
  rw [cell_of_row w g j _ _ _ h]
  have := fl5_len L k hk
  simp [List.getD_eq_getElem?_getD, this, hj]
attribute [irreducible] fl5 mk5

theorem set_u8' {w : World} {g i : Nat} {l : List Int} {x : Int} {t : TypeId} (h : w.heap[g]? = some (.cells (l.map (Value.int .u8)).toArray t (0, 0))) :
    (w.setCell ⟨g, i, none⟩ (.int .u8 x)).heap[g]? = some (.cells ((l.set i x).map (Value.int .u8)).toArray t (0, 0)) := by
  rw [heap_setCell_same w g i _ _ _ h]
  congr 2
  apply Array.ext'
  simp

/-- What LentBytes says. -/
def LentSay (L : List Int) (w : World) (e : Ending) (w' : World) : Prop :=
  ∃ g, e = .returned (.slice (some ⟨g, 0, none⟩) (L.length + 5) (L.length + 5)) ∧ w.heap.size ≤ g ∧ w'.heap[g]? = some (.cells ((mk5 L).map (Value.int .u8)).toArray 5 (0, 0)) ∧ Below w.heap.size w w'

set_option maxHeartbeats 1000000 in
set_option maxRecDepth 100000 in
theorem lent_any (L : List Int) (p : Option Addr) (cap : Nat) (w : World) (hp : BAt w p L) (hL : L.length ≤ 1000000) :
    Calls Try.prog 10 #[.slice p L.length cap] w (LentSay L w) := by
  have Hp := Lib.hid hp; clear hp
  have hcast : Hid (((L.length : Int) + 5) = ((L.length + 5 : Nat) : Int)) := by show _ = _; omega
  go_enter Try.func10, Try.ntmps10
  go_upto_region 2 with ((with_reducible refine make_at _ 5 _ _ (.int .u8 0) 1 (L.length + 5) (L.length + 5) ?_ ?_ ?_ ?_ rfl ?_ ?_ ?_ ?_); (exact congrArg (Value.int .i64) hcast.out); (exact congrArg (Value.int .i64) hcast.out); (exact Try.underlying22); (exact Try.info_u8); omega; omega; omega; intro w1 G1 hb1 hs1)
  have G1' : Hid (w1.heap[w.heap.size]? = some (.cells ((fl5 L 0).map (Value.int .u8)).toArray 5 (0, 0))) := by
    show _ = _; rw [fl5_zero]; exact G1.out
  have HB1 := Lib.hid hb1
  clear hb1 G1 hcast
  go_wp2
  go_loopw [4] (fun v4 wr => ∃ k : Nat, k ≤ L.length + 5 ∧ v4 = .int .i64 k ∧ Hid (wr.heap[w.heap.size]? = some (.cells ((fl5 L k).map (Value.int .u8)).toArray 5 (0, 0))) ∧ Hid (Below w.heap.size w wr)) (fun v4 _ => L.length + 5 - (intOf v4).toNat)
  case atStart => exact ⟨0, by omega, rfl, G1'.out, HB1.out⟩
  case round =>
    clear G1' HB1 hs1
    obtain ⟨k, hk, rfl, HG, HB⟩ := hrel
    by_cases hlt : k < L.length + 5
    · have c0 := fl5_cell HG.out hk k hlt
      have f0 := frozen_of_row wr w.heap.size k _ _ HG.out
      generalize (fl5 L k).getD k 0 = y0 at c0
      by_cases hin : k < L.length
      · obtain ⟨ab, ao, hpp, hcs⟩ := Hp.out.2 (by omega)
        subst hpp
        have hlt2 : ab < w.heap.size := World.block_lt_of_cell? w _ (hcs 0 (by omega))
        have c1 : wr.cell? ⟨ab, ao + k, none⟩ = some (.int .u8 (L.getD k 0)) := (HB.out.cell hlt2).trans (hcs k hin)
        have c2 : (wr.setCell ⟨w.heap.size, k, none⟩ (.int .u8 165)).cell? ⟨ab, ao + k, none⟩ = some (.int .u8 (L.getD k 0)) := by
          rw [World.cell?_of_block (w := wr) (heap_setCell_other _ _ _ _ (by simp; omega))]; exact c1
        have h1 := set_u8' (i := k) (x := 165) HG.out
        have c3 : (wr.setCell ⟨w.heap.size, k, none⟩ (.int .u8 165)).cell? ⟨w.heap.size, k, none⟩ = some (.int .u8 165) := by
          rw [cell_of_row _ _ k _ _ _ h1]
          have := fl5_len L k hk
          simp [this, hlt]
        have f3 := frozen_of_row _ w.heap.size k _ _ h1
        have HF : Hid ((fl5 L k).set k (L.getD k 0) = fl5 L (k + 1)) := by show _ = _; rw [← mk5_lo L k hin]; exact fl5_step L k hlt
        generalize L.getD k 0 = x at *
        have H1 := Lib.hid h1
        clear h1
        go_wp2
        refine ⟨⟨k + 1, by omega, by go_num, ?_, ?_⟩, by simp [intOf]; omega⟩
        · have h2 := set_u8' (i := k) (x := x) H1.out
          rw [List.set_set, HF.out] at h2
          exact h2
        · exact (HB.out.setCell (by simp) _).setCell (by simp) _
      · have HF : Hid ((fl5 L k).set k 165 = fl5 L (k + 1)) := by show _ = _; rw [← mk5_hi L k (by omega) hlt]; exact fl5_step L k hlt
        go_wp2
        refine ⟨⟨k + 1, by omega, by go_num, ?_, ?_⟩, by simp [intOf]; omega⟩
        · have h2 := set_u8' (i := k) (x := 165) HG.out
          rw [HF.out] at h2
          exact h2
        · exact HB.out.setCell (by simp) _
    · have E : k = L.length + 5 := by omega
      have HG2 : Hid (wr.heap[w.heap.size]? = some (.cells ((mk5 L).map (Value.int .u8)).toArray 5 (0, 0))) := by
        have := HG.out
        rw [E, fl5_all] at this
        exact this
      have hge : L.length + 5 ≤ k := by omega
      clear E hlt HG
      go_wp2
      go_ret
      exact ⟨w.heap.size, rfl, Nat.le_refl _, HG2.out, HB.out⟩


theorem below_dn {B : Nat} {w w' : World} (h : Below B w w') (n : Nat) : Below B w (w'.drewN n) := ⟨h.os, h.tape, h.output, h.size, h.block⟩
def YesSay (w : World) (e : Ending) (w' : World) : Prop := e = .returned (.bool true) ∧ Below w.heap.size w w'

set_option maxHeartbeats 1000000 in
set_option maxRecDepth 100000 in
theorem same_any (L : List Int) (p q : Option Addr) (n m c d : Nat) (hn : L.length = n) (hm : L.length = m) (w : World) (hp : BAt w p L) (hq : BAt w q L) (hL : L.length ≤ 10000000) :
    Calls Try.prog 20 #[.slice p n c, .slice q m d] w (YesSay w) := by
  subst hn
  subst hm
  have Hp := Lib.hid hp; clear hp
  have Hq := Lib.hid hq; clear hq
  go_enter Try.func20, Try.ntmps20
  go_wp2
  go_loopw [5] (fun v5 wr => ∃ k : Nat, k ≤ L.length ∧ v5 = .int .i64 k ∧ Hid (Below w.heap.size w wr)) (fun v5 _ => L.length - (intOf v5).toNat)
  case atStart => exact ⟨0, by omega, rfl, Below.refl _ _⟩
  case round =>
    obtain ⟨k, hk, rfl, HB⟩ := hrel
    by_cases hlt : k < L.length
    · obtain ⟨ab, ao, hpp, hcs⟩ := (Hp.out.old HB.out).2 (by omega)
      obtain ⟨bb, bo, hqq, hds⟩ := (Hq.out.old HB.out).2 (by omega)
      subst hpp
      subst hqq
      have c0 := hcs k hlt
      have c1 := hds k hlt
      have hn : 0 ≤ (k : Int) := by omega
      have hm : (k : Int) < (L.length : Int) := by omega
      generalize L.getD k 0 = x at *
      go_wp2
      go_quiet (fail)
      go_wp2
      exact ⟨⟨k + 1, by omega, by go_num, below_dn HB.out _⟩, by simp [intOf]; omega⟩
    · have E : k = L.length := by omega
      have hge : L.length ≤ k := by omega
      clear hlt E
      go_wp2
      go_ret
      exact ⟨rfl, HB.out⟩

theorem BAt.at {w : World} {g : Nat} {l : List Int} (h : BAt w (some ⟨g, 0, none⟩) l) (j : Nat) (hj : j < l.length) : w.cell? ⟨g, j, none⟩ = some (.int .u8 (l.getD j 0)) := by
  obtain ⟨ab, ao, h1, h2⟩ := h.2 (by omega)
  cases h1
  have := h2 j hj
  rwa [Nat.zero_add] at this

set_option maxHeartbeats 1000000 in
set_option maxRecDepth 100000 in
theorem kept_any (L : List Int) (g : Nat) (q : Option Addr) (c d : Nat) (w : World) (hp : BAt w (some ⟨g, 0, none⟩) (mk5 L)) (hq : BAt w q L) (hL : L.length ≤ 1000000) (hc : L.length + 5 ≤ c) :
    Calls Try.prog 13 #[.slice (some ⟨g, 0, none⟩) (L.length + 5) c, .slice q L.length d] w (YesSay w) := by
  have Hp := Lib.hid hp; clear hp
  have Hq := Lib.hid hq; clear hq
  have HPL : Hid (BAt w (some ⟨g, 0, none⟩) L) := by
    have h := Hp.out
    unfold mk5 at h
    exact h.pre
  go_enter Try.func13, Try.ntmps13
  go_wp2_with (go_at_call 20; refine (same_any L _ _ _ _ _ _ rfl rfl _ HPL.out Hq.out (by omega)).mono ?_; rintro e w1 ⟨rfl, hb1⟩)
  have HB1 := Lib.hid hb1
  clear hb1
  go_loopw [5] (fun v5 wr => ∃ k : Nat, k ≤ 5 ∧ v5 = .int .i64 ((L.length : Int) + k) ∧ Hid (Below w.heap.size w wr)) (fun v5 _ => L.length + 5 - (intOf v5).toNat)
  case atStart => exact ⟨0, by omega, by simp, HB1.out⟩
  case round =>
    clear HB1
    obtain ⟨k, hk, rfl, HB⟩ := hrel
    by_cases hlt : k < 5
    · have c0 := (Hp.out.old HB.out).at (L.length + k) (by rw [mk5_len]; omega)
      rw [mk5_hi L (L.length + k) (by omega) (by omega)] at c0
      go_wp2
      exact ⟨⟨k + 1, by omega, by congr 1, HB.out⟩, by simp [intOf]; omega⟩
    · have E : k = 5 := by omega
      subst E
      go_wp2
      go_ret
      exact ⟨rfl, HB.out⟩

end Go.Proofs.Ytkajigfdfbgphaa

/-
  The reference's tree: contracts: is.
-/
import Derived.Test.YtfeemeddhhgigaaTrQ
namespace Go.Proofs.Ytfeemeddhhgigaa
open Go.RowKit

theorem Fl.mono {A K e s : Nat} {y : World} {v : Value} {L : List (Array Value)} (h : Fl K e s y v L) (hA : A ≤ K) : Fl A e s y v L := by
  refine ⟨⟨h.1.1, ?_⟩, h.2⟩
  rcases h.1.2 with h' | ⟨g, cap, cur, hv, q0, q1⟩
  · exact Or.inl h'
  · exact Or.inr ⟨g, cap, cur, hv, Nat.le_trans hA q0, q1⟩
theorem Fl.off_box {K e s b : Nat} {y : World} {v : Value} {L : List (Array Value)} {cs : Array Value} {t : TypeId} (h : Fl K e s y v L) (hb : y.heap[b]? = some (.cells cs t (0, 0))) (ht : e ≠ t) : v.ownBlock ≠ some b := fun e2 => by
  obtain ⟨cur, hc⟩ := (own_type h.1 b e2).2
  rw [hb] at hc
  injection hc with hc
  injection hc with _ hc _
  exact ht hc.symm
section
variable {K b : Nat} {w y z : World} {vb vn v' : Value} {L L' : List Tr.Nn} {t t' : Tr.T}
/-- The nodes are others now. -/
theorem RT.setn (h : RT K y b vb vn L t) (hF : Fl K 70 35 y v' (L'.map Tr.nnA)) (hz : z.heap[b]? = some (.cells #[vb, v'] 74 (0, 0))) (ho : Only b y z) (hb : t'.b = t.b) (hr : Tr.NRep L' t') (hk : TOk t') : RT K z b vb v' L' t' := by
  refine ⟨hz, ?_, hF.only ho (hF.off_box h.box (by decide)), hr, hk, h.lo⟩
  have e : Tr.bl t' = Tr.bl t := by unfold Tr.bl; rw [hb]
  rw [e]
  exact h.bl.only ho (h.bl.off_box h.box (by decide))
end
theorem TOk.is {t : Tr.T} (h : TOk t) (x : Tr.Nn) (hx : Pg.Ok x.r) : TOk ⟨t.b, Tr.up t.n x.i x.nd⟩ := by
  refine ⟨h.1, fun i r hr => ?_⟩
  have hr' : Tr.up t.n x.i x.nd i = some (some r) := hr
  by_cases e : i = x.i
  · rw [e, Tr.up_same] at hr'
    unfold Tr.Nn.nd at hr'
    split at hr'
    · cases hr'
    · injection hr' with q
      injection q with q
      rw [← q]
      exact hx
  · rw [Tr.up_other _ _ _ _ e] at hr'
    exact h.2 i r hr'
def IsSay (K b : Nat) (vb : Value) (L : List Tr.Nn) (t : Tr.T) (w : World) (e : Ending) (w' : World) : Prop :=
  ∃ vn, e = .returned (.tuple #[]) ∧ Hid (RT K w' b vb vn L t) ∧ Hid (Only b w w')
set_option maxHeartbeats 4000000 in
set_option maxRecDepth 100000 in
theorem is_any {K b : Nat} {vb vn : Value} {L : List Tr.Nn} {t : Tr.T} (x : Tr.Nn) (w : World) (h : RT K w b vb vn L t) (hl : L.length ≤ 1000) (hL : LOk L) (hx : Pg.Ok x.r) (hi : x.i < 1000) :
    Calls Try.prog 64 #[.pointer (some ⟨b, 0, none⟩), .agg (Tr.nnA x)] w (IsSay K b vb (Tr.wo L x.i ++ [x]) ⟨t.b, Tr.up t.n x.i x.nd⟩ w) := by
  have HKb := Lib.hid h.lo
  have hbl := lt_of_block h.box
  have HAS := Lib.hid (nna_size hx)
  have HA1 := Lib.hid (nna_one x)
  have HFR := Lib.hid (h.rep.is x t.b)
  have HTK := Lib.hid (h.ok.is x hx)
  have HWL : Hid ((Tr.wo L x.i).length ≤ 1000) := by
    show _ ≤ _
    unfold Tr.wo
    exact Nat.le_trans (List.length_filter_le _ _) hl
  have d0 : (Tr.nnA x).toList[0]? = some (.int .i64 (x.i : Int)) := rfl
  obtain ⟨A, hA⟩ : ∃ A, Hid (Tr.nnA x = A) := ⟨_, rfl⟩
  have HMP : Hid ((Tr.wo L x.i ++ [x]).map Tr.nnA = (Tr.wo L x.i).map Tr.nnA ++ [A]) := by
    show _ = _
    rw [List.map_append, ← hA.out]
    rfl
  rw [hA.out] at HAS HA1 d0 ⊢
  have HW : Hid (∀ y, Below w.heap.size w y → Calls Try.prog 62 #[.pointer (some ⟨b, 0, none⟩), .int .i64 (x.i : Int)] y (WoSay (Tr.wo L x.i) y)) := fun y hy => without_any x.i y (h.old hy) hl hL hi
  have HT : Hid (∀ y, Below w.heap.size w y → RT K y b vb vn L t) := fun y hy => h.old hy
  have HKW : Hid (K ≤ w.heap.size) := Nat.le_trans h.lo (Nat.le_of_lt hbl)
  clear h hx hA
  obtain ⟨w0, hw0⟩ : ∃ y, y = w.alloc (.cells A 70) := ⟨_, rfl⟩
  have R0 : Hid (w0.heap[w.heap.size]? = some (.cells A 70 (0, 0))) := by show _ = _; rw [hw0]; exact heap_alloc_new w _
  have B0 : Hid (Below w.heap.size w w0) := by rw [hw0]; exact (Below.refl _ w).alloc (Nat.le_refl _) _
  have e0 : (w.alloc (.cells A 70)).cell? ⟨w.heap.size, 0, none⟩ = some (.int .i64 (x.i : Int)) := by rw [cell_of_row _ _ _ _ _ _ (heap_alloc_new w _)]; simpa using d0
  have hsA := row_size Try.sizeNd HAS
  generalize (x.i : Int) = xi at *
  clear d0
  go_enter Try.func64, Try.ntmps64
  generalize hM : (Tr.wo L x.i).map Tr.nnA = M at *
  have HM : Hid (M.length ≤ 1000) := by show _ ≤ _; rw [← hM, List.length_map]; exact HWL.out
  obtain ⟨N, hN⟩ : ∃ N, M.length = N := ⟨_, rfl⟩
  have HN := Lib.hid hN
  have hNl : N ≤ 100000 := by have := HM.out; omega
  have HW2 : Hid (∀ y, Below w.heap.size w y → Calls Try.prog 62 #[.pointer (some ⟨b, 0, none⟩), .int .i64 xi] y fun e w' => ∃ v, e = .returned v ∧ Hid (Fl y.heap.size 70 35 w' v M) ∧ Hid (Below y.heap.size y w')) := fun y hy => by
    have q := HW.out y hy
    unfold WoSay at q
    rw [hM] at q
    exact q
  clear HW hM hN
  go_wp2_with (first
    | (go_at_call 62; rw [← hw0]; clear hw0; refine (HW2.out _ B0.out).mono ?_; rintro e1 w1 ⟨v, rfl, HF, B1⟩; have BB := Lib.hid (B0.out.trans (B1.out.mono B0.out.size)); have R1 : Hid (w1.heap[w.heap.size]? = some (.cells A 70 (0, 0))) := (B1.out.block _ (lt_of_block R0.out)).trans R0.out; have HSZ := Lib.hid B1.out.size)
    | ((with_reducible refine row_load _ _ _ _ _ _ _ ?_ R1.out Try.underlying70 ?_ hsA ?_); (exact rfl); (exact rfl))
    | ((with_reducible refine bs1_g _ _ _ A 35 56 Try.underlying71 Try.infoNd (nna_size pg_zr) HAS.out ?_ ?_ _ ?_ ?_); (decide); (decide); (exact rfl))
    | (at_builtin; (with_reducible refine app_fl _ _ _ A 35 56 Try.underlying71 Try.infoNd (nna_size pg_zr) HAS.out ?_ ?_ HA1.out _ _ w0.heap.size _ M N ?_ ?_ HF.out HN.out ?_ HSZ.out ?_); (decide); (decide); (exact rfl); (exact rfl); (exact hNl); intro q9 d9 y9 HF9 HT9 HG9; have B9 := Lib.hid ((BB.out.alloc BB.out.size _).grown HG9.out (by simp; have := BB.out.size; omega) (fun g hg => Nat.le_trans B0.out.size (HT9.out g hg).1)); have T9 := Lib.hid (HT.out _ B9.out); have c9 := T9.out.c1; have f9 : y9.frozen? ⟨b, 1, none⟩ = false := frozen_of_row y9 b 1 _ _ T9.out.box))
  go_end0
  have hs : (y9.setCell ⟨b, 1, none⟩ (.slice q9 (N + 1) d9)).heap[b]? = _ := heap_setCell_same y9 b 1 _ _ (.slice q9 (N + 1) d9) T9.out.box
  have hO : Only b y9 (y9.setCell ⟨b, 1, none⟩ (.slice q9 (N + 1) d9)) := (Chg.setCell y9 ⟨b, 1, none⟩ _).only
  have hF : Fl K 70 35 y9 (.slice q9 (N + 1) d9) ((Tr.wo L x.i ++ [x]).map Tr.nnA) := by rw [HMP.out]; exact HF9.out.mono (Nat.le_trans HKW.out B0.out.size)
  exact ⟨_, rfl, Lib.hid (T9.out.setn hF hs hO rfl HFR.out HTK.out), Lib.hid ((only_of_below B9.out).trans hO)⟩
end Go.Proofs.Ytfeemeddhhgigaa

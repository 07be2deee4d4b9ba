/-
  Contracts: pack.Sum, pack.Ref.
-/
import Derived.Test.YtgfnpofoedambaaPaB
namespace Go.Proofs.Ytgfnpofoedambaa
open Go.RowKit

set_option maxHeartbeats 1000000 in
set_option maxRecDepth 100000 in
theorem sum_any (L S : List Int) (hS : S.length = 32) (hb : Sha.Byt S) (p : Option Addr) (n c m : Nat) (hn : L.length = n) (hm : n + 32 = m) (hL : n ≤ 1000000) (w : World) (hp : Bs w p c L) :
    Calls Try.prog 38 #[.slice p n c, A32 S] w (RowOf (L ++ S) m w) := by
  have HP := Lib.hid hp; clear hp
  have HN := Lib.hid hn; clear hn
  obtain ⟨A, hA⟩ : ∃ A, (S.map (Value.int .u8)).toArray = A := ⟨_, rfl⟩
  have HAS : Hid (A.size = 32) := by show _ = _; rw [← hA]; simp [hS]
  have hsz := row_size Try.sizeSum HAS
  have h1 : A.all (·.oneCell') = true := by
    rw [← hA, Array.all_eq_true_iff_forall_mem]
    intro v hv
    exact bytes_one S v (by simpa using hv)
  have B0 : Hid (Below w.heap.size w (w.alloc (.cells A 23))) := (Below.refl _ w).alloc (Nat.le_refl _) _
  have HB1 : Hid (Bs (w.alloc (.cells A 23)) (some ⟨w.heap.size, 0, none⟩) 32 S) := by
    have h := heap_alloc_new w (.cells A 23)
    rw [← hA] at h ⊢
    exact bs_row (bat_row h hb) ⟨by omega, by omega⟩
  have HP1 : Hid (Bs (w.alloc (.cells A 23)) p c L) := HP.out.old B0.out
  unfold A32
  rw [hA]
  clear hA
  go_enter Try.func38, Try.ntmps38
  have B2 : Hid (Below (w.alloc (.cells A 23)).heap.size (w.alloc (.cells A 23)) ((w.alloc (.cells A 23)).alloc (.cells #[.slice p n c, .slice (some ⟨w.heap.size, 0, none⟩) 32 32] 29))) := (Below.refl _ _).alloc (Nat.le_refl _) _
  have HC : Hid (Calls Try.prog 37 #[.slice (some ⟨w.heap.size + 1, 0, none⟩) 2 2] ((w.alloc (.cells A 23)).alloc (.cells #[.slice p n c, .slice (some ⟨w.heap.size, 0, none⟩) 32 32] 29)) (RowOf (L ++ S) m ((w.alloc (.cells A 23)).alloc (.cells #[.slice p n c, .slice (some ⟨w.heap.size, 0, none⟩) 32 32] 29)))) :=
    concat2_any (w.heap.size + 1) p (some ⟨w.heap.size, 0, none⟩) n 32 c 32 L S m HN.out hS hm _ (heap_alloc2_new w _ _) (HP1.out.old B2.out) (HB1.out.old B2.out) (by omega)
  have hb1 : Hid (Below w.heap.size w ((w.alloc (.cells A 23)).alloc (.cells #[.slice p n c, .slice (some ⟨w.heap.size, 0, none⟩) 32 32] 29))) := B0.out.trans (B2.out.mono B0.out.size)
  go_wp2_with (go_at_call 37; refine HC.out.mono ?_; rintro e1 w1 ⟨p1, c1, rfl, HO1, HB1, HL1⟩)
  go_ret
  refine ⟨p1, c1, rfl, ?_, HB1.out, ?_⟩
  · have h := own_base HO1.out hb1.out.size
    exact h
  · have h := hb1.out.trans (HL1.out.mono hb1.out.size)
    exact h

end Go.Proofs.Ytgfnpofoedambaa

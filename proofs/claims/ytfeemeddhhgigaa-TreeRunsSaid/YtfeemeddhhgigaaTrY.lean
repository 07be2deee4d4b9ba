/-
  The reference's tree: contract: New.
-/
import Derived.Test.YtfeemeddhhgigaaTrX
namespace Go.Proofs.Ytfeemeddhhgigaa
open Go.RowKit

def Tr.L0 : List Tr.Nn := [⟨0, false, Pg.zr⟩]
theorem new_bl : Tr.bl Tr.new = [] := by unfold Tr.bl Tr.new Pg.zr; rfl
theorem new_rep : Tr.NRep Tr.L0 Tr.new := fun i => by
  by_cases e : i = 0
  · subst e; rfl
  · have e2 : Tr.new.n i = none := if_neg e
    rw [e2]
    unfold Tr.L0 Tr.lk
    have e3 : ¬ 0 = i := fun q => e q.symm
    rw [Tr.lk, if_neg e3]
theorem new_ok : TOk Tr.new := by
  refine ⟨fun _ => pg_zr, fun i r h => ?_⟩
  by_cases e : i = 0
  · subst e
    have e2 : Tr.new.n 0 = some (some Pg.zr) := rfl
    rw [e2] at h
    injection h with h
    injection h with h
    rw [← h]; exact pg_zr
  · have e2 : Tr.new.n i = none := if_neg e
    rw [e2] at h; cases h
theorem new_lg : LG Tr.L0 := ⟨fun x hx => by rw [Tr.L0, List.mem_singleton] at hx; rw [hx]; exact pg_zr, by simp [Tr.L0], fun x hx => by rw [Tr.L0, List.mem_singleton] at hx; rw [hx]; show 0 < 9; omega⟩
theorem rnew_any (K : Nat) (w : World) (hK : K ≤ w.heap.size) :
    Calls Try.prog 11 #[] w fun e w' => ∃ b, e = .returned (.pointer (some ⟨b, 0, none⟩)) ∧ Hid (RS K w' b Tr.new) ∧ Hid (Below w.heap.size w w') ∧ Hid (w.heap.size ≤ b) := by
  have HN := Lib.hid (fl_single w 70 35 (Tr.nnA ⟨0, false, Pg.zr⟩) (nna_size pg_zr))
  have HB : Hid (Below w.heap.size w (w.alloc (.cells (Tr.nnA ⟨0, false, Pg.zr⟩) 70))) := (Below.refl _ w).alloc (Nat.le_refl _) _
  go_enter Try.func11, Try.ntmps11
  go_wp2
  go_ret
  refine ⟨_, rfl, Lib.hid ⟨.slice none 0 0, .slice (some ⟨w.heap.size, 0, none⟩) 1 1, Tr.L0, ⟨?_, ?_, ?_, new_rep, new_ok, by omega⟩, new_lg⟩, Lib.hid (HB.out.alloc HB.out.size _), Lib.hid (by omega)⟩
  · have e : (w.alloc (.cells (Tr.nnA ⟨0, false, Pg.zr⟩) 70)).heap.size = w.heap.size + 1 := by simp
    have := heap_alloc_new (w.alloc (.cells (Tr.nnA ⟨0, false, Pg.zr⟩) 70)) (.cells #[Value.slice none 0 0, .slice (some ⟨w.heap.size, 0, none⟩) 1 1] 74)
    rw [e] at this
    exact this
  · rw [new_bl]; exact fl_nil _ _ _ _
  · exact (HN.out.old ((Below.refl _ _).alloc (Nat.le_refl _) _)).mono hK
end Go.Proofs.Ytfeemeddhhgigaa

/-
  Sums held against one another; contracts: rilllaw01.known, rillkit.Pick.
-/
import Derived.Test.YtjidkkehhglahaaDoorShaH
import Derived.ChangeKeysEq
import Derived.Lib.SlBytesConst
import Derived.Laws.StructEq
namespace Go.Proofs.YtjidkkehhglahaaDoor
open Go.RowKit

theorem Tryd.agg5 (w : World) : (isAgg 5).run Tryd.prog w = .ok false w := by
  unfold isAgg
  rw [Sem.run_bind, run_underlying Tryd.underlying5 w]
  rfl
theorem items_same (d : Nat) (c : Nat) (hc : c = 1) (l : List Int) (w : World) : ∀ is : List Nat, (∀ i ∈ is, i < l.length) →
    (Op.eqItems (d + 1) 5 c (l.map (Value.int .u8)).toArray (l.map (Value.int .u8)).toArray is).run Tryd.prog w = .ok true w
  | [], _ => by simp [Op.eqItems]
  | i :: is, h => by
    subst hc
    have hi := h i (by simp)
    have hv : (l.map (Value.int .u8)).toArray[i * 1]? = some (.int .u8 (l[i])) := by simp [hi]
    have hp : (part 5 (l.map (Value.int .u8)).toArray (i * 1)).run Tryd.prog w = .ok (.int .u8 (l[i])) w := by
      unfold part
      rw [Sem.run_bind, Tryd.agg5 w]
      simp only [Result.andThen_ok, hv]
      rfl
    have he := run_equalIn_int (P := Tryd.prog) w d 5 .u8 .u8 (l[i]) (l[i]) Tryd.underlying5
    rw [Op.eqItems]
    simp only [Sem.run_bind, hp, Result.andThen_ok, he, beq_self_eq_true, Bool.not_true, Bool.false_eq_true, if_false]
    exact items_same d 1 rfl l w is (fun j hj => h j (by simp [hj]))
theorem sum_same (l : List Int) (h : l.length = 32) (w : World) :
    (Op.equalIn 10000 30 (.agg (l.map (Value.int .u8)).toArray) (.agg (l.map (Value.int .u8)).toArray)).run Tryd.prog w = .ok true w := by
  cases hq : Tryd.prog.info? 5 with
  | none => have := Tryd.size5; rw [hq] at this; cases this
  | some i =>
    rw [show (10000 : Nat) = (9998 + 1) + 1 from rfl, run_equalIn_array w _ _ _ Tryd.underlying30 hq]
    exact items_same 9998 _ (by kernel_rfl) l w _ (fun j hj => by rw [h]; exact List.mem_range.1 hj)
theorem Tryd.noGuard : Tryd.prog.eqGuardType Tryd.prog.depth 30 = false := by kernel_rfl

theorem bytes_at' {w : World} {g B : Nat} {l : List Int} {t : TypeId} {fr : Nat × Nat} (hl : Sha.Byt l) (hg : B ≠ g) (h : w.heap[B]? = some (.cells (l.map (Value.int .u8)).toArray t fr)) : BytesAt w g (some ⟨B, 0, none⟩) l :=
  ⟨hl, fun _ => ⟨B, 0, rfl, hg, fun j hj => by
    rw [cell_of_row w B (0 + j) _ _ _ h]
    simp [List.getD_eq_getElem?_getD, hj]⟩⟩
def BoolSay (b : Bool) (w : World) (e : Ending) (w' : World) : Prop := e = .returned (.bool b) ∧ Below w.heap.size w w'

theorem known_words : sbK [3128432319, 2399260650, 1094795486, 1571693091, 2953011619, 2518121116, 3021012833, 4060091821] 32 = Sha.dg [97, 98, 99] := by rw [dg_abc]; decide +kernel

set_option maxRecDepth 100000 in
set_option maxHeartbeats 1000000 in
theorem known_any (hT : TakeSaid) (w : World) (ht : Tab w 0) : Calls Tryd.prog 12 #[] w (BoolSay true w) := by
  have HT := Lib.hid hT; clear hT
  have Ht := Lib.hid ht; clear ht
  obtain ⟨A, HA⟩ : ∃ A : Array Value, Hid (A = ((Sha.dg [97, 98, 99]).map (Value.int .u8)).toArray) := ⟨_, rfl⟩
  have HEQ : ∀ w, (Op.equalIn 10000 30 (.agg A) (.agg A)).run Tryd.prog w = .ok true w := fun w => by rw [HA.out]; exact sum_same _ (dg_len _) w
  have hng := Tryd.noGuard
  have kc := fun (w : World) (C : Array Value) (n c : Nat) => Lib.run_convert_bytes_const (P := Tryd.prog) w 25 5 C n c Tryd.underlying25 Tryd.underlying5
  have hb0 := (Below.refl w.heap.size w).alloc (Nat.le_refl _) (.cells #[.int .u8 97, .int .u8 98, .int .u8 99] 5 (3, 4))
  have HB0 := Lib.hid hb0; clear hb0
  have HBY : Hid (∀ g, (w.alloc (.cells #[.int .u8 97, .int .u8 98, .int .u8 99] 5 (3, 4))).heap.size ≤ g → BytesAt (w.alloc (.cells #[.int .u8 97, .int .u8 98, .int .u8 99] 5 (3, 4))) g (some ⟨w.heap.size, 0, none⟩) [97, 98, 99]) := fun g hg =>
    bytes_at' (l := [97, 98, 99]) (t := 5) (by intro x hx; simp at hx; omega) (by simp at hg; omega) (heap_alloc_new w _)
  have HTB : Hid (Tab (w.alloc (.cells #[.int .u8 97, .int .u8 98, .int .u8 99] 5 (3, 4))) 0) := Ht.out.below HB0.out Ht.out.lt
  go_enter Tryd.func12, Tryd.ntmps12
  go_wp2_with (first
    | (go_at_call 9; refine (of_any HT.out [97, 98, 99] _ 3 _ HBY.out (by decide) (by decide) HTB.out).mono ?_; rintro e w1 ⟨rfl, hb1⟩; rw [← HA.out]; have HB1 := Lib.hid hb1; clear hb1)
    | (go_at_call 10; refine (wsum_any _ _ _ _ _ _ _ _ _).mono ?_; rintro e w2 ⟨rfl, hb2⟩; rw [known_words, ← HA.out]; have HB2 := Lib.hid hb2; clear hb2))
  go_ret
  refine ⟨rfl, HB0.out.trans ((HB1.out.mono (by simp)).trans (HB2.out.mono ?_))⟩
  have := HB1.out.size
  simp at this
  omega

end Go.Proofs.YtjidkkehhglahaaDoor

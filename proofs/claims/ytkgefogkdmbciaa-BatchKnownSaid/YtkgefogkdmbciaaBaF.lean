/-
  Contract: slices.Backward of entries, and its iterator.
-/
import Derived.RangeFuncNested
import Derived.RangeFuncBound
import Derived.RangeFuncCalls
import Derived.RangeFuncLeaves
import Derived.RangeFuncWrites
import Derived.Shelf.Abstract
import Derived.Shelf.RegionOpen
import Derived.OwnWalkIn
import Derived.TacticsInMore
import Derived.LoopNIn
import Derived.LoopIn
import Derived.Laws.EntriesVeiled
import Derived.Test.YtkgefogkdmbciaaBaE
namespace Go.Proofs.Ytkgefogkdmbciaa
open Go.RowKit Go.Shelf

/-- A row out of cells that are known, inside a fence. -/
theorem rng_loadIn {F : Fence} {n : Nat} {P : Program} {ops : Array Oper} {rest : List Oper} {a : Act} {w : World} {Q : Exit → Act → World → Prop} {D : Option Tmp} {T : TypeId} {ps : String} {af : Array Edge} {gd : Option (Nat × Bool)} (ty : TypeId) (x : Operand) (ad : Addr) (A : Array Value)
    (hw : Region.wanted { dst := D, op := .load ty x, type := T, pos := ps, after := af, guard := gd } (yielded ops a.tmps) = true) (hx : a.eval x = .pointer (some ad))
    (hl : (Instr.loadAt ty (.pointer (some ad))).run P w = .ok (.agg A) w)
    (h : wpListIn F n P ops Q rest (a.put D (.agg A)) w) :
    wpListIn F n P ops Q ({ dst := D, op := .load ty x, type := T, pos := ps, after := af, guard := gd } :: rest) a w :=
  BigFrame.wpListIn_want hw fun K hK => by
    unfold Oper.wpIn
    refine ⟨fun f hf => by simp [Oper.about] at hf, ?_⟩
    rw [Oper.semAt_plain F _ _ (by intro c hc; cases hc)]
    unfold execOp
    simp only [hx, hl, Sem.run_bind, Sem.run_pure, Result.andThen_ok]
    exact hK _ _ h
set_option maxHeartbeats 1000000 in
theorem back_any (p : Option Addr) (n c : Nat) (w : World) :
    Calls Try.prog 36 #[.slice p n c] w fun e w' => e = .returned (.func (.func 51) #[] #[.pointer (some ⟨w.heap.size, 0, none⟩)]) ∧
      w' = w.alloc (.cells #[.slice p n c] 24) := by
  go_enter Try.func36, Try.ntmps36
  go_wp2
  go_ret
  exact ⟨rfl, rfl⟩
/-- The entry that comes x-th. -/
def Bt.encs (L : List Bt.En) (n x : Nat) : Array Value := #[.int .i64 ((n - 1 - x : Nat) : Int), .agg (EnA (L.getD (n - 1 - x) Bt.en0))]

set_option maxRecDepth 100000 in
set_option maxHeartbeats 4000000 in
theorem back1_in (l bs B n c : Nat) (p : Option Addr) (L : List Bt.En) (hn : n ≤ L.length) (hL : L.length ≤ 1000000) (J Jx : List Nat → World → Prop)
    (hY : ∀ pre x W, J pre W → pre.length < n → YieldAt Fence.wide 1 Try.prog l (Bt.encs L n x) W fun e W' =>
      (e = .returned (.bool true) ∧ J (pre ++ [x]) W' ∧ Below B W W') ∨ (e = .returned (.bool false) ∧ Jx (pre ++ [x]) W'))
    (W : World) (hbs : W.heap[bs]? = some (.cells #[.slice p n c] 24 (0, 0))) (hbB : bs < B) (hE : ∀ y, Below B W y → Es y p c L) (h0 : J [] W) :
    CallsIn Fence.wide 2 Try.prog 51 #[.func (.yield l) #[] #[], .pointer (some ⟨bs, 0, none⟩)] W fun e W' => (∃ v, e = .returned v) ∧
      ((∃ ys, ys = List.range n ∧ J ys W') ∨ (∃ pre, (∃ m, m < n ∧ pre = List.range (m + 1)) ∧ Jx pre W')) := by
  refine callsIn_of_wp Try.func51 rfl trivial ?_ rfl
  simp only [Try.ntmps51, List.size_toArray, List.length_cons, List.length_nil, Nat.reduceAdd, Nat.reduceSub, Array.replicate_succ, Array.replicate_zero, List.push_toArray, List.append_toArray, List.nil_append, List.cons_append]
  have HBS := Lib.hid hbs; have HJ0 := Lib.hid h0; have HEE := Lib.hid hE
  have cs0 : W.cell? ⟨bs, 0, none⟩ = some (.slice p n c) := by rw [cell_of_row W bs 0 _ _ _ hbs]; rfl
  have hw0 : IntKind.i64.wrap ((n : Int) - 1) = (n : Int) - 1 := IntWalk.i64_in _ ⟨by omega, by omega⟩
  clear hbs h0 hE
  gi_wp2
  gi_loopw [3] (fun v3 wr => ∃ j : Nat, j ≤ n ∧ v3 = .int .i64 ((n : Int) - 1 - (j : Int)) ∧ Hid (J (List.range j) wr) ∧ Hid (Below B W wr))
    (fun v3 _ => ((intOf v3) + 1).toNat)
  case atStart => exact ⟨0, Nat.zero_le _, by simp, HJ0.out, Below.refl _ _⟩
  case round =>
    clear HJ0 cs0
    obtain ⟨j, hj, rfl, HJ, HB⟩ := hrel
    by_cases hlt : j < n
    · obtain ⟨m, hm⟩ : ∃ m : Nat, n = m + 1 + j := ⟨n - 1 - j, by omega⟩
      have hmi : (n : Int) - 1 - (j : Int) = (m : Int) := by omega
      have hmn : n - 1 - j = m := by omega
      rw [hmi]
      obtain ⟨fn, tmps, assign, body, hy, hR⟩ := hY (List.range j) j wr HJ.out (by rw [List.length_range]; exact hlt)
      unfold Bt.encs at hy
      rw [hmn] at hy
      have hes := HEE.out wr HB.out
      obtain ⟨ab, ao, hpp, _⟩ := hes.at_ (by omega)
      subst hpp
      have hl := hes.load (i := m) (by omega)
      have cs : wr.cell? ⟨bs, 0, none⟩ = some (.slice (some ⟨ab, ao, none⟩) n c) := by rw [cell_of_row wr bs 0 _ _ _ ((HB.out.block bs hbB).trans HBS.out)]; rfl
      generalize EnA (L.getD m Bt.en0) = X at *
      have hm0 : 0 ≤ (m : Int) := by omega
      have hm1 : (m : Int) < (n : Int) := by omega
      have HM := Lib.hid hm
      clear hm hmi hmn
      have HL := Lib.hid hl
      clear hl hes
      gi_wp2_with ((with_reducible refine rng_loadIn _ _ ⟨ab, ao + m * 35, none⟩ X ?_ ?_ HL.out ?_); (exact rfl); (exact rfl))
      refine hR.mono ?_
      rintro e W3 (⟨rfl, hJ3, hb3⟩ | ⟨rfl, hJx3⟩)
      · have HJ3 := Lib.hid hJ3
        have HB3 : Hid (Below B W W3) := HB.out.trans hb3
        clear hJ3 hb3 hR hy
        have hw1 : IntKind.i64.wrap ((m : Int) - 1) = (m : Int) - 1 := IntWalk.i64_in _ ⟨by omega, by omega⟩
        gi_wp2
        go_roundw
        case rel => exact ⟨j + 1, by omega, by congr 1; have := HM.out; omega, by show J _ _; rw [List.range_succ]; exact HJ3.out, HB3.out⟩
        case measure => simp [intOf]
      · gi_wp2
        refine bodyPost_ret (results_none rfl _ _ _) rfl ?_
        exact ⟨⟨_, rfl⟩, .inr ⟨_, ⟨j, hlt, List.range_succ.symm⟩, hJx3⟩⟩
    · obtain rfl : j = n := by omega
      have hge : ¬ ((j : Int) - 1 - (j : Int) ≥ 0) := by omega
      gi_wp2
      go_end0
      first | exact ⟨⟨_, rfl⟩, .inl ⟨_, rfl, HJ.out⟩⟩ | exact ⟨⟨_, rfl⟩, .inl HJ.out⟩
end Go.Proofs.Ytkgefogkdmbciaa

/-
  The program's tree: contracts: under, Page.
-/
import Derived.Test.YtfeemeddhhgigaaTrPe
namespace Go.Proofs.Ytfeemeddhhgigaa
open Go.RowKit

theorem run_copy_rowN {P : Program} (w : World) (dT sT ty elem : TypeId) (g o dLen dCap : Nat) (a : Addr) (sLen sCap : Nat) (cur : Array Value) (t : TypeId) (cs : List Value) (s : Nat)
    (hu : P.underlying dT = some (.slice elem)) (hs : (P.info? elem).map (·.size) = some s)
    (hg : w.heap[g]? = some (.cells cur t (0, 0))) (hn : cs.length = Nat.min sLen dLen * s)
    (hsrc : ∀ j v, cs[j]? = some v → w.cell? (a.add j) = some v) (hfit : o + cs.length ≤ cur.size) (h1 : ∀ v ∈ cs, v.oneCell' = true) :
    (Builtin.copy_ #[dT, sT] ty #[.slice (some ⟨g, o, none⟩) dLen dCap, .slice (some a) sLen sCap]).run P w =
      .ok (goInt (Nat.min sLen dLen)) (w.setRow g (cur.toList.take o ++ cs ++ cur.toList.drop (o + cs.length)).toArray) := by
  have hl := run_loadCells_list (P := P) w a cs hsrc
  have hst := run_storeCells_at P g o t cs 0 cur w hg (by simpa using hfit) h1
  cases hq : P.info? elem with
  | none => simp [hq] at hs
  | some i =>
    have hi : i.size = s := by simpa [hq] using hs
    simp [Builtin.copy_, run_underlying hu, Builtin.lenOf, Builtin.firstCells, sizeOf, typeInfo, hq, hi, ← hn, hl, hst]
section
variable {P : Program} {ops : Array Oper} {Q : Exit → Act → World → Prop} {a : Act} {w : World}
theorem op_copyN {K : Act → World → Prop} (i : Nat) (d s : Operand) (dT sT : TypeId) {D : Option Tmp} {T : TypeId} {ps : String} {af : Array Edge} (ho : ops[i]? = some { dst := D, op := .call { callee := .builtin .copy, args := #[d, s], argTypes := #[dT, sT] }, type := T, pos := ps, after := af, guard := none })
    (elem : TypeId) (g off n dCap sCap : Nat) (ad : Addr) (t : TypeId) (cur cs : List Value) (sz : Nat) (hd : a.eval d = .slice (some ⟨g, off, none⟩) n dCap) (hs : a.eval s = .slice (some ad) n sCap) (hg : w.heap[g]? = some (.cells cur.toArray t (0, 0)))
    (hu : P.underlying dT = some (.slice elem)) (hsz : (P.info? elem).map (·.size) = some sz) (hn : cs.length = n * sz) (hsrc : ∀ j v, cs[j]? = some v → w.cell? (ad.add j) = some v) (hfit : off + cs.length ≤ cur.length) (h1 : ∀ v ∈ cs, v.oneCell' = true)
    (h : ∀ w', Hid (w'.heap[g]? = some (.cells (cur.take off ++ cs ++ cur.drop (off + cs.length)).toArray t (0, 0))) → Chg g w w' → K (a.put D (goInt n)) w') : wpOp P ops Q i K a w :=
  op_plain i _ ho rfl (by
    have hrun := run_copy_rowN (P := P) w dT sT T elem g off n dCap ad n sCap cur.toArray t cs sz hu hsz hg (by rw [show Nat.min n n = n from Nat.min_self n]; exact hn) hsrc (by simpa using hfit) h1
    rw [show Nat.min n n = n from Nat.min_self n] at hrun
    unfold Oper.wp
    simp [execOp, resolve, invoke, builtin, hd, hs, hrun, Result.andThen]
    exact h _ (show _ = _ by have := setRow_heap w g cur.toArray (cur.take off ++ cs ++ cur.drop (off + cs.length)).toArray t (0, 0) hg; simpa using this) (Chg.setRow w g _))
theorem exec_b2 {D : Option Tmp} {T : TypeId} {ps : String} {af : Array Edge} {gd : Option (Nat × Bool)} (t : TypeId) (i j : Nat) (x y : Operand) (v u : Value) (R : Array Value) (hx : a.eval x = v) (hy : a.eval y = u) (hr : P.built t [(i, v), (j, u)] = some R) :
    (execOp a.eval { dst := D, op := .build t #[(i, x), (j, y)], type := T, pos := ps, after := af, guard := gd }).run P w = .ok (.value (.agg R)) w := by
  have hrun := run_build (P := P) w t #[(i, v), (j, u)] R hr
  unfold execOp
  simp only [hx, hy, List.map_toArray, List.map_cons, List.map_nil, hrun, Sem.run_bind, Sem.run_pure, Result.andThen_ok]
end
theorem results_cell1 {P : Program} {fn : Func} {p : Tmp} {ty : TypeId} (h : fn.results = #[.cell p ty]) (tmps : Array Value) (w : World) (g : Nat) (t : TypeId) (cs : Array Value) (fr : Nat × Nat) (d : TypeDesc)
    (hp : tmps.getD p undef = .pointer (some ⟨g, 0, none⟩)) (hg : w.heap[g]? = some (.cells cs t fr))
    (hu : P.underlying ty = some d) (hd : (match d with | .struct _ | .array _ _ => true | _ => false) = true) (hi : (P.info? ty).map (·.size) = some cs.size) :
    (results fn tmps).run P w = .ok (.agg cs) w := by
  have hp' : tmps[p]?.getD undef = .pointer (some ⟨g, 0, none⟩) := by simpa using hp
  simp [results, h, hp', asAddr, run_loadVar_row w g t ty cs fr d hg hu hd hi]
set_option maxHeartbeats 4000000 in
set_option maxRecDepth 100000 in
theorem under_any (b m : Nat) (hm : m < 8) (w : World) : Calls Try.prog 53 #[.pointer (some ⟨b, 0, none⟩), .int .i64 ((m + 1 : Nat) : Int)] w fun e w' => ∃ c, e = .returned (.slice (some ⟨b, 8 * m * 33, none⟩) 8 c) ∧ w' = w := by
  obtain ⟨N, hN⟩ : ∃ N : Int, ((m + 1 : Nat) : Int) = N := ⟨_, rfl⟩
  obtain ⟨f, hf⟩ : ∃ f : Nat, f = 8 * m := ⟨_, rfl⟩
  rw [hN, ← hf]
  have hw1 : IntKind.i64.wrap (N - 1) = (m : Int) := by rw [IntWalk.i64_in _ ⟨by omega, by omega⟩]; omega
  have hw2 : IntKind.i64.wrap ((m : Int) * 8) = (f : Int) := by rw [IntWalk.i64_in _ ⟨by omega, by omega⟩]; omega
  have hw3 : IntKind.i64.wrap ((f : Int) + 8) = ((f + 8 : Nat) : Int) := by rw [IntWalk.i64_in _ ⟨by omega, by omega⟩]; omega
  have h0 : 0 ≤ (f : Int) := by omega
  have h1 : ((f + 8 : Nat) : Int) ≤ 64 := by omega
  have h2 : (f : Int) ≤ ((f + 8 : Nat) : Int) := by omega
  have hf2 : f ≤ 56 := by omega
  have hsl : ∀ W, (Instr.sliceAt 62 (.pointer (some ⟨b, 0, none⟩)) (some (.int .i64 (f : Int))) (some (.int .i64 ((f : Int) + 8))) none).run Try.prog W = .ok (.slice (some ⟨b, f * 33, none⟩) 8 (64 - f)) W := fun W => by
    have hal : Try.prog.arrayLen 62 = 64 := by kernel_rfl
    have hel : Try.prog.elem 62 = 33 := by kernel_rfl
    obtain ⟨i, hi⟩ := info_of_underlying Try.underlying33
    have hs : ((sizeOf 33).run Try.prog W) = .ok 33 W := by rw [run_sizeOf W hi, Try.cellsRef]
    rw [run_sliceAt_array_lh W 62 ⟨b, 0, none⟩ (by rw [hal, hel]; exact Try.underlying62) .i64 .i64 (f : Int) ((f : Int) + 8) (by omega) (by omega) (by rw [hal]; omega), hel, hs, hal]
    have e1 : ((f : Int) + 8).toNat = f + 8 := by omega
    simp only [Result.andThen_ok, slicedAt, Int.toNat_natCast, e1]
    rw [if_neg (by omega), Nat.add_sub_cancel_left]
    congr 3
    rw [Addr.add_mid, Nat.zero_add]
  clear hN hf
  go_enter Try.func53, Try.ntmps53
  go_wp2
  go_ret
  exact ⟨_, rfl, rfl⟩
end Go.Proofs.Ytfeemeddhhgigaa

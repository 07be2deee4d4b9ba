/-
  Contracts: toByte, toInt, toSum, toRef.
-/
import Derived.Test.YtgfnpofoedambaaPaE
namespace Go.Proofs.Ytgfnpofoedambaa
open Go.RowKit

theorem Sha.byt_getD {l : List Int} (h : Sha.Byt l) (i : Nat) : 0 ≤ l.getD i 0 ∧ l.getD i 0 ≤ 255 := by
  rw [List.getD_eq_getElem?_getD]
  cases q : l[i]? with
  | none => simp
  | some x =>
    obtain ⟨hi, rfl⟩ := List.getElem?_eq_some_iff.1 q
    simpa using h _ (List.getElem_mem hi)
section
variable {P : Program} {ops : Array Oper} {rest : List Oper} {a : Act} {w : World} {Q : Exit → Act → World → Prop} {D : Option Tmp} {T : TypeId} {ps : String} {af : Array Edge}
/-- A row out of cells that are known. -/
theorem rng_load (ty : TypeId) (x : Operand) (b o : Nat) (A : Array Value) (d : TypeDesc) (hx : a.eval x = .pointer (some ⟨b, o, none⟩)) (hc : w.rangeAt b o A.toList)
    (hu : P.underlying ty = some d) (hd : d.isRow = true) (hi : (P.info? ty).map (·.size) = some A.size)
    (h : wpList P ops Q rest (a.put D (.agg A)) w) : wpList P ops Q ({ dst := D, op := .load ty x, type := T, pos := ps, after := af, guard := none } :: rest) a w :=
  wpList_load_mid rfl ty x rfl b o hx A.toList d hc hu hd (by simpa using hi) (by simpa using h)
end
def Pk.pre (L : List Int) (k : Nat) : Int := (Pk.be (L.take k) + 9223372036854775808) % 18446744073709551616 - 9223372036854775808
theorem Pk.pre_zero (L : List Int) : Pk.pre L 0 = 0 := by unfold Pk.pre; rw [List.take_zero, Pk.be_nil]; rfl
theorem Pk.pre_in (L : List Int) (k : Nat) : -9223372036854775808 ≤ Pk.pre L k ∧ Pk.pre L k ≤ 9223372036854775807 := by
  unfold Pk.pre
  omega
theorem Pk.pre_all (L : List Int) : Pk.pre L L.length = Pk.in8 L := by unfold Pk.pre Pk.in8; rw [List.take_length]
theorem Pk.pre_succ (L : List Int) (hb : Sha.Byt L) (k : Nat) (hk : k < L.length) : bits .or .i64 (wrap64 (Pk.pre L k * 256)) (L.getD k 0) = Pk.pre L (k + 1) := by
  have hx : 0 ≤ L.getD k 0 ∧ L.getD k 0 ≤ 255 := by
    rw [List.getD_eq_getElem?_getD, List.getElem?_eq_getElem hk]
    exact hb _ (List.getElem_mem _)
  have e : Pk.be (L.take (k + 1)) = Pk.be (L.take k) * 256 + L.getD k 0 := by rw [← take_snoc L k hk, Pk.be_snoc]
  unfold Pk.pre
  rw [e, ← Pk.or8 _ _ hx.1 hx.2]
  unfold wrap64
  congr 1
  omega
attribute [irreducible] Pk.pre
set_option maxHeartbeats 1000000 in
set_option maxRecDepth 100000 in
theorem toint_any (L : List Int) (p : Option Addr) (n c : Nat) (hn : L.length = n) (hL : n ≤ 1000) (w : World) (hp : Bs w p c L) :
    Calls Try.prog 43 #[.slice p n c] w fun e w' => e = .returned (.int .i64 (Pk.in8 L)) ∧ w' = w := by
  have HP := Lib.hid hp; clear hp
  have HN := Lib.hid hn; clear hn
  go_enter Try.func43, Try.ntmps43
  go_wp2
  go_loopw [3, 8] (fun v3 v8 wr => ∃ k : Nat, k ≤ n ∧ v8 = .int .i64 k ∧ v3 = .int .i64 (Pk.pre L k) ∧ wr = w) (fun _ v8 _ => n - (intOf v8).toNat)
  case atStart => exact ⟨0, by omega, rfl, by rw [Pk.pre_zero], rfl⟩
  case round =>
    obtain ⟨k, hk, rfl, rfl, rfl⟩ := hrel
    by_cases hlt : k < n
    · obtain ⟨ab, ao, hpp, hcs⟩ := HP.out.bat.2 (by rw [HN.out]; omega)
      subst hpp
      have c0 := hcs k (by rw [HN.out]; exact hlt)
      clear hcs
      have HS : Hid (bits .or .i64 (wrap64 (Pk.pre L k * 256)) (L.getD k 0) = Pk.pre L (k + 1)) := Pk.pre_succ L HP.out.bat.1 k (by rw [HN.out]; exact hlt)
      have hx0 := Sha.byt_getD HP.out.bat.1 k
      generalize L.getD k 0 = x at *
      generalize Pk.pre L k = y at *
      have hw : IntKind.i64.wrap x = x := IntWalk.i64_in _ ⟨by omega, by omega⟩
      have hn0 : 0 ≤ (k : Int) := by omega
      have hn1 : (k : Int) < (n : Int) := by omega
      go_wp2
      exact ⟨⟨k + 1, by omega, by go_num, congrArg (Value.int .i64) HS.out, trivial⟩, by simp [intOf]; omega⟩
    · obtain rfl : k = n := by omega
      have hge : ¬ ((k : Int) < (k : Int)) := by omega
      have HE : Hid (Pk.pre L k = Pk.in8 L) := by show _ = _; rw [← HN.out, Pk.pre_all]
      clear hlt
      go_wp2
      go_ret
      exact ⟨by rw [← HE.out]; rfl, rfl⟩

set_option maxHeartbeats 1000000 in
set_option maxRecDepth 100000 in
/-- An array of 32 bytes in the answer's own cell. -/
theorem tosum_any (L : List Int) (p : Option Addr) (n c : Nat) (hn : L.length = n) (h32 : n = 32) (w : World) (hp : Bs w p c L) :
    Calls Try.prog 50 #[.slice p n c] w fun e w' => e = .returned (A32 L) ∧ Below w.heap.size w w' := by
  subst h32
  obtain ⟨ab, ao, rfl, hc⟩ := hp.bat.2 (by omega)
  have HP := Lib.hid hp; clear hp hc
  have HN := Lib.hid hn; clear hn
  obtain ⟨A, HA1⟩ : ∃ A, Hid (A = (L.map (Value.int .u8)).toArray) := ⟨_, rfl⟩
  have HA2 : Hid (A.size = 32) := by show _ = _; rw [HA1.out]; simp [HN.out]
  have h1 : A.all (·.oneCell') = true := by rw [HA1.out]; exact all_oneCell_toArray (bytes_one _)
  have e32 : A32 L = .agg A := by unfold A32; rw [HA1.out]
  have hat : ∀ w, (Instr.arrayAt 23 (.slice (some ⟨ab, ao, none⟩) 32 c)).run Try.prog w = .ok (.pointer (some ⟨ab, ao, none⟩)) w := fun w => run_arrayAt _ _ _ 32 _ 32 _ Try.underlying23 (Nat.le_refl _)
  have hr : ∀ y, Below w.heap.size w y → y.rangeAt ab ao A.toList := fun y hy j v hv => by
    obtain ⟨ab', ao', h1, h2⟩ := (HP.out.old hy).bat.2 (by rw [HN.out]; omega)
    cases h1
    rw [HA1.out] at hv
    have hj : j < 32 := by
      have := (List.getElem?_eq_some_iff.1 hv).1
      simp [HN.out] at this
      omega
    rw [h2 j (by rw [HN.out]; exact hj)]
    have hv2 : L[j]?.map (Value.int .u8) = some v := by simpa using hv
    rw [List.getD_eq_getElem?_getD]
    cases hq : L[j]? with
    | none => rw [hq] at hv2; cases hv2
    | some y => rw [hq] at hv2; simpa using hv2
  have HR := Lib.hid hr
  clear hr HA1
  rw [e32]
  go_enter Try.func50, Try.ntmps50
  have B0 : Hid (Below w.heap.size w (w.alloc (.cells (List.replicate 32 (Value.int .u8 0)).toArray 23))) := (Below.refl _ w).alloc (Nat.le_refl _) _
  have R0 : Hid ((w.alloc (.cells (List.replicate 32 (Value.int .u8 0)).toArray 23)).heap[w.heap.size]? = some (.cells (List.replicate 32 (Value.int .u8 0)).toArray 23 (0, 0))) := heap_alloc_new w _
  go_wp2_with (first
    | ((with_reducible refine rng_load _ _ _ _ _ _ ?_ (HR.out _ ((Below.refl _ w).alloc (Nat.le_refl _) _)) Try.underlying23 ?_ (row_size Try.sizeSum HA2) ?_); (exact rfl); (exact rfl))
    | ((with_reducible refine row_store _ _ _ _ _ _ _ ?_ ?_ (heap_alloc_new _ _) (row_size Try.sizeSum HA2) ?_ h1 ?_); (exact rfl); (exact rfl); (rw [HA2.out]; rfl); intro w6 G6 ch6))
  refine bodyPost_ret (results_cell_row rfl _ _ w.heap.size 23 A (0, 0) _ rfl G6.out Try.underlying23 rfl (row_size Try.sizeSum HA2)) rfl ⟨rfl, ch6.below B0.out (Nat.le_refl _)⟩
end Go.Proofs.Ytgfnpofoedambaa

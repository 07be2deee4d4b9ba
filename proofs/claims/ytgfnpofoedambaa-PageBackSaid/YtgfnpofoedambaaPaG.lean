/-
  Contract: toRef.
-/
import Derived.Test.YtgfnpofoedambaaPaF
namespace Go.Proofs.Ytgfnpofoedambaa
open Go.RowKit

theorem fill_off (off : Nat) : ∀ (l : List Value) (k : Nat) (Z : Array Value), off + k + l.length ≤ Z.size →
    (l.zipIdx k).foldl (fun (cs : Array Value) (x : Value × Nat) => cs.setIfInBounds (off + x.2) x.1) Z = (Z.toList.take (off + k) ++ l ++ Z.toList.drop (off + k + l.length)).toArray
  | [], k, Z, _ => by simp
  | v :: l, k, Z, h => by
    simp only [List.length_cons] at h
    rw [List.zipIdx_cons, List.foldl_cons]
    rw [fill_off off l (k + 1) _ (by simp; omega)]
    apply Array.ext'
    have hk : off + k < Z.toList.length := by simp; omega
    simp only [Array.toList_setIfInBounds, List.length_cons]
    have e1 : (Z.toList.set (off + k) v).take (off + (k + 1)) = Z.toList.take (off + k) ++ [v] := by
      rw [show off + (k + 1) = off + k + 1 by omega, List.take_add_one, List.getElem?_set_self hk, List.take_set_of_le (Nat.le_refl _)]
      rfl
    have e2 : (Z.toList.set (off + k) v).drop (off + (k + 1) + l.length) = Z.toList.drop (off + k + (l.length + 1)) := by
      rw [List.drop_set_of_lt (by omega)]
      congr 1
      omega
    rw [e1, e2]
    simp
theorem fill_ref (place : Nat → Option (Nat × Nat)) (v : Value) (A Z : Array Value) (z : List Value) (hv : v.cells = #[v]) (h0 : place 0 = some (0, 1)) (h1 : place 1 = some (1, 32)) (hA : A.size = 32) (hZ : Z = (Value.int .i64 0 :: z).toArray) (hz : z.length = 32) :
    Instr.fill place Z [(0, v), (1, .agg A)] = some (#[v] ++ A) := by
  have h := fill_off 1 A.toList 0 (v :: z).toArray (by simp; omega)
  subst hZ
  unfold Instr.fill
  rw [h0]
  dsimp only
  rw [hv]
  split
  · rename_i hh
    simp [hz] at hh
  · unfold Instr.fill
    rw [h1]
    dsimp only
    split
    · rename_i hh
      simp [Value.cells, hA, hz] at hh
    · unfold Instr.fill
      congr 1
      show Array.foldl (fun (cs : Array Value) (x : Value × Nat) => cs.setIfInBounds (1 + x.2) x.1) (v :: z).toArray A.zipIdx = _
      rw [← Array.foldl_toList, Array.toList_zipIdx, h]
      apply Array.ext'
      simp [hA, hz]

def Z33 : Array Value := (Value.int .i64 0 :: List.replicate 32 (Value.int .u8 0)).toArray
theorem Try.zeroRef : (Try.prog.info? 25).map (fun i => (i.zero, i.size)) = some (some (.agg Z33), 33) := by kernel_rfl
theorem Try.placesRef : (match Try.prog.underlying 25 with
    | some (.struct fields) => fields.toList.mapM (fun f => (Try.prog.info? f.type).map fun i => (f.offset, i.size))
    | _ => none) = some [(0, 1), (1, 32)] := by kernel_rfl
set_option maxRecDepth 100000 in
theorem build_ref (a : Int) (A : Array Value) (hA : A.size = 32) : Try.prog.built 25 [(0, .int .i64 a), (1, .agg A)] = some (#[.int .i64 a] ++ A) := by
  unfold Program.built
  have hz := Try.zeroRef
  have hp := Try.placesRef
  cases hi : Try.prog.info? 25 with
  | none => rw [hi] at hz; cases hz
  | some i =>
    rw [hi] at hz
    simp only [Option.map_some, Option.some.injEq, Prod.mk.injEq] at hz
    cases hu : Try.prog.underlying 25 with
    | none => rw [hu] at hp; cases hp
    | some d =>
      rw [hu] at hp
      cases d <;> try (exact absurd hp (fun h => by cases h))
      case struct fields =>
        dsimp only at hp ⊢
        rw [hz.1, hp]
        dsimp only
        exact fill_ref _ (.int .i64 a) A Z33 (List.replicate 32 (Value.int .u8 0)) rfl rfl rfl hA rfl rfl
theorem exec_build2 {P : Program} {a : Act} {w : World} {D : Option Tmp} {T : TypeId} {ps : String} {af : Array Edge} {gd : Option (Nat × Bool)} (t : TypeId) (x y : Operand) (v u : Value) (R : Array Value) (hx : a.eval x = v) (hy : a.eval y = u) (hr : P.built t [(0, v), (1, u)] = some R) :
    (execOp a.eval { dst := D, op := .build t #[(0, x), (1, y)], type := T, pos := ps, after := af, guard := gd }).run P w = .ok (.value (.agg R)) w := by
  have hrun := run_build (P := P) w t #[(0, v), (1, u)] R hr
  unfold execOp
  simp only [hx, hy, List.map_toArray, List.map_cons, List.map_nil, hrun, Sem.run_bind, Sem.run_pure, Result.andThen_ok]
theorem r33_eq (k : Int) (S : List Int) : R33 (k, S) = .agg (#[.int .i64 k] ++ (S.map (Value.int .u8)).toArray) := by
  unfold R33
  congr 1
  apply Array.ext'
  simp

set_option maxHeartbeats 2000000 in
set_option maxRecDepth 100000 in
theorem toref_any (L : List Int) (ab ao n c : Nat) (hn : L.length = n) (h40 : n = 40) (w : World) (hp : Bs w (some ⟨ab, ao, none⟩) c L) :
    Calls Try.prog 45 #[.slice (some ⟨ab, ao, none⟩) n c] w fun e w' => e = .returned (R33 (Pk.in8 (L.take 8), L.drop 8)) ∧ Below w.heap.size w w' := by
  subst h40
  have hcap := hp.cap
  have HP := Lib.hid hp; clear hp
  have HN := Lib.hid hn
  have HL8 : Hid ((L.take 8).length = 8) := by show _ = _; rw [List.length_take]; omega
  have HD8 : Hid ((L.drop 8).length = 32) := by show _ = _; rw [List.length_drop]; omega
  rw [hn] at hcap
  obtain ⟨A, HA1⟩ : ∃ A, Hid (A = ((L.drop 8).map (Value.int .u8)).toArray) := ⟨_, rfl⟩
  have HA2 : Hid (A.size = 32) := by show _ = _; rw [HA1.out, List.size_toArray, List.length_map, HD8.out]
  have HA3 : Hid (A.all (·.oneCell') = true) := by show _ = _; rw [HA1.out]; exact all_oneCell_toArray (bytes_one _)
  have e33 : R33 (Pk.in8 (L.take 8), L.drop 8) = .agg (#[.int .i64 (Pk.in8 (L.take 8))] ++ A) := by rw [HA1.out]; exact r33_eq _ _
  have e32 : Hid (A32 (L.drop 8) = .agg A) := by show _ = _; unfold A32; rw [HA1.out]
  have HI : Hid (∀ y, Below w.heap.size w y → Calls Try.prog 43 #[.slice (some ⟨ab, ao, none⟩) 8 c] y fun e w' => e = .returned (.int .i64 (Pk.in8 (L.take 8))) ∧ w' = y) := fun y hy =>
    toint_any (L.take 8) _ 8 c HL8.out (by omega) y ((HP.out.take 8).old hy)
  have HS : Hid (∀ y, Below w.heap.size w y → Calls Try.prog 50 #[.slice (some ⟨ab, ao + 8, none⟩) 32 (c - 8)] y fun e w' => e = .returned (.agg A) ∧ Below y.heap.size y w') := fun y hy => by
    rw [← e32.out]
    exact tosum_any (L.drop 8) _ 32 (c - 8) HD8.out rfl y ((HP.out.dropk (k := 8) (by rw [HN.out]; omega)).old hy)
  clear HA1 hn
  rw [e33]
  clear e33
  generalize Pk.in8 (L.take 8) = K at *
  have HBR := build_ref K A HA2.out
  have HB2 : Hid ((#[Value.int .i64 K] ++ A).size = 33) := by show _ = _; simp [HA2.out]
  have HB3 : Hid ((#[Value.int .i64 K] ++ A).all (·.oneCell') = true) := by show _ = _; have := HA3.out; simp_all [Value.oneCell']
  obtain ⟨R, HR⟩ : ∃ R, R = #[Value.int .i64 K] ++ A := ⟨_, rfl⟩
  rw [← HR] at HBR HB2 HB3 ⊢
  clear HR
  have hc8 : 8 ≤ c := by omega
  have hc8' : c ≠ 8 := by omega
  have hc8i : ¬ ((c : Int) < 8) := by omega
  go_enter Try.func45, Try.ntmps45
  go_upto_region 1 with (fail)
  refine wp_region_any (by kernel_rfl) ?_
  change wpAny _ _ _ _ _ _ _ (World.drew _)
  have B0 : Hid (Below w.heap.size w (w.alloc (.cells Z33 25)).drew) := ((Below.refl _ w).alloc (Nat.le_refl _) _).drew
  have R0 : Hid ((w.alloc (.cells Z33 25)).drew.heap[w.heap.size]? = some (.cells Z33 25 (0, 0))) := heap_alloc_new w _
  change wpAny _ _ _ _ _ _ _ (w.alloc (.cells Z33 25)).drew
  obtain ⟨w1, hw1e⟩ : ∃ x, x = (w.alloc (.cells Z33 25)).drew := ⟨_, rfl⟩
  have L1 : Hid (w.heap.size < w1.heap.size) := by show _ < _; rw [hw1e]; simp
  rw [← hw1e] at B0 R0 ⊢
  clear hw1e
  refine wpAny_of_held (S := fun _ => True) _ _ _ _ ?_
  refine anyH_take 0 3 (.slice (some ⟨ab, ao, none⟩) 40 c) trivial rfl (by kernel_rfl) (by kernel_rfl) (by kernel_rfl) (fun _ _ _ h => h) (by rfl) (by intro x hx; go_simp) ?_
  try simp only [Act.put, List.setIfInBounds_toArray, List.set_cons_zero, List.set_cons_succ]
  refine anyH_take 1 4 (.slice (some ⟨ab, ao, none⟩) 8 c) trivial rfl (by kernel_rfl) (by kernel_rfl) (by kernel_rfl) (fun _ _ _ h => h) (by rfl) (by intro x hx; go_simp) ?_
  try simp only [Act.put, List.setIfInBounds_toArray, List.set_cons_zero, List.set_cons_succ]
  refine anyH_take 3 6 (.slice (some ⟨ab, ao, none⟩) 40 c) trivial rfl (by kernel_rfl) (by kernel_rfl) (by kernel_rfl) (fun _ _ _ h => h) (by rfl) (by intro x hx; go_simp) ?_
  try simp only [Act.put, List.setIfInBounds_toArray, List.set_cons_zero, List.set_cons_succ]
  refine anyH_take 4 7 (.slice (some ⟨ab, ao + 8, none⟩) 32 (c - 8)) trivial rfl (by kernel_rfl) (by kernel_rfl) (by kernel_rfl) (fun _ _ _ h => h) (by rfl) (by intro x hx; go_simp) ?_
  try simp only [Act.put, List.setIfInBounds_toArray, List.set_cons_zero, List.set_cons_succ]
  refine anyH_one 2 (by kernel_rfl) ?_
  refine wpOp_step rfl (fun Kc hKc => ?_)
  go_simp
  refine (HI.out _ B0.out).mono ?_
  rintro e2 w2 ⟨rfl, rfl⟩
  dsimp only
  refine hKc _ _ ⟨trivial, ?_⟩
  clear hKc Kc
  try simp only [Act.put, List.setIfInBounds_toArray, List.set_cons_zero, List.set_cons_succ]
  refine anyH_one 5 (by kernel_rfl) ?_
  refine wpOp_step rfl (fun Kc hKc => ?_)
  go_simp
  refine (HS.out _ B0.out).mono ?_
  rintro e3 w3 ⟨rfl, hb3⟩
  dsimp only
  refine hKc _ _ ⟨trivial, ?_⟩
  clear hKc Kc
  try simp only [Act.put, List.setIfInBounds_toArray, List.set_cons_zero, List.set_cons_succ]
  refine anyH_take 6 9 (.agg R) trivial rfl (by kernel_rfl) (by kernel_rfl) (by kernel_rfl) (fun _ _ _ h => h) (by rfl) (fun x hx => exec_build2 _ _ _ _ _ R rfl rfl HBR) ?_
  try simp only [Act.put, List.setIfInBounds_toArray, List.set_cons_zero, List.set_cons_succ]
  refine anyH_one 7 (by kernel_rfl) ?_
  have R3 := (hb3.block _ L1.out).trans R0.out
  have B3 : Hid (Below w.heap.size w w3) := B0.out.trans (hb3.mono B0.out.size)
  refine op_store 7 25 (.tmp 2) (.tmp 9) rfl w.heap.size 0 25 Z33.toList R rfl rfl (by rw [Array.toArray_toList]; exact R3) (row_size Try.sizeRef HB2) (by rw [HB2.out]; exact Nat.le_refl _) HB3.out ?_
  intro w5 g5 ch5
  refine ⟨trivial, ?_⟩
  have G5 : Hid (w5.heap[w.heap.size]? = some (.cells R 25 (0, 0))) := by
    have h := g5.out
    have e : splice Z33.toList 0 R.toList = R.toList := by
      unfold splice
      rw [List.take_zero, List.nil_append, Array.length_toList, HB2.out, List.drop_of_length_le (by exact Nat.le_refl _), List.append_nil]
    rw [e, Array.toArray_toList] at h
    exact h
  refine wpAnyH_done (by kernel_rfl) ?_ _
  go_wp2
  refine bodyPost_ret (results_cell_row rfl _ _ w.heap.size 25 R (0, 0) _ rfl G5.out Try.underlying25 rfl (row_size Try.sizeRef HB2)) rfl ⟨rfl, ch5.below B3.out (Nat.le_refl _)⟩
end Go.Proofs.Ytgfnpofoedambaa

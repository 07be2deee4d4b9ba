/-
  Contracts: three, works, CopyBytes, Pick.
-/
import Derived.Test.YtkgefogkdmbciaaBaJ
import Derived.Great.BuildSlice
namespace Go.Proofs.Ytkgefogkdmbciaa
open Go.RowKit

theorem fill_en (F : List Bt.En) (hF : ∀ x ∈ F, x.ok) (i : Nat) (x : Bt.En) (hx : x.ok) (hi : i < F.length) (rest : List (Nat × Value)) :
    Instr.fill (fun i => some (i * 35, 35)) (Bt.ec F).toArray ((i, .agg (EnA x)) :: rest) = Instr.fill (fun i => some (i * 35, 35)) (Bt.ec (F.set i x)).toArray rest := by
  have hs : (Value.agg (EnA x)).cells.size = 35 := enA_size hx
  rw [fill_step _ i _ (i * 35) 35 _ _ rfl hs (by rw [List.size_toArray, Bt.ec_len hF]; omega)]
  have e := Bt.ec_set hF i hi x
  congr 2
section
variable {P : Program} {ops : Array Oper} {rest : List Oper} {a : Act} {w : World} {Q : Exit → Act → World → Prop} {D : Option Tmp} {T : TypeId} {ps : String} {af : Array Edge} {gd : Option (Nat × Bool)}
theorem row_bij (t : TypeId) (i j : Nat) (x y : Operand) (v u : Value) (R : Array Value) (hx : a.eval x = v) (hy : a.eval y = u) (hr : P.built t [(i, v), (j, u)] = some R) (h : wpList P ops Q rest (a.put D (.agg R)) w) :
    wpList P ops Q ({ dst := D, op := .build t #[(i, x), (j, y)], type := T, pos := ps, after := af, guard := none } :: rest) a w :=
  wpList_plain rfl fun K hK => by
    have hrun := run_build (P := P) w t #[(i, v), (j, u)] R hr
    unfold Oper.wp execOp
    simp only [hx, hy, List.map_toArray, List.map_cons, List.map_nil, hrun, Sem.run_bind, Sem.run_pure, Result.andThen_ok]
    exact hK _ _ h
theorem row_bijk (t : TypeId) (i j k : Nat) (x y z : Operand) (v u s : Value) (R : Array Value) (hx : a.eval x = v) (hy : a.eval y = u) (hz : a.eval z = s) (hr : P.built t [(i, v), (j, u), (k, s)] = some R) (h : wpList P ops Q rest (a.put D (.agg R)) w) :
    wpList P ops Q ({ dst := D, op := .build t #[(i, x), (j, y), (k, z)], type := T, pos := ps, after := af, guard := none } :: rest) a w :=
  wpList_plain rfl fun K hK => by
    have hrun := run_build (P := P) w t #[(i, v), (j, u), (k, s)] R hr
    unfold Oper.wp execOp
    simp only [hx, hy, hz, List.map_toArray, List.map_cons, List.map_nil, hrun, Sem.run_bind, Sem.run_pure, Result.andThen_ok]
    exact hK _ _ h
end
theorem run_bs (w : World) (n : Nat) (hn : n ≤ 1000) (h0 : 0 < n) (parts : Array (Nat × Value)) (L : List Bt.En) (h : Instr.fill (fun i => some (i * 35, 35)) (Bt.ec (List.replicate n Bt.en0)).toArray parts.toList = some (Bt.ec L).toArray) :
    (Instr.buildSlice 24 n parts).run Try.prog w = .ok (.slice (some ⟨w.heap.size, 0, none⟩) n n) (w.alloc (.cells (Bt.ec L).toArray 50)) := by
  obtain ⟨i, hi1, hi2, hi3, hi4⟩ := info_parts Try.infoEn
  refine run_buildSlice w _ _ n parts _ i _ Try.underlying24 hi1 hi2 (by rw [hi3]; omega) (by rw [hi3]; omega) ?_
  rw [hi3]
  have e := made_en n
  unfold madeCells at e
  have e' : (Value.agg ZEn.toArray).cells = ZEn.toArray := rfl
  rw [e', e]
  exact h
section
variable {ops : Array Oper} {rest : List Oper} {a : Act} {w : World} {Q : Exit → Act → World → Prop} {D : Option Tmp} {T : TypeId} {ps : String} {af : Array Edge} {gd : Option (Nat × Bool)}
theorem bs_one (x : Operand) (e : Bt.En) (he : e.ok) (hx : a.eval x = .agg (EnA e)) (h : wpList Try.prog ops Q rest (a.put D (.slice (some ⟨w.heap.size, 0, none⟩) 1 1)) (w.alloc (.cells (Bt.ec [e]).toArray 50))) :
    wpList Try.prog ops Q ({ dst := D, op := .buildSlice 24 1 #[(0, x)], type := T, pos := ps, after := af, guard := none } :: rest) a w :=
  wpList_plain rfl fun K hK => by
    have hrun := run_bs w 1 (by omega) (by omega) #[(0, .agg (EnA e))] [e] (by
      show Instr.fill _ _ [(0, .agg (EnA e))] = _
      rw [fill_en _ (Bt.ok_rep Bt.en0_ok 1) 0 e he (by simp)]
      rfl)
    unfold Oper.wp execOp
    simp only [hx, List.map_toArray, List.map_cons, List.map_nil, hrun, Sem.run_bind, Sem.run_pure, Result.andThen_ok]
    exact hK _ _ h
theorem bs_three (x y z : Operand) (e f g : Bt.En) (he : e.ok) (hf : f.ok) (hg : g.ok) (hx : a.eval x = .agg (EnA e)) (hy : a.eval y = .agg (EnA f)) (hz : a.eval z = .agg (EnA g))
    (h : wpList Try.prog ops Q rest (a.put D (.slice (some ⟨w.heap.size, 0, none⟩) 3 3)) (w.alloc (.cells (Bt.ec [e, f, g]).toArray 50))) :
    wpList Try.prog ops Q ({ dst := D, op := .buildSlice 24 3 #[(0, x), (1, y), (2, z)], type := T, pos := ps, after := af, guard := none } :: rest) a w :=
  wpList_plain rfl fun K hK => by
    have h0 := Bt.ok_rep Bt.en0_ok 3
    have h1 := Bt.ok_set h0 0 he
    have h2 := Bt.ok_set h1 1 hf
    have hrun := run_bs w 3 (by omega) (by omega) #[(0, .agg (EnA e)), (1, .agg (EnA f)), (2, .agg (EnA g))] [e, f, g] (by
      show Instr.fill _ _ [(0, .agg (EnA e)), (1, .agg (EnA f)), (2, .agg (EnA g))] = _
      rw [fill_en _ h0 0 e he (by simp), fill_en _ h1 1 f hf (by simp), fill_en _ h2 2 g hg (by simp)]
      rfl)
    unfold Oper.wp execOp
    simp only [hx, hy, hz, List.map_toArray, List.map_cons, List.map_nil, hrun, Sem.run_bind, Sem.run_pure, Result.andThen_ok]
    exact hK _ _ h
end
namespace Bt
def t1 : En := ⟨1, 5, 7, Z⟩
def t2 : En := ⟨2, 5, 0, Z⟩
def t3 : En := ⟨3, 0, 8, Z⟩
theorem t1_ok : t1.ok := ⟨⟨by decide, by decide⟩, ⟨by decide, by decide⟩, ⟨by decide, by decide⟩, z_len, z_byt⟩
theorem t2_ok : t2.ok := ⟨⟨by decide, by decide⟩, ⟨by decide, by decide⟩, ⟨by decide, by decide⟩, z_len, z_byt⟩
theorem t3_ok : t3.ok := ⟨⟨by decide, by decide⟩, ⟨by decide, by decide⟩, ⟨by decide, by decide⟩, z_len, z_byt⟩
def T3 : List En := [t1, t2, t3]
theorem t3_len : T3.length = 3 := rfl
theorem t3s_ok : ∀ x ∈ T3, x.ok := fun x hx => by
  simp only [T3, List.mem_cons, List.not_mem_nil, or_false] at hx
  rcases hx with rfl | rfl | rfl
  · exact t1_ok
  · exact t2_ok
  · exact t3_ok
theorem t3_ck : ck 3 (-1) T3 = 0 := by
  refine ck_of (by rw [t3_len]; omega) ⟨by omega, by omega, by omega, by omega⟩ ?_
  have a1 : al t1 = 0 := by unfold al t1; simp
  have a2 : al t2 = 0 := by unfold al t2; simp
  have a3 : al t3 = 0 := by unfold al t3; simp
  have n1 : nl (-1) t1 = 7 := nl_slot _ (by decide)
  have n2 : nl 7 t2 = 7 := nl_trim _ rfl
  have e3 : er 7 t3 = 0 := by rw [er_next a3 (by decide) (by omega)]; rfl
  unfold T3
  rw [go_on (er_first a1 (by decide)), n1, go_on (er_skip a2 rfl), n2, go_on e3]
  unfold go
  rfl
theorem t3_in : Pk.In64 3 ∧ Pk.In64 (-1) := ⟨⟨by decide, by decide⟩, ⟨by decide, by decide⟩⟩
attribute [irreducible] T3 t1 t2 t3
end Bt
theorem built_t1 : Try.prog.built 50 [(0, .int .i64 1), (1, .int .i64 5), (2, .int .i64 7)] = some (EnA Bt.t1) := by kernel_rfl
theorem built_t2 : Try.prog.built 50 [(0, .int .i64 2), (1, .int .i64 5)] = some (EnA Bt.t2) := by kernel_rfl
theorem built_t3 : Try.prog.built 50 [(0, .int .i64 3), (2, .int .i64 8)] = some (EnA Bt.t3) := by kernel_rfl
theorem build_sm3 (t n : Int) (q : Option Addr) (m c : Nat) : Try.prog.built 26 [(0, .int .i64 t), (2, .int .i64 n), (3, .slice q m c)] = some (SmA t Bt.Z n (.slice q m c)) := by
  rw [built_of Try.zeroSm Try.placesSm, fill_step _ 0 _ 0 1 _ _ rfl rfl (by simp [ZSm]), fill_step _ 2 _ 33 1 _ _ rfl rfl (by simp [ZSm, Value.cells]), fill_step _ 3 _ 34 1 _ _ rfl rfl (by simp [ZSm, Value.cells])]
  unfold Instr.fill SmA SmC
  simp [ZSm, Value.cells, Bt.Z]
/-- Behind a call that makes a summary of its own. -/
def SmNew (t : Int) (P : List Int) (n : Int) (m : Nat) (L : List Bt.En) (w : World) (e : Ending) (w' : World) : Prop :=
  ∃ g, e = .returned (.agg (SmA t P n (.slice (some ⟨g, 0, none⟩) m m))) ∧ Hid (EsRow w' g L) ∧ Hid (w.heap.size ≤ g) ∧ Hid (Below w.heap.size w w')
set_option maxHeartbeats 1000000 in
set_option maxRecDepth 100000 in
theorem three_any (w : World) : Calls Try.prog 28 #[] w (SmNew 3 Bt.Z (-1) 3 Bt.T3 w) := by
  have B0 : Hid (Below w.heap.size w (w.alloc (.cells ZSm.toArray 26))) := (Below.refl _ w).alloc (Nat.le_refl _) _
  have G0 : Hid ((w.alloc (.cells ZSm.toArray 26)).heap[w.heap.size]? = some (.cells ZSm.toArray 26 (0, 0))) := heap_alloc_new w _
  have hZS := sm_info (A := ZSm.toArray) rfl
  go_enter Try.func28, Try.ntmps28
  go_upto_region 1 with (fail)
  change Code.wp _ _ _ _ (w.alloc (.cells ZSm.toArray 26))
  obtain ⟨w0, hw0⟩ : ∃ y, y = w.alloc (.cells ZSm.toArray 26) := ⟨_, rfl⟩
  rw [← hw0] at B0 G0 ⊢
  clear hw0
  have R1 : Hid (EsRow (w0.alloc (.cells (Bt.ec Bt.T3).toArray 50)) w0.heap.size Bt.T3) := heap_alloc_new w0 _
  have G1 : Hid ((w0.alloc (.cells (Bt.ec Bt.T3).toArray 50)).heap[w.heap.size]? = some (.cells ZSm.toArray 26 (0, 0))) := (heap_oldX _ _ (lt_of_block G0.out)).trans G0.out
  have B1 : Hid (Below w.heap.size w (w0.alloc (.cells (Bt.ec Bt.T3).toArray 50))) := B0.out.alloc B0.out.size _
  have HT : Hid (Bt.T3 = [Bt.t1, Bt.t2, Bt.t3]) := by unfold Bt.T3; exact rfl
  rw [HT.out] at R1 G1 B1
  have HX2 : Hid ((SmA 3 Bt.Z (-1) (.slice (some ⟨w0.heap.size, 0, none⟩) 3 3)).size = 35) := smA_size _ _ _ Bt.z_len
  have HX3 : Hid ((SmA 3 Bt.Z (-1) (.slice (some ⟨w0.heap.size, 0, none⟩) 3 3)).all (·.oneCell') = true) := smA_one _ _ _ _ _ _
  have HLT : Hid (w.heap.size < w0.heap.size) := lt_of_block G0.out
  go_wp2_with (first
    | ((with_reducible refine row_bijk _ _ _ _ _ _ _ _ _ _ _ ?_ ?_ ?_ built_t1 ?_); (exact rfl); (exact rfl); (exact rfl))
    | ((with_reducible refine row_bij _ _ _ _ _ _ _ _ ?_ ?_ built_t2 ?_); (exact rfl); (exact rfl))
    | ((with_reducible refine row_bij _ _ _ _ _ _ _ _ ?_ ?_ built_t3 ?_); (exact rfl); (exact rfl))
    | ((with_reducible refine bs_three _ _ _ _ _ _ Bt.t1_ok Bt.t2_ok Bt.t3_ok ?_ ?_ ?_ ?_); (exact rfl); (exact rfl); (exact rfl))
    | ((with_reducible refine row_bijk _ _ _ _ _ _ _ _ _ _ _ ?_ ?_ ?_ (build_sm3 3 (-1) (some ⟨w0.heap.size, 0, none⟩) 3 3) ?_); (exact rfl); (exact rfl); (exact rfl))
    | ((with_reducible refine row_store _ _ _ _ _ _ _ ?_ ?_ G1.out (sm_info HX2.out) ?_ HX3.out ?_); (exact rfl); (exact rfl); (rw [HX2.out]; rfl); intro w9 G9 ch9))
  refine bodyPost_ret (results_cell_row rfl _ _ w.heap.size 26 _ (0, 0) _ rfl G9.out Try.underlying26 rfl (sm_info HX2.out)) rfl ⟨w0.heap.size, rfl, ?_, Nat.le_of_lt HLT.out, ch9.below B1.out (Nat.le_refl _)⟩
  rw [HT.out]
  exact R1.out.only ch9.only (Nat.ne_of_gt HLT.out)
/-! what the laws ask of Put and Get -/
theorem put_three (w : World) (g : Nat) (h : EsRow w g Bt.T3) : Calls Try.prog 12 #[.agg (SmA 3 Bt.Z (-1) (.slice (some ⟨g, 0, none⟩) 3 3))] w (PutOk (Bt.ofS 3 Bt.Z (-1) Bt.T3) 224 w) :=
  put_ok 3 (-1) Bt.Z _ 3 3 Bt.T3 Bt.t3_len w ⟨Bt.z_len, Bt.z_byt, h.es Bt.t3s_ok (by rw [Bt.t3_len]; omega)⟩ Bt.t3_ck
theorem get_three (w : World) (p : Option Addr) (c : Nat) (h : Bs w p c (Bt.ofS 3 Bt.Z (-1) Bt.T3)) : Calls Try.prog 20 #[.slice p 224 c] w (GetOk 3 Bt.Z (-1) 3 Bt.T3 w) := by
  have hb := Bt.back Bt.t3_in.1 Bt.t3_in.2 Bt.z_len Bt.t3s_ok (by rw [Bt.t3_len]; omega)
  obtain ⟨b1, b2, b3, b4, b5, b6⟩ := hb
  have hg := get_any _ p 224 c (by rw [Bt.ofS_len _ _ Bt.z_len Bt.t3s_ok, Bt.t3_len]) (by omega) w h
  rw [b1, b2, b3, b5, b6, Bt.t3_ck, b4, Bt.t3_len] at hg
  refine hg.mono ?_
  rintro e w' (⟨_, h1⟩ | ⟨h0, _⟩)
  · exact h1
  · exact absurd rfl h0
end Go.Proofs.Ytkgefogkdmbciaa

/-
  The reference's tree: contract: put.
-/
import Derived.Test.YtfeemeddhhgigaaTrR
namespace Go.Proofs.Ytfeemeddhhgigaa
open Go.RowKit

def ZMp : List Value := .int .i64 0 :: cl Pg.zr
theorem Try.zeroMp : (Try.prog.info? 85).map (fun i => (i.zero, i.size)) = some (some (.agg ZMp.toArray), 34) := by kernel_rfl
theorem Try.placesMp : (match Try.prog.underlying 85 with
    | some (.struct fields) => fields.toList.mapM (fun f => (Try.prog.info? f.type).map fun i => (f.offset, i.size))
    | _ => none) = some [(0, 1), (1, 33)] := by kernel_rfl
theorem zmp_len : ZMp.length = 34 := by unfold ZMp; rw [List.length_cons, cl_len Pg.ok_zr]
theorem build_mp (k : Int) (r : Pg.Rf) (h : Pg.Ok r) : Try.prog.built 85 [(0, .int .i64 k), (1, .agg (cl r).toArray)] = some (.int .i64 k :: cl r).toArray := by
  have hl := cl_len h
  rw [built_of Try.zeroMp Try.placesMp, fill_step _ 0 _ 0 1 _ _ rfl rfl (by rw [List.size_toArray, zmp_len]; omega), fill_step _ 1 _ 1 33 _ _ rfl (by show (cl r).toArray.size = 33; rw [List.size_toArray, hl]) (by simp [ZMp, Value.cells, cl_len Pg.ok_zr])]
  have hz := cl_len Pg.ok_zr
  unfold Instr.fill
  simp [ZMp, Value.cells, hz]
theorem exec_row2 {P : Program} {ops : Array Oper} {rest : List Oper} {a : Act} {w : World} {Q : Exit → Act → World → Prop} {D : Option Tmp} {T : TypeId} {ps : String} {af : Array Edge} (t : TypeId) (i j : Nat) (x y : Operand) (v u : Value) (R : Array Value) (hx : a.eval x = v) (hy : a.eval y = u) (hr : P.built t [(i, v), (j, u)] = some R) (h : wpList P ops Q rest (a.put D (.agg R)) w) :
    wpList P ops Q ({ dst := D, op := .build t #[(i, x), (j, y)], type := T, pos := ps, after := af, guard := none } :: rest) a w :=
  wpList_plain rfl fun K hK => by
    have hrun := run_build (P := P) w t #[(i, v), (j, u)] R hr
    unfold Oper.wp execOp
    simp only [hx, hy, List.map_toArray, List.map_cons, List.map_nil, hrun, Sem.run_bind, Sem.run_pure, Result.andThen_ok]
    exact hK _ _ h
section
variable {K b : Nat} {y z : World} {vb vn v' : Value} {L : List Tr.Nn} {t t' : Tr.T}
/-- The blocks are others now. -/
theorem RT.setb (h : RT K y b vb vn L t) (hF : Fl K 85 34 y v' ((Tr.bl t').map Tr.mpA)) (hz : z.heap[b]? = some (.cells #[v', vn] 74 (0, 0))) (ho : Only b y z) (hr : Tr.NRep L t') (hk : TOk t') : RT K z b v' vn L t' :=
  ⟨hz, hF.only ho (hF.off_box h.box (by decide)), h.nd.only ho (h.nd.off_box h.box (by decide)), hr, hk, h.lo⟩
end
namespace Tr
open Pg (Rf zr)
/-- put's loop behind k places: what is laid, what is left. -/
def PI (B : List (Nat × Rf)) (K : Nat) (r : Rf) (l0 : Bool) (k : Nat) (ld : Bool) (M : List (Nat × Rf)) : Prop := pF K r l0 B = M ++ pF K r ld (B.drop k) ∧ M.length ≤ 2 * k
theorem pi_zero (B : List (Nat × Rf)) (K : Nat) (r : Rf) (l0 : Bool) : PI B K r l0 0 l0 [] := ⟨by rw [List.drop_zero, List.nil_append], by simp⟩
theorem drop_cons {B : List (Nat × Rf)} {k : Nat} (hk : k < B.length) : B.drop k = B.getD k (0, zr) :: B.drop (k + 1) := by
  rw [List.getD_eq_getElem?_getD, List.getElem?_eq_getElem hk]
  exact List.drop_eq_getElem_cons hk
theorem pi_new {B : List (Nat × Rf)} {K : Nat} {r : Rf} {l0 ld : Bool} {k : Nat} {M : List (Nat × Rf)} (h : PI B K r l0 k ld M) (hk : k < B.length) (h1 : ld = false) (h2 : K ≤ (B.getD k (0, zr)).1) (h3 : (B.getD k (0, zr)).1 ≠ K) : PI B K r l0 (k + 1) true (M ++ [(K, r)] ++ [B.getD k (0, zr)]) := by
  refine ⟨?_, by have := h.2; simp; omega⟩
  rw [h.1, drop_cons hk]
  generalize B.getD k (0, zr) = e at *
  obtain ⟨x, y⟩ := e
  have h2' : K ≤ x := h2
  have h3' : x ≠ K := h3
  rw [pF, if_pos ⟨h1, h2'⟩, if_neg h3']
  simp
theorem pi_same {B : List (Nat × Rf)} {K : Nat} {r : Rf} {l0 ld : Bool} {k : Nat} {M : List (Nat × Rf)} (h : PI B K r l0 k ld M) (hk : k < B.length) (h1 : ld = false) (h3 : (B.getD k (0, zr)).1 = K) : PI B K r l0 (k + 1) true (M ++ [(K, r)]) := by
  refine ⟨?_, by have := h.2; simp; omega⟩
  rw [h.1, drop_cons hk]
  generalize B.getD k (0, zr) = e at *
  obtain ⟨x, y⟩ := e
  have h3' : x = K := h3
  rw [pF, if_pos ⟨h1, by omega⟩, if_pos h3']
  simp
theorem pi_old {B : List (Nat × Rf)} {K : Nat} {r : Rf} {l0 ld : Bool} {k : Nat} {M : List (Nat × Rf)} (h : PI B K r l0 k ld M) (hk : k < B.length) (h1 : ¬ (ld = false ∧ K ≤ (B.getD k (0, zr)).1)) (h3 : (B.getD k (0, zr)).1 ≠ K) : PI B K r l0 (k + 1) ld (M ++ [B.getD k (0, zr)]) := by
  refine ⟨?_, by have := h.2; simp; omega⟩
  rw [h.1, drop_cons hk]
  generalize B.getD k (0, zr) = e at *
  obtain ⟨x, y⟩ := e
  have h1' : ¬ (ld = false ∧ K ≤ x) := h1
  have h3' : x ≠ K := h3
  rw [pF, if_neg h1', if_neg h3']
  simp
theorem pi_skip {B : List (Nat × Rf)} {K : Nat} {r : Rf} {l0 ld : Bool} {k : Nat} {M : List (Nat × Rf)} (h : PI B K r l0 k ld M) (hk : k < B.length) (h1 : ld = true) (h3 : (B.getD k (0, zr)).1 = K) : PI B K r l0 (k + 1) ld M := by
  refine ⟨?_, by have := h.2; omega⟩
  rw [h.1, drop_cons hk]
  generalize B.getD k (0, zr) = e at *
  obtain ⟨x, y⟩ := e
  have h3' : x = K := h3
  rw [pF, if_neg (fun q => by rw [h1] at q; cases q.1), if_pos h3', List.nil_append]
theorem pi_end {B : List (Nat × Rf)} {K : Nat} {r : Rf} {l0 ld : Bool} {M : List (Nat × Rf)} (h : PI B K r l0 B.length ld M) : pF K r l0 B = if ld then M else M ++ [(K, r)] := by
  rw [h.1, List.drop_length, pF]
  cases ld <;> simp
/-- A block's ref, or, with an At below 1, none. -/
def pR (r : Rf) : Rf := if 0 < r.1 then r else zr
theorem put_bl (t : T) (K : Nat) (r : Rf) (hK : K < 64) (N : Nat → Nd) : bl ⟨up t.b K (pR r), N⟩ = pF K r (decide (r.1 < 1)) (bl t) := by
  unfold bl pR
  by_cases h : 0 < r.1
  · rw [if_pos h, decide_eq_false (by omega), pF_set t.b K r h 64 0 (by omega) (by omega)]
  · rw [if_neg h, decide_eq_true (by omega), pF_del]
end Tr
def PuSay (K b : Nat) (vn : Value) (L : List Tr.Nn) (t : Tr.T) (w : World) (e : Ending) (w' : World) : Prop :=
  ∃ vb, e = .returned (.tuple #[]) ∧ Hid (RT K w' b vb vn L t) ∧ Hid (Only b w w')
set_option maxHeartbeats 4000000 in
set_option maxRecDepth 100000 in
theorem rput_any {K b : Nat} {vb vn : Value} {L : List Tr.Nn} {t : Tr.T} (k : Nat) (r : Pg.Rf) (hk : k < 64) (hr : Pg.Ok r) (w : World) (h : RT K w b vb vn L t) :
    Calls Try.prog 58 #[.pointer (some ⟨b, 0, none⟩), .int .i64 (k : Int), .agg (cl r).toArray] w (PuSay K b vn L ⟨Tr.up t.b k (Tr.pR r), t.n⟩ w) := by
  have HKW : Hid (K ≤ w.heap.size) := Nat.le_trans h.lo (Nat.le_of_lt (lt_of_block h.box))
  obtain ⟨p, c, rfl⟩ := h.lenb
  have hle := Tr.bl_le t
  have HT : Hid (∀ y, Below w.heap.size w y → RT K y b (.slice p (Tr.bl t).length c) vn L t) := fun y hy => h.old hy
  have HC : Hid (∀ y, Below w.heap.size w y → y.cell? ⟨b, 0, none⟩ = some (.slice p (Tr.bl t).length c)) := fun y hy => (h.old hy).c0
  have HM : Hid (∀ y i, Below w.heap.size w y → i < (Tr.bl t).length → ∃ q, p = some ⟨q, 0, none⟩ ∧ y.rangeAt q (i * 34) (Tr.mpA ((Tr.bl t).getD i (0, Pg.zr))).toList) := fun y i hy hi => by
    obtain ⟨q, c', e, hrr⟩ := (h.old hy).mp i hi
    injection e with e _ _
    exact ⟨q, e, hrr⟩
  have HOK : Hid (∀ i, i < (Tr.bl t).length → Pg.Ok ((Tr.bl t).getD i (0, Pg.zr)).2) := fun i hi => by
    rw [List.getD_eq_getElem?_getD, List.getElem?_eq_getElem hi]
    have hm := Tr.blr_ge (f := t.b) (n := 64) (lo := 0) (x := (Tr.bl t)[i]) (List.getElem_mem hi)
    show Pg.Ok ((Tr.bl t)[i]).2
    rw [hm.2.2.1]
    exact h.ok.1 _
  have HTK : Hid (TOk ⟨Tr.up t.b k (Tr.pR r), t.n⟩) := ⟨fun i => by
    show Pg.Ok (Tr.up t.b k (Tr.pR r) i)
    by_cases e : i = k
    · rw [e, Tr.up_same]; unfold Tr.pR; split
      · exact hr
      · exact pg_zr
    · rw [Tr.up_other _ _ _ _ e]; exact h.ok.1 i, h.ok.2⟩
  have HNR : Hid (Tr.NRep L ⟨Tr.up t.b k (Tr.pR r), t.n⟩) := h.rep
  have HEND := Lib.hid (Tr.put_bl t k r hk t.n)
  have HBN := Lib.hid (build_mp (k : Int) r hr)
  have HRS : Hid ((cl r).toArray.size = 33) := by show _ = _; rw [List.size_toArray, cl_len hr]
  have HRF : Hid ((cl r).toArray.toList[0]? = some (.int .i64 r.1)) := rfl
  have HNS : Hid ((.int .i64 (k : Int) :: cl r : List Value).toArray.size = 34) := by show _ = _; rw [List.size_toArray, List.length_cons, cl_len hr]
  have HN1 : Hid ((.int .i64 (k : Int) :: cl r : List Value).toArray.all (·.oneCell') = true) := mpa_one (k, r)
  have HNM : Hid (Tr.mpA (k, r) = (.int .i64 (k : Int) :: cl r : List Value).toArray) := rfl
  obtain ⟨A, hA⟩ : ∃ A, Hid ((.int .i64 (k : Int) :: cl r : List Value).toArray = A) := ⟨_, rfl⟩
  obtain ⟨R, hR⟩ : ∃ R, Hid ((cl r).toArray = R) := ⟨_, rfl⟩
  rw [hA.out] at HNS HN1 HNM HBN
  rw [hR.out] at HBN HRS HRF ⊢
  have hsR := row_size Try.sizeRef33 HRS
  have PZ := Lib.hid (Tr.pi_zero (Tr.bl t) k r (decide (r.1 < 1)))
  have PNEW := Lib.hid (fun ld i M => Tr.pi_new (B := Tr.bl t) (K := k) (r := r) (l0 := decide (r.1 < 1)) (ld := ld) (k := i) (M := M))
  have PSAME := Lib.hid (fun ld i M => Tr.pi_same (B := Tr.bl t) (K := k) (r := r) (l0 := decide (r.1 < 1)) (ld := ld) (k := i) (M := M))
  have POLD := Lib.hid (fun ld i M => Tr.pi_old (B := Tr.bl t) (K := k) (r := r) (l0 := decide (r.1 < 1)) (ld := ld) (k := i) (M := M))
  have PSKIP := Lib.hid (fun ld i M => Tr.pi_skip (B := Tr.bl t) (K := k) (r := r) (l0 := decide (r.1 < 1)) (ld := ld) (k := i) (M := M))
  have PEND := Lib.hid (fun ld M => Tr.pi_end (B := Tr.bl t) (K := k) (r := r) (l0 := decide (r.1 < 1)) (ld := ld) (M := M))
  have e0 : (w.alloc (.cells R 33)).cell? ⟨w.heap.size, 0, none⟩ = some (.int .i64 r.1) := by rw [cell_of_row _ _ _ _ _ _ (heap_alloc_new w _)]; simpa using HRF.out
  obtain ⟨w0, hw0⟩ : ∃ y, y = w.alloc (.cells R 33) := ⟨_, rfl⟩
  have R0 : Hid (w0.heap[w.heap.size]? = some (.cells R 33 (0, 0))) := by show _ = _; rw [hw0]; exact heap_alloc_new w _
  have B0 : Hid (Below w.heap.size w w0) := by rw [hw0]; exact (Below.refl _ w).alloc (Nat.le_refl _) _
  have Z0 : Hid (w0.heap.size = w.heap.size + 1) := by show _ = _; rw [hw0]; simp
  have HRX : Hid (∀ y, Below w0.heap.size w0 y → y.heap[w.heap.size]? = some (.cells R 33 (0, 0))) := fun y hy => (hy.block _ (lt_of_block R0.out)).trans R0.out
  obtain ⟨n, hn⟩ : ∃ n, (Tr.bl t).length = n := ⟨_, rfl⟩
  obtain ⟨B, hBB⟩ : ∃ B, Tr.bl t = B := ⟨_, rfl⟩
  rw [hBB] at HT HC HM HOK HEND PZ PNEW PSAME POLD PSKIP PEND hle hn
  rw [hn] at HT HC HM HOK hle
  have HBL := Lib.hid hn
  have c0 := HC.out w (Below.refl _ _)
  have cw := (HC.out (w.alloc (.cells R 33)) ((Below.refl _ w).alloc (Nat.le_refl _) _))
  clear hBB hA hR h hn
  go_enter Try.func58, Try.ntmps58
  go_wp2
  rw [← hw0]
  clear hw0 e0 cw
  go_loopw [6, 7, 8] (fun v6 v7 v8 wr => ∃ (i : Nat) (ld : Bool) (M : List (Nat × Pg.Rf)), i ≤ n ∧ v8 = .int .i64 i ∧ v7 = .bool ld ∧ Hid (Tr.PI B k r (decide (r.1 < 1)) i ld M) ∧ Hid (Fl w0.heap.size 85 34 wr v6 (M.map Tr.mpA)) ∧ Hid (Below w0.heap.size w0 wr)) (fun _ _ v8 _ => n - (intOf v8).toNat)
  case atStart => exact ⟨0, _, [], Nat.zero_le _, rfl, rfl, PZ, fl_nil _ _ _ _, Below.refl _ _⟩
  case round =>
    obtain ⟨i, ld, M, hi, rfl, rfl, HPI, HF, HB⟩ := hrel
    have BW := Lib.hid (B0.out.trans (HB.out.mono B0.out.size))
    have d0 := HC.out _ BW.out
    have HML : Hid (M.length ≤ 2 * i) := HPI.out.2
    obtain ⟨N, hN⟩ : ∃ N, (M.map Tr.mpA).length = N := ⟨_, rfl⟩
    have HN := Lib.hid hN
    have hNl : N ≤ 100000 := by have := HML.out; rw [List.length_map] at hN; omega
    have hNl1 : N + 1 ≤ 100000 := by have := HML.out; rw [List.length_map] at hN; omega
    have HSZ := Lib.hid HB.out.size
    clear hN
    by_cases hlt : i < n
    · obtain ⟨q, hp, hrr⟩ := HM.out _ i BW.out hlt
      subst hp
      have hib : i < B.length := by rw [HBL.out]; exact hlt
      have HXS := Lib.hid (mpa_size (HOK.out i hlt))
      have HX1 := Lib.hid (mpa_one (B.getD i (0, Pg.zr)))
      have d1 : wr.cell? ⟨q, i * 34, none⟩ = some (.int .i64 (((B.getD i (0, Pg.zr)).1 : Nat) : Int)) := hrr 0 _ rfl
      have HR := Lib.hid hrr
      have hi0 : 0 ≤ (i : Int) := by omega
      have hi1 : (i : Int) < (n : Int) := by omega
      have QN := Lib.hid (PNEW.out ld i M HPI.out hib)
      have QS := Lib.hid (PSAME.out ld i M HPI.out hib)
      have QO := Lib.hid (POLD.out ld i M HPI.out hib)
      have QK := Lib.hid (PSKIP.out ld i M HPI.out hib)
      obtain ⟨X, hX⟩ : ∃ X, Tr.mpA (B.getD i (0, Pg.zr)) = X := ⟨_, rfl⟩
      have HX := Lib.hid hX
      rw [hX] at HXS HX1 HR
      obtain ⟨xk, hxk⟩ : ∃ xk, (B.getD i (0, Pg.zr)).1 = xk := ⟨_, rfl⟩
      have HXK := Lib.hid hxk
      rw [hxk] at d1 QN QS QO QK
      have hsX := row_size Try.sizeMp HXS
      clear hX hxk hrr
      have E1 : Hid ((M ++ [(k, r)]).map Tr.mpA = M.map Tr.mpA ++ [A]) := by show _ = _; rw [List.map_append, ← HNM.out]; rfl
      have E2 : Hid ((M ++ [(k, r)] ++ [B.getD i (0, Pg.zr)]).map Tr.mpA = M.map Tr.mpA ++ [A] ++ [X]) := by show _ = _; rw [List.map_append, E1.out, ← HX.out]; rfl
      have E3 : Hid ((M ++ [B.getD i (0, Pg.zr)]).map Tr.mpA = M.map Tr.mpA ++ [X]) := by show _ = _; rw [List.map_append, ← HX.out]; rfl
      cases ld with
      | false =>
        by_cases hge : k ≤ xk
        · by_cases he : xk = k
          · have hg' : (k : Int) ≤ (xk : Int) := by omega
            have he' : (xk : Int) = (k : Int) := by omega
            have P := QS.out rfl he
            clear QN QS QO QK
            go_wp2_with (first
              | ((with_reducible refine row_load _ _ _ _ _ _ _ ?_ (HRX.out _ HB.out) Try.underlying33 ?_ hsR ?_); (exact rfl); (exact rfl))
              | ((with_reducible refine exec_row2 _ _ _ _ _ _ _ _ ?_ ?_ HBN.out ?_); (exact rfl); (exact rfl))
              | ((with_reducible refine bs1_g _ _ _ A 34 48 Try.underlying72 Try.infoMp (mpa_size (x := (0, Pg.zr)) pg_zr) HNS.out ?_ ?_ _ ?_ ?_); (decide); (decide); (exact rfl))
              | (at_builtin; (with_reducible refine app_fl _ _ _ A 34 48 Try.underlying72 Try.infoMp (mpa_size (x := (0, Pg.zr)) pg_zr) HNS.out ?_ ?_ HN1.out _ _ w0.heap.size _ (M.map Tr.mpA) N ?_ ?_ HF.out HN.out ?_ HSZ.out ?_); (decide); (decide); (exact rfl); (exact rfl); (exact hNl); intro q9 d9 y9 HF9 HT9 HG9; have B9 := Lib.hid ((HB.out.alloc HB.out.size _).grown HG9.out (by simp; have := HB.out.size; omega) (fun g hg => (HT9.out g hg).1)); have BW9 := Lib.hid (B0.out.trans (B9.out.mono B0.out.size)); have HSZ9 := Lib.hid B9.out.size); have c9 := HC.out _ BW9.out; have HR9 : Hid (y9.rangeAt q (i * 34) X.toList) := (by obtain ⟨q', e', hr'⟩ := HM.out _ i BW9.out hlt; cases e'; rw [← HX.out]; exact hr'); have x9 : y9.cell? ⟨q, i * 34, none⟩ = some (.int .i64 ((xk : Nat) : Int)) := (by rw [← HXK.out]; obtain ⟨q', e', hr'⟩ := HM.out _ i BW9.out hlt; cases e'; exact hr' 0 _ rfl); have HM9 : Hid ((M.map Tr.mpA ++ [A]).length = N + 1) := (by show _ = _; rw [List.length_append, HN.out]; rfl))
            exact ⟨⟨i + 1, _, _, by omega, by go_num, rfl, Lib.hid (P), by rw [E1.out]; exact HF9, B9⟩, by simp [intOf]; omega⟩
          · have hg' : (k : Int) ≤ (xk : Int) := by omega
            have he' : ¬ (xk : Int) = (k : Int) := by omega
            have P := QN.out rfl hge he
            clear QN QS QO QK
            go_wp2_with (first
              | ((with_reducible refine row_load _ _ _ _ _ _ _ ?_ (HRX.out _ HB.out) Try.underlying33 ?_ hsR ?_); (exact rfl); (exact rfl))
              | ((with_reducible refine exec_row2 _ _ _ _ _ _ _ _ ?_ ?_ HBN.out ?_); (exact rfl); (exact rfl))
              | ((with_reducible refine rng_load _ _ _ _ _ _ ?_ HR9.out Try.underlying85 ?_ hsX ?_); (exact rfl); (exact rfl))
              | ((with_reducible refine bs1_g _ _ _ A 34 48 Try.underlying72 Try.infoMp (mpa_size (x := (0, Pg.zr)) pg_zr) HNS.out ?_ ?_ _ ?_ ?_); (decide); (decide); (exact rfl))
              | ((with_reducible refine bs1_g _ _ _ X 34 48 Try.underlying72 Try.infoMp (mpa_size (x := (0, Pg.zr)) pg_zr) HXS.out ?_ ?_ _ ?_ ?_); (decide); (decide); (exact rfl))
              | (at_builtin; (with_reducible refine app_fl _ _ _ A 34 48 Try.underlying72 Try.infoMp (mpa_size (x := (0, Pg.zr)) pg_zr) HNS.out ?_ ?_ HN1.out _ _ w0.heap.size _ (M.map Tr.mpA) N ?_ ?_ HF.out HN.out ?_ HSZ.out ?_); (decide); (decide); (exact rfl); (exact rfl); (exact hNl); intro q9 d9 y9 HF9 HT9 HG9; have B9 := Lib.hid ((HB.out.alloc HB.out.size _).grown HG9.out (by simp; have := HB.out.size; omega) (fun g hg => (HT9.out g hg).1)); have BW9 := Lib.hid (B0.out.trans (B9.out.mono B0.out.size)); have HSZ9 := Lib.hid B9.out.size); have c9 := HC.out _ BW9.out; have HR9 : Hid (y9.rangeAt q (i * 34) X.toList) := (by obtain ⟨q', e', hr'⟩ := HM.out _ i BW9.out hlt; cases e'; rw [← HX.out]; exact hr'); have x9 : y9.cell? ⟨q, i * 34, none⟩ = some (.int .i64 ((xk : Nat) : Int)) := (by rw [← HXK.out]; obtain ⟨q', e', hr'⟩ := HM.out _ i BW9.out hlt; cases e'; exact hr' 0 _ rfl); have HM9 : Hid ((M.map Tr.mpA ++ [A]).length = N + 1) := (by show _ = _; rw [List.length_append, HN.out]; rfl)
              | (at_builtin; (with_reducible refine app_fl _ _ _ X 34 48 Try.underlying72 Try.infoMp (mpa_size (x := (0, Pg.zr)) pg_zr) HXS.out ?_ ?_ HX1.out _ _ w0.heap.size _ (M.map Tr.mpA ++ [A]) (N + 1) ?_ ?_ HF9.out HM9.out ?_ HSZ9.out ?_); (decide); (decide); (exact rfl); (exact rfl); (exact hNl1); intro q8 d8 y8 HF8 HT8 HG8; have B8 := Lib.hid ((B9.out.alloc B9.out.size _).grown HG8.out (by simp; have := B9.out.size; omega) (fun g hg => (HT8.out g hg).1)); have BW8 := Lib.hid (B0.out.trans (B8.out.mono B0.out.size)); have HSZ8 := Lib.hid B8.out.size))
            exact ⟨⟨i + 1, _, _, by omega, by go_num, rfl, Lib.hid (P), by rw [E2.out]; exact HF8, B8⟩, by simp [intOf]; omega⟩
        · have hg' : ¬ (k : Int) ≤ (xk : Int) := by omega
          have he' : ¬ (xk : Int) = (k : Int) := by omega
          have P := QO.out (fun q => hge q.2) (by omega)
          clear QN QS QO QK
          go_wp2_with (first
            | ((with_reducible refine rng_load _ _ _ _ _ _ ?_ HR.out Try.underlying85 ?_ hsX ?_); (exact rfl); (exact rfl))
            | ((with_reducible refine bs1_g _ _ _ X 34 48 Try.underlying72 Try.infoMp (mpa_size (x := (0, Pg.zr)) pg_zr) HXS.out ?_ ?_ _ ?_ ?_); (decide); (decide); (exact rfl))
            | (at_builtin; (with_reducible refine app_fl _ _ _ X 34 48 Try.underlying72 Try.infoMp (mpa_size (x := (0, Pg.zr)) pg_zr) HXS.out ?_ ?_ HX1.out _ _ w0.heap.size _ (M.map Tr.mpA) N ?_ ?_ HF.out HN.out ?_ HSZ.out ?_); (decide); (decide); (exact rfl); (exact rfl); (exact hNl); intro q9 d9 y9 HF9 HT9 HG9; have B9 := Lib.hid ((HB.out.alloc HB.out.size _).grown HG9.out (by simp; have := HB.out.size; omega) (fun g hg => (HT9.out g hg).1)); have BW9 := Lib.hid (B0.out.trans (B9.out.mono B0.out.size)); have HSZ9 := Lib.hid B9.out.size))
          exact ⟨⟨i + 1, _, _, by omega, by go_num, rfl, Lib.hid (P), by rw [E3.out]; exact HF9, B9⟩, by simp [intOf]; omega⟩
      | true =>
        by_cases he : xk = k
        · have he' : (xk : Int) = (k : Int) := by omega
          have P := QK.out rfl he
          clear QN QS QO QK
          go_wp2
          exact ⟨⟨i + 1, _, _, by omega, by go_num, rfl, Lib.hid P, HF, HB⟩, by simp [intOf]; omega⟩
        · have he' : ¬ (xk : Int) = (k : Int) := by omega
          have P := QO.out (fun q => by cases q.1) he
          clear QN QS QO QK
          go_wp2_with (first
            | ((with_reducible refine rng_load _ _ _ _ _ _ ?_ HR.out Try.underlying85 ?_ hsX ?_); (exact rfl); (exact rfl))
            | ((with_reducible refine bs1_g _ _ _ X 34 48 Try.underlying72 Try.infoMp (mpa_size (x := (0, Pg.zr)) pg_zr) HXS.out ?_ ?_ _ ?_ ?_); (decide); (decide); (exact rfl))
            | (at_builtin; (with_reducible refine app_fl _ _ _ X 34 48 Try.underlying72 Try.infoMp (mpa_size (x := (0, Pg.zr)) pg_zr) HXS.out ?_ ?_ HX1.out _ _ w0.heap.size _ (M.map Tr.mpA) N ?_ ?_ HF.out HN.out ?_ HSZ.out ?_); (decide); (decide); (exact rfl); (exact rfl); (exact hNl); intro q9 d9 y9 HF9 HT9 HG9; have B9 := Lib.hid ((HB.out.alloc HB.out.size _).grown HG9.out (by simp; have := HB.out.size; omega) (fun g hg => (HT9.out g hg).1)); have BW9 := Lib.hid (B0.out.trans (B9.out.mono B0.out.size)); have HSZ9 := Lib.hid B9.out.size))
          exact ⟨⟨i + 1, _, _, by omega, by go_num, rfl, Lib.hid (P), by rw [E3.out]; exact HF9, B9⟩, by simp [intOf]; omega⟩
    · have E : i = n := by omega
      subst E
      clear hlt
      have PE := PEND.out ld M (by rw [HBL.out]; exact HPI.out)
      rw [← HEND.out] at PE
      have HPE := Lib.hid PE
      obtain ⟨p6, c6, h6⟩ := HF.out.len
      rw [List.length_map] at h6
      subst h6
      cases ld with
      | true =>
        have T9 := Lib.hid (HT.out _ BW.out)
        have c9 := T9.out.c0
        have f9 : wr.frozen? ⟨b, 0, none⟩ = false := frozen_of_row wr b 0 _ _ T9.out.box
        go_wp2
        go_end0
        have hs := heap_setCell_same wr b 0 _ _ (.slice p6 M.length c6) T9.out.box
        have hO : Only b wr (wr.setCell ⟨b, 0, none⟩ (.slice p6 M.length c6)) := (Chg.setCell wr ⟨b, 0, none⟩ _).only
        have hF : Fl K 85 34 wr (.slice p6 M.length c6) ((Tr.bl ⟨Tr.up t.b k (Tr.pR r), t.n⟩).map Tr.mpA) := by rw [HPE.out]; exact HF.out.mono (Nat.le_trans HKW.out B0.out.size)
        exact ⟨_, rfl, Lib.hid (T9.out.setb hF hs hO HNR.out HTK.out), Lib.hid ((only_of_below BW.out).trans hO)⟩
      | false =>
        have E1 : Hid ((M ++ [(k, r)]).map Tr.mpA = M.map Tr.mpA ++ [A]) := by show _ = _; rw [List.map_append, ← HNM.out]; rfl
        go_wp2_with (first
          | ((with_reducible refine row_load _ _ _ _ _ _ _ ?_ (HRX.out _ HB.out) Try.underlying33 ?_ hsR ?_); (exact rfl); (exact rfl))
          | ((with_reducible refine exec_row2 _ _ _ _ _ _ _ _ ?_ ?_ HBN.out ?_); (exact rfl); (exact rfl))
          | ((with_reducible refine bs1_g _ _ _ A 34 48 Try.underlying72 Try.infoMp (mpa_size (x := (0, Pg.zr)) pg_zr) HNS.out ?_ ?_ _ ?_ ?_); (decide); (decide); (exact rfl))
          | (at_builtin; (with_reducible refine app_fl _ _ _ A 34 48 Try.underlying72 Try.infoMp (mpa_size (x := (0, Pg.zr)) pg_zr) HNS.out ?_ ?_ HN1.out _ _ w0.heap.size _ (M.map Tr.mpA) N ?_ ?_ HF.out HN.out ?_ HSZ.out ?_); (decide); (decide); (exact rfl); (exact rfl); (exact hNl); intro q9 d9 y9 HF9 HT9 HG9; have B9 := Lib.hid ((HB.out.alloc HB.out.size _).grown HG9.out (by simp; have := HB.out.size; omega) (fun g hg => (HT9.out g hg).1)); have BW9 := Lib.hid (B0.out.trans (B9.out.mono B0.out.size)); have HSZ9 := Lib.hid B9.out.size; have T9 := Lib.hid (HT.out _ BW9.out); have c9 := T9.out.c0; have f9 : y9.frozen? ⟨b, 0, none⟩ = false := frozen_of_row y9 b 0 _ _ T9.out.box))
        go_end0
        have hs := heap_setCell_same y9 b 0 _ _ (.slice q9 (N + 1) d9) T9.out.box
        have hO : Only b y9 (y9.setCell ⟨b, 0, none⟩ (.slice q9 (N + 1) d9)) := (Chg.setCell y9 ⟨b, 0, none⟩ _).only
        have hF : Fl K 85 34 y9 (.slice q9 (N + 1) d9) ((Tr.bl ⟨Tr.up t.b k (Tr.pR r), t.n⟩).map Tr.mpA) := by rw [HPE.out]; show Fl _ _ _ _ _ ((M ++ [(k, r)]).map Tr.mpA); rw [E1.out]; exact HF9.out.mono (Nat.le_trans HKW.out B0.out.size)
        exact ⟨_, rfl, Lib.hid (T9.out.setb hF hs hO HNR.out HTK.out), Lib.hid ((only_of_below BW9.out).trans hO)⟩
end Go.Proofs.Ytfeemeddhhgigaa

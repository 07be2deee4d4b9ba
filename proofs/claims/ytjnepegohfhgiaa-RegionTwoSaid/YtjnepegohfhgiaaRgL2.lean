/-
  Contracts: LentRecords, KeptRecords.
-/
import Derived.Test.YtjnepegohfhgiaaRgL
namespace Go.Proofs.Ytjnepegohfhgiaa
open Go.RowKit

section
variable {P : Program} {ops : Array Oper} {C : World → Prop} {Qa : Act → Prop} {rest : List Oper} {a : Act} {w : World} {Q : Exit → Act → World → Prop} {D : Option Tmp} {T : TypeId} {ps : String} {af : Array Edge} {gd : Option (Nat × Bool)}
theorem exec_b1 (t : TypeId) (x : Operand) (v : Value) (R : Array Value) (hx : a.eval x = v) (hr : P.built t [(0, v)] = some R) :
    (execOp a.eval { dst := D, op := .build t #[(0, x)], type := T, pos := ps, after := af, guard := gd }).run P w = .ok (.value (.agg R)) w := by
  have hrun := run_build (P := P) w t #[(0, v)] R hr
  unfold execOp
  simp only [hx, List.map_toArray, List.map_cons, List.map_nil, hrun, Sem.run_bind, Sem.run_pure, Result.andThen_ok]
theorem row_b1 (t : TypeId) (x : Operand) (v : Value) (R : Array Value) (hx : a.eval x = v) (hr : P.built t [(0, v)] = some R) (h : wpList P ops Q rest (a.put D (.agg R)) w) :
    wpList P ops Q ({ dst := D, op := .build t #[(0, x)], type := T, pos := ps, after := af, guard := none } :: rest) a w :=
  wpList_plain rfl fun K hK => by
    unfold Oper.wp
    rw [exec_b1 t x v R hx hr]
    exact hK _ _ h
theorem quiet_b1 (t : TypeId) (x : Operand) (v : Value) (R : Array Value) (hw : Region.wanted { dst := D, op := .build t #[(0, x)], type := T, pos := ps, after := af, guard := gd } (yielded ops a.tmps) = true) (hx : a.eval x = v) (hr : P.built t [(0, v)] = some R) (h : wpQuiet P ops C Qa rest (a.put D (.agg R))) :
    wpQuiet P ops C Qa ({ dst := D, op := .build t #[(0, x)], type := T, pos := ps, after := af, guard := gd } :: rest) a :=
  BigFrame.wpQuiet_want hw fun K hK => ⟨.agg R, fun w hC => by
    unfold Oper.quietAt
    rw [exec_b1 t x v R hx hr]
    simp only [Oper.quietUpon, and_self], hK _ h⟩
end
namespace Rg
def km : R := { zero with gen := -77 }
theorem km_ok : Ok km := { ok_zero with gen := ⟨by decide, by decide⟩ }
def k5 (L : List R) : List R := L ++ List.replicate 5 km
theorem k5_len (L : List R) : (k5 L).length = L.length + 5 := by unfold k5; simp
theorem k5_ok {L : List R} (h : ∀ x ∈ L, Rg.Ok x) : ∀ x ∈ k5 L, Rg.Ok x := ok_app h (ok_rep km_ok 5)
theorem k5_lo (L : List R) (i : Nat) (h : i < L.length) : (k5 L).getD i zero = L.getD i zero := by
  unfold k5
  rw [List.getD_eq_getElem?_getD, List.getD_eq_getElem?_getD, List.getElem?_append_left h]
theorem k5_hi (L : List R) (i : Nat) (h : L.length ≤ i) (h2 : i < L.length + 5) : (k5 L).getD i zero = km := by
  unfold k5
  rw [List.getD_eq_getElem?_getD, List.getElem?_append_right h, List.getElem?_replicate, if_pos (by omega)]
  rfl
/-- The first k, and noughts. -/
def fl (F : List R) (n k : Nat) : List R := F.take k ++ List.replicate (n - k) zero
theorem fl_zero (F : List R) (n : Nat) : fl F n 0 = List.replicate n zero := by unfold fl; rfl
theorem fl_all {F : List R} {n : Nat} (h : F.length = n) : fl F n n = F := by unfold fl; rw [Nat.sub_self, ← h, List.take_length]; simp
theorem fl_len {F : List R} {n k : Nat} (h : F.length = n) (hk : k ≤ n) : (fl F n k).length = n := by unfold fl; simp; omega
theorem fl_ok {F : List R} (h : ∀ x ∈ F, Rg.Ok x) (n k : Nat) : ∀ x ∈ fl F n k, Rg.Ok x := ok_app (fun x hx => h x (List.mem_of_mem_take hx)) (ok_rep ok_zero _)
theorem fl_step {F : List R} {n k : Nat} (h : F.length = n) (hk : k < n) : (fl F n k).set k (F.getD k zero) = fl F n (k + 1) := by
  unfold fl
  obtain ⟨m, rfl⟩ : ∃ m, n = k + 1 + m := ⟨n - (k + 1), by omega⟩
  rw [show k + 1 + m - k = m + 1 by omega, set_next (by rw [List.length_take]; omega), show k + 1 + m - (k + 1) = m by omega, List.take_add_one, List.getD_eq_getElem?_getD, List.getElem?_eq_getElem (by omega)]
  rfl
attribute [irreducible] k5 fl
end Rg
theorem built_km : Try.prog.built 29 [(0, .int .i64 (-77))] = some (RAr Rg.km) := by kernel_rfl
theorem rs_take {w : World} {p : Option Addr} {c : Nat} {L : List Rg.R} (h : Rs w p c L) (k : Nat) : Rs w p c (L.take k) :=
  ⟨fun x hx => h.ok x (List.mem_of_mem_take hx), fun h0 => by
    rw [List.length_take] at h0
    obtain ⟨ab, ao, h1, h2⟩ := h.at_ (by omega)
    refine ⟨ab, ao, h1, fun i hi => ?_⟩
    rw [List.length_take] at hi
    have e : (L.take k).getD i Rg.zero = L.getD i Rg.zero := by
      rw [List.getD_eq_getElem?_getD, List.getD_eq_getElem?_getD, List.getElem?_take, if_pos (by omega)]
    rw [e]
    exact h2 i (by omega), ⟨by rw [List.length_take]; have := h.cap; omega, h.cap.2⟩, h.nil⟩
def LentR (n : Nat) (L : List Rg.R) (w : World) (e : Ending) (w' : World) : Prop :=
  ∃ g, e = .returned (.slice (some ⟨g, 0, none⟩) (n + 5) (n + 5)) ∧ Hid (RsRow w' g (Rg.k5 L)) ∧ Hid (w.heap.size ≤ g) ∧ Hid (Below w.heap.size w w')
set_option maxHeartbeats 1000000 in
set_option maxRecDepth 100000 in
theorem lentr_any (L : List Rg.R) (p : Option Addr) (m c : Nat) (hm : L.length = m) (hL : m ≤ 300) (w : World) (hp : Rs w p c L) :
    Calls Try.prog 20 #[.slice p m c] w (LentR m L w) := by
  have Hp := Lib.hid hp; clear hp
  have HM := Lib.hid hm
  obtain ⟨n, hn⟩ : ∃ n, m + 5 = n := ⟨_, rfl⟩
  have hcast : Hid (((m : Int) + 5) = (n : Int)) := by show _ = _; omega
  have HFL : Hid ((Rg.k5 L).length = n) := by show _ = _; rw [Rg.k5_len, hm, hn]
  have HFO : Hid (∀ x ∈ Rg.k5 L, Rg.Ok x) := Rg.k5_ok Hp.out.ok
  have HLO : Hid (∀ i, i < m → (Rg.k5 L).getD i Rg.zero = L.getD i Rg.zero) := fun i hi => Rg.k5_lo L i (by omega)
  have HHI : Hid (∀ i, m ≤ i → i < n → (Rg.k5 L).getD i Rg.zero = Rg.km) := fun i h1 h2 => Rg.k5_hi L i (by omega) (by omega)
  have hn3 : n ≤ 305 := by omega
  show Calls _ _ _ _ (fun e w' => ∃ g, e = .returned (.slice (some ⟨g, 0, none⟩) (m + 5) (m + 5)) ∧ _)
  rw [hn]
  have HN := Lib.hid hn
  generalize Rg.k5 L = F at *
  clear hm hn
  go_enter Try.func20, Try.ntmps20
  go_upto_region 2 with ((with_reducible refine make_rc _ _ n ?_ ?_ ?_ ?_); (exact congrArg (Value.int .i64) hcast.out); (exact congrArg (Value.int .i64) hcast.out); omega; intro w1 R1 K1 hs1)
  have R1' : Hid (RsRow w1 w.heap.size (Rg.fl F n 0)) := by
    show RsRow _ _ _
    rw [Rg.fl_zero]
    exact R1.out
  clear R1 hs1 hcast
  go_wp2
  go_loopw [4] (fun v4 wr => ∃ k : Nat, k ≤ n ∧ v4 = .int .i64 k ∧ Hid (RsRow wr w.heap.size (Rg.fl F n k)) ∧ Hid (Below w.heap.size w wr)) (fun v4 _ => n - (intOf v4).toNat)
  case atStart => exact ⟨0, by omega, rfl, R1'.out, K1.out⟩
  case round =>
    clear R1' K1
    obtain ⟨k, hk, rfl, HG, HB⟩ := hrel
    by_cases hlt : k < n
    · have HL1 : Hid ((Rg.fl F n k).length = n) := Rg.fl_len HFL.out hk
      have HO1 : Hid (∀ x ∈ Rg.fl F n k, Rg.Ok x) := Rg.fl_ok HFO.out n k
      have HS1 : Hid ((Rg.fl F n k).set k (F.getD k Rg.zero) = Rg.fl F n (k + 1)) := Rg.fl_step HFL.out hlt
      have HO2 : Hid (∀ x ∈ (Rg.fl F n k).set k Rg.km, Rg.Ok x) := Rg.ok_set HO1.out k Rg.km_ok
      have HL2 : Hid (((Rg.fl F n k).set k Rg.km).length = n) := by show _ = _; rw [List.length_set]; exact HL1.out
      by_cases hin : k < m
      · obtain ⟨ab, ao, hpp, _⟩ := Hp.out.at_ (by rw [HM.out]; omega)
        subst hpp
        have HR : Hid (∀ z, Below w.heap.size w z → z.rangeAt ab (ao + k * 136) (RAr (F.getD k Rg.zero)).toList) := fun z hz => by
          rw [HLO.out k hin]
          exact (Hp.out.old hz).rng (by rw [HM.out]; exact hin)
        have HXO : Hid (Rg.Ok (F.getD k Rg.zero)) := by rw [HLO.out k hin]; exact Hp.out.getD k
        have HLT2 : Hid (k < ((Rg.fl F n k).set k Rg.km).length) := by show _ < _; rw [HL2.out]; exact hlt
        have HSS : Hid ((((Rg.fl F n k).set k Rg.km).set k (F.getD k Rg.zero)) = Rg.fl F n (k + 1)) := by show _ = _; rw [List.set_set]; exact HS1.out
        have HLT1 : Hid (k < (Rg.fl F n k).length) := by show _ < _; rw [HL1.out]; exact hlt
        have HXI := Lib.hid (rc_info HXO.out)
        clear HL1 HL2 HS1 HLO HHI
        generalize F.getD k Rg.zero = x at *
        generalize Rg.fl F n k = F0 at *
        go_upto_region 6 with (first
          | ((with_reducible refine row_b1 _ _ _ _ ?_ built_km ?_); (exact rfl))
          | ((with_reducible refine st_rc _ _ w.heap.size (k * 136) k rfl F0 Rg.km HO1.out Rg.km_ok HLT1.out ?_ ?_ HG.out ?_); (exact rfl); (exact rfl); intro w2 G2 ch2; have K2 : Hid (Below w.heap.size w w2) := ch2.out.below HB.out (Nat.le_refl _)))
        have R2 := Lib.hid (HR.out _ K2.out)
        go_wp2_with (first
          | ((with_reducible refine rng_load _ _ _ _ _ _ ?_ R2.out Try.underlying29 ?_ HXI.out ?_); (exact rfl); (exact rfl))
          | ((with_reducible refine st_rc _ _ w.heap.size (k * 136) k rfl (F0.set k Rg.km) x HO2.out HXO.out HLT2.out ?_ ?_ G2.out ?_); (exact rfl); (exact rfl); intro w3 G3 ch3; have K3 : Hid (Below w.heap.size w w3) := ch3.out.below K2.out (Nat.le_refl _)))
        refine ⟨⟨k + 1, by omega, by go_num, ?_, K3.out⟩, by simp [intOf]; omega⟩
        have h := G3.out
        rw [HSS.out] at h
        exact h
      · have HXE := HHI.out k (by omega) hlt
        rw [HXE] at HS1
        have HLT1 : Hid (k < (Rg.fl F n k).length) := by show _ < _; rw [HL1.out]; exact hlt
        clear HL1 HL2 HLO HHI HO2 HXE
        generalize Rg.fl F n k = F0 at *
        go_wp2_with (first
          | ((with_reducible refine row_b1 _ _ _ _ ?_ built_km ?_); (exact rfl))
          | ((with_reducible refine st_rc _ _ w.heap.size (k * 136) k rfl F0 Rg.km HO1.out Rg.km_ok HLT1.out ?_ ?_ HG.out ?_); (exact rfl); (exact rfl); intro w2 G2 ch2; have K2 : Hid (Below w.heap.size w w2) := ch2.out.below HB.out (Nat.le_refl _)))
        refine ⟨⟨k + 1, by omega, by go_num, ?_, K2.out⟩, by simp [intOf]; omega⟩
        have h := G2.out
        rw [HS1.out] at h
        exact h
    · obtain rfl : k = n := by omega
      have HG2 : Hid (RsRow wr w.heap.size F) := by
        have h := HG.out
        rw [Rg.fl_all HFL.out] at h
        exact h
      clear hlt HG
      go_wp2
      go_ret
      exact ⟨w.heap.size, rfl, HG2, Lib.hid (Nat.le_refl _), HB⟩
set_option maxHeartbeats 1000000 in
set_option maxRecDepth 100000 in
theorem keptr_any (L : List Rg.R) (g : Nat) (q : Option Addr) (m d : Nat) (hm : L.length = m) (hL : m ≤ 300) (w : World) (hp : RsRow w g (Rg.k5 L)) (hq : Rs w q d L) :
    Calls Try.prog 23 #[.slice (some ⟨g, 0, none⟩) (m + 5) (m + 5), .slice q m d] w (BlSay true w) := by
  have HP := Lib.hid hp; clear hp
  have HQ := Lib.hid hq; clear hq
  have HM := Lib.hid hm
  have H5 : Hid (∀ z, Below w.heap.size w z → Rs z (some ⟨g, 0, none⟩) (m + 5) (Rg.k5 L)) := fun z hz => (HP.out.old hz).es (Rg.k5_ok HQ.out.ok) (by rw [Rg.k5_len, HM.out]; omega)
  have H0 : Hid (Rs w (some ⟨g, 0, none⟩) (m + 5) L) := by
    have h := rs_take (H5.out w (Below.refl _ _)) m
    unfold Rg.k5 at h
    rw [List.take_left' HM.out] at h
    exact h
  have hcast : Hid (((m : Int) + 5) = ((m + 5 : Nat) : Int)) := by show _ = _; omega
  have HS : Hid (∀ z, Below w.heap.size w z → Calls Try.prog 58 #[.slice (some ⟨g, 0, none⟩) m (m + 5), .slice q m d] z (BlSay true z)) := fun z hz => by
    have h := samer_any L L (some ⟨g, 0, none⟩) q m m (m + 5) d HM.out HM.out (by omega) z (H0.out.old hz) (HQ.out.old hz)
    rw [decide_eq_true rfl] at h
    exact h
  have heq : Hid (∀ y, (Op.equalIn 10000 29 (.agg (RAr Rg.km)) (.agg (RAr Rg.km))).run Try.prog y = .ok true y) := fun y => by
    have h := rec_eqs Rg.km Rg.km Rg.km_ok Rg.km_ok y
    rw [decide_eq_true rfl] at h
    exact h
  clear hm
  go_enter Try.func23, Try.ntmps23
  go_wp2_with (go_at_call 58; refine (HS.out _ (Below.refl _ _)).mono ?_; rintro e w1 ⟨rfl, hb1⟩)
  have HB1 := Lib.hid hb1
  clear hb1
  go_loopw [5] (fun v5 wr => ∃ k : Nat, k ≤ 5 ∧ v5 = .int .i64 ((m : Int) + k) ∧ Hid (Below w.heap.size w wr)) (fun v5 _ => m + 5 - (intOf v5).toNat)
  case atStart => exact ⟨0, by omega, by simp, HB1.out⟩
  case round =>
    clear HB1
    obtain ⟨k, hk, rfl, HB⟩ := hrel
    by_cases hlt : k < 5
    · have HR : Hid (wr.rangeAt g ((m + k) * 136) (RAr Rg.km).toList) := by
        have h := (H5.out wr HB.out).rng (i := m + k) (by rw [Rg.k5_len, HM.out]; omega)
        rw [Rg.k5_hi L (m + k) (by rw [HM.out]; omega) (by rw [HM.out]; omega), Nat.zero_add] at h
        exact h
      have he := heq.out
      have hbk := Lib.hid built_km
      have HXI := Lib.hid (rc_info Rg.km_ok)
      generalize RAr Rg.km = X at *
      go_wp2_with (first
        | ((with_reducible refine row_b1 _ _ _ _ ?_ hbk.out ?_); (exact rfl))
        | ((with_reducible refine rng_load _ _ _ _ _ _ ?_ HR.out Try.underlying29 ?_ HXI.out ?_); (exact rfl); (exact rfl)))
      exact ⟨⟨k + 1, by omega, by congr 1, HB.out⟩, by simp [intOf]; omega⟩
    · have E : k = 5 := by omega
      subst E
      go_wp2
      go_ret
      exact ⟨rfl, HB.out⟩
end Go.Proofs.Ytjnepegohfhgiaa

/-
  Contracts: LentEntries, KeptEntries.
-/
import Derived.Test.YtkgefogkdmbciaaBaQ2
namespace Go.Proofs.Ytkgefogkdmbciaa
open Go.RowKit

section
variable {P : Program} {ops : Array Oper} {C : World → Prop} {Qa : Act → Prop} {rest : List Oper} {a : Act} {w : World} {Q : Exit → Act → World → Prop} {D : Option Tmp} {T : TypeId} {ps : String} {af : Array Edge} {gd : Option (Nat × Bool)}
theorem exec_b1 (t : TypeId) (x : Operand) (v : Value) (R : Array Value) (hx : a.eval x = v) (hr : P.built t [(0, v)] = some R) :
    (execOp a.eval { dst := D, op := .build t #[(0, x)], type := T, pos := ps, after := af, guard := gd }).run P w = .ok (.value (.agg R)) w := by
  have hrun := run_build (P := P) w t #[(0, v)] R hr
  unfold execOp
  simp only [hx, List.map_toArray, List.map_cons, List.map_nil, hrun, Sem.run_bind, Sem.run_pure, Result.andThen_ok]
theorem row_b1 (t : TypeId) (x : Operand) (v : Value) (R : Array Value) (hx : a.eval x = v) (hr : P.built t [(0, v)] = some R) (h : wpList P ops Q rest (a.put D (.agg R)) w) :
    wpList P ops Q ({ dst := D, op := .build t #[(0, x)], type := T, pos := ps, after := af, guard := none } :: rest) a w :=
  wpList_plain rfl fun K hK => by
    unfold Oper.wp
    rw [exec_b1 t x v R hx hr]
    exact hK _ _ h
theorem quiet_b1 (t : TypeId) (x : Operand) (v : Value) (R : Array Value) (hw : Region.wanted { dst := D, op := .build t #[(0, x)], type := T, pos := ps, after := af, guard := gd } (yielded ops a.tmps) = true) (hx : a.eval x = v) (hr : P.built t [(0, v)] = some R) (h : wpQuiet P ops C Qa rest (a.put D (.agg R))) :
    wpQuiet P ops C Qa ({ dst := D, op := .build t #[(0, x)], type := T, pos := ps, after := af, guard := gd } :: rest) a :=
  BigFrame.wpQuiet_want hw fun K hK => ⟨.agg R, fun w hC => by
    unfold Oper.quietAt
    rw [exec_b1 t x v R hx hr]
    simp only [Oper.quietUpon, and_self], hK _ h⟩
end
namespace Bt
def km : En := ⟨-77, 0, 0, Z⟩
theorem km_ok : km.ok := ⟨⟨by decide, by decide⟩, ⟨by decide, by decide⟩, ⟨by decide, by decide⟩, z_len, z_byt⟩
def k5 (L : List En) : List En := L ++ List.replicate 5 km
theorem k5_len (L : List En) : (k5 L).length = L.length + 5 := by unfold k5; simp
theorem k5_ok {L : List En} (h : ∀ x ∈ L, x.ok) : ∀ x ∈ k5 L, x.ok := ok_app h (ok_rep km_ok 5)
theorem k5_lo (L : List En) (i : Nat) (h : i < L.length) : (k5 L).getD i en0 = L.getD i en0 := by
  unfold k5
  rw [List.getD_eq_getElem?_getD, List.getD_eq_getElem?_getD, List.getElem?_append_left h]
theorem k5_hi (L : List En) (i : Nat) (h : L.length ≤ i) (h2 : i < L.length + 5) : (k5 L).getD i en0 = km := by
  unfold k5
  rw [List.getD_eq_getElem?_getD, List.getElem?_append_right h, List.getElem?_replicate, if_pos (by omega)]
  rfl
/-- The first k, and noughts. -/
def fl (F : List En) (n k : Nat) : List En := F.take k ++ List.replicate (n - k) en0
theorem fl_zero (F : List En) (n : Nat) : fl F n 0 = List.replicate n en0 := by unfold fl; rfl
theorem fl_all {F : List En} {n : Nat} (h : F.length = n) : fl F n n = F := by unfold fl; rw [Nat.sub_self, ← h, List.take_length]; simp
theorem fl_len {F : List En} {n k : Nat} (h : F.length = n) (hk : k ≤ n) : (fl F n k).length = n := by unfold fl; simp; omega
theorem fl_ok {F : List En} (h : ∀ x ∈ F, x.ok) (n k : Nat) : ∀ x ∈ fl F n k, x.ok := ok_app (fun x hx => h x (List.mem_of_mem_take hx)) (ok_rep en0_ok _)
theorem fl_step {F : List En} {n k : Nat} (h : F.length = n) (hk : k < n) : (fl F n k).set k (F.getD k en0) = fl F n (k + 1) := by
  unfold fl
  obtain ⟨m, rfl⟩ : ∃ m, n = k + 1 + m := ⟨n - (k + 1), by omega⟩
  rw [show k + 1 + m - k = m + 1 by omega, set_next (by rw [List.length_take]; omega), show k + 1 + m - (k + 1) = m by omega, List.take_add_one, List.getD_eq_getElem?_getD, List.getElem?_eq_getElem (by omega)]
  rfl
attribute [irreducible] k5 fl
end Bt
theorem built_km : Try.prog.built 50 [(0, .int .i64 (-77))] = some (EnA Bt.km) := by
  rw [build_k]
  unfold kE EnA Bt.cells Bt.km Bt.Z
  simp
theorem es_take {w : World} {p : Option Addr} {c : Nat} {L : List Bt.En} (h : Es w p c L) (k : Nat) : Es w p c (L.take k) :=
  ⟨fun x hx => h.ok x (List.mem_of_mem_take hx), fun h0 => by
    rw [List.length_take] at h0
    obtain ⟨ab, ao, h1, h2⟩ := h.at_ (by omega)
    refine ⟨ab, ao, h1, fun i hi => ?_⟩
    rw [List.length_take] at hi
    have e : (L.take k).getD i Bt.en0 = L.getD i Bt.en0 := by
      rw [List.getD_eq_getElem?_getD, List.getD_eq_getElem?_getD, List.getElem?_take, if_pos (by omega)]
    rw [e]
    exact h2 i (by omega), ⟨by rw [List.length_take]; have := h.cap; omega, h.cap.2⟩, h.nil⟩
def LentE (n : Nat) (L : List Bt.En) (w : World) (e : Ending) (w' : World) : Prop :=
  ∃ g, e = .returned (.slice (some ⟨g, 0, none⟩) (n + 5) (n + 5)) ∧ Hid (EsRow w' g (Bt.k5 L)) ∧ Hid (w.heap.size ≤ g) ∧ Hid (Below w.heap.size w w')
set_option maxHeartbeats 1000000 in
set_option maxRecDepth 100000 in
theorem lente_any (L : List Bt.En) (p : Option Addr) (m c : Nat) (hm : L.length = m) (hL : m ≤ 300) (w : World) (hp : Es w p c L) :
    Calls Try.prog 11 #[.slice p m c] w (LentE m L w) := by
  have Hp := Lib.hid hp; clear hp
  have HM := Lib.hid hm
  obtain ⟨n, hn⟩ : ∃ n, m + 5 = n := ⟨_, rfl⟩
  have hcast : Hid (((m : Int) + 5) = (n : Int)) := by show _ = _; omega
  have HFL : Hid ((Bt.k5 L).length = n) := by show _ = _; rw [Bt.k5_len, hm, hn]
  have HFO : Hid (∀ x ∈ Bt.k5 L, x.ok) := Bt.k5_ok Hp.out.ok
  have HLO : Hid (∀ i, i < m → (Bt.k5 L).getD i Bt.en0 = L.getD i Bt.en0) := fun i hi => Bt.k5_lo L i (by omega)
  have HHI : Hid (∀ i, m ≤ i → i < n → (Bt.k5 L).getD i Bt.en0 = Bt.km) := fun i h1 h2 => Bt.k5_hi L i (by omega) (by omega)
  have hn3 : n ≤ 305 := by omega
  show Calls _ _ _ _ (fun e w' => ∃ g, e = .returned (.slice (some ⟨g, 0, none⟩) (m + 5) (m + 5)) ∧ _)
  rw [hn]
  have HN := Lib.hid hn
  generalize Bt.k5 L = F at *
  clear hm hn
  go_enter Try.func11, Try.ntmps11
  go_upto_region 2 with ((with_reducible refine make_en _ _ n ?_ ?_ ?_ ?_); (exact congrArg (Value.int .i64) hcast.out); (exact congrArg (Value.int .i64) hcast.out); omega; intro w1 R1 K1 hs1)
  have R1' : Hid (EsRow w1 w.heap.size (Bt.fl F n 0)) := by
    show EsRow _ _ _
    rw [Bt.fl_zero]
    exact R1.out
  clear R1 hs1 hcast
  go_wp2
  go_loopw [4] (fun v4 wr => ∃ k : Nat, k ≤ n ∧ v4 = .int .i64 k ∧ Hid (EsRow wr w.heap.size (Bt.fl F n k)) ∧ Hid (Below w.heap.size w wr)) (fun v4 _ => n - (intOf v4).toNat)
  case atStart => exact ⟨0, by omega, rfl, R1'.out, K1.out⟩
  case round =>
    clear R1' K1
    obtain ⟨k, hk, rfl, HG, HB⟩ := hrel
    by_cases hlt : k < n
    · have HL1 : Hid ((Bt.fl F n k).length = n) := Bt.fl_len HFL.out hk
      have HO1 : Hid (∀ x ∈ Bt.fl F n k, x.ok) := Bt.fl_ok HFO.out n k
      have HS1 : Hid ((Bt.fl F n k).set k (F.getD k Bt.en0) = Bt.fl F n (k + 1)) := Bt.fl_step HFL.out hlt
      have HO2 : Hid (∀ x ∈ (Bt.fl F n k).set k Bt.km, x.ok) := Bt.ok_set HO1.out k Bt.km_ok
      have HL2 : Hid (((Bt.fl F n k).set k Bt.km).length = n) := by show _ = _; rw [List.length_set]; exact HL1.out
      by_cases hin : k < m
      · obtain ⟨ab, ao, hpp, _⟩ := Hp.out.at_ (by rw [HM.out]; omega)
        subst hpp
        have HR : Hid (∀ z, Below w.heap.size w z → z.rangeAt ab (ao + k * 35) (EnA (F.getD k Bt.en0)).toList) := fun z hz => by
          rw [HLO.out k hin]
          exact (Hp.out.old hz).rng (by rw [HM.out]; exact hin)
        have HXO : Hid ((F.getD k Bt.en0).ok) := by rw [HLO.out k hin]; exact Hp.out.getD k
        have HLT2 : Hid (k < ((Bt.fl F n k).set k Bt.km).length) := by show _ < _; rw [HL2.out]; exact hlt
        have HSS : Hid ((((Bt.fl F n k).set k Bt.km).set k (F.getD k Bt.en0)) = Bt.fl F n (k + 1)) := by show _ = _; rw [List.set_set]; exact HS1.out
        have HLT1 : Hid (k < (Bt.fl F n k).length) := by show _ < _; rw [HL1.out]; exact hlt
        have HXI := Lib.hid (en_info HXO.out)
        clear HL1 HL2 HS1 HLO HHI
        generalize F.getD k Bt.en0 = x at *
        generalize Bt.fl F n k = F0 at *
        go_upto_region 6 with (first
          | ((with_reducible refine row_b1 _ _ _ _ ?_ built_km ?_); (exact rfl))
          | ((with_reducible refine st_en _ _ w.heap.size (k * 35) k rfl F0 Bt.km HO1.out Bt.km_ok HLT1.out ?_ ?_ HG.out ?_); (exact rfl); (exact rfl); intro w2 G2 ch2; have K2 : Hid (Below w.heap.size w w2) := ch2.out.below HB.out (Nat.le_refl _)))
        have R2 := Lib.hid (HR.out _ K2.out)
        go_wp2_with (first
          | ((with_reducible refine rng_load _ _ _ _ _ _ ?_ R2.out Try.underlying50 ?_ HXI.out ?_); (exact rfl); (exact rfl))
          | ((with_reducible refine st_en _ _ w.heap.size (k * 35) k rfl (F0.set k Bt.km) x HO2.out HXO.out HLT2.out ?_ ?_ G2.out ?_); (exact rfl); (exact rfl); intro w3 G3 ch3; have K3 : Hid (Below w.heap.size w w3) := ch3.out.below K2.out (Nat.le_refl _)))
        refine ⟨⟨k + 1, by omega, by go_num, ?_, K3.out⟩, by simp [intOf]; omega⟩
        have h := G3.out
        rw [HSS.out] at h
        exact h
      · have HXE := HHI.out k (by omega) hlt
        rw [HXE] at HS1
        have HLT1 : Hid (k < (Bt.fl F n k).length) := by show _ < _; rw [HL1.out]; exact hlt
        clear HL1 HL2 HLO HHI HO2 HXE
        generalize Bt.fl F n k = F0 at *
        go_wp2_with (first
          | ((with_reducible refine row_b1 _ _ _ _ ?_ built_km ?_); (exact rfl))
          | ((with_reducible refine st_en _ _ w.heap.size (k * 35) k rfl F0 Bt.km HO1.out Bt.km_ok HLT1.out ?_ ?_ HG.out ?_); (exact rfl); (exact rfl); intro w2 G2 ch2; have K2 : Hid (Below w.heap.size w w2) := ch2.out.below HB.out (Nat.le_refl _)))
        refine ⟨⟨k + 1, by omega, by go_num, ?_, K2.out⟩, by simp [intOf]; omega⟩
        have h := G2.out
        rw [HS1.out] at h
        exact h
    · obtain rfl : k = n := by omega
      have HG2 : Hid (EsRow wr w.heap.size F) := by
        have h := HG.out
        rw [Bt.fl_all HFL.out] at h
        exact h
      clear hlt HG
      go_wp2
      go_ret
      exact ⟨w.heap.size, rfl, HG2, Lib.hid (Nat.le_refl _), HB⟩
set_option maxHeartbeats 1000000 in
set_option maxRecDepth 100000 in
theorem kepte_any (L : List Bt.En) (g : Nat) (q : Option Addr) (m d : Nat) (hm : L.length = m) (hL : m ≤ 300) (w : World) (hp : EsRow w g (Bt.k5 L)) (hq : Es w q d L) :
    Calls Try.prog 18 #[.slice (some ⟨g, 0, none⟩) (m + 5) (m + 5), .slice q m d] w (BoSay true w) := by
  have HP := Lib.hid hp; clear hp
  have HQ := Lib.hid hq; clear hq
  have HM := Lib.hid hm
  have H5 : Hid (∀ z, Below w.heap.size w z → Es z (some ⟨g, 0, none⟩) (m + 5) (Bt.k5 L)) := fun z hz => (HP.out.old hz).es (Bt.k5_ok HQ.out.ok) (by rw [Bt.k5_len, HM.out]; omega)
  have H0 : Hid (Es w (some ⟨g, 0, none⟩) (m + 5) L) := by
    have h := es_take (H5.out w (Below.refl _ _)) m
    unfold Bt.k5 at h
    rw [List.take_left' HM.out] at h
    exact h
  have hcast : Hid (((m : Int) + 5) = ((m + 5 : Nat) : Int)) := by show _ = _; omega
  have HS : Hid (∀ z, Below w.heap.size w z → Calls Try.prog 38 #[.slice (some ⟨g, 0, none⟩) m (m + 5), .slice q m d] z (BoSay true z)) := fun z hz => by
    have h := sames_any L L (some ⟨g, 0, none⟩) q m m (m + 5) d HM.out HM.out (by omega) z (H0.out.old hz) (HQ.out.old hz)
    rw [decide_eq_true rfl] at h
    exact h
  have heq : Hid (∀ y, (Op.equalIn 10000 50 (.agg (EnA Bt.km)) (.agg (EnA Bt.km))).run Try.prog y = .ok true y) := fun y => by
    have h := en_eqs Bt.km Bt.km Bt.km_ok Bt.km_ok y
    rw [decide_eq_true rfl] at h
    exact h
  clear hm
  go_enter Try.func18, Try.ntmps18
  go_wp2_with (go_at_call 38; refine (HS.out _ (Below.refl _ _)).mono ?_; rintro e w1 ⟨rfl, hb1⟩)
  have HB1 := Lib.hid hb1
  clear hb1
  go_loopw [5] (fun v5 wr => ∃ k : Nat, k ≤ 5 ∧ v5 = .int .i64 ((m : Int) + k) ∧ Hid (Below w.heap.size w wr)) (fun v5 _ => m + 5 - (intOf v5).toNat)
  case atStart => exact ⟨0, by omega, by simp, HB1.out⟩
  case round =>
    clear HB1
    obtain ⟨k, hk, rfl, HB⟩ := hrel
    by_cases hlt : k < 5
    · have HR : Hid (wr.rangeAt g ((m + k) * 35) (EnA Bt.km).toList) := by
        have h := (H5.out wr HB.out).rng (i := m + k) (by rw [Bt.k5_len, HM.out]; omega)
        rw [Bt.k5_hi L (m + k) (by rw [HM.out]; omega) (by rw [HM.out]; omega), Nat.zero_add] at h
        exact h
      have he := heq.out
      have hbk := Lib.hid built_km
      have HXI := Lib.hid (en_info Bt.km_ok)
      generalize EnA Bt.km = X at *
      go_wp2_with (first
        | ((with_reducible refine row_b1 _ _ _ _ ?_ hbk.out ?_); (exact rfl))
        | ((with_reducible refine rng_load _ _ _ _ _ _ ?_ HR.out Try.underlying50 ?_ HXI.out ?_); (exact rfl); (exact rfl)))
      exact ⟨⟨k + 1, by omega, by congr 1, HB.out⟩, by simp [intOf]; omega⟩
    · have E : k = 5 := by omega
      subst E
      go_wp2
      go_ret
      exact ⟨rfl, HB.out⟩
end Go.Proofs.Ytkgefogkdmbciaa

/-
  rilllaw03.AesOrder walked.
-/
import Derived.Test.YtjidkkehhglahaaAesQA
namespace Go.Proofs.Ytjidkkehhglahaa
open Go.RowKit

section
variable {P : Program} {ops : Array Oper} {rest : List Oper} {a : Act} {w : World} {Q : Exit → Act → World → Prop} {D : Option Tmp} {T : TypeId} {ps : String} {af : Array Edge}
/-- A row out of the middle of a block. -/
theorem arr_load (ty : TypeId) (x : Operand) (b o : Nat) (A : Array Value) (d : TypeDesc) (hx : a.eval x = .pointer (some ⟨b, o, none⟩)) (hc : w.rangeAt b o A.toList)
    (hu : P.underlying ty = some d) (hd : d.isRow = true) (hi : (P.info? ty).map (·.size) = some A.size)
    (h : wpList P ops Q rest (a.put D (.agg A)) w) : wpList P ops Q ({ dst := D, op := .load ty x, type := T, pos := ps, after := af, guard := none } :: rest) a w :=
  wpList_load_mid rfl ty x rfl b o hx A.toList d hc hu hd (by simpa using hi) (by simpa using h)
theorem exec_arr {gd : Option (Nat × Bool)} (ty : TypeId) (x : Operand) (b o : Nat) (A : Array Value) (d : TypeDesc) (hx : a.eval x = .pointer (some ⟨b, o, none⟩)) (hc : w.rangeAt b o A.toList)
    (hu : P.underlying ty = some d) (hd : d.isRow = true) (hi : (P.info? ty).map (·.size) = some A.size) :
    (execOp a.eval { dst := D, op := .load ty x, type := T, pos := ps, after := af, guard := gd }).run P w = .ok (.value (.agg A)) w := by
  have h := run_loadAt_mid (P := P) w b o ty A.toList d hc hu hd (by simpa using hi)
  unfold execOp
  simp only [hx, h, Sem.run_bind, Sem.run_pure, Result.andThen_ok, Array.toArray_toList]
/-- A slice of one long element. -/
theorem row_buildSlice (t e : TypeId) (x : Operand) (A : Array Value) (z : Value) (n : Nat) (hx : a.eval x = .agg A) (hu : P.underlying t = some (.slice e)) (hi : (P.info? e).map (fun i => (i.zero, i.size)) = some (some z, n)) (hA : A.size = n) (h0 : 0 < n) (hn : n ≤ 1000)
    (h : wpList P ops Q rest (a.put D (.slice (some ⟨w.heap.size, 0, none⟩) 1 1)) (w.alloc (.cells A e))) :
    wpList P ops Q ({ dst := D, op := .buildSlice t 1 #[(0, x)], type := T, pos := ps, after := af, guard := none } :: rest) a w :=
  wpList_plain rfl fun K hK => by
    have hzr := (zero_of_info hi).1
    have hrun : (Instr.buildSlice t 1 #[(0, .agg A)]).run P w = .ok (.slice (some ⟨w.heap.size, 0, none⟩) 1 1) (w.alloc (.cells A e)) := by
      cases hq : P.info? e with
      | none => rw [hq] at hi; cases hi
      | some i =>
        have hs : i.size = n := by rw [hq] at hi; simp at hi; exact hi.2
        have hf := fill_one (fun i => some (i * n, n)) A ((Array.range (1 * n)).map (z.cells[· % z.cells.size]!)) n (by simp) hA (by simp)
        rw [List.drop_of_length_le (by simp), List.append_nil, Array.toArray_toList] at hf
        have h1 : ¬ (1 * n > 2 ^ 24) := by omega
        have h2 : ¬ (1 * n = 0) := by omega
        have hzz : (zeroValue e).run P w = .ok z w := hzr w
        subst hs
        rw [Nat.one_mul] at hf h1 h2
        simp [Instr.buildSlice, run_underlying hu, sizeOf, typeInfo, hq, h1, h2, hzz, hf, newRow]
    unfold Oper.wp execOp
    simp only [hx, List.map_toArray, List.map_cons, List.map_nil, hrun, Sem.run_bind, Sem.run_pure, Result.andThen_ok]
    exact hK _ _ h
end
section
variable {P : Program} {md : Region.Mode} {ops : Array Oper} {Q : Exit → Act → World → Prop} {S : World → Prop}
theorem anyH_take (i D : Nat) (v : Value) {fuel : Nat} {listed : Array Bool} {a : Act} {w : World} {op : Op} {T : TypeId} {ps : String} {af : Array Edge} {gd : Option (Nat × Bool)} (hS : S w) (ho : ops[i]? = some { dst := some D, op := op, type := T, pos := ps, after := af, guard := gd })
    (hs : Region.noSelect ops = true) (hf : Region.free md ops listed i = true) (hr : (Region.ready md ops listed).contains i = true)
    (hQ : ∀ c a w, Q (.panic c) (a.put (some D) v) w → Q (.panic c) a w) (hw : Region.wanted { dst := some D, op := op, type := T, pos := ps, after := af, guard := gd } (yielded ops a.tmps) = true) (hy : ∀ w, S w → (execOp a.eval { dst := some D, op := op, type := T, pos := ps, after := af, guard := gd }).run P w = .ok (.value v) w)
    (h : wpAnyH P md ops Q S fuel (listed.setIfInBounds i true) (a.put (some D) v) w) : wpAnyH P md ops Q S (fuel + 1) listed a w :=
  wpAnyH_first ho (Region.noSelect_spec hs) hQ fuel listed a w (Region.free_spec ho hf) (by simpa using hr) (Or.inl ⟨hw, hy⟩) hS h
theorem anyH_one (i : Nat) {fuel : Nat} {listed : Array Bool} {a : Act} {w : World} (hr : Region.ready md ops listed = [i])
    (h : wpOp P ops Q i (fun a' w' => S w' ∧ wpAnyH P md ops Q S fuel (listed.setIfInBounds i true) a' w') a w) : wpAnyH P md ops Q S (fuel + 1) listed a w :=
  ⟨fun h0 => absurd (hr ▸ h0) (by simp), fun j hj => by
    rw [hr] at hj
    simp at hj
    subst hj
    exact h⟩
theorem anyH_done {listed : Array Bool} {a : Act} {w : World} (hr : Region.ready md ops listed = []) (h : Q .normal a w) : ∀ fuel, wpAnyH P md ops Q S fuel listed a w
  | 0 => ⟨hr, h⟩
  | _ + 1 => ⟨fun _ => h, by rw [hr]; simp⟩
end
def Z16a : Array Value := (List.replicate 16 (Value.int .u8 0)).toArray
theorem Try.zero16 : (Try.prog.info? 35).map (fun i => (i.zero, i.size)) = some (some (.agg Z16a), 16) := by kernel_rfl
theorem Try.info16 : (Try.prog.info? 35).map (fun i => (i.zero, i.size, i.bytes)) = some (some (.agg Z16a), 16, 16) := by kernel_rfl
theorem z16size : (Value.agg Z16a).cells.size = 16 := by show Z16a.size = 16; simp [Z16a]
theorem own_keep16 {w w' : World} {B n : Nat} {v : Value} {xs : List Value} {e : TypeId} {s : Nat} (h : w.ownsRow B e s v n xs) (hb : Below w.heap.size w w') : w'.ownsRow B e s v n xs := by
  refine ⟨h.1, ?_⟩
  rcases h.2 with h' | ⟨g, cap, cur, hv, q0, q1, q2⟩
  · exact Or.inl h'
  · exact Or.inr ⟨g, cap, cur, hv, q0, (hb.block _ (lt_of_block q1)).trans q1, q2⟩
/-- Rows one behind the other. -/
def catX (Xf : Nat → Array Value) : Nat → List Value
  | 0 => []
  | i + 1 => catX Xf i ++ (Xf i).toList
theorem cat_len (Xf : Nat → Array Value) (N : Nat) (h : ∀ i, i < N → (Xf i).size = 16) : (catX Xf N).length = N * 16 := by
  induction N with
  | zero => rfl
  | succ N ih => rw [catX, List.length_append, ih (fun i hi => h i (by omega)), Array.length_toList, h N (by omega)]; omega
theorem cat_get (Xf : Nat → Array Value) (N j q : Nat) (v : Value) (h : ∀ i, i < N → (Xf i).size = 16) (hj : j < N) (hq : (Xf j).toList[q]? = some v) : (catX Xf N)[j * 16 + q]? = some v := by
  have hq16 : q < 16 := by have h1 := (List.getElem?_eq_some_iff.1 hq).1; rw [Array.length_toList, h j hj] at h1; exact h1
  induction N with
  | zero => omega
  | succ N ih =>
    rw [catX]
    have hl := cat_len Xf N (fun i hi => h i (by omega))
    by_cases hjn : j = N
    · subst hjn
      rw [List.getElem?_append_right (by omega), hl, show j * 16 + q - j * 16 = q by omega]
      exact hq
    · rw [List.getElem?_append_left (by omega)]
      exact ih (fun i hi => h i (by omega)) (by omega)
attribute [irreducible] Z16a
/-- append of one row laid just before. -/
theorem append_arr {ops : Array Oper} {rest : List Oper} {a : Act} {w0 : World} {Q : Exit → Act → World → Prop} {D : Option Tmp} {T : TypeId} {ps : String} {af : Array Edge} (s x : Operand) (A : Array Value) (base : Nat) (v : Value) (n : Nat) (xs : List Value) (hs : a.eval s = v)
    (hx : a.eval x = .slice (some ⟨w0.heap.size, 0, none⟩) 1 1) (hown : w0.ownsRow base 35 16 v n xs) (hA : A.size = 16) (hA1 : ∀ u ∈ A.toList, u.oneCell' = true) (hn : n ≤ 1000) (hb : base ≤ w0.heap.size)
    (h : ∀ g' cap' w', w'.ownsRow base 35 16 (.slice (some ⟨g', 0, none⟩) (n + 1) cap') (n + 1) (xs ++ A.toList) → (w0.alloc (.cells A 35)).grownBy w' v.ownBlock → wpList Try.prog ops Q rest (a.put D (.slice (some ⟨g', 0, none⟩) (n + 1) cap')) w') :
    wpList Try.prog ops Q ({ dst := D, op := .call { callee := .builtin .append, args := #[s, x], argTypes := #[23, 23] }, type := T, pos := ps, after := af, guard := none } :: rest) a (w0.alloc (.cells A 35)) := by
  obtain ⟨i0, hi, hz0, hz1, hz2⟩ := info_parts Try.info16
  refine wpList_append_own _ rfl s x 23 rfl base 35 i0 (.agg Z16a) 16 16 Try.underlying23 hi hz0 hz1 hz2 z16size (by decide) v n xs hs (hown.alloc _) ⟨w0.heap.size, 0, none⟩ 1 1 A.toList hx (by rw [Array.length_toList, hA]) ?_ hA1 (by unfold maxLen; omega) (by omega) (by simp; omega) ?_
  · intro j u hj
    rw [Addr.add_mid, Nat.zero_add, cell_of_row (w0.alloc (.cells A 35)) w0.heap.size j _ _ _ (heap_alloc_new w0 _)]
    simpa using hj
  · intro v' w' h1 h2 _
    rcases h1.2 with ⟨_, h0⟩ | ⟨g', cap', cur, rfl, _⟩
    · omega
    · exact h g' cap' w' h1 h2

set_option maxHeartbeats 4000000 in
set_option maxRecDepth 100000 in
theorem order_16 (p : Option Addr) (cap : Nat) (tp : Option Addr) (len tcap N : Nat) (hN : N = min len 20) (hlen : len ≤ 9223372036854775807) (Af Xf : Nat → Array Value) (AS : Hid (∀ i, i < N → (Af i).size = 16)) (XS : Hid (∀ i, i < N → (Xf i).size = 16)) (XO : Hid (∀ i, i < N → ∀ v ∈ (Xf i).toList, v.oneCell' = true)) (KC : World → Nat → Prop) (w : World)
    (HM : Hid (0 < N → ∃ ab ao, tp = some ⟨ab, ao, none⟩ ∧ ab < w.heap.size ∧ ∀ i, i < N → w.rangeAt ab (ao + i * 16) (Af i).toList))
    (HNW : Hid (∀ x, Below w.heap.size w x → Calls Try.prog 9 #[.slice p 16 cap] x fun e x' => ∃ c, e = .returned (.tuple #[.pointer (some ⟨c, 0, none⟩), .int .i64 0]) ∧ Hid (KC x' c) ∧ Hid (Below x.heap.size x x')))
    (HKP : Hid (∀ x x' c, KC x c → Below x.heap.size x x' → KC x' c))
    (HBL : Hid (∀ i c x, i < N → KC x c → Calls Try.prog 13 #[.pointer (some ⟨c, 0, none⟩), .agg (Af i)] x fun e x' => e = .returned (.agg (Xf i)) ∧ Below x.heap.size x x'))
    (HXX : Hid (∀ i x, i < N → (Op.equalIn 10000 35 (.agg (Xf i)) (.agg (Xf i))).run Try.prog x = .ok true x)) :
    Calls Try.prog 6 #[.slice p 16 cap, .slice tp len tcap] w (YesSay w) := by
  have hng := Try.noGuard
  have R0 : Hid (Below w.heap.size w w) := Below.refl _ _
  go_enter Try.func6, Try.ntmps6
  go_upto_region 8 with (first
    | (go_at_call 9; have R := R1.out; refine (HNW.out _ R).mono ?_; rintro e x2 ⟨d, rfl, HD2, HQ⟩; have R2 : Hid (Below w.heap.size w x2) := R.trans (HQ.out.mono R.size); have HC2 : Hid (KC x2 c) := HKP.out _ _ _ HC1.out HQ.out; clear R1 HC1 HQ R)
    | (go_at_call 9; have R := R0.out; refine (HNW.out _ R).mono ?_; rintro e x1 ⟨c, rfl, HC1, HQ⟩; have R1 : Hid (Below w.heap.size w x1) := R.trans (HQ.out.mono R.size); clear R0 HQ R))
  have HN : Hid ((if (20 : Int) < (len : Int) then (20 : Int) else (len : Int)) = ((N : Nat) : Int)) := by
    show _ = _
    split <;> omega
  rw [HN.out]
  have HL : Hid ((N : Int) ≤ (len : Int) ∧ N ≤ 20) := ⟨by omega, by omega⟩
  have hN20 : N ≤ 20 := HL.out.2
  clear hN hlen
  have HMR : Hid (∀ ab ao, tp = some ⟨ab, ao, none⟩ → ab < w.heap.size → (∀ i, i < N → w.rangeAt ab (ao + i * 16) (Af i).toList) → ∀ x, Below x2.heap.size x2 x → ∀ i, i < N → x.rangeAt ab (ao + i * 16) (Af i).toList) := fun ab ao _ hab hr x hx i hi j v hv =>
    ((R2.out.trans (hx.mono R2.out.size)).cell hab).trans (hr i hi j v hv)
  have HKC : Hid (∀ x, Below x2.heap.size x2 x → KC x c ∧ KC x d) := fun x hx => ⟨HKP.out _ _ _ HC2.out hx, HKP.out _ _ _ HD2.out hx⟩
  have B0 : Hid (Below x2.heap.size x2 x2) := Below.refl _ _
  go_wp2
  go_loopw [10, 11] (fun v10 v11 wr => ∃ i : Nat, i ≤ N ∧ v11 = .int .i64 i ∧ Hid (wr.ownsRow x2.heap.size 35 16 v10 i (catX Xf i)) ∧ Hid (Below x2.heap.size x2 wr)) (fun _ v11 _ => N - (intOf v11).toNat)
  case atStart => exact ⟨0, by omega, rfl, World.ownsRow_nil _ _ _ _, B0.out⟩
  case round =>
    clear B0
    obtain ⟨i, hi, rfl, HO, HB⟩ := hrel
    by_cases hlt : i < N
    · obtain ⟨ab, ao, htp, hab, hra⟩ := HM.out (by omega)
      subst htp
      have HRA := Lib.hid (HMR.out ab ao rfl hab hra wr HB.out i hlt)
      clear hra
      have HKC1 := Lib.hid (HKC.out wr HB.out)
      have AS1 : Hid ((Af i).size = 16) := AS.out i hlt
      have XS1 : Hid ((Xf i).size = 16) := XS.out i hlt
      have XO1 : Hid (∀ v ∈ (Xf i).toList, v.oneCell' = true) := XO.out i hlt
      have HB1 : Hid (∀ c x, KC x c → Calls Try.prog 13 #[.pointer (some ⟨c, 0, none⟩), .agg (Af i)] x fun e x' => e = .returned (.agg (Xf i)) ∧ Below x.heap.size x x') := fun c x h => HBL.out i c x hlt h
      have HCT : Hid (catX Xf i ++ (Xf i).toList = catX Xf (i + 1)) := rfl
      have hn0 : (i : Int) < (N : Int) := by omega
      have hn1 : (i : Int) < (len : Int) := by have := HL.out.1; omega
      have hn2 : i < len := by omega
      generalize Af i = Ai at *
      generalize Xf i = Xi at *
      go_wp2_with (first
        | ((with_reducible refine append_arr _ _ Xi x2.heap.size u10 i (catX Xf i) ?_ ?_ HO2.out XS1.out XO1.out ?_ ?_ ?_); (exact rfl); (exact rfl); (have := HL.out.2; omega); (exact HB2.out.size); intro g' cap' w5 hown hgrow; have HO5 := Lib.hid hown; have HB5 : Hid (Below x2.heap.size x2 w5) := (HB2.out.alloc HB2.out.size _).grown hgrow (by have := HB2.out.size; simp; omega) (fun j hj => (HO2.out.lt j hj).1); clear hown hgrow)
        | ((with_reducible refine row_buildSlice _ 35 _ Xi (.agg Z16a) 16 ?_ Try.underlying23 Try.zero16 XS1.out ?_ ?_ ?_); (exact rfl); omega; omega)
        | (go_at_call 13; refine (HB1.out c _ HKC1.out.1).mono ?_; rintro e w2 ⟨rfl, hb2⟩; have HO2 : Hid (w2.ownsRow x2.heap.size 35 16 u10 i (catX Xf i)) := own_keep16 HO.out hb2; have HB2 : Hid (Below x2.heap.size x2 w2) := HB.out.trans (hb2.mono HB.out.size); clear hb2)
        | ((with_reducible refine arr_load _ _ ab (ao + i * 16) Ai _ ?_ HRA.out Try.underlying35 ?_ (row_size Try.size16 AS1) ?_); (exact rfl); (exact rfl)))
      have HO6 : Hid (w5.ownsRow x2.heap.size 35 16 (.slice (some ⟨g', 0, none⟩) (i + 1) cap') (i + 1) (catX Xf (i + 1))) := by rw [← HCT.out]; exact HO5.out
      exact ⟨⟨i + 1, by omega, by go_num, HO6, HB5⟩, by simp [intOf]; omega⟩
    · have hge : N ≤ i := by omega
      obtain rfl : i = N := by omega
      clear hlt
      have hgi : (i : Int) ≤ (i : Int) := Int.le_refl _
      have hi20 : i ≤ 20 := hN20
      have hi20z : (i : Int) ≤ 20 := by omega
      have hwz : IntKind.i64.wrap ((i : Int) - 1) = (i : Int) - 1 := IntWalk.i64_in _ ⟨by omega, by omega⟩
      go_wp2
      generalize wr = wA at *
      go_loopw [12] (fun v12 wr => ∃ (k : Nat) (z : Int), k ≤ i ∧ v12 = .int .i64 z ∧ Hid (z = (k : Int) - 1) ∧ Hid (wr.ownsRow x2.heap.size 35 16 u10 i (catX Xf i)) ∧ Hid (Below x2.heap.size x2 wr)) (fun v12 _ => (intOf v12 + 1).toNat)
      case atStart => exact ⟨i, _, Nat.le_refl _, rfl, (by first | rfl | exact hwz), HO.out, HB.out⟩
      case round =>
        clear HO HB
        obtain ⟨k, z, hk, rfl, HZ, HO, HB⟩ := hrel
        by_cases h0 : 0 < k
        · obtain ⟨j, rfl⟩ : ∃ j, k = j + 1 := ⟨k - 1, by omega⟩
          obtain rfl : z = (j : Int) := by have := HZ.out; omega
          have hj : j < i := by omega
          obtain ⟨ab, ao, htp, hab, hra⟩ := HM.out (by omega)
          subst htp
          obtain ⟨g', cap', hv⟩ : ∃ g' cap', u10 = .slice (some ⟨g', 0, none⟩) i cap' := by
            rcases HO.out.2 with ⟨_, h0⟩ | ⟨g', cap', cur, h, _⟩
            · omega
            · exact ⟨g', cap', h⟩
          subst hv
          have hXr : Hid (wr.rangeAt g' (j * 16) (Xf j).toList) := fun q v hq => by
            have h := HO.out.cells (g := g') rfl (j * 16 + q) v (cat_get Xf i j q v XS.out hj hq)
            rw [Addr.add_mid, Nat.zero_add] at h
            exact h
          have HRA := Lib.hid (HMR.out ab ao rfl hab hra wr HB.out j hj)
          clear hra
          have HKC1 := Lib.hid (HKC.out wr HB.out)
          have AS1 : Hid ((Af j).size = 16) := AS.out j hj
          have XS1 : Hid ((Xf j).size = 16) := XS.out j hj
          have HB1 : Hid (∀ c x, KC x c → Calls Try.prog 13 #[.pointer (some ⟨c, 0, none⟩), .agg (Af j)] x fun e x' => e = .returned (.agg (Xf j)) ∧ Below x.heap.size x x') := fun c x h => HBL.out j c x hj h
          have HEQ : ∀ x, (Op.equalIn 10000 35 (.agg (Xf j)) (.agg (Xf j))).run Try.prog x = .ok true x := fun x => HXX.out j x hj
          have hp0 : (0 : Int) ≤ (j : Int) := by omega
          have hn0 : (j : Int) < (i : Int) := by omega
          have hn1 : (j : Int) < (len : Int) := by have := HL.out.1; omega
          have hn2 : j < len := by omega
          have HO3 := HO
          generalize catX Xf i = CX at *
          generalize Af j = Ai at *
          generalize Xf j = Xi at *
          go_upto_region 16 with fail
          refine wp_region_any (by kernel_rfl) ?_
          change wpAny _ _ _ _ _ _ _ (World.drew _)
          have HXr : Hid (wr.drew.rangeAt g' (j * 16) Xi.toList) := hXr.out
          have HRr : Hid (wr.drew.rangeAt ab (ao + j * 16) Ai.toList) := HRA.out
          have HKr : Hid (KC wr.drew c ∧ KC wr.drew d) := ⟨HKP.out _ _ _ HKC1.out.1 (Below.refl _ _).drew, HKP.out _ _ _ HKC1.out.2 (Below.refl _ _).drew⟩
          have HOr : Hid (wr.drew.ownsRow x2.heap.size 35 16 (.slice (some ⟨g', 0, none⟩) i cap') i CX) := HO3.out.drew
          have HBr : Hid (Below x2.heap.size x2 wr.drew) := HB.out.drew
          have hgl : Hid (g' < wr.drew.heap.size) := (HOr.out.lt g' rfl).2
          have hal : Hid (ab < wr.drew.heap.size) := Nat.lt_of_lt_of_le hab (Nat.le_trans R2.out.size HBr.out.size)
          clear hXr HRA HKC1 HO HO3 HB
          generalize wr.drew = w8 at *
          have Sz0 : Hid (Below w8.heap.size w8 w8) := Below.refl _ _
          have HLX : Hid (∀ x, Below w8.heap.size w8 x → x.rangeAt g' (j * 16) Xi.toList) := fun x hx q v hq => (hx.cell hgl.out).trans (HXr.out q v hq)
          have HLA : Hid (∀ x, Below w8.heap.size w8 x → x.rangeAt ab (ao + j * 16) Ai.toList) := fun x hx q v hq => (hx.cell hal.out).trans (HRr.out q v hq)
          clear HXr HRr
          refine wpAny_of_held (S := fun x : World => Below w8.heap.size w8 x) _ _ _ _ ?_
          refine anyH_take 0 52 (.pointer (some ⟨d, 0, none⟩)) Sz0.out rfl (by kernel_rfl) (by kernel_rfl) (by kernel_rfl) (fun _ _ _ h => h) (by rfl) (by intro x hx; go_simp; try (intro h; omega)) ?_
          try simp only [Act.put, List.setIfInBounds_toArray, List.set_cons_zero, List.set_cons_succ]
          refine anyH_take 1 53 (.slice (some ⟨ab, ao, none⟩) len tcap) Sz0.out rfl (by kernel_rfl) (by kernel_rfl) (by kernel_rfl) (fun _ _ _ h => h) (by rfl) (by intro x hx; go_simp; try (intro h; omega)) ?_
          try simp only [Act.put, List.setIfInBounds_toArray, List.set_cons_zero, List.set_cons_succ]
          refine anyH_take 2 54 (.int .i64 (j : Int)) Sz0.out rfl (by kernel_rfl) (by kernel_rfl) (by kernel_rfl) (fun _ _ _ h => h) (by rfl) (by intro x hx; go_simp; try (intro h; omega)) ?_
          try simp only [Act.put, List.setIfInBounds_toArray, List.set_cons_zero, List.set_cons_succ]
          refine anyH_take 3 55 (.pointer (some ⟨ab, ao + j * 16, none⟩)) Sz0.out rfl (by kernel_rfl) (by kernel_rfl) (by kernel_rfl) (fun _ _ _ h => h) (by rfl) (by intro x hx; go_simp; try (intro h; omega)) ?_
          try simp only [Act.put, List.setIfInBounds_toArray, List.set_cons_zero, List.set_cons_succ]
          refine anyH_take 4 56 (.agg Ai) Sz0.out rfl (by kernel_rfl) (by kernel_rfl) (by kernel_rfl) (fun _ _ _ h => h) (by rfl) (fun x hx => exec_arr _ _ ab (ao + j * 16) Ai _ rfl (HLA.out x hx) Try.underlying35 rfl (row_size Try.size16 AS1)) ?_
          try simp only [Act.put, List.setIfInBounds_toArray, List.set_cons_zero, List.set_cons_succ]
          refine anyH_take 6 58 (.slice (some ⟨g', 0, none⟩) i cap') Sz0.out rfl (by kernel_rfl) (by kernel_rfl) (by kernel_rfl) (fun _ _ _ h => h) (by rfl) (by intro x hx; go_simp; try (intro h; omega)) ?_
          try simp only [Act.put, List.setIfInBounds_toArray, List.set_cons_zero, List.set_cons_succ]
          refine anyH_take 7 59 (.int .i64 (j : Int)) Sz0.out rfl (by kernel_rfl) (by kernel_rfl) (by kernel_rfl) (fun _ _ _ h => h) (by rfl) (by intro x hx; go_simp; try (intro h; omega)) ?_
          try simp only [Act.put, List.setIfInBounds_toArray, List.set_cons_zero, List.set_cons_succ]
          refine anyH_take 8 60 (.pointer (some ⟨g', j * 16, none⟩)) Sz0.out rfl (by kernel_rfl) (by kernel_rfl) (by kernel_rfl) (fun _ _ _ h => h) (by rfl) (by intro x hx; go_simp; try (intro h; omega)) ?_
          try simp only [Act.put, List.setIfInBounds_toArray, List.set_cons_zero, List.set_cons_succ]
          refine anyH_take 9 61 (.agg Xi) Sz0.out rfl (by kernel_rfl) (by kernel_rfl) (by kernel_rfl) (fun _ _ _ h => h) (by rfl) (fun x hx => exec_arr _ _ g' (j * 16) Xi _ rfl (HLX.out x hx) Try.underlying35 rfl (row_size Try.size16 XS1)) ?_
          try simp only [Act.put, List.setIfInBounds_toArray, List.set_cons_zero, List.set_cons_succ]
          refine anyH_one 5 (by kernel_rfl) ?_
          refine wpOp_step rfl (fun Kc hKc => ?_)
          go_simp
          refine (HB1.out d _ HKr.out.2).mono ?_
          rintro e z1 ⟨rfl, hb⟩
          have Sz1 : Hid (Below w8.heap.size w8 z1) := Sz0.out.trans (hb.mono Sz0.out.size)
          clear hb
          dsimp only
          refine hKc _ _ ⟨Sz1.out, ?_⟩
          clear hKc Kc
          try simp only [Act.put, List.setIfInBounds_toArray, List.set_cons_zero, List.set_cons_succ]
          refine anyH_take 10 62 (.bool false) Sz1.out rfl (by kernel_rfl) (by kernel_rfl) (by kernel_rfl) (fun _ _ _ h => h) (by rfl) (by intro x hx; go_simp; try (intro h; omega)) ?_
          try simp only [Act.put, List.setIfInBounds_toArray, List.set_cons_zero, List.set_cons_succ]
          refine anyH_take 11 63 (.bool false) Sz1.out rfl (by kernel_rfl) (by kernel_rfl) (by kernel_rfl) (fun _ _ _ h => h) (by rfl) (by intro x hx; go_simp; try (intro h; omega)) ?_
          try simp only [Act.put, List.setIfInBounds_toArray, List.set_cons_zero, List.set_cons_succ]
          refine anyH_take 12 64 (.pointer (some ⟨c, 0, none⟩)) Sz1.out rfl (by kernel_rfl) (by kernel_rfl) (by kernel_rfl) (fun _ _ _ h => h) (by rfl) (by intro x hx; go_simp; try (intro h; omega)) ?_
          try simp only [Act.put, List.setIfInBounds_toArray, List.set_cons_zero, List.set_cons_succ]
          refine anyH_take 13 65 (.slice (some ⟨ab, ao, none⟩) len tcap) Sz1.out rfl (by kernel_rfl) (by kernel_rfl) (by kernel_rfl) (fun _ _ _ h => h) (by rfl) (by intro x hx; go_simp; try (intro h; omega)) ?_
          try simp only [Act.put, List.setIfInBounds_toArray, List.set_cons_zero, List.set_cons_succ]
          refine anyH_take 14 66 (.int .i64 (j : Int)) Sz1.out rfl (by kernel_rfl) (by kernel_rfl) (by kernel_rfl) (fun _ _ _ h => h) (by rfl) (by intro x hx; go_simp; try (intro h; omega)) ?_
          try simp only [Act.put, List.setIfInBounds_toArray, List.set_cons_zero, List.set_cons_succ]
          refine anyH_take 15 67 (.pointer (some ⟨ab, ao + j * 16, none⟩)) Sz1.out rfl (by kernel_rfl) (by kernel_rfl) (by kernel_rfl) (fun _ _ _ h => h) (by rfl) (by intro x hx; go_simp; try (intro h; omega)) ?_
          try simp only [Act.put, List.setIfInBounds_toArray, List.set_cons_zero, List.set_cons_succ]
          refine anyH_take 16 68 (.agg Ai) Sz1.out rfl (by kernel_rfl) (by kernel_rfl) (by kernel_rfl) (fun _ _ _ h => h) (by rfl) (fun x hx => exec_arr _ _ ab (ao + j * 16) Ai _ rfl (HLA.out x hx) Try.underlying35 rfl (row_size Try.size16 AS1)) ?_
          try simp only [Act.put, List.setIfInBounds_toArray, List.set_cons_zero, List.set_cons_succ]
          refine anyH_take 18 70 (.slice (some ⟨g', 0, none⟩) i cap') Sz1.out rfl (by kernel_rfl) (by kernel_rfl) (by kernel_rfl) (fun _ _ _ h => h) (by rfl) (by intro x hx; go_simp; try (intro h; omega)) ?_
          try simp only [Act.put, List.setIfInBounds_toArray, List.set_cons_zero, List.set_cons_succ]
          refine anyH_take 19 71 (.int .i64 (j : Int)) Sz1.out rfl (by kernel_rfl) (by kernel_rfl) (by kernel_rfl) (fun _ _ _ h => h) (by rfl) (by intro x hx; go_simp; try (intro h; omega)) ?_
          try simp only [Act.put, List.setIfInBounds_toArray, List.set_cons_zero, List.set_cons_succ]
          refine anyH_take 20 72 (.pointer (some ⟨g', j * 16, none⟩)) Sz1.out rfl (by kernel_rfl) (by kernel_rfl) (by kernel_rfl) (fun _ _ _ h => h) (by rfl) (by intro x hx; go_simp; try (intro h; omega)) ?_
          try simp only [Act.put, List.setIfInBounds_toArray, List.set_cons_zero, List.set_cons_succ]
          refine anyH_take 21 73 (.agg Xi) Sz1.out rfl (by kernel_rfl) (by kernel_rfl) (by kernel_rfl) (fun _ _ _ h => h) (by rfl) (fun x hx => exec_arr _ _ g' (j * 16) Xi _ rfl (HLX.out x hx) Try.underlying35 rfl (row_size Try.size16 XS1)) ?_
          try simp only [Act.put, List.setIfInBounds_toArray, List.set_cons_zero, List.set_cons_succ]
          refine anyH_one 17 (by kernel_rfl) ?_
          refine wpOp_step rfl (fun Kc hKc => ?_)
          go_simp
          refine (HB1.out c _ (HKP.out _ _ _ HKr.out.1 Sz1.out)).mono ?_
          rintro e z2 ⟨rfl, hb⟩
          have Sz2 : Hid (Below w8.heap.size w8 z2) := Sz1.out.trans (hb.mono Sz1.out.size)
          clear hb
          dsimp only
          refine hKc _ _ ⟨Sz2.out, ?_⟩
          clear hKc Kc
          try simp only [Act.put, List.setIfInBounds_toArray, List.set_cons_zero, List.set_cons_succ]
          refine anyH_take 22 74 (.bool false) Sz2.out rfl (by kernel_rfl) (by kernel_rfl) (by kernel_rfl) (fun _ _ _ h => h) (by rfl) (by intro x hx; go_simp; try (intro h; omega)) ?_
          try simp only [Act.put, List.setIfInBounds_toArray, List.set_cons_zero, List.set_cons_succ]
          refine anyH_take 23 75 (.bool false) Sz2.out rfl (by kernel_rfl) (by kernel_rfl) (by kernel_rfl) (fun _ _ _ h => h) (by rfl) (by intro x hx; go_simp; try (intro h; omega)) ?_
          try simp only [Act.put, List.setIfInBounds_toArray, List.set_cons_zero, List.set_cons_succ]
          refine anyH_done (by kernel_rfl) ?_ _
          have HO9 : Hid (z2.ownsRow x2.heap.size 35 16 (.slice (some ⟨g', 0, none⟩) i cap') i CX) := own_keep16 HOr.out Sz2.out
          have HB9 : Hid (Below x2.heap.size x2 z2) := HBr.out.trans (Sz2.out.mono HBr.out.size)
          clear HOr HBr HLX HLA HKr HB1 HEQ
          go_wp2
          refine ⟨⟨j, (j : Int) - 1, by omega, rfl, (show (j : Int) - 1 = (j : Int) - 1 from rfl), HO9, HB9⟩, ?_⟩
          simp [intOf]
        · have hk0 : k = 0 := by omega
          subst hk0
          obtain rfl : z = -1 := by have := HZ.out; omega
          go_wp2_with (go_at_call 7; refine (known_any _).mono ?_; rintro e w9 ⟨rfl, hb⟩; have R9 : Hid (Below w.heap.size w w9) := (R2.out.trans (HB.out.mono R2.out.size)).trans (hb.mono (Nat.le_trans R2.out.size HB.out.size)); clear hb)
          go_ret
          exact ⟨rfl, R9.out⟩

set_option maxHeartbeats 4000000 in
set_option maxRecDepth 100000 in
theorem order_24 (p : Option Addr) (cap : Nat) (tp : Option Addr) (len tcap N : Nat) (hN : N = min len 20) (hlen : len ≤ 9223372036854775807) (Af Xf : Nat → Array Value) (AS : Hid (∀ i, i < N → (Af i).size = 16)) (XS : Hid (∀ i, i < N → (Xf i).size = 16)) (XO : Hid (∀ i, i < N → ∀ v ∈ (Xf i).toList, v.oneCell' = true)) (KC : World → Nat → Prop) (w : World)
    (HM : Hid (0 < N → ∃ ab ao, tp = some ⟨ab, ao, none⟩ ∧ ab < w.heap.size ∧ ∀ i, i < N → w.rangeAt ab (ao + i * 16) (Af i).toList))
    (HNW : Hid (∀ x, Below w.heap.size w x → Calls Try.prog 9 #[.slice p 24 cap] x fun e x' => ∃ c, e = .returned (.tuple #[.pointer (some ⟨c, 0, none⟩), .int .i64 0]) ∧ Hid (KC x' c) ∧ Hid (Below x.heap.size x x')))
    (HKP : Hid (∀ x x' c, KC x c → Below x.heap.size x x' → KC x' c))
    (HBL : Hid (∀ i c x, i < N → KC x c → Calls Try.prog 13 #[.pointer (some ⟨c, 0, none⟩), .agg (Af i)] x fun e x' => e = .returned (.agg (Xf i)) ∧ Below x.heap.size x x'))
    (HXX : Hid (∀ i x, i < N → (Op.equalIn 10000 35 (.agg (Xf i)) (.agg (Xf i))).run Try.prog x = .ok true x)) :
    Calls Try.prog 6 #[.slice p 24 cap, .slice tp len tcap] w (YesSay w) := by
  have hng := Try.noGuard
  have R0 : Hid (Below w.heap.size w w) := Below.refl _ _
  go_enter Try.func6, Try.ntmps6
  go_upto_region 8 with (first
    | (go_at_call 9; have R := R1.out; refine (HNW.out _ R).mono ?_; rintro e x2 ⟨d, rfl, HD2, HQ⟩; have R2 : Hid (Below w.heap.size w x2) := R.trans (HQ.out.mono R.size); have HC2 : Hid (KC x2 c) := HKP.out _ _ _ HC1.out HQ.out; clear R1 HC1 HQ R)
    | (go_at_call 9; have R := R0.out; refine (HNW.out _ R).mono ?_; rintro e x1 ⟨c, rfl, HC1, HQ⟩; have R1 : Hid (Below w.heap.size w x1) := R.trans (HQ.out.mono R.size); clear R0 HQ R))
  have HN : Hid ((if (20 : Int) < (len : Int) then (20 : Int) else (len : Int)) = ((N : Nat) : Int)) := by
    show _ = _
    split <;> omega
  rw [HN.out]
  have HL : Hid ((N : Int) ≤ (len : Int) ∧ N ≤ 20) := ⟨by omega, by omega⟩
  have hN20 : N ≤ 20 := HL.out.2
  clear hN hlen
  have HMR : Hid (∀ ab ao, tp = some ⟨ab, ao, none⟩ → ab < w.heap.size → (∀ i, i < N → w.rangeAt ab (ao + i * 16) (Af i).toList) → ∀ x, Below x2.heap.size x2 x → ∀ i, i < N → x.rangeAt ab (ao + i * 16) (Af i).toList) := fun ab ao _ hab hr x hx i hi j v hv =>
    ((R2.out.trans (hx.mono R2.out.size)).cell hab).trans (hr i hi j v hv)
  have HKC : Hid (∀ x, Below x2.heap.size x2 x → KC x c ∧ KC x d) := fun x hx => ⟨HKP.out _ _ _ HC2.out hx, HKP.out _ _ _ HD2.out hx⟩
  have B0 : Hid (Below x2.heap.size x2 x2) := Below.refl _ _
  go_wp2
  go_loopw [10, 11] (fun v10 v11 wr => ∃ i : Nat, i ≤ N ∧ v11 = .int .i64 i ∧ Hid (wr.ownsRow x2.heap.size 35 16 v10 i (catX Xf i)) ∧ Hid (Below x2.heap.size x2 wr)) (fun _ v11 _ => N - (intOf v11).toNat)
  case atStart => exact ⟨0, by omega, rfl, World.ownsRow_nil _ _ _ _, B0.out⟩
  case round =>
    clear B0
    obtain ⟨i, hi, rfl, HO, HB⟩ := hrel
    by_cases hlt : i < N
    · obtain ⟨ab, ao, htp, hab, hra⟩ := HM.out (by omega)
      subst htp
      have HRA := Lib.hid (HMR.out ab ao rfl hab hra wr HB.out i hlt)
      clear hra
      have HKC1 := Lib.hid (HKC.out wr HB.out)
      have AS1 : Hid ((Af i).size = 16) := AS.out i hlt
      have XS1 : Hid ((Xf i).size = 16) := XS.out i hlt
      have XO1 : Hid (∀ v ∈ (Xf i).toList, v.oneCell' = true) := XO.out i hlt
      have HB1 : Hid (∀ c x, KC x c → Calls Try.prog 13 #[.pointer (some ⟨c, 0, none⟩), .agg (Af i)] x fun e x' => e = .returned (.agg (Xf i)) ∧ Below x.heap.size x x') := fun c x h => HBL.out i c x hlt h
      have HCT : Hid (catX Xf i ++ (Xf i).toList = catX Xf (i + 1)) := rfl
      have hn0 : (i : Int) < (N : Int) := by omega
      have hn1 : (i : Int) < (len : Int) := by have := HL.out.1; omega
      have hn2 : i < len := by omega
      generalize Af i = Ai at *
      generalize Xf i = Xi at *
      go_wp2_with (first
        | ((with_reducible refine append_arr _ _ Xi x2.heap.size u10 i (catX Xf i) ?_ ?_ HO2.out XS1.out XO1.out ?_ ?_ ?_); (exact rfl); (exact rfl); (have := HL.out.2; omega); (exact HB2.out.size); intro g' cap' w5 hown hgrow; have HO5 := Lib.hid hown; have HB5 : Hid (Below x2.heap.size x2 w5) := (HB2.out.alloc HB2.out.size _).grown hgrow (by have := HB2.out.size; simp; omega) (fun j hj => (HO2.out.lt j hj).1); clear hown hgrow)
        | ((with_reducible refine row_buildSlice _ 35 _ Xi (.agg Z16a) 16 ?_ Try.underlying23 Try.zero16 XS1.out ?_ ?_ ?_); (exact rfl); omega; omega)
        | (go_at_call 13; refine (HB1.out c _ HKC1.out.1).mono ?_; rintro e w2 ⟨rfl, hb2⟩; have HO2 : Hid (w2.ownsRow x2.heap.size 35 16 u10 i (catX Xf i)) := own_keep16 HO.out hb2; have HB2 : Hid (Below x2.heap.size x2 w2) := HB.out.trans (hb2.mono HB.out.size); clear hb2)
        | ((with_reducible refine arr_load _ _ ab (ao + i * 16) Ai _ ?_ HRA.out Try.underlying35 ?_ (row_size Try.size16 AS1) ?_); (exact rfl); (exact rfl)))
      have HO6 : Hid (w5.ownsRow x2.heap.size 35 16 (.slice (some ⟨g', 0, none⟩) (i + 1) cap') (i + 1) (catX Xf (i + 1))) := by rw [← HCT.out]; exact HO5.out
      exact ⟨⟨i + 1, by omega, by go_num, HO6, HB5⟩, by simp [intOf]; omega⟩
    · have hge : N ≤ i := by omega
      obtain rfl : i = N := by omega
      clear hlt
      have hgi : (i : Int) ≤ (i : Int) := Int.le_refl _
      have hi20 : i ≤ 20 := hN20
      have hi20z : (i : Int) ≤ 20 := by omega
      have hwz : IntKind.i64.wrap ((i : Int) - 1) = (i : Int) - 1 := IntWalk.i64_in _ ⟨by omega, by omega⟩
      go_wp2
      generalize wr = wA at *
      go_loopw [12] (fun v12 wr => ∃ (k : Nat) (z : Int), k ≤ i ∧ v12 = .int .i64 z ∧ Hid (z = (k : Int) - 1) ∧ Hid (wr.ownsRow x2.heap.size 35 16 u10 i (catX Xf i)) ∧ Hid (Below x2.heap.size x2 wr)) (fun v12 _ => (intOf v12 + 1).toNat)
      case atStart => exact ⟨i, _, Nat.le_refl _, rfl, (by first | rfl | exact hwz), HO.out, HB.out⟩
      case round =>
        clear HO HB
        obtain ⟨k, z, hk, rfl, HZ, HO, HB⟩ := hrel
        by_cases h0 : 0 < k
        · obtain ⟨j, rfl⟩ : ∃ j, k = j + 1 := ⟨k - 1, by omega⟩
          obtain rfl : z = (j : Int) := by have := HZ.out; omega
          have hj : j < i := by omega
          obtain ⟨ab, ao, htp, hab, hra⟩ := HM.out (by omega)
          subst htp
          obtain ⟨g', cap', hv⟩ : ∃ g' cap', u10 = .slice (some ⟨g', 0, none⟩) i cap' := by
            rcases HO.out.2 with ⟨_, h0⟩ | ⟨g', cap', cur, h, _⟩
            · omega
            · exact ⟨g', cap', h⟩
          subst hv
          have hXr : Hid (wr.rangeAt g' (j * 16) (Xf j).toList) := fun q v hq => by
            have h := HO.out.cells (g := g') rfl (j * 16 + q) v (cat_get Xf i j q v XS.out hj hq)
            rw [Addr.add_mid, Nat.zero_add] at h
            exact h
          have HRA := Lib.hid (HMR.out ab ao rfl hab hra wr HB.out j hj)
          clear hra
          have HKC1 := Lib.hid (HKC.out wr HB.out)
          have AS1 : Hid ((Af j).size = 16) := AS.out j hj
          have XS1 : Hid ((Xf j).size = 16) := XS.out j hj
          have HB1 : Hid (∀ c x, KC x c → Calls Try.prog 13 #[.pointer (some ⟨c, 0, none⟩), .agg (Af j)] x fun e x' => e = .returned (.agg (Xf j)) ∧ Below x.heap.size x x') := fun c x h => HBL.out j c x hj h
          have HEQ : ∀ x, (Op.equalIn 10000 35 (.agg (Xf j)) (.agg (Xf j))).run Try.prog x = .ok true x := fun x => HXX.out j x hj
          have hp0 : (0 : Int) ≤ (j : Int) := by omega
          have hn0 : (j : Int) < (i : Int) := by omega
          have hn1 : (j : Int) < (len : Int) := by have := HL.out.1; omega
          have hn2 : j < len := by omega
          have HO3 := HO
          generalize catX Xf i = CX at *
          generalize Af j = Ai at *
          generalize Xf j = Xi at *
          go_upto_region 16 with fail
          refine wp_region_any (by kernel_rfl) ?_
          change wpAny _ _ _ _ _ _ _ (World.drew _)
          have HXr : Hid (wr.drew.rangeAt g' (j * 16) Xi.toList) := hXr.out
          have HRr : Hid (wr.drew.rangeAt ab (ao + j * 16) Ai.toList) := HRA.out
          have HKr : Hid (KC wr.drew c ∧ KC wr.drew d) := ⟨HKP.out _ _ _ HKC1.out.1 (Below.refl _ _).drew, HKP.out _ _ _ HKC1.out.2 (Below.refl _ _).drew⟩
          have HOr : Hid (wr.drew.ownsRow x2.heap.size 35 16 (.slice (some ⟨g', 0, none⟩) i cap') i CX) := HO3.out.drew
          have HBr : Hid (Below x2.heap.size x2 wr.drew) := HB.out.drew
          have hgl : Hid (g' < wr.drew.heap.size) := (HOr.out.lt g' rfl).2
          have hal : Hid (ab < wr.drew.heap.size) := Nat.lt_of_lt_of_le hab (Nat.le_trans R2.out.size HBr.out.size)
          clear hXr HRA HKC1 HO HO3 HB
          generalize wr.drew = w8 at *
          have Sz0 : Hid (Below w8.heap.size w8 w8) := Below.refl _ _
          have HLX : Hid (∀ x, Below w8.heap.size w8 x → x.rangeAt g' (j * 16) Xi.toList) := fun x hx q v hq => (hx.cell hgl.out).trans (HXr.out q v hq)
          have HLA : Hid (∀ x, Below w8.heap.size w8 x → x.rangeAt ab (ao + j * 16) Ai.toList) := fun x hx q v hq => (hx.cell hal.out).trans (HRr.out q v hq)
          clear HXr HRr
          refine wpAny_of_held (S := fun x : World => Below w8.heap.size w8 x) _ _ _ _ ?_
          refine anyH_take 0 52 (.pointer (some ⟨d, 0, none⟩)) Sz0.out rfl (by kernel_rfl) (by kernel_rfl) (by kernel_rfl) (fun _ _ _ h => h) (by rfl) (by intro x hx; go_simp; try (intro h; omega)) ?_
          try simp only [Act.put, List.setIfInBounds_toArray, List.set_cons_zero, List.set_cons_succ]
          refine anyH_take 1 53 (.slice (some ⟨ab, ao, none⟩) len tcap) Sz0.out rfl (by kernel_rfl) (by kernel_rfl) (by kernel_rfl) (fun _ _ _ h => h) (by rfl) (by intro x hx; go_simp; try (intro h; omega)) ?_
          try simp only [Act.put, List.setIfInBounds_toArray, List.set_cons_zero, List.set_cons_succ]
          refine anyH_take 2 54 (.int .i64 (j : Int)) Sz0.out rfl (by kernel_rfl) (by kernel_rfl) (by kernel_rfl) (fun _ _ _ h => h) (by rfl) (by intro x hx; go_simp; try (intro h; omega)) ?_
          try simp only [Act.put, List.setIfInBounds_toArray, List.set_cons_zero, List.set_cons_succ]
          refine anyH_take 3 55 (.pointer (some ⟨ab, ao + j * 16, none⟩)) Sz0.out rfl (by kernel_rfl) (by kernel_rfl) (by kernel_rfl) (fun _ _ _ h => h) (by rfl) (by intro x hx; go_simp; try (intro h; omega)) ?_
          try simp only [Act.put, List.setIfInBounds_toArray, List.set_cons_zero, List.set_cons_succ]
          refine anyH_take 4 56 (.agg Ai) Sz0.out rfl (by kernel_rfl) (by kernel_rfl) (by kernel_rfl) (fun _ _ _ h => h) (by rfl) (fun x hx => exec_arr _ _ ab (ao + j * 16) Ai _ rfl (HLA.out x hx) Try.underlying35 rfl (row_size Try.size16 AS1)) ?_
          try simp only [Act.put, List.setIfInBounds_toArray, List.set_cons_zero, List.set_cons_succ]
          refine anyH_take 6 58 (.slice (some ⟨g', 0, none⟩) i cap') Sz0.out rfl (by kernel_rfl) (by kernel_rfl) (by kernel_rfl) (fun _ _ _ h => h) (by rfl) (by intro x hx; go_simp; try (intro h; omega)) ?_
          try simp only [Act.put, List.setIfInBounds_toArray, List.set_cons_zero, List.set_cons_succ]
          refine anyH_take 7 59 (.int .i64 (j : Int)) Sz0.out rfl (by kernel_rfl) (by kernel_rfl) (by kernel_rfl) (fun _ _ _ h => h) (by rfl) (by intro x hx; go_simp; try (intro h; omega)) ?_
          try simp only [Act.put, List.setIfInBounds_toArray, List.set_cons_zero, List.set_cons_succ]
          refine anyH_take 8 60 (.pointer (some ⟨g', j * 16, none⟩)) Sz0.out rfl (by kernel_rfl) (by kernel_rfl) (by kernel_rfl) (fun _ _ _ h => h) (by rfl) (by intro x hx; go_simp; try (intro h; omega)) ?_
          try simp only [Act.put, List.setIfInBounds_toArray, List.set_cons_zero, List.set_cons_succ]
          refine anyH_take 9 61 (.agg Xi) Sz0.out rfl (by kernel_rfl) (by kernel_rfl) (by kernel_rfl) (fun _ _ _ h => h) (by rfl) (fun x hx => exec_arr _ _ g' (j * 16) Xi _ rfl (HLX.out x hx) Try.underlying35 rfl (row_size Try.size16 XS1)) ?_
          try simp only [Act.put, List.setIfInBounds_toArray, List.set_cons_zero, List.set_cons_succ]
          refine anyH_one 5 (by kernel_rfl) ?_
          refine wpOp_step rfl (fun Kc hKc => ?_)
          go_simp
          refine (HB1.out d _ HKr.out.2).mono ?_
          rintro e z1 ⟨rfl, hb⟩
          have Sz1 : Hid (Below w8.heap.size w8 z1) := Sz0.out.trans (hb.mono Sz0.out.size)
          clear hb
          dsimp only
          refine hKc _ _ ⟨Sz1.out, ?_⟩
          clear hKc Kc
          try simp only [Act.put, List.setIfInBounds_toArray, List.set_cons_zero, List.set_cons_succ]
          refine anyH_take 10 62 (.bool false) Sz1.out rfl (by kernel_rfl) (by kernel_rfl) (by kernel_rfl) (fun _ _ _ h => h) (by rfl) (by intro x hx; go_simp; try (intro h; omega)) ?_
          try simp only [Act.put, List.setIfInBounds_toArray, List.set_cons_zero, List.set_cons_succ]
          refine anyH_take 11 63 (.bool false) Sz1.out rfl (by kernel_rfl) (by kernel_rfl) (by kernel_rfl) (fun _ _ _ h => h) (by rfl) (by intro x hx; go_simp; try (intro h; omega)) ?_
          try simp only [Act.put, List.setIfInBounds_toArray, List.set_cons_zero, List.set_cons_succ]
          refine anyH_take 12 64 (.pointer (some ⟨c, 0, none⟩)) Sz1.out rfl (by kernel_rfl) (by kernel_rfl) (by kernel_rfl) (fun _ _ _ h => h) (by rfl) (by intro x hx; go_simp; try (intro h; omega)) ?_
          try simp only [Act.put, List.setIfInBounds_toArray, List.set_cons_zero, List.set_cons_succ]
          refine anyH_take 13 65 (.slice (some ⟨ab, ao, none⟩) len tcap) Sz1.out rfl (by kernel_rfl) (by kernel_rfl) (by kernel_rfl) (fun _ _ _ h => h) (by rfl) (by intro x hx; go_simp; try (intro h; omega)) ?_
          try simp only [Act.put, List.setIfInBounds_toArray, List.set_cons_zero, List.set_cons_succ]
          refine anyH_take 14 66 (.int .i64 (j : Int)) Sz1.out rfl (by kernel_rfl) (by kernel_rfl) (by kernel_rfl) (fun _ _ _ h => h) (by rfl) (by intro x hx; go_simp; try (intro h; omega)) ?_
          try simp only [Act.put, List.setIfInBounds_toArray, List.set_cons_zero, List.set_cons_succ]
          refine anyH_take 15 67 (.pointer (some ⟨ab, ao + j * 16, none⟩)) Sz1.out rfl (by kernel_rfl) (by kernel_rfl) (by kernel_rfl) (fun _ _ _ h => h) (by rfl) (by intro x hx; go_simp; try (intro h; omega)) ?_
          try simp only [Act.put, List.setIfInBounds_toArray, List.set_cons_zero, List.set_cons_succ]
          refine anyH_take 16 68 (.agg Ai) Sz1.out rfl (by kernel_rfl) (by kernel_rfl) (by kernel_rfl) (fun _ _ _ h => h) (by rfl) (fun x hx => exec_arr _ _ ab (ao + j * 16) Ai _ rfl (HLA.out x hx) Try.underlying35 rfl (row_size Try.size16 AS1)) ?_
          try simp only [Act.put, List.setIfInBounds_toArray, List.set_cons_zero, List.set_cons_succ]
          refine anyH_take 18 70 (.slice (some ⟨g', 0, none⟩) i cap') Sz1.out rfl (by kernel_rfl) (by kernel_rfl) (by kernel_rfl) (fun _ _ _ h => h) (by rfl) (by intro x hx; go_simp; try (intro h; omega)) ?_
          try simp only [Act.put, List.setIfInBounds_toArray, List.set_cons_zero, List.set_cons_succ]
          refine anyH_take 19 71 (.int .i64 (j : Int)) Sz1.out rfl (by kernel_rfl) (by kernel_rfl) (by kernel_rfl) (fun _ _ _ h => h) (by rfl) (by intro x hx; go_simp; try (intro h; omega)) ?_
          try simp only [Act.put, List.setIfInBounds_toArray, List.set_cons_zero, List.set_cons_succ]
          refine anyH_take 20 72 (.pointer (some ⟨g', j * 16, none⟩)) Sz1.out rfl (by kernel_rfl) (by kernel_rfl) (by kernel_rfl) (fun _ _ _ h => h) (by rfl) (by intro x hx; go_simp; try (intro h; omega)) ?_
          try simp only [Act.put, List.setIfInBounds_toArray, List.set_cons_zero, List.set_cons_succ]
          refine anyH_take 21 73 (.agg Xi) Sz1.out rfl (by kernel_rfl) (by kernel_rfl) (by kernel_rfl) (fun _ _ _ h => h) (by rfl) (fun x hx => exec_arr _ _ g' (j * 16) Xi _ rfl (HLX.out x hx) Try.underlying35 rfl (row_size Try.size16 XS1)) ?_
          try simp only [Act.put, List.setIfInBounds_toArray, List.set_cons_zero, List.set_cons_succ]
          refine anyH_one 17 (by kernel_rfl) ?_
          refine wpOp_step rfl (fun Kc hKc => ?_)
          go_simp
          refine (HB1.out c _ (HKP.out _ _ _ HKr.out.1 Sz1.out)).mono ?_
          rintro e z2 ⟨rfl, hb⟩
          have Sz2 : Hid (Below w8.heap.size w8 z2) := Sz1.out.trans (hb.mono Sz1.out.size)
          clear hb
          dsimp only
          refine hKc _ _ ⟨Sz2.out, ?_⟩
          clear hKc Kc
          try simp only [Act.put, List.setIfInBounds_toArray, List.set_cons_zero, List.set_cons_succ]
          refine anyH_take 22 74 (.bool false) Sz2.out rfl (by kernel_rfl) (by kernel_rfl) (by kernel_rfl) (fun _ _ _ h => h) (by rfl) (by intro x hx; go_simp; try (intro h; omega)) ?_
          try simp only [Act.put, List.setIfInBounds_toArray, List.set_cons_zero, List.set_cons_succ]
          refine anyH_take 23 75 (.bool false) Sz2.out rfl (by kernel_rfl) (by kernel_rfl) (by kernel_rfl) (fun _ _ _ h => h) (by rfl) (by intro x hx; go_simp; try (intro h; omega)) ?_
          try simp only [Act.put, List.setIfInBounds_toArray, List.set_cons_zero, List.set_cons_succ]
          refine anyH_done (by kernel_rfl) ?_ _
          have HO9 : Hid (z2.ownsRow x2.heap.size 35 16 (.slice (some ⟨g', 0, none⟩) i cap') i CX) := own_keep16 HOr.out Sz2.out
          have HB9 : Hid (Below x2.heap.size x2 z2) := HBr.out.trans (Sz2.out.mono HBr.out.size)
          clear HOr HBr HLX HLA HKr HB1 HEQ
          go_wp2
          refine ⟨⟨j, (j : Int) - 1, by omega, rfl, (show (j : Int) - 1 = (j : Int) - 1 from rfl), HO9, HB9⟩, ?_⟩
          simp [intOf]
        · have hk0 : k = 0 := by omega
          subst hk0
          obtain rfl : z = -1 := by have := HZ.out; omega
          go_wp2_with (go_at_call 7; refine (known_any _).mono ?_; rintro e w9 ⟨rfl, hb⟩; have R9 : Hid (Below w.heap.size w w9) := (R2.out.trans (HB.out.mono R2.out.size)).trans (hb.mono (Nat.le_trans R2.out.size HB.out.size)); clear hb)
          go_ret
          exact ⟨rfl, R9.out⟩

set_option maxHeartbeats 4000000 in
set_option maxRecDepth 100000 in
theorem order_32 (p : Option Addr) (cap : Nat) (tp : Option Addr) (len tcap N : Nat) (hN : N = min len 20) (hlen : len ≤ 9223372036854775807) (Af Xf : Nat → Array Value) (AS : Hid (∀ i, i < N → (Af i).size = 16)) (XS : Hid (∀ i, i < N → (Xf i).size = 16)) (XO : Hid (∀ i, i < N → ∀ v ∈ (Xf i).toList, v.oneCell' = true)) (KC : World → Nat → Prop) (w : World)
    (HM : Hid (0 < N → ∃ ab ao, tp = some ⟨ab, ao, none⟩ ∧ ab < w.heap.size ∧ ∀ i, i < N → w.rangeAt ab (ao + i * 16) (Af i).toList))
    (HNW : Hid (∀ x, Below w.heap.size w x → Calls Try.prog 9 #[.slice p 32 cap] x fun e x' => ∃ c, e = .returned (.tuple #[.pointer (some ⟨c, 0, none⟩), .int .i64 0]) ∧ Hid (KC x' c) ∧ Hid (Below x.heap.size x x')))
    (HKP : Hid (∀ x x' c, KC x c → Below x.heap.size x x' → KC x' c))
    (HBL : Hid (∀ i c x, i < N → KC x c → Calls Try.prog 13 #[.pointer (some ⟨c, 0, none⟩), .agg (Af i)] x fun e x' => e = .returned (.agg (Xf i)) ∧ Below x.heap.size x x'))
    (HXX : Hid (∀ i x, i < N → (Op.equalIn 10000 35 (.agg (Xf i)) (.agg (Xf i))).run Try.prog x = .ok true x)) :
    Calls Try.prog 6 #[.slice p 32 cap, .slice tp len tcap] w (YesSay w) := by
  have hng := Try.noGuard
  have R0 : Hid (Below w.heap.size w w) := Below.refl _ _
  go_enter Try.func6, Try.ntmps6
  go_upto_region 8 with (first
    | (go_at_call 9; have R := R1.out; refine (HNW.out _ R).mono ?_; rintro e x2 ⟨d, rfl, HD2, HQ⟩; have R2 : Hid (Below w.heap.size w x2) := R.trans (HQ.out.mono R.size); have HC2 : Hid (KC x2 c) := HKP.out _ _ _ HC1.out HQ.out; clear R1 HC1 HQ R)
    | (go_at_call 9; have R := R0.out; refine (HNW.out _ R).mono ?_; rintro e x1 ⟨c, rfl, HC1, HQ⟩; have R1 : Hid (Below w.heap.size w x1) := R.trans (HQ.out.mono R.size); clear R0 HQ R))
  have HN : Hid ((if (20 : Int) < (len : Int) then (20 : Int) else (len : Int)) = ((N : Nat) : Int)) := by
    show _ = _
    split <;> omega
  rw [HN.out]
  have HL : Hid ((N : Int) ≤ (len : Int) ∧ N ≤ 20) := ⟨by omega, by omega⟩
  have hN20 : N ≤ 20 := HL.out.2
  clear hN hlen
  have HMR : Hid (∀ ab ao, tp = some ⟨ab, ao, none⟩ → ab < w.heap.size → (∀ i, i < N → w.rangeAt ab (ao + i * 16) (Af i).toList) → ∀ x, Below x2.heap.size x2 x → ∀ i, i < N → x.rangeAt ab (ao + i * 16) (Af i).toList) := fun ab ao _ hab hr x hx i hi j v hv =>
    ((R2.out.trans (hx.mono R2.out.size)).cell hab).trans (hr i hi j v hv)
  have HKC : Hid (∀ x, Below x2.heap.size x2 x → KC x c ∧ KC x d) := fun x hx => ⟨HKP.out _ _ _ HC2.out hx, HKP.out _ _ _ HD2.out hx⟩
  have B0 : Hid (Below x2.heap.size x2 x2) := Below.refl _ _
  go_wp2
  go_loopw [10, 11] (fun v10 v11 wr => ∃ i : Nat, i ≤ N ∧ v11 = .int .i64 i ∧ Hid (wr.ownsRow x2.heap.size 35 16 v10 i (catX Xf i)) ∧ Hid (Below x2.heap.size x2 wr)) (fun _ v11 _ => N - (intOf v11).toNat)
  case atStart => exact ⟨0, by omega, rfl, World.ownsRow_nil _ _ _ _, B0.out⟩
  case round =>
    clear B0
    obtain ⟨i, hi, rfl, HO, HB⟩ := hrel
    by_cases hlt : i < N
    · obtain ⟨ab, ao, htp, hab, hra⟩ := HM.out (by omega)
      subst htp
      have HRA := Lib.hid (HMR.out ab ao rfl hab hra wr HB.out i hlt)
      clear hra
      have HKC1 := Lib.hid (HKC.out wr HB.out)
      have AS1 : Hid ((Af i).size = 16) := AS.out i hlt
      have XS1 : Hid ((Xf i).size = 16) := XS.out i hlt
      have XO1 : Hid (∀ v ∈ (Xf i).toList, v.oneCell' = true) := XO.out i hlt
      have HB1 : Hid (∀ c x, KC x c → Calls Try.prog 13 #[.pointer (some ⟨c, 0, none⟩), .agg (Af i)] x fun e x' => e = .returned (.agg (Xf i)) ∧ Below x.heap.size x x') := fun c x h => HBL.out i c x hlt h
      have HCT : Hid (catX Xf i ++ (Xf i).toList = catX Xf (i + 1)) := rfl
      have hn0 : (i : Int) < (N : Int) := by omega
      have hn1 : (i : Int) < (len : Int) := by have := HL.out.1; omega
      have hn2 : i < len := by omega
      generalize Af i = Ai at *
      generalize Xf i = Xi at *
      go_wp2_with (first
        | ((with_reducible refine append_arr _ _ Xi x2.heap.size u10 i (catX Xf i) ?_ ?_ HO2.out XS1.out XO1.out ?_ ?_ ?_); (exact rfl); (exact rfl); (have := HL.out.2; omega); (exact HB2.out.size); intro g' cap' w5 hown hgrow; have HO5 := Lib.hid hown; have HB5 : Hid (Below x2.heap.size x2 w5) := (HB2.out.alloc HB2.out.size _).grown hgrow (by have := HB2.out.size; simp; omega) (fun j hj => (HO2.out.lt j hj).1); clear hown hgrow)
        | ((with_reducible refine row_buildSlice _ 35 _ Xi (.agg Z16a) 16 ?_ Try.underlying23 Try.zero16 XS1.out ?_ ?_ ?_); (exact rfl); omega; omega)
        | (go_at_call 13; refine (HB1.out c _ HKC1.out.1).mono ?_; rintro e w2 ⟨rfl, hb2⟩; have HO2 : Hid (w2.ownsRow x2.heap.size 35 16 u10 i (catX Xf i)) := own_keep16 HO.out hb2; have HB2 : Hid (Below x2.heap.size x2 w2) := HB.out.trans (hb2.mono HB.out.size); clear hb2)
        | ((with_reducible refine arr_load _ _ ab (ao + i * 16) Ai _ ?_ HRA.out Try.underlying35 ?_ (row_size Try.size16 AS1) ?_); (exact rfl); (exact rfl)))
      have HO6 : Hid (w5.ownsRow x2.heap.size 35 16 (.slice (some ⟨g', 0, none⟩) (i + 1) cap') (i + 1) (catX Xf (i + 1))) := by rw [← HCT.out]; exact HO5.out
      exact ⟨⟨i + 1, by omega, by go_num, HO6, HB5⟩, by simp [intOf]; omega⟩
    · have hge : N ≤ i := by omega
      obtain rfl : i = N := by omega
      clear hlt
      have hgi : (i : Int) ≤ (i : Int) := Int.le_refl _
      have hi20 : i ≤ 20 := hN20
      have hi20z : (i : Int) ≤ 20 := by omega
      have hwz : IntKind.i64.wrap ((i : Int) - 1) = (i : Int) - 1 := IntWalk.i64_in _ ⟨by omega, by omega⟩
      go_wp2
      generalize wr = wA at *
      go_loopw [12] (fun v12 wr => ∃ (k : Nat) (z : Int), k ≤ i ∧ v12 = .int .i64 z ∧ Hid (z = (k : Int) - 1) ∧ Hid (wr.ownsRow x2.heap.size 35 16 u10 i (catX Xf i)) ∧ Hid (Below x2.heap.size x2 wr)) (fun v12 _ => (intOf v12 + 1).toNat)
      case atStart => exact ⟨i, _, Nat.le_refl _, rfl, (by first | rfl | exact hwz), HO.out, HB.out⟩
      case round =>
        clear HO HB
        obtain ⟨k, z, hk, rfl, HZ, HO, HB⟩ := hrel
        by_cases h0 : 0 < k
        · obtain ⟨j, rfl⟩ : ∃ j, k = j + 1 := ⟨k - 1, by omega⟩
          obtain rfl : z = (j : Int) := by have := HZ.out; omega
          have hj : j < i := by omega
          obtain ⟨ab, ao, htp, hab, hra⟩ := HM.out (by omega)
          subst htp
          obtain ⟨g', cap', hv⟩ : ∃ g' cap', u10 = .slice (some ⟨g', 0, none⟩) i cap' := by
            rcases HO.out.2 with ⟨_, h0⟩ | ⟨g', cap', cur, h, _⟩
            · omega
            · exact ⟨g', cap', h⟩
          subst hv
          have hXr : Hid (wr.rangeAt g' (j * 16) (Xf j).toList) := fun q v hq => by
            have h := HO.out.cells (g := g') rfl (j * 16 + q) v (cat_get Xf i j q v XS.out hj hq)
            rw [Addr.add_mid, Nat.zero_add] at h
            exact h
          have HRA := Lib.hid (HMR.out ab ao rfl hab hra wr HB.out j hj)
          clear hra
          have HKC1 := Lib.hid (HKC.out wr HB.out)
          have AS1 : Hid ((Af j).size = 16) := AS.out j hj
          have XS1 : Hid ((Xf j).size = 16) := XS.out j hj
          have HB1 : Hid (∀ c x, KC x c → Calls Try.prog 13 #[.pointer (some ⟨c, 0, none⟩), .agg (Af j)] x fun e x' => e = .returned (.agg (Xf j)) ∧ Below x.heap.size x x') := fun c x h => HBL.out j c x hj h
          have HEQ : ∀ x, (Op.equalIn 10000 35 (.agg (Xf j)) (.agg (Xf j))).run Try.prog x = .ok true x := fun x => HXX.out j x hj
          have hp0 : (0 : Int) ≤ (j : Int) := by omega
          have hn0 : (j : Int) < (i : Int) := by omega
          have hn1 : (j : Int) < (len : Int) := by have := HL.out.1; omega
          have hn2 : j < len := by omega
          have HO3 := HO
          generalize catX Xf i = CX at *
          generalize Af j = Ai at *
          generalize Xf j = Xi at *
          go_upto_region 16 with fail
          refine wp_region_any (by kernel_rfl) ?_
          change wpAny _ _ _ _ _ _ _ (World.drew _)
          have HXr : Hid (wr.drew.rangeAt g' (j * 16) Xi.toList) := hXr.out
          have HRr : Hid (wr.drew.rangeAt ab (ao + j * 16) Ai.toList) := HRA.out
          have HKr : Hid (KC wr.drew c ∧ KC wr.drew d) := ⟨HKP.out _ _ _ HKC1.out.1 (Below.refl _ _).drew, HKP.out _ _ _ HKC1.out.2 (Below.refl _ _).drew⟩
          have HOr : Hid (wr.drew.ownsRow x2.heap.size 35 16 (.slice (some ⟨g', 0, none⟩) i cap') i CX) := HO3.out.drew
          have HBr : Hid (Below x2.heap.size x2 wr.drew) := HB.out.drew
          have hgl : Hid (g' < wr.drew.heap.size) := (HOr.out.lt g' rfl).2
          have hal : Hid (ab < wr.drew.heap.size) := Nat.lt_of_lt_of_le hab (Nat.le_trans R2.out.size HBr.out.size)
          clear hXr HRA HKC1 HO HO3 HB
          generalize wr.drew = w8 at *
          have Sz0 : Hid (Below w8.heap.size w8 w8) := Below.refl _ _
          have HLX : Hid (∀ x, Below w8.heap.size w8 x → x.rangeAt g' (j * 16) Xi.toList) := fun x hx q v hq => (hx.cell hgl.out).trans (HXr.out q v hq)
          have HLA : Hid (∀ x, Below w8.heap.size w8 x → x.rangeAt ab (ao + j * 16) Ai.toList) := fun x hx q v hq => (hx.cell hal.out).trans (HRr.out q v hq)
          clear HXr HRr
          refine wpAny_of_held (S := fun x : World => Below w8.heap.size w8 x) _ _ _ _ ?_
          refine anyH_take 0 52 (.pointer (some ⟨d, 0, none⟩)) Sz0.out rfl (by kernel_rfl) (by kernel_rfl) (by kernel_rfl) (fun _ _ _ h => h) (by rfl) (by intro x hx; go_simp; try (intro h; omega)) ?_
          try simp only [Act.put, List.setIfInBounds_toArray, List.set_cons_zero, List.set_cons_succ]
          refine anyH_take 1 53 (.slice (some ⟨ab, ao, none⟩) len tcap) Sz0.out rfl (by kernel_rfl) (by kernel_rfl) (by kernel_rfl) (fun _ _ _ h => h) (by rfl) (by intro x hx; go_simp; try (intro h; omega)) ?_
          try simp only [Act.put, List.setIfInBounds_toArray, List.set_cons_zero, List.set_cons_succ]
          refine anyH_take 2 54 (.int .i64 (j : Int)) Sz0.out rfl (by kernel_rfl) (by kernel_rfl) (by kernel_rfl) (fun _ _ _ h => h) (by rfl) (by intro x hx; go_simp; try (intro h; omega)) ?_
          try simp only [Act.put, List.setIfInBounds_toArray, List.set_cons_zero, List.set_cons_succ]
          refine anyH_take 3 55 (.pointer (some ⟨ab, ao + j * 16, none⟩)) Sz0.out rfl (by kernel_rfl) (by kernel_rfl) (by kernel_rfl) (fun _ _ _ h => h) (by rfl) (by intro x hx; go_simp; try (intro h; omega)) ?_
          try simp only [Act.put, List.setIfInBounds_toArray, List.set_cons_zero, List.set_cons_succ]
          refine anyH_take 4 56 (.agg Ai) Sz0.out rfl (by kernel_rfl) (by kernel_rfl) (by kernel_rfl) (fun _ _ _ h => h) (by rfl) (fun x hx => exec_arr _ _ ab (ao + j * 16) Ai _ rfl (HLA.out x hx) Try.underlying35 rfl (row_size Try.size16 AS1)) ?_
          try simp only [Act.put, List.setIfInBounds_toArray, List.set_cons_zero, List.set_cons_succ]
          refine anyH_take 6 58 (.slice (some ⟨g', 0, none⟩) i cap') Sz0.out rfl (by kernel_rfl) (by kernel_rfl) (by kernel_rfl) (fun _ _ _ h => h) (by rfl) (by intro x hx; go_simp; try (intro h; omega)) ?_
          try simp only [Act.put, List.setIfInBounds_toArray, List.set_cons_zero, List.set_cons_succ]
          refine anyH_take 7 59 (.int .i64 (j : Int)) Sz0.out rfl (by kernel_rfl) (by kernel_rfl) (by kernel_rfl) (fun _ _ _ h => h) (by rfl) (by intro x hx; go_simp; try (intro h; omega)) ?_
          try simp only [Act.put, List.setIfInBounds_toArray, List.set_cons_zero, List.set_cons_succ]
          refine anyH_take 8 60 (.pointer (some ⟨g', j * 16, none⟩)) Sz0.out rfl (by kernel_rfl) (by kernel_rfl) (by kernel_rfl) (fun _ _ _ h => h) (by rfl) (by intro x hx; go_simp; try (intro h; omega)) ?_
          try simp only [Act.put, List.setIfInBounds_toArray, List.set_cons_zero, List.set_cons_succ]
          refine anyH_take 9 61 (.agg Xi) Sz0.out rfl (by kernel_rfl) (by kernel_rfl) (by kernel_rfl) (fun _ _ _ h => h) (by rfl) (fun x hx => exec_arr _ _ g' (j * 16) Xi _ rfl (HLX.out x hx) Try.underlying35 rfl (row_size Try.size16 XS1)) ?_
          try simp only [Act.put, List.setIfInBounds_toArray, List.set_cons_zero, List.set_cons_succ]
          refine anyH_one 5 (by kernel_rfl) ?_
          refine wpOp_step rfl (fun Kc hKc => ?_)
          go_simp
          refine (HB1.out d _ HKr.out.2).mono ?_
          rintro e z1 ⟨rfl, hb⟩
          have Sz1 : Hid (Below w8.heap.size w8 z1) := Sz0.out.trans (hb.mono Sz0.out.size)
          clear hb
          dsimp only
          refine hKc _ _ ⟨Sz1.out, ?_⟩
          clear hKc Kc
          try simp only [Act.put, List.setIfInBounds_toArray, List.set_cons_zero, List.set_cons_succ]
          refine anyH_take 10 62 (.bool false) Sz1.out rfl (by kernel_rfl) (by kernel_rfl) (by kernel_rfl) (fun _ _ _ h => h) (by rfl) (by intro x hx; go_simp; try (intro h; omega)) ?_
          try simp only [Act.put, List.setIfInBounds_toArray, List.set_cons_zero, List.set_cons_succ]
          refine anyH_take 11 63 (.bool false) Sz1.out rfl (by kernel_rfl) (by kernel_rfl) (by kernel_rfl) (fun _ _ _ h => h) (by rfl) (by intro x hx; go_simp; try (intro h; omega)) ?_
          try simp only [Act.put, List.setIfInBounds_toArray, List.set_cons_zero, List.set_cons_succ]
          refine anyH_take 12 64 (.pointer (some ⟨c, 0, none⟩)) Sz1.out rfl (by kernel_rfl) (by kernel_rfl) (by kernel_rfl) (fun _ _ _ h => h) (by rfl) (by intro x hx; go_simp; try (intro h; omega)) ?_
          try simp only [Act.put, List.setIfInBounds_toArray, List.set_cons_zero, List.set_cons_succ]
          refine anyH_take 13 65 (.slice (some ⟨ab, ao, none⟩) len tcap) Sz1.out rfl (by kernel_rfl) (by kernel_rfl) (by kernel_rfl) (fun _ _ _ h => h) (by rfl) (by intro x hx; go_simp; try (intro h; omega)) ?_
          try simp only [Act.put, List.setIfInBounds_toArray, List.set_cons_zero, List.set_cons_succ]
          refine anyH_take 14 66 (.int .i64 (j : Int)) Sz1.out rfl (by kernel_rfl) (by kernel_rfl) (by kernel_rfl) (fun _ _ _ h => h) (by rfl) (by intro x hx; go_simp; try (intro h; omega)) ?_
          try simp only [Act.put, List.setIfInBounds_toArray, List.set_cons_zero, List.set_cons_succ]
          refine anyH_take 15 67 (.pointer (some ⟨ab, ao + j * 16, none⟩)) Sz1.out rfl (by kernel_rfl) (by kernel_rfl) (by kernel_rfl) (fun _ _ _ h => h) (by rfl) (by intro x hx; go_simp; try (intro h; omega)) ?_
          try simp only [Act.put, List.setIfInBounds_toArray, List.set_cons_zero, List.set_cons_succ]
          refine anyH_take 16 68 (.agg Ai) Sz1.out rfl (by kernel_rfl) (by kernel_rfl) (by kernel_rfl) (fun _ _ _ h => h) (by rfl) (fun x hx => exec_arr _ _ ab (ao + j * 16) Ai _ rfl (HLA.out x hx) Try.underlying35 rfl (row_size Try.size16 AS1)) ?_
          try simp only [Act.put, List.setIfInBounds_toArray, List.set_cons_zero, List.set_cons_succ]
          refine anyH_take 18 70 (.slice (some ⟨g', 0, none⟩) i cap') Sz1.out rfl (by kernel_rfl) (by kernel_rfl) (by kernel_rfl) (fun _ _ _ h => h) (by rfl) (by intro x hx; go_simp; try (intro h; omega)) ?_
          try simp only [Act.put, List.setIfInBounds_toArray, List.set_cons_zero, List.set_cons_succ]
          refine anyH_take 19 71 (.int .i64 (j : Int)) Sz1.out rfl (by kernel_rfl) (by kernel_rfl) (by kernel_rfl) (fun _ _ _ h => h) (by rfl) (by intro x hx; go_simp; try (intro h; omega)) ?_
          try simp only [Act.put, List.setIfInBounds_toArray, List.set_cons_zero, List.set_cons_succ]
          refine anyH_take 20 72 (.pointer (some ⟨g', j * 16, none⟩)) Sz1.out rfl (by kernel_rfl) (by kernel_rfl) (by kernel_rfl) (fun _ _ _ h => h) (by rfl) (by intro x hx; go_simp; try (intro h; omega)) ?_
          try simp only [Act.put, List.setIfInBounds_toArray, List.set_cons_zero, List.set_cons_succ]
          refine anyH_take 21 73 (.agg Xi) Sz1.out rfl (by kernel_rfl) (by kernel_rfl) (by kernel_rfl) (fun _ _ _ h => h) (by rfl) (fun x hx => exec_arr _ _ g' (j * 16) Xi _ rfl (HLX.out x hx) Try.underlying35 rfl (row_size Try.size16 XS1)) ?_
          try simp only [Act.put, List.setIfInBounds_toArray, List.set_cons_zero, List.set_cons_succ]
          refine anyH_one 17 (by kernel_rfl) ?_
          refine wpOp_step rfl (fun Kc hKc => ?_)
          go_simp
          refine (HB1.out c _ (HKP.out _ _ _ HKr.out.1 Sz1.out)).mono ?_
          rintro e z2 ⟨rfl, hb⟩
          have Sz2 : Hid (Below w8.heap.size w8 z2) := Sz1.out.trans (hb.mono Sz1.out.size)
          clear hb
          dsimp only
          refine hKc _ _ ⟨Sz2.out, ?_⟩
          clear hKc Kc
          try simp only [Act.put, List.setIfInBounds_toArray, List.set_cons_zero, List.set_cons_succ]
          refine anyH_take 22 74 (.bool false) Sz2.out rfl (by kernel_rfl) (by kernel_rfl) (by kernel_rfl) (fun _ _ _ h => h) (by rfl) (by intro x hx; go_simp; try (intro h; omega)) ?_
          try simp only [Act.put, List.setIfInBounds_toArray, List.set_cons_zero, List.set_cons_succ]
          refine anyH_take 23 75 (.bool false) Sz2.out rfl (by kernel_rfl) (by kernel_rfl) (by kernel_rfl) (fun _ _ _ h => h) (by rfl) (by intro x hx; go_simp; try (intro h; omega)) ?_
          try simp only [Act.put, List.setIfInBounds_toArray, List.set_cons_zero, List.set_cons_succ]
          refine anyH_done (by kernel_rfl) ?_ _
          have HO9 : Hid (z2.ownsRow x2.heap.size 35 16 (.slice (some ⟨g', 0, none⟩) i cap') i CX) := own_keep16 HOr.out Sz2.out
          have HB9 : Hid (Below x2.heap.size x2 z2) := HBr.out.trans (Sz2.out.mono HBr.out.size)
          clear HOr HBr HLX HLA HKr HB1 HEQ
          go_wp2
          refine ⟨⟨j, (j : Int) - 1, by omega, rfl, (show (j : Int) - 1 = (j : Int) - 1 from rfl), HO9, HB9⟩, ?_⟩
          simp [intOf]
        · have hk0 : k = 0 := by omega
          subst hk0
          obtain rfl : z = -1 := by have := HZ.out; omega
          go_wp2_with (go_at_call 7; refine (known_any _).mono ?_; rintro e w9 ⟨rfl, hb⟩; have R9 : Hid (Below w.heap.size w w9) := (R2.out.trans (HB.out.mono R2.out.size)).trans (hb.mono (Nat.le_trans R2.out.size HB.out.size)); clear hb)
          go_ret
          exact ⟨rfl, R9.out⟩

end Go.Proofs.Ytjidkkehhglahaa

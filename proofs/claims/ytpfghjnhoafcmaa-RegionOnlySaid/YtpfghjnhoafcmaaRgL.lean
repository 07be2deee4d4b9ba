/-
  Lists of records in memory: rows of them, made, stored into, appended to, held against one another.
-/
import Derived.Test.YtpfghjnhoafcmaaRg2
import Derived.Great.BuildSlice
namespace Go.Proofs.Ytpfghjnhoafcmaa
open Go.RowKit

def RAr (x : Rg.R) : Array Value := (cv x).toArray
theorem rv_eq (x : Rg.R) : RV x = .agg (RAr x) := by unfold RV RAr; rfl
theorem rar_size {x : Rg.R} (h : Rg.Ok x) : (RAr x).size = 136 := by unfold RAr; rw [List.size_toArray, cv_len h]
theorem rar_one (x : Rg.R) : (RAr x).all (·.oneCell') = true := all_oneCell_toArray (cv_one x)
theorem rc_info {x : Rg.R} (h : Rg.Ok x) : (Try.prog.info? 40).map (·.size) = some (RAr x).size := by rw [rar_size h]; exact Try.sizeRec
theorem rec_eqs (x y : Rg.R) (hx : Rg.Ok x) (hy : Rg.Ok y) (w : World) : (Op.equalIn 10000 40 (.agg (RAr x)) (.agg (RAr y))).run Try.prog w = .ok (decide (x = y)) w := by
  rw [← rv_eq, ← rv_eq]
  exact rec_eq hx hy w
def ZRec : List Value := cv Rg.zero
theorem zrec_eq : ZRec.toArray = RAr Rg.zero := rfl
theorem zrec_size : (Value.agg ZRec.toArray).cells.size = 136 := by show ZRec.toArray.size = 136; rw [List.size_toArray]; exact cv_len Rg.ok_zero
theorem rng_old {w y : World} {b o : Nat} {cs : List Value} (h : w.rangeAt b o cs) (hb : Below w.heap.size w y) : y.rangeAt b o cs := fun j v hv => by
  have h1 := h j v hv
  exact (hb.cell (World.block_lt_of_cell? w _ h1)).trans h1
theorem rdrop_getD (L : List Rg.R) (k : Nat) (hk : k < L.length) : L.drop k = L.getD k Rg.zero :: L.drop (k + 1) := by
  rw [List.drop_eq_getElem_cons hk, List.getD_eq_getElem?_getD, List.getElem?_eq_getElem hk]
  rfl
namespace Rg
def ec : List R → List Value
  | [] => []
  | x :: r => cv x ++ ec r
theorem ec_append (A B : List R) : ec (A ++ B) = ec A ++ ec B := by
  induction A with
  | nil => rfl
  | cons x r ih => rw [List.cons_append, ec, ec, ih, List.append_assoc]
theorem ec_len : ∀ {L : List R}, (∀ x ∈ L, Rg.Ok x) → (ec L).length = 136 * L.length
  | [], _ => rfl
  | x :: r, h => by
    rw [ec, List.length_append, cv_len (h x (by simp)), ec_len (L := r) (fun y hy => h y (by simp [hy])), List.length_cons]
    omega
theorem ec_at : ∀ {L : List R}, (∀ x ∈ L, Rg.Ok x) → ∀ (i j : Nat), i < L.length → j < 136 → (ec L)[i * 136 + j]? = (cv (L.getD i zero))[j]?
  | [], _, i, j, hi, _ => by simp at hi
  | x :: r, h, i, j, hi, hj => by
    have hx := cv_len (h x (by simp))
    cases i with
    | zero =>
      rw [ec, Nat.zero_mul, Nat.zero_add, List.getElem?_append_left (by omega)]
      rfl
    | succ i =>
      rw [ec, List.getElem?_append_right (by omega), hx, show (i + 1) * 136 + j - 136 = i * 136 + j by omega, ec_at (L := r) (fun y hy => h y (by simp [hy])) i j (by simpa using hi) hj]
      rfl
theorem ec_one (L : List R) : ∀ v ∈ ec L, v.oneCell' = true := by
  induction L with
  | nil => intro v hv; cases hv
  | cons x r ih =>
    intro v hv
    rw [ec, List.mem_append] at hv
    exact hv.elim (cv_one x v) (ih v)
theorem ec_set {L : List R} (h : ∀ x ∈ L, Rg.Ok x) (k : Nat) (hk : k < L.length) (y : R) :
    (ec L).take (k * 136) ++ cv y ++ (ec L).drop (k * 136 + 136) = ec (L.set k y) := by
  have e : L = L.take k ++ L.getD k zero :: L.drop (k + 1) := by
    rw [← rdrop_getD L k hk, List.take_append_drop]
  have h1 : ∀ x ∈ L.take k, Rg.Ok x := fun x hx => h x (List.mem_of_mem_take hx)
  have l1 : (ec (L.take k)).length = k * 136 := by rw [ec_len h1, List.length_take]; omega
  have hx : (cv (L.getD k zero)).length = 136 := by
    rw [List.getD_eq_getElem?_getD, List.getElem?_eq_getElem hk]
    exact cv_len (h _ (List.getElem_mem hk))
  have e2 : ec L = ec (L.take k) ++ (cv (L.getD k zero) ++ ec (L.drop (k + 1))) := by
    conv => lhs; rw [e]
    rw [ec_append, ec]
  have e3 : L.set k y = L.take k ++ y :: L.drop (k + 1) := by
    rw [List.set_eq_take_append_cons_drop, if_pos hk]
  rw [e3, ec_append, ec, e2]
  rw [List.take_left' l1, show k * 136 + 136 = (ec (L.take k)).length + (cv (L.getD k zero)).length by omega, ← List.drop_drop, List.drop_left, List.drop_left, List.append_assoc]
theorem ok_set {L : List R} (h : ∀ x ∈ L, Rg.Ok x) (k : Nat) {y : R} (hy : Rg.Ok y) : ∀ x ∈ L.set k y, Rg.Ok x := fun x hx => by
  rcases List.mem_or_eq_of_mem_set hx with h1 | rfl
  · exact h x h1
  · exact hy
theorem ok_rep {x : R} (h : Rg.Ok x) (n : Nat) : ∀ y ∈ List.replicate n x, Rg.Ok y := fun y hy => by
  rw [List.mem_replicate] at hy
  rw [hy.2]
  exact h
theorem ok_app {A B : List R} (h : ∀ x ∈ A, Rg.Ok x) (k : ∀ x ∈ B, Rg.Ok x) : ∀ x ∈ A ++ B, Rg.Ok x := fun x hx => (List.mem_append.1 hx).elim (h x) (k x)
/-- The first k, and noughts behind. -/
theorem set_next {A : List R} {n k : Nat} (hA : A.length = k) (y : R) : (A ++ List.replicate (n + 1) zero).set k y = A ++ [y] ++ List.replicate n zero := by
  subst hA
  rw [List.set_append_right _ _ (Nat.le_refl _), Nat.sub_self, List.replicate_succ, List.set_cons_zero, List.append_assoc]
  rfl
end Rg
theorem Try.infoRec : (Try.prog.info? 40).map (fun i => (i.zero, i.size, i.bytes)) = some (some (.agg ZRec.toArray), 136, 192) := by kernel_rfl
/-- A list of entries, as a slice sees it. -/
structure Rs (w : World) (p : Option Addr) (c : Nat) (L : List Rg.R) : Prop where
  ok : ∀ x ∈ L, Rg.Ok x
  at_ : 0 < L.length → ∃ ab ao, p = some ⟨ab, ao, none⟩ ∧ ∀ i, i < L.length → w.rangeAt ab (ao + i * 136) (cv (L.getD i Rg.zero))
  cap : L.length ≤ c ∧ c ≤ 9223372036854775807
  nil : p = none → c = 0
theorem Rs.old {w y : World} {p : Option Addr} {c : Nat} {L : List Rg.R} (h : Rs w p c L) (hb : Below w.heap.size w y) : Rs y p c L :=
  ⟨h.ok, fun h0 => by
    obtain ⟨ab, ao, h1, h2⟩ := h.at_ h0
    exact ⟨ab, ao, h1, fun i hi => rng_old (h2 i hi) hb⟩, h.cap, h.nil⟩
theorem Rs.drew {w : World} {p : Option Addr} {c : Nat} {L : List Rg.R} (h : Rs w p c L) : Rs w.drew p c L := ⟨h.ok, h.at_, h.cap, h.nil⟩
theorem Rs.drewN {w : World} {p : Option Addr} {c : Nat} {L : List Rg.R} (h : Rs w p c L) (n : Nat) : Rs (w.drewN n) p c L := ⟨h.ok, h.at_, h.cap, h.nil⟩
theorem Rs.getD {w : World} {p : Option Addr} {c : Nat} {L : List Rg.R} (h : Rs w p c L) (i : Nat) : Rg.Ok (L.getD i Rg.zero) := by
  rw [List.getD_eq_getElem?_getD]
  cases q : L[i]? with
  | none => exact Rg.ok_zero
  | some x =>
    obtain ⟨hi, rfl⟩ := List.getElem?_eq_some_iff.1 q
    exact h.ok _ (List.getElem_mem hi)
theorem rs_none (w : World) : Rs w none 0 [] := ⟨(fun x hx => (by cases hx)), (fun h => (by simp at h)), ⟨Nat.le_refl _, by omega⟩, fun _ => rfl⟩
/-- A load of one. -/
theorem Rs.load {w : World} {ab ao c : Nat} {L : List Rg.R} (h : Rs w (some ⟨ab, ao, none⟩) c L) {i : Nat} (hi : i < L.length) :
    (Instr.loadAt 40 (.pointer (some ⟨ab, ao + i * 136, none⟩))).run Try.prog w = .ok (.agg (RAr (L.getD i Rg.zero))) w := by
  obtain ⟨ab', ao', h1, h2⟩ := h.at_ (by omega)
  cases h1
  have h3 := run_loadAt_mid (P := Try.prog) w ab (ao + i * 136) 40 (cv (L.getD i Rg.zero)) _ (h2 i hi) Try.underlying40 rfl (by rw [Try.sizeRec, cv_len (h.getD i)])
  exact h3
section
variable {P : Program} {ops : Array Oper} {C : World → Prop} {Q : Act → Prop} {rest : List Oper} {a : Act} {D : Option Tmp} {T : TypeId} {ps : String} {af : Array Edge} {gd : Option (Nat × Bool)}
/-- A load of a row in a region that only reads. -/
theorem quiet_load (ty : TypeId) (x : Operand) (ad : Addr) (A : Array Value) (hw : Region.wanted { dst := D, op := .load ty x, type := T, pos := ps, after := af, guard := gd } (yielded ops a.tmps) = true)
    (hx : a.eval x = .pointer (some ad)) (hl : ∀ w, C w → (Instr.loadAt ty (.pointer (some ad))).run P w = .ok (.agg A) w) (h : wpQuiet P ops C Q rest (a.put D (.agg A))) :
    wpQuiet P ops C Q ({ dst := D, op := .load ty x, type := T, pos := ps, after := af, guard := gd } :: rest) a :=
  BigFrame.wpQuiet_want hw fun K hK => ⟨.agg A, fun w hC => by
    unfold Oper.quietAt execOp
    simp only [hx, hl w hC, Sem.run_bind, Sem.run_pure, Result.andThen_ok, Oper.quietUpon, and_self], hK _ h⟩
end
theorem Rs.rng {w : World} {ab ao c : Nat} {L : List Rg.R} (h : Rs w (some ⟨ab, ao, none⟩) c L) {i : Nat} (hi : i < L.length) : w.rangeAt ab (ao + i * 136) (RAr (L.getD i Rg.zero)).toList := by
  obtain ⟨ab', ao', h1, h2⟩ := h.at_ (by omega)
  cases h1
  exact h2 i hi
theorem made_rc (c : Nat) : madeCells ZRec.toArray (c * 136) = (Rg.ec (List.replicate c Rg.zero)).toArray := by
  have hz : ZRec = cv Rg.zero := rfl
  have hl : (cv Rg.zero).length = 136 := cv_len Rg.ok_zero
  have hlen : (Rg.ec (List.replicate c Rg.zero)).length = c * 136 := by rw [Rg.ec_len (Rg.ok_rep Rg.ok_zero c), List.length_replicate]; omega
  apply Array.ext
  · rw [size_madeCells, List.size_toArray, hlen]
  · intro i h1 h2
    rw [size_madeCells] at h1
    have hi : i = i / 136 * 136 + i % 136 := by omega
    have h3 := Rg.ec_at (L := List.replicate c Rg.zero) (Rg.ok_rep Rg.ok_zero c) (i / 136) (i % 136) (by rw [List.length_replicate]; omega) (by omega)
    rw [← hi] at h3
    have hg : (List.replicate c Rg.zero).getD (i / 136) Rg.zero = Rg.zero := by
      rw [List.getD_eq_getElem?_getD, List.getElem?_replicate]
      split <;> rfl
    rw [hg] at h3
    unfold madeCells
    rw [List.getElem_toArray]
    have h5 : (ZRec.toArray)[i % ZRec.toArray.size]! = (Rg.ec (List.replicate c Rg.zero))[i] := by
      have e1 : ZRec.toArray.size = 136 := by rw [List.size_toArray, hz, hl]
      rw [e1, getElem!_def]
      have e2 : ZRec.toArray[i % 136]? = (cv Rg.zero)[i % 136]? := by rw [List.getElem?_toArray, hz]
      rw [e2, ← h3, List.getElem?_eq_getElem (by simpa using h2)]
    have h6 : (Array.map (fun x => ZRec.toArray[x % ZRec.toArray.size]!) (Array.range (c * 136)))[i]'(by simpa using h1) = ZRec.toArray[i % ZRec.toArray.size]! := by
      rw [Array.getElem_map, Array.getElem_range]
    exact h6.trans h5
/-- A row of entries, known whole. -/
def RsRow (y : World) (g : Nat) (L : List Rg.R) : Prop := y.heap[g]? = some (.cells (Rg.ec L).toArray 40 (0, 0))
theorem RsRow.old {w y : World} {g : Nat} {L : List Rg.R} (h : RsRow w g L) (hb : Below w.heap.size w y) : RsRow y g L := (hb.block g (lt_of_block h)).trans h
theorem RsRow.only {w y : World} {g k : Nat} {L : List Rg.R} (h : RsRow w g L) (ho : Only k w y) (hk : g ≠ k) : RsRow y g L := (ho.block g (lt_of_block h) hk).trans h
theorem RsRow.es {y : World} {g c : Nat} {L : List Rg.R} (h : RsRow y g L) (hok : ∀ x ∈ L, Rg.Ok x) (hc : L.length ≤ c ∧ c ≤ 9223372036854775807) : Rs y (some ⟨g, 0, none⟩) c L :=
  ⟨hok, fun _ => ⟨g, 0, rfl, fun i hi j v hv => by
    have hj := (List.getElem?_eq_some_iff.1 hv).1
    have hl : (cv (L.getD i Rg.zero)).length = 136 := by
      rw [List.getD_eq_getElem?_getD, List.getElem?_eq_getElem hi]
      exact cv_len (hok _ (List.getElem_mem hi))
    rw [cell_of_row y g _ _ _ _ h, List.getElem?_toArray, Nat.zero_add, Rg.ec_at hok i j hi (by omega)]
    exact hv⟩, hc, fun e => by cases e⟩
section
variable {ops : Array Oper} {rest : List Oper} {a : Act} {w : World} {Q : Exit → Act → World → Prop} {D : Option Tmp} {T : TypeId} {ps : String} {af : Array Edge}
set_option maxRecDepth 100000 in
theorem make_rc (x y : Operand) (l : Nat) (hx : a.eval x = .int .i64 (l : Int)) (hy : a.eval y = .int .i64 (l : Int)) (hl : l ≤ 1000000)
    (h : ∀ w', Hid (RsRow w' w.heap.size (List.replicate l Rg.zero)) → Hid (Below w.heap.size w w') → Hid (w'.heap.size = w.heap.size + 1) → wpList Try.prog ops Q rest (a.put D (.slice (some ⟨w.heap.size, 0, none⟩) l l)) w') :
    wpList Try.prog ops Q ({ dst := D, op := .makeSlice 31 x y, type := T, pos := ps, after := af, guard := none } :: rest) a w :=
  wpList_plain rfl fun K hK => by
    obtain ⟨i, hi1, hi2, hi3, hi4⟩ := info_parts Try.infoRec
    have hrun := run_make (P := Try.prog) w 31 40 i _ Try.underlying31 hi1 hi2 .i64 .i64 l l (by omega) (by omega) (by rw [hi4]; omega) (by omega)
    rw [hi3, Int.toNat_natCast] at hrun
    have e : madeCells (Value.agg ZRec.toArray).cells (l * 136) = (Rg.ec (List.replicate l Rg.zero)).toArray := made_rc l
    rw [e] at hrun
    unfold Oper.wp execOp
    simp only [hx, hy, hrun, Sem.run_bind, Sem.run_pure, Result.andThen_ok]
    exact hK _ _ (h _ (heap_alloc_new w _) ((Below.refl _ w).alloc (Nat.le_refl _) _) (by show _ = _; simp))
set_option maxRecDepth 100000 in
theorem st_rc (x y : Operand) (g o k : Nat) (ho : o = k * 136) (L : List Rg.R) (e : Rg.R) (hok : ∀ x ∈ L, Rg.Ok x) (he : Rg.Ok e) (hk : k < L.length) (hx : a.eval x = .pointer (some ⟨g, o, none⟩)) (hy : a.eval y = .agg (RAr e)) (hg : RsRow w g L)
    (h : ∀ w', Hid (RsRow w' g (L.set k e)) → Hid (Chg g w w') → wpList Try.prog ops Q rest a w') :
    wpList Try.prog ops Q ({ dst := none, op := .store 40 x y, type := T, pos := ps, after := af, guard := none } :: rest) a w := by
  subst ho
  have hl := Rg.ec_len hok
  have hs := rar_size he
  refine mid_store 40 x y g (k * 136) 40 _ (RAr e) hx hy hg (rc_info he) (by rw [hs, List.size_toArray, hl]; omega) (rar_one e) (fun w' h1 h2 => h w' ?_ h2)
  have h1' := h1.out
  rw [hs] at h1'
  have e2 : (Rg.ec L).toArray.toList.take (k * 136) ++ (RAr e).toList ++ (Rg.ec L).toArray.toList.drop (k * 136 + 136) = Rg.ec (L.set k e) := Rg.ec_set hok k hk e
  rw [e2] at h1'
  exact h1'
end
theorem fill_rc (F : List Rg.R) (hF : ∀ x ∈ F, Rg.Ok x) (i : Nat) (x : Rg.R) (hx : Rg.Ok x) (hi : i < F.length) (rest : List (Nat × Value)) :
    Instr.fill (fun i => some (i * 136, 136)) (Rg.ec F).toArray ((i, .agg (RAr x)) :: rest) = Instr.fill (fun i => some (i * 136, 136)) (Rg.ec (F.set i x)).toArray rest := by
  have hs : (Value.agg (RAr x)).cells.size = 136 := rar_size hx
  rw [fill_step _ i _ (i * 136) 136 _ _ rfl hs (by rw [List.size_toArray, Rg.ec_len hF]; omega)]
  have e := Rg.ec_set hF i hi x
  congr 2
set_option maxRecDepth 100000 in
theorem run_bs (w : World) (n : Nat) (hn : n ≤ 1000) (h0 : 0 < n) (parts : Array (Nat × Value)) (L : List Rg.R) (h : Instr.fill (fun i => some (i * 136, 136)) (Rg.ec (List.replicate n Rg.zero)).toArray parts.toList = some (Rg.ec L).toArray) :
    (Instr.buildSlice 31 n parts).run Try.prog w = .ok (.slice (some ⟨w.heap.size, 0, none⟩) n n) (w.alloc (.cells (Rg.ec L).toArray 40)) := by
  obtain ⟨i, hi1, hi2, hi3, hi4⟩ := info_parts Try.infoRec
  refine run_buildSlice w _ _ n parts _ i _ Try.underlying31 hi1 hi2 (by rw [hi3]; omega) (by rw [hi3]; omega) ?_
  rw [hi3]
  have e := made_rc n
  unfold madeCells at e
  have e' : (Value.agg ZRec.toArray).cells = ZRec.toArray := rfl
  rw [e', e]
  exact h
section
variable {ops : Array Oper} {rest : List Oper} {a : Act} {w : World} {Q : Exit → Act → World → Prop} {D : Option Tmp} {T : TypeId} {ps : String} {af : Array Edge} {gd : Option (Nat × Bool)}
theorem bs_one (x : Operand) (e : Rg.R) (he : Rg.Ok e) (hx : a.eval x = .agg (RAr e)) (h : wpList Try.prog ops Q rest (a.put D (.slice (some ⟨w.heap.size, 0, none⟩) 1 1)) (w.alloc (.cells (Rg.ec [e]).toArray 40))) :
    wpList Try.prog ops Q ({ dst := D, op := .buildSlice 31 1 #[(0, x)], type := T, pos := ps, after := af, guard := none } :: rest) a w :=
  wpList_plain rfl fun K hK => by
    have hrun := run_bs w 1 (by omega) (by omega) #[(0, .agg (RAr e))] [e] (by
      show Instr.fill _ _ [(0, .agg (RAr e))] = _
      rw [fill_rc _ (Rg.ok_rep Rg.ok_zero 1) 0 e he (by simp)]
      rfl)
    unfold Oper.wp execOp
    simp only [hx, List.map_toArray, List.map_cons, List.map_nil, hrun, Sem.run_bind, Sem.run_pure, Result.andThen_ok]
    exact hK _ _ h
end
def RsO (B : Nat) (y : World) (v : Value) (L : List Rg.R) : Prop := y.ownsRow B 40 136 v L.length (Rg.ec L)
theorem rso_nil (B : Nat) (y : World) : RsO B y (.slice none 0 0) [] := World.ownsRow_nil _ _ _ _
theorem RsO.es {B : Nat} {y : World} {v : Value} {L : List Rg.R} (h : RsO B y v L) (hok : ∀ x ∈ L, Rg.Ok x) : ∃ p c, v = .slice p L.length c ∧ Rs y p c L := by
  obtain ⟨_, h2⟩ := h
  rcases h2 with ⟨rfl, h0⟩ | ⟨g, cap, cur, rfl, _, hg, hn, hm, hs, ht⟩
  · obtain rfl : L = [] := List.eq_nil_of_length_eq_zero h0
    exact ⟨none, 0, rfl, rs_none y⟩
  · refine ⟨_, cap, rfl, hok, fun _ => ⟨g, 0, rfl, fun i hi j u hu => ?_⟩, ⟨hn, by unfold maxLen at hm; omega⟩, fun e => by cases e⟩
    have hj := (List.getElem?_eq_some_iff.1 hu).1
    have hl : (cv (L.getD i Rg.zero)).length = 136 := by
      rw [List.getD_eq_getElem?_getD, List.getElem?_eq_getElem hi]
      exact cv_len (hok _ (List.getElem_mem hi))
    have e1 := Rg.ec_at hok i j hi (by omega)
    rw [hu, ← ht, List.getElem?_take, if_pos (by omega)] at e1
    rw [cell_of_row y g _ _ _ _ hg, Nat.zero_add]
    simpa using e1
theorem RsO.old {B : Nat} {w y : World} {v : Value} {L : List Rg.R} (h : RsO B w v L) (hb : Below w.heap.size w y) : RsO B y v L := own_keepX h hb
theorem RsO.only {B k : Nat} {w y : World} {v : Value} {L : List Rg.R} (h : RsO B w v L) (ho : Only k w y) (hk : k < B) : RsO B y v L := own_onlyX h ho hk
section
variable {ops : Array Oper} {rest : List Oper} {a : Act} {w : World} {Q : Exit → Act → World → Prop} {D : Option Tmp} {T : TypeId} {ps : String} {af : Array Edge} {gd : Option (Nat × Bool)}
theorem app_rc_op {K : Act → World → Prop} (s xo : Operand) (B : Nat) (v : Value) (L : List Rg.R) (x : Rg.R) (hs : a.eval s = v) (hx : a.eval xo = .slice (some ⟨w.heap.size, 0, none⟩) 1 1) (hO : RsO B w v L) (hok : ∀ y ∈ L, Rg.Ok y) (hxo : Rg.Ok x) (N : Nat) (hN : L.length = N) (hl : N ≤ 100000) (hB : B ≤ w.heap.size)
    (h : ∀ q d w', Hid (RsO B w' (.slice q (N + 1) d) (L ++ [x])) → Hid (Below B w w') → Hid ((w.alloc (.cells (Rg.ec [x]).toArray 40)).grownBy w' v.ownBlock) → K (a.put D (.slice q (N + 1) d)) w') :
    Oper.wp Try.prog { dst := D, op := .call { callee := .builtin .append, args := #[s, xo], argTypes := #[31, 31] }, type := T, pos := ps, after := af, guard := gd } a (w.alloc (.cells (Rg.ec [x]).toArray 40)) K Q := by
  subst hN
  obtain ⟨i0, hi, hz0, hz1, hz2⟩ := info_parts Try.infoRec
  have h1 : (Rg.ec [x]).length = 1 * 136 := by rw [Rg.ec_len (fun y hy => by rw [List.mem_singleton] at hy; rw [hy]; exact hxo)]; rfl
  refine wp_append_own _ s xo 31 rfl B 40 i0 (.agg ZRec.toArray) 136 192 Try.underlying31 hi hz0 hz1 hz2 zrec_size (by decide) v L.length (Rg.ec L) hs (hO.alloc _) ⟨w.heap.size, 0, none⟩ 1 1 (Rg.ec [x]) hx h1
    (fun j u hu => ?_) (Rg.ec_one _) (by unfold maxLen; omega) (by omega) (by simp; omega) (fun v' w' ho hg _ => ?_)
  · rw [Addr.add_mid, Nat.zero_add, cell_of_row _ w.heap.size j _ _ _ (heap_alloc_new w _)]
    simpa using hu
  · have e : Rg.ec L ++ Rg.ec [x] = Rg.ec (L ++ [x]) := (Rg.ec_append _ _).symm
    rw [e] at ho
    have ho' : RsO B w' v' (L ++ [x]) := by
      show World.ownsRow _ _ _ _ _ _ _
      rw [List.length_append]
      exact ho
    have hb : Below B w w' := ((Below.refl B w).alloc hB _).grown hg (by simp; omega) (fun j hj => (World.ownsRow.lt hO j hj).1)
    obtain ⟨q, d, rfl, _⟩ := ho'.es (Rg.ok_app hok (fun y hy => by rw [List.mem_singleton] at hy; rw [hy]; exact hxo))
    have e2 : (L ++ [x]).length = L.length + 1 := by rw [List.length_append]; rfl
    rw [e2] at ho' ⊢
    exact h q d w' ho' hb hg
theorem app_rc (s xo : Operand) (B : Nat) (v : Value) (L : List Rg.R) (x : Rg.R) (hs : a.eval s = v) (hx : a.eval xo = .slice (some ⟨w.heap.size, 0, none⟩) 1 1) (hO : RsO B w v L) (hok : ∀ y ∈ L, Rg.Ok y) (hxo : Rg.Ok x) (N : Nat) (hN : L.length = N) (hl : N ≤ 100000) (hB : B ≤ w.heap.size)
    (h : ∀ q d w', Hid (RsO B w' (.slice q (N + 1) d) (L ++ [x])) → Hid (Below B w w') → Hid ((w.alloc (.cells (Rg.ec [x]).toArray 40)).grownBy w' v.ownBlock) → wpList Try.prog ops Q rest (a.put D (.slice q (N + 1) d)) w') :
    wpList Try.prog ops Q ({ dst := D, op := .call { callee := .builtin .append, args := #[s, xo], argTypes := #[31, 31] }, type := T, pos := ps, after := af, guard := none } :: rest) a (w.alloc (.cells (Rg.ec [x]).toArray 40)) :=
  wpList_plain rfl fun _ hK => app_rc_op s xo B v L x hs hx hO hok hxo N hN hl hB fun q d w' h1 h2 h3 => hK _ _ (h q d w' h1 h2 h3)
end
def BlSay (b : Bool) (w : World) (e : Ending) (w' : World) : Prop := e = .returned (.bool b) ∧ Below w.heap.size w w'
theorem rlist_eq_of {L M : List Rg.R} {n : Nat} (hl : L.length = n) (hm : M.length = n) (h : ∀ i, i < n → L.getD i Rg.zero = M.getD i Rg.zero) : L = M := by
  apply List.ext_getElem (by omega)
  intro i h1 h2
  have := h i (by omega)
  simpa [List.getD_eq_getElem?_getD, h1, h2] using this
end Go.Proofs.Ytpfghjnhoafcmaa

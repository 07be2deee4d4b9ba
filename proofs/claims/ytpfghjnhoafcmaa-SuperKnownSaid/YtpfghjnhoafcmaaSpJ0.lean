/-
  Rows of the call's own of elements of any size; rows of rows of bytes; a disk and names beside them.
-/
import Derived.Test.YtpfghjnhoafcmaaSpG
import Derived.Test.YtpfghjnhoafcmaaRgL2
import Derived.Test.YtpfghjnhoafcmaaRgRn
import Derived.Test.YtpfghjnhoafcmaaDk4
namespace Go.Proofs.Ytpfghjnhoafcmaa
open Go.RowKit

/-- Rows one behind the other. -/
def fl : List (Array Value) → List Value
  | [] => []
  | A :: L => A.toList ++ fl L
theorem fl_append : ∀ (L M : List (Array Value)), fl (L ++ M) = fl L ++ fl M
  | [], M => rfl
  | A :: L, M => by rw [List.cons_append, fl, fl, fl_append L M, List.append_assoc]
theorem fl_one (A : Array Value) : fl [A] = A.toList := by rw [fl, fl, List.append_nil]
theorem fl_at {s : Nat} : ∀ {L : List (Array Value)}, (∀ A ∈ L, A.size = s) → ∀ (i j : Nat), i < L.length → j < s → (fl L)[i * s + j]? = (L.getD i #[]).toList[j]?
  | [], _, i, j, hi, _ => by simp at hi
  | A :: L, h, i, j, hi, hj => by
    have hA : A.toList.length = s := by rw [Array.length_toList]; exact h A (by simp)
    rw [fl]
    cases i with
    | zero =>
      rw [Nat.zero_mul, Nat.zero_add, List.getElem?_append_left (by omega)]
      rfl
    | succ i =>
      have e : (i + 1) * s + j = s + (i * s + j) := by rw [Nat.add_mul]; omega
      rw [e, List.getElem?_append_right (by omega), show s + (i * s + j) - A.toList.length = i * s + j by omega]
      exact fl_at (fun B hB => h B (by simp [hB])) i j (by simpa using hi) hj
/-- A row of n elements of s cells each. -/
def Fl (K : Nat) (e s : Nat) (y : World) (v : Value) (L : List (Array Value)) : Prop := y.ownsRow K e s v L.length (fl L) ∧ ∀ A ∈ L, A.size = s
theorem fl_nil (K e s : Nat) (y : World) : Fl K e s y (.slice none 0 0) [] := ⟨World.ownsRow_nil _ _ _ _, fun A hA => by cases hA⟩
theorem Fl.kp {K e s : Nat} {y z : World} {v : Value} {L : List (Array Value)} (h : Fl K e s y v L) (hk : Kp K y z) : Fl K e s z v L := ⟨own_kp h.1 hk (Nat.le_refl _), h.2⟩
theorem Fl.len {K e s : Nat} {y : World} {v : Value} {L : List (Array Value)} (h : Fl K e s y v L) : ∃ p c, v = .slice p L.length c := by
  rcases h.1.2 with ⟨h2, h3⟩ | ⟨g, cap, cur, h2, _⟩
  · exact ⟨none, 0, by rw [h2, h3]⟩
  · exact ⟨_, cap, h2⟩
theorem Fl.rng {K e s : Nat} {y : World} {v : Value} {L : List (Array Value)} (h : Fl K e s y v L) (i : Nat) (hi : i < L.length) : ∃ q c, v = .slice (some ⟨q, 0, none⟩) L.length c ∧ K ≤ q ∧ y.rangeAt q (i * s) (L.getD i #[]).toList := by
  obtain ⟨⟨h1, h2⟩, h3⟩ := h
  rcases h2 with ⟨_, h0⟩ | ⟨g, cap, cur, rfl, hb, hg, hn, hm, hs, ht⟩
  · omega
  · refine ⟨g, cap, rfl, hb, fun j u hu => ?_⟩
    have hA : (L.getD i #[]).size = s := h3 _ (by rw [List.getD_eq_getElem?_getD, List.getElem?_eq_getElem hi]; exact List.getElem_mem hi)
    have hj : j < s := by have := (List.getElem?_eq_some_iff.1 hu).1; rw [Array.length_toList] at this; omega
    have e1 := fl_at h3 i j hi hj
    rw [hu, ← ht, List.getElem?_take, if_pos ?_] at e1
    · rw [cell_of_row y g _ _ _ _ hg]
      simpa using e1
    · have : i * s + j < L.length * s := by
        have h4 : (i + 1) * s ≤ L.length * s := Nat.mul_le_mul_right _ hi
        rw [Nat.add_mul] at h4
        omega
      exact this
theorem made_one (Z : Array Value) : (Array.range (1 * Z.size)).map (Z[· % Z.size]!) = Z := by
  apply Array.ext
  · simp
  · intro i h1 h2
    rw [Array.getElem_map, Array.getElem_range]
    have hi : i % Z.size = i := Nat.mod_eq_of_lt h2
    rw [hi]
    simp [h2]
section
variable {P : Program} {ops : Array Oper} {rest : List Oper} {a : Act} {w : World} {Q : Exit → Act → World → Prop} {D : Option Tmp} {T : TypeId} {ps : String} {af : Array Edge} {gd : Option (Nat × Bool)}
theorem bs1_g (t e : TypeId) (Z A : Array Value) (s b : Nat) (hu : P.underlying t = some (.slice e)) (hi : (P.info? e).map (fun i => (i.zero, i.size, i.bytes)) = some (some (.agg Z), s, b)) (hZ : Z.size = s) (hA : A.size = s) (h0 : 0 < s) (hl : s ≤ 1000) (x : Operand) (hx : a.eval x = .agg A)
    (h : wpList P ops Q rest (a.put D (.slice (some ⟨w.heap.size, 0, none⟩) 1 1)) (w.alloc (.cells A e))) :
    wpList P ops Q ({ dst := D, op := .buildSlice t 1 #[(0, x)], type := T, pos := ps, after := af, guard := none } :: rest) a w :=
  wpList_plain rfl fun K hK => by
    obtain ⟨i, hi1, hi2, hi3, hi4⟩ := info_parts hi
    have hf : Instr.fill (fun i => some (i * s, s)) Z [(0, .agg A)] = some A := by
      rw [fill_step (fun i => some (i * s, s)) 0 (.agg A) (0 * s) s Z [] rfl hA (by omega)]
      unfold Instr.fill
      have e1 : Z.toList.drop (0 * s + s) = [] := List.drop_of_length_le (by rw [Array.length_toList]; omega)
      have e2 : (Value.agg A).cells = A := rfl
      rw [e1, e2, Nat.zero_mul, List.take_zero, List.nil_append, List.append_nil]
    have hrun := run_buildSlice (P := P) w t e 1 #[(0, .agg A)] A i (.agg Z) hu hi1 hi2 (by rw [hi3]; omega) (by rw [hi3]; omega) (by
      have e3 : (Value.agg Z).cells = Z := rfl
      rw [hi3, e3, ← hZ, made_one, hZ]
      exact hf)
    unfold Oper.wp execOp
    simp only [hx, List.map_toArray, List.map_cons, List.map_nil, hrun, Sem.run_bind, Sem.run_pure, Result.andThen_ok]
    exact hK _ _ h
theorem app_fl (t e : TypeId) (Z A : Array Value) (s b : Nat) (hu : P.underlying t = some (.slice e)) (hi : (P.info? e).map (fun i => (i.zero, i.size, i.bytes)) = some (some (.agg Z), s, b)) (hZ : Z.size = s) (hA : A.size = s) (h0 : 0 < s) (hb : b ≤ 1000) (h1 : A.all (·.oneCell') = true) (so xo : Operand) (K : Nat) (v : Value) (L : List (Array Value)) (N : Nat) (hs : a.eval so = v) (hx : a.eval xo = .slice (some ⟨w.heap.size, 0, none⟩) 1 1) (hO : Fl K e s w v L) (hN : L.length = N) (hl : N ≤ 100000) (hK : K ≤ w.heap.size)
    (h : ∀ q d w', Hid (Fl K e s w' (.slice q (N + 1) d) (L ++ [A])) → Hid (∀ q, v.ownBlock = some q → K ≤ q ∧ ∃ cur, w.heap[q]? = some (.cells cur e (0, 0))) → Hid ((w.alloc (.cells A e)).grownBy w' v.ownBlock) → wpList P ops Q rest (a.put D (.slice q (N + 1) d)) w') :
    wpList P ops Q ({ dst := D, op := .call { callee := .builtin .append, args := #[so, xo], argTypes := #[t, t] }, type := T, pos := ps, after := af, guard := none } :: rest) a (w.alloc (.cells A e)) :=
  wpList_plain rfl fun R hR => by
    obtain ⟨i0, hi1, hz0, hz1, hz2⟩ := info_parts hi
    subst hN
    refine wp_append_own _ so xo t rfl K e i0 (.agg Z) s b hu hi1 hz0 hz1 hz2 (show Z.size = s from hZ) h0 v L.length (fl L) hs (hO.1.alloc _) ⟨w.heap.size, 0, none⟩ 1 1 A.toList hx (by rw [Array.length_toList]; omega)
      (fun j u hj => ?_) (fun u hu => ?_) (by unfold maxLen; omega) ?_ (by simp; omega) (fun v' w' hown hg _ => ?_)
    · rw [Addr.add_mid, Nat.zero_add, cell_of_row _ w.heap.size j _ _ _ (heap_alloc_new w _)]
      simpa using hj
    · rw [Array.all_eq_true] at h1
      obtain ⟨j, hj, rfl⟩ := List.mem_iff_getElem.1 hu
      exact h1 j (by simpa using hj)
    · have : (L.length + 1) * b ≤ (L.length + 1) * 1000 := Nat.mul_le_mul_left _ hb
      omega
    · have hF : Fl K e s w' v' (L ++ [A]) := ⟨by rw [fl_append, fl_one, List.length_append]; exact hown, fun B hB => by
        rcases List.mem_append.1 hB with q | q
        · exact hO.2 B q
        · rw [List.mem_singleton] at q; rw [q]; exact hA⟩
      obtain ⟨q, d, hv⟩ := hF.len
      subst hv
      have e2 : (L ++ [A]).length = L.length + 1 := by rw [List.length_append]; rfl
      rw [e2] at hF ⊢
      exact hR _ _ (h q d w' hF (own_type hO.1) hg)
end
theorem Try.infoGeo : (Try.prog.info? 54).map (fun i => (i.zero, i.size, i.bytes)) = some (some (.agg (GA ⟨0, 0, 0⟩)), 3, 24) := by kernel_rfl
theorem Try.infoSumS : (Try.prog.info? 34).map (fun i => (i.zero, i.size, i.bytes)) = some (some (.agg (sA Rg.z32)), 32, 32) := by kernel_rfl
/-- What stays where a row of another kind grows. -/
theorem own_off {B e e' s n : Nat} {y z : World} {v : Value} {xs : List Value} {row : Option Nat} {o : Obj} (h : y.ownsRow B e s v n xs) (hq : ∀ q, row = some q → ∃ cur, y.heap[q]? = some (.cells cur e' (0, 0))) (hne : e ≠ e') (hg : (y.alloc o).grownBy z row) : z.ownsRow B e s v n xs := by
  refine ⟨h.1, ?_⟩
  rcases h.2 with h1 | ⟨g, cap, cur, h1, h2, h3, h4⟩
  · exact Or.inl h1
  · refine Or.inr ⟨g, cap, cur, h1, h2, ?_, h4⟩
    have hl := lt_of_block h3
    have hy : (y.alloc o).heap[g]? = y.heap[g]? := ((Below.refl _ y).alloc (Nat.le_refl _) o).block g hl
    rw [← h3, ← hy]
    refine hg.block g (Nat.lt_of_lt_of_le hl ((Below.refl _ y).alloc (Nat.le_refl _) o).size) (fun q => ?_)
    obtain ⟨cur', hc⟩ := hq g q.symm
    rw [h3] at hc
    injection hc with hc
    injection hc with _ hc _
    exact hne hc
theorem blk_off {y z : World} {e e' : TypeId} {b : Nat} {A : Array Value} {row : Option Nat} {o : Obj} (h : y.heap[b]? = some (.cells A e (0, 0))) (hq : ∀ q, row = some q → ∃ cur, y.heap[q]? = some (.cells cur e' (0, 0))) (hne : e ≠ e') (hg : (y.alloc o).grownBy z row) : z.heap[b]? = some (.cells A e (0, 0)) := by
  have hl := lt_of_block h
  have hy : (y.alloc o).heap[b]? = y.heap[b]? := ((Below.refl _ y).alloc (Nat.le_refl _) o).block b hl
  rw [← h, ← hy]
  refine hg.block b (Nat.lt_of_lt_of_le hl ((Below.refl _ y).alloc (Nat.le_refl _) o).size) (fun q => ?_)
  obtain ⟨cur', hc⟩ := hq b q.symm
  rw [h] at hc
  injection hc with hc
  injection hc with _ hc _
  exact hne hc
theorem Fl.off {K e e' s : Nat} {y z : World} {v : Value} {L : List (Array Value)} {row : Option Nat} {o : Obj} (h : Fl K e s y v L) (hq : ∀ q, row = some q → ∃ cur, y.heap[q]? = some (.cells cur e' (0, 0))) (hne : e ≠ e') (hg : (y.alloc o).grownBy z row) : Fl K e s z v L := ⟨own_off h.1 hq hne hg, h.2⟩
/-- Rows of bytes, each in memory of its own. -/
def Rw (K : Nat) (y : World) (v : Value) (L : List (List Int)) : Prop := ∃ xs, y.ownsRow K 41 1 v L.length xs ∧ xs.length = L.length ∧ ∀ j, j < L.length → ∃ p c, xs[j]? = some (.slice p (L.getD j []).length c) ∧ y.ownsRow K 5 1 (.slice p (L.getD j []).length c) (L.getD j []).length (U8s (L.getD j []))
theorem rw_nil (K : Nat) (y : World) : Rw K y (.slice none 0 0) [] := ⟨[], World.ownsRow_nil _ _ _ _, rfl, fun j hj => by simp at hj⟩
theorem Rw.kp {K : Nat} {y z : World} {v : Value} {L : List (List Int)} (h : Rw K y v L) (hk : Kp K y z) : Rw K z v L := by
  obtain ⟨xs, h1, h2, h3⟩ := h
  refine ⟨xs, own_kp h1 hk (Nat.le_refl _), h2, fun j hj => ?_⟩
  obtain ⟨p, c, k1, k2⟩ := h3 j hj
  exact ⟨p, c, k1, own_kp k2 hk (Nat.le_refl _)⟩
theorem Rw.off {K : Nat} {y z : World} {v : Value} {L : List (List Int)} {e' : TypeId} {row : Option Nat} {o : Obj} (h : Rw K y v L) (hq : ∀ q, row = some q → ∃ cur, y.heap[q]? = some (.cells cur e' (0, 0))) (hne : 41 ≠ e') (hne2 : 5 ≠ e') (hg : (y.alloc o).grownBy z row) : Rw K z v L := by
  obtain ⟨xs, h1, h2, h3⟩ := h
  refine ⟨xs, own_off h1 hq hne hg, h2, fun j hj => ?_⟩
  obtain ⟨p, c, k1, k2⟩ := h3 j hj
  exact ⟨p, c, k1, own_off k2 hq hne2 hg⟩
theorem Rw.len {K : Nat} {y : World} {v : Value} {L : List (List Int)} (h : Rw K y v L) : ∃ p c, v = .slice p L.length c := by
  obtain ⟨xs, h1, _, _⟩ := h
  exact own_len h1
theorem Rw.at_ {K : Nat} {y : World} {v : Value} {L : List (List Int)} (h : Rw K y v L) (j : Nat) (hj : j < L.length) : ∃ b c p d, v = .slice (some ⟨b, 0, none⟩) L.length c ∧ K ≤ b ∧ y.cell? ⟨b, j, none⟩ = some (.slice p (L.getD j []).length d) ∧ y.ownsRow K 5 1 (.slice p (L.getD j []).length d) (L.getD j []).length (U8s (L.getD j [])) := by
  obtain ⟨xs, h1, h2, h3⟩ := h
  obtain ⟨p, d, k1, k2⟩ := h3 j hj
  rcases h1.2 with ⟨_, q⟩ | ⟨g, cap, cur, q1, q2, q3, q4, q5, q6, q7⟩
  · omega
  · refine ⟨g, cap, p, d, q1, q2, ?_, k2⟩
    rw [cell_of_row y g j _ _ _ q3, ← Array.getElem?_toList]
    have e : cur.toList[j]? = xs[j]? := by
      rw [← q7, List.getElem?_take, if_pos (by omega)]
    rw [e, k1]
theorem Try.infoRowS : (Try.prog.info? 41).map (fun i => (i.zero, i.size, i.bytes)) = some (some (.slice none 0 0), 1, 24) := by kernel_rfl
section
variable {ops : Array Oper} {rest : List Oper} {a : Act} {w : World} {Q : Exit → Act → World → Prop} {D : Option Tmp} {T : TypeId} {ps : String} {af : Array Edge}
theorem app_rw (s xo : Operand) (K : Nat) (v : Value) (p : Option Addr) (c : Nat) (B : List Int) (m : Nat) (hm : B.length = m) (L : List (List Int)) (N : Nat) (hs : a.eval s = v) (hx : a.eval xo = .slice (some ⟨w.heap.size, 0, none⟩) 1 1) (hI : Rw K w v L) (hu : w.ownsRow K 5 1 (.slice p m c) m (U8s B)) (hN : L.length = N) (hl : N ≤ 1000) (hK : K ≤ w.heap.size)
    (h : ∀ q d w', Hid (Rw K w' (.slice q (N + 1) d) (L ++ [B])) → Hid (∀ q, v.ownBlock = some q → K ≤ q ∧ ∃ cur, w.heap[q]? = some (.cells cur 41 (0, 0))) → Hid ((w.alloc (.cells #[.slice p m c] 41)).grownBy w' v.ownBlock) → wpList Try.prog ops Q rest (a.put D (.slice q (N + 1) d)) w') :
    wpList Try.prog ops Q ({ dst := D, op := .call { callee := .builtin .append, args := #[s, xo], argTypes := #[32, 32] }, type := T, pos := ps, after := af, guard := none } :: rest) a (w.alloc (.cells #[.slice p m c] 41)) :=
  wpList_plain rfl fun R hR => by
    obtain ⟨xs, h1, h2, h3⟩ := hI
    obtain ⟨i0, hi, hz0, hz1, hz2⟩ := info_parts Try.infoRowS
    subst hN
    subst hm
    have hq : ∀ q, v.ownBlock = some q → K ≤ q ∧ ∃ cur, w.heap[q]? = some (.cells cur 41 (0, 0)) := own_type h1
    refine wp_append_own _ s xo 32 rfl K 41 i0 (.slice none 0 0) 1 24 Try.underlying32 hi hz0 hz1 hz2 rfl (by decide) v L.length xs hs (h1.alloc _) ⟨w.heap.size, 0, none⟩ 1 1 [.slice p B.length c] hx rfl
      (fun j y hy => ?_) (fun y hy => ?_) (by unfold maxLen; omega) (by omega) (by simp; omega) (fun v' w' hown hg _ => ?_)
    · match j, hy with
      | 0, hy => simp at hy; subst hy; simp [Addr.add]
    · simp at hy; subst hy; rfl
    · have e2 : (L ++ [B]).length = L.length + 1 := by rw [List.length_append]; rfl
      have hI' : Rw K w' v' (L ++ [B]) := ⟨xs ++ [.slice p B.length c], by rw [e2]; exact hown, by simp [h2], fun j hj => by
        rw [e2] at hj
        by_cases q : j < L.length
        · obtain ⟨p1, c1, k1, k2⟩ := h3 j q
          have e : (L ++ [B]).getD j [] = L.getD j [] := by simp [List.getD_eq_getElem?_getD, List.getElem?_append_left q]
          rw [e]
          exact ⟨p1, c1, by rw [List.getElem?_append_left (by omega)]; exact k1, own_off k2 (fun q hq' => (hq q hq').2) (by decide) hg⟩
        · obtain rfl : j = L.length := by omega
          have e : (L ++ [B]).getD L.length [] = B := by simp [List.getD_eq_getElem?_getD]
          rw [e]
          exact ⟨p, c, by rw [List.getElem?_append_right (by omega), h2, Nat.sub_self]; rfl, own_off hu (fun q hq' => (hq q hq').2) (by decide) hg⟩⟩
      obtain ⟨q, d, hv⟩ := hI'.len
      subst hv
      rw [e2] at hI' ⊢
      exact hR _ _ (h q d w' hI' hq hg)
end
/-- A row of the law's own turns. -/
theorem vu_far {x y z : World} {K d g : Nat} {m : Dk.M} {S : Nm.St} {e : TypeId} {row : Option Nat} {o : Obj} (h : Vu x K y d g m S) (hq : ∀ q, row = some q → K ≤ q ∧ ∃ cur, y.heap[q]? = some (.cells cur e (0, 0))) (he : e ≠ 5) (hn : e ≠ 79)
    (hg : (y.alloc o).grownBy z row) : Vu x K z d g m S := by
  obtain ⟨T, lb, rb, cb, b, c, h1, h2, h3, h4, h5, h6⟩ := h
  have hy : ∀ k, k < y.heap.size → (y.alloc o).heap[k]? = y.heap[k]? := fun k hk => ((Below.refl _ y).alloc (Nat.le_refl _) o).block k hk
  have hs : y.heap.size ≤ z.heap.size := Nat.le_trans ((Below.refl _ y).alloc (Nat.le_refl _) o).size hg.size
  have hb : ∀ k, k < y.heap.size → some k ≠ row → z.heap[k]? = y.heap[k]? := fun k hk hr => (hg.block k (Nat.lt_of_lt_of_le hk ((Below.refl _ y).alloc (Nat.le_refl _) o).size) hr).trans (hy k hk)
  have hlow : ∀ k, k < K → k < y.heap.size → z.heap[k]? = y.heap[k]? := fun k hk hk2 => hb k hk2 (fun q => by have := (hq k q.symm).1; omega)
  have htyp : ∀ (k : Nat) (ob : Obj), y.heap[k]? = some ob → (∀ cur, ob ≠ Obj.cells cur e (0, 0)) → z.heap[k]? = y.heap[k]? := fun k ob hk hne => hb k (lt_of_block hk) (fun q => by
    obtain ⟨_, cur, hc⟩ := hq k q.symm
    rw [hk] at hc
    injection hc with hc
    exact hne cur hc)
  have t1 := h1.lt
  have t2 := h1.top
  have kd : ∀ k ∈ [d, lb, rb, cb, b, c], k < y.heap.size → z.heap[k]? = y.heap[k]? := fun k hk hl => hlow k (h5 k hk).2 hl
  refine ⟨T, lb, rb, cb, b, c, h1.keep (fun k hk => Nat.lt_of_lt_of_le (t2 k hk) hs) (kd d (by simp) (t2 _ t1.1)) (kd lb (by simp) (t2 _ t1.2.1)) (kd rb (by simp) (t2 _ t1.2.2.1)) (kd cb (by simp) (t2 _ t1.2.2.2)) (fun k cur _ hk => htyp k _ hk (fun cur' q => ?_)), ?_, h3, ⟨?_, ?_, ?_, Nat.le_trans h4.size hs, fun k hk => ?_⟩, h5, Nat.le_trans h6 hs⟩
  · injection q with _ q _
    exact he q.symm
  · exact h2.keep (htyp g _ h2.row (fun cur q => by injection q with _ q _; exact hn q.symm)) (kd b (by simp) h2.lt.2.1) (kd c (by simp) h2.lt.2.2)
  · exact hg.os.trans h4.os
  · exact hg.tape.trans h4.tape
  · exact hg.output.trans h4.output
  · have hkk : k < y.heap.size := Nat.lt_of_lt_of_le hk h4.size
    have hxK : x.heap.size ≤ K := by have := h5 d (by simp); omega
    exact (hlow k (by omega) hkk).trans (h4.block k hk)
namespace Sp
/-- The bytes, the digests of what was written. -/
def bs (S : Nm.St) (T : List (G × Int)) : List (List Int) := T.map fun x => by_ S x.1 x.2
def ms (S : Nm.St) (T : List (G × Int)) : List (Array Value) := T.map fun x => sA (sm S (by_ S x.1 x.2))
def gs (T : List (G × Int)) : List (Array Value) := T.map fun x => GA x.1
theorem bs_add {S : Nm.St} {T : List (G × Int)} (h : Wr S T) (g : G) (e : Int) : bs (vS S g e) (T ++ [(g, e)]) = bs S T ++ [by_ (vS S g e) g e] := by
  unfold bs
  rw [List.map_append]
  congr 1
  exact List.map_congr_left fun x hx => by_up (h.known x hx).1 g e
theorem ms_add {S : Nm.St} {T : List (G × Int)} (h : Wr S T) (g : G) (e : Int) : ms (vS S g e) (T ++ [(g, e)]) = ms S T ++ [sA (sm (vS S g e) (by_ (vS S g e) g e))] := by
  unfold ms
  rw [List.map_append]
  congr 1
  exact List.map_congr_left fun x hx => by rw [by_up (h.known x hx).1, sm_up (h.known x hx).2]
theorem gs_add (T : List (G × Int)) (g : G) (e : Int) : gs (T ++ [(g, e)]) = gs T ++ [GA g] := by unfold gs; rw [List.map_append]; rfl
theorem bs_len (S : Nm.St) (T : List (G × Int)) : (bs S T).length = T.length := by unfold bs; rw [List.length_map]
theorem ms_len (S : Nm.St) (T : List (G × Int)) : (ms S T).length = T.length := by unfold ms; rw [List.length_map]
theorem gs_len (T : List (G × Int)) : (gs T).length = T.length := by unfold gs; rw [List.length_map]
theorem tab_at {S : Nm.St} {T : List (G × Int)} (j : Nat) (hj : j < T.length) : (bs S T).getD j [] = by_ S (T[j]).1 (T[j]).2 ∧ (ms S T).getD j #[] = sA (sm S (by_ S (T[j]).1 (T[j]).2)) ∧ (gs T).getD j #[] = GA (T[j]).1 := by
  unfold bs ms gs
  simp [List.getD_eq_getElem?_getD, hj]
attribute [irreducible] bs ms gs
end Sp
end Go.Proofs.Ytpfghjnhoafcmaa

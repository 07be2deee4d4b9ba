/-
  Images: rows of bytes in a row of the law's own; what stays where another row grows.
-/
import Derived.Test.YtpfghjnhoafcmaaRgY2
import Derived.Test.YtpfghjnhoafcmaaRgU
namespace Go.Proofs.Ytpfghjnhoafcmaa
open Go.RowKit

theorem own_other {B e e' s n : Nat} {y z : World} {v : Value} {xs : List Value} {row : Option Nat} {o : Obj} (h : y.ownsRow B e s v n xs) (hq : ∀ q, row = some q → ∃ cur, y.heap[q]? = some (.cells cur e' (0, 0))) (hne : e ≠ e') (hg : (y.alloc o).grownBy z row) : z.ownsRow B e s v n xs := by
  refine ⟨h.1, ?_⟩
  rcases h.2 with h1 | ⟨g, cap, cur, h1, h2, h3, h4⟩
  · exact Or.inl h1
  · refine Or.inr ⟨g, cap, cur, h1, h2, ?_, h4⟩
    have hl := lt_of_block h3
    have hy : (y.alloc o).heap[g]? = y.heap[g]? := ((Below.refl _ y).alloc (Nat.le_refl _) o).block g hl
    rw [← h3, ← hy]
    refine hg.block g (Nat.lt_of_lt_of_le hl ((Below.refl _ y).alloc (Nat.le_refl _) o).size) (fun q => ?_)
    obtain ⟨cur', hc⟩ := hq g q.symm
    rw [h3] at hc
    injection hc with hc
    injection hc with _ hc _
    exact hne hc
theorem own_weak {B C e s n : Nat} {y : World} {v : Value} {xs : List Value} (h : y.ownsRow B e s v n xs) (hC : C ≤ B) : y.ownsRow C e s v n xs := by
  refine ⟨h.1, ?_⟩
  rcases h.2 with h1 | ⟨g, cap, cur, h1, h2, h3, h4⟩
  · exact Or.inl h1
  · exact Or.inr ⟨g, cap, cur, h1, Nat.le_trans hC h2, h3, h4⟩
theorem blk_other {y z : World} {e e' : TypeId} {b : Nat} {A : Array Value} {row : Option Nat} {o : Obj} (h : y.heap[b]? = some (.cells A e (0, 0))) (hq : ∀ q, row = some q → ∃ cur, y.heap[q]? = some (.cells cur e' (0, 0))) (hne : e ≠ e') (hg : (y.alloc o).grownBy z row) : z.heap[b]? = some (.cells A e (0, 0)) := by
  have hl := lt_of_block h
  have hy : (y.alloc o).heap[b]? = y.heap[b]? := ((Below.refl _ y).alloc (Nat.le_refl _) o).block b hl
  rw [← h, ← hy]
  refine hg.block b (Nat.lt_of_lt_of_le hl ((Below.refl _ y).alloc (Nat.le_refl _) o).size) (fun q => ?_)
  obtain ⟨cur', hc⟩ := hq b q.symm
  rw [h] at hc
  injection hc with hc
  injection hc with _ hc _
  exact hne hc
/-- One image. -/
def Im1 (K : Nat) (y : World) (v : Value) : Prop := ∃ p c L, v = .slice p L.length c ∧ L.length ≤ 1024 ∧ Sha.Byt L ∧ y.ownsRow K 5 1 v L.length (U8s L)
/-- So many images. -/
def Im (K : Nat) (y : World) (v : Value) (N : Nat) : Prop := ∃ xs, y.ownsRow K 41 1 v N xs ∧ xs.length = N ∧ ∀ u ∈ xs, Im1 K y u
theorem Im1.kp {K : Nat} {y z : World} {v : Value} (h : Im1 K y v) (hk : Kp K y z) : Im1 K z v := by
  obtain ⟨p, c, L, e, h1, h2, h3⟩ := h
  exact ⟨p, c, L, e, h1, h2, own_kp h3 hk (Nat.le_refl _)⟩
theorem Im.kp {K N : Nat} {y z : World} {v : Value} (h : Im K y v N) (hk : Kp K y z) : Im K z v N := by
  obtain ⟨xs, h1, h2, h3⟩ := h
  exact ⟨xs, own_kp h1 hk (Nat.le_refl _), h2, fun u hu => (h3 u hu).kp hk⟩
theorem Im.grown {K N : Nat} {y z : World} {v : Value} {e' : TypeId} {row : Option Nat} {o : Obj} (h : Im K y v N) (hq : ∀ q, row = some q → ∃ cur, y.heap[q]? = some (.cells cur e' (0, 0))) (hne : 41 ≠ e') (hne2 : 5 ≠ e') (hg : (y.alloc o).grownBy z row) : Im K z v N := by
  obtain ⟨xs, h1, h2, h3⟩ := h
  refine ⟨xs, own_other h1 hq hne hg, h2, fun u hu => ?_⟩
  obtain ⟨p, c, L, e, k1, k2, k3⟩ := h3 u hu
  exact ⟨p, c, L, e, k1, k2, own_other k3 hq hne2 hg⟩
theorem Im.nil (K : Nat) (y : World) : Im K y (.slice none 0 0) 0 := ⟨[], World.ownsRow_nil _ _ _ _, rfl, fun u hu => by cases hu⟩
theorem Im.len {K N : Nat} {y : World} {v : Value} (h : Im K y v N) : ∃ p c, v = .slice p N c := by
  obtain ⟨xs, h1, _, _⟩ := h
  exact own_len h1
theorem Im1.bs {K : Nat} {y : World} {v : Value} (h : Im1 K y v) : ∃ p c L, v = .slice p L.length c ∧ L.length ≤ 1024 ∧ Bs y p c L := by
  obtain ⟨p, c, L, e, h1, h2, h3⟩ := h
  obtain ⟨p', c', e', hb, _⟩ := own_bs h3 h2
  subst e
  injection e' with a b' c''
  subst a
  subst c''
  exact ⟨p, c, L, rfl, h1, hb⟩
theorem Im.at_ {K N : Nat} {y : World} {v : Value} (h : Im K y v N) (j : Nat) (hj : j < N) : ∃ b c u, v = .slice (some ⟨b, 0, none⟩) N c ∧ K ≤ b ∧ y.cell? ⟨b, j, none⟩ = some u ∧ Im1 K y u := by
  obtain ⟨xs, h1, h2, h3⟩ := h
  rcases h1.2 with ⟨_, q⟩ | ⟨g, cap, cur, q1, q2, q3, q4, q5, q6, q7⟩
  · omega
  · refine ⟨g, cap, xs[j]'(by omega), q1, q2, ?_, h3 _ (List.getElem_mem _)⟩
    rw [cell_of_row y g j _ _ _ q3, ← Array.getElem?_toList]
    have e : cur.toList[j]? = xs[j]? := by
      rw [← q7, List.getElem?_take, if_pos (by omega)]
    rw [e, List.getElem?_eq_getElem (by omega)]
theorem Try.infoRow : (Try.prog.info? 41).map (fun i => (i.zero, i.size, i.bytes)) = some (some (.slice none 0 0), 1, 24) := by kernel_rfl
section
variable {ops : Array Oper} {rest : List Oper} {a : Act} {w : World} {Q : Exit → Act → World → Prop} {D : Option Tmp} {T : TypeId} {ps : String} {af : Array Edge} {gd : Option (Nat × Bool)}
theorem app_im_op {R : Act → World → Prop} (s xo : Operand) (K : Nat) (v u : Value) (N : Nat) (hs : a.eval s = v) (hx : a.eval xo = .slice (some ⟨w.heap.size, 0, none⟩) 1 1) (hI : Im K w v N) (hu : Im1 K w u) (hN : N ≤ 1000) (hK : K ≤ w.heap.size)
    (h : ∀ q d w', Hid (Im K w' (.slice q (N + 1) d) (N + 1)) → Hid (w.heap.size ≤ w'.heap.size) → Hid (∀ q, v.ownBlock = some q → K ≤ q ∧ ∃ cur, w.heap[q]? = some (.cells cur 41 (0, 0))) → Hid ((w.alloc (.cells #[u] 41)).grownBy w' v.ownBlock) → R (a.put D (.slice q (N + 1) d)) w') :
    Oper.wp Try.prog { dst := D, op := .call { callee := .builtin .append, args := #[s, xo], argTypes := #[32, 32] }, type := T, pos := ps, after := af, guard := gd } a (w.alloc (.cells #[u] 41)) R Q := by
  obtain ⟨xs, h1, h2, h3⟩ := hI
  obtain ⟨i0, hi, hz0, hz1, hz2⟩ := info_parts Try.infoRow
  obtain ⟨p, c, L, e, hl, hb, ho⟩ := hu
  subst e
  have hq : ∀ q, v.ownBlock = some q → K ≤ q ∧ ∃ cur, w.heap[q]? = some (.cells cur 41 (0, 0)) := own_type h1
  refine wp_append_own _ s xo 32 rfl K 41 i0 (.slice none 0 0) 1 24 Try.underlying32 hi hz0 hz1 hz2 rfl (by decide) v N xs hs (h1.alloc _) ⟨w.heap.size, 0, none⟩ 1 1 [.slice p L.length c] hx rfl
    (fun j y hy => ?_) (fun y hy => ?_) (by unfold maxLen; omega) (by omega) (by simp; omega) (fun v' w' hown hg _ => ?_)
  · match j, hy with
    | 0, hy => simp at hy; subst hy; simp [Addr.add]
  · simp at hy; subst hy; rfl
  · have hs1 : w.heap.size ≤ w'.heap.size := Nat.le_trans ((Below.refl _ w).alloc (Nat.le_refl _) _).size hg.size
    have hI' : Im K w' v' (N + 1) := ⟨xs ++ [.slice p L.length c], hown, by simp [h2], fun y hy => by
      have key : ∀ y, Im1 K w y → Im1 K w' y := fun y hy => by
        obtain ⟨p1, c1, L1, e1, k1, k2, k3⟩ := hy
        exact ⟨p1, c1, L1, e1, k1, k2, own_other k3 (fun q hq' => (hq q hq').2) (by decide) hg⟩
      rcases List.mem_append.1 hy with q | q
      · exact key y (h3 y q)
      · rw [List.mem_singleton] at q
        rw [q]
        exact key _ ⟨p, c, L, rfl, hl, hb, ho⟩⟩
    obtain ⟨q, d, rfl⟩ := hI'.len
    exact h q d w' hI' hs1 hq hg
theorem app_im (s xo : Operand) (K : Nat) (v u : Value) (N : Nat) (hs : a.eval s = v) (hx : a.eval xo = .slice (some ⟨w.heap.size, 0, none⟩) 1 1) (hI : Im K w v N) (hu : Im1 K w u) (hN : N ≤ 1000) (hK : K ≤ w.heap.size)
    (h : ∀ q d w', Hid (Im K w' (.slice q (N + 1) d) (N + 1)) → Hid (w.heap.size ≤ w'.heap.size) → Hid (∀ q, v.ownBlock = some q → K ≤ q ∧ ∃ cur, w.heap[q]? = some (.cells cur 41 (0, 0))) → Hid ((w.alloc (.cells #[u] 41)).grownBy w' v.ownBlock) → wpList Try.prog ops Q rest (a.put D (.slice q (N + 1) d)) w') :
    wpList Try.prog ops Q ({ dst := D, op := .call { callee := .builtin .append, args := #[s, xo], argTypes := #[32, 32] }, type := T, pos := ps, after := af, guard := none } :: rest) a (w.alloc (.cells #[u] 41)) :=
  wpList_plain rfl fun _ hR => app_im_op s xo K v u N hs hx hI hu hN hK fun q d w' h1 h2 h3 h4 => hR _ _ (h q d w' h1 h2 h3 h4)
end

end Go.Proofs.Ytpfghjnhoafcmaa

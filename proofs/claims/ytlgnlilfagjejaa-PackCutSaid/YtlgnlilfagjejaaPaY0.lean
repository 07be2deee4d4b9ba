/-
  What is cut off, in plain lists; own rows of numbers.
-/
import Derived.Test.YtlgnlilfagjejaaPaX0
namespace Go.Proofs.Ytlgnlilfagjejaa
open Go.RowKit

namespace Pk
/-- Where each of the first k ends. -/
def es (l : Nat → Th) (k : Nat) : List Value := (List.range k).map fun i => Value.int .i64 ((pt l (i + 1)).length : Nat)
theorem es_zero (l : Nat → Th) : es l 0 = [] := rfl
theorem es_succ (l : Nat → Th) (k : Nat) : es l k ++ [Value.int .i64 ((pt l (k + 1)).length : Nat)] = es l (k + 1) := by simp [es, List.range_succ]
theorem es_len (l : Nat → Th) (k : Nat) : (es l k).length = k := by simp [es]
theorem es_at (l : Nat → Th) (k i : Nat) (h : i < k) : (es l k)[i]? = some (Value.int .i64 ((pt l (i + 1)).length : Nat)) := by simp [es, h]
theorem cut_step {l : Nat → Th} (h : ∀ k, (l k).ok) (N k q : Nat) (hk : k < N) (hq : (pt l (k + 1)).length ≤ q) :
    ((pt l N).take q).drop (pt l k).length = bts (l k) ++ ((pt l N).take q).drop (pt l (k + 1)).length := by
  have hl := pt_len h k
  have hs := tl_step l N k hk
  have h1 : ((pt l N).take q).drop (pt l k).length = (tl l N k).take (q - (pt l k).length) := by unfold tl; rw [List.drop_take]
  have h2 : ((pt l N).take q).drop (pt l (k + 1)).length = (tl l N (k + 1)).take (q - (pt l (k + 1)).length) := by unfold tl; rw [List.drop_take]
  have hb := bts_len (h k)
  rw [h1, h2, hs, List.take_append, List.take_of_length_le (by omega)]
  congr 2
  omega
theorem cut_len (l : Nat → Th) (N k q : Nat) (hq : q ≤ (pt l N).length) : (((pt l N).take q).drop (pt l k).length).length = q - (pt l k).length := by
  rw [List.length_drop, List.length_take]
  omega
theorem cut_byt {l : Nat → Th} (h : ∀ k, (l k).ok) (N q : Nat) : Sha.Byt ((pt l N).take q) := fun x hx => pt_byt h N x (List.mem_of_mem_take hx)
theorem nx_short {n : Nat} {Y : List Int} (h : Y.length < n) : nx n Y = [] ∧ nb n Y false = true := ⟨by unfold nx; rw [if_pos h], by unfold nb; rw [if_pos h]⟩
theorem vi_nil : vi [] = 0 ∧ nx 8 [] = [] ∧ nb 8 [] true = true := ⟨by unfold vi; rfl, by unfold nx; rfl, by unfold nb; rfl⟩
attribute [irreducible] es
end Pk
theorem Try.info_i64 : (Try.prog.info? 3).map (fun i => (i.zero, i.size, i.bytes)) = some (some (.int .i64 0), 1, 8) := by kernel_rfl
theorem int_cell (w : World) (x : Int) (e : TypeId) : ∀ j u, [Value.int .i64 x][j]? = some u → (w.alloc (.cells #[.int .i64 x] e)).cell? (Addr.add ⟨w.heap.size, 0, none⟩ j) = some u := by
  intro j u hj
  match j, hj with
  | 0, hj => simp at hj; subst hj; simp [Addr.add]
theorem int_one (x : Int) : ∀ u ∈ [Value.int .i64 x], u.oneCell' = true := by
  intro u hu; simp at hu; subst hu; rfl
theorem own_at {w : World} {B n : Nat} {e : TypeId} {v : Value} {L : List Value} (h : w.ownsRow B e 1 v n L) (h0 : 0 < n) :
    ∃ eb cap, v = .slice (some ⟨eb, 0, none⟩) n cap ∧ eb < w.heap.size ∧ ∀ i u, L[i]? = some u → w.cell? ⟨eb, i, none⟩ = some u := by
  have hl : L.length = n := by have := h.1; simpa using this
  rcases h.2 with ⟨h1, h2⟩ | ⟨g, cap, cur, rfl, q0, q1, q2⟩
  · omega
  · refine ⟨g, cap, rfl, lt_of_block q1, fun i u hu => ?_⟩
    have hi := (List.getElem?_eq_some_iff.1 hu).1
    have hx := World.ownsRow.cellAt h i (by omega)
    rw [hx, hu]
theorem own_u8_grown {w w1 : World} {B n m k : Nat} {p : Option Addr} {c : Nat} {L : List Int} {v : Value} {E : List Value} {o : Obj} {e : TypeId} (h : w.ownsRow B 5 1 (.slice p m c) m (U8s L)) (hv : w.ownsRow n e 1 v k E) (he : 5 ≠ e) (hg : (w.alloc o).grownBy w1 v.ownBlock) :
    w1.ownsRow B 5 1 (.slice p m c) m (U8s L) :=
  own_grown (h.alloc o) hg (own_apart h hv he)
theorem bs_of_own {w : World} {B m c : Nat} {p : Option Addr} {l : List Int} (h : w.ownsRow B 5 1 (.slice p m c) m (U8s l)) (hb : Sha.Byt l) : Bs w p c l := bs_own h hb
theorem own_baseE {w : World} {B B' n : Nat} {e : TypeId} {v : Value} {xs : List Value} (h : w.ownsRow B e 1 v n xs) (hB : B' ≤ B) : w.ownsRow B' e 1 v n xs := own_base h hB
end Go.Proofs.Ytlgnlilfagjejaa

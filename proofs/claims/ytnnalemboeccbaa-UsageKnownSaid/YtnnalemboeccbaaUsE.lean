/-
  Package usage: contracts: New, slices.Clone, Segs.
-/
import Derived.Test.YtnnalemboeccbaaUsD
namespace Go.Proofs.Ytnnalemboeccbaa
open Go.RowKit

def tbl : TypeId := 50
def NewSay (t : TypeId) (n : Int) (w : World) (e : Ending) (w' : World) : Prop :=
  ∃ b v, e = .returned (.pointer (some ⟨b, 0, none⟩)) ∧ Hid (TAt t w.heap.size w' b v (Us.new n)) ∧ Hid (Below w.heap.size w w')
set_option maxHeartbeats 1000000 in
set_option maxRecDepth 100000 in
theorem new_any (n : Int) (w : World) : Calls Try.prog 9 #[.int .i64 n] w (NewSay 50 n w) := by
  have hle := Us.cut_le n 32 (by omega)
  obtain ⟨m, hm⟩ : ∃ m : Nat, Us.cut n 32 = (m : Int) := ⟨(Us.cut n 32).toNat, by omega⟩
  have hm32 : m ≤ 32 := by omega
  have H1 : ∀ w, Calls Try.prog 26 #[.int .i64 n, .int .i64 32] w fun e w' => e = .returned (.int .i64 (m : Int)) ∧ w' = w := fun w => by
    have := cut_any n 32 (by omega) w
    rw [hm] at this
    exact this
  have E : Us.new n = List.replicate m Us.z := by unfold Us.new; rw [hm, Int.toNat_natCast]
  unfold NewSay
  rw [E]
  clear E hm hle
  go_enter Try.func9, Try.ntmps9
  go_wp2_with (first
    | (go_at_call 26; refine (H1 _).mono ?_; rintro e1 w1 ⟨rfl, rfl⟩)
    | ((with_reducible refine make_sg _ _ m ?_ ?_ ?_ ?_); (exact rfl); (exact rfl); (exact Nat.le_trans hm32 (by omega)); intro w2 O2 B2 Z2))
  go_ret
  refine ⟨_, _, rfl, Lib.hid ⟨heap_alloc_new w2 _, O2.out.old ((Below.refl _ w2).alloc (Nat.le_refl _) _), B2.out.size⟩, Lib.hid (B2.out.alloc B2.out.size _)⟩
theorem eql_nil (p : Option Addr) (n c : Nat) (w : World) : (binOp .eql 34 (.slice p n c) (.slice none 0 0)).run Try.prog w = .ok (.bool p.isNone) w := by
  cases p <;> kernel_rfl
theorem SgO.all {B : Nat} {y : World} {g n c : Nat} {L : List Us.S} (h : SgO B y (.slice (some ⟨g, 0, none⟩) n c) L) : ∀ j u, (Us.sc L)[j]? = some u → y.cell? ((⟨g, 0, none⟩ : Addr).add j) = some u := by
  intro j u hu
  rcases h.2 with ⟨h2, _⟩ | ⟨g', cap, cur, h2, hb, hg, hn, hm, hs, ht⟩
  · cases h2
  · injection h2 with h2 _ _
    injection h2 with h2
    injection h2 with h2
    subst h2
    have hj := (List.getElem?_eq_some_iff.1 hu).1
    rw [Us.sc_len] at hj
    rw [← ht, List.getElem?_take, if_pos (by omega)] at hu
    rw [Addr.add_mid, Nat.zero_add, cell_of_row y g _ _ _ _ hg]
    simpa using hu
/-- Rows told, in new memory. -/
def SegsSay (T : List Us.S) (w : World) (e : Ending) (w' : World) : Prop := ∃ v, e = .returned v ∧ Hid (SgO w.heap.size w' v T) ∧ Hid (Below w.heap.size w w')
set_option maxHeartbeats 1000000 in
set_option maxRecDepth 100000 in
theorem clone_any {B : Nat} {v : Value} {T : List Us.S} (w : World) (h : SgO B w v T) (hl : T.length ≤ 1000) : Calls Try.prog 35 #[v] w (SegsSay T w) := by
  have hq := fun (p : Option Addr) (n c : Nat) (w : World) => eql_nil p n c w
  rcases h.2 with ⟨rfl, h3⟩ | ⟨g, cap, cur, rfl, _, hg, _⟩
  · obtain rfl : T = [] := List.eq_nil_of_length_eq_zero h3
    clear h
    go_enter Try.func35, Try.ntmps35
    go_wp2
    go_ret
    exact ⟨_, rfl, Lib.hid (sgo_nil _ _), Lib.hid (Below.refl _ _)⟩
  · obtain ⟨n, hn⟩ : ∃ n, T.length = n := ⟨_, rfl⟩
    have HB : Hid (Below w.heap.size w (w.alloc (.cells #[] 30))) := (Below.refl _ w).alloc (Nat.le_refl _) _
    have HO : Hid (SgO w.heap.size (w.alloc (.cells #[] 30)) (.slice (some ⟨w.heap.size, 0, none⟩) 0 0) []) := by
      refine ⟨rfl, Or.inr ⟨w.heap.size, 0, _, rfl, Nat.le_refl _, heap_alloc_new w _, Nat.le_refl _, by unfold maxLen; omega, rfl, rfl⟩⟩
    have HA : Hid (∀ j u, (Us.sc T)[j]? = some u → (w.alloc (.cells #[] 30)).cell? ((⟨g, 0, none⟩ : Addr).add j) = some u) := (h.old HB.out).all
    clear h hg
    rw [hn] at hl ⊢
    have HN := Lib.hid hn
    clear hn
    go_enter Try.func35, Try.ntmps35
    go_wp2_with (at_builtin; refine app_sg _ _ w.heap.size _ [] T _ n cap rfl rfl HO.out HN.out HA.out 0 rfl (by omega) (by omega) (by simp) ?_; intro q5 d5 w5 O5 G5)
    go_ret
    have O6 := O5.out
    rw [Nat.zero_add, List.nil_append] at O6
    exact ⟨_, rfl, Lib.hid O6, Lib.hid (HB.out.grown G5.out (by simp) (fun q hq => (World.ownsRow.lt HO.out q hq).1))⟩
set_option maxHeartbeats 1000000 in
set_option maxRecDepth 100000 in
theorem segs_any {B b : Nat} {v : Value} {T : List Us.S} (w : World) (h : TAt 50 B w b v T) (hl : T.length ≤ 32) :
    Calls Try.prog 14 #[.pointer (some ⟨b, 0, none⟩)] w (SegsSay T w) := by
  have hc := h.cell
  have H1 := Lib.hid (clone_any w h.own (by omega))
  clear h
  go_enter Try.func14, Try.ntmps14
  go_wp2_with (go_at_call 35; refine H1.out.mono ?_; rintro e1 w1 ⟨v1, rfl, O1, B1⟩)
  go_ret
  exact ⟨_, rfl, O1, B1⟩
end Go.Proofs.Ytnnalemboeccbaa

/-
  The law SealEither walked.
-/
import Derived.Test.YtkjfhbmdogmecaaGreatDoorSe2
namespace Go.Proofs.YtkjfhbmdogmecaaGreatDoor
open Go.RowKit

section
variable {P : Program} {md : Region.Mode} {ops : Array Oper} {Q : Exit → Act → World → Prop} {S : World → Prop}
/-- What its guard leaves out may be taken first, too. -/
theorem anyH_skip (i D : Nat) {fuel : Nat} {listed : Array Bool} {a : Act} {w : World} {op : Op} {T : TypeId} {ps : String} {af : Array Edge} {gd : Option (Nat × Bool)} (hS : S w) (ho : ops[i]? = some { dst := some D, op := op, type := T, pos := ps, after := af, guard := gd })
    (hs : Region.noSelect ops = true) (hf : Region.free md ops listed i = true) (hr : (Region.ready md ops listed).contains i = true)
    (hQ : ∀ c a w, Q (.panic c) (a.put (some D) undef) w → Q (.panic c) a w) (hw : Region.wanted { dst := some D, op := op, type := T, pos := ps, after := af, guard := gd } (yielded ops a.tmps) = false)
    (h : wpAnyH P md ops Q S fuel (listed.setIfInBounds i true) (a.put (some D) undef) w) : wpAnyH P md ops Q S (fuel + 1) listed a w :=
  wpAnyH_first ho (Region.noSelect_spec hs) hQ fuel listed a w (Region.free_spec ho hf) (by simpa using hr) (Or.inr ⟨hw, rfl⟩) hS h
end

/-- Rows of bytes that came in. -/
def BRows (w : World) (tp : Option Addr) (Rs : List (List Int)) : Prop :=
  0 < Rs.length → ∃ tb to, tp = some ⟨tb, to, none⟩ ∧ tb < w.heap.size ∧ ∀ r, r < Rs.length → ∃ p c, w.cell? ⟨tb, to + r, none⟩ = some (.slice p (Rs.getD r []).length c) ∧ Bs w p c (Rs.getD r [])

set_option maxHeartbeats 1000000 in
set_option maxRecDepth 100000 in
theorem copybytes_any (L : List Int) (p : Option Addr) (n cap : Nat) (hn : L.length = n) (hL : L.length ≤ 1000000) (w : World) (hp : BAt w p L) :
    Calls Tryz.prog 66 #[.slice p n cap] w fun e w' => ∃ v, e = .returned v ∧ w'.ownsRow w.heap.size 5 1 v n (U8s L) ∧ Below w.heap.size w w' := by
  subst hn
  obtain ⟨i0, hi, hz0, hz1, hz2⟩ := info_parts Tryz.info_u8
  have Hp := Lib.hid hp; clear hp
  go_enter Tryz.func66, Tryz.ntmps66
  go_wp2
  go_loopw [3, 4] (fun v i wr => ∃ k : Nat, k ≤ L.length ∧ i = .int .i64 k ∧ Hid (wr.ownsRow w.heap.size 5 1 v k (U8s (L.take k))) ∧ Hid (Below w.heap.size w wr)) (fun _ i _ => L.length - (intOf i).toNat)
  case atStart => exact ⟨0, Nat.zero_le _, rfl, by unfold U8s; exact World.ownsRow_nil _ _ _ _, Below.refl _ _⟩
  case round =>
    obtain ⟨k, hk, rfl, HO, HB⟩ := hrel
    by_cases hlt : k < L.length
    · obtain ⟨ab, ao, hpp, hcs⟩ := (Hp.out.old HB.out).2 (by omega)
      subst hpp
      have c0 := hcs k hlt
      clear hcs
      obtain ⟨x, hx⟩ : ∃ x, L.getD k 0 = x := ⟨_, rfl⟩
      rw [hx] at c0
      go_wp2_with (first
        | (at_builtin; refine wpList_append_own _ rfl _ _ 22 rfl w.heap.size 5 i0 (.int .u8 0) 1 1 Tryz.underlying22 hi hz0 hz1 hz2 rfl (by decide) _ _ _ rfl (HO.out.alloc _) ⟨wr.heap.size, 0, none⟩ 1 1 [.int .u8 x] rfl rfl (u8_cell _ _ _) (u8_one _) (by unfold maxLen; omega) (by omega) (by have := HB.out.size; simp; omega) ?_)
        | go_in)
      intro v' w1 hown' hgrow _
      have hb1 := below_own HB.out (HB.out.size) HO.out hgrow
      rw [U8s_snoc, ← hx, take_snoc L k hlt] at hown'
      clear hgrow HO HB
      go_wp2
      exact ⟨⟨k + 1, by omega, by go_num, hown', hb1⟩, by simp [intOf]; omega⟩
    · have E : k = L.length := by omega
      have HO2 : Hid (wr.ownsRow w.heap.size 5 1 u3 L.length (U8s L)) := by
        have := HO.out
        rw [E, List.take_length] at this
        exact this
      have hge : L.length ≤ k := by omega
      clear hlt HO E
      go_wp2
      go_ret
      exact ⟨_, rfl, HO2.out, HB.out⟩

/-- What the rounds read. -/
def EiS (b tb k : Nat) (e n : Int) (ph : Option Addr) (nh ch : Nat) (p : Option Addr) (m c : Nat) (x : World) : Prop :=
  x.cell? ⟨b, 0, none⟩ = some (.int .i64 e) ∧ x.cell? ⟨b, 1, none⟩ = some (.int .i64 n) ∧ x.cell? ⟨b, 2, none⟩ = some (.slice ph nh ch) ∧ x.cell? ⟨tb, k, none⟩ = some (.slice p m c)

end Go.Proofs.YtkjfhbmdogmecaaGreatDoor

/-
  The reference: find, Peek, Read, Dirty.
-/
import Derived.Test.YtdkkoffmffallaaDkX4
namespace Go.Proofs.Ytdkkoffmffallaa
open Go.RowKit

theorem Dk.fnd_cons (x : Dk.S) (l : List Dk.S) (i : Nat) : Dk.fnd (x :: l) i = if x.1 = i then some x.2 else Dk.fnd l i := by
  unfold Dk.fnd
  rw [List.find?_cons]
  by_cases h : x.1 = i <;> simp [h]
/-- What find says. -/
def FndSay (o : Option (List Int)) (w : World) (e : Ending) (w' : World) : Prop := ∃ v, e = .returned (.tuple #[v, .bool o.isSome]) ∧ Hid (w'.ownsRow w.heap.size 5 1 v (o.getD []).length (U8s (o.getD [])) ∧ Sha.Byt (o.getD [])) ∧ Hid (Below w.heap.size w w')
set_option maxHeartbeats 2000000 in
set_option maxRecDepth 100000 in
theorem find_any (l : List Dk.S) (i : Nat) (U : Nat → Prop) (v : Value) (w : World) (hl : Lst 0 w U v l) (hn : l.length ≤ 5000) (hsz : ∀ x ∈ l, x.2.length ≤ 1024) : Calls Try.prog 56 #[v, .int .i64 (i : Int)] w (FndSay (Dk.fnd l i) w) := by
  obtain ⟨a, cap, rfl, ha⟩ := hl.len
  have HL := Lib.hid hl
  have HA := Lib.hid ha
  have HSZ := Lib.hid hsz
  clear hl ha hsz
  go_enter Try.func56, Try.ntmps56
  go_upto_region 2 with (fail)
  go_loopw [6] (fun v6 wr => ∃ k : Nat, k ≤ l.length ∧ v6 = .int .i64 k ∧ Hid (Dk.fnd l i = Dk.fnd (l.drop k) i) ∧ Hid (Below w.heap.size w wr)) (fun v6 _ => l.length - (intOf v6).toNat)
  case atStart => exact ⟨0, Nat.zero_le _, rfl, Lib.hid rfl, Lib.hid (Below.refl _ _)⟩
  case round =>
    obtain ⟨k, hk, rfl, HF, HB⟩ := hrel
    by_cases hlt : k < l.length
    · obtain ⟨x, hx⟩ : ∃ x, l[k]? = some x := ⟨_, List.getElem?_eq_getElem hlt⟩
      obtain ⟨gs, rfl⟩ := HA.out (by omega)
      obtain ⟨u, c0, c1, hu⟩ := (HL.out.old HB.out).at hx
      have hk0 : (0 : Int) ≤ (k : Int) := by omega
      have hk1 : (k : Int) < (l.length : Int) := by omega
      have HT : Hid (Dk.fnd (l.drop k) i = if x.1 = i then some x.2 else Dk.fnd (l.drop (k + 1)) i) := by
        show _ = _
        have e : l.drop k = x :: l.drop (k + 1) := by
          rw [List.drop_eq_getElem_cons hlt]
          rw [List.getElem?_eq_getElem hlt] at hx
          rw [Option.some.inj hx]
        rw [e, Dk.fnd_cons]
      have HXS := Lib.hid (HSZ.out x (List.mem_of_getElem? hx))
      have HU := Lib.hid hu
      clear hx hu
      obtain ⟨p, c, hue, _⟩ := HU.out.bs
      subst hue
      by_cases e : x.1 = i
      · have hxi : (x.1 : Int) = (i : Int) := by omega
        rw [hxi] at c0
        have HBS : Hid (Bs wr p c x.2) := by
          obtain ⟨p', c', h1, h2⟩ := HU.out.bs
          cases h1
          exact h2
        go_wp2_with (go_at_call 51; refine (copybytes_any x.2 p x.2.length c rfl (by have := HXS.out; omega) _ HBS.out.bat).mono ?_; rintro e4 w4 ⟨v4, rfl, ho4, hb4⟩; have O4 := Lib.hid ho4; have B4 : Hid (Below wr.heap.size wr w4) := hb4; clear ho4 hb4)
        go_ret2
        have eo : Dk.fnd l i = some x.2 := by rw [HF.out, HT.out, if_pos e]
        refine ⟨v4, by rw [eo]; rfl, Lib.hid ?_, Lib.hid (HB.out.trans (B4.out.mono HB.out.size))⟩
        rw [eo]
        exact ⟨own_base O4.out HB.out.size, HU.out.2.1⟩
      · have hxi : ((x.1 : Int) == (i : Int)) = false := by simp; omega
        go_wp2
        exact ⟨⟨k + 1, by omega, by go_num, Lib.hid (by rw [HF.out, HT.out, if_neg e]), HB⟩, by simp [intOf]; omega⟩
    · go_wp2
      go_ret2
      have eo : Dk.fnd l i = none := by rw [HF.out, List.drop_eq_nil_of_le (by omega)]; rfl
      refine ⟨.slice none 0 0, by rw [eo]; rfl, Lib.hid ?_, HB⟩
      rw [eo]
      exact ⟨by unfold U8s; exact World.ownsRow_nil _ _ _ _, fun x hx => by simp at hx⟩
section
variable {U : Nat → Prop} {r qb : Nat} {m : Dk.M} {vl vc : Value} {G : Nat → Option (List Int)}
theorem RfC.szc {y : World} (h : RfC y U r qb vl vc m G) : ∀ x ∈ Dk.lst m.ca m.n, x.2.length ≤ 1024 := fun x hx => h.ok.cab _ _ (Dk.lst_lt _ _ hx).2
theorem RfC.szl {y : World} (h : RfC y U r qb vl vc m G) : ∀ x ∈ Dk.lst G m.n, x.2.length ≤ 1024 := fun x hx => by
  have h1 := (Dk.lst_lt _ _ hx).2
  have h2 := h.ls x.1
  rw [h1] at h2
  have h3 := h.ok.lsb x.1
  rw [h2] at h3
  exact h3
set_option maxHeartbeats 2000000 in
set_option maxRecDepth 100000 in
theorem refpeek_any (i : Nat) (hi : i < m.n) (w : World) (hd : RfC w U r qb vl vc m G) : Calls Try.prog 52 #[.pointer (some ⟨r, 0, none⟩), .int .i64 (i : Int)] w fun e w' => ∃ v, e = .returned v ∧ Hid (w'.ownsRow w.heap.size 5 1 v (Dk.peek m i).length (U8s (Dk.peek m i)) ∧ Sha.Byt (Dk.peek m i)) ∧ Hid (Below w.heap.size w w') := by
  obtain ⟨_, _, _, _, c4, c5, _⟩ := hd.cells
  have HD := Lib.hid hd; clear hd
  have hn2 := HD.out.ok.n2
  have e1 : Dk.fnd (Dk.lst m.ca m.n) i = m.ca i := by rw [Dk.fnd_lst, if_pos hi]
  have e2 : Dk.fnd (Dk.lst G m.n) i = G i := by rw [Dk.fnd_lst, if_pos hi]
  have H1 : Hid (∀ y, Below w.heap.size w y → Calls Try.prog 56 #[vc, .int .i64 (i : Int)] y (FndSay (m.ca i) y)) := fun y hy => by
    have h := find_any (Dk.lst m.ca m.n) i U vc y (HD.out.cac.old hy) (by have := Dk.lst_len m.ca m.n; omega) HD.out.szc
    rw [e1] at h
    exact h
  have H2 : Hid (∀ y, Below w.heap.size w y → Calls Try.prog 56 #[vl, .int .i64 (i : Int)] y (FndSay (G i) y)) := fun y hy => by
    have h := find_any (Dk.lst G m.n) i U vl y (HD.out.las.old hy) (by have := Dk.lst_len G m.n; omega) HD.out.szl
    rw [e2] at h
    exact h
  have HCK : Hid (∀ y, Below w.heap.size w y → y.cell? ⟨r, 4, none⟩ = some vl) := fun y hy => (hy.cell (World.block_lt_of_cell? _ _ c4)).trans c4
  cases hc : m.ca i with
  | some L =>
    have ep : Dk.peek m i = L := by unfold Dk.peek; rw [hc]; rfl
    rw [hc] at H1
    go_enter Try.func52, Try.ntmps52
    go_wp2_with (go_at_call 56; refine (H1.out _ (Below.refl _ _)).mono ?_; rintro e w3 ⟨v3, rfl, ho3, hb3⟩; dsimp only [Option.isSome_some, Option.getD_some] at ho3 ⊢)
    go_ret
    rw [ep]
    exact ⟨v3, rfl, ho3, hb3⟩
  | none =>
    have ep : Dk.peek m i = (G i).getD [] := by unfold Dk.peek; rw [hc]; exact HD.out.ls i
    rw [hc] at H1
    have T1 : Hid True := trivial
    go_enter Try.func52, Try.ntmps52
    go_wp2_with (first
      | (go_at_call 56; have tk := T1.out; clear tk T1; refine (H1.out _ (Below.refl _ _)).mono ?_; rintro e w3 ⟨v3, rfl, ho3, hb3⟩; dsimp only [Option.isSome_none] at ho3 ⊢; have c4' := HCK.out _ hb3.out)
      | (go_at_call 56; refine (H2.out _ hb3.out).mono ?_; rintro e w4 ⟨v4, rfl, ho4, hb4⟩))
    go_ret
    rw [ep]
    exact ⟨v4, rfl, Lib.hid ⟨own_base ho4.out.1 hb3.out.size, ho4.out.2⟩, Lib.hid (hb3.out.trans (hb4.out.mono hb3.out.size))⟩
end
end Go.Proofs.Ytdkkoffmffallaa

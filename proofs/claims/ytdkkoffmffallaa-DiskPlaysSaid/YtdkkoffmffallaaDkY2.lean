/-
  Both disks; alike.
-/
import Derived.Test.YtdkkoffmffallaaDkY1
namespace Go.Proofs.Ytdkkoffmffallaa
open Go.RowKit

/-- The program's disk and the reference's, apart. -/
structure Bth (x y : World) (T : Nat → Prop) (d lb rb cb : Nat) (m : Dk.M) (U : Nat → Prop) (r qb : Nat) (k : Dk.M) : Prop where
  a : Sit x y T d lb rb cb m
  b : RfAt y U r qb k
  base : ∀ g, U g → x.heap.size ≤ g
  ap : ∀ g, T g → ¬ U g
section
variable {x y z : World} {T U : Nat → Prop} {d lb rb cb r qb : Nat} {m m' k k' : Dk.M}
theorem Bth.next (h : Bth x y T d lb rb cb m U r qb k) (hb : Below y.heap.size y z) : Bth x z T d lb rb cb m U r qb k := ⟨h.a.next hb, h.b.old hb, h.base, h.ap⟩
theorem Bth.nd (h : Bth x y T d lb rb cb m U r qb k) : ∀ j ∈ [d, lb, rb, cb], ¬ U j := fun j hj => by
  simp at hj
  rcases hj with rfl | rfl | rfl | rfl
  · exact h.ap _ h.a.dk.lt.1
  · exact h.ap _ h.a.dk.lt.2.1
  · exact h.ap _ h.a.dk.lt.2.2.1
  · exact h.ap _ h.a.dk.lt.2.2.2
theorem Bth.nr (h : Bth x y T d lb rb cb m U r qb k) : ∀ j ∈ [r, qb], ¬ T j := fun j hj ht => by
  simp at hj
  rcases hj with rfl | rfl
  · exact h.ap _ ht h.b.lt.1
  · exact h.ap _ ht h.b.lt.2
theorem Bth.kr (h : Bth x y T d lb rb cb m U r qb k) : ∀ j ∈ [r, qb], x.heap.size ≤ j := fun j hj => by
  simp at hj
  rcases hj with rfl | rfl
  · exact h.base _ h.b.lt.1
  · exact h.base _ h.b.lt.2
theorem Bth.dsk (h : Bth x y T d lb rb cb m U r qb k) (hd : DkAt z T d lb rb cb m') (hm : Mv [d, lb, rb, cb] y z) : Bth x z T d lb rb cb m' U r qb k := ⟨h.a.disk hd hm, h.b.mv hm h.nd, h.base, h.ap⟩
theorem Bth.dwr (h : Bth x y T d lb rb cb m U r qb k) (hd : DkAt z (Own T y z) d lb rb cb m') (hm : Mv [d, lb, rb, cb] y z) : Bth x z (Own T y z) d lb rb cb m' U r qb k := ⟨h.a.write hd hm, h.b.mv hm h.nd, h.base, fun g hg hu => by
  rcases hg with hg | hg
  · exact h.ap g hg hu
  · have := h.b.top g hu; omega⟩
theorem Bth.mvA (h : Bth x y T d lb rb cb m U r qb k) (hm : Mv [r, qb] y z) : Sit x z T d lb rb cb m := ⟨h.a.dk.mv hm h.nr, hm.below h.a.old h.kr h.a.old.size, h.a.base⟩
theorem Bth.rf0 (h : Bth x y T d lb rb cb m U r qb k) (hd : RfAt z U r qb k') (hm : Mv [r, qb] y z) : Bth x z T d lb rb cb m U r qb k' := ⟨h.mvA hm, hd, h.base, h.ap⟩
theorem Bth.rfw (h : Bth x y T d lb rb cb m U r qb k) (hd : RfAt z (Own U y z) r qb k') (hm : Mv [r, qb] y z) : Bth x z T d lb rb cb m (Own U y z) r qb k' := ⟨h.mvA hm, hd, fun g hg => by
  rcases hg with hg | hg
  · exact h.base g hg
  · exact Nat.le_trans h.a.old.size hg.1, fun g hg hu => by
  rcases hu with hu | hu
  · exact h.ap g hg hu
  · have := h.a.dk.top g hg; omega⟩
theorem Sit.turned {g : Nat} (h : Sit x y T d lb rb cb m) (ho : Only g y z) (hg : x.heap.size ≤ g) (hT : ¬ T g) : Sit x z T d lb rb cb m := ⟨h.dk.only ho hT, ho.below h.old hg h.old.size, h.base⟩
theorem Bth.only {q : Nat} (h : Bth x y T d lb rb cb m U r qb k) (ho : Only q y z) (hq : x.heap.size ≤ q) (h1 : ¬ T q) (h2 : ¬ U q) : Bth x z T d lb rb cb m U r qb k :=
  ⟨h.a.turned ho hq h1, h.b.mv (ks := [q]) (Mv.only ho (by simp)) (fun j hj => by simp at hj; subst hj; exact h2), h.base, h.ap⟩
end
section
variable {x : World} {T U : Nat → Prop} {d lb rb cb r qb : Nat} {m : Dk.M}
theorem Bth.spoil {y z : World} {k : Dk.M} {v : Value} (h : Bth x y T d lb rb cb m U r qb k) (hs : Sp v y z) (hv : ∀ g, v.ownBlock = some g → x.heap.size ≤ g ∧ ¬ T g ∧ ¬ U g) : Bth x z T d lb rb cb m U r qb k := by
  rcases hs with rfl | ⟨g, hg, ho⟩
  · exact h
  · exact h.only ho (hv g hg).1 (hv g hg).2.1 (hv g hg).2.2
/-- A row that is new lies in neither. -/
theorem Bth.free {y z : World} {k : Dk.M} {e s n : Nat} {v : Value} {xs : List Value} (h : Bth x y T d lb rb cb m U r qb k) (ho : z.ownsRow y.heap.size e s v n xs) : ∀ g, v.ownBlock = some g → x.heap.size ≤ g ∧ ¬ T g ∧ ¬ U g := fun g hg => by
  have h1 := (own_type ho g hg).1
  exact ⟨Nat.le_trans h.a.old.size h1, fun ht => by have := h.a.dk.top g ht; omega, fun hu => by have := h.b.top g hu; omega⟩
/-- What alike says. -/
def AlikeSay (x : World) (T : Nat → Prop) (d lb rb cb : Nat) (m : Dk.M) (U : Nat → Prop) (r qb : Nat) (e : Ending) (w' : World) : Prop := e = .returned (.bool true) ∧ ∃ m', Hid (Bth x w' T d lb rb cb m' U r qb m') ∧ Hid (m'.n = m.n ∧ m'.wr = m.wr ∧ ∀ j, m'.rd j ≤ m.rd j + 1)
set_option maxHeartbeats 800000 in
set_option maxRecDepth 100000 in
theorem alike_any (w : World) (hb : Bth x w T d lb rb cb m U r qb m) (hrd : ∀ j, m.rd j ≤ 1000000) (hwr : m.wr ≤ 1000000) : Calls Try.prog 14 #[.pointer (some ⟨d, 0, none⟩), .pointer (some ⟨r, 0, none⟩)] w (AlikeSay x T d lb rb cb m U r qb) := by
  have HB := Lib.hid hb
  have HRD := Lib.hid hrd
  clear hb hrd
  have HN2 := Lib.hid HB.out.a.dk.ok.n2
  obtain ⟨nd, hnd⟩ : ∃ nd, Hid ((Dk.dl m).length = nd) := ⟨_, rfl⟩
  have hnd4 : nd ≤ 4096 := by rw [← hnd.out]; have := Dk.dl_len m; have := HN2.out; omega
  have HH1 : Hid (Dk.here m (-1) = false) := by show _ = _; unfold Dk.here; rw [decide_eq_false (by omega)]; rfl
  have HH2 : Hid (Dk.here m (m.n : Int) = false) := by show _ = _; unfold Dk.here; rw [decide_eq_false (show ¬ (m.n : Int) < (m.n : Int) by omega)]; simp
  go_enter Try.func14, Try.ntmps14
  go_upto_region 2 with (go_at_call 20; refine (dirty_any _ HB.out.a.dk (by omega)).mono ?_; rintro e1 w1 ⟨v1, rfl, ho1, hb1⟩; have ho1' := ho1.out; rw [hnd.out] at ho1'; obtain ⟨a1, c1, rfl, hz1⟩ := dirty_iat HB.out.a.dk ho1' hnd.out; have O1 := Lib.hid ho1'; have HZ1 := Lib.hid hz1; have B1 : Hid (Below w.heap.size w w1) := hb1; have H1 := Lib.hid (HB.out.next B1.out); clear ho1 ho1' hb1 hz1)
  have HDK : Hid (∀ y, Below w1.heap.size w1 y → DkAt y T d lb rb cb m) := fun y hy => (H1.out.next hy).a.dk
  have HRF : Hid (∀ y, Below w1.heap.size w1 y → RfAt y U r qb m) := fun y hy => (H1.out.next hy).b
  have HCE : Hid (∀ y, Below w1.heap.size w1 y → y.cell? ⟨r, 0, none⟩ = some (.int .i64 (m.n : Int)) ∧ y.cell? ⟨r, 3, none⟩ = some (.bool m.down) ∧ y.cell? ⟨r, 2, none⟩ = some (.int .i64 (m.wr : Int))) := fun y hy => by
    obtain ⟨vl, vc, G, h⟩ := HRF.out y hy
    exact ⟨h.cells.1, h.cells.2.2.2.1, h.cells.2.2.1⟩
  have B0 : Hid (Below w1.heap.size w1 w1.drew) := (Below.refl _ w1).drew
  have HI1 : Hid (∀ y, Below w1.heap.size w1 y → IAt y a1 (Zs (Dk.dl m))) := fun y hy => HZ1.out y (Mv.of_below hy)
  go_region_held3 (fun y => y.cell? ⟨r, 0, none⟩ = some (.int .i64 (m.n : Int)) ∧ y.cell? ⟨r, 3, none⟩ = some (.bool m.down) ∧ y.cell? ⟨r, 2, none⟩ = some (.int .i64 (m.wr : Int)))
    (first | exact HCE.out _ (Below.refl _ _) | exact HCE.out _ B0.out | exact HCE.out _ B5.out | exact HCE.out _ B6.out)
    ((first
      | (go_at_call 40; refine (len_any _ (HDK.out _ B0.out)).mono ?_; rintro e y ⟨rfl, rfl⟩)
      | (go_at_call 21; refine (down_any _ (HDK.out _ B0.out)).mono ?_; rintro e y ⟨rfl, rfl⟩)
      | (go_at_call 26; refine (writes_any _ (HDK.out _ B0.out)).mono ?_; rintro e y ⟨rfl, rfl⟩)
      | (go_at_call 41; refine (refdirty_any _ (HRF.out _ B0.out)).mono ?_; rintro e5 w5 ⟨v5, rfl, ho5, hb5⟩; have ho5' := ho5.out; rw [hnd.out] at ho5'; obtain ⟨a5, c5, rfl, hz5⟩ := dirty_iat (HDK.out _ B0.out) ho5' hnd.out; have HZ5 := Lib.hid hz5; have B5 : Hid (Below w1.heap.size w1 w5) := Lib.hid (B0.out.trans hb5); clear ho5 ho5' hb5 hz5)
      | (go_at_call 24; refine (same_ints (Zs (Dk.dl m)) a1 a5 nd nd c1 c5 (by rw [zs_len, hnd.out]) (by rw [zs_len, hnd.out]) w5 (fun y hy => HI1.out y (B5.out.trans (hy.mono B5.out.size))) (fun y hy => HZ5.out y (Mv.of_below hy)) (by rw [zs_len, hnd.out]; omega)).mono ?_; rintro e6 w6 ⟨rfl, hb6⟩; have B6 : Hid (Below w1.heap.size w1 w6) := Lib.hid (B5.out.trans (hb6.mono B5.out.size)); clear hb6)
      | (go_at_call 27; refine (reads_any _ _ (HDK.out _ B6.out)).mono ?_; first | rw [HH1.out] | rw [HH2.out]; rintro e y ⟨rfl, rfl⟩)))
  have B6' := B6
  have H6 := Lib.hid (H1.out.next B6.out)
  have O6 := Lib.hid (own_keepX O1.out B6.out)
  have HFR : Hid (∀ g, (Value.slice a1 nd c1).ownBlock = some g → x.heap.size ≤ g ∧ ¬ T g ∧ ¬ U g) := HB.out.free O1.out
  clear H1 HDK HRF HCE B0 HI1 HZ5 HZ1 O1 HH1 HH2
  go_upto_region 6 with (go_at_call 42; refine (spoilints_own O6.out (by omega)).mono ?_; rintro e7 w7 ⟨rfl, hs7⟩; have H7 := Lib.hid (H6.out.spoil hs7 HFR.out); clear hs7)
  go_loopw [6, 7, 8, 9, 10] (fun v6 _ _ _ _ wr => ∃ (k : Nat) (m' : Dk.M), k ≤ m.n ∧ v6 = .int .i64 k ∧ Hid (Bth x wr T d lb rb cb m' U r qb m') ∧ Hid (m'.n = m.n ∧ m'.wr = m.wr ∧ ∀ j, m'.rd j = m.rd j + if j < k then 1 else 0)) (fun v6 _ _ _ _ _ => m.n - (intOf v6).toNat)
  case atStart => exact ⟨0, m, Nat.zero_le _, rfl, H7, Lib.hid ⟨rfl, rfl, fun j => by rw [if_neg (by omega)]; rfl⟩⟩
  case round =>
    clear H6 H7 O6
    obtain ⟨k, m', hk, rfl, HS, HM⟩ := hrel
    have hn2 := HN2.out
    have c0 : wr.cell? ⟨r, 0, none⟩ = some (.int .i64 (m.n : Int)) := by
      obtain ⟨vl, vc, G, h⟩ := HS.out.b
      rw [h.cells.1, HM.out.1]
    have HB1 : Hid (∀ j, m'.rd j ≤ 1000000000) := fun j => by rw [HM.out.2.2]; have := HRD.out j; split <;> omega
    by_cases hlt : k < m.n
    · have hk0 : (0 : Int) ≤ (k : Int) := by omega
      have hk1 : (k : Int) < (m.n : Int) := by omega
      have HHK : Hid (Dk.here m' (k : Int) = true) := by show _ = _; unfold Dk.here; rw [HM.out.1, decide_eq_true hk0, decide_eq_true hk1]; rfl
      have HE : Hid (Dk.rdE m' (k : Int) = 0) := by show _ = _; unfold Dk.rdE; rw [HHK.out]; rfl
      obtain ⟨X, hX⟩ : ∃ X, Hid (Dk.rdX m' (k : Int) = X) := ⟨_, rfl⟩
      have HXL : Hid (X.length ≤ 1024) := by
        show X.length ≤ _
        rw [← hX.out]
        unfold Dk.rdX
        rw [HHK.out, if_pos rfl]
        exact HS.out.a.dk.peek_le _
      have HN : Hid ((Dk.rdM m' (k : Int)).n = m.n ∧ (Dk.rdM m' (k : Int)).wr = m.wr ∧ ∀ j, (Dk.rdM m' (k : Int)).rd j = m.rd j + if j < k + 1 then 1 else 0) := by
        unfold Dk.rdM
        rw [HHK.out, if_pos rfl]
        refine ⟨HM.out.1, HM.out.2.1, fun j => ?_⟩
        show upd m'.rd (k : Int).toNat _ j = _
        rw [Int.toNat_natCast]
        by_cases e : j = k
        · subst e; rw [upd_same, HM.out.2.2, if_neg (by omega), if_pos (by omega)]
        · rw [upd_other _ _ e, HM.out.2.2]
          by_cases h : j < k
          · rw [if_pos h, if_pos (by omega)]
          · rw [if_neg h, if_neg (by omega)]
      go_wp2_with (first
        | (go_at_call 27; refine (reads_any (k : Int) _ HS.out.a.dk).mono ?_; rw [HHK.out]; rintro e y ⟨rfl, rfl⟩)
        | (go_at_call 43; refine (refreads_any (k : Int) _ HS.out.b).mono ?_; rw [HHK.out]; rintro e y ⟨rfl, rfl⟩)
        | (go_at_call 18; refine (read_any (k : Int) _ HS.out.a.dk HB1.out).mono ?_; rintro e3 q3 ⟨v3, rfl, hv3, hd3, hm3⟩; rw [hX.out] at hv3; obtain ⟨p3, c3, rfl, _⟩ := rd_bs hv3; rw [HE.out]; have P3 := Lib.hid hv3.out; have M3 := Lib.hid hm3.out; have H3 := Lib.hid (HS.out.dsk hd3.out hm3.out); clear hv3 hd3 hm3)
        | (go_at_call 32; refine (refread_any (k : Int) _ H3.out.b HB1.out).mono ?_; rintro e4 q4 ⟨v4, rfl, hv4, hd4, hm4⟩; rw [hX.out] at hv4; obtain ⟨p4, c4, rfl, hb4⟩ := rd_bs hv4; rw [HE.out]; have P4 := Lib.hid hb4; have P3' := Lib.hid (own_keepB P3.out.1 (fun g hg => hm4.out.block g (P3.out.1.lt g hg).2 (fun hin => by have h1 := (P3.out.1.lt g hg).1; have h2 := HS.out.b.lt; have h3 := HS.out.b.top _ h2.1; have h4 := HS.out.b.top _ h2.2; simp at hin; rcases hin with rfl | rfl <;> omega))); obtain ⟨p3', c3', hpe, hpb⟩ := rd_bs (Lib.hid (And.intro P3'.out P3.out.2)); injection hpe with he1 _ he3; subst he1; subst he3; have PB := Lib.hid hpb; clear hpb; have H4 := Lib.hid (H3.out.rf0 hd4.out hm4.out); clear hv4 hd4 hm4 hb4)
        | (go_at_call 19; refine (same_any X p3 p4 _ _ c3 c4 rfl rfl _ PB.out.bat P4.out.bat (by have := HXL.out; omega)).mono ?_; rintro e5 q5 ⟨rfl, hb5⟩; have H5 := Lib.hid (H4.out.next hb5); clear hb5))
      exact ⟨⟨k + 1, _, by omega, by go_num, H5, HN⟩, by simp [intOf]; omega⟩
    · go_wp2
      go_ret
      exact ⟨rfl, m', HS, Lib.hid ⟨HM.out.1, HM.out.2.1, fun j => by rw [HM.out.2.2]; split <;> omega⟩⟩
end
end Go.Proofs.Ytdkkoffmffallaa

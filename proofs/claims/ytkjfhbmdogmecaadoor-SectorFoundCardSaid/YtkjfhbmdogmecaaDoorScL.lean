/-
  The law SectorOnly walked.
-/
import Derived.Test.YtkjfhbmdogmecaaDoorScJ
namespace Go.Proofs.YtkjfhbmdogmecaaDoor
open Go.RowKit

/-- A kind and a place in memory. -/
def AO (k a : Int) : Obj := .cells #[.int .i64 k, .int .i64 a] 43
structure AAt (w : World) (g : Nat) (k a : Int) : Prop where
  row : w.heap[g]? = some (AO k a)
section
variable {w x : World} {g : Nat} {k a : Int}
theorem AAt.c0 (h : AAt w g k a) : w.cell? ⟨g, 0, none⟩ = some (.int .i64 k) := by rw [cell_of_row w g 0 _ _ _ h.row]; rfl
theorem AAt.c1 (h : AAt w g k a) : w.cell? ⟨g, 1, none⟩ = some (.int .i64 a) := by rw [cell_of_row w g 1 _ _ _ h.row]; rfl
theorem AAt.old (h : AAt w g k a) (hb : Below w.heap.size w x) : AAt x g k a := ⟨(hb.block _ (Array.getElem?_eq_some_iff.1 h.row).1).trans h.row⟩
theorem AAt.new (w : World) (k a : Int) : AAt (w.alloc (AO k a)) w.heap.size k a := ⟨heap_alloc_new w _⟩
end

set_option maxHeartbeats 4000000 in
set_option maxRecDepth 100000 in
theorem only_any (hT : TakeSaid) (K b : List Int) (k a : Int) (p0 p1 : Option Addr) (n0 n1 c0 c1 : Nat) (hn0 : K.length = n0) (hn1 : b.length = n1) (w : World) (h0 : Bs w p0 c0 K) (h1 : Bs w p1 c1 b) (ht : Tab w 0) :
    Calls Tryd.prog 4 #[.slice p0 n0 c0, .agg #[.int .i64 k, .int .i64 a], .slice p1 n1 c1] w (YesSay w) := by
  have Ht := Lib.hid ht; clear ht
  have B0 : Hid (Below w.heap.size w (w.alloc (AO k a))) := (Below.refl _ w).alloc (Nat.le_refl _) _
  have A0 : Hid (AAt (w.alloc (AO k a)) w.heap.size k a) := AAt.new w k a
  have HKN : Hid (∀ x, Below w.heap.size w x → Calls Tryd.prog 8 #[] x (YesSay x)) := fun x hx => known_any hT x (Ht.out.below hx Ht.out.lt)
  by_cases hl0 : (n0 : Int) > 4096
  · go_enter Tryd.func4, Tryd.ntmps4
    go_upto_region 1 with (fail)
    change Code.wp _ _ _ _ (w.alloc (AO k a))
    obtain ⟨w0, hw0⟩ : ∃ x, x = w.alloc (AO k a) := ⟨_, rfl⟩
    rw [← hw0] at B0 A0 ⊢
    clear hw0
    go_wp2_with (go_at_call 8; refine (HKN.out _ B0.out).mono ?_; rintro e1 w1 ⟨rfl, hb1⟩)
    go_ret
    exact ⟨rfl, B0.out.trans (hb1.mono B0.out.size)⟩
  by_cases hl1 : (n1 : Int) > 4096
  · go_enter Tryd.func4, Tryd.ntmps4
    go_upto_region 1 with (fail)
    change Code.wp _ _ _ _ (w.alloc (AO k a))
    obtain ⟨w0, hw0⟩ : ∃ x, x = w.alloc (AO k a) := ⟨_, rfl⟩
    rw [← hw0] at B0 A0 ⊢
    clear hw0
    go_wp2_with (go_at_call 8; refine (HKN.out _ B0.out).mono ?_; rintro e1 w1 ⟨rfl, hb1⟩)
    go_ret
    exact ⟨rfl, B0.out.trans (hb1.mono B0.out.size)⟩
  have HNB : Hid (∀ x, Below w.heap.size w x → Calls Tryd.prog 9 #[.slice p0 n0 c0] x (NewBox K x)) := fun x hx => newbox_any hT K p0 n0 c0 hn0 (by omega) x (h0.old hx) (Ht.out.below hx Ht.out.lt)
  have HB1 : Hid (∀ x, Below w.heap.size w x → Bs x p1 c1 b) := fun x hx => h1.old hx
  have HBY : Hid (Sha.Byt b) := h1.bat.1
  by_cases hz : (Sc.gt (Seal.op K) k a b).1 = 0
  · obtain ⟨s, hs⟩ : ∃ s, Sc.gt (Seal.op K) k a b = (0, s) := ⟨_, Prod.ext hz rfl⟩
    have ho := Sc.box_only K HBY.out hz
    rw [hs] at ho
    obtain ⟨ho1, ho2, ho3⟩ := ho
    simp only at ho1 ho2 ho3
    have HG : Hid (∀ x g, Below w.heap.size w x → BoxAt x g K → Calls Tryd.prog 13 #[.iface 26 (.pointer (some ⟨g, 0, none⟩)), .int .i64 k, .int .i64 a, .slice p1 n1 c1] x (GetOk s s.L.length x)) := fun x g hx hg =>
      (bget_any hT K g k a b p1 n1 c1 hn1 x hg (HB1.out x hx) (Ht.out.below hx Ht.out.lt)).mono fun _ _ q => getok_of hs rfl q
    have HP : Hid (∀ x g p c, Below w.heap.size w x → BoxAt x g K → Bs x p c s.L → Calls Tryd.prog 11 #[.iface 26 (.pointer (some ⟨g, 0, none⟩)), Sv s p s.L.length c] x (PutOk b n1 x (Below x.heap.size x))) := fun x g p c hx hg hp =>
      (bput_any hT K g s p s.L.length c rfl x hg hp (Ht.out.below hx Ht.out.lt)).mono fun _ _ q => putok_of ho1 hn1 q
    have HSB : Hid (∀ x p c, Below w.heap.size w x → Bs x p c b → Calls Tryd.prog 16 #[.slice p n1 c, .slice p1 n1 c1] x (YesSay x)) := fun x p c hx hp =>
      same_any b p p1 n1 n1 c c1 hn1 hn1 x hp.bat (HB1.out x hx).bat (by omega)
    obtain ⟨sk, se, sn, sa, L⟩ := s
    simp only at ho2 ho3 HG HP
    have ho2 := ho2.symm
    have ho3 := ho3.symm
    subst ho2
    subst ho3
    clear hs ho1 hz hT h0 h1 hn0 hn1
    go_enter Tryd.func4, Tryd.ntmps4
    go_upto_region 1 with (fail)
    change Code.wp _ _ _ _ (w.alloc (AO k a))
    obtain ⟨w0, hw0⟩ : ∃ x, x = w.alloc (AO k a) := ⟨_, rfl⟩
    rw [← hw0] at B0 A0 ⊢
    clear hw0
    go_upto_region 5 with (first
      | (go_at_call 9; refine (HNB.out _ B0.out).mono ?_; rintro e1 w1 ⟨g, rfl, G1, b1⟩; have B1 : Hid (Below w0.heap.size w0 w1) := Lib.hid b1; clear b1; have W1 : Hid (Below w.heap.size w w1) := B0.out.trans (B1.out.mono B0.out.size); obtain ⟨x0, x1⟩ := (⟨(A0.out.old B1.out).c0, (A0.out.old B1.out).c1⟩ : _ ∧ _))
      | (go_at_call 13; refine (HG.out _ g W1.out G1.out).mono ?_; rintro e2 w2 ⟨u2, d2, rfl, O2, H2, b2⟩))
    change Code.wp _ _ _ _ (w2.alloc (SO k se sn a u2 L.length d2))
    have S3 : Hid (∀ y, Below (w2.alloc (SO k se sn a u2 L.length d2)).heap.size (w2.alloc (SO k se sn a u2 L.length d2)) y → SAt y w2.heap.size k se sn a u2 L.length d2) := fun y hy => (SAt.new w2 _ _ _ _ _ _ _).old hy
    have B3 : Hid (Below w1.heap.size w1 (w2.alloc (SO k se sn a u2 L.length d2))) := b2.out.alloc b2.out.size _
    have H3 : Hid (Bs (w2.alloc (SO k se sn a u2 L.length d2)) u2 d2 L) := H2.out.old ((Below.refl _ _).alloc (Nat.le_refl _) _)
    obtain ⟨w3, hw3⟩ : ∃ x, x = w2.alloc (SO k se sn a u2 L.length d2) := ⟨_, rfl⟩
    rw [← hw3] at S3 B3 H3 ⊢
    clear hw3 H2 O2 b2 x0 x1
    have W3 : Hid (Below w.heap.size w w3) := W1.out.trans (B3.out.mono W1.out.size)
    have A3 : Hid (∀ y, Below w3.heap.size w3 y → AAt y w.heap.size k a) := fun y hy => A0.out.old (B1.out.trans ((B3.out.trans (hy.mono B3.out.size)).mono B1.out.size))
    obtain ⟨y0, y1, y2, y3, y4⟩ := (S3.out _ (Below.refl _ _)).all
    go_wp2_with (first
      | (go_at_call 11; refine (HP.out _ g _ _ W3.out (G1.out.old B3.out) H3.out).mono ?_; rintro e4 w4 ⟨u4, d4, rfl, O4, H4, b4⟩; have W4 : Hid (Below w.heap.size w w4) := W3.out.trans (b4.out.mono W3.out.size))
      | (go_at_call 16; refine (HSB.out _ _ _ W4.out H4.out).mono ?_; rintro e5 w5 ⟨rfl, b5⟩; have B35 : Below w3.heap.size w3 w5 := b4.out.trans (b5.mono b4.out.size); obtain ⟨z0, z1⟩ := (⟨(A3.out _ B35).c0, (A3.out _ B35).c1⟩ : _ ∧ _); obtain ⟨y0, y1, y2, y3, y4⟩ := (S3.out _ B35).all; have W5 : Hid (Below w.heap.size w w5) := W3.out.trans (B35.mono W3.out.size); clear B35 b5)
      | (go_at_call 8; refine (HKN.out _ W5.out).mono ?_; rintro e6 w6 ⟨rfl, b6⟩))
    go_ret
    exact ⟨rfl, W5.out.trans (b6.mono W5.out.size)⟩
  · obtain ⟨n, hn, hne⟩ : ∃ n, Sc.gt (Seal.op K) k a b = (n, Sc.S.zero) ∧ n ≠ 0 := ⟨_, Prod.ext rfl (Sc.gt_zero hz), hz⟩
    have HG : Hid (∀ x g, Below w.heap.size w x → BoxAt x g K → Calls Tryd.prog 13 #[.iface 26 (.pointer (some ⟨g, 0, none⟩)), .int .i64 k, .int .i64 a, .slice p1 n1 c1] x (GetBad n x)) := fun x g hx hg =>
      (bget_any hT K g k a b p1 n1 c1 hn1 x hg (HB1.out x hx) (Ht.out.below hx Ht.out.lt)).mono fun _ _ q => getbad_of hn q
    have HSS : Hid (∀ x p c, Bs x p c [] → Calls Tryd.prog 14 #[SV 0 0 0 0 p 0 c, SV 0 0 0 0 none 0 0] x (YesSay x)) := fun x p c hp => by
      have h := samesec_any Sc.S.zero Sc.S.zero p none 0 0 c 0 rfl rfl x hp (bs_none _) (by omega)
      rw [decide_eq_true rfl] at h
      exact h
    have hne' : (n == 0) = false := by simpa using hne
    clear hn hz hne hT h0 h1 hn0 hn1
    go_enter Tryd.func4, Tryd.ntmps4
    go_upto_region 1 with (fail)
    change Code.wp _ _ _ _ (w.alloc (AO k a))
    obtain ⟨w0, hw0⟩ : ∃ x, x = w.alloc (AO k a) := ⟨_, rfl⟩
    rw [← hw0] at B0 A0 ⊢
    clear hw0
    go_upto_region 5 with (first
      | (go_at_call 9; refine (HNB.out _ B0.out).mono ?_; rintro e1 w1 ⟨g, rfl, G1, b1⟩; have B1 : Hid (Below w0.heap.size w0 w1) := Lib.hid b1; clear b1; have W1 : Hid (Below w.heap.size w w1) := B0.out.trans (B1.out.mono B0.out.size); obtain ⟨x0, x1⟩ := (⟨(A0.out.old B1.out).c0, (A0.out.old B1.out).c1⟩ : _ ∧ _))
      | (go_at_call 13; refine (HG.out _ g W1.out G1.out).mono ?_; rintro e2 w2 ⟨u2, d2, rfl, H2, b2⟩))
    change Code.wp _ _ _ _ (w2.alloc (SO 0 0 0 0 u2 0 d2))
    have S3 : Hid (∀ y, Below (w2.alloc (SO 0 0 0 0 u2 0 d2)).heap.size (w2.alloc (SO 0 0 0 0 u2 0 d2)) y → SAt y w2.heap.size 0 0 0 0 u2 0 d2) := fun y hy => (SAt.new w2 _ _ _ _ _ _ _).old hy
    have B3 : Hid (Below w1.heap.size w1 (w2.alloc (SO 0 0 0 0 u2 0 d2))) := b2.out.alloc b2.out.size _
    have H3 : Hid (Bs (w2.alloc (SO 0 0 0 0 u2 0 d2)) u2 d2 []) := H2.out.old ((Below.refl _ _).alloc (Nat.le_refl _) _)
    obtain ⟨w3, hw3⟩ : ∃ x, x = w2.alloc (SO 0 0 0 0 u2 0 d2) := ⟨_, rfl⟩
    rw [← hw3] at S3 B3 H3 ⊢
    clear hw3 H2 b2 x0 x1
    have W3 : Hid (Below w.heap.size w w3) := W1.out.trans (B3.out.mono W1.out.size)
    obtain ⟨y0, y1, y2, y3, y4⟩ := (S3.out _ (Below.refl _ _)).all
    go_wp2_with (first
      | (go_at_call 14; refine (HSS.out _ _ _ H3.out).mono ?_; rintro e5 w5 ⟨rfl, b5⟩; have W5 : Hid (Below w.heap.size w w5) := W3.out.trans (b5.mono W3.out.size))
      | (go_at_call 8; refine (HKN.out _ W5.out).mono ?_; rintro e6 w6 ⟨rfl, b6⟩))
    go_ret
    exact ⟨rfl, W5.out.trans (b6.mono W5.out.size)⟩
end Go.Proofs.YtkjfhbmdogmecaaDoor

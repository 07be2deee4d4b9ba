/-
  ScF, ScG, ScH (merged)
-/
import Derived.Test.YtpfghjnhoafcmaaSc2
namespace Go.Proofs.Ytpfghjnhoafcmaa

/-! ScF: Contract: sector.Get, where it comes to opening: with names. -/
section
open Go.RowKit


theorem mop_nam (v : Value) (w : World) : (method 288 29 v "Open").run Try.prog w = .ok (131, v) w := by kernel_rfl
theorem nop_nam (a : Addr) (w : World) : (nilAhead 288 29 (.pointer (some a)) "Open").run Try.prog w = .ok (some false) w := by kernel_rfl
set_option maxHeartbeats 4000000 in
set_option maxRecDepth 100000 in
theorem get_nam (g : Addr) (k a e0 n0 : Int) (b : List Int) (p : Option Addr) (n c : Nat) (hn : b.length = n) (hr : Sc.ger k a b = 0) (w : World) (hp : Bs w p c b) (o : Option (List Int))
    (he : Sc.ep (b.take 17) = e0) (hn0 : Sc.nu (b.take 17) = n0)
    (hop : ∀ y q d q2 d2, Below w.heap.size w y → Bs y q d (Sc.mk k a) → Bs y q2 d2 (b.drop 17) → Calls Try.prog 131 #[.pointer (some g), .int .i64 e0, .int .i64 n0, .slice q 9 d, .slice q2 (n - 17) d2] y (OpSay o y)) :
    Calls Try.prog 66 #[.iface 29 (.pointer (some g)), .int .i64 k, .int .i64 a, .slice p n c] w (SGet k e0 n0 a o w) := by
  subst he
  subst hn0
  have hlen : 17 ≤ n ∧ n ≤ 1024 ∧ Sc.isK k = true ∧ Sc.kd b = k ∧ Sc.inP (Sc.ep (b.take 17)) (Sc.nu (b.take 17)) a = true := by
    unfold Sc.ger at hr
    rw [hn] at hr
    by_cases h0 : n < 17
    · rw [if_pos h0] at hr; omega
    · rw [if_neg h0] at hr
      by_cases h1 : 1024 < n
      · rw [if_pos h1] at hr; omega
      · rw [if_neg h1] at hr
        by_cases h2 : Sc.isK k = true ∧ Sc.kd b = k
        · rw [if_pos h2] at hr
          refine ⟨by omega, by omega, h2.1, h2.2, ?_⟩
          cases q : Sc.inP (Sc.ep (b.take 17)) (Sc.nu (b.take 17)) a with
          | true => rfl
          | false => rw [q] at hr; simp at hr
        · rw [if_neg h2] at hr; omega
  obtain ⟨hl1, hl2, hk, hd, hip⟩ := hlen
  clear hr
  have hk2 := Sc.isK_iff.1 hk
  have hkk : Sc.k0 (b.take 17) = k := by
    have h := kd_long (b := b) (by omega)
    rw [hd] at h
    have h2 : Sc.k0 (b.take 17) = b.getD 0 0 := by
      unfold Sc.k0 Pk.vb
      cases b with
      | nil => simp at hn; omega
      | cons x l => rfl
    rw [h2]
    by_cases q : Sc.isK (b.getD 0 0) = true
    · rw [if_pos q] at h; exact h.symm
    · rw [if_neg q] at h; omega
  have B0 : Hid (Below w.heap.size w (w.alloc (SO 0 0 0 0 none 0 0))) := (Below.refl _ w).alloc (Nat.le_refl _) _
  have HS : Hid (∀ y, Below (w.alloc (SO 0 0 0 0 none 0 0)).heap.size (w.alloc (SO 0 0 0 0 none 0 0)) y → SAt y w.heap.size 0 0 0 0 none 0 0) := fun y hy => (SAt.new w 0 0 0 0 none 0 0).old hy
  have P0 : Hid (Bs (w.alloc (SO 0 0 0 0 none 0 0)) p c b) := hp.old B0.out
  have HI : Hid (∀ x, Calls Try.prog 59 #[.int .i64 k] x fun r x' => r = .returned (.bool true) ∧ x = x') := fun x => (iskind_any k x).mono fun _ _ q => by rw [hk] at q; exact ⟨q.1, q.2.symm⟩
  have HD : Hid (∀ x, Bs x p c b → Calls Try.prog 82 #[.slice p n c] x fun r x' => r = .returned (.int .i64 k) ∧ x = x') := fun x hx => (kind_any b p n c hn x hx).mono fun _ _ q => by rw [hd] at q; exact ⟨q.1, q.2.symm⟩
  have HM2 : Hid (∀ x, Calls Try.prog 61 #[.int .i64 k, .int .i64 a] x (RowOf (Sc.mk k a) 9 x)) := fun x => marked_any k a (by omega) x
  obtain ⟨ab, ao, hpe, _⟩ := hp.bat.2 (by omega)
  subst hpe
  have hcap := hp.cap
  rw [hn] at hcap
  have hc17 : (17 : Int) ≤ (c : Int) := by omega
  have hc0 : ¬ ((c : Int) < 17) := by omega
  have hn17 : (17 : Int) ≤ (n : Int) := by omega
  have HCL : Hid (∀ x, Bs x (some ⟨ab, ao, none⟩) c b → Calls Try.prog 83 #[.int .i64 a, .slice (some ⟨ab, ao, none⟩) 17 c] x fun r w' => r = .returned (SV k (Sc.ep (b.take 17)) (Sc.nu (b.take 17)) a none 0 0) ∧ Below x.heap.size x w') := fun x hx => by
    have h := claimed_any a (b.take 17) _ c (by rw [List.length_take]; omega) x (hx.take 17)
    rw [hkk] at h
    exact h
  have HOP : Hid (∀ y q d, Below w.heap.size w y → Bs y q d (Sc.mk k a) → Calls Try.prog 131 #[.pointer (some g), .int .i64 (Sc.ep (b.take 17)), .int .i64 (Sc.nu (b.take 17)), .slice q 9 d, .slice (adv ab ao 17 c) (n - 17) (c - 17)] y (OpSay o y)) := fun y q d hy hq =>
    hop y q d _ _ hy hq (adv_bs (hp.old hy) (by omega))
  clear hop hkk hcap
  generalize Sc.ep (b.take 17) = e0 at *
  generalize Sc.nu (b.take 17) = n0 at *
  have HPL : Hid (∀ x, Calls Try.prog 60 #[SV k e0 n0 a none 0 0] x fun r x' => r = .returned (.bool true) ∧ Below x.heap.size x x') := fun x => by have h := inplace_any k e0 n0 a none 0 0 x; rw [hip] at h; exact h
  have h0' : ¬ (n : Int) < 17 := by omega
  have h1' : ¬ (n : Int) > 1024 := by omega
  generalize Sc.mk k a = M2 at *
  have HNL := Lib.hid (And.intro hl1 hl2); clear hl1 hl2
  clear hk hd hip hk2 hn hp
  have ms := mop_nam
  have mn := nop_nam
  go_enter Try.func66, Try.ntmps66
  go_upto_region 1 with (fail)
  change Code.wp _ _ _ _ (w.alloc (SO 0 0 0 0 none 0 0))
  obtain ⟨w0, hw0⟩ : ∃ x, x = w.alloc (SO 0 0 0 0 none 0 0) := ⟨_, rfl⟩
  rw [← hw0] at B0 HS P0 ⊢
  clear hw0
  obtain ⟨d0, d1, d2, d3, d4⟩ := (HS.out _ (Below.refl _ _)).all
  obtain ⟨f0, f1, f2, f3, f4⟩ := (HS.out _ (Below.refl _ _)).fro
  go_upto_region 8 with (first
    | (go_at_call 59; refine (HI.out _).mono ?_; rintro e1 w1 ⟨rfl, rfl⟩)
    | (go_at_call 82; refine (HD.out _ P0.out).mono ?_; rintro e2 w2 ⟨rfl, rfl⟩)
    | (go_at_call 83; refine (HCL.out _ P0.out).mono ?_; rintro e3 w3 ⟨rfl, hb3⟩; have B3 := Lib.hid hb3; clear hb3))
  all_goals
    change Code.wp _ _ _ _ (w3.alloc (SO k e0 n0 a none 0 0))
    have S4 : Hid (∀ y, Below (w3.alloc (SO k e0 n0 a none 0 0)).heap.size (w3.alloc (SO k e0 n0 a none 0 0)) y → SAt y w3.heap.size k e0 n0 a none 0 0) := fun y hy => (SAt.new w3 k e0 n0 a none 0 0).old hy
    have B4 : Hid (Below w0.heap.size w0 (w3.alloc (SO k e0 n0 a none 0 0))) := B3.out.alloc B3.out.size _
    obtain ⟨w4, hw4⟩ : ∃ x, x = w3.alloc (SO k e0 n0 a none 0 0) := ⟨_, rfl⟩
    rw [← hw4] at S4 B4 ⊢
    clear hw4 d0 d1 d2 d3 d4 f0 f1 f2 f3 f4
    obtain ⟨x0, x1, x2, x3, x4⟩ := (S4.out _ (Below.refl _ _)).all
    go_upto_region 10 with (go_at_call 60; refine (HPL.out _).mono ?_; rintro e5 w5 ⟨rfl, hb5⟩; have B5 : Hid (Below w4.heap.size w4 w5) := hb5; clear hb5)
    have B5d : Hid (Below w4.heap.size w4 w5.drew) := B5.out.drew
    have HK : Hid (∀ y, Below w4.heap.size w4 y → y.cell? ⟨w3.heap.size, 1, none⟩ = some (.int .i64 e0) ∧ y.cell? ⟨w3.heap.size, 2, none⟩ = some (.int .i64 n0)) := fun y hy => ⟨(S4.out y hy).c1, (S4.out y hy).c2⟩
    clear x0 x1 x2 x3 x4
    by_cases hcc : c = 17
    · subst hcc
      have HOQ : Hid (∀ y q d, Below w.heap.size w y → Bs y q d M2 → Calls Try.prog 131 #[.pointer (some g), .int .i64 e0, .int .i64 n0, .slice q 9 d, .slice (some ⟨ab, ao, none⟩) (n - 17) 0] y (OpSay o y)) := by have h := HOP.out; unfold adv at h; rw [if_pos rfl] at h; exact h
      clear HOP
      go_region_held3 (fun y => y.cell? ⟨w3.heap.size, 1, none⟩ = some (.int .i64 e0) ∧ y.cell? ⟨w3.heap.size, 2, none⟩ = some (.int .i64 n0))
        (exact HK.out _ (Hid.out (by assumption)))
        ((first
          | (go_at_call 61; refine (HM2.out _).mono ?_; rintro e6 w6 ⟨p6, c6, rfl, O6, H6, b6⟩; have B6 : Hid (Below w4.heap.size w4 w6) := B5d.out.trans (b6.out.mono B5d.out.size))
          | (go_at_call 131; refine (HOQ.out _ _ _ (B0.out.trans ((B4.out.trans (B6.out.mono B4.out.size)).mono B0.out.size)) H6.out).mono ?_; rintro e7 w7 ⟨u7, d7, m7, rfl, L7, O7, H7, b7⟩; have B7 : Hid (Below w4.heap.size w4 w7) := B6.out.trans (b7.mono B6.out.size))))
      all_goals
        have W4 : Hid (Below w.heap.size w w4) := B0.out.trans (B4.out.mono B0.out.size)
        have W7 : Hid (Below w.heap.size w w7) := W4.out.trans (B7.out.mono W4.out.size)
        have S7 := Lib.hid (S4.out _ B7.out)
        have R7 := Lib.hid (HS.out _ (B4.out.trans (B7.out.mono B4.out.size)))
        have Z6 : Hid (w.heap.size < w3.heap.size ∧ w3.heap.size < w6.heap.size) := ⟨by have := R7.out.lt; have := B0.out; have h1 := (HS.out _ (Below.refl _ _)).lt; have := B3.out.size; omega, by have h1 := (S4.out _ (Below.refl _ _)).lt; have := B6.out.size; omega⟩
        clear HI HD HM2 HCL HPL HOQ HK S4 HS P0 B5d B6 B5 H6 O6 b6
        cases o with
        | none =>
          simp only [Option.isSome_none]
          obtain ⟨d0, d1, d2, d3, d4⟩ := R7.out.all
          obtain ⟨f0, f1, f2, f3, f4⟩ := R7.out.fro
          go_wp2
          have q := gno W7.out R7.out
          exact bodyPost_ret (results_cell_tmp rfl _ _ w.heap.size 85 _ (0, 0) _ rfl q.1.row Try.underlying85 rfl (by rw [ssize]; rfl)) rfl (Or.inl ⟨rfl, rfl, q.2⟩)
        | some R =>
          simp only [Option.isSome_some]
          rw [Option.getD_some] at L7 O7 H7
          obtain ⟨x0, x1, x2, x3, x4⟩ := S7.out.all
          obtain ⟨y0, y1, y2, y3, y4⟩ := S7.out.fro
          go_upto_region 14 with (fail)
          change Code.wp _ _ _ _ (w7.setCell ⟨w3.heap.size, 4, none⟩ (.slice u7 m7 d7))
          have S8 : Hid (SAt (w7.setCell ⟨w3.heap.size, 4, none⟩ (.slice u7 m7 d7)) w3.heap.size k e0 n0 a u7 m7 d7) := S7.out.set4
          have C8 : Hid (Chg w3.heap.size w7 (w7.setCell ⟨w3.heap.size, 4, none⟩ (.slice u7 m7 d7))) := Chg.setCell w7 ⟨w3.heap.size, 4, none⟩ _
          obtain ⟨w8, hw8⟩ : ∃ x, x = w7.setCell ⟨w3.heap.size, 4, none⟩ (.slice u7 m7 d7) := ⟨_, rfl⟩
          rw [← hw8] at S8 C8 ⊢
          clear hw8 x0 x1 x2 x3 x4 y0 y1 y2 y3 y4
          have R8 : Hid (SAt w8 w.heap.size 0 0 0 0 none 0 0) := ⟨(C8.out.block _ (by have := Z6.out; omega)).trans R7.out.row⟩
          obtain ⟨x0, x1, x2, x3, x4⟩ := S8.out.all
          obtain ⟨d0, d1, d2, d3, d4⟩ := R8.out.all
          obtain ⟨f0, f1, f2, f3, f4⟩ := R8.out.fro
          go_wp2
          have hS9 := sset (k' := k) (e' := e0) (n' := n0) (a' := a) (p' := u7) (m' := m7) (c' := d7) R8.out.row
          have C9 := sset_chg w8 w.heap.size (.int .i64 k) (.int .i64 e0) (.int .i64 n0) (.int .i64 a) (.slice u7 m7 d7)
          have O9 := own_chg (own_chg O7.out C8.out (by have := Z6.out; omega)) C9 (by have := Z6.out; omega)
          have hbs := own_bs O9 H7.out.bat.1
          refine bodyPost_ret (results_cell_tmp rfl _ _ w.heap.size 85 _ (0, 0) _ rfl hS9 Try.underlying85 rfl (by rw [ssize]; rfl)) rfl (Or.inr ⟨R, u7, m7, d7, rfl, L7, rfl, own_baseS O9 (by have := Z6.out; omega), ?_, ?_⟩)
          · obtain ⟨p', c', he, hb, _⟩ := hbs
            cases he
            exact hb
          · exact C9.below (C8.out.below W7.out (by have := Z6.out; omega)) (Nat.le_refl _)
    · have HOQ : Hid (∀ y q d, Below w.heap.size w y → Bs y q d M2 → Calls Try.prog 131 #[.pointer (some g), .int .i64 e0, .int .i64 n0, .slice q 9 d, .slice (some ⟨ab, ao + 17, none⟩) (n - 17) (c - 17)] y (OpSay o y)) := by have h := HOP.out; unfold adv at h; rw [if_neg hcc] at h; exact h
      clear HOP
      go_region_held3 (fun y => y.cell? ⟨w3.heap.size, 1, none⟩ = some (.int .i64 e0) ∧ y.cell? ⟨w3.heap.size, 2, none⟩ = some (.int .i64 n0))
        (exact HK.out _ (Hid.out (by assumption)))
        ((first
          | (go_at_call 61; refine (HM2.out _).mono ?_; rintro e6 w6 ⟨p6, c6, rfl, O6, H6, b6⟩; have B6 : Hid (Below w4.heap.size w4 w6) := B5d.out.trans (b6.out.mono B5d.out.size))
          | (go_at_call 131; refine (HOQ.out _ _ _ (B0.out.trans ((B4.out.trans (B6.out.mono B4.out.size)).mono B0.out.size)) H6.out).mono ?_; rintro e7 w7 ⟨u7, d7, m7, rfl, L7, O7, H7, b7⟩; have B7 : Hid (Below w4.heap.size w4 w7) := B6.out.trans (b7.mono B6.out.size))))
      all_goals
        have W4 : Hid (Below w.heap.size w w4) := B0.out.trans (B4.out.mono B0.out.size)
        have W7 : Hid (Below w.heap.size w w7) := W4.out.trans (B7.out.mono W4.out.size)
        have S7 := Lib.hid (S4.out _ B7.out)
        have R7 := Lib.hid (HS.out _ (B4.out.trans (B7.out.mono B4.out.size)))
        have Z6 : Hid (w.heap.size < w3.heap.size ∧ w3.heap.size < w6.heap.size) := ⟨by have := R7.out.lt; have := B0.out; have h1 := (HS.out _ (Below.refl _ _)).lt; have := B3.out.size; omega, by have h1 := (S4.out _ (Below.refl _ _)).lt; have := B6.out.size; omega⟩
        clear HI HD HM2 HCL HPL HOQ HK S4 HS P0 B5d B6 B5 H6 O6 b6
        cases o with
        | none =>
          simp only [Option.isSome_none]
          obtain ⟨d0, d1, d2, d3, d4⟩ := R7.out.all
          obtain ⟨f0, f1, f2, f3, f4⟩ := R7.out.fro
          go_wp2
          have q := gno W7.out R7.out
          exact bodyPost_ret (results_cell_tmp rfl _ _ w.heap.size 85 _ (0, 0) _ rfl q.1.row Try.underlying85 rfl (by rw [ssize]; rfl)) rfl (Or.inl ⟨rfl, rfl, q.2⟩)
        | some R =>
          simp only [Option.isSome_some]
          rw [Option.getD_some] at L7 O7 H7
          obtain ⟨x0, x1, x2, x3, x4⟩ := S7.out.all
          obtain ⟨y0, y1, y2, y3, y4⟩ := S7.out.fro
          go_upto_region 14 with (fail)
          change Code.wp _ _ _ _ (w7.setCell ⟨w3.heap.size, 4, none⟩ (.slice u7 m7 d7))
          have S8 : Hid (SAt (w7.setCell ⟨w3.heap.size, 4, none⟩ (.slice u7 m7 d7)) w3.heap.size k e0 n0 a u7 m7 d7) := S7.out.set4
          have C8 : Hid (Chg w3.heap.size w7 (w7.setCell ⟨w3.heap.size, 4, none⟩ (.slice u7 m7 d7))) := Chg.setCell w7 ⟨w3.heap.size, 4, none⟩ _
          obtain ⟨w8, hw8⟩ : ∃ x, x = w7.setCell ⟨w3.heap.size, 4, none⟩ (.slice u7 m7 d7) := ⟨_, rfl⟩
          rw [← hw8] at S8 C8 ⊢
          clear hw8 x0 x1 x2 x3 x4 y0 y1 y2 y3 y4
          have R8 : Hid (SAt w8 w.heap.size 0 0 0 0 none 0 0) := ⟨(C8.out.block _ (by have := Z6.out; omega)).trans R7.out.row⟩
          obtain ⟨x0, x1, x2, x3, x4⟩ := S8.out.all
          obtain ⟨d0, d1, d2, d3, d4⟩ := R8.out.all
          obtain ⟨f0, f1, f2, f3, f4⟩ := R8.out.fro
          go_wp2
          have hS9 := sset (k' := k) (e' := e0) (n' := n0) (a' := a) (p' := u7) (m' := m7) (c' := d7) R8.out.row
          have C9 := sset_chg w8 w.heap.size (.int .i64 k) (.int .i64 e0) (.int .i64 n0) (.int .i64 a) (.slice u7 m7 d7)
          have O9 := own_chg (own_chg O7.out C8.out (by have := Z6.out; omega)) C9 (by have := Z6.out; omega)
          have hbs := own_bs O9 H7.out.bat.1
          refine bodyPost_ret (results_cell_tmp rfl _ _ w.heap.size 85 _ (0, 0) _ rfl hS9 Try.underlying85 rfl (by rw [ssize]; rfl)) rfl (Or.inr ⟨R, u7, m7, d7, rfl, L7, rfl, own_baseS O9 (by have := Z6.out; omega), ?_, ?_⟩)
          · obtain ⟨p', c', he, hb, _⟩ := hbs
            cases he
            exact hb
          · exact C9.below (C8.out.below W7.out (by have := Z6.out; omega)) (Nat.le_refl _)
end

/-! ScG: Sectors put and read, in plain lists. -/
section
open Go.RowKit

namespace Sc
/-- A sector. -/
structure S where
  k : Int
  e : Int
  n : Int
  a : Int
  L : List Int
deriving DecidableEq
def S.zero : S := ⟨0, 0, 0, 0, []⟩
abbrev ers (s : S) : Int := er s.k s.e s.n s.a s.L.length
/-- What Put answers: the error, the bytes. -/
def pt (f : Int → Int → List Int → List Int → List Int) (s : S) : Int × List Int := if ers s = 0 then (0, fr s.k s.e s.n ++ f s.e s.n (mk s.k s.a) s.L) else (ers s, [])
/-- What Get answers. -/
def gt (f : Int → Int → List Int → List Int → Option (List Int)) (k a : Int) (b : List Int) : Int × S :=
  if ger k a b = 0 then
    match f (ep (b.take 17)) (nu (b.take 17)) (mk k a) (b.drop 17) with
    | none => (19, S.zero)
    | some R => (0, ⟨k, ep (b.take 17), nu (b.take 17), a, R⟩)
  else (ger k a b, S.zero)
theorem er_zero {k e n a : Int} {m : Nat} : er k e n a m = 0 ↔ isK k = true ∧ inP e n a = true ∧ m ≤ 975 := by
  unfold er
  constructor
  · intro h
    by_cases h1 : isK k = true
    · rw [if_pos h1] at h
      by_cases h2 : inP e n a = true
      · rw [if_pos h2] at h
        by_cases h3 : 975 < m
        · rw [if_pos h3] at h; omega
        · exact ⟨h1, h2, by omega⟩
      · rw [if_neg h2] at h; omega
    · rw [if_neg h1] at h; omega
  · rintro ⟨h1, h2, h3⟩
    rw [if_pos h1, if_pos h2, if_neg (by omega)]
theorem ger_zero {k a : Int} {b : List Int} : ger k a b = 0 ↔ (17 ≤ b.length ∧ b.length ≤ 1024) ∧ (isK k = true ∧ kd b = k) ∧ inP (ep (b.take 17)) (nu (b.take 17)) a = true := by
  unfold ger
  constructor
  · intro h
    by_cases h0 : b.length < 17
    · rw [if_pos h0] at h; omega
    · rw [if_neg h0] at h
      by_cases h1 : 1024 < b.length
      · rw [if_pos h1] at h; omega
      · rw [if_neg h1] at h
        by_cases h2 : isK k = true ∧ kd b = k
        · rw [if_pos h2] at h
          by_cases h3 : inP (ep (b.take 17)) (nu (b.take 17)) a = true
          · exact ⟨⟨by omega, by omega⟩, h2, h3⟩
          · rw [if_neg h3] at h; omega
        · rw [if_neg h2] at h; omega
  · rintro ⟨⟨h0, h1⟩, h2, h3⟩
    rw [if_neg (by omega), if_neg (by omega), if_pos h2, if_pos h3]
theorem pt_ok {f : Int → Int → List Int → List Int → List Int} {s : S} (h : ers s = 0) : pt f s = (0, fr s.k s.e s.n ++ f s.e s.n (mk s.k s.a) s.L) := by unfold pt; rw [if_pos h]
theorem pt_no {f : Int → Int → List Int → List Int → List Int} {s : S} (h : ers s ≠ 0) : pt f s = (ers s, []) := by unfold pt; rw [if_neg h]
theorem pt_fst (f : Int → Int → List Int → List Int → List Int) (s : S) : (pt f s).1 = ers s := by
  by_cases h : ers s = 0
  · rw [pt_ok h, h]
  · rw [pt_no h]
theorem gt_no {f : Int → Int → List Int → List Int → Option (List Int)} {k a : Int} {b : List Int} (h : ger k a b ≠ 0) : gt f k a b = (ger k a b, S.zero) := by unfold gt; rw [if_neg h]
theorem gt_none {f : Int → Int → List Int → List Int → Option (List Int)} {k a : Int} {b : List Int} (h : ger k a b = 0) (h2 : f (ep (b.take 17)) (nu (b.take 17)) (mk k a) (b.drop 17) = none) : gt f k a b = (19, S.zero) := by unfold gt; rw [if_pos h, h2]
theorem gt_some {f : Int → Int → List Int → List Int → Option (List Int)} {k a : Int} {b R : List Int} (h : ger k a b = 0) (h2 : f (ep (b.take 17)) (nu (b.take 17)) (mk k a) (b.drop 17) = some R) : gt f k a b = (0, ⟨k, ep (b.take 17), nu (b.take 17), a, R⟩) := by unfold gt; rw [if_pos h, h2]
theorem gt_zero {f : Int → Int → List Int → List Int → Option (List Int)} {k a : Int} {b : List Int} (h : (gt f k a b).1 ≠ 0) : (gt f k a b).2 = S.zero := by
  unfold gt at h ⊢
  by_cases h0 : ger k a b = 0
  · rw [if_pos h0] at h ⊢
    cases q : f (ep (b.take 17)) (nu (b.take 17)) (mk k a) (b.drop 17) with
    | none => rfl
    | some R => rw [q] at h; exact absurd rfl h
  · rw [if_neg h0]
theorem gt_good {f : Int → Int → List Int → List Int → Option (List Int)} {k a : Int} {b : List Int} (h : (gt f k a b).1 = 0) : ger k a b = 0 ∧ ∃ R, f (ep (b.take 17)) (nu (b.take 17)) (mk k a) (b.drop 17) = some R ∧ gt f k a b = (0, ⟨k, ep (b.take 17), nu (b.take 17), a, R⟩) := by
  by_cases h0 : ger k a b = 0
  · refine ⟨h0, ?_⟩
    cases q : f (ep (b.take 17)) (nu (b.take 17)) (mk k a) (b.drop 17) with
    | none => rw [gt_none h0 q] at h; cases h
    | some R => exact ⟨R, rfl, gt_some h0 q⟩
  · rw [gt_no h0] at h; exact absurd h h0
/-! what stands ahead, and back -/
theorem in64_of (n : Int) (h : 0 ≤ n ∧ n ≤ 1099511627776) : Pk.In64 n := by unfold Pk.In64; omega
theorem fr_split (k e n : Int) : fr k e n = k :: (Pk.e8 e 8 ++ Pk.e8 n 8) := by unfold fr mk; rfl
theorem nx_drop {k : Nat} {l : List Int} (h : k ≤ l.length) : Pk.nx k l = l.drop k := by unfold Pk.nx; rw [if_neg (by omega)]
theorem vi_of {l : List Int} (h : 8 ≤ l.length) : Pk.vi l = Pk.in8 (l.take 8) := by unfold Pk.vi; rw [if_neg (by omega)]
theorem ep_of {c : List Int} (h : c.length = 17) : ep c = Pk.in8 ((c.drop 1).take 8) := by
  unfold ep
  rw [nx_drop (by omega), vi_of (by rw [List.length_drop]; omega)]
theorem nu_of {c : List Int} (h : c.length = 17) : nu c = Pk.in8 ((c.drop 1).drop 8) := by
  unfold nu
  rw [nx_drop (k := 1) (by omega), nx_drop (by rw [List.length_drop]; omega), vi_of (by rw [List.length_drop, List.length_drop]; omega), List.take_of_length_le (by rw [List.length_drop, List.length_drop]; omega)]
theorem drop1_fr (k e n : Int) : (fr k e n).drop 1 = Pk.e8 e 8 ++ Pk.e8 n 8 := by rw [fr_split]; rfl
theorem ep_fr (k e n : Int) (h : 0 ≤ e ∧ e ≤ 1099511627776) : ep (fr k e n) = e := by
  rw [ep_of (fr_len _ _ _), drop1_fr, List.take_append_of_le_length (by rw [Pk.e8_len]; omega), List.take_of_length_le (by rw [Pk.e8_len]; omega)]
  exact Pk.in8_e8 (in64_of e h)
theorem nu_fr (k e n : Int) (h : 0 ≤ n ∧ n ≤ 1099511627776) : nu (fr k e n) = n := by
  rw [nu_of (fr_len _ _ _), drop1_fr, List.drop_append_of_le_length (by rw [Pk.e8_len]; omega), List.drop_of_length_le (by rw [Pk.e8_len]; omega), List.nil_append]
  exact Pk.in8_e8 (in64_of n h)
theorem take_fr (k e n : Int) (X : List Int) : (fr k e n ++ X).take 17 = fr k e n := by
  rw [List.take_append_of_le_length (by rw [fr_len]; omega), List.take_of_length_le (by rw [fr_len]; omega)]
theorem drop_fr (k e n : Int) (X : List Int) : (fr k e n ++ X).drop 17 = X := by
  rw [List.drop_append_of_le_length (by rw [fr_len]; omega), List.drop_of_length_le (by rw [fr_len]; omega)]; rfl
theorem kd_fr (k e n : Int) (hk : isK k = true) (X : List Int) : kd (fr k e n ++ X) = k := by
  unfold kd
  rw [if_neg (by rw [List.length_append, fr_len]; omega)]
  have h : (fr k e n ++ X).getD 0 0 = k := by rw [fr_split]; rfl
  rw [h, if_pos hk]
/-- The front that bytes have is that of what they say. -/
theorem fr_of {b : List Int} (hb : Sha.Byt b) (h17 : 17 ≤ b.length) (k : Int) (hk : kd b = k) (hk2 : isK k = true) : fr k (ep (b.take 17)) (nu (b.take 17)) = b.take 17 := by
  have hl : (b.take 17).length = 17 := by rw [List.length_take]; omega
  have hbt : Sha.Byt (b.take 17) := fun x hx => hb x (List.mem_of_mem_take hx)
  have hk0 : b.getD 0 0 = k := by
    unfold kd at hk
    rw [if_neg (by omega)] at hk
    by_cases q : isK (b.getD 0 0) = true
    · rw [if_pos q] at hk; exact hk
    · rw [if_neg q] at hk
      have := isK_iff.1 hk2
      omega
  have hc : b.take 17 = k :: (b.take 17).drop 1 := by
    cases b with
    | nil => simp at h17
    | cons x l =>
      simp only [List.getD_cons_zero] at hk0
      subst hk0
      rfl
  generalize b.take 17 = c at *
  have hd : (c.drop 1).length = 16 := by rw [List.length_drop]; omega
  have he : Pk.e8 (ep c) 8 = (c.drop 1).take 8 := by
    rw [ep_of hl]
    exact Pk.e8_in8 (by rw [List.length_take]; omega) (fun x hx => hbt x (List.mem_of_mem_drop (List.mem_of_mem_take hx)))
  have hn : Pk.e8 (nu c) 8 = (c.drop 1).drop 8 := by
    rw [nu_of hl]
    exact Pk.e8_in8 (by rw [List.length_drop]; omega) (fun x hx => hbt x (List.mem_of_mem_drop (List.mem_of_mem_drop hx)))
  rw [fr_split, he, hn, List.take_append_drop]
  exact hc.symm
theorem ers_parts {s : S} (h : ers s = 0) : isK s.k = true ∧ inP s.e s.n s.a = true ∧ s.L.length ≤ 975 := er_zero.1 h
/-- Of what Put makes Get has no error ahead of opening, and asks just what was sealed. -/
theorem ger_pt {s : S} (h : ers s = 0) (X : List Int) (hX : X.length = s.L.length + 32) : ger s.k s.a (fr s.k s.e s.n ++ X) = 0 := by
  obtain ⟨h1, h2, h3⟩ := ers_parts h
  have h4 := inP_iff.1 h2
  refine ger_zero.2 ⟨by rw [List.length_append, fr_len]; omega, ⟨h1, kd_fr _ _ _ h1 _⟩, ?_⟩
  rw [take_fr, ep_fr _ _ _ h4.1, nu_fr _ _ _ h4.2.1]
  exact h2
theorem gt_pt {s : S} (h : ers s = 0) (f : Int → Int → List Int → List Int → Option (List Int)) (X : List Int) (hX : X.length = s.L.length + 32) (ho : f s.e s.n (mk s.k s.a) X = some s.L) : gt f s.k s.a (fr s.k s.e s.n ++ X) = (0, s) := by
  have h4 := inP_iff.1 (ers_parts h).2.1
  have h5 := gt_some (f := f) (k := s.k) (a := s.a) (b := fr s.k s.e s.n ++ X) (R := s.L) (ger_pt h X hX) (by rw [take_fr, drop_fr, ep_fr _ _ _ h4.1, nu_fr _ _ _ h4.2.1]; exact ho)
  rw [h5, take_fr, ep_fr _ _ _ h4.1, nu_fr _ _ _ h4.2.1]
attribute [irreducible] pt gt
end Sc
end

/-! ScH: Contracts in plain lists: Put and Get by a box, by names; SameSector. -/
section
open Go.RowKit

/-- A sector's value, whose plain text lies at p. -/
abbrev Sv (s : Sc.S) (p : Option Addr) (m c : Nat) : Value := SV s.k s.e s.n s.a p m c
/-- What Put answers. -/
def LPut (x : Int × List Int) (w : World) (F : World → Prop) (r : Ending) (w' : World) : Prop :=
  ∃ u m d, r = .returned (.tuple #[.slice u m d, .int .i64 x.1]) ∧ x.2.length = m ∧ Hid (w'.ownsRow w.heap.size 5 1 (.slice u m d) m (U8s x.2)) ∧ Hid (Bs w' u d x.2) ∧ F w'
/-- What Get answers. -/
def LGet (x : Int × Sc.S) (w : World) (r : Ending) (w' : World) : Prop :=
  ∃ u m d, r = .returned (.tuple #[Sv x.2 u m d, .int .i64 x.1]) ∧ x.2.L.length = m ∧ Hid (w'.ownsRow w.heap.size 5 1 (.slice u m d) m (U8s x.2.L)) ∧ Hid (Bs w' u d x.2.L) ∧ Below w.heap.size w w'
theorem own_nilX (w : World) (B : Nat) : w.ownsRow B 5 1 (.slice none 0 0) 0 (U8s []) := by unfold U8s; exact World.ownsRow_nil _ _ _ _
theorem lput_no {x : Int × List Int} {n : Int} {w w' : World} {F : World → Prop} {r : Ending} (h : NoSay n w r w') (hx : x = (n, [])) (hF : Below w.heap.size w w' → F w') : LPut x w F r w' := by
  subst hx
  obtain ⟨rfl, hb⟩ := h
  exact ⟨none, 0, 0, rfl, rfl, own_nilX _ _, bs_none _, hF hb⟩
theorem lget_no {x : Int × Sc.S} {n : Int} {w w' : World} {r : Ending} (h : GNo n w r w') (hx : x = (n, Sc.S.zero)) : LGet x w r w' := by
  subst hx
  obtain ⟨rfl, hb⟩ := h
  exact ⟨none, 0, 0, rfl, rfl, own_nilX _ _, bs_none _, hb⟩
theorem cell_only {b j i : Nat} {v : Value} {y y' : World} (h : Only b y y') (hj : j ≠ b) (hc : y.cell? ⟨j, i, none⟩ = some v) : y'.cell? ⟨j, i, none⟩ = some v := h.cell hj hc
theorem inR_of (n : Int) (h : 0 ≤ n ∧ n ≤ 1099511627776) : inR n = true := by unfold inR; simp [h]
theorem nmInR_of (n : Int) (h : 0 ≤ n ∧ n ≤ 1099511627776) : Nm.inR n = true := by unfold Nm.inR; simp [h]

namespace Sc
/-- What names remember behind a Put. -/
def nd (S : Nm.St) (s : Sc.S) : Nm.St := if ers s = 0 then Nm.sld S (s.e, s.n, mk s.k s.a, s.L) else S
def nsl (S : Nm.St) (e n : Int) (h L : List Int) : List Int := Nm.sl S (e, n, h, L)
theorem nd_ok {S : Nm.St} {s : Sc.S} (h : ers s = 0) : nd S s = Nm.sld S (s.e, s.n, mk s.k s.a, s.L) := by unfold nd; rw [if_pos h]
theorem nd_no {S : Nm.St} {s : Sc.S} (h : ers s ≠ 0) : nd S s = S := by unfold nd; rw [if_neg h]
theorem may_of {s : Sc.S} (h : ers s = 0) : Nm.may (s.e, s.n, mk s.k s.a, s.L) = true := by
  have h4 := inP_iff.1 (ers_parts h).2.1
  unfold Nm.may
  simp only [Bool.and_eq_true]
  exact ⟨nmInR_of _ h4.1, nmInR_of _ h4.2.1⟩
theorem nsl_len {S : Nm.St} {s : Sc.S} (h : ers s = 0) : (nsl S s.e s.n (mk s.k s.a) s.L).length = s.L.length + 32 := by
  unfold nsl Nm.sl
  rw [if_pos (may_of h), List.length_append, Nm.tg_len]
end Sc
/-- Put by names. -/
theorem nput_any (S : Nm.St) (g b cc : Nat) (s : Sc.S) (p : Option Addr) (m c : Nat) (hm : s.L.length = m) (w : World) (hg : StAt w g b cc S) (hL : Bs w p c s.L) (hl : S.ss.length ≤ 100000) :
    Calls Try.prog 36 #[.iface 29 (.pointer (some ⟨g, 0, none⟩)), Sv s p m c] w (LPut (Sc.pt (Sc.nsl S) s) w (fun z => StAt z g b cc (Sc.nd S s) ∧ Only b w z)) := by
  subst hm
  by_cases h : Sc.ers s = 0
  · obtain ⟨h1, h2, h3⟩ := Sc.ers_parts h
    have h4 := Sc.inP_iff.1 h2
    rw [Sc.pt_ok h, Sc.nd_ok h]
    have hlen := Sc.nsl_len (S := S) h
    have hbl := hg.lt.2.1
    refine (put_nam ⟨g, 0, none⟩ s.k s.e s.n s.a p s.L.length c (s.L.length + 32) (17 + (s.L.length + 32)) h1 h2 h3 w (Sc.nsl S s.e s.n (Sc.mk s.k s.a) s.L) hlen (by omega) rfl (fun y y' => StAt y' g b cc (Nm.sld S (s.e, s.n, Sc.mk s.k s.a, s.L)) ∧ Only b y y') (fun z => StAt z g b cc (Nm.sld S (s.e, s.n, Sc.mk s.k s.a, s.L)) ∧ Only b w z) ?_ ?_ ?_ ?_ ?_).mono ?_
    · intro y q d hy hq
      refine (seal_any S (s.e, s.n, Sc.mk s.k s.a, s.L) g b cc q p 9 s.L.length d c (Sc.mk_len _ _) rfl (by omega) y (hg.old hy) hq (hL.old hy) hl).mono ?_
      rintro r y' ⟨u, c', m', rfl, hm', _, hb, hst, ho⟩
      have hm2 : m' = s.L.length + 32 := hm'.symm.trans hlen
      subst hm2
      exact ⟨u, _, rfl, hb, hst.out, ho⟩
    · intro y y' q d R r hy hR ho hb hQ
      refine bs_only hb hQ.2 (fun a ha => ?_)
      left
      subst ha
      have := (ho.lt a.block rfl).1
      omega
    · intro y y' i v hy hQ hc
      exact hQ.2.cell (by omega) hc
    · exact fun y y' hQ => hQ.2.size
    · exact fun y y' z hy hQ hz => ⟨hQ.1.old hz, ((only_of_below hy).trans hQ.2).trans (only_of_below hz)⟩
    · rintro r w' ⟨u, d, rfl, ho, hb, hF⟩
      have hl2 : (Sc.fr s.k s.e s.n ++ Sc.nsl S s.e s.n (Sc.mk s.k s.a) s.L).length = 17 + (s.L.length + 32) := by rw [List.length_append, Sc.fr_len, hlen]
      exact ⟨u, _, d, rfl, hl2, ho, hb, hF.out⟩
  · rw [Sc.nd_no h]
    exact (put_no _ _ s.k s.e s.n s.a p s.L.length c h w).mono fun r w' q => lput_no q (Sc.pt_no h) (fun hb => ⟨hg.old hb, only_of_below hb⟩)

theorem lget_of {f : Int → Int → List Int → List Int → Option (List Int)} {k a : Int} {b : List Int} {w w' : World} {r : Ending} (h0 : Sc.ger k a b = 0) {o : Option (List Int)} (ho : f (Sc.ep (b.take 17)) (Sc.nu (b.take 17)) (Sc.mk k a) (b.drop 17) = o)
    (h : SGet k (Sc.ep (b.take 17)) (Sc.nu (b.take 17)) a o w r w') : LGet (Sc.gt f k a b) w r w' := by
  rcases h with ⟨h1, h2⟩ | ⟨R, u, m, d, h1, h2, h3, h4, h5, h6⟩
  · exact lget_no h2 (Sc.gt_none h0 (ho.trans h1))
  · rw [Sc.gt_some h0 (ho.trans h1)]
    exact ⟨u, m, d, h3, h2, h4, h5, h6⟩
/-- Get by names. -/
theorem nget_any (S : Nm.St) (g bb cc : Nat) (k a : Int) (b : List Int) (p : Option Addr) (n c : Nat) (hn : b.length = n) (w : World) (hg : StAt w g bb cc S) (hb : Bs w p c b) :
    Calls Try.prog 66 #[.iface 29 (.pointer (some ⟨g, 0, none⟩)), .int .i64 k, .int .i64 a, .slice p n c] w (LGet (Sc.gt (Nm.opn S) k a b) w) := by
  by_cases h : Sc.ger k a b = 0
  · have hz := Sc.ger_zero.1 h
    have h4 := Sc.inP_iff.1 hz.2.2
    refine (get_nam ⟨g, 0, none⟩ k a _ _ b p n c hn h w hb (Nm.opn S (Sc.ep (b.take 17)) (Sc.nu (b.take 17)) (Sc.mk k a) (b.drop 17)) rfl rfl ?_).mono fun r w' q => lget_of h rfl q
    intro y q d q2 d2 hy hq hq2
    exact open_any S _ _ (Sc.mk k a) (b.drop 17) g bb cc q q2 9 (n - 17) d d2 (Sc.mk_len _ _) (by rw [List.length_drop, hn]) (by omega) (by unfold Nm.In64; omega) (by unfold Nm.In64; omega) y (hg.old hy) hq hq2
  · exact (get_no _ _ k a b p n c hn h w hb).mono fun r w' q => lget_no q (Sc.gt_no h)
end
end Go.Proofs.Ytpfghjnhoafcmaa

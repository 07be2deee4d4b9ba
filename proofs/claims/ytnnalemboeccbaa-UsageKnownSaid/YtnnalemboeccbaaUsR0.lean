/-
  Both tables; contract: both.
-/
import Derived.Test.YtnnalemboeccbaaUsQ3
namespace Go.Proofs.Ytnnalemboeccbaa
open Go.RowKit

/-- The program's table and the reference's, apart. -/
structure Bo (x y : World) (b : Nat) (v : Value) (T : List Us.S) (d : Nat) (u : Value) (U : List Us.S) : Prop where
  p : Tp x y b v T
  r : TAt 52 x.heap.size y d u U
  ap : ∀ g, v.ownBlock = some g → u.ownBlock ≠ some g
theorem off_box {y : World} {B g : Nat} {v : Value} {L : List Us.S} {t : TypeId} {A : Array Value} (h : SgO B y v L) (hb : y.heap[g]? = some (.cells A t (0, 0))) (ht : t ≠ 30) : v.ownBlock ≠ some g := fun q => by
  obtain ⟨_, cur, hc⟩ := h.blk q
  rw [hb] at hc
  injection hc with hc
  injection hc with _ hc _
  exact ht hc
theorem tn_box {y z : World} {B g : Nat} {v : Value} {L : List Us.S} {t : TypeId} {A : Array Value} (hn : Tn v y z) (h : SgO B y v L) (hb : y.heap[g]? = some (.cells A t (0, 0))) (ht : t ≠ 30) : z.heap[g]? = some (.cells A t (0, 0)) :=
  (hn.block g (lt_of_block hb) (off_box h hb ht)).trans hb
section
variable {x w y : World} {b d : Nat} {v u : Value} {T T' U U' : List Us.S}
theorem Bo.next (h : Bo x w b v T d u U) (hb : Below w.heap.size w y) : Bo x y b v T d u U := ⟨h.p.next hb, h.r.old hb, h.ap⟩
theorem Bo.prog (h : Bo x w b v T d u U) (hp : Tp x y b v T') (hn : Tn v w y) : Bo x y b v T' d u U :=
  ⟨hp, h.r.tn hn (off_box h.p.at_.own h.r.box tne2) (fun _ q k => h.ap _ k q), h.ap⟩
theorem Bo.ref (h : Bo x w b v T d u U) (hr : TAt 52 x.heap.size y d u U') (hn : Tn u w y) : Bo x y b v T d u U' :=
  ⟨⟨h.p.at_.tn hn (off_box h.r.own h.p.at_.box tne) (fun _ q => h.ap _ q), h.p.inv, hn.below h.p.old (fun _ q => (h.r.own.blk q).1) h.p.old.size⟩, hr, h.ap⟩
theorem Bo.far (h : Bo x w b v T d u U) {s : Value} (hn : Tn s w y) (h1 : s.ownBlock ≠ some b) (h2 : s.ownBlock ≠ some d) (h3 : ∀ g, v.ownBlock = some g → s.ownBlock ≠ some g) (h4 : ∀ g, u.ownBlock = some g → s.ownBlock ≠ some g) (h5 : ∀ g, s.ownBlock = some g → x.heap.size ≤ g) : Bo x y b v T d u U :=
  ⟨⟨h.p.at_.tn hn h1 h3, h.p.inv, hn.below h.p.old h5 h.p.old.size⟩, h.r.tn hn h2 h4, h.ap⟩
end
def BoS (x : World) (b : Nat) (v : Value) (T : List Us.S) (d : Nat) (u : Value) (U : List Us.S) (r : Value) (e : Ending) (w' : World) : Prop := e = .returned r ∧ Hid (Bo x w' b v T d u U)
set_option maxHeartbeats 8000000 in
set_option maxRecDepth 100000 in
theorem both_any {x : World} {b d : Nat} {v u : Value} {T : List Us.S} (o : Us.O) (w : World) (h : Bo x w b v T d u T) :
    Calls Try.prog 11 #[.pointer (some ⟨b, 0, none⟩), .pointer (some ⟨d, 0, none⟩), .agg (OpA o)] w (BoS x b v (Us.dT T o) d u (Us.dT T o) (.bool true)) := by
  have hi := h.p.inv
  obtain ⟨w1, hw1⟩ : ∃ y, y = w.alloc (.cells (OpA o) 32) := ⟨_, rfl⟩
  have G1 : Hid (w1.heap[w.heap.size]? = some (.cells (OpA o) 32 (0, 0))) := by rw [hw1]; exact heap_alloc_new w _
  have H1 : Hid (Bo x w1 b v T d u T) := by rw [hw1]; exact h.next ((Below.refl _ w).alloc (Nat.le_refl _) _)
  have HCL : Hid (∀ y : World, y.heap[w.heap.size]? = some (.cells (OpA o) 32 (0, 0)) → y.cell? ⟨w.heap.size, 0, none⟩ = some (.int .i64 o.k) ∧ y.cell? ⟨w.heap.size, 1, none⟩ = some (.int .i64 o.g) ∧ y.cell? ⟨w.heap.size, 2, none⟩ = some (.int .i64 o.n) ∧ y.cell? ⟨w.heap.size, 3, none⟩ = some (.int .i64 o.w) ∧ y.rangeAt w.heap.size 4 (SgA o.x).toList) := fun y hy => ⟨(opa_cells hy).1, (opa_cells hy).2.1, (opa_cells hy).2.2.1, (opa_cells hy).2.2.2, opa_row hy⟩
  obtain ⟨K, gg, n, q, r⟩ := o
  obtain ⟨c0, c1, c2, c3, R1⟩ := HCL.out _ G1.out
  dsimp only at c0 c1 c2 c3 R1 HCL
  have e0 : K = 0 → Us.dT T ⟨K, gg, n, q, r⟩ = Us.setT T gg r := fun e => by subst e; rfl
  have e1 : K = 1 → Us.dT T ⟨K, gg, n, q, r⟩ = Us.takeT T q := fun e => by subst e; rfl
  have e2 : K = 2 → Us.dT T ⟨K, gg, n, q, r⟩ = Us.addT T gg n q := fun e => by subst e; rfl
  have e3 : K = 3 → Us.dT T ⟨K, gg, n, q, r⟩ = Us.pendT T gg := fun e => by subst e; rfl
  have e4 : K = 4 → Us.dT T ⟨K, gg, n, q, r⟩ = Us.relT T := fun e => by subst e; rfl
  have e5 : (K ≠ 0 ∧ K ≠ 1 ∧ K ≠ 2 ∧ K ≠ 3 ∧ K ≠ 4) → Us.dT T ⟨K, gg, n, q, r⟩ = T := fun ⟨f0, f1, f2, f3, f4⟩ => by
    unfold Us.dT
    dsimp only
    rw [if_neg f0, if_neg f1, if_neg f2, if_neg f3, if_neg f4]
  obtain ⟨X, hX⟩ : ∃ X, OpA ⟨K, gg, n, q, r⟩ = X := ⟨_, rfl⟩
  rw [hX] at hw1 G1 HCL ⊢
  clear hX h
  by_cases k0 : K = 0
  · rw [e0 k0]
    have kk : (K == 0) = true := by simp [k0]
    clear e0 e1 e2 e3 e4 e5
    clear k0
    have HPG : Hid (∀ y, Tp x y b v T → Calls Try.prog 27 #[.pointer (some ⟨b, 0, none⟩), .int .i64 gg, .agg (SgA r)] y (TpSay x b v (Us.setT T gg r) (.int .i64 (Us.setE T gg r)) y)) := fun y hy => tp_set gg r hy
    have HRF : Hid (∀ y, TAt 52 x.heap.size y d u T → Calls Try.prog 28 #[.pointer (some ⟨d, 0, none⟩), .int .i64 gg, .agg (SgA r)] y (TbSay 52 x.heap.size d u (Us.setT T gg r) (.int .i64 (Us.setE T gg r)) y)) := fun y hy => rset_any gg r y hy hi
    generalize Us.setE T gg r = er at *
    generalize Us.setT T gg r = U at *
    go_enter Try.func11, Try.ntmps11
    go_upto_region 1 with (fail)
    rw [← hw1]
    clear hw1
    go_upto_region 3 with (fail)
    refine wp_region_any (by kernel_rfl) ?_
    change wpAny _ _ _ _ _ _ _ (World.drew _)
    have H2 : Hid (Bo x w1.drew b v T d u T) := H1.out.next (Below.refl _ _).drew
    have G2 : Hid (w1.drew.heap[w.heap.size]? = some (.cells X 32 (0, 0))) := G1.out
    obtain ⟨z, hz⟩ : ∃ y, y = w1.drew := ⟨_, rfl⟩
    rw [← hz] at H2 G2 ⊢
    clear hz c0 c1 c2 c3 R1
    refine wpAny_of_held (S := fun y => y.cell? ⟨w.heap.size, 0, none⟩ = some (.int .i64 K) ∧ y.cell? ⟨w.heap.size, 1, none⟩ = some (.int .i64 gg) ∧ y.cell? ⟨w.heap.size, 2, none⟩ = some (.int .i64 n) ∧ y.cell? ⟨w.heap.size, 3, none⟩ = some (.int .i64 q) ∧ y.rangeAt w.heap.size 4 (SgA r).toList) _ _ _ _ ?_
    have SD := HCL.out _ G2.out
    refine anyH_take 0 15 (.pointer (some ⟨b, 0, none⟩)) SD rfl (by kernel_rfl) (by kernel_rfl) (by kernel_rfl) (fun _ _ _ h => h) (by rfl) (by intro y hy; obtain ⟨y0, y1, y2, y3, y4⟩ := hy; go_simp) ?_
    try simp only [Act.put, List.setIfInBounds_toArray, List.set_cons_zero, List.set_cons_succ]
    refine anyH_take 1 16 (.pointer (some ⟨w.heap.size, 1, none⟩)) SD rfl (by kernel_rfl) (by kernel_rfl) (by kernel_rfl) (fun _ _ _ h => h) (by rfl) (by intro y hy; obtain ⟨y0, y1, y2, y3, y4⟩ := hy; go_simp) ?_
    try simp only [Act.put, List.setIfInBounds_toArray, List.set_cons_zero, List.set_cons_succ]
    refine anyH_take 2 17 (.int .i64 gg) SD rfl (by kernel_rfl) (by kernel_rfl) (by kernel_rfl) (fun _ _ _ h => h) (by rfl) (by intro y hy; obtain ⟨y0, y1, y2, y3, y4⟩ := hy; go_simp) ?_
    try simp only [Act.put, List.setIfInBounds_toArray, List.set_cons_zero, List.set_cons_succ]
    refine anyH_take 3 18 (.pointer (some ⟨w.heap.size, 4, none⟩)) SD rfl (by kernel_rfl) (by kernel_rfl) (by kernel_rfl) (fun _ _ _ h => h) (by rfl) (by intro y hy; obtain ⟨y0, y1, y2, y3, y4⟩ := hy; go_simp) ?_
    try simp only [Act.put, List.setIfInBounds_toArray, List.set_cons_zero, List.set_cons_succ]
    refine anyH_take 4 19 (.agg (SgA r)) SD rfl (by kernel_rfl) (by kernel_rfl) (by kernel_rfl) (fun _ _ _ h => h) (by rfl) (fun y hy => exec_arr _ _ w.heap.size 4 _ _ rfl hy.2.2.2.2 Try.underlying30 rfl (sg_info r)) ?_
    try simp only [Act.put, List.setIfInBounds_toArray, List.set_cons_zero, List.set_cons_succ]
    refine anyH_take 6 21 (.pointer (some ⟨d, 0, none⟩)) SD rfl (by kernel_rfl) (by kernel_rfl) (by kernel_rfl) (fun _ _ _ h => h) (by rfl) (by intro y hy; obtain ⟨y0, y1, y2, y3, y4⟩ := hy; go_simp) ?_
    try simp only [Act.put, List.setIfInBounds_toArray, List.set_cons_zero, List.set_cons_succ]
    refine anyH_take 7 22 (.pointer (some ⟨w.heap.size, 1, none⟩)) SD rfl (by kernel_rfl) (by kernel_rfl) (by kernel_rfl) (fun _ _ _ h => h) (by rfl) (by intro y hy; obtain ⟨y0, y1, y2, y3, y4⟩ := hy; go_simp) ?_
    try simp only [Act.put, List.setIfInBounds_toArray, List.set_cons_zero, List.set_cons_succ]
    refine anyH_take 8 23 (.int .i64 gg) SD rfl (by kernel_rfl) (by kernel_rfl) (by kernel_rfl) (fun _ _ _ h => h) (by rfl) (by intro y hy; obtain ⟨y0, y1, y2, y3, y4⟩ := hy; go_simp) ?_
    try simp only [Act.put, List.setIfInBounds_toArray, List.set_cons_zero, List.set_cons_succ]
    refine anyH_take 9 24 (.pointer (some ⟨w.heap.size, 4, none⟩)) SD rfl (by kernel_rfl) (by kernel_rfl) (by kernel_rfl) (fun _ _ _ h => h) (by rfl) (by intro y hy; obtain ⟨y0, y1, y2, y3, y4⟩ := hy; go_simp) ?_
    try simp only [Act.put, List.setIfInBounds_toArray, List.set_cons_zero, List.set_cons_succ]
    refine anyH_take 10 25 (.agg (SgA r)) SD rfl (by kernel_rfl) (by kernel_rfl) (by kernel_rfl) (fun _ _ _ h => h) (by rfl) (fun y hy => exec_arr _ _ w.heap.size 4 _ _ rfl hy.2.2.2.2 Try.underlying30 rfl (sg_info r)) ?_
    try simp only [Act.put, List.setIfInBounds_toArray, List.set_cons_zero, List.set_cons_succ]
    refine anyH_one 5 (by kernel_rfl) ?_
    refine wpOp_step rfl (fun Kc hKc => ?_)
    go_simp
    refine (HPG.out _ H2.out.p).mono ?_
    rintro e5 w5 ⟨rfl, P5, M5⟩
    have H5 := Lib.hid (H2.out.prog P5.out M5.out)
    have G5 : Hid (w5.heap[w.heap.size]? = some (.cells X 32 (0, 0))) := tn_box M5.out H2.out.p.at_.own G2.out (by decide)
    have SE := HCL.out _ G5.out
    dsimp only
    refine hKc _ _ ⟨SE, ?_⟩
    clear hKc Kc
    try simp only [Act.put, List.setIfInBounds_toArray, List.set_cons_zero, List.set_cons_succ]
    refine anyH_one 11 (by kernel_rfl) ?_
    refine wpOp_step rfl (fun Kc hKc => ?_)
    go_simp
    refine (HRF.out _ H5.out.r).mono ?_
    rintro e6 w6 ⟨rfl, P6, M6⟩
    have H6 := Lib.hid (H5.out.ref P6.out M6.out)
    have G6 : Hid (w6.heap[w.heap.size]? = some (.cells X 32 (0, 0))) := tn_box M6.out H5.out.r.own G5.out (by decide)
    have SF := HCL.out _ G6.out
    dsimp only
    refine hKc _ _ ⟨SF, ?_⟩
    clear hKc Kc
    try simp only [Act.put, List.setIfInBounds_toArray, List.set_cons_zero, List.set_cons_succ]
    refine anyH_take 12 27 (.bool true) SF rfl (by kernel_rfl) (by kernel_rfl) (by kernel_rfl) (fun _ _ _ h => h) (by rfl) (by intro y hy; obtain ⟨y0, y1, y2, y3, y4⟩ := hy; go_simp) ?_
    try simp only [Act.put, List.setIfInBounds_toArray, List.set_cons_zero, List.set_cons_succ]
    refine anyH_take 13 6 (.bool true) SF rfl (by kernel_rfl) (by kernel_rfl) (by kernel_rfl) (fun _ _ _ h => h) (by rfl) (by intro y hy; obtain ⟨y0, y1, y2, y3, y4⟩ := hy; go_simp) ?_
    try simp only [Act.put, List.setIfInBounds_toArray, List.set_cons_zero, List.set_cons_succ]
    refine wpAnyH_done (by kernel_rfl) ?_ _
    go_wp2
    go_ret
    exact ⟨rfl, H6⟩
  by_cases k1 : K = 1
  · rw [e1 k1]
    have kk0 : (K == 0) = false := by simp [k0]
    have kk : (K == 1) = true := by simp [k1]
    clear e0 e1 e2 e3 e4 e5
    clear k0 k1
    have HPG : Hid (∀ y, Tp x y b v T → Calls Try.prog 21 #[.pointer (some ⟨b, 0, none⟩), .int .i64 q] y (TpSay x b v (Us.takeT T q) (.tuple #[.int .i64 (Us.takeI T), .bool (Us.takeB T)]) y)) := fun y hy => tp_take q hy
    have HRF : Hid (∀ y, TAt 52 x.heap.size y d u T → Calls Try.prog 29 #[.pointer (some ⟨d, 0, none⟩), .int .i64 q] y (TkSay 52 x.heap.size d u T q y)) := fun y hy => rtake_any q y hy hi
    unfold TkSay at HRF
    generalize Us.takeI T = ti at *
    generalize Us.takeB T = tb at *
    generalize Us.takeT T q = U at *
    cases tb with
    | true =>
      go_enter Try.func11, Try.ntmps11
      go_upto_region 1 with (fail)
      rw [← hw1]
      clear hw1
      go_wp2_with (first
        | (go_at_call 21; refine (HPG.out _ H1.out.p).mono ?_; rintro e5 w5 ⟨rfl, P5, M5⟩; have H5 := Lib.hid (H1.out.prog P5.out M5.out); have G5 : Hid (w5.heap[w.heap.size]? = some (.cells X 32 (0, 0))) := tn_box M5.out H1.out.p.at_.own G1.out (by decide); obtain ⟨s0, s1, s2, s3, s4⟩ := HCL.out _ G5.out)
        | (go_at_call 29; refine (HRF.out _ H5.out.r).mono ?_; rintro e6 w6 ⟨rfl, P6, M6⟩; have H6 := Lib.hid (H5.out.ref P6.out M6.out)))
      go_ret
      exact ⟨rfl, H6⟩
    | false =>
      go_enter Try.func11, Try.ntmps11
      go_upto_region 1 with (fail)
      rw [← hw1]
      clear hw1
      go_wp2_with (first
        | (go_at_call 21; refine (HPG.out _ H1.out.p).mono ?_; rintro e5 w5 ⟨rfl, P5, M5⟩; have H5 := Lib.hid (H1.out.prog P5.out M5.out); have G5 : Hid (w5.heap[w.heap.size]? = some (.cells X 32 (0, 0))) := tn_box M5.out H1.out.p.at_.own G1.out (by decide); obtain ⟨s0, s1, s2, s3, s4⟩ := HCL.out _ G5.out)
        | (go_at_call 29; refine (HRF.out _ H5.out.r).mono ?_; rintro e6 w6 ⟨rfl, P6, M6⟩; have H6 := Lib.hid (H5.out.ref P6.out M6.out)))
      go_ret
      exact ⟨rfl, H6⟩
  by_cases k2 : K = 2
  · rw [e2 k2]
    have kk0 : (K == 0) = false := by simp [k0]
    have kk1 : (K == 1) = false := by simp [k1]
    have kk : (K == 2) = true := by simp [k2]
    clear e0 e1 e2 e3 e4 e5
    clear k0 k1 k2
    have HPG : Hid (∀ y, Tp x y b v T → Calls Try.prog 25 #[.pointer (some ⟨b, 0, none⟩), .int .i64 gg, .int .i64 n, .int .i64 q] y (TpSay x b v (Us.addT T gg n q) (.int .i64 (Us.addE T gg n)) y)) := fun y hy => tp_add gg n q hy
    have HRF : Hid (∀ y, TAt 52 x.heap.size y d u T → Calls Try.prog 30 #[.pointer (some ⟨d, 0, none⟩), .int .i64 gg, .int .i64 n, .int .i64 q] y (TbSay 52 x.heap.size d u (Us.addT T gg n q) (.int .i64 (Us.addE T gg n)) y)) := fun y hy => radd_any gg n q y hy hi
    generalize Us.addE T gg n = er at *
    generalize Us.addT T gg n q = U at *
    go_enter Try.func11, Try.ntmps11
    go_upto_region 1 with (fail)
    rw [← hw1]
    clear hw1
    go_upto_region 9 with (fail)
    refine wp_region_any (by kernel_rfl) ?_
    change wpAny _ _ _ _ _ _ _ (World.drew _)
    have H2 : Hid (Bo x w1.drew b v T d u T) := H1.out.next (Below.refl _ _).drew
    have G2 : Hid (w1.drew.heap[w.heap.size]? = some (.cells X 32 (0, 0))) := G1.out
    obtain ⟨z, hz⟩ : ∃ y, y = w1.drew := ⟨_, rfl⟩
    rw [← hz] at H2 G2 ⊢
    clear hz c0 c1 c2 c3 R1
    refine wpAny_of_held (S := fun y => y.cell? ⟨w.heap.size, 0, none⟩ = some (.int .i64 K) ∧ y.cell? ⟨w.heap.size, 1, none⟩ = some (.int .i64 gg) ∧ y.cell? ⟨w.heap.size, 2, none⟩ = some (.int .i64 n) ∧ y.cell? ⟨w.heap.size, 3, none⟩ = some (.int .i64 q) ∧ y.rangeAt w.heap.size 4 (SgA r).toList) _ _ _ _ ?_
    have SD := HCL.out _ G2.out
    refine anyH_take 0 54 (.pointer (some ⟨b, 0, none⟩)) SD rfl (by kernel_rfl) (by kernel_rfl) (by kernel_rfl) (fun _ _ _ h => h) (by rfl) (by intro y hy; obtain ⟨y0, y1, y2, y3, y4⟩ := hy; go_simp) ?_
    try simp only [Act.put, List.setIfInBounds_toArray, List.set_cons_zero, List.set_cons_succ]
    refine anyH_take 1 55 (.pointer (some ⟨w.heap.size, 1, none⟩)) SD rfl (by kernel_rfl) (by kernel_rfl) (by kernel_rfl) (fun _ _ _ h => h) (by rfl) (by intro y hy; obtain ⟨y0, y1, y2, y3, y4⟩ := hy; go_simp) ?_
    try simp only [Act.put, List.setIfInBounds_toArray, List.set_cons_zero, List.set_cons_succ]
    refine anyH_take 2 56 (.int .i64 gg) SD rfl (by kernel_rfl) (by kernel_rfl) (by kernel_rfl) (fun _ _ _ h => h) (by rfl) (by intro y hy; obtain ⟨y0, y1, y2, y3, y4⟩ := hy; go_simp) ?_
    try simp only [Act.put, List.setIfInBounds_toArray, List.set_cons_zero, List.set_cons_succ]
    refine anyH_take 3 57 (.pointer (some ⟨w.heap.size, 2, none⟩)) SD rfl (by kernel_rfl) (by kernel_rfl) (by kernel_rfl) (fun _ _ _ h => h) (by rfl) (by intro y hy; obtain ⟨y0, y1, y2, y3, y4⟩ := hy; go_simp) ?_
    try simp only [Act.put, List.setIfInBounds_toArray, List.set_cons_zero, List.set_cons_succ]
    refine anyH_take 4 58 (.int .i64 n) SD rfl (by kernel_rfl) (by kernel_rfl) (by kernel_rfl) (fun _ _ _ h => h) (by rfl) (by intro y hy; obtain ⟨y0, y1, y2, y3, y4⟩ := hy; go_simp) ?_
    try simp only [Act.put, List.setIfInBounds_toArray, List.set_cons_zero, List.set_cons_succ]
    refine anyH_take 5 59 (.pointer (some ⟨w.heap.size, 3, none⟩)) SD rfl (by kernel_rfl) (by kernel_rfl) (by kernel_rfl) (fun _ _ _ h => h) (by rfl) (by intro y hy; obtain ⟨y0, y1, y2, y3, y4⟩ := hy; go_simp) ?_
    try simp only [Act.put, List.setIfInBounds_toArray, List.set_cons_zero, List.set_cons_succ]
    refine anyH_take 6 60 (.int .i64 q) SD rfl (by kernel_rfl) (by kernel_rfl) (by kernel_rfl) (fun _ _ _ h => h) (by rfl) (by intro y hy; obtain ⟨y0, y1, y2, y3, y4⟩ := hy; go_simp) ?_
    try simp only [Act.put, List.setIfInBounds_toArray, List.set_cons_zero, List.set_cons_succ]
    refine anyH_take 8 62 (.pointer (some ⟨d, 0, none⟩)) SD rfl (by kernel_rfl) (by kernel_rfl) (by kernel_rfl) (fun _ _ _ h => h) (by rfl) (by intro y hy; obtain ⟨y0, y1, y2, y3, y4⟩ := hy; go_simp) ?_
    try simp only [Act.put, List.setIfInBounds_toArray, List.set_cons_zero, List.set_cons_succ]
    refine anyH_take 9 63 (.pointer (some ⟨w.heap.size, 1, none⟩)) SD rfl (by kernel_rfl) (by kernel_rfl) (by kernel_rfl) (fun _ _ _ h => h) (by rfl) (by intro y hy; obtain ⟨y0, y1, y2, y3, y4⟩ := hy; go_simp) ?_
    try simp only [Act.put, List.setIfInBounds_toArray, List.set_cons_zero, List.set_cons_succ]
    refine anyH_take 10 64 (.int .i64 gg) SD rfl (by kernel_rfl) (by kernel_rfl) (by kernel_rfl) (fun _ _ _ h => h) (by rfl) (by intro y hy; obtain ⟨y0, y1, y2, y3, y4⟩ := hy; go_simp) ?_
    try simp only [Act.put, List.setIfInBounds_toArray, List.set_cons_zero, List.set_cons_succ]
    refine anyH_take 11 65 (.pointer (some ⟨w.heap.size, 2, none⟩)) SD rfl (by kernel_rfl) (by kernel_rfl) (by kernel_rfl) (fun _ _ _ h => h) (by rfl) (by intro y hy; obtain ⟨y0, y1, y2, y3, y4⟩ := hy; go_simp) ?_
    try simp only [Act.put, List.setIfInBounds_toArray, List.set_cons_zero, List.set_cons_succ]
    refine anyH_take 12 66 (.int .i64 n) SD rfl (by kernel_rfl) (by kernel_rfl) (by kernel_rfl) (fun _ _ _ h => h) (by rfl) (by intro y hy; obtain ⟨y0, y1, y2, y3, y4⟩ := hy; go_simp) ?_
    try simp only [Act.put, List.setIfInBounds_toArray, List.set_cons_zero, List.set_cons_succ]
    refine anyH_take 13 67 (.pointer (some ⟨w.heap.size, 3, none⟩)) SD rfl (by kernel_rfl) (by kernel_rfl) (by kernel_rfl) (fun _ _ _ h => h) (by rfl) (by intro y hy; obtain ⟨y0, y1, y2, y3, y4⟩ := hy; go_simp) ?_
    try simp only [Act.put, List.setIfInBounds_toArray, List.set_cons_zero, List.set_cons_succ]
    refine anyH_take 14 68 (.int .i64 q) SD rfl (by kernel_rfl) (by kernel_rfl) (by kernel_rfl) (fun _ _ _ h => h) (by rfl) (by intro y hy; obtain ⟨y0, y1, y2, y3, y4⟩ := hy; go_simp) ?_
    try simp only [Act.put, List.setIfInBounds_toArray, List.set_cons_zero, List.set_cons_succ]
    refine anyH_one 7 (by kernel_rfl) ?_
    refine wpOp_step rfl (fun Kc hKc => ?_)
    go_simp
    refine (HPG.out _ H2.out.p).mono ?_
    rintro e5 w5 ⟨rfl, P5, M5⟩
    have H5 := Lib.hid (H2.out.prog P5.out M5.out)
    have G5 : Hid (w5.heap[w.heap.size]? = some (.cells X 32 (0, 0))) := tn_box M5.out H2.out.p.at_.own G2.out (by decide)
    have SE := HCL.out _ G5.out
    dsimp only
    refine hKc _ _ ⟨SE, ?_⟩
    clear hKc Kc
    try simp only [Act.put, List.setIfInBounds_toArray, List.set_cons_zero, List.set_cons_succ]
    refine anyH_one 15 (by kernel_rfl) ?_
    refine wpOp_step rfl (fun Kc hKc => ?_)
    go_simp
    refine (HRF.out _ H5.out.r).mono ?_
    rintro e6 w6 ⟨rfl, P6, M6⟩
    have H6 := Lib.hid (H5.out.ref P6.out M6.out)
    have G6 : Hid (w6.heap[w.heap.size]? = some (.cells X 32 (0, 0))) := tn_box M6.out H5.out.r.own G5.out (by decide)
    have SF := HCL.out _ G6.out
    dsimp only
    refine hKc _ _ ⟨SF, ?_⟩
    clear hKc Kc
    try simp only [Act.put, List.setIfInBounds_toArray, List.set_cons_zero, List.set_cons_succ]
    refine anyH_take 16 70 (.bool true) SF rfl (by kernel_rfl) (by kernel_rfl) (by kernel_rfl) (fun _ _ _ h => h) (by rfl) (by intro y hy; obtain ⟨y0, y1, y2, y3, y4⟩ := hy; go_simp) ?_
    try simp only [Act.put, List.setIfInBounds_toArray, List.set_cons_zero, List.set_cons_succ]
    refine anyH_take 17 6 (.bool true) SF rfl (by kernel_rfl) (by kernel_rfl) (by kernel_rfl) (fun _ _ _ h => h) (by rfl) (by intro y hy; obtain ⟨y0, y1, y2, y3, y4⟩ := hy; go_simp) ?_
    try simp only [Act.put, List.setIfInBounds_toArray, List.set_cons_zero, List.set_cons_succ]
    refine wpAnyH_done (by kernel_rfl) ?_ _
    go_wp2
    go_ret
    exact ⟨rfl, H6⟩
  by_cases k3 : K = 3
  · rw [e3 k3]
    have kk0 : (K == 0) = false := by simp [k0]
    have kk1 : (K == 1) = false := by simp [k1]
    have kk2 : (K == 2) = false := by simp [k2]
    have kk : (K == 3) = true := by simp [k3]
    clear e0 e1 e2 e3 e4 e5
    clear k0 k1 k2 k3
    have HPG : Hid (∀ y, Tp x y b v T → Calls Try.prog 23 #[.pointer (some ⟨b, 0, none⟩), .int .i64 gg] y (TpSay x b v (Us.pendT T gg) (.int .i64 (Us.pendE T gg)) y)) := fun y hy => tp_pend gg hy
    have HRF : Hid (∀ y, TAt 52 x.heap.size y d u T → Calls Try.prog 31 #[.pointer (some ⟨d, 0, none⟩), .int .i64 gg] y (TbSay 52 x.heap.size d u (Us.pendT T gg) (.int .i64 (Us.pendE T gg)) y)) := fun y hy => rpend_any gg y hy
    generalize Us.pendE T gg = er at *
    generalize Us.pendT T gg = U at *
    go_enter Try.func11, Try.ntmps11
    go_upto_region 1 with (fail)
    rw [← hw1]
    clear hw1
    go_upto_region 11 with (fail)
    refine wp_region_any (by kernel_rfl) ?_
    change wpAny _ _ _ _ _ _ _ (World.drew _)
    have H2 : Hid (Bo x w1.drew b v T d u T) := H1.out.next (Below.refl _ _).drew
    have G2 : Hid (w1.drew.heap[w.heap.size]? = some (.cells X 32 (0, 0))) := G1.out
    obtain ⟨z, hz⟩ : ∃ y, y = w1.drew := ⟨_, rfl⟩
    rw [← hz] at H2 G2 ⊢
    clear hz c0 c1 c2 c3 R1
    refine wpAny_of_held (S := fun y => y.cell? ⟨w.heap.size, 0, none⟩ = some (.int .i64 K) ∧ y.cell? ⟨w.heap.size, 1, none⟩ = some (.int .i64 gg) ∧ y.cell? ⟨w.heap.size, 2, none⟩ = some (.int .i64 n) ∧ y.cell? ⟨w.heap.size, 3, none⟩ = some (.int .i64 q) ∧ y.rangeAt w.heap.size 4 (SgA r).toList) _ _ _ _ ?_
    have SD := HCL.out _ G2.out
    refine anyH_take 0 73 (.pointer (some ⟨b, 0, none⟩)) SD rfl (by kernel_rfl) (by kernel_rfl) (by kernel_rfl) (fun _ _ _ h => h) (by rfl) (by intro y hy; obtain ⟨y0, y1, y2, y3, y4⟩ := hy; go_simp) ?_
    try simp only [Act.put, List.setIfInBounds_toArray, List.set_cons_zero, List.set_cons_succ]
    refine anyH_take 1 74 (.pointer (some ⟨w.heap.size, 1, none⟩)) SD rfl (by kernel_rfl) (by kernel_rfl) (by kernel_rfl) (fun _ _ _ h => h) (by rfl) (by intro y hy; obtain ⟨y0, y1, y2, y3, y4⟩ := hy; go_simp) ?_
    try simp only [Act.put, List.setIfInBounds_toArray, List.set_cons_zero, List.set_cons_succ]
    refine anyH_take 2 75 (.int .i64 gg) SD rfl (by kernel_rfl) (by kernel_rfl) (by kernel_rfl) (fun _ _ _ h => h) (by rfl) (by intro y hy; obtain ⟨y0, y1, y2, y3, y4⟩ := hy; go_simp) ?_
    try simp only [Act.put, List.setIfInBounds_toArray, List.set_cons_zero, List.set_cons_succ]
    refine anyH_take 4 77 (.pointer (some ⟨d, 0, none⟩)) SD rfl (by kernel_rfl) (by kernel_rfl) (by kernel_rfl) (fun _ _ _ h => h) (by rfl) (by intro y hy; obtain ⟨y0, y1, y2, y3, y4⟩ := hy; go_simp) ?_
    try simp only [Act.put, List.setIfInBounds_toArray, List.set_cons_zero, List.set_cons_succ]
    refine anyH_take 5 78 (.pointer (some ⟨w.heap.size, 1, none⟩)) SD rfl (by kernel_rfl) (by kernel_rfl) (by kernel_rfl) (fun _ _ _ h => h) (by rfl) (by intro y hy; obtain ⟨y0, y1, y2, y3, y4⟩ := hy; go_simp) ?_
    try simp only [Act.put, List.setIfInBounds_toArray, List.set_cons_zero, List.set_cons_succ]
    refine anyH_take 6 79 (.int .i64 gg) SD rfl (by kernel_rfl) (by kernel_rfl) (by kernel_rfl) (fun _ _ _ h => h) (by rfl) (by intro y hy; obtain ⟨y0, y1, y2, y3, y4⟩ := hy; go_simp) ?_
    try simp only [Act.put, List.setIfInBounds_toArray, List.set_cons_zero, List.set_cons_succ]
    refine anyH_one 3 (by kernel_rfl) ?_
    refine wpOp_step rfl (fun Kc hKc => ?_)
    go_simp
    refine (HPG.out _ H2.out.p).mono ?_
    rintro e5 w5 ⟨rfl, P5, M5⟩
    have H5 := Lib.hid (H2.out.prog P5.out M5.out)
    have G5 : Hid (w5.heap[w.heap.size]? = some (.cells X 32 (0, 0))) := tn_box M5.out H2.out.p.at_.own G2.out (by decide)
    have SE := HCL.out _ G5.out
    dsimp only
    refine hKc _ _ ⟨SE, ?_⟩
    clear hKc Kc
    try simp only [Act.put, List.setIfInBounds_toArray, List.set_cons_zero, List.set_cons_succ]
    refine anyH_one 7 (by kernel_rfl) ?_
    refine wpOp_step rfl (fun Kc hKc => ?_)
    go_simp
    refine (HRF.out _ H5.out.r).mono ?_
    rintro e6 w6 ⟨rfl, P6, M6⟩
    have H6 := Lib.hid (H5.out.ref P6.out M6.out)
    have G6 : Hid (w6.heap[w.heap.size]? = some (.cells X 32 (0, 0))) := tn_box M6.out H5.out.r.own G5.out (by decide)
    have SF := HCL.out _ G6.out
    dsimp only
    refine hKc _ _ ⟨SF, ?_⟩
    clear hKc Kc
    try simp only [Act.put, List.setIfInBounds_toArray, List.set_cons_zero, List.set_cons_succ]
    refine anyH_take 8 81 (.bool true) SF rfl (by kernel_rfl) (by kernel_rfl) (by kernel_rfl) (fun _ _ _ h => h) (by rfl) (by intro y hy; obtain ⟨y0, y1, y2, y3, y4⟩ := hy; go_simp) ?_
    try simp only [Act.put, List.setIfInBounds_toArray, List.set_cons_zero, List.set_cons_succ]
    refine anyH_take 9 6 (.bool true) SF rfl (by kernel_rfl) (by kernel_rfl) (by kernel_rfl) (fun _ _ _ h => h) (by rfl) (by intro y hy; obtain ⟨y0, y1, y2, y3, y4⟩ := hy; go_simp) ?_
    try simp only [Act.put, List.setIfInBounds_toArray, List.set_cons_zero, List.set_cons_succ]
    refine wpAnyH_done (by kernel_rfl) ?_ _
    go_wp2
    go_ret
    exact ⟨rfl, H6⟩
  by_cases k4 : K = 4
  · rw [e4 k4]
    have kk0 : (K == 0) = false := by simp [k0]
    have kk1 : (K == 1) = false := by simp [k1]
    have kk2 : (K == 2) = false := by simp [k2]
    have kk3 : (K == 3) = false := by simp [k3]
    have kk : (K == 4) = true := by simp [k4]
    clear e0 e1 e2 e3 e4 e5
    clear k0 k1 k2 k3 k4
    have HPG : Hid (∀ y, Tp x y b v T → Calls Try.prog 24 #[.pointer (some ⟨b, 0, none⟩)] y (TpSay x b v (Us.relT T) (.int .i64 ((Us.ix 3 T).length : Int)) y)) := fun y hy => tp_release  hy
    have HRF : Hid (∀ y, TAt 52 x.heap.size y d u T → Calls Try.prog 32 #[.pointer (some ⟨d, 0, none⟩)] y (TbSay 52 x.heap.size d u (Us.relT T) (.int .i64 ((Us.ix 3 T).length : Int)) y)) := fun y hy => rrelease_any y hy hi.len
    generalize (Us.ix 3 T).length = ln at *
    generalize Us.relT T = U at *
    go_enter Try.func11, Try.ntmps11
    go_upto_region 1 with (fail)
    rw [← hw1]
    clear hw1
    go_wp2_with (first
      | (go_at_call 24; refine (HPG.out _ H1.out.p).mono ?_; rintro e5 w5 ⟨rfl, P5, M5⟩; have H5 := Lib.hid (H1.out.prog P5.out M5.out))
      | (go_at_call 32; refine (HRF.out _ H5.out.r).mono ?_; rintro e6 w6 ⟨rfl, P6, M6⟩; have H6 := Lib.hid (H5.out.ref P6.out M6.out)))
    go_ret
    exact ⟨rfl, H6⟩
  rw [e5 ⟨k0, k1, k2, k3, k4⟩]
  have kk0 : (K == 0) = false := by simp [k0]
  have kk1 : (K == 1) = false := by simp [k1]
  have kk2 : (K == 2) = false := by simp [k2]
  have kk3 : (K == 3) = false := by simp [k3]
  have kk4 : (K == 4) = false := by simp [k4]
  clear e0 e1 e2 e3 e4 e5 k0 k1 k2 k3 k4
  go_enter Try.func11, Try.ntmps11
  go_upto_region 1 with (fail)
  rw [← hw1]
  clear hw1
  go_wp2
  go_ret
  exact ⟨rfl, H1⟩
end Go.Proofs.Ytnnalemboeccbaa

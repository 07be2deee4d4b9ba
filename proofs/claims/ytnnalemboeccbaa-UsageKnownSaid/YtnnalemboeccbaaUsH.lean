/-
  Package usage: contracts: Take, Add.
-/
import Derived.Test.YtnnalemboeccbaaUsG
namespace Go.Proofs.Ytnnalemboeccbaa
open Go.RowKit

section
variable {P : Program} {a : Act} {w : World} {D : Option Tmp} {T : TypeId} {ps : String} {af : Array Edge} {gd : Option (Nat × Bool)}
theorem exec_b2 (t : TypeId) (i j : Nat) (x y : Operand) (v u : Value) (R : Array Value) (hx : a.eval x = v) (hy : a.eval y = u) (hr : P.built t [(i, v), (j, u)] = some R) :
    (execOp a.eval { dst := D, op := .build t #[(i, x), (j, y)], type := T, pos := ps, after := af, guard := gd }).run P w = .ok (.value (.agg R)) w := by
  have hrun := run_build (P := P) w t #[(i, v), (j, u)] R hr
  unfold execOp
  simp only [hx, hy, List.map_toArray, List.map_cons, List.map_nil, hrun, Sem.run_bind, Sem.run_pure, Result.andThen_ok]
end
def TkSay (t : TypeId) (B b : Nat) (v : Value) (T : List Us.S) (now : Int) (w : World) (e : Ending) (w' : World) : Prop :=
  e = .returned (.tuple #[.int .i64 (Us.takeI T), .bool (Us.takeB T)]) ∧ Hid (TAt t B w' b v (Us.takeT T now)) ∧ Hid (Tn v w w')
set_option maxHeartbeats 4000000 in
set_option maxRecDepth 100000 in
theorem take_none {B b : Nat} {v : Value} {T : List Us.S} (now : Int) (w : World) (h : TAt 50 B w b v T) (hI : Us.Inv T) (hf : Us.fx 0 T = none) :
    Calls Try.prog 21 #[.pointer (some ⟨b, 0, none⟩), .int .i64 now] w (TkSay 50 B b v T now w) := by
  have HT : Hid (∀ y, Below w.heap.size w y → TAt 50 B y b v T) := fun y hy => h.old hy
  have H1 := Lib.hid (those_any 0 w h hI.len)
  have e1 : Us.takeI T = 0 := by unfold Us.takeI; rw [hf]
  have e2 : Us.takeB T = false := by unfold Us.takeB; rw [hf]; rfl
  have e3 : Us.takeT T now = T := by unfold Us.takeT; rw [hf]
  unfold TkSay
  unfold ThoseSay at H1
  rw [e1, e2, e3]
  rw [Us.fx_nil hf] at H1
  clear h hf e1 e2 e3
  go_enter Try.func21, Try.ntmps21
  go_wp2_with (go_at_call 33; refine H1.out.mono ?_; rintro e1 w1 ⟨v1, rfl, O1, B1⟩; obtain ⟨p1, c1, hv1⟩ := O1.out.len; obtain rfl : v1 = .slice p1 0 c1 := hv1)
  go_ret2
  exact ⟨rfl, Lib.hid (HT.out _ B1.out), Lib.hid (Tn.of B1.out)⟩
set_option maxHeartbeats 4000000 in
set_option maxRecDepth 100000 in
theorem take_first {B b : Nat} {v : Value} {T : List Us.S} (now : Int) (s : Nat) (w : World) (h : TAt 50 B w b v T) (hI : Us.Inv T) (hf : Us.fx 0 T = some s) (ho : Us.fx 1 T = none) :
    Calls Try.prog 21 #[.pointer (some ⟨b, 0, none⟩), .int .i64 now] w (TkSay 50 B b v T now w) := by
  have HT : Hid (∀ y, Below w.heap.size w y → TAt 50 B y b v T) := fun y hy => h.old hy
  have H1 := Lib.hid (those_any 0 w h hI.len)
  have HP : Hid (∀ y, Below w.heap.size w y → Calls Try.prog 12 #[.pointer (some ⟨b, 0, none⟩)] y (NuSay (Us.open_ T) y)) := fun y hy => open_any y (h.old hy) hI.len
  have HA : Hid (∀ y, Calls Try.prog 37 #[.int .i64 now] y fun e w' => e = .returned (.int .i64 (Us.ageOf now)) ∧ w' = y) := fun y => age_any now y
  have hsT := (Us.fx_some.1 hf).1
  obtain ⟨r, hr⟩ := Us.fx_cons hf
  have e1 : Us.takeI T = s := by unfold Us.takeI; rw [hf]
  have e2 : Us.takeB T = true := by unfold Us.takeB; rw [hf]; rfl
  have e3 : Us.takeT T now = (Us.shut T).set s ⟨1, 0, Us.ageOf now⟩ := by unfold Us.takeT; rw [hf]
  have e4 : Us.shut T = T := by unfold Us.shut; rw [ho]
  have e5 : Us.open_ T = -1 := by unfold Us.open_; rw [ho]
  unfold TkSay
  unfold ThoseSay at H1
  rw [e1, e2, e3, e4]
  rw [e5] at HP
  rw [hr] at H1
  obtain ⟨g, c, rfl, hgw⟩ := h.gsome s hsT
  have HGW := Lib.hid hgw
  obtain ⟨n, hn⟩ : ∃ n, T.length = n := ⟨_, rfl⟩
  have HN := Lib.hid hn
  rw [hn] at hsT HT ⊢
  generalize Us.ageOf now = a at *
  clear h hf e1 e2 e3 e4 e5 hr hn
  have hs0 : 0 ≤ (s : Int) := by omega
  have hs1 : (s : Int) < (n : Int) := by omega
  have HS1 : Hid (s < T.length) := by show _ < _; rw [HN.out]; exact hsT
  clear ho
  go_enter Try.func21, Try.ntmps21
  go_upto_region 5 with (first
    | (go_at_call 33; refine H1.out.mono ?_; rintro e1 w1 ⟨v1, rfl, O1, B1⟩; obtain ⟨g1, c1, hv1, hgb, hg1, _⟩ := O1.out.at_ 0 s rfl; obtain rfl : v1 = .slice (some ⟨g1, 0, none⟩) (r.length + 1) c1 := hv1)
    | (go_at_call 12; refine (HP.out _ B1.out).mono ?_; rintro e3 w3 ⟨rfl, hb3⟩; have B3 := Lib.hid (B1.out.trans (hb3.mono B1.out.size))))
  have O3 := Lib.hid (O1.out.old hb3)
  have T3 := Lib.hid (HT.out _ B3.out)
  have b3 := T3.out.cell
  have HGB := Lib.hid hgb
  have T6 := T3
  have M6 : Hid (Tn (.slice (some ⟨g, 0, none⟩) n c) w w3) := Tn.of B3.out
  have O6 := O3
  have c6 : w3.cell? ⟨g1, 0, none⟩ = some (.int .i64 (s : Int)) := by
    obtain ⟨g', c', hv, _, _, hc⟩ := O6.out.at_ 0 s rfl
    injection hv with q1 _ _
    injection q1 with q1
    injection q1 with q1
    subst q1
    exact hc
  go_upto_region 8 with (fail)
  refine wp_region_any (by kernel_rfl) ?_
  change wpAny _ _ _ _ _ _ _ (World.drew _)
  have T7 : Hid (TAt 50 B w3.drew b (.slice (some ⟨g, 0, none⟩) n c) (T)) := T6.out.old (Below.refl _ _).drew
  have M7 : Hid (Tn (.slice (some ⟨g, 0, none⟩) n c) w w3.drew) := M6.out.trans (Tn.of (Below.refl _ _).drew)
  obtain ⟨z, hz⟩ : ∃ y, y = w3.drew := ⟨_, rfl⟩
  rw [← hz] at T7 M7 ⊢
  clear hz
  refine wpAny_of_held (S := fun y => y.cell? ⟨b, 0, none⟩ = some (.slice (some ⟨g, 0, none⟩) n c)) _ _ _ _ ?_
  have SD : z.cell? ⟨b, 0, none⟩ = some (.slice (some ⟨g, 0, none⟩) n c) := T7.out.cell
  refine anyH_take 0 29 (.pointer (some ⟨b, 0, none⟩)) SD rfl (by kernel_rfl) (by kernel_rfl) (by kernel_rfl) (fun _ _ _ h => h) (by rfl) (by intro x hx; go_simp) ?_
  try simp only [Act.put, List.setIfInBounds_toArray, List.set_cons_zero, List.set_cons_succ]
  refine anyH_take 1 30 (.pointer (some ⟨b, 0, none⟩)) SD rfl (by kernel_rfl) (by kernel_rfl) (by kernel_rfl) (fun _ _ _ h => h) (by rfl) (by intro x hx; go_simp) ?_
  try simp only [Act.put, List.setIfInBounds_toArray, List.set_cons_zero, List.set_cons_succ]
  refine anyH_take 2 31 (.pointer (some ⟨b, 0, none⟩)) SD rfl (by kernel_rfl) (by kernel_rfl) (by kernel_rfl) (fun _ _ _ h => h) (by rfl) (by intro x hx; go_simp) ?_
  try simp only [Act.put, List.setIfInBounds_toArray, List.set_cons_zero, List.set_cons_succ]
  refine anyH_take 3 32 (.slice (some ⟨g, 0, none⟩) n c) SD rfl (by kernel_rfl) (by kernel_rfl) (by kernel_rfl) (fun _ _ _ h => h) (by rfl) (by intro x hx; go_simp) ?_
  try simp only [Act.put, List.setIfInBounds_toArray, List.set_cons_zero, List.set_cons_succ]
  refine anyH_take 4 33 (.int .i64 (s : Int)) SD rfl (by kernel_rfl) (by kernel_rfl) (by kernel_rfl) (fun _ _ _ h => h) (by rfl) (by intro x hx; go_simp) ?_
  try simp only [Act.put, List.setIfInBounds_toArray, List.set_cons_zero, List.set_cons_succ]
  refine anyH_take 5 34 (.int .i64 now) SD rfl (by kernel_rfl) (by kernel_rfl) (by kernel_rfl) (fun _ _ _ h => h) (by rfl) (by intro x hx; go_simp) ?_
  try simp only [Act.put, List.setIfInBounds_toArray, List.set_cons_zero, List.set_cons_succ]
  refine anyH_one 6 (by kernel_rfl) ?_
  refine wpOp_step rfl (fun Kc hKc => ?_)
  go_simp
  refine (HA.out _).mono ?_
  rintro e8 w8 ⟨rfl, rfl⟩

  dsimp only
  refine hKc _ _ ⟨SD, ?_⟩
  clear hKc Kc
  try simp only [Act.put, List.setIfInBounds_toArray, List.set_cons_zero, List.set_cons_succ]
  refine anyH_take 7 36 (.agg (SgA ⟨1, 0, a⟩)) SD rfl (by kernel_rfl) (by kernel_rfl) (by kernel_rfl) (fun _ _ _ h => h) (by rfl) (fun y hy => exec_b2 _ _ _ _ _ _ _ _ rfl rfl (build_sga 1 a)) ?_
  try simp only [Act.put, List.setIfInBounds_toArray, List.set_cons_zero, List.set_cons_succ]
  refine anyH_take 8 37 (.pointer (some ⟨g, s * 3, none⟩)) SD rfl (by kernel_rfl) (by kernel_rfl) (by kernel_rfl) (fun _ _ _ h => h) (by rfl) (by intro x hx; go_simp) ?_
  try simp only [Act.put, List.setIfInBounds_toArray, List.set_cons_zero, List.set_cons_succ]
  refine anyH_one 9 (by kernel_rfl) ?_
  refine wpOp_step rfl (fun Kc hKc => ?_)
  rw [if_pos (by rfl)]
  refine st_sg_op _ _ B g n c s _ rfl (T) ⟨1, 0, a⟩ HS1.out rfl rfl T7.out.own (fun w9 O9 C9 => ?_)
  have T9 : Hid (TAt 50 B w9 b (.slice (some ⟨g, 0, none⟩) n c) ((T).set s ⟨1, 0, a⟩)) := T7.out.put tne rfl C9.out O9.out
  refine hKc _ _ ⟨T9.out.cell, ?_⟩
  clear hKc Kc
  refine wpAnyH_done (by kernel_rfl) ?_ _
  go_wp2
  go_ret2
  exact ⟨rfl, T9, Lib.hid (M7.out.trans (Tn.chg C9.out rfl))⟩
set_option maxHeartbeats 4000000 in
set_option maxRecDepth 100000 in
theorem take_next {B b : Nat} {v : Value} {T : List Us.S} (now : Int) (s o : Nat) (w : World) (h : TAt 50 B w b v T) (hI : Us.Inv T) (hf : Us.fx 0 T = some s) (ho : Us.fx 1 T = some o) :
    Calls Try.prog 21 #[.pointer (some ⟨b, 0, none⟩), .int .i64 now] w (TkSay 50 B b v T now w) := by
  have HT : Hid (∀ y, Below w.heap.size w y → TAt 50 B y b v T) := fun y hy => h.old hy
  have H1 := Lib.hid (those_any 0 w h hI.len)
  have HP : Hid (∀ y, Below w.heap.size w y → Calls Try.prog 12 #[.pointer (some ⟨b, 0, none⟩)] y (NuSay (Us.open_ T) y)) := fun y hy => open_any y (h.old hy) hI.len
  have HA : Hid (∀ y, Calls Try.prog 37 #[.int .i64 now] y fun e w' => e = .returned (.int .i64 (Us.ageOf now)) ∧ w' = y) := fun y => age_any now y
  have hsT := (Us.fx_some.1 hf).1
  obtain ⟨r, hr⟩ := Us.fx_cons hf
  have e1 : Us.takeI T = s := by unfold Us.takeI; rw [hf]
  have e2 : Us.takeB T = true := by unfold Us.takeB; rw [hf]; rfl
  have e3 : Us.takeT T now = (Us.shut T).set s ⟨1, 0, Us.ageOf now⟩ := by unfold Us.takeT; rw [hf]
  have e4 : Us.shut T = T.set o (Us.full (Us.at_ T o)) := by unfold Us.shut; rw [ho]
  have e5 : Us.open_ T = (o : Int) := by unfold Us.open_; rw [ho]
  unfold TkSay
  unfold ThoseSay at H1
  rw [e1, e2, e3, e4]
  rw [e5] at HP
  rw [hr] at H1
  obtain ⟨g, c, rfl, hgw⟩ := h.gsome s hsT
  have HGW := Lib.hid hgw
  obtain ⟨n, hn⟩ : ∃ n, T.length = n := ⟨_, rfl⟩
  have HN := Lib.hid hn
  rw [hn] at hsT HT ⊢
  generalize Us.ageOf now = a at *
  clear h hf e1 e2 e3 e4 e5 hr hn
  have hs0 : 0 ≤ (s : Int) := by omega
  have hs1 : (s : Int) < (n : Int) := by omega
  have hoT : o < n := by rw [← HN.out]; exact (Us.fx_some.1 ho).1
  have HOT : Hid (o < T.length) := by show _ < _; rw [HN.out]; exact hoT
  have ho0 : 0 ≤ (o : Int) := by omega
  have ho1 : (o : Int) < (n : Int) := by omega
  have ho2 : ((o : Int) != -1) = true := by simp
  have HS1 : Hid (s < (T.set o (Us.full (Us.at_ T o))).length) := by show _ < _; rw [List.length_set, HN.out]; exact hsT
  clear ho
  go_enter Try.func21, Try.ntmps21
  go_upto_region 5 with (first
    | (go_at_call 33; refine H1.out.mono ?_; rintro e1 w1 ⟨v1, rfl, O1, B1⟩; obtain ⟨g1, c1, hv1, hgb, hg1, _⟩ := O1.out.at_ 0 s rfl; obtain rfl : v1 = .slice (some ⟨g1, 0, none⟩) (r.length + 1) c1 := hv1)
    | (go_at_call 12; refine (HP.out _ B1.out).mono ?_; rintro e3 w3 ⟨rfl, hb3⟩; have B3 := Lib.hid (B1.out.trans (hb3.mono B1.out.size))))
  have O3 := Lib.hid (O1.out.old hb3)
  have T3 := Lib.hid (HT.out _ B3.out)
  have b3 := T3.out.cell
  have HGB := Lib.hid hgb
  have f3 := T3.out.own.frozen (o * 3)
  have d3 := (T3.out.own.cells o HOT.out).1
  have T6 : Hid (TAt 50 B (w3.setCell ⟨g, o * 3, none⟩ (.int .i64 2)) b (.slice (some ⟨g, 0, none⟩) n c) (T.set o (Us.full (Us.at_ T o)))) := T3.out.setc tne o 0 HOT.out (by omega) (.int .i64 2) (Us.full (Us.at_ T o)) rfl
  have M6 : Hid (Tn (.slice (some ⟨g, 0, none⟩) n c) w (w3.setCell ⟨g, o * 3, none⟩ (.int .i64 2))) := (Tn.of B3.out).trans (Tn.setc _)
  have O6 : Hid (IxO w.heap.size (w3.setCell ⟨g, o * 3, none⟩ (.int .i64 2)) (.slice (some ⟨g1, 0, none⟩) (r.length + 1) c1) (s :: r)) := O3.out.only (Chg.setCell _ _ _).only (fun q => by have := HGW.out; injection q with q; dsimp only at q; omega)
  go_upto_region 7 with (fail)
  obtain ⟨w6, hw6⟩ : ∃ y, y = w3.setCell ⟨g, o * 3, none⟩ (.int .i64 2) := ⟨_, rfl⟩
  rw [← hw6] at T6 M6 O6 ⊢
  clear hw6 f3 d3 b3
  have c6 : w6.cell? ⟨g1, 0, none⟩ = some (.int .i64 (s : Int)) := by
    obtain ⟨g', c', hv, _, _, hc⟩ := O6.out.at_ 0 s rfl
    injection hv with q1 _ _
    injection q1 with q1
    injection q1 with q1
    subst q1
    exact hc
  go_upto_region 8 with (fail)
  refine wp_region_any (by kernel_rfl) ?_
  change wpAny _ _ _ _ _ _ _ (World.drew _)
  have T7 : Hid (TAt 50 B w6.drew b (.slice (some ⟨g, 0, none⟩) n c) (T.set o (Us.full (Us.at_ T o)))) := T6.out.old (Below.refl _ _).drew
  have M7 : Hid (Tn (.slice (some ⟨g, 0, none⟩) n c) w w6.drew) := M6.out.trans (Tn.of (Below.refl _ _).drew)
  obtain ⟨z, hz⟩ : ∃ y, y = w6.drew := ⟨_, rfl⟩
  rw [← hz] at T7 M7 ⊢
  clear hz
  refine wpAny_of_held (S := fun y => y.cell? ⟨b, 0, none⟩ = some (.slice (some ⟨g, 0, none⟩) n c)) _ _ _ _ ?_
  have SD : z.cell? ⟨b, 0, none⟩ = some (.slice (some ⟨g, 0, none⟩) n c) := T7.out.cell
  refine anyH_take 0 29 (.pointer (some ⟨b, 0, none⟩)) SD rfl (by kernel_rfl) (by kernel_rfl) (by kernel_rfl) (fun _ _ _ h => h) (by rfl) (by intro x hx; go_simp) ?_
  try simp only [Act.put, List.setIfInBounds_toArray, List.set_cons_zero, List.set_cons_succ]
  refine anyH_take 1 30 (.pointer (some ⟨b, 0, none⟩)) SD rfl (by kernel_rfl) (by kernel_rfl) (by kernel_rfl) (fun _ _ _ h => h) (by rfl) (by intro x hx; go_simp) ?_
  try simp only [Act.put, List.setIfInBounds_toArray, List.set_cons_zero, List.set_cons_succ]
  refine anyH_take 2 31 (.pointer (some ⟨b, 0, none⟩)) SD rfl (by kernel_rfl) (by kernel_rfl) (by kernel_rfl) (fun _ _ _ h => h) (by rfl) (by intro x hx; go_simp) ?_
  try simp only [Act.put, List.setIfInBounds_toArray, List.set_cons_zero, List.set_cons_succ]
  refine anyH_take 3 32 (.slice (some ⟨g, 0, none⟩) n c) SD rfl (by kernel_rfl) (by kernel_rfl) (by kernel_rfl) (fun _ _ _ h => h) (by rfl) (by intro x hx; go_simp) ?_
  try simp only [Act.put, List.setIfInBounds_toArray, List.set_cons_zero, List.set_cons_succ]
  refine anyH_take 4 33 (.int .i64 (s : Int)) SD rfl (by kernel_rfl) (by kernel_rfl) (by kernel_rfl) (fun _ _ _ h => h) (by rfl) (by intro x hx; go_simp) ?_
  try simp only [Act.put, List.setIfInBounds_toArray, List.set_cons_zero, List.set_cons_succ]
  refine anyH_take 5 34 (.int .i64 now) SD rfl (by kernel_rfl) (by kernel_rfl) (by kernel_rfl) (fun _ _ _ h => h) (by rfl) (by intro x hx; go_simp) ?_
  try simp only [Act.put, List.setIfInBounds_toArray, List.set_cons_zero, List.set_cons_succ]
  refine anyH_one 6 (by kernel_rfl) ?_
  refine wpOp_step rfl (fun Kc hKc => ?_)
  go_simp
  refine (HA.out _).mono ?_
  rintro e8 w8 ⟨rfl, rfl⟩

  dsimp only
  refine hKc _ _ ⟨SD, ?_⟩
  clear hKc Kc
  try simp only [Act.put, List.setIfInBounds_toArray, List.set_cons_zero, List.set_cons_succ]
  refine anyH_take 7 36 (.agg (SgA ⟨1, 0, a⟩)) SD rfl (by kernel_rfl) (by kernel_rfl) (by kernel_rfl) (fun _ _ _ h => h) (by rfl) (fun y hy => exec_b2 _ _ _ _ _ _ _ _ rfl rfl (build_sga 1 a)) ?_
  try simp only [Act.put, List.setIfInBounds_toArray, List.set_cons_zero, List.set_cons_succ]
  refine anyH_take 8 37 (.pointer (some ⟨g, s * 3, none⟩)) SD rfl (by kernel_rfl) (by kernel_rfl) (by kernel_rfl) (fun _ _ _ h => h) (by rfl) (by intro x hx; go_simp) ?_
  try simp only [Act.put, List.setIfInBounds_toArray, List.set_cons_zero, List.set_cons_succ]
  refine anyH_one 9 (by kernel_rfl) ?_
  refine wpOp_step rfl (fun Kc hKc => ?_)
  rw [if_pos (by rfl)]
  refine st_sg_op _ _ B g n c s _ rfl (T.set o (Us.full (Us.at_ T o))) ⟨1, 0, a⟩ HS1.out rfl rfl T7.out.own (fun w9 O9 C9 => ?_)
  have T9 : Hid (TAt 50 B w9 b (.slice (some ⟨g, 0, none⟩) n c) ((T.set o (Us.full (Us.at_ T o))).set s ⟨1, 0, a⟩)) := T7.out.put tne rfl C9.out O9.out
  refine hKc _ _ ⟨T9.out.cell, ?_⟩
  clear hKc Kc
  refine wpAnyH_done (by kernel_rfl) ?_ _
  go_wp2
  go_ret2
  exact ⟨rfl, T9, Lib.hid (M7.out.trans (Tn.chg C9.out rfl))⟩
theorem take_any {B b : Nat} {v : Value} {T : List Us.S} (now : Int) (w : World) (h : TAt 50 B w b v T) (hI : Us.Inv T) :
    Calls Try.prog 21 #[.pointer (some ⟨b, 0, none⟩), .int .i64 now] w (TkSay 50 B b v T now w) := by
  cases hf : Us.fx 0 T with
  | none => exact take_none now w h hI hf
  | some s =>
    cases ho : Us.fx 1 T with
    | none => exact take_first now s w h hI hf ho
    | some o => exact take_next now s o w h hI hf ho
set_option maxHeartbeats 4000000 in
set_option maxRecDepth 100000 in
theorem add_no {B b : Nat} {v : Value} {T : List Us.S} (i m now : Int) (w : World) (h : TAt 50 B w b v T) (hI : Us.Inv T) (hno : ¬ Us.mayAdd T i m) :
    Calls Try.prog 25 #[.pointer (some ⟨b, 0, none⟩), .int .i64 i, .int .i64 m, .int .i64 now] w (TbSay 50 B b v T (.int .i64 7) w) := by
  have HT : Hid (∀ y, Below w.heap.size w y → TAt 50 B y b v T) := fun y hy => h.old hy
  have HH : Hid (∀ y, Below w.heap.size w y → Calls Try.prog 38 #[.pointer (some ⟨b, 0, none⟩), .int .i64 i] y fun e w' => e = .returned (.bool (decide (Us.has T i))) ∧ w' = y) := fun y hy => has_any i y (h.old hy) hI.len
  have T2 : Hid (TAt 50 B w b v T) := HT.out _ (Below.refl _ _)
  by_cases h1 : Us.has T i
  · rw [decide_eq_true h1] at HH
    obtain ⟨hn1, hn2⟩ := Us.has_nat h1
    obtain ⟨j, hj⟩ : ∃ j : Nat, i.toNat = j := ⟨_, rfl⟩
    rw [hj] at hn1 hn2
    obtain ⟨g, c, rfl, hgw⟩ := h.gsome j hn1
    have hk := (hI.ok j hn1).2.1
    have hno' : ¬ (-(Us.at_ T j).l ≤ m ∧ m ≤ 64 - (Us.at_ T j).l) := fun q => hno ⟨h1, by rw [hj]; omega, by rw [hj]; omega⟩
    have b2 := T2.out.cell
    have d2 := (T2.out.own.cells j hn1).2.1
    generalize (Us.at_ T j).l = l at *
    have HW : Hid (∀ y, Calls Try.prog 39 #[.int .i64 m, .int .i64 (-l), .int .i64 (64 - l)] y fun e w' => e = .returned (.bool false) ∧ w' = y) := fun y => by
      have := within_any m (-l) (64 - l) y
      rw [decide_eq_false hno'] at this
      exact this
    have hw1 : IntKind.i64.wrap (-l) = -l := IntWalk.i64_in _ ⟨by omega, by omega⟩
    have hw2 : IntKind.i64.wrap (64 - l) = 64 - l := IntWalk.i64_in _ ⟨by omega, by omega⟩
    subst hn2
    clear h h1 hj hno hno' hI
    obtain ⟨n, hn⟩ : ∃ n, T.length = n := ⟨_, rfl⟩
    rw [hn] at hn1 HT b2 T2 ⊢
    have hlt : (j : Int) < (n : Int) := by omega
    have hge : 0 ≤ (j : Int) := by omega
    go_enter Try.func25, Try.ntmps25
    go_upto_region 1 with (fail)
    go_quiet ((first
      | (go_at_call 38; exact Calls.quiet_of_same (HH.out _ (below_dn (Below.refl _ w) _)))
      | (go_at_call 39; exact Calls.quiet_of_same (HW.out _))))
    go_wp2
    go_ret
    exact ⟨rfl, Lib.hid (HT.out _ (below_dn (Below.refl _ w) _)), Lib.hid (Tn.of (below_dn (Below.refl _ w) _))⟩
  · rw [decide_eq_false h1] at HH
    have b2 := T2.out.cell
    clear h h1 hno
    go_enter Try.func25, Try.ntmps25
    go_upto_region 1 with (fail)
    go_quiet ((first
      | (go_at_call 38; exact Calls.quiet_of_same (HH.out _ (below_dn (Below.refl _ w) _)))))
    go_wp2
    go_ret
    exact ⟨rfl, Lib.hid (HT.out _ (below_dn (Below.refl _ w) _)), Lib.hid (Tn.of (below_dn (Below.refl _ w) _))⟩
set_option maxHeartbeats 4000000 in
set_option maxRecDepth 100000 in
theorem add_yes {B b : Nat} {v : Value} {T : List Us.S} (i m now : Int) (w : World) (h : TAt 50 B w b v T) (hI : Us.Inv T) (hy : Us.mayAdd T i m) :
    Calls Try.prog 25 #[.pointer (some ⟨b, 0, none⟩), .int .i64 i, .int .i64 m, .int .i64 now] w (TbSay 50 B b v (T.set i.toNat (Us.added (Us.at_ T i.toNat) m now)) (.int .i64 0) w) := by
  have HT : Hid (∀ y, Below w.heap.size w y → TAt 50 B y b v T) := fun y hy => h.old hy
  have HH : Hid (∀ y, Below w.heap.size w y → Calls Try.prog 38 #[.pointer (some ⟨b, 0, none⟩), .int .i64 i] y fun e w' => e = .returned (.bool true) ∧ w' = y) := fun y hz => by
    have := has_any i y (h.old hz) hI.len
    rw [decide_eq_true hy.1] at this
    exact this
  have T2 : Hid (TAt 50 B w b v T) := HT.out _ (Below.refl _ _)
  have HA : Hid (∀ y, Calls Try.prog 37 #[.int .i64 now] y fun e w' => e = .returned (.int .i64 (Us.ageOf now)) ∧ w' = y) := fun y => age_any now y
  obtain ⟨h1, h2, h3⟩ := hy
  obtain ⟨hn1, hn2⟩ := Us.has_nat h1
  obtain ⟨j, hj⟩ : ∃ j : Nat, i.toNat = j := ⟨_, rfl⟩
  rw [hj] at hn1 hn2 h2 h3 ⊢
  obtain ⟨g, c, rfl, hgw⟩ := h.gsome j hn1
  have hk := (hI.ok j hn1).2.1
  have b2 := T2.out.cell
  have d2 := (T2.out.own.cells j hn1).2.1
  have f2 := T2.out.own.frozen (j * 3 + 1)
  have HJ : Hid (j < T.length) := hn1
  unfold Us.added
  obtain ⟨x, hx⟩ : ∃ x, Us.at_ T j = x := ⟨_, rfl⟩
  have HX := Lib.hid hx
  rw [hx] at h2 h3 hk d2 ⊢
  clear hx
  obtain ⟨s, l, a⟩ := x
  dsimp only at h2 h3 hk d2 ⊢
  have HW : Hid (∀ y, Calls Try.prog 39 #[.int .i64 m, .int .i64 (-l), .int .i64 (64 - l)] y fun e w' => e = .returned (.bool true) ∧ w' = y) := fun y => by
    have := within_any m (-l) (64 - l) y
    rw [decide_eq_true (show -l ≤ m ∧ m ≤ 64 - l by omega)] at this
    exact this
  have hw1 : IntKind.i64.wrap (-l) = -l := IntWalk.i64_in _ ⟨by omega, by omega⟩
  have hw2 : IntKind.i64.wrap (64 - l) = 64 - l := IntWalk.i64_in _ ⟨by omega, by omega⟩
  have hw3 : IntKind.i64.wrap (l + m) = l + m := IntWalk.i64_in _ ⟨by omega, by omega⟩
  have T6' : Hid (∀ k, TAt 50 B ((w.drewN k).setCell ⟨g, j * 3 + 1, none⟩ (.int .i64 (l + m))) b (.slice (some ⟨g, 0, none⟩) T.length c) (T.set j ⟨s, l + m, a⟩)) := fun k => (HT.out _ (below_dn (Below.refl _ w) k)).setc tne j 1 hn1 (by omega) (.int .i64 (l + m)) ⟨s, l + m, a⟩ (by rw [HX.out]; rfl)
  have M6' : Hid (∀ k, Tn (.slice (some ⟨g, 0, none⟩) T.length c) w ((w.drewN k).setCell ⟨g, j * 3 + 1, none⟩ (.int .i64 (l + m)))) := fun k => (Tn.of (below_dn (Below.refl _ w) k)).trans (Tn.setc _)
  have HJ2 : Hid (j < (T.set j ⟨s, l + m, a⟩).length) := by show _ < _; rw [List.length_set]; exact hn1
  have HAT : Hid (Us.at_ (T.set j ⟨s, l + m, a⟩) j = ⟨s, l + m, a⟩) := by show _ = _; rw [Us.at_set _ _ _ _ hn1, if_pos rfl]
  generalize Us.ageOf now = q at *
  subst hn2
  clear h h1 hj hI h2 h3 hk hgw
  obtain ⟨n, hn⟩ : ∃ n, T.length = n := ⟨_, rfl⟩
  rw [hn] at hn1 HT b2 T2 T6' M6' ⊢
  have hlt : (j : Int) < (n : Int) := by omega
  have hge : 0 ≤ (j : Int) := by omega
  by_cases hm : 0 < m
  · rw [if_pos hm]
    go_enter Try.func25, Try.ntmps25
    go_upto_region 1 with (fail)
    go_quiet ((first
      | (go_at_call 38; exact Calls.quiet_of_same (HH.out _ (below_dn (Below.refl _ w) _)))
      | (go_at_call 39; exact Calls.quiet_of_same (HW.out _))))
    go_upto_region 4 with (fail)
    have T6 := Lib.hid (T6'.out nq)
    have M6 := Lib.hid (M6'.out nq)
    obtain ⟨w6, hw6⟩ : ∃ y, y = (w.drewN nq).setCell ⟨g, j * 3 + 1, none⟩ (.int .i64 (l + m)) := ⟨_, rfl⟩
    rw [← hw6] at T6 M6 ⊢
    clear hw6 T6' M6' b2 d2 f2
    go_upto_region 5 with (fail)
    refine wp_region_any (by kernel_rfl) ?_
    change wpAny _ _ _ _ _ _ _ (World.drew _)
    have T7 : Hid (TAt 50 B w6.drew b (.slice (some ⟨g, 0, none⟩) n c) (T.set j ⟨s, l + m, a⟩)) := T6.out.old (Below.refl _ _).drew
    have M7 : Hid (Tn (.slice (some ⟨g, 0, none⟩) n c) w w6.drew) := M6.out.trans (Tn.of (Below.refl _ _).drew)
    obtain ⟨z, hz⟩ : ∃ y, y = w6.drew := ⟨_, rfl⟩
    rw [← hz] at T7 M7 ⊢
    clear hz
    refine wpAny_of_held (S := fun y => y.cell? ⟨b, 0, none⟩ = some (.slice (some ⟨g, 0, none⟩) n c)) _ _ _ _ ?_
    have SD : z.cell? ⟨b, 0, none⟩ = some (.slice (some ⟨g, 0, none⟩) n c) := T7.out.cell
    refine anyH_take 0 50 (.pointer (some ⟨b, 0, none⟩)) SD rfl (by kernel_rfl) (by kernel_rfl) (by kernel_rfl) (fun _ _ _ h => h) (by rfl) (by intro x hx; go_simp) ?_
    try simp only [Act.put, List.setIfInBounds_toArray, List.set_cons_zero, List.set_cons_succ]
    refine anyH_take 1 51 (.pointer (some ⟨b, 0, none⟩)) SD rfl (by kernel_rfl) (by kernel_rfl) (by kernel_rfl) (fun _ _ _ h => h) (by rfl) (by intro x hx; go_simp) ?_
    try simp only [Act.put, List.setIfInBounds_toArray, List.set_cons_zero, List.set_cons_succ]
    refine anyH_take 2 52 (.pointer (some ⟨b, 0, none⟩)) SD rfl (by kernel_rfl) (by kernel_rfl) (by kernel_rfl) (fun _ _ _ h => h) (by rfl) (by intro x hx; go_simp) ?_
    try simp only [Act.put, List.setIfInBounds_toArray, List.set_cons_zero, List.set_cons_succ]
    refine anyH_take 3 53 (.slice (some ⟨g, 0, none⟩) n c) SD rfl (by kernel_rfl) (by kernel_rfl) (by kernel_rfl) (fun _ _ _ h => h) (by rfl) (by intro x hx; go_simp) ?_
    try simp only [Act.put, List.setIfInBounds_toArray, List.set_cons_zero, List.set_cons_succ]
    refine anyH_take 4 54 (.int .i64 (j : Int)) SD rfl (by kernel_rfl) (by kernel_rfl) (by kernel_rfl) (fun _ _ _ h => h) (by rfl) (by intro x hx; go_simp) ?_
    try simp only [Act.put, List.setIfInBounds_toArray, List.set_cons_zero, List.set_cons_succ]
    refine anyH_take 5 55 (.int .i64 now) SD rfl (by kernel_rfl) (by kernel_rfl) (by kernel_rfl) (fun _ _ _ h => h) (by rfl) (by intro x hx; go_simp) ?_
    try simp only [Act.put, List.setIfInBounds_toArray, List.set_cons_zero, List.set_cons_succ]
    refine anyH_one 6 (by kernel_rfl) ?_
    refine wpOp_step rfl (fun Kc hKc => ?_)
    go_simp
    refine (HA.out _).mono ?_
    rintro e8 w8 ⟨rfl, rfl⟩

    dsimp only
    refine hKc _ _ ⟨SD, ?_⟩
    clear hKc Kc
    try simp only [Act.put, List.setIfInBounds_toArray, List.set_cons_zero, List.set_cons_succ]
    refine anyH_take 7 57 (.pointer (some ⟨g, j * 3, none⟩)) SD rfl (by kernel_rfl) (by kernel_rfl) (by kernel_rfl) (fun _ _ _ h => h) (by rfl) (by intro x hx; go_simp) ?_
    try simp only [Act.put, List.setIfInBounds_toArray, List.set_cons_zero, List.set_cons_succ]
    refine anyH_take 8 58 (.pointer (some ⟨g, j * 3 + 2, none⟩)) SD rfl (by kernel_rfl) (by kernel_rfl) (by kernel_rfl) (fun _ _ _ h => h) (by rfl) (by intro x hx; go_simp) ?_
    try simp only [Act.put, List.setIfInBounds_toArray, List.set_cons_zero, List.set_cons_succ]
    have f7 := T7.out.own.frozen (j * 3 + 2)
    have d7 := (T7.out.own.cells j HJ2.out).2.2
    refine anyH_one 9 (by kernel_rfl) ?_
    refine wpOp_step rfl (fun Kc hKc => ?_)
    rw [if_pos (by rfl)]
    go_simp
    have T9 : Hid (TAt 50 B (w8.setCell ⟨g, j * 3 + 2, none⟩ (.int .i64 q)) b (.slice (some ⟨g, 0, none⟩) n c) (T.set j ⟨s, l + m, q⟩)) := by
      have := T7.out.setc tne j 2 HJ2.out (by omega) (.int .i64 q) ⟨s, l + m, q⟩ (by rw [HAT.out]; rfl)
      rw [List.set_set] at this
      exact this
    refine hKc _ _ ⟨T9.out.cell, ?_⟩
    clear hKc Kc
    refine wpAnyH_done (by kernel_rfl) ?_ _
    go_wp2
    go_ret
    exact ⟨rfl, T9, Lib.hid (M7.out.trans (Tn.setc _))⟩
  · rw [if_neg hm]
    go_enter Try.func25, Try.ntmps25
    go_upto_region 1 with (fail)
    go_quiet ((first
      | (go_at_call 38; exact Calls.quiet_of_same (HH.out _ (below_dn (Below.refl _ w) _)))
      | (go_at_call 39; exact Calls.quiet_of_same (HW.out _))))
    go_upto_region 4 with (fail)
    have T6 := Lib.hid (T6'.out nq)
    have M6 := Lib.hid (M6'.out nq)
    obtain ⟨w6, hw6⟩ : ∃ y, y = (w.drewN nq).setCell ⟨g, j * 3 + 1, none⟩ (.int .i64 (l + m)) := ⟨_, rfl⟩
    rw [← hw6] at T6 M6 ⊢
    clear hw6 T6' M6' b2 d2 f2
    go_wp2
    go_ret
    exact ⟨rfl, T6, M6⟩
theorem add_any {B b : Nat} {v : Value} {T : List Us.S} (i m now : Int) (w : World) (h : TAt 50 B w b v T) (hI : Us.Inv T) :
    Calls Try.prog 25 #[.pointer (some ⟨b, 0, none⟩), .int .i64 i, .int .i64 m, .int .i64 now] w (TbSay 50 B b v (Us.addT T i m now) (.int .i64 (Us.addE T i m)) w) := by
  unfold Us.addT Us.addE
  by_cases hy : Us.mayAdd T i m
  · rw [if_pos hy, if_pos hy]; exact add_yes i m now w h hI hy
  · rw [if_neg hy, if_neg hy]; exact add_no i m now w h hI hy
end Go.Proofs.Ytnnalemboeccbaa

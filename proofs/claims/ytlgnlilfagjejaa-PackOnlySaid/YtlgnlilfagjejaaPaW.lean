/-
  PackOnly: the law walked.
-/
import Derived.Test.YtlgnlilfagjejaaPaX0
namespace Go.Proofs.Ytlgnlilfagjejaa
open Go.RowKit

namespace Pk
theorem nb_dec (k : Nat) (L : List Int) : nb k L false = decide (L.length < k) := by
  unfold nb
  by_cases h : L.length < k
  · rw [if_pos h, decide_eq_true h]
  · rw [if_neg h, decide_eq_false h]
theorem e8_vi {L : List Int} (hb : Sha.Byt L) (h : 8 ≤ L.length) : e8 (vi L) 8 = L.take 8 := by
  unfold vi
  rw [if_neg (by omega), e8_in8 (by rw [List.length_take]; omega) (fun x hx => hb x (List.mem_of_mem_take hx))]
theorem vs_good {L : List Int} (h : 32 ≤ L.length) : vs L = L.take 32 := by unfold vs; rw [if_neg (by omega)]
theorem ref_vr {L : List Int} (hb : Sha.Byt L) (h : 40 ≤ L.length) : ref (vr L) = L.take 40 := by
  unfold vr ref
  rw [if_neg (by omega)]
  dsimp only
  rw [e8_in8 (by rw [List.length_take]; omega) (fun x hx => hb x (List.mem_of_mem_take hx)), show (40 : Nat) = 8 + 32 from rfl, List.take_add]
theorem vi_bad {L : List Int} (h : L.length < 8) : vi L = 0 := by unfold vi; rw [if_pos h]
theorem vs_bad {L : List Int} (h : L.length < 32) : vs L = List.replicate 32 0 := by unfold vs; rw [if_pos h]
theorem vr_bad {L : List Int} (h : L.length < 40) : vr L = (0, List.replicate 32 0) := by unfold vr; rw [if_pos h]
theorem vs_byt {L : List Int} (hb : Sha.Byt L) : Sha.Byt (vs L) := by
  unfold vs
  split
  · exact byt_rep 32 0 (by omega)
  · exact fun x hx => hb x (List.mem_of_mem_take hx)
theorem vr_byt {L : List Int} (hb : Sha.Byt L) : Sha.Byt (vr L).2 := by
  unfold vr
  split
  · exact byt_rep 32 0 (by omega)
  · exact fun x hx => hb x (List.mem_of_mem_drop (List.mem_of_mem_take hx))
end Pk
theorem a32_zero : A32 (List.replicate 32 0) = .agg Z32 := by unfold A32 Z32; rfl
theorem r33_zero : R33 (0, List.replicate 32 0) = .agg Z33 := by unfold R33 Z33; rfl
theorem exec_build0 {P : Program} {a : Act} {w : World} {D : Option Tmp} {T : TypeId} {ps : String} {af : Array Edge} {gd : Option (Nat × Bool)} (t : TypeId) (R : Array Value) (hr : P.built t [] = some R) :
    (execOp a.eval { dst := D, op := .build t #[], type := T, pos := ps, after := af, guard := gd }).run P w = .ok (.value (.agg R)) w := by
  have hrun := run_build (P := P) w t #[] R hr
  unfold execOp
  simp only [List.map_toArray, List.map_nil, hrun, Sem.run_bind, Sem.run_pure, Result.andThen_ok]
section
variable {P : Program} {md : Region.Mode} {ops : Array Oper} {Q : Exit → Act → World → Prop} {a : Act} {w : World}
theorem op_load_g {K : Act → World → Prop} (i : Nat) (ty : TypeId) (x : Operand) {D : Option Tmp} {T : TypeId} {ps : String} {af : Array Edge} {gd : Option (Nat × Bool)} (ho : ops[i]? = some { dst := D, op := .load ty x, type := T, pos := ps, after := af, guard := gd })
    (hw : Region.wanted { dst := D, op := .load ty x, type := T, pos := ps, after := af, guard := gd } (yielded ops a.tmps) = true)
    (b o : Nat) (cs : List Value) (d : TypeDesc) (hx : a.eval x = .pointer (some ⟨b, o, none⟩)) (hc : w.rangeAt b o cs)
    (hu : P.underlying ty = some d) (hd : d.isRow = true) (hi : (P.info? ty).map (·.size) = some cs.length) (h : K (a.put D (.agg cs.toArray)) w) : wpOp P ops Q i K a w := by
  unfold wpOp
  rw [ho]
  simp only [hw, if_true]
  exact Or.inl (wp_load_mid ty x rfl b o hx cs d hc hu hd hi h)
end
theorem row_rng' {w : World} {g : Nat} {A : Array Value} {t : TypeId} {fr : Nat × Nat} (h : w.heap[g]? = some (.cells A t fr)) : w.rangeAt g 0 A.toList := fun j v hv => by
  rw [cell_of_row w g (0 + j) _ _ _ h]
  simpa using hv
theorem Try.builtSum : Try.prog.built 24 [] = some Z32 := by kernel_rfl
theorem Try.builtRef : Try.prog.built 26 [] = some Z33 := by kernel_rfl

set_option maxHeartbeats 1000000 in
set_option maxRecDepth 100000 in
theorem only_big (p : Option Addr) (n c : Nat) (hbig : ¬ n ≤ 4096) (w : World) :
    Calls Try.prog 6 #[.slice p n c] w (YesSay w) := by
  have hgt : (n : Int) > 4096 := by omega
  have HK : Hid (∀ y, Calls Try.prog 9 #[] y (YesSay y)) := fun y => known_any y
  go_enter Try.func6, Try.ntmps6
  go_wp2_with (go_at_call 9; refine (HK.out _).mono ?_; rintro e1 w1 ⟨rfl, hb1⟩)
  go_ret
  exact ⟨rfl, hb1⟩
set_option maxHeartbeats 16000000 in
set_option maxRecDepth 100000 in
theorem only_true (L : List Int) (p : Option Addr) (n c : Nat) (hn : L.length = n) (hL : n ≤ 4096) (w : World) (hp : Bs w p c L) :
    Calls Try.prog 6 #[.slice p n c] w (YesSay w) := by
  have HP := Lib.hid hp
  have HN := Lib.hid hn
  have HBY : Hid (Sha.Byt L) := hp.bat.1
  have hcap : n ≤ c ∧ c ≤ 9223372036854775807 := by have h := hp.cap; rw [hn] at h; exact h
  obtain ⟨v, hv⟩ : ∃ v, Pk.vi L = v := ⟨_, rfl⟩
  obtain ⟨S, hS⟩ : ∃ S, Pk.vs L = S := ⟨_, rfl⟩
  obtain ⟨r, hr⟩ : ∃ r, Pk.vr L = r := ⟨_, rfl⟩
  have HSL : Hid (S.length = 32 ∧ Sha.Byt S) := by rw [← hS]; exact ⟨Pk.vs_len L, Pk.vs_byt hp.bat.1⟩
  have HRL : Hid (r.2.length = 32 ∧ Sha.Byt r.2) := by rw [← hr]; exact ⟨Pk.vr_len L, Pk.vr_byt hp.bat.1⟩
  obtain ⟨A, HA, HA2, HA3⟩ : ∃ A : Array Value, Hid (A32 S = .agg A) ∧ Hid (A.size = 32) ∧ Hid (A.all (·.oneCell') = true) := a32_agg S HSL.out.1
  obtain ⟨R, HR, HR2, HR3⟩ : ∃ R : Array Value, Hid (R33 r = .agg R) ∧ Hid (R.size = 33) ∧ Hid (R.all (·.oneCell') = true) := r33_agg r HRL.out.1
  obtain ⟨X1, hX1⟩ : ∃ X, Pk.nx 8 L = X := ⟨_, rfl⟩
  obtain ⟨Y1, hY1⟩ : ∃ X, Pk.nx 32 L = X := ⟨_, rfl⟩
  obtain ⟨Z1, hZ1⟩ : ∃ X, Pk.nx 40 L = X := ⟨_, rfl⟩
  have HRD : Hid (∀ y, Bs y p c L → Calls Try.prog 20 #[.slice p n c] y (NewSay L y)) := fun y hy => read_any L p n c hn (by omega) y hy
  have HCI : Hid (∀ y g D, RdAt y g D L false → Calls Try.prog 25 #[.pointer (some ⟨g, 0, none⟩)] y (RdSay (.int .i64 v) X1 (decide (n < 8)) g D y)) := fun y g D hy => by
    have h := rint_any L false g D n hn (by omega) y hy
    rw [hv, hX1, Pk.nb_dec, hn] at h
    exact h
  have HCS : Hid (∀ y g D, RdAt y g D L false → Calls Try.prog 27 #[.pointer (some ⟨g, 0, none⟩)] y (RdSay (.agg A) Y1 (decide (n < 32)) g D y)) := fun y g D hy => by
    have h := rsum_any L false g D n hn (by omega) y hy
    rw [hS, HA.out, hY1, Pk.nb_dec, hn] at h
    exact h
  have HCR : Hid (∀ y g D, RdAt y g D L false → Calls Try.prog 29 #[.pointer (some ⟨g, 0, none⟩)] y (RdSay (.agg R) Z1 (decide (n < 40)) g D y)) := fun y g D hy => by
    have h := rref_any L false g D n hn (by omega) y hy
    rw [hr, HR.out, hZ1, Pk.nb_dec, hn] at h
    exact h
  have HK : Hid (∀ y, Calls Try.prog 9 #[] y (YesSay y)) := fun y => known_any y
  have hle : ¬ (n : Int) > 4096 := by omega
  have hsA := row_size Try.sizeSum HA2
  have hsR := row_size Try.sizeRef HR2
  clear hX1 hY1 hZ1 hp hn
  go_enter Try.func6, Try.ntmps6
  go_upto_region 5 with (first
    | (go_at_call 25; refine (HCI.out _ _ _ RX1.out).mono ?_; rintro e2 w2 ⟨rfl, RX2, OX2⟩; have W2 : Hid (Below w.heap.size w w2) := OX2.out.below LL1.out GX1.out.1 LL1.out.size)
    | (go_at_call 20; refine (HRD.out _ HP.out).mono ?_; rintro e1 w1 ⟨gx, Dx, rfl, RX1, GX1, LL1⟩))
  clear RX1 OX2 GX1 LL1 HCI
  go_upto_region 7 with (first
    | ((with_reducible refine row_store _ _ _ _ _ _ _ ?_ ?_ (heap_alloc_new _ _) hsA ?_ HA3.out ?_); (exact rfl); (exact rfl); (rw [HA2.out]; rfl); intro w5 G5 ch5; have OS5 := Lib.hid (Only.behind ((Below.refl _ w4).alloc (Nat.le_refl _) _) ch5.only); have W5 : Hid (Below w.heap.size w w5) := OS5.out.below W4.out W4.out.size W4.out.size; clear ch5)
    | (go_at_call 27; refine (HCS.out _ _ _ RY3.out).mono ?_; rintro e4 w4 ⟨rfl, RY4, OY4⟩; have W4 : Hid (Below w.heap.size w w4) := OY4.out.below W3.out (Nat.le_trans W2.out.size GY3.out.1) W3.out.size)
    | (go_at_call 20; refine (HRD.out _ (HP.out.old W2.out)).mono ?_; rintro e3 w3 ⟨gy, Dy, rfl, RY3, GY3, LL3⟩; have W3 : Hid (Below w.heap.size w w3) := W2.out.trans (LL3.out.mono W2.out.size)))
  have RX5 : Hid (RdAt w5 gx Dx X1 (decide (n < 8))) := by
    have h1 := RX2.out.glt
    have h2 := GY3.out.1
    have h3 := LL3.out.size
    have h4 := OY4.out.size
    have r4 := (RX2.out.old LL3.out).only OY4.out (by omega) (fun e => by have := RX2.out.lt _ e; omega)
    exact r4.only OS5.out (by omega) (fun e => by have := RX2.out.lt _ e; omega)
  have RY5 : Hid (RdAt w5 gy Dy Y1 (decide (n < 32))) := RY4.out.only OS5.out (by have := RY4.out.glt; omega) (fun e => by have := RY4.out.lt _ e; omega)
  clear RX2 RY3 RY4 GY3 LL3 OY4 OS5 W2 W3 W4 HCS
  generalize w4.heap.size = bs at *
  go_upto_region 9 with (first
    | ((with_reducible refine row_store _ _ _ _ _ _ _ ?_ ?_ (heap_alloc_new _ _) hsR ?_ HR3.out ?_); (exact rfl); (exact rfl); (rw [HR2.out]; rfl); intro w9 G9 ch9; have OS9 := Lib.hid (Only.behind ((Below.refl _ w8).alloc (Nat.le_refl _) _) ch9.only); have W9 : Hid (Below w.heap.size w w9) := OS9.out.below W8.out W8.out.size W8.out.size; clear ch9)
    | (go_at_call 29; refine (HCR.out _ _ _ RZ7.out).mono ?_; rintro e8 w8 ⟨rfl, RZ8, OZ8⟩; have W8 : Hid (Below w.heap.size w w8) := OZ8.out.below W7.out (Nat.le_trans W5.out.size GZ7.out.1) W7.out.size)
    | (go_at_call 20; refine (HRD.out _ (HP.out.old W5.out)).mono ?_; rintro e7 w7 ⟨gz, Dz, rfl, RZ7, GZ7, LL7⟩; have W7 : Hid (Below w.heap.size w w7) := W5.out.trans (LL7.out.mono W5.out.size)))
  have OP : Hid (∀ k, k < w5.heap.size → w9.heap[k]? = w5.heap[k]?) := fun k hk => by
    have h2 := GZ7.out.1
    have h3 := LL7.out.size
    have h4 := OZ8.out.size
    exact (OS9.out.block k (by omega) (by omega)).trans ((OZ8.out.block k (by omega) (by omega)).trans (LL7.out.block k hk))
  have B59 : Hid (Below w5.heap.size w5 w9) := ⟨OS9.out.os.trans (OZ8.out.os.trans LL7.out.os), OS9.out.tape.trans (OZ8.out.tape.trans LL7.out.tape), OS9.out.output.trans (OZ8.out.output.trans LL7.out.output), Nat.le_trans LL7.out.size (Nat.le_trans OZ8.out.size OS9.out.size), OP.out⟩
  have RX9 := Lib.hid (RX5.out.old B59.out)
  have RY9 := Lib.hid (RY5.out.old B59.out)
  have RZ9 : Hid (RdAt w9 gz Dz Z1 (decide (n < 40))) := RZ8.out.only OS9.out (by have := RZ8.out.glt; omega) (fun e => by have := RZ8.out.lt _ e; omega)
  have GA9 : Hid (w9.heap[bs]? = some (.cells A 24 (0, 0))) := (B59.out.block _ (lt_of_block G5.out)).trans G5.out
  have GR9 := Lib.hid G9.out
  clear RX5 RY5 RZ7 RZ8 GZ7 LL7 OZ8 OS9 OP B59 W5 W7 W8 G5 G9 HCR HRD
  generalize w8.heap.size = br at *
  have HGA : Hid (∀ y, Below w9.heap.size w9 y → y.heap[bs]? = some (.cells A 24 (0, 0))) := fun y hy => (hy.block _ (lt_of_block GA9.out)).trans GA9.out
  have HGR : Hid (∀ y, Below w9.heap.size w9 y → y.heap[br]? = some (.cells R 26 (0, 0))) := fun y hy => (hy.block _ (lt_of_block GR9.out)).trans GR9.out
  have HPP : Hid (∀ y, Below w9.heap.size w9 y → Bs y p c L) := fun y hy => HP.out.old (W9.out.trans (hy.mono W9.out.size))
  have HBX : Hid (∀ y, Below w9.heap.size w9 y → Calls Try.prog 33 #[.pointer (some ⟨gx, 0, none⟩)] y (BadSay (decide (n < 8)) y)) := fun y hy => bad_any X1 _ gx Dx y (RX9.out.old hy)
  have HBYy : Hid (∀ y, Below w9.heap.size w9 y → Calls Try.prog 33 #[.pointer (some ⟨gy, 0, none⟩)] y (BadSay (decide (n < 32)) y)) := fun y hy => bad_any Y1 _ gy Dy y (RY9.out.old hy)
  have HBZ : Hid (∀ y, Below w9.heap.size w9 y → Calls Try.prog 33 #[.pointer (some ⟨gz, 0, none⟩)] y (BadSay (decide (n < 40)) y)) := fun y hy => bad_any Z1 _ gz Dz y (RZ9.out.old hy)
  clear GA9 GR9 RX9 RY9 RZ9 HP
  obtain h0 | h0 | h0 | h0 : n < 8 ∨ (8 ≤ n ∧ n < 32) ∨ (32 ≤ n ∧ n < 40) ∨ 40 ≤ n := by omega
  · have hb8 : decide (n < 8) = true := by simp; omega
    have hi8 : ((n : Int) < 8) := by omega
    have hb32 : decide (n < 32) = true := by simp; omega
    have hi32 : ((n : Int) < 32) := by omega
    have hb40 : decide (n < 40) = true := by simp; omega
    have hi40 : ((n : Int) < 40) := by omega
    have HBX1 : Hid (∀ y, Below w9.heap.size w9 y → Calls Try.prog 33 #[.pointer (some ⟨gx, 0, none⟩)] y (BadSay true y)) := fun y hy => by rw [← hb8]; exact HBX.out y hy
    have HBY1 : Hid (∀ y, Below w9.heap.size w9 y → Calls Try.prog 33 #[.pointer (some ⟨gy, 0, none⟩)] y (BadSay true y)) := fun y hy => by rw [← hb32]; exact HBYy.out y hy
    have HBZ1 : Hid (∀ y, Below w9.heap.size w9 y → Calls Try.prog 33 #[.pointer (some ⟨gz, 0, none⟩)] y (BadSay true y)) := fun y hy => by rw [← hb40]; exact HBZ.out y hy
    obtain rfl : v = 0 := by rw [← hv]; exact Pk.vi_bad (by have := HN.out; omega)
    obtain rfl : A = Z32 := by have h := HA.out; rw [← hS, Pk.vs_bad (by have := HN.out; omega), a32_zero] at h; cases h; rfl
    have HEQA : ∀ y, (Op.equalIn 10000 24 (.agg Z32) (.agg Z32)).run Try.prog y = .ok true y := fun y => by
      have h := a32_eq (List.replicate 32 0) (List.replicate 32 0) (by simp) (by simp) y
      rw [decide_eq_true rfl, a32_zero] at h
      exact h
    obtain rfl : R = Z33 := by have h := HR.out; rw [← hr, Pk.vr_bad (by have := HN.out; omega), r33_zero] at h; cases h; rfl
    have HEQR : ∀ y, (Op.equalIn 10000 26 (.agg Z33) (.agg Z33)).run Try.prog y = .ok true y := fun y => by
      have h := r33_eqs (0, List.replicate 32 0) (0, List.replicate 32 0) (by simp) (by simp) y
      rw [decide_eq_true rfl, r33_zero] at h
      exact h
    have hc8 : ¬ ((c : Int) < 8) ∨ n < 8 := by omega
    have hc32 : ¬ ((c : Int) < 32) ∨ n < 32 := by omega
    have hc40 : ¬ ((c : Int) < 40) ∨ n < 40 := by omega
    clear hc8
    clear hc32
    clear hc40
    have K0 : Hid (Below w9.heap.size w9 w9) := Below.refl _ _
    go_upto_region 11 with (first
      | (go_at_call 33; refine (HBZ1.out _ K2.out).mono ?_; rintro e3 z3 ⟨rfl, hb3⟩; have K3 : Hid (Below w9.heap.size w9 z3) := K2.out.trans (hb3.mono K2.out.size); clear hb3)
      | (go_at_call 33; refine (HBY1.out _ K1.out).mono ?_; rintro e2 z2 ⟨rfl, hb2⟩; have K2 : Hid (Below w9.heap.size w9 z2) := K1.out.trans (hb2.mono K1.out.size); clear hb2)
      | (go_at_call 33; refine (HBX1.out _ K0.out).mono ?_; rintro e1 z1 ⟨rfl, hb1⟩; have K1 : Hid (Below w9.heap.size w9 z1) := K0.out.trans (hb1.mono K0.out.size); clear hb1))
    refine wp_region_any (by kernel_rfl) ?_
    change wpAny _ _ _ _ _ _ _ (World.drew _)
    have K3e : Hid (Below w9.heap.size w9 z3.drew) := K3.out.drew
    obtain ⟨z3e, hze⟩ : ∃ z, z = z3.drew := ⟨_, rfl⟩
    rw [← hze] at K3e ⊢
    clear hze
    refine wpAny_of_held (S := fun _ => True) _ _ _ _ ?_
    refine anyH_take 0 50 (.pointer (some ⟨gx, 0, none⟩)) trivial rfl (by kernel_rfl) (by kernel_rfl) (by kernel_rfl) (fun _ _ _ h => h) (by rfl) (by intro y hy; go_simp) ?_
    try simp only [Act.put, List.setIfInBounds_toArray, List.set_cons_zero, List.set_cons_succ]
    refine anyH_one 1 (by kernel_rfl) ?_
    refine wpOp_step rfl (fun Kc hKc => ?_)
    go_simp
    refine (HBX1.out _ K3e.out).mono ?_
    rintro e3a z3a ⟨rfl, hb⟩
    have K3a : Hid (Below w9.heap.size w9 z3a) := K3e.out.trans (hb.mono K3e.out.size)
    clear hb
    dsimp only
    refine hKc _ _ ⟨trivial, ?_⟩
    clear hKc Kc
    try simp only [Act.put, List.setIfInBounds_toArray, List.set_cons_zero, List.set_cons_succ]
    refine anyH_take 2 52 (.bool true) trivial rfl (by kernel_rfl) (by kernel_rfl) (by kernel_rfl) (fun _ _ _ h => h) (by rfl) (by intro y hy; go_simp) ?_
    try simp only [Act.put, List.setIfInBounds_toArray, List.set_cons_zero, List.set_cons_succ]
    refine anyH_take 3 53 (.int .i64 0) trivial rfl (by kernel_rfl) (by kernel_rfl) (by kernel_rfl) (fun _ _ _ h => h) (by rfl) (by intro y hy; go_simp) ?_
    try simp only [Act.put, List.setIfInBounds_toArray, List.set_cons_zero, List.set_cons_succ]
    refine anyH_take 4 54 (.bool true) trivial rfl (by kernel_rfl) (by kernel_rfl) (by kernel_rfl) (fun _ _ _ h => h) (by rfl) (by intro y hy; go_simp) ?_
    try simp only [Act.put, List.setIfInBounds_toArray, List.set_cons_zero, List.set_cons_succ]
    refine anyH_take 5 55 (.bool true) trivial rfl (by kernel_rfl) (by kernel_rfl) (by kernel_rfl) (fun _ _ _ h => h) (by rfl) (by intro y hy; go_simp) ?_
    try simp only [Act.put, List.setIfInBounds_toArray, List.set_cons_zero, List.set_cons_succ]
    refine anyH_take 6 56 (.bool true) trivial rfl (by kernel_rfl) (by kernel_rfl) (by kernel_rfl) (fun _ _ _ h => h) (by rfl) (by intro y hy; go_simp) ?_
    try simp only [Act.put, List.setIfInBounds_toArray, List.set_cons_zero, List.set_cons_succ]
    refine anyH_skip 7 57 trivial rfl (by kernel_rfl) (by kernel_rfl) (by kernel_rfl) (fun _ _ _ h => h) (by rfl) ?_
    try simp only [Act.put, List.setIfInBounds_toArray, List.set_cons_zero, List.set_cons_succ]
    refine anyH_skip 8 58 trivial rfl (by kernel_rfl) (by kernel_rfl) (by kernel_rfl) (fun _ _ _ h => h) (by rfl) ?_
    try simp only [Act.put, List.setIfInBounds_toArray, List.set_cons_zero, List.set_cons_succ]
    refine anyH_skip 9 59 trivial rfl (by kernel_rfl) (by kernel_rfl) (by kernel_rfl) (fun _ _ _ h => h) (by rfl) ?_
    try simp only [Act.put, List.setIfInBounds_toArray, List.set_cons_zero, List.set_cons_succ]
    refine anyH_skip 10 60 trivial rfl (by kernel_rfl) (by kernel_rfl) (by kernel_rfl) (fun _ _ _ h => h) (by rfl) ?_
    try simp only [Act.put, List.setIfInBounds_toArray, List.set_cons_zero, List.set_cons_succ]
    refine anyH_skip 11 61 trivial rfl (by kernel_rfl) (by kernel_rfl) (by kernel_rfl) (fun _ _ _ h => h) (by rfl) ?_
    try simp only [Act.put, List.setIfInBounds_toArray, List.set_cons_zero, List.set_cons_succ]
    refine anyH_skip 12 62 trivial rfl (by kernel_rfl) (by kernel_rfl) (by kernel_rfl) (fun _ _ _ h => h) (by rfl) ?_
    try simp only [Act.put, List.setIfInBounds_toArray, List.set_cons_zero, List.set_cons_succ]
    refine anyH_skip 13 63 trivial rfl (by kernel_rfl) (by kernel_rfl) (by kernel_rfl) (fun _ _ _ h => h) (by rfl) ?_
    try simp only [Act.put, List.setIfInBounds_toArray, List.set_cons_zero, List.set_cons_succ]
    refine anyH_skip 14 64 trivial rfl (by kernel_rfl) (by kernel_rfl) (by kernel_rfl) (fun _ _ _ h => h) (by rfl) ?_
    try simp only [Act.put, List.setIfInBounds_toArray, List.set_cons_zero, List.set_cons_succ]
    refine anyH_skip 15 65 trivial rfl (by kernel_rfl) (by kernel_rfl) (by kernel_rfl) (fun _ _ _ h => h) (by rfl) ?_
    try simp only [Act.put, List.setIfInBounds_toArray, List.set_cons_zero, List.set_cons_succ]
    refine anyH_skip 16 66 trivial rfl (by kernel_rfl) (by kernel_rfl) (by kernel_rfl) (fun _ _ _ h => h) (by rfl) ?_
    try simp only [Act.put, List.setIfInBounds_toArray, List.set_cons_zero, List.set_cons_succ]
    refine anyH_take 17 67 (.bool true) trivial rfl (by kernel_rfl) (by kernel_rfl) (by kernel_rfl) (fun _ _ _ h => h) (by rfl) (by intro y hy; go_simp) ?_
    try simp only [Act.put, List.setIfInBounds_toArray, List.set_cons_zero, List.set_cons_succ]
    refine anyH_one 18 (by kernel_rfl) ?_
    refine wpOp_step rfl (fun Kc hKc => ?_)
    go_simp
    refine hKc _ _ ⟨trivial, ?_⟩
    clear hKc Kc
    refine wpAnyH_done (by kernel_rfl) ?_ _
    go_upto_region 12 with (fail)
    refine wp_region_any (by kernel_rfl) ?_
    change wpAny _ _ _ _ _ _ _ (World.drew _)
    have K3ae : Hid (Below w9.heap.size w9 z3a.drew) := K3a.out.drew
    obtain ⟨z3ae, hze⟩ : ∃ z, z = z3a.drew := ⟨_, rfl⟩
    rw [← hze] at K3ae ⊢
    clear hze
    refine wpAny_of_held (S := fun _ => True) _ _ _ _ ?_
    refine anyH_take 0 68 (.pointer (some ⟨gy, 0, none⟩)) trivial rfl (by kernel_rfl) (by kernel_rfl) (by kernel_rfl) (fun _ _ _ h => h) (by rfl) (by intro y hy; go_simp) ?_
    try simp only [Act.put, List.setIfInBounds_toArray, List.set_cons_zero, List.set_cons_succ]
    refine anyH_one 1 (by kernel_rfl) ?_
    refine wpOp_step rfl (fun Kc hKc => ?_)
    go_simp
    refine (HBY1.out _ K3ae.out).mono ?_
    rintro e3aa z3aa ⟨rfl, hb⟩
    have K3aa : Hid (Below w9.heap.size w9 z3aa) := K3ae.out.trans (hb.mono K3ae.out.size)
    clear hb
    dsimp only
    refine hKc _ _ ⟨trivial, ?_⟩
    clear hKc Kc
    try simp only [Act.put, List.setIfInBounds_toArray, List.set_cons_zero, List.set_cons_succ]
    refine anyH_take 2 70 (.bool true) trivial rfl (by kernel_rfl) (by kernel_rfl) (by kernel_rfl) (fun _ _ _ h => h) (by rfl) (by intro y hy; go_simp) ?_
    try simp only [Act.put, List.setIfInBounds_toArray, List.set_cons_zero, List.set_cons_succ]
    refine anyH_take 4 72 (.agg Z32) trivial rfl (by kernel_rfl) (by kernel_rfl) (by kernel_rfl) (fun _ _ _ h => h) (by rfl) (fun y hy => exec_build0 24 Z32 Try.builtSum) ?_
    try simp only [Act.put, List.setIfInBounds_toArray, List.set_cons_zero, List.set_cons_succ]
    refine anyH_one 3 (by kernel_rfl) ?_
    refine op_load_g 3 24 (.tmp 6) rfl (by rfl) bs 0 Z32.toList _ rfl (row_rng' (HGA.out _ K3aa.out)) Try.underlying24 rfl (by rw [Array.length_toList]; exact hsA) ?_
    rw [Array.toArray_toList]
    refine ⟨trivial, ?_⟩
    try simp only [Act.put, List.setIfInBounds_toArray, List.set_cons_zero, List.set_cons_succ]
    refine anyH_take 5 73 (.bool true) trivial rfl (by kernel_rfl) (by kernel_rfl) (by kernel_rfl) (fun _ _ _ h => h) (by rfl) (by intro y hy; go_simp) ?_
    try simp only [Act.put, List.setIfInBounds_toArray, List.set_cons_zero, List.set_cons_succ]
    refine anyH_take 6 74 (.bool true) trivial rfl (by kernel_rfl) (by kernel_rfl) (by kernel_rfl) (fun _ _ _ h => h) (by rfl) (by intro y hy; go_simp) ?_
    try simp only [Act.put, List.setIfInBounds_toArray, List.set_cons_zero, List.set_cons_succ]
    refine anyH_take 7 75 (.bool true) trivial rfl (by kernel_rfl) (by kernel_rfl) (by kernel_rfl) (fun _ _ _ h => h) (by rfl) (by intro y hy; go_simp) ?_
    try simp only [Act.put, List.setIfInBounds_toArray, List.set_cons_zero, List.set_cons_succ]
    refine anyH_skip 8 76 trivial rfl (by kernel_rfl) (by kernel_rfl) (by kernel_rfl) (fun _ _ _ h => h) (by rfl) ?_
    try simp only [Act.put, List.setIfInBounds_toArray, List.set_cons_zero, List.set_cons_succ]
    refine anyH_skip 9 77 trivial rfl (by kernel_rfl) (by kernel_rfl) (by kernel_rfl) (fun _ _ _ h => h) (by rfl) ?_
    try simp only [Act.put, List.setIfInBounds_toArray, List.set_cons_zero, List.set_cons_succ]
    refine anyH_skip 10 78 trivial rfl (by kernel_rfl) (by kernel_rfl) (by kernel_rfl) (fun _ _ _ h => h) (by rfl) ?_
    try simp only [Act.put, List.setIfInBounds_toArray, List.set_cons_zero, List.set_cons_succ]
    refine anyH_skip 11 79 trivial rfl (by kernel_rfl) (by kernel_rfl) (by kernel_rfl) (fun _ _ _ h => h) (by rfl) ?_
    try simp only [Act.put, List.setIfInBounds_toArray, List.set_cons_zero, List.set_cons_succ]
    refine anyH_skip 12 80 trivial rfl (by kernel_rfl) (by kernel_rfl) (by kernel_rfl) (fun _ _ _ h => h) (by rfl) ?_
    try simp only [Act.put, List.setIfInBounds_toArray, List.set_cons_zero, List.set_cons_succ]
    refine anyH_skip 13 81 trivial rfl (by kernel_rfl) (by kernel_rfl) (by kernel_rfl) (fun _ _ _ h => h) (by rfl) ?_
    try simp only [Act.put, List.setIfInBounds_toArray, List.set_cons_zero, List.set_cons_succ]
    refine anyH_skip 14 82 trivial rfl (by kernel_rfl) (by kernel_rfl) (by kernel_rfl) (fun _ _ _ h => h) (by rfl) ?_
    try simp only [Act.put, List.setIfInBounds_toArray, List.set_cons_zero, List.set_cons_succ]
    refine anyH_skip 15 83 trivial rfl (by kernel_rfl) (by kernel_rfl) (by kernel_rfl) (fun _ _ _ h => h) (by rfl) ?_
    try simp only [Act.put, List.setIfInBounds_toArray, List.set_cons_zero, List.set_cons_succ]
    refine anyH_skip 16 84 trivial rfl (by kernel_rfl) (by kernel_rfl) (by kernel_rfl) (fun _ _ _ h => h) (by rfl) ?_
    try simp only [Act.put, List.setIfInBounds_toArray, List.set_cons_zero, List.set_cons_succ]
    refine anyH_take 17 85 (.bool true) trivial rfl (by kernel_rfl) (by kernel_rfl) (by kernel_rfl) (fun _ _ _ h => h) (by rfl) (by intro y hy; go_simp) ?_
    try simp only [Act.put, List.setIfInBounds_toArray, List.set_cons_zero, List.set_cons_succ]
    refine anyH_one 18 (by kernel_rfl) ?_
    refine wpOp_step rfl (fun Kc hKc => ?_)
    go_simp
    refine hKc _ _ ⟨trivial, ?_⟩
    clear hKc Kc
    refine wpAnyH_done (by kernel_rfl) ?_ _
    go_upto_region 13 with (fail)
    refine wp_region_any (by kernel_rfl) ?_
    change wpAny _ _ _ _ _ _ _ (World.drew _)
    have K3aae : Hid (Below w9.heap.size w9 z3aa.drew) := K3aa.out.drew
    obtain ⟨z3aae, hze⟩ : ∃ z, z = z3aa.drew := ⟨_, rfl⟩
    rw [← hze] at K3aae ⊢
    clear hze
    refine wpAny_of_held (S := fun _ => True) _ _ _ _ ?_
    refine anyH_take 0 86 (.pointer (some ⟨gz, 0, none⟩)) trivial rfl (by kernel_rfl) (by kernel_rfl) (by kernel_rfl) (fun _ _ _ h => h) (by rfl) (by intro y hy; go_simp) ?_
    try simp only [Act.put, List.setIfInBounds_toArray, List.set_cons_zero, List.set_cons_succ]
    refine anyH_one 1 (by kernel_rfl) ?_
    refine wpOp_step rfl (fun Kc hKc => ?_)
    go_simp
    refine (HBZ1.out _ K3aae.out).mono ?_
    rintro e3aaa z3aaa ⟨rfl, hb⟩
    have K3aaa : Hid (Below w9.heap.size w9 z3aaa) := K3aae.out.trans (hb.mono K3aae.out.size)
    clear hb
    dsimp only
    refine hKc _ _ ⟨trivial, ?_⟩
    clear hKc Kc
    try simp only [Act.put, List.setIfInBounds_toArray, List.set_cons_zero, List.set_cons_succ]
    refine anyH_take 2 88 (.bool true) trivial rfl (by kernel_rfl) (by kernel_rfl) (by kernel_rfl) (fun _ _ _ h => h) (by rfl) (by intro y hy; go_simp) ?_
    try simp only [Act.put, List.setIfInBounds_toArray, List.set_cons_zero, List.set_cons_succ]
    refine anyH_take 4 90 (.agg Z33) trivial rfl (by kernel_rfl) (by kernel_rfl) (by kernel_rfl) (fun _ _ _ h => h) (by rfl) (fun y hy => exec_build0 26 Z33 Try.builtRef) ?_
    try simp only [Act.put, List.setIfInBounds_toArray, List.set_cons_zero, List.set_cons_succ]
    refine anyH_one 3 (by kernel_rfl) ?_
    refine op_load_g 3 26 (.tmp 8) rfl (by rfl) br 0 Z33.toList _ rfl (row_rng' (HGR.out _ K3aaa.out)) Try.underlying26 rfl (by rw [Array.length_toList]; exact hsR) ?_
    rw [Array.toArray_toList]
    refine ⟨trivial, ?_⟩
    try simp only [Act.put, List.setIfInBounds_toArray, List.set_cons_zero, List.set_cons_succ]
    refine anyH_take 5 91 (.bool true) trivial rfl (by kernel_rfl) (by kernel_rfl) (by kernel_rfl) (fun _ _ _ h => h) (by rfl) (by intro y hy; go_simp) ?_
    try simp only [Act.put, List.setIfInBounds_toArray, List.set_cons_zero, List.set_cons_succ]
    refine anyH_take 6 92 (.bool true) trivial rfl (by kernel_rfl) (by kernel_rfl) (by kernel_rfl) (fun _ _ _ h => h) (by rfl) (by intro y hy; go_simp) ?_
    try simp only [Act.put, List.setIfInBounds_toArray, List.set_cons_zero, List.set_cons_succ]
    refine anyH_take 7 93 (.bool true) trivial rfl (by kernel_rfl) (by kernel_rfl) (by kernel_rfl) (fun _ _ _ h => h) (by rfl) (by intro y hy; go_simp) ?_
    try simp only [Act.put, List.setIfInBounds_toArray, List.set_cons_zero, List.set_cons_succ]
    refine anyH_skip 8 94 trivial rfl (by kernel_rfl) (by kernel_rfl) (by kernel_rfl) (fun _ _ _ h => h) (by rfl) ?_
    try simp only [Act.put, List.setIfInBounds_toArray, List.set_cons_zero, List.set_cons_succ]
    refine anyH_skip 9 95 trivial rfl (by kernel_rfl) (by kernel_rfl) (by kernel_rfl) (fun _ _ _ h => h) (by rfl) ?_
    try simp only [Act.put, List.setIfInBounds_toArray, List.set_cons_zero, List.set_cons_succ]
    refine anyH_skip 10 96 trivial rfl (by kernel_rfl) (by kernel_rfl) (by kernel_rfl) (fun _ _ _ h => h) (by rfl) ?_
    try simp only [Act.put, List.setIfInBounds_toArray, List.set_cons_zero, List.set_cons_succ]
    refine anyH_skip 11 97 trivial rfl (by kernel_rfl) (by kernel_rfl) (by kernel_rfl) (fun _ _ _ h => h) (by rfl) ?_
    try simp only [Act.put, List.setIfInBounds_toArray, List.set_cons_zero, List.set_cons_succ]
    refine anyH_skip 12 98 trivial rfl (by kernel_rfl) (by kernel_rfl) (by kernel_rfl) (fun _ _ _ h => h) (by rfl) ?_
    try simp only [Act.put, List.setIfInBounds_toArray, List.set_cons_zero, List.set_cons_succ]
    refine anyH_skip 13 99 trivial rfl (by kernel_rfl) (by kernel_rfl) (by kernel_rfl) (fun _ _ _ h => h) (by rfl) ?_
    try simp only [Act.put, List.setIfInBounds_toArray, List.set_cons_zero, List.set_cons_succ]
    refine anyH_skip 14 100 trivial rfl (by kernel_rfl) (by kernel_rfl) (by kernel_rfl) (fun _ _ _ h => h) (by rfl) ?_
    try simp only [Act.put, List.setIfInBounds_toArray, List.set_cons_zero, List.set_cons_succ]
    refine anyH_skip 15 101 trivial rfl (by kernel_rfl) (by kernel_rfl) (by kernel_rfl) (fun _ _ _ h => h) (by rfl) ?_
    try simp only [Act.put, List.setIfInBounds_toArray, List.set_cons_zero, List.set_cons_succ]
    refine anyH_skip 16 102 trivial rfl (by kernel_rfl) (by kernel_rfl) (by kernel_rfl) (fun _ _ _ h => h) (by rfl) ?_
    try simp only [Act.put, List.setIfInBounds_toArray, List.set_cons_zero, List.set_cons_succ]
    refine anyH_skip 17 103 trivial rfl (by kernel_rfl) (by kernel_rfl) (by kernel_rfl) (fun _ _ _ h => h) (by rfl) ?_
    try simp only [Act.put, List.setIfInBounds_toArray, List.set_cons_zero, List.set_cons_succ]
    refine anyH_take 18 104 (.bool true) trivial rfl (by kernel_rfl) (by kernel_rfl) (by kernel_rfl) (fun _ _ _ h => h) (by rfl) (by intro y hy; go_simp) ?_
    try simp only [Act.put, List.setIfInBounds_toArray, List.set_cons_zero, List.set_cons_succ]
    refine anyH_one 19 (by kernel_rfl) ?_
    refine wpOp_step rfl (fun Kc hKc => ?_)
    go_simp
    refine hKc _ _ ⟨trivial, ?_⟩
    clear hKc Kc
    refine wpAnyH_done (by kernel_rfl) ?_ _
    go_wp2_with (go_at_call 9; refine (HK.out _).mono ?_; rintro e99 z99 ⟨rfl, hb99⟩)
    go_ret
    exact ⟨rfl, (W9.out.trans (K3aaa.out.mono W9.out.size)).trans (hb99.mono (W9.out.trans (K3aaa.out.mono W9.out.size)).size)⟩
  · have hb8 : decide (n < 8) = false := by simp; omega
    have hi8 : ¬ ((n : Int) < 8) := by omega
    have hb32 : decide (n < 32) = true := by simp; omega
    have hi32 : ((n : Int) < 32) := by omega
    have hb40 : decide (n < 40) = true := by simp; omega
    have hi40 : ((n : Int) < 40) := by omega
    have HBX1 : Hid (∀ y, Below w9.heap.size w9 y → Calls Try.prog 33 #[.pointer (some ⟨gx, 0, none⟩)] y (BadSay false y)) := fun y hy => by rw [← hb8]; exact HBX.out y hy
    have HBY1 : Hid (∀ y, Below w9.heap.size w9 y → Calls Try.prog 33 #[.pointer (some ⟨gy, 0, none⟩)] y (BadSay true y)) := fun y hy => by rw [← hb32]; exact HBYy.out y hy
    have HBZ1 : Hid (∀ y, Below w9.heap.size w9 y → Calls Try.prog 33 #[.pointer (some ⟨gz, 0, none⟩)] y (BadSay true y)) := fun y hy => by rw [← hb40]; exact HBZ.out y hy
    have HT8 : Hid ((L.take 8).length = 8) := by show _ = _; rw [List.length_take, HN.out]; omega
    have HIv : Hid (∀ y, Calls Try.prog 11 #[.slice none 0 0, .int .i64 v] y (RowOf (L.take 8) 8 y)) := fun y => by
      have h := int_any [] v none 0 0 8 rfl rfl (by omega) y (bs_none y)
      rw [List.nil_append, ← hv, Pk.e8_vi HBY.out (by have := HN.out; omega), hv] at h
      exact h
    obtain rfl : A = Z32 := by have h := HA.out; rw [← hS, Pk.vs_bad (by have := HN.out; omega), a32_zero] at h; cases h; rfl
    have HEQA : ∀ y, (Op.equalIn 10000 24 (.agg Z32) (.agg Z32)).run Try.prog y = .ok true y := fun y => by
      have h := a32_eq (List.replicate 32 0) (List.replicate 32 0) (by simp) (by simp) y
      rw [decide_eq_true rfl, a32_zero] at h
      exact h
    obtain rfl : R = Z33 := by have h := HR.out; rw [← hr, Pk.vr_bad (by have := HN.out; omega), r33_zero] at h; cases h; rfl
    have HEQR : ∀ y, (Op.equalIn 10000 26 (.agg Z33) (.agg Z33)).run Try.prog y = .ok true y := fun y => by
      have h := r33_eqs (0, List.replicate 32 0) (0, List.replicate 32 0) (by simp) (by simp) y
      rw [decide_eq_true rfl, r33_zero] at h
      exact h
    have hc8 : ¬ ((c : Int) < 8) ∨ n < 8 := by omega
    have hc32 : ¬ ((c : Int) < 32) ∨ n < 32 := by omega
    have hc40 : ¬ ((c : Int) < 40) ∨ n < 40 := by omega
    replace hc8 : ¬ ((c : Int) < 8) := by omega
    clear hc32
    clear hc40
    have K0 : Hid (Below w9.heap.size w9 w9) := Below.refl _ _
    go_upto_region 11 with (first
      | (go_at_call 33; refine (HBZ1.out _ K2.out).mono ?_; rintro e3 z3 ⟨rfl, hb3⟩; have K3 : Hid (Below w9.heap.size w9 z3) := K2.out.trans (hb3.mono K2.out.size); clear hb3)
      | (go_at_call 33; refine (HBY1.out _ K1.out).mono ?_; rintro e2 z2 ⟨rfl, hb2⟩; have K2 : Hid (Below w9.heap.size w9 z2) := K1.out.trans (hb2.mono K1.out.size); clear hb2)
      | (go_at_call 33; refine (HBX1.out _ K0.out).mono ?_; rintro e1 z1 ⟨rfl, hb1⟩; have K1 : Hid (Below w9.heap.size w9 z1) := K0.out.trans (hb1.mono K0.out.size); clear hb1))
    refine wp_region_any (by kernel_rfl) ?_
    change wpAny _ _ _ _ _ _ _ (World.drew _)
    have K3e : Hid (Below w9.heap.size w9 z3.drew) := K3.out.drew
    obtain ⟨z3e, hze⟩ : ∃ z, z = z3.drew := ⟨_, rfl⟩
    rw [← hze] at K3e ⊢
    clear hze
    refine wpAny_of_held (S := fun _ => True) _ _ _ _ ?_
    refine anyH_take 0 50 (.pointer (some ⟨gx, 0, none⟩)) trivial rfl (by kernel_rfl) (by kernel_rfl) (by kernel_rfl) (fun _ _ _ h => h) (by rfl) (by intro y hy; go_simp) ?_
    try simp only [Act.put, List.setIfInBounds_toArray, List.set_cons_zero, List.set_cons_succ]
    refine anyH_one 1 (by kernel_rfl) ?_
    refine wpOp_step rfl (fun Kc hKc => ?_)
    go_simp
    refine (HBX1.out _ K3e.out).mono ?_
    rintro e3a z3a ⟨rfl, hb⟩
    have K3a : Hid (Below w9.heap.size w9 z3a) := K3e.out.trans (hb.mono K3e.out.size)
    clear hb
    dsimp only
    refine hKc _ _ ⟨trivial, ?_⟩
    clear hKc Kc
    try simp only [Act.put, List.setIfInBounds_toArray, List.set_cons_zero, List.set_cons_succ]
    refine anyH_take 2 52 (.bool false) trivial rfl (by kernel_rfl) (by kernel_rfl) (by kernel_rfl) (fun _ _ _ h => h) (by rfl) (by intro y hy; go_simp) ?_
    try simp only [Act.put, List.setIfInBounds_toArray, List.set_cons_zero, List.set_cons_succ]
    refine anyH_skip 3 53 trivial rfl (by kernel_rfl) (by kernel_rfl) (by kernel_rfl) (fun _ _ _ h => h) (by rfl) ?_
    try simp only [Act.put, List.setIfInBounds_toArray, List.set_cons_zero, List.set_cons_succ]
    refine anyH_skip 4 54 trivial rfl (by kernel_rfl) (by kernel_rfl) (by kernel_rfl) (fun _ _ _ h => h) (by rfl) ?_
    try simp only [Act.put, List.setIfInBounds_toArray, List.set_cons_zero, List.set_cons_succ]
    refine anyH_take 5 55 (.bool false) trivial rfl (by kernel_rfl) (by kernel_rfl) (by kernel_rfl) (fun _ _ _ h => h) (by rfl) (by intro y hy; go_simp) ?_
    try simp only [Act.put, List.setIfInBounds_toArray, List.set_cons_zero, List.set_cons_succ]
    refine anyH_take 6 56 (.bool false) trivial rfl (by kernel_rfl) (by kernel_rfl) (by kernel_rfl) (fun _ _ _ h => h) (by rfl) (by intro y hy; go_simp) ?_
    try simp only [Act.put, List.setIfInBounds_toArray, List.set_cons_zero, List.set_cons_succ]
    refine anyH_take 7 57 (.pointer (some ⟨gx, 0, none⟩)) trivial rfl (by kernel_rfl) (by kernel_rfl) (by kernel_rfl) (fun _ _ _ h => h) (by rfl) (by intro y hy; go_simp) ?_
    try simp only [Act.put, List.setIfInBounds_toArray, List.set_cons_zero, List.set_cons_succ]
    refine anyH_one 8 (by kernel_rfl) ?_
    refine wpOp_step rfl (fun Kc hKc => ?_)
    go_simp
    refine (HBX1.out _ K3a.out).mono ?_
    rintro e3b z3b ⟨rfl, hb⟩
    have K3b : Hid (Below w9.heap.size w9 z3b) := K3a.out.trans (hb.mono K3a.out.size)
    clear hb
    dsimp only
    refine hKc _ _ ⟨trivial, ?_⟩
    clear hKc Kc
    try simp only [Act.put, List.setIfInBounds_toArray, List.set_cons_zero, List.set_cons_succ]
    refine anyH_take 9 59 (.bool true) trivial rfl (by kernel_rfl) (by kernel_rfl) (by kernel_rfl) (fun _ _ _ h => h) (by rfl) (by intro y hy; go_simp) ?_
    try simp only [Act.put, List.setIfInBounds_toArray, List.set_cons_zero, List.set_cons_succ]
    refine anyH_take 10 60 (.bool true) trivial rfl (by kernel_rfl) (by kernel_rfl) (by kernel_rfl) (fun _ _ _ h => h) (by rfl) (by intro y hy; go_simp) ?_
    try simp only [Act.put, List.setIfInBounds_toArray, List.set_cons_zero, List.set_cons_succ]
    refine anyH_take 11 61 (.int .i64 v) trivial rfl (by kernel_rfl) (by kernel_rfl) (by kernel_rfl) (fun _ _ _ h => h) (by rfl) (by intro y hy; go_simp) ?_
    try simp only [Act.put, List.setIfInBounds_toArray, List.set_cons_zero, List.set_cons_succ]
    refine anyH_take 13 63 (.slice p n c) trivial rfl (by kernel_rfl) (by kernel_rfl) (by kernel_rfl) (fun _ _ _ h => h) (by rfl) (by intro y hy; go_simp) ?_
    try simp only [Act.put, List.setIfInBounds_toArray, List.set_cons_zero, List.set_cons_succ]
    refine anyH_take 14 64 (.slice p 8 c) trivial rfl (by kernel_rfl) (by kernel_rfl) (by kernel_rfl) (fun _ _ _ h => h) (by rfl) (by intro y hy; go_simp) ?_
    try simp only [Act.put, List.setIfInBounds_toArray, List.set_cons_zero, List.set_cons_succ]
    refine anyH_one 12 (by kernel_rfl) ?_
    refine wpOp_step rfl (fun Kc hKc => ?_)
    go_simp
    refine (HIv.out _).mono ?_
    rintro e3c z3c ⟨pc, cc, rfl, _, BC, hb⟩
    have K3c : Hid (Below w9.heap.size w9 z3c) := K3b.out.trans (hb.out.mono K3b.out.size)
    clear hb
    dsimp only
    refine hKc _ _ ⟨trivial, ?_⟩
    clear hKc Kc
    try simp only [Act.put, List.setIfInBounds_toArray, List.set_cons_zero, List.set_cons_succ]
    refine anyH_one 15 (by kernel_rfl) ?_
    refine wpOp_step rfl (fun Kc hKc => ?_)
    go_simp
    refine (samen_any (L.take 8) 8 HT8.out (by omega) pc p cc c _ BC.out ((HPP.out _ K3c.out).take 8)).mono ?_
    rintro e3d z3d ⟨rfl, hb⟩
    have K3g : Hid (Below w9.heap.size w9 z3d) := K3c.out.trans (hb.mono K3c.out.size)
    clear hb
    dsimp only
    refine hKc _ _ ⟨trivial, ?_⟩
    clear hKc Kc
    try simp only [Act.put, List.setIfInBounds_toArray, List.set_cons_zero, List.set_cons_succ]
    refine anyH_take 16 66 (.bool true) trivial rfl (by kernel_rfl) (by kernel_rfl) (by kernel_rfl) (fun _ _ _ h => h) (by rfl) (by intro y hy; go_simp) ?_
    try simp only [Act.put, List.setIfInBounds_toArray, List.set_cons_zero, List.set_cons_succ]
    refine anyH_take 17 67 (.bool true) trivial rfl (by kernel_rfl) (by kernel_rfl) (by kernel_rfl) (fun _ _ _ h => h) (by rfl) (by intro y hy; go_simp) ?_
    try simp only [Act.put, List.setIfInBounds_toArray, List.set_cons_zero, List.set_cons_succ]
    refine anyH_one 18 (by kernel_rfl) ?_
    refine wpOp_step rfl (fun Kc hKc => ?_)
    go_simp
    refine hKc _ _ ⟨trivial, ?_⟩
    clear hKc Kc
    refine wpAnyH_done (by kernel_rfl) ?_ _
    have K3d := K3g
    go_upto_region 12 with (fail)
    refine wp_region_any (by kernel_rfl) ?_
    change wpAny _ _ _ _ _ _ _ (World.drew _)
    have K3de : Hid (Below w9.heap.size w9 z3d.drew) := K3d.out.drew
    obtain ⟨z3de, hze⟩ : ∃ z, z = z3d.drew := ⟨_, rfl⟩
    rw [← hze] at K3de ⊢
    clear hze
    refine wpAny_of_held (S := fun _ => True) _ _ _ _ ?_
    refine anyH_take 0 68 (.pointer (some ⟨gy, 0, none⟩)) trivial rfl (by kernel_rfl) (by kernel_rfl) (by kernel_rfl) (fun _ _ _ h => h) (by rfl) (by intro y hy; go_simp) ?_
    try simp only [Act.put, List.setIfInBounds_toArray, List.set_cons_zero, List.set_cons_succ]
    refine anyH_one 1 (by kernel_rfl) ?_
    refine wpOp_step rfl (fun Kc hKc => ?_)
    go_simp
    refine (HBY1.out _ K3de.out).mono ?_
    rintro e3da z3da ⟨rfl, hb⟩
    have K3da : Hid (Below w9.heap.size w9 z3da) := K3de.out.trans (hb.mono K3de.out.size)
    clear hb
    dsimp only
    refine hKc _ _ ⟨trivial, ?_⟩
    clear hKc Kc
    try simp only [Act.put, List.setIfInBounds_toArray, List.set_cons_zero, List.set_cons_succ]
    refine anyH_take 2 70 (.bool true) trivial rfl (by kernel_rfl) (by kernel_rfl) (by kernel_rfl) (fun _ _ _ h => h) (by rfl) (by intro y hy; go_simp) ?_
    try simp only [Act.put, List.setIfInBounds_toArray, List.set_cons_zero, List.set_cons_succ]
    refine anyH_take 4 72 (.agg Z32) trivial rfl (by kernel_rfl) (by kernel_rfl) (by kernel_rfl) (fun _ _ _ h => h) (by rfl) (fun y hy => exec_build0 24 Z32 Try.builtSum) ?_
    try simp only [Act.put, List.setIfInBounds_toArray, List.set_cons_zero, List.set_cons_succ]
    refine anyH_one 3 (by kernel_rfl) ?_
    refine op_load_g 3 24 (.tmp 6) rfl (by rfl) bs 0 Z32.toList _ rfl (row_rng' (HGA.out _ K3da.out)) Try.underlying24 rfl (by rw [Array.length_toList]; exact hsA) ?_
    rw [Array.toArray_toList]
    refine ⟨trivial, ?_⟩
    try simp only [Act.put, List.setIfInBounds_toArray, List.set_cons_zero, List.set_cons_succ]
    refine anyH_take 5 73 (.bool true) trivial rfl (by kernel_rfl) (by kernel_rfl) (by kernel_rfl) (fun _ _ _ h => h) (by rfl) (by intro y hy; go_simp) ?_
    try simp only [Act.put, List.setIfInBounds_toArray, List.set_cons_zero, List.set_cons_succ]
    refine anyH_take 6 74 (.bool true) trivial rfl (by kernel_rfl) (by kernel_rfl) (by kernel_rfl) (fun _ _ _ h => h) (by rfl) (by intro y hy; go_simp) ?_
    try simp only [Act.put, List.setIfInBounds_toArray, List.set_cons_zero, List.set_cons_succ]
    refine anyH_take 7 75 (.bool true) trivial rfl (by kernel_rfl) (by kernel_rfl) (by kernel_rfl) (fun _ _ _ h => h) (by rfl) (by intro y hy; go_simp) ?_
    try simp only [Act.put, List.setIfInBounds_toArray, List.set_cons_zero, List.set_cons_succ]
    refine anyH_skip 8 76 trivial rfl (by kernel_rfl) (by kernel_rfl) (by kernel_rfl) (fun _ _ _ h => h) (by rfl) ?_
    try simp only [Act.put, List.setIfInBounds_toArray, List.set_cons_zero, List.set_cons_succ]
    refine anyH_skip 9 77 trivial rfl (by kernel_rfl) (by kernel_rfl) (by kernel_rfl) (fun _ _ _ h => h) (by rfl) ?_
    try simp only [Act.put, List.setIfInBounds_toArray, List.set_cons_zero, List.set_cons_succ]
    refine anyH_skip 10 78 trivial rfl (by kernel_rfl) (by kernel_rfl) (by kernel_rfl) (fun _ _ _ h => h) (by rfl) ?_
    try simp only [Act.put, List.setIfInBounds_toArray, List.set_cons_zero, List.set_cons_succ]
    refine anyH_skip 11 79 trivial rfl (by kernel_rfl) (by kernel_rfl) (by kernel_rfl) (fun _ _ _ h => h) (by rfl) ?_
    try simp only [Act.put, List.setIfInBounds_toArray, List.set_cons_zero, List.set_cons_succ]
    refine anyH_skip 12 80 trivial rfl (by kernel_rfl) (by kernel_rfl) (by kernel_rfl) (fun _ _ _ h => h) (by rfl) ?_
    try simp only [Act.put, List.setIfInBounds_toArray, List.set_cons_zero, List.set_cons_succ]
    refine anyH_skip 13 81 trivial rfl (by kernel_rfl) (by kernel_rfl) (by kernel_rfl) (fun _ _ _ h => h) (by rfl) ?_
    try simp only [Act.put, List.setIfInBounds_toArray, List.set_cons_zero, List.set_cons_succ]
    refine anyH_skip 14 82 trivial rfl (by kernel_rfl) (by kernel_rfl) (by kernel_rfl) (fun _ _ _ h => h) (by rfl) ?_
    try simp only [Act.put, List.setIfInBounds_toArray, List.set_cons_zero, List.set_cons_succ]
    refine anyH_skip 15 83 trivial rfl (by kernel_rfl) (by kernel_rfl) (by kernel_rfl) (fun _ _ _ h => h) (by rfl) ?_
    try simp only [Act.put, List.setIfInBounds_toArray, List.set_cons_zero, List.set_cons_succ]
    refine anyH_skip 16 84 trivial rfl (by kernel_rfl) (by kernel_rfl) (by kernel_rfl) (fun _ _ _ h => h) (by rfl) ?_
    try simp only [Act.put, List.setIfInBounds_toArray, List.set_cons_zero, List.set_cons_succ]
    refine anyH_take 17 85 (.bool true) trivial rfl (by kernel_rfl) (by kernel_rfl) (by kernel_rfl) (fun _ _ _ h => h) (by rfl) (by intro y hy; go_simp) ?_
    try simp only [Act.put, List.setIfInBounds_toArray, List.set_cons_zero, List.set_cons_succ]
    refine anyH_one 18 (by kernel_rfl) ?_
    refine wpOp_step rfl (fun Kc hKc => ?_)
    go_simp
    refine hKc _ _ ⟨trivial, ?_⟩
    clear hKc Kc
    refine wpAnyH_done (by kernel_rfl) ?_ _
    go_upto_region 13 with (fail)
    refine wp_region_any (by kernel_rfl) ?_
    change wpAny _ _ _ _ _ _ _ (World.drew _)
    have K3dae : Hid (Below w9.heap.size w9 z3da.drew) := K3da.out.drew
    obtain ⟨z3dae, hze⟩ : ∃ z, z = z3da.drew := ⟨_, rfl⟩
    rw [← hze] at K3dae ⊢
    clear hze
    refine wpAny_of_held (S := fun _ => True) _ _ _ _ ?_
    refine anyH_take 0 86 (.pointer (some ⟨gz, 0, none⟩)) trivial rfl (by kernel_rfl) (by kernel_rfl) (by kernel_rfl) (fun _ _ _ h => h) (by rfl) (by intro y hy; go_simp) ?_
    try simp only [Act.put, List.setIfInBounds_toArray, List.set_cons_zero, List.set_cons_succ]
    refine anyH_one 1 (by kernel_rfl) ?_
    refine wpOp_step rfl (fun Kc hKc => ?_)
    go_simp
    refine (HBZ1.out _ K3dae.out).mono ?_
    rintro e3daa z3daa ⟨rfl, hb⟩
    have K3daa : Hid (Below w9.heap.size w9 z3daa) := K3dae.out.trans (hb.mono K3dae.out.size)
    clear hb
    dsimp only
    refine hKc _ _ ⟨trivial, ?_⟩
    clear hKc Kc
    try simp only [Act.put, List.setIfInBounds_toArray, List.set_cons_zero, List.set_cons_succ]
    refine anyH_take 2 88 (.bool true) trivial rfl (by kernel_rfl) (by kernel_rfl) (by kernel_rfl) (fun _ _ _ h => h) (by rfl) (by intro y hy; go_simp) ?_
    try simp only [Act.put, List.setIfInBounds_toArray, List.set_cons_zero, List.set_cons_succ]
    refine anyH_take 4 90 (.agg Z33) trivial rfl (by kernel_rfl) (by kernel_rfl) (by kernel_rfl) (fun _ _ _ h => h) (by rfl) (fun y hy => exec_build0 26 Z33 Try.builtRef) ?_
    try simp only [Act.put, List.setIfInBounds_toArray, List.set_cons_zero, List.set_cons_succ]
    refine anyH_one 3 (by kernel_rfl) ?_
    refine op_load_g 3 26 (.tmp 8) rfl (by rfl) br 0 Z33.toList _ rfl (row_rng' (HGR.out _ K3daa.out)) Try.underlying26 rfl (by rw [Array.length_toList]; exact hsR) ?_
    rw [Array.toArray_toList]
    refine ⟨trivial, ?_⟩
    try simp only [Act.put, List.setIfInBounds_toArray, List.set_cons_zero, List.set_cons_succ]
    refine anyH_take 5 91 (.bool true) trivial rfl (by kernel_rfl) (by kernel_rfl) (by kernel_rfl) (fun _ _ _ h => h) (by rfl) (by intro y hy; go_simp) ?_
    try simp only [Act.put, List.setIfInBounds_toArray, List.set_cons_zero, List.set_cons_succ]
    refine anyH_take 6 92 (.bool true) trivial rfl (by kernel_rfl) (by kernel_rfl) (by kernel_rfl) (fun _ _ _ h => h) (by rfl) (by intro y hy; go_simp) ?_
    try simp only [Act.put, List.setIfInBounds_toArray, List.set_cons_zero, List.set_cons_succ]
    refine anyH_take 7 93 (.bool true) trivial rfl (by kernel_rfl) (by kernel_rfl) (by kernel_rfl) (fun _ _ _ h => h) (by rfl) (by intro y hy; go_simp) ?_
    try simp only [Act.put, List.setIfInBounds_toArray, List.set_cons_zero, List.set_cons_succ]
    refine anyH_skip 8 94 trivial rfl (by kernel_rfl) (by kernel_rfl) (by kernel_rfl) (fun _ _ _ h => h) (by rfl) ?_
    try simp only [Act.put, List.setIfInBounds_toArray, List.set_cons_zero, List.set_cons_succ]
    refine anyH_skip 9 95 trivial rfl (by kernel_rfl) (by kernel_rfl) (by kernel_rfl) (fun _ _ _ h => h) (by rfl) ?_
    try simp only [Act.put, List.setIfInBounds_toArray, List.set_cons_zero, List.set_cons_succ]
    refine anyH_skip 10 96 trivial rfl (by kernel_rfl) (by kernel_rfl) (by kernel_rfl) (fun _ _ _ h => h) (by rfl) ?_
    try simp only [Act.put, List.setIfInBounds_toArray, List.set_cons_zero, List.set_cons_succ]
    refine anyH_skip 11 97 trivial rfl (by kernel_rfl) (by kernel_rfl) (by kernel_rfl) (fun _ _ _ h => h) (by rfl) ?_
    try simp only [Act.put, List.setIfInBounds_toArray, List.set_cons_zero, List.set_cons_succ]
    refine anyH_skip 12 98 trivial rfl (by kernel_rfl) (by kernel_rfl) (by kernel_rfl) (fun _ _ _ h => h) (by rfl) ?_
    try simp only [Act.put, List.setIfInBounds_toArray, List.set_cons_zero, List.set_cons_succ]
    refine anyH_skip 13 99 trivial rfl (by kernel_rfl) (by kernel_rfl) (by kernel_rfl) (fun _ _ _ h => h) (by rfl) ?_
    try simp only [Act.put, List.setIfInBounds_toArray, List.set_cons_zero, List.set_cons_succ]
    refine anyH_skip 14 100 trivial rfl (by kernel_rfl) (by kernel_rfl) (by kernel_rfl) (fun _ _ _ h => h) (by rfl) ?_
    try simp only [Act.put, List.setIfInBounds_toArray, List.set_cons_zero, List.set_cons_succ]
    refine anyH_skip 15 101 trivial rfl (by kernel_rfl) (by kernel_rfl) (by kernel_rfl) (fun _ _ _ h => h) (by rfl) ?_
    try simp only [Act.put, List.setIfInBounds_toArray, List.set_cons_zero, List.set_cons_succ]
    refine anyH_skip 16 102 trivial rfl (by kernel_rfl) (by kernel_rfl) (by kernel_rfl) (fun _ _ _ h => h) (by rfl) ?_
    try simp only [Act.put, List.setIfInBounds_toArray, List.set_cons_zero, List.set_cons_succ]
    refine anyH_skip 17 103 trivial rfl (by kernel_rfl) (by kernel_rfl) (by kernel_rfl) (fun _ _ _ h => h) (by rfl) ?_
    try simp only [Act.put, List.setIfInBounds_toArray, List.set_cons_zero, List.set_cons_succ]
    refine anyH_take 18 104 (.bool true) trivial rfl (by kernel_rfl) (by kernel_rfl) (by kernel_rfl) (fun _ _ _ h => h) (by rfl) (by intro y hy; go_simp) ?_
    try simp only [Act.put, List.setIfInBounds_toArray, List.set_cons_zero, List.set_cons_succ]
    refine anyH_one 19 (by kernel_rfl) ?_
    refine wpOp_step rfl (fun Kc hKc => ?_)
    go_simp
    refine hKc _ _ ⟨trivial, ?_⟩
    clear hKc Kc
    refine wpAnyH_done (by kernel_rfl) ?_ _
    go_wp2_with (go_at_call 9; refine (HK.out _).mono ?_; rintro e99 z99 ⟨rfl, hb99⟩)
    go_ret
    exact ⟨rfl, (W9.out.trans (K3daa.out.mono W9.out.size)).trans (hb99.mono (W9.out.trans (K3daa.out.mono W9.out.size)).size)⟩
  · have hb8 : decide (n < 8) = false := by simp; omega
    have hi8 : ¬ ((n : Int) < 8) := by omega
    have hb32 : decide (n < 32) = false := by simp; omega
    have hi32 : ¬ ((n : Int) < 32) := by omega
    have hb40 : decide (n < 40) = true := by simp; omega
    have hi40 : ((n : Int) < 40) := by omega
    have HBX1 : Hid (∀ y, Below w9.heap.size w9 y → Calls Try.prog 33 #[.pointer (some ⟨gx, 0, none⟩)] y (BadSay false y)) := fun y hy => by rw [← hb8]; exact HBX.out y hy
    have HBY1 : Hid (∀ y, Below w9.heap.size w9 y → Calls Try.prog 33 #[.pointer (some ⟨gy, 0, none⟩)] y (BadSay false y)) := fun y hy => by rw [← hb32]; exact HBYy.out y hy
    have HBZ1 : Hid (∀ y, Below w9.heap.size w9 y → Calls Try.prog 33 #[.pointer (some ⟨gz, 0, none⟩)] y (BadSay true y)) := fun y hy => by rw [← hb40]; exact HBZ.out y hy
    have HT8 : Hid ((L.take 8).length = 8) := by show _ = _; rw [List.length_take, HN.out]; omega
    have HIv : Hid (∀ y, Calls Try.prog 11 #[.slice none 0 0, .int .i64 v] y (RowOf (L.take 8) 8 y)) := fun y => by
      have h := int_any [] v none 0 0 8 rfl rfl (by omega) y (bs_none y)
      rw [List.nil_append, ← hv, Pk.e8_vi HBY.out (by have := HN.out; omega), hv] at h
      exact h
    have HS32 : Hid (S = L.take 32) := by show _ = _; rw [← hS]; exact Pk.vs_good (by have := HN.out; omega)
    have HSB : Hid (∀ y, Below w9.heap.size w9 y → Bs y (some ⟨bs, 0, none⟩) 32 S) := fun y hy => by
      have h := HGA.out y hy
      have e := HA.out
      unfold A32 at e
      cases e
      exact bs_row (bat_row h HSL.out.2) ⟨by rw [HSL.out.1]; omega, by omega⟩
    obtain rfl : R = Z33 := by have h := HR.out; rw [← hr, Pk.vr_bad (by have := HN.out; omega), r33_zero] at h; cases h; rfl
    have HEQR : ∀ y, (Op.equalIn 10000 26 (.agg Z33) (.agg Z33)).run Try.prog y = .ok true y := fun y => by
      have h := r33_eqs (0, List.replicate 32 0) (0, List.replicate 32 0) (by simp) (by simp) y
      rw [decide_eq_true rfl, r33_zero] at h
      exact h
    have hc8 : ¬ ((c : Int) < 8) ∨ n < 8 := by omega
    have hc32 : ¬ ((c : Int) < 32) ∨ n < 32 := by omega
    have hc40 : ¬ ((c : Int) < 40) ∨ n < 40 := by omega
    replace hc8 : ¬ ((c : Int) < 8) := by omega
    replace hc32 : ¬ ((c : Int) < 32) := by omega
    clear hc40
    have K0 : Hid (Below w9.heap.size w9 w9) := Below.refl _ _
    go_upto_region 11 with (first
      | (go_at_call 33; refine (HBZ1.out _ K2.out).mono ?_; rintro e3 z3 ⟨rfl, hb3⟩; have K3 : Hid (Below w9.heap.size w9 z3) := K2.out.trans (hb3.mono K2.out.size); clear hb3)
      | (go_at_call 33; refine (HBY1.out _ K1.out).mono ?_; rintro e2 z2 ⟨rfl, hb2⟩; have K2 : Hid (Below w9.heap.size w9 z2) := K1.out.trans (hb2.mono K1.out.size); clear hb2)
      | (go_at_call 33; refine (HBX1.out _ K0.out).mono ?_; rintro e1 z1 ⟨rfl, hb1⟩; have K1 : Hid (Below w9.heap.size w9 z1) := K0.out.trans (hb1.mono K0.out.size); clear hb1))
    refine wp_region_any (by kernel_rfl) ?_
    change wpAny _ _ _ _ _ _ _ (World.drew _)
    have K3e : Hid (Below w9.heap.size w9 z3.drew) := K3.out.drew
    obtain ⟨z3e, hze⟩ : ∃ z, z = z3.drew := ⟨_, rfl⟩
    rw [← hze] at K3e ⊢
    clear hze
    refine wpAny_of_held (S := fun _ => True) _ _ _ _ ?_
    refine anyH_take 0 50 (.pointer (some ⟨gx, 0, none⟩)) trivial rfl (by kernel_rfl) (by kernel_rfl) (by kernel_rfl) (fun _ _ _ h => h) (by rfl) (by intro y hy; go_simp) ?_
    try simp only [Act.put, List.setIfInBounds_toArray, List.set_cons_zero, List.set_cons_succ]
    refine anyH_one 1 (by kernel_rfl) ?_
    refine wpOp_step rfl (fun Kc hKc => ?_)
    go_simp
    refine (HBX1.out _ K3e.out).mono ?_
    rintro e3a z3a ⟨rfl, hb⟩
    have K3a : Hid (Below w9.heap.size w9 z3a) := K3e.out.trans (hb.mono K3e.out.size)
    clear hb
    dsimp only
    refine hKc _ _ ⟨trivial, ?_⟩
    clear hKc Kc
    try simp only [Act.put, List.setIfInBounds_toArray, List.set_cons_zero, List.set_cons_succ]
    refine anyH_take 2 52 (.bool false) trivial rfl (by kernel_rfl) (by kernel_rfl) (by kernel_rfl) (fun _ _ _ h => h) (by rfl) (by intro y hy; go_simp) ?_
    try simp only [Act.put, List.setIfInBounds_toArray, List.set_cons_zero, List.set_cons_succ]
    refine anyH_skip 3 53 trivial rfl (by kernel_rfl) (by kernel_rfl) (by kernel_rfl) (fun _ _ _ h => h) (by rfl) ?_
    try simp only [Act.put, List.setIfInBounds_toArray, List.set_cons_zero, List.set_cons_succ]
    refine anyH_skip 4 54 trivial rfl (by kernel_rfl) (by kernel_rfl) (by kernel_rfl) (fun _ _ _ h => h) (by rfl) ?_
    try simp only [Act.put, List.setIfInBounds_toArray, List.set_cons_zero, List.set_cons_succ]
    refine anyH_take 5 55 (.bool false) trivial rfl (by kernel_rfl) (by kernel_rfl) (by kernel_rfl) (fun _ _ _ h => h) (by rfl) (by intro y hy; go_simp) ?_
    try simp only [Act.put, List.setIfInBounds_toArray, List.set_cons_zero, List.set_cons_succ]
    refine anyH_take 6 56 (.bool false) trivial rfl (by kernel_rfl) (by kernel_rfl) (by kernel_rfl) (fun _ _ _ h => h) (by rfl) (by intro y hy; go_simp) ?_
    try simp only [Act.put, List.setIfInBounds_toArray, List.set_cons_zero, List.set_cons_succ]
    refine anyH_take 7 57 (.pointer (some ⟨gx, 0, none⟩)) trivial rfl (by kernel_rfl) (by kernel_rfl) (by kernel_rfl) (fun _ _ _ h => h) (by rfl) (by intro y hy; go_simp) ?_
    try simp only [Act.put, List.setIfInBounds_toArray, List.set_cons_zero, List.set_cons_succ]
    refine anyH_one 8 (by kernel_rfl) ?_
    refine wpOp_step rfl (fun Kc hKc => ?_)
    go_simp
    refine (HBX1.out _ K3a.out).mono ?_
    rintro e3b z3b ⟨rfl, hb⟩
    have K3b : Hid (Below w9.heap.size w9 z3b) := K3a.out.trans (hb.mono K3a.out.size)
    clear hb
    dsimp only
    refine hKc _ _ ⟨trivial, ?_⟩
    clear hKc Kc
    try simp only [Act.put, List.setIfInBounds_toArray, List.set_cons_zero, List.set_cons_succ]
    refine anyH_take 9 59 (.bool true) trivial rfl (by kernel_rfl) (by kernel_rfl) (by kernel_rfl) (fun _ _ _ h => h) (by rfl) (by intro y hy; go_simp) ?_
    try simp only [Act.put, List.setIfInBounds_toArray, List.set_cons_zero, List.set_cons_succ]
    refine anyH_take 10 60 (.bool true) trivial rfl (by kernel_rfl) (by kernel_rfl) (by kernel_rfl) (fun _ _ _ h => h) (by rfl) (by intro y hy; go_simp) ?_
    try simp only [Act.put, List.setIfInBounds_toArray, List.set_cons_zero, List.set_cons_succ]
    refine anyH_take 11 61 (.int .i64 v) trivial rfl (by kernel_rfl) (by kernel_rfl) (by kernel_rfl) (fun _ _ _ h => h) (by rfl) (by intro y hy; go_simp) ?_
    try simp only [Act.put, List.setIfInBounds_toArray, List.set_cons_zero, List.set_cons_succ]
    refine anyH_take 13 63 (.slice p n c) trivial rfl (by kernel_rfl) (by kernel_rfl) (by kernel_rfl) (fun _ _ _ h => h) (by rfl) (by intro y hy; go_simp) ?_
    try simp only [Act.put, List.setIfInBounds_toArray, List.set_cons_zero, List.set_cons_succ]
    refine anyH_take 14 64 (.slice p 8 c) trivial rfl (by kernel_rfl) (by kernel_rfl) (by kernel_rfl) (fun _ _ _ h => h) (by rfl) (by intro y hy; go_simp) ?_
    try simp only [Act.put, List.setIfInBounds_toArray, List.set_cons_zero, List.set_cons_succ]
    refine anyH_one 12 (by kernel_rfl) ?_
    refine wpOp_step rfl (fun Kc hKc => ?_)
    go_simp
    refine (HIv.out _).mono ?_
    rintro e3c z3c ⟨pc, cc, rfl, _, BC, hb⟩
    have K3c : Hid (Below w9.heap.size w9 z3c) := K3b.out.trans (hb.out.mono K3b.out.size)
    clear hb
    dsimp only
    refine hKc _ _ ⟨trivial, ?_⟩
    clear hKc Kc
    try simp only [Act.put, List.setIfInBounds_toArray, List.set_cons_zero, List.set_cons_succ]
    refine anyH_one 15 (by kernel_rfl) ?_
    refine wpOp_step rfl (fun Kc hKc => ?_)
    go_simp
    refine (samen_any (L.take 8) 8 HT8.out (by omega) pc p cc c _ BC.out ((HPP.out _ K3c.out).take 8)).mono ?_
    rintro e3d z3d ⟨rfl, hb⟩
    have K3g : Hid (Below w9.heap.size w9 z3d) := K3c.out.trans (hb.mono K3c.out.size)
    clear hb
    dsimp only
    refine hKc _ _ ⟨trivial, ?_⟩
    clear hKc Kc
    try simp only [Act.put, List.setIfInBounds_toArray, List.set_cons_zero, List.set_cons_succ]
    refine anyH_take 16 66 (.bool true) trivial rfl (by kernel_rfl) (by kernel_rfl) (by kernel_rfl) (fun _ _ _ h => h) (by rfl) (by intro y hy; go_simp) ?_
    try simp only [Act.put, List.setIfInBounds_toArray, List.set_cons_zero, List.set_cons_succ]
    refine anyH_take 17 67 (.bool true) trivial rfl (by kernel_rfl) (by kernel_rfl) (by kernel_rfl) (fun _ _ _ h => h) (by rfl) (by intro y hy; go_simp) ?_
    try simp only [Act.put, List.setIfInBounds_toArray, List.set_cons_zero, List.set_cons_succ]
    refine anyH_one 18 (by kernel_rfl) ?_
    refine wpOp_step rfl (fun Kc hKc => ?_)
    go_simp
    refine hKc _ _ ⟨trivial, ?_⟩
    clear hKc Kc
    refine wpAnyH_done (by kernel_rfl) ?_ _
    have K3d := K3g
    go_upto_region 12 with (fail)
    refine wp_region_any (by kernel_rfl) ?_
    change wpAny _ _ _ _ _ _ _ (World.drew _)
    have K3de : Hid (Below w9.heap.size w9 z3d.drew) := K3d.out.drew
    obtain ⟨z3de, hze⟩ : ∃ z, z = z3d.drew := ⟨_, rfl⟩
    rw [← hze] at K3de ⊢
    clear hze
    refine wpAny_of_held (S := fun _ => True) _ _ _ _ ?_
    refine anyH_take 0 68 (.pointer (some ⟨gy, 0, none⟩)) trivial rfl (by kernel_rfl) (by kernel_rfl) (by kernel_rfl) (fun _ _ _ h => h) (by rfl) (by intro y hy; go_simp) ?_
    try simp only [Act.put, List.setIfInBounds_toArray, List.set_cons_zero, List.set_cons_succ]
    refine anyH_one 1 (by kernel_rfl) ?_
    refine wpOp_step rfl (fun Kc hKc => ?_)
    go_simp
    refine (HBY1.out _ K3de.out).mono ?_
    rintro e3da z3da ⟨rfl, hb⟩
    have K3da : Hid (Below w9.heap.size w9 z3da) := K3de.out.trans (hb.mono K3de.out.size)
    clear hb
    dsimp only
    refine hKc _ _ ⟨trivial, ?_⟩
    clear hKc Kc
    try simp only [Act.put, List.setIfInBounds_toArray, List.set_cons_zero, List.set_cons_succ]
    refine anyH_take 2 70 (.bool false) trivial rfl (by kernel_rfl) (by kernel_rfl) (by kernel_rfl) (fun _ _ _ h => h) (by rfl) (by intro y hy; go_simp) ?_
    try simp only [Act.put, List.setIfInBounds_toArray, List.set_cons_zero, List.set_cons_succ]
    refine anyH_skip 3 71 trivial rfl (by kernel_rfl) (by kernel_rfl) (by kernel_rfl) (fun _ _ _ h => h) (by rfl) ?_
    try simp only [Act.put, List.setIfInBounds_toArray, List.set_cons_zero, List.set_cons_succ]
    refine anyH_skip 4 72 trivial rfl (by kernel_rfl) (by kernel_rfl) (by kernel_rfl) (fun _ _ _ h => h) (by rfl) ?_
    try simp only [Act.put, List.setIfInBounds_toArray, List.set_cons_zero, List.set_cons_succ]
    refine anyH_skip 5 73 trivial rfl (by kernel_rfl) (by kernel_rfl) (by kernel_rfl) (fun _ _ _ h => h) (by rfl) ?_
    try simp only [Act.put, List.setIfInBounds_toArray, List.set_cons_zero, List.set_cons_succ]
    refine anyH_take 6 74 (.bool false) trivial rfl (by kernel_rfl) (by kernel_rfl) (by kernel_rfl) (fun _ _ _ h => h) (by rfl) (by intro y hy; go_simp) ?_
    try simp only [Act.put, List.setIfInBounds_toArray, List.set_cons_zero, List.set_cons_succ]
    refine anyH_take 7 75 (.bool false) trivial rfl (by kernel_rfl) (by kernel_rfl) (by kernel_rfl) (fun _ _ _ h => h) (by rfl) (by intro y hy; go_simp) ?_
    try simp only [Act.put, List.setIfInBounds_toArray, List.set_cons_zero, List.set_cons_succ]
    refine anyH_take 8 76 (.pointer (some ⟨gy, 0, none⟩)) trivial rfl (by kernel_rfl) (by kernel_rfl) (by kernel_rfl) (fun _ _ _ h => h) (by rfl) (by intro y hy; go_simp) ?_
    try simp only [Act.put, List.setIfInBounds_toArray, List.set_cons_zero, List.set_cons_succ]
    refine anyH_one 9 (by kernel_rfl) ?_
    refine wpOp_step rfl (fun Kc hKc => ?_)
    go_simp
    refine (HBY1.out _ K3da.out).mono ?_
    rintro e3db z3db ⟨rfl, hb⟩
    have K3db : Hid (Below w9.heap.size w9 z3db) := K3da.out.trans (hb.mono K3da.out.size)
    clear hb
    dsimp only
    refine hKc _ _ ⟨trivial, ?_⟩
    clear hKc Kc
    try simp only [Act.put, List.setIfInBounds_toArray, List.set_cons_zero, List.set_cons_succ]
    refine anyH_take 10 78 (.bool true) trivial rfl (by kernel_rfl) (by kernel_rfl) (by kernel_rfl) (fun _ _ _ h => h) (by rfl) (by intro y hy; go_simp) ?_
    try simp only [Act.put, List.setIfInBounds_toArray, List.set_cons_zero, List.set_cons_succ]
    refine anyH_take 11 79 (.bool true) trivial rfl (by kernel_rfl) (by kernel_rfl) (by kernel_rfl) (fun _ _ _ h => h) (by rfl) (by intro y hy; go_simp) ?_
    try simp only [Act.put, List.setIfInBounds_toArray, List.set_cons_zero, List.set_cons_succ]
    refine anyH_take 12 80 (.slice (some ⟨bs, 0, none⟩) 32 32) trivial rfl (by kernel_rfl) (by kernel_rfl) (by kernel_rfl) (fun _ _ _ h => h) (by rfl) (by intro y hy; go_simp) ?_
    try simp only [Act.put, List.setIfInBounds_toArray, List.set_cons_zero, List.set_cons_succ]
    refine anyH_take 13 81 (.slice p n c) trivial rfl (by kernel_rfl) (by kernel_rfl) (by kernel_rfl) (fun _ _ _ h => h) (by rfl) (by intro y hy; go_simp) ?_
    try simp only [Act.put, List.setIfInBounds_toArray, List.set_cons_zero, List.set_cons_succ]
    refine anyH_take 14 82 (.slice p 32 c) trivial rfl (by kernel_rfl) (by kernel_rfl) (by kernel_rfl) (fun _ _ _ h => h) (by rfl) (by intro y hy; go_simp) ?_
    try simp only [Act.put, List.setIfInBounds_toArray, List.set_cons_zero, List.set_cons_succ]
    refine anyH_one 15 (by kernel_rfl) ?_
    refine wpOp_step rfl (fun Kc hKc => ?_)
    go_simp
    refine (samen_any S 32 HSL.out.1 (by omega) (some ⟨bs, 0, none⟩) p 32 c _ (HSB.out _ K3db.out) (by have h := (HPP.out _ K3db.out).take 32; rw [← HS32.out] at h; exact h)).mono ?_
    rintro e3dd z3dd ⟨rfl, hb⟩
    have K3dg : Hid (Below w9.heap.size w9 z3dd) := K3db.out.trans (hb.mono K3db.out.size)
    clear hb
    dsimp only
    refine hKc _ _ ⟨trivial, ?_⟩
    clear hKc Kc
    try simp only [Act.put, List.setIfInBounds_toArray, List.set_cons_zero, List.set_cons_succ]
    refine anyH_take 16 84 (.bool true) trivial rfl (by kernel_rfl) (by kernel_rfl) (by kernel_rfl) (fun _ _ _ h => h) (by rfl) (by intro y hy; go_simp) ?_
    try simp only [Act.put, List.setIfInBounds_toArray, List.set_cons_zero, List.set_cons_succ]
    refine anyH_take 17 85 (.bool true) trivial rfl (by kernel_rfl) (by kernel_rfl) (by kernel_rfl) (fun _ _ _ h => h) (by rfl) (by intro y hy; go_simp) ?_
    try simp only [Act.put, List.setIfInBounds_toArray, List.set_cons_zero, List.set_cons_succ]
    refine anyH_one 18 (by kernel_rfl) ?_
    refine wpOp_step rfl (fun Kc hKc => ?_)
    go_simp
    refine hKc _ _ ⟨trivial, ?_⟩
    clear hKc Kc
    refine wpAnyH_done (by kernel_rfl) ?_ _
    have K3dd := K3dg
    go_upto_region 13 with (fail)
    refine wp_region_any (by kernel_rfl) ?_
    change wpAny _ _ _ _ _ _ _ (World.drew _)
    have K3dde : Hid (Below w9.heap.size w9 z3dd.drew) := K3dd.out.drew
    obtain ⟨z3dde, hze⟩ : ∃ z, z = z3dd.drew := ⟨_, rfl⟩
    rw [← hze] at K3dde ⊢
    clear hze
    refine wpAny_of_held (S := fun _ => True) _ _ _ _ ?_
    refine anyH_take 0 86 (.pointer (some ⟨gz, 0, none⟩)) trivial rfl (by kernel_rfl) (by kernel_rfl) (by kernel_rfl) (fun _ _ _ h => h) (by rfl) (by intro y hy; go_simp) ?_
    try simp only [Act.put, List.setIfInBounds_toArray, List.set_cons_zero, List.set_cons_succ]
    refine anyH_one 1 (by kernel_rfl) ?_
    refine wpOp_step rfl (fun Kc hKc => ?_)
    go_simp
    refine (HBZ1.out _ K3dde.out).mono ?_
    rintro e3dda z3dda ⟨rfl, hb⟩
    have K3dda : Hid (Below w9.heap.size w9 z3dda) := K3dde.out.trans (hb.mono K3dde.out.size)
    clear hb
    dsimp only
    refine hKc _ _ ⟨trivial, ?_⟩
    clear hKc Kc
    try simp only [Act.put, List.setIfInBounds_toArray, List.set_cons_zero, List.set_cons_succ]
    refine anyH_take 2 88 (.bool true) trivial rfl (by kernel_rfl) (by kernel_rfl) (by kernel_rfl) (fun _ _ _ h => h) (by rfl) (by intro y hy; go_simp) ?_
    try simp only [Act.put, List.setIfInBounds_toArray, List.set_cons_zero, List.set_cons_succ]
    refine anyH_take 4 90 (.agg Z33) trivial rfl (by kernel_rfl) (by kernel_rfl) (by kernel_rfl) (fun _ _ _ h => h) (by rfl) (fun y hy => exec_build0 26 Z33 Try.builtRef) ?_
    try simp only [Act.put, List.setIfInBounds_toArray, List.set_cons_zero, List.set_cons_succ]
    refine anyH_one 3 (by kernel_rfl) ?_
    refine op_load_g 3 26 (.tmp 8) rfl (by rfl) br 0 Z33.toList _ rfl (row_rng' (HGR.out _ K3dda.out)) Try.underlying26 rfl (by rw [Array.length_toList]; exact hsR) ?_
    rw [Array.toArray_toList]
    refine ⟨trivial, ?_⟩
    try simp only [Act.put, List.setIfInBounds_toArray, List.set_cons_zero, List.set_cons_succ]
    refine anyH_take 5 91 (.bool true) trivial rfl (by kernel_rfl) (by kernel_rfl) (by kernel_rfl) (fun _ _ _ h => h) (by rfl) (by intro y hy; go_simp) ?_
    try simp only [Act.put, List.setIfInBounds_toArray, List.set_cons_zero, List.set_cons_succ]
    refine anyH_take 6 92 (.bool true) trivial rfl (by kernel_rfl) (by kernel_rfl) (by kernel_rfl) (fun _ _ _ h => h) (by rfl) (by intro y hy; go_simp) ?_
    try simp only [Act.put, List.setIfInBounds_toArray, List.set_cons_zero, List.set_cons_succ]
    refine anyH_take 7 93 (.bool true) trivial rfl (by kernel_rfl) (by kernel_rfl) (by kernel_rfl) (fun _ _ _ h => h) (by rfl) (by intro y hy; go_simp) ?_
    try simp only [Act.put, List.setIfInBounds_toArray, List.set_cons_zero, List.set_cons_succ]
    refine anyH_skip 8 94 trivial rfl (by kernel_rfl) (by kernel_rfl) (by kernel_rfl) (fun _ _ _ h => h) (by rfl) ?_
    try simp only [Act.put, List.setIfInBounds_toArray, List.set_cons_zero, List.set_cons_succ]
    refine anyH_skip 9 95 trivial rfl (by kernel_rfl) (by kernel_rfl) (by kernel_rfl) (fun _ _ _ h => h) (by rfl) ?_
    try simp only [Act.put, List.setIfInBounds_toArray, List.set_cons_zero, List.set_cons_succ]
    refine anyH_skip 10 96 trivial rfl (by kernel_rfl) (by kernel_rfl) (by kernel_rfl) (fun _ _ _ h => h) (by rfl) ?_
    try simp only [Act.put, List.setIfInBounds_toArray, List.set_cons_zero, List.set_cons_succ]
    refine anyH_skip 11 97 trivial rfl (by kernel_rfl) (by kernel_rfl) (by kernel_rfl) (fun _ _ _ h => h) (by rfl) ?_
    try simp only [Act.put, List.setIfInBounds_toArray, List.set_cons_zero, List.set_cons_succ]
    refine anyH_skip 12 98 trivial rfl (by kernel_rfl) (by kernel_rfl) (by kernel_rfl) (fun _ _ _ h => h) (by rfl) ?_
    try simp only [Act.put, List.setIfInBounds_toArray, List.set_cons_zero, List.set_cons_succ]
    refine anyH_skip 13 99 trivial rfl (by kernel_rfl) (by kernel_rfl) (by kernel_rfl) (fun _ _ _ h => h) (by rfl) ?_
    try simp only [Act.put, List.setIfInBounds_toArray, List.set_cons_zero, List.set_cons_succ]
    refine anyH_skip 14 100 trivial rfl (by kernel_rfl) (by kernel_rfl) (by kernel_rfl) (fun _ _ _ h => h) (by rfl) ?_
    try simp only [Act.put, List.setIfInBounds_toArray, List.set_cons_zero, List.set_cons_succ]
    refine anyH_skip 15 101 trivial rfl (by kernel_rfl) (by kernel_rfl) (by kernel_rfl) (fun _ _ _ h => h) (by rfl) ?_
    try simp only [Act.put, List.setIfInBounds_toArray, List.set_cons_zero, List.set_cons_succ]
    refine anyH_skip 16 102 trivial rfl (by kernel_rfl) (by kernel_rfl) (by kernel_rfl) (fun _ _ _ h => h) (by rfl) ?_
    try simp only [Act.put, List.setIfInBounds_toArray, List.set_cons_zero, List.set_cons_succ]
    refine anyH_skip 17 103 trivial rfl (by kernel_rfl) (by kernel_rfl) (by kernel_rfl) (fun _ _ _ h => h) (by rfl) ?_
    try simp only [Act.put, List.setIfInBounds_toArray, List.set_cons_zero, List.set_cons_succ]
    refine anyH_take 18 104 (.bool true) trivial rfl (by kernel_rfl) (by kernel_rfl) (by kernel_rfl) (fun _ _ _ h => h) (by rfl) (by intro y hy; go_simp) ?_
    try simp only [Act.put, List.setIfInBounds_toArray, List.set_cons_zero, List.set_cons_succ]
    refine anyH_one 19 (by kernel_rfl) ?_
    refine wpOp_step rfl (fun Kc hKc => ?_)
    go_simp
    refine hKc _ _ ⟨trivial, ?_⟩
    clear hKc Kc
    refine wpAnyH_done (by kernel_rfl) ?_ _
    go_wp2_with (go_at_call 9; refine (HK.out _).mono ?_; rintro e99 z99 ⟨rfl, hb99⟩)
    go_ret
    exact ⟨rfl, (W9.out.trans (K3dda.out.mono W9.out.size)).trans (hb99.mono (W9.out.trans (K3dda.out.mono W9.out.size)).size)⟩
  · have hb8 : decide (n < 8) = false := by simp; omega
    have hi8 : ¬ ((n : Int) < 8) := by omega
    have hb32 : decide (n < 32) = false := by simp; omega
    have hi32 : ¬ ((n : Int) < 32) := by omega
    have hb40 : decide (n < 40) = false := by simp; omega
    have hi40 : ¬ ((n : Int) < 40) := by omega
    have HBX1 : Hid (∀ y, Below w9.heap.size w9 y → Calls Try.prog 33 #[.pointer (some ⟨gx, 0, none⟩)] y (BadSay false y)) := fun y hy => by rw [← hb8]; exact HBX.out y hy
    have HBY1 : Hid (∀ y, Below w9.heap.size w9 y → Calls Try.prog 33 #[.pointer (some ⟨gy, 0, none⟩)] y (BadSay false y)) := fun y hy => by rw [← hb32]; exact HBYy.out y hy
    have HBZ1 : Hid (∀ y, Below w9.heap.size w9 y → Calls Try.prog 33 #[.pointer (some ⟨gz, 0, none⟩)] y (BadSay false y)) := fun y hy => by rw [← hb40]; exact HBZ.out y hy
    have HT8 : Hid ((L.take 8).length = 8) := by show _ = _; rw [List.length_take, HN.out]; omega
    have HIv : Hid (∀ y, Calls Try.prog 11 #[.slice none 0 0, .int .i64 v] y (RowOf (L.take 8) 8 y)) := fun y => by
      have h := int_any [] v none 0 0 8 rfl rfl (by omega) y (bs_none y)
      rw [List.nil_append, ← hv, Pk.e8_vi HBY.out (by have := HN.out; omega), hv] at h
      exact h
    have HS32 : Hid (S = L.take 32) := by show _ = _; rw [← hS]; exact Pk.vs_good (by have := HN.out; omega)
    have HSB : Hid (∀ y, Below w9.heap.size w9 y → Bs y (some ⟨bs, 0, none⟩) 32 S) := fun y hy => by
      have h := HGA.out y hy
      have e := HA.out
      unfold A32 at e
      cases e
      exact bs_row (bat_row h HSL.out.2) ⟨by rw [HSL.out.1]; omega, by omega⟩
    have HT40 : Hid ((L.take 40).length = 40) := by show _ = _; rw [List.length_take, HN.out]; omega
    have HRr : Hid (∀ y, Calls Try.prog 13 #[.slice none 0 0, .agg R] y (RowOf (L.take 40) 40 y)) := fun y => by
      have h := ref_any [] r HRL.out.1 HRL.out.2 none 0 0 40 rfl rfl (by omega) y (bs_none y)
      rw [List.nil_append, HR.out, ← hr, Pk.ref_vr HBY.out (by have := HN.out; omega)] at h
      exact h
    have hc8 : ¬ ((c : Int) < 8) ∨ n < 8 := by omega
    have hc32 : ¬ ((c : Int) < 32) ∨ n < 32 := by omega
    have hc40 : ¬ ((c : Int) < 40) ∨ n < 40 := by omega
    replace hc8 : ¬ ((c : Int) < 8) := by omega
    replace hc32 : ¬ ((c : Int) < 32) := by omega
    replace hc40 : ¬ ((c : Int) < 40) := by omega
    have K0 : Hid (Below w9.heap.size w9 w9) := Below.refl _ _
    go_upto_region 11 with (first
      | (go_at_call 33; refine (HBZ1.out _ K2.out).mono ?_; rintro e3 z3 ⟨rfl, hb3⟩; have K3 : Hid (Below w9.heap.size w9 z3) := K2.out.trans (hb3.mono K2.out.size); clear hb3)
      | (go_at_call 33; refine (HBY1.out _ K1.out).mono ?_; rintro e2 z2 ⟨rfl, hb2⟩; have K2 : Hid (Below w9.heap.size w9 z2) := K1.out.trans (hb2.mono K1.out.size); clear hb2)
      | (go_at_call 33; refine (HBX1.out _ K0.out).mono ?_; rintro e1 z1 ⟨rfl, hb1⟩; have K1 : Hid (Below w9.heap.size w9 z1) := K0.out.trans (hb1.mono K0.out.size); clear hb1))
    refine wp_region_any (by kernel_rfl) ?_
    change wpAny _ _ _ _ _ _ _ (World.drew _)
    have K3e : Hid (Below w9.heap.size w9 z3.drew) := K3.out.drew
    obtain ⟨z3e, hze⟩ : ∃ z, z = z3.drew := ⟨_, rfl⟩
    rw [← hze] at K3e ⊢
    clear hze
    refine wpAny_of_held (S := fun _ => True) _ _ _ _ ?_
    refine anyH_take 0 50 (.pointer (some ⟨gx, 0, none⟩)) trivial rfl (by kernel_rfl) (by kernel_rfl) (by kernel_rfl) (fun _ _ _ h => h) (by rfl) (by intro y hy; go_simp) ?_
    try simp only [Act.put, List.setIfInBounds_toArray, List.set_cons_zero, List.set_cons_succ]
    refine anyH_one 1 (by kernel_rfl) ?_
    refine wpOp_step rfl (fun Kc hKc => ?_)
    go_simp
    refine (HBX1.out _ K3e.out).mono ?_
    rintro e3a z3a ⟨rfl, hb⟩
    have K3a : Hid (Below w9.heap.size w9 z3a) := K3e.out.trans (hb.mono K3e.out.size)
    clear hb
    dsimp only
    refine hKc _ _ ⟨trivial, ?_⟩
    clear hKc Kc
    try simp only [Act.put, List.setIfInBounds_toArray, List.set_cons_zero, List.set_cons_succ]
    refine anyH_take 2 52 (.bool false) trivial rfl (by kernel_rfl) (by kernel_rfl) (by kernel_rfl) (fun _ _ _ h => h) (by rfl) (by intro y hy; go_simp) ?_
    try simp only [Act.put, List.setIfInBounds_toArray, List.set_cons_zero, List.set_cons_succ]
    refine anyH_skip 3 53 trivial rfl (by kernel_rfl) (by kernel_rfl) (by kernel_rfl) (fun _ _ _ h => h) (by rfl) ?_
    try simp only [Act.put, List.setIfInBounds_toArray, List.set_cons_zero, List.set_cons_succ]
    refine anyH_skip 4 54 trivial rfl (by kernel_rfl) (by kernel_rfl) (by kernel_rfl) (fun _ _ _ h => h) (by rfl) ?_
    try simp only [Act.put, List.setIfInBounds_toArray, List.set_cons_zero, List.set_cons_succ]
    refine anyH_take 5 55 (.bool false) trivial rfl (by kernel_rfl) (by kernel_rfl) (by kernel_rfl) (fun _ _ _ h => h) (by rfl) (by intro y hy; go_simp) ?_
    try simp only [Act.put, List.setIfInBounds_toArray, List.set_cons_zero, List.set_cons_succ]
    refine anyH_take 6 56 (.bool false) trivial rfl (by kernel_rfl) (by kernel_rfl) (by kernel_rfl) (fun _ _ _ h => h) (by rfl) (by intro y hy; go_simp) ?_
    try simp only [Act.put, List.setIfInBounds_toArray, List.set_cons_zero, List.set_cons_succ]
    refine anyH_take 7 57 (.pointer (some ⟨gx, 0, none⟩)) trivial rfl (by kernel_rfl) (by kernel_rfl) (by kernel_rfl) (fun _ _ _ h => h) (by rfl) (by intro y hy; go_simp) ?_
    try simp only [Act.put, List.setIfInBounds_toArray, List.set_cons_zero, List.set_cons_succ]
    refine anyH_one 8 (by kernel_rfl) ?_
    refine wpOp_step rfl (fun Kc hKc => ?_)
    go_simp
    refine (HBX1.out _ K3a.out).mono ?_
    rintro e3b z3b ⟨rfl, hb⟩
    have K3b : Hid (Below w9.heap.size w9 z3b) := K3a.out.trans (hb.mono K3a.out.size)
    clear hb
    dsimp only
    refine hKc _ _ ⟨trivial, ?_⟩
    clear hKc Kc
    try simp only [Act.put, List.setIfInBounds_toArray, List.set_cons_zero, List.set_cons_succ]
    refine anyH_take 9 59 (.bool true) trivial rfl (by kernel_rfl) (by kernel_rfl) (by kernel_rfl) (fun _ _ _ h => h) (by rfl) (by intro y hy; go_simp) ?_
    try simp only [Act.put, List.setIfInBounds_toArray, List.set_cons_zero, List.set_cons_succ]
    refine anyH_take 10 60 (.bool true) trivial rfl (by kernel_rfl) (by kernel_rfl) (by kernel_rfl) (fun _ _ _ h => h) (by rfl) (by intro y hy; go_simp) ?_
    try simp only [Act.put, List.setIfInBounds_toArray, List.set_cons_zero, List.set_cons_succ]
    refine anyH_take 11 61 (.int .i64 v) trivial rfl (by kernel_rfl) (by kernel_rfl) (by kernel_rfl) (fun _ _ _ h => h) (by rfl) (by intro y hy; go_simp) ?_
    try simp only [Act.put, List.setIfInBounds_toArray, List.set_cons_zero, List.set_cons_succ]
    refine anyH_take 13 63 (.slice p n c) trivial rfl (by kernel_rfl) (by kernel_rfl) (by kernel_rfl) (fun _ _ _ h => h) (by rfl) (by intro y hy; go_simp) ?_
    try simp only [Act.put, List.setIfInBounds_toArray, List.set_cons_zero, List.set_cons_succ]
    refine anyH_take 14 64 (.slice p 8 c) trivial rfl (by kernel_rfl) (by kernel_rfl) (by kernel_rfl) (fun _ _ _ h => h) (by rfl) (by intro y hy; go_simp) ?_
    try simp only [Act.put, List.setIfInBounds_toArray, List.set_cons_zero, List.set_cons_succ]
    refine anyH_one 12 (by kernel_rfl) ?_
    refine wpOp_step rfl (fun Kc hKc => ?_)
    go_simp
    refine (HIv.out _).mono ?_
    rintro e3c z3c ⟨pc, cc, rfl, _, BC, hb⟩
    have K3c : Hid (Below w9.heap.size w9 z3c) := K3b.out.trans (hb.out.mono K3b.out.size)
    clear hb
    dsimp only
    refine hKc _ _ ⟨trivial, ?_⟩
    clear hKc Kc
    try simp only [Act.put, List.setIfInBounds_toArray, List.set_cons_zero, List.set_cons_succ]
    refine anyH_one 15 (by kernel_rfl) ?_
    refine wpOp_step rfl (fun Kc hKc => ?_)
    go_simp
    refine (samen_any (L.take 8) 8 HT8.out (by omega) pc p cc c _ BC.out ((HPP.out _ K3c.out).take 8)).mono ?_
    rintro e3d z3d ⟨rfl, hb⟩
    have K3g : Hid (Below w9.heap.size w9 z3d) := K3c.out.trans (hb.mono K3c.out.size)
    clear hb
    dsimp only
    refine hKc _ _ ⟨trivial, ?_⟩
    clear hKc Kc
    try simp only [Act.put, List.setIfInBounds_toArray, List.set_cons_zero, List.set_cons_succ]
    refine anyH_take 16 66 (.bool true) trivial rfl (by kernel_rfl) (by kernel_rfl) (by kernel_rfl) (fun _ _ _ h => h) (by rfl) (by intro y hy; go_simp) ?_
    try simp only [Act.put, List.setIfInBounds_toArray, List.set_cons_zero, List.set_cons_succ]
    refine anyH_take 17 67 (.bool true) trivial rfl (by kernel_rfl) (by kernel_rfl) (by kernel_rfl) (fun _ _ _ h => h) (by rfl) (by intro y hy; go_simp) ?_
    try simp only [Act.put, List.setIfInBounds_toArray, List.set_cons_zero, List.set_cons_succ]
    refine anyH_one 18 (by kernel_rfl) ?_
    refine wpOp_step rfl (fun Kc hKc => ?_)
    go_simp
    refine hKc _ _ ⟨trivial, ?_⟩
    clear hKc Kc
    refine wpAnyH_done (by kernel_rfl) ?_ _
    have K3d := K3g
    go_upto_region 12 with (fail)
    refine wp_region_any (by kernel_rfl) ?_
    change wpAny _ _ _ _ _ _ _ (World.drew _)
    have K3de : Hid (Below w9.heap.size w9 z3d.drew) := K3d.out.drew
    obtain ⟨z3de, hze⟩ : ∃ z, z = z3d.drew := ⟨_, rfl⟩
    rw [← hze] at K3de ⊢
    clear hze
    refine wpAny_of_held (S := fun _ => True) _ _ _ _ ?_
    refine anyH_take 0 68 (.pointer (some ⟨gy, 0, none⟩)) trivial rfl (by kernel_rfl) (by kernel_rfl) (by kernel_rfl) (fun _ _ _ h => h) (by rfl) (by intro y hy; go_simp) ?_
    try simp only [Act.put, List.setIfInBounds_toArray, List.set_cons_zero, List.set_cons_succ]
    refine anyH_one 1 (by kernel_rfl) ?_
    refine wpOp_step rfl (fun Kc hKc => ?_)
    go_simp
    refine (HBY1.out _ K3de.out).mono ?_
    rintro e3da z3da ⟨rfl, hb⟩
    have K3da : Hid (Below w9.heap.size w9 z3da) := K3de.out.trans (hb.mono K3de.out.size)
    clear hb
    dsimp only
    refine hKc _ _ ⟨trivial, ?_⟩
    clear hKc Kc
    try simp only [Act.put, List.setIfInBounds_toArray, List.set_cons_zero, List.set_cons_succ]
    refine anyH_take 2 70 (.bool false) trivial rfl (by kernel_rfl) (by kernel_rfl) (by kernel_rfl) (fun _ _ _ h => h) (by rfl) (by intro y hy; go_simp) ?_
    try simp only [Act.put, List.setIfInBounds_toArray, List.set_cons_zero, List.set_cons_succ]
    refine anyH_skip 3 71 trivial rfl (by kernel_rfl) (by kernel_rfl) (by kernel_rfl) (fun _ _ _ h => h) (by rfl) ?_
    try simp only [Act.put, List.setIfInBounds_toArray, List.set_cons_zero, List.set_cons_succ]
    refine anyH_skip 4 72 trivial rfl (by kernel_rfl) (by kernel_rfl) (by kernel_rfl) (fun _ _ _ h => h) (by rfl) ?_
    try simp only [Act.put, List.setIfInBounds_toArray, List.set_cons_zero, List.set_cons_succ]
    refine anyH_skip 5 73 trivial rfl (by kernel_rfl) (by kernel_rfl) (by kernel_rfl) (fun _ _ _ h => h) (by rfl) ?_
    try simp only [Act.put, List.setIfInBounds_toArray, List.set_cons_zero, List.set_cons_succ]
    refine anyH_take 6 74 (.bool false) trivial rfl (by kernel_rfl) (by kernel_rfl) (by kernel_rfl) (fun _ _ _ h => h) (by rfl) (by intro y hy; go_simp) ?_
    try simp only [Act.put, List.setIfInBounds_toArray, List.set_cons_zero, List.set_cons_succ]
    refine anyH_take 7 75 (.bool false) trivial rfl (by kernel_rfl) (by kernel_rfl) (by kernel_rfl) (fun _ _ _ h => h) (by rfl) (by intro y hy; go_simp) ?_
    try simp only [Act.put, List.setIfInBounds_toArray, List.set_cons_zero, List.set_cons_succ]
    refine anyH_take 8 76 (.pointer (some ⟨gy, 0, none⟩)) trivial rfl (by kernel_rfl) (by kernel_rfl) (by kernel_rfl) (fun _ _ _ h => h) (by rfl) (by intro y hy; go_simp) ?_
    try simp only [Act.put, List.setIfInBounds_toArray, List.set_cons_zero, List.set_cons_succ]
    refine anyH_one 9 (by kernel_rfl) ?_
    refine wpOp_step rfl (fun Kc hKc => ?_)
    go_simp
    refine (HBY1.out _ K3da.out).mono ?_
    rintro e3db z3db ⟨rfl, hb⟩
    have K3db : Hid (Below w9.heap.size w9 z3db) := K3da.out.trans (hb.mono K3da.out.size)
    clear hb
    dsimp only
    refine hKc _ _ ⟨trivial, ?_⟩
    clear hKc Kc
    try simp only [Act.put, List.setIfInBounds_toArray, List.set_cons_zero, List.set_cons_succ]
    refine anyH_take 10 78 (.bool true) trivial rfl (by kernel_rfl) (by kernel_rfl) (by kernel_rfl) (fun _ _ _ h => h) (by rfl) (by intro y hy; go_simp) ?_
    try simp only [Act.put, List.setIfInBounds_toArray, List.set_cons_zero, List.set_cons_succ]
    refine anyH_take 11 79 (.bool true) trivial rfl (by kernel_rfl) (by kernel_rfl) (by kernel_rfl) (fun _ _ _ h => h) (by rfl) (by intro y hy; go_simp) ?_
    try simp only [Act.put, List.setIfInBounds_toArray, List.set_cons_zero, List.set_cons_succ]
    refine anyH_take 12 80 (.slice (some ⟨bs, 0, none⟩) 32 32) trivial rfl (by kernel_rfl) (by kernel_rfl) (by kernel_rfl) (fun _ _ _ h => h) (by rfl) (by intro y hy; go_simp) ?_
    try simp only [Act.put, List.setIfInBounds_toArray, List.set_cons_zero, List.set_cons_succ]
    refine anyH_take 13 81 (.slice p n c) trivial rfl (by kernel_rfl) (by kernel_rfl) (by kernel_rfl) (fun _ _ _ h => h) (by rfl) (by intro y hy; go_simp) ?_
    try simp only [Act.put, List.setIfInBounds_toArray, List.set_cons_zero, List.set_cons_succ]
    refine anyH_take 14 82 (.slice p 32 c) trivial rfl (by kernel_rfl) (by kernel_rfl) (by kernel_rfl) (fun _ _ _ h => h) (by rfl) (by intro y hy; go_simp) ?_
    try simp only [Act.put, List.setIfInBounds_toArray, List.set_cons_zero, List.set_cons_succ]
    refine anyH_one 15 (by kernel_rfl) ?_
    refine wpOp_step rfl (fun Kc hKc => ?_)
    go_simp
    refine (samen_any S 32 HSL.out.1 (by omega) (some ⟨bs, 0, none⟩) p 32 c _ (HSB.out _ K3db.out) (by have h := (HPP.out _ K3db.out).take 32; rw [← HS32.out] at h; exact h)).mono ?_
    rintro e3dd z3dd ⟨rfl, hb⟩
    have K3dg : Hid (Below w9.heap.size w9 z3dd) := K3db.out.trans (hb.mono K3db.out.size)
    clear hb
    dsimp only
    refine hKc _ _ ⟨trivial, ?_⟩
    clear hKc Kc
    try simp only [Act.put, List.setIfInBounds_toArray, List.set_cons_zero, List.set_cons_succ]
    refine anyH_take 16 84 (.bool true) trivial rfl (by kernel_rfl) (by kernel_rfl) (by kernel_rfl) (fun _ _ _ h => h) (by rfl) (by intro y hy; go_simp) ?_
    try simp only [Act.put, List.setIfInBounds_toArray, List.set_cons_zero, List.set_cons_succ]
    refine anyH_take 17 85 (.bool true) trivial rfl (by kernel_rfl) (by kernel_rfl) (by kernel_rfl) (fun _ _ _ h => h) (by rfl) (by intro y hy; go_simp) ?_
    try simp only [Act.put, List.setIfInBounds_toArray, List.set_cons_zero, List.set_cons_succ]
    refine anyH_one 18 (by kernel_rfl) ?_
    refine wpOp_step rfl (fun Kc hKc => ?_)
    go_simp
    refine hKc _ _ ⟨trivial, ?_⟩
    clear hKc Kc
    refine wpAnyH_done (by kernel_rfl) ?_ _
    have K3dd := K3dg
    go_upto_region 13 with (fail)
    refine wp_region_any (by kernel_rfl) ?_
    change wpAny _ _ _ _ _ _ _ (World.drew _)
    have K3dde : Hid (Below w9.heap.size w9 z3dd.drew) := K3dd.out.drew
    obtain ⟨z3dde, hze⟩ : ∃ z, z = z3dd.drew := ⟨_, rfl⟩
    rw [← hze] at K3dde ⊢
    clear hze
    refine wpAny_of_held (S := fun _ => True) _ _ _ _ ?_
    refine anyH_take 0 86 (.pointer (some ⟨gz, 0, none⟩)) trivial rfl (by kernel_rfl) (by kernel_rfl) (by kernel_rfl) (fun _ _ _ h => h) (by rfl) (by intro y hy; go_simp) ?_
    try simp only [Act.put, List.setIfInBounds_toArray, List.set_cons_zero, List.set_cons_succ]
    refine anyH_one 1 (by kernel_rfl) ?_
    refine wpOp_step rfl (fun Kc hKc => ?_)
    go_simp
    refine (HBZ1.out _ K3dde.out).mono ?_
    rintro e3dda z3dda ⟨rfl, hb⟩
    have K3dda : Hid (Below w9.heap.size w9 z3dda) := K3dde.out.trans (hb.mono K3dde.out.size)
    clear hb
    dsimp only
    refine hKc _ _ ⟨trivial, ?_⟩
    clear hKc Kc
    try simp only [Act.put, List.setIfInBounds_toArray, List.set_cons_zero, List.set_cons_succ]
    refine anyH_take 2 88 (.bool false) trivial rfl (by kernel_rfl) (by kernel_rfl) (by kernel_rfl) (fun _ _ _ h => h) (by rfl) (by intro y hy; go_simp) ?_
    try simp only [Act.put, List.setIfInBounds_toArray, List.set_cons_zero, List.set_cons_succ]
    refine anyH_skip 3 89 trivial rfl (by kernel_rfl) (by kernel_rfl) (by kernel_rfl) (fun _ _ _ h => h) (by rfl) ?_
    try simp only [Act.put, List.setIfInBounds_toArray, List.set_cons_zero, List.set_cons_succ]
    refine anyH_skip 4 90 trivial rfl (by kernel_rfl) (by kernel_rfl) (by kernel_rfl) (fun _ _ _ h => h) (by rfl) ?_
    try simp only [Act.put, List.setIfInBounds_toArray, List.set_cons_zero, List.set_cons_succ]
    refine anyH_skip 5 91 trivial rfl (by kernel_rfl) (by kernel_rfl) (by kernel_rfl) (fun _ _ _ h => h) (by rfl) ?_
    try simp only [Act.put, List.setIfInBounds_toArray, List.set_cons_zero, List.set_cons_succ]
    refine anyH_take 6 92 (.bool false) trivial rfl (by kernel_rfl) (by kernel_rfl) (by kernel_rfl) (fun _ _ _ h => h) (by rfl) (by intro y hy; go_simp) ?_
    try simp only [Act.put, List.setIfInBounds_toArray, List.set_cons_zero, List.set_cons_succ]
    refine anyH_take 7 93 (.bool false) trivial rfl (by kernel_rfl) (by kernel_rfl) (by kernel_rfl) (fun _ _ _ h => h) (by rfl) (by intro y hy; go_simp) ?_
    try simp only [Act.put, List.setIfInBounds_toArray, List.set_cons_zero, List.set_cons_succ]
    refine anyH_take 8 94 (.pointer (some ⟨gz, 0, none⟩)) trivial rfl (by kernel_rfl) (by kernel_rfl) (by kernel_rfl) (fun _ _ _ h => h) (by rfl) (by intro y hy; go_simp) ?_
    try simp only [Act.put, List.setIfInBounds_toArray, List.set_cons_zero, List.set_cons_succ]
    refine anyH_one 9 (by kernel_rfl) ?_
    refine wpOp_step rfl (fun Kc hKc => ?_)
    go_simp
    refine (HBZ1.out _ K3dda.out).mono ?_
    rintro e3ddb z3ddb ⟨rfl, hb⟩
    have K3ddb : Hid (Below w9.heap.size w9 z3ddb) := K3dda.out.trans (hb.mono K3dda.out.size)
    clear hb
    dsimp only
    refine hKc _ _ ⟨trivial, ?_⟩
    clear hKc Kc
    try simp only [Act.put, List.setIfInBounds_toArray, List.set_cons_zero, List.set_cons_succ]
    refine anyH_take 10 96 (.bool true) trivial rfl (by kernel_rfl) (by kernel_rfl) (by kernel_rfl) (fun _ _ _ h => h) (by rfl) (by intro y hy; go_simp) ?_
    try simp only [Act.put, List.setIfInBounds_toArray, List.set_cons_zero, List.set_cons_succ]
    refine anyH_take 11 97 (.bool true) trivial rfl (by kernel_rfl) (by kernel_rfl) (by kernel_rfl) (fun _ _ _ h => h) (by rfl) (by intro y hy; go_simp) ?_
    try simp only [Act.put, List.setIfInBounds_toArray, List.set_cons_zero, List.set_cons_succ]
    refine anyH_take 14 100 (.slice p n c) trivial rfl (by kernel_rfl) (by kernel_rfl) (by kernel_rfl) (fun _ _ _ h => h) (by rfl) (by intro y hy; go_simp) ?_
    try simp only [Act.put, List.setIfInBounds_toArray, List.set_cons_zero, List.set_cons_succ]
    refine anyH_take 15 101 (.slice p 40 c) trivial rfl (by kernel_rfl) (by kernel_rfl) (by kernel_rfl) (fun _ _ _ h => h) (by rfl) (by intro y hy; go_simp) ?_
    try simp only [Act.put, List.setIfInBounds_toArray, List.set_cons_zero, List.set_cons_succ]
    refine anyH_one 12 (by kernel_rfl) ?_
    refine op_load_g 12 26 (.tmp 8) rfl (by rfl) br 0 R.toList _ rfl (row_rng' (HGR.out _ K3ddb.out)) Try.underlying26 rfl (by rw [Array.length_toList]; exact hsR) ?_
    rw [Array.toArray_toList]
    refine ⟨trivial, ?_⟩
    try simp only [Act.put, List.setIfInBounds_toArray, List.set_cons_zero, List.set_cons_succ]
    refine anyH_one 13 (by kernel_rfl) ?_
    refine wpOp_step rfl (fun Kc hKc => ?_)
    go_simp
    refine (HRr.out _).mono ?_
    rintro e3ddc z3ddc ⟨pc, cc, rfl, _, BC, hb⟩
    have K3ddc : Hid (Below w9.heap.size w9 z3ddc) := K3ddb.out.trans (hb.out.mono K3ddb.out.size)
    clear hb
    dsimp only
    refine hKc _ _ ⟨trivial, ?_⟩
    clear hKc Kc
    try simp only [Act.put, List.setIfInBounds_toArray, List.set_cons_zero, List.set_cons_succ]
    refine anyH_one 16 (by kernel_rfl) ?_
    refine wpOp_step rfl (fun Kc hKc => ?_)
    go_simp
    refine (samen_any (L.take 40) 40 HT40.out (by omega) pc p cc c _ BC.out ((HPP.out _ K3ddc.out).take 40)).mono ?_
    rintro e3ddd z3ddd ⟨rfl, hb⟩
    have K3ddg : Hid (Below w9.heap.size w9 z3ddd) := K3ddc.out.trans (hb.mono K3ddc.out.size)
    clear hb
    dsimp only
    refine hKc _ _ ⟨trivial, ?_⟩
    clear hKc Kc
    try simp only [Act.put, List.setIfInBounds_toArray, List.set_cons_zero, List.set_cons_succ]
    refine anyH_take 17 103 (.bool true) trivial rfl (by kernel_rfl) (by kernel_rfl) (by kernel_rfl) (fun _ _ _ h => h) (by rfl) (by intro y hy; go_simp) ?_
    try simp only [Act.put, List.setIfInBounds_toArray, List.set_cons_zero, List.set_cons_succ]
    refine anyH_take 18 104 (.bool true) trivial rfl (by kernel_rfl) (by kernel_rfl) (by kernel_rfl) (fun _ _ _ h => h) (by rfl) (by intro y hy; go_simp) ?_
    try simp only [Act.put, List.setIfInBounds_toArray, List.set_cons_zero, List.set_cons_succ]
    refine anyH_one 19 (by kernel_rfl) ?_
    refine wpOp_step rfl (fun Kc hKc => ?_)
    go_simp
    refine hKc _ _ ⟨trivial, ?_⟩
    clear hKc Kc
    refine wpAnyH_done (by kernel_rfl) ?_ _
    have K3ddd := K3ddg
    go_wp2_with (go_at_call 9; refine (HK.out _).mono ?_; rintro e99 z99 ⟨rfl, hb99⟩)
    go_ret
    exact ⟨rfl, (W9.out.trans (K3ddd.out.mono W9.out.size)).trans (hb99.mono (W9.out.trans (K3ddd.out.mono W9.out.size)).size)⟩
theorem only_any (L : List Int) (p : Option Addr) (c : Nat) (w : World) (hp : Bs w p c L) : Calls Try.prog 6 #[.slice p L.length c] w (YesSay w) := by
  by_cases h : L.length ≤ 4096
  · exact only_true L p L.length c rfl h w hp
  · exact only_big p L.length c h w
end Go.Proofs.Ytlgnlilfagjejaa

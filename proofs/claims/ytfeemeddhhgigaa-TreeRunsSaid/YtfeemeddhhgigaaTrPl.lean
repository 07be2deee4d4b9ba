/-
  The program's tree: contract: Load.
-/
import Derived.Test.YtfeemeddhhgigaaTrPk
namespace Go.Proofs.Ytfeemeddhhgigaa
open Go.RowKit

set_option maxHeartbeats 4000000 in
set_option maxRecDepth 100000 in
theorem pnew_at (w : World) :
    Calls Try.prog 10 #[] w fun e w' => e = .returned (.pointer (some ⟨w.heap.size, 0, none⟩)) ∧ Hid (PT 0 w' w.heap.size Tr.new) ∧ Hid (Below w.heap.size w w') := by
  have HBT := Lib.hid Try.builtTree
  have P0 : Hid (PT 0 (w.alloc (.cells (Tr.tcs Tr.t0).toArray 68)) w.heap.size Tr.t0) := Lib.hid ⟨heap_alloc_new w _, t0_ok, t0_tz, Nat.zero_le _⟩
  have c0 : (w.alloc (.cells (Tr.tcs Tr.t0).toArray 68)).cell? ⟨w.heap.size, 2112, none⟩ = some (.int .i64 0) := P0.out.st 0 (by omega)
  have e : (Tr.tcs Tr.t0).toArray.setIfInBounds 2112 (.int .i64 1) = (Tr.tcs Tr.new).toArray := by
    have := Tr.tcs_st Tr.t0 t0_ok 0 (by omega) (some (some Pg.zr)) rfl
    rw [Tr.t0_new] at this
    exact this
  have H1 : Hid (PT 0 (w.alloc (.cells ((Tr.tcs Tr.t0).toArray.setIfInBounds 2112 (.int .i64 1)) 68)) w.heap.size Tr.new) := Lib.hid ⟨by rw [e]; exact heap_alloc_new w _, new_ok, Tr.new_inv.tz, Nat.zero_le _⟩
  have B1 : Hid (Below w.heap.size w (w.alloc (.cells ((Tr.tcs Tr.t0).toArray.setIfInBounds 2112 (.int .i64 1)) 68))) := (Below.refl _ w).alloc (Nat.le_refl _) _
  clear e
  generalize (Tr.tcs Tr.t0).toArray = A at *
  go_enter Try.func10, Try.ntmps10
  go_wp2_with ((with_reducible refine row_build0 _ _ HBT.out ?_))
  go_ret
  exact ⟨rfl, H1, B1⟩
namespace Tr
open Pg (Rf zr zp)
/-- Is a node as in a new tree? -/
def nwB (t : T) (i : Nat) : Bool := decide (stn (t.n i) = stn (new.n i) ∧ nr (t.n i) = nr (new.n i))
theorem stn_some {x : Nd} : stn x = 0 ↔ x = none := by
  cases x with
  | none => exact ⟨fun _ => rfl, fun _ => rfl⟩
  | some y =>
    cases y with
    | none => exact ⟨fun h => absurd h (by decide), fun h => (nomatch h)⟩
    | some r => exact ⟨fun h => absurd h (show ¬ (1 : Int) = 0 by decide), fun h => (nomatch h)⟩
theorem nw_root (t : T) : nwB t 0 = true ↔ nodeB t 0 = true ∧ nodeR t 0 = zr := by
  have e0 : new.n 0 = some (some zr) := rfl
  obtain ⟨h1, h2⟩ := node_of (u := t) 0 (by omega)
  rw [show ((0 : Nat) : Int) = 0 from rfl] at h1 h2
  unfold nwB
  rw [decide_eq_true_eq, e0, h1, h2]
  cases t.n 0 with
  | none => exact ⟨fun h => absurd h.1 (by decide), fun h => absurd h.1 (by decide)⟩
  | some x =>
    cases x with
    | none => exact ⟨fun h => absurd h.1 (by decide), fun h => absurd h.1 (by decide)⟩
    | some r => exact ⟨fun h => ⟨rfl, h.2⟩, fun h => ⟨rfl, h.2⟩⟩
theorem nw_leaf (t : T) (i : Nat) (hi : i ≠ 0) : nwB t i = true ↔ t.n i = none := by
  have e0 : new.n i = none := if_neg hi
  unfold nwB
  rw [decide_eq_true_eq, e0]
  constructor
  · intro h; exact stn_some.1 h.1
  · intro h; rw [h]; exact ⟨rfl, rfl⟩
theorem loadE_if (t : T) (N : Int) (p : List Rf) (r : Rf) : loadE t N p r = if (decide (inN N) && decide (0 < r.1)) = false then 7 else if nwB t N.toNat = false then 16 else if N = 0 then 0 else if anyP p then 0 else 7 := by
  unfold loadE
  by_cases h1 : ¬ inN N ∨ r.1 < 1
  · rw [if_pos h1, if_pos]
    rcases h1 with h | h
    · rw [decide_eq_false h, Bool.false_and]
    · rw [decide_eq_false (show ¬ 0 < r.1 by omega), Bool.and_false]
  · have h2 : inN N := Classical.byContradiction fun h => h1 (Or.inl h)
    have h3 : 0 < r.1 := by
      have : ¬ r.1 < 1 := fun h => h1 (Or.inr h)
      omega
    have e2 : ¬ (decide (inN N) && decide (0 < r.1)) = false := by rw [decide_eq_true h2, decide_eq_true h3]; decide
    rw [if_neg h1, if_neg e2]
    clear e2
    by_cases h0 : N = 0
    · subst h0
      rw [if_pos rfl, if_pos rfl]
      by_cases hb : nodeB t 0 = true ∧ nodeR t 0 = zr
      · have e3 : ¬ nwB t (0 : Int).toNat = false := by rw [show (0 : Int).toNat = 0 from rfl, (nw_root t).2 hb]; decide
        rw [if_pos hb, if_neg e3]
      · have : nwB t 0 = false := by rw [← Bool.not_eq_true]; exact fun e => hb ((nw_root t).1 e)
        have e3 : nwB t (0 : Int).toNat = false := this
        rw [if_neg hb, if_pos e3]
    · rw [if_neg h0, if_neg h0]
      have hi : N.toNat ≠ 0 := by unfold inN at h2; omega
      cases hs : (t.n N.toNat).isSome with
      | true =>
        have : nwB t N.toNat = false := by
          rw [← Bool.not_eq_true]
          intro e
          rw [(nw_leaf t _ hi).1 e] at hs
          cases hs
        rw [if_pos rfl, if_pos this]
      | false =>
        have : nwB t N.toNat = true := (nw_leaf t _ hi).2 (by cases q : t.n N.toNat with | none => rfl | some _ => rw [q] at hs; cases hs)
        have e3 : ¬ nwB t N.toNat = false := by rw [this]; decide
        rw [if_neg Bool.false_ne_true, if_neg e3]
end Tr
set_option maxHeartbeats 8000000 in
set_option maxRecDepth 100000 in
theorem pload_any {K b : Nat} {t : Tr.T} (N : Int) (p : List Pg.Rf) (hp : Pg.OkA p) (r : Pg.Rf) (hr : Pg.Ok r) (w : World) (h : PT K w b t) (hI : Tr.Inv t) :
    Calls Try.prog 24 #[.pointer (some ⟨b, 0, none⟩), .int .i64 N, PV p, .agg (rfA r)] w (PSay K b (Tr.loadI t N p r) (.int .i64 (Tr.loadE t N p r)) w) := by
  have HIB : Hid (∀ y, Calls Try.prog 49 #[.int .i64 N] y (BoSay (decide (Tr.inN N)) y)) := fun y => isnode_any N y
  have HLD : Hid (∀ y, Calls Try.prog 50 #[.agg (rfA r)] y (BoSay (decide (0 < r.1)) y)) := fun y => leads_any r hr y
  have HT : Hid (∀ y, Below w.heap.size w y → PT K y b t) := fun y hy => h.old hy
  have hE := Tr.loadE_if t N p r
  have hI0 : Tr.loadE t N p r ≠ 0 → Tr.loadI t N p r = t := fun e => by unfold Tr.loadI; rw [if_neg e]
  have hI1 : Tr.loadE t N p r = 0 → Tr.loadI t N p r = if N = 0 then Tr.saveT t 0 r else ⟨Tr.loadB t N.toNat p, Tr.up t.n N.toNat (some (some r))⟩ := fun e => by unfold Tr.loadI; rw [if_pos e]
  obtain ⟨R, Z, eA, _, hk, hz0⟩ := rfz hr
  have HRS := Lib.hid hk.size
  have HR1 := Lib.hid hk.one
  have hsR := row_size Try.sizeRef33 HRS
  rw [eA] at HLD
  obtain ⟨A, RA, eP, hkP⟩ := pgk hp
  have HAS := Lib.hid hkP.size
  have hA1 := hkP.one
  have hsA := row_size Try.sizePage HAS
  obtain ⟨LA, RL, eL, hkL⟩ := pgk (Tr.ldg_ok hp)
  have HLS := Lib.hid hkL.size
  have HL1 := Lib.hid hkL.one
  have hsL := row_size Try.sizePage HLS
  have HLAC : Hid (LA.toList = cs (Tr.ldg p)) := by
    have e6 : PV (Tr.ldg p) = .agg (cs (Tr.ldg p)).toArray := rfl
    rw [e6] at eL
    injection eL with eL
    show _ = _
    rw [← eL]
  have HLE : Hid (∀ y, Calls Try.prog 51 #[.agg A] y (fun e w' => e = .returned (.agg LA) ∧ Hid (Below y.heap.size y w'))) := fun y => by
    have q := leading_any p hp y
    unfold PgSay at q
    rw [eP, eL] at q
    exact q
  have HEM : Hid (∀ y, Calls Try.prog 52 #[.agg LA] y (fun e w' => e = .returned (.bool (!Tr.anyP p)) ∧ Hid (Below y.heap.size y w'))) := fun y => by
    have q := empty_any (Tr.ldg p) (Tr.ldg_ok hp) y
    unfold BoSay at q
    rw [eL, Tr.ldg_empty hp] at q
    exact q
  have HLAS : Hid (LA.size = A.size) := by show _ = _; rw [HLS.out, HAS.out]
  have hbw : b < w.heap.size := h.lt
  have HBN : Hid (w.heap.size ≠ b) := by show _ ≠ _; omega
  have HBN1 : Hid (w.heap.size + 1 ≠ b) := by show _ ≠ _; omega
  have HNN : Hid (w.heap.size + 1 ≠ w.heap.size) := by show _ ≠ _; omega
  rw [eP, eA]
  have B1 : Hid (Below w.heap.size w ((w.alloc (.cells A 36)).alloc (.cells R 33))) := ((Below.refl _ w).alloc (Nat.le_refl _) _).alloc (by simp) _
  have R1 : Hid (((w.alloc (.cells A 36)).alloc (.cells R 33)).heap[w.heap.size + 1]? = some (.cells R 33 (0, 0))) := by
    have := heap_alloc_new (w.alloc (.cells A 36)) (.cells R 33)
    rw [show (w.alloc (.cells A 36)).heap.size = w.heap.size + 1 by simp] at this
    exact this
  have A1 : Hid (((w.alloc (.cells A 36)).alloc (.cells R 33)).heap[w.heap.size]? = some (.cells A 36 (0, 0))) := (((Below.refl _ (w.alloc (.cells A 36))).alloc (Nat.le_refl _) _).block w.heap.size (by simp)).trans (heap_alloc_new w _)
  obtain ⟨w1, hw1⟩ : ∃ y, y = (w.alloc (.cells A 36)).alloc (.cells R 33) := ⟨_, rfl⟩
  rw [← hw1] at B1 R1 A1
  unfold BoSay at HIB HLD
  unfold PSay
  by_cases hin : Tr.inN N
  · rw [decide_eq_true hin] at HIB hE
    by_cases hpos : 0 < r.1
    · rw [decide_eq_true hpos] at HLD hE
      rw [if_neg (by decide)] at hE
      obtain ⟨i, hi⟩ : ∃ i : Nat, N = (i : Int) := ⟨N.toNat, by unfold Tr.inN at hin; omega⟩
      subst hi
      have hi9 : i < 9 := by unfold Tr.inN at hin; omega
      have hi0 : 0 ≤ (i : Int) := by omega
      have hi1 : (i : Int) < 9 := by omega
      have HXR : Hid (∀ y, PT K y b t → y.rangeAt b (2112 + i * 34) (Tr.ndA (t.n i)).toList) := fun y hy => hy.node i hi9
      have HYR : Hid (∀ (y : World) (g : Nat), PT 0 y g Tr.new → y.rangeAt g (2112 + i * 34) (Tr.ndA (Tr.new.n i)).toList) := fun y g hy => hy.node i hi9
      have HXS := Lib.hid (nda_size h.ok i)
      have hsX := row_size Try.sizeNodeP HXS
      have HYS := Lib.hid (nda_size new_ok i)
      have hsY := row_size Try.sizeNodeP HYS
      have heqz : ∀ y, (Op.equalIn 10000 65 (.agg (Tr.ndA (t.n i))) (.agg (Tr.ndA (Tr.new.n i)))).run Try.prog y = .ok (Tr.nwB t i) y := fun y => nodeP_eq _ _ (nr_ok h.ok i) (nr_ok new_ok i) y
      rw [Int.toNat_natCast] at hE hI1
      have HBU := Lib.hid (build_ndp r hr)
      rw [eA] at HBU
      have HVS : Hid ((Tr.ndA (some (some r))).size = 34) := by show _ = _; unfold Tr.ndA Tr.ndc; rw [List.size_toArray, List.length_cons]; exact congrArg (· + 1) (cl_len hr)
      have HV1 := Lib.hid (nda_one (some (some r)))
      have hsV := row_size Try.sizeNodeP HVS
      have HPUT : Hid (∀ (y z : World) (u : Tr.T), PT K y b u → z.heap[b]? = some (.cells ((Tr.tcs u).toArray.toList.take (2112 + i * 34) ++ (Tr.ndA (some (some r))).toList ++ (Tr.tcs u).toArray.toList.drop (2112 + i * 34 + (Tr.ndA (some (some r))).size)).toArray 68 (0, 0)) → PT K z b ⟨u.b, Tr.up u.n i (some (some r))⟩) := fun y z u hy hz => hy.putn i hi9 (some (some r)) (fun x e => by injection e with e; injection e with e; rw [← e]; exact hr) (Or.inl hpos) _ rfl hz
      have hnz : i ≠ 0 → Tr.nwB t i = true → ∀ k, Tr.lf k = i → t.b k = Pg.zr := fun h0 hn k hk => by
        have h1 := (Tr.nw_leaf t i h0).1 hn
        have h2 := hI.there i (by omega) hi9
        rw [h1] at h2
        rcases h.tz.1 k with q | q
        · have := (Tr.has_iff t i (by omega)).2 ⟨k, hk, q⟩
          rw [this] at h2
          cases h2
        · exact q
      generalize Tr.ndA (t.n i) = X at *
      generalize Tr.ndA (Tr.new.n i) = Y at *
      cases hq : Tr.nwB t i with
      | false =>
        rw [hq] at hE heqz
        have hE' : Tr.loadE t (i : Int) p r = 16 := hE
        rw [hI0 (by rw [hE']; decide), hE']
        clear hE hE' hI0 hI1 hI h hk hz0 hkP hkL eA eP eL hin hpos hq HPUT HVS HV1 hsV HBU hnz HLAC HLE HEM HLAS HLS HL1 hsL
        go_enter Try.func24, Try.ntmps24
        go_upto_region 3 with (first
          | (go_at_call 49; rw [← hw1]; clear hw1; refine (HIB.out _).mono ?_; rintro e2 w2 ⟨rfl, B2⟩; have C2 := Lib.hid (B1.out.trans (B2.out.mono B1.out.size)); have R2 := Lib.hid (below_kept B2.out R1.out); have A2 := Lib.hid (below_kept B2.out A1.out))
          | ((with_reducible refine row_load_g _ _ _ _ _ _ _ ?_ ?_ R2.out Try.underlying33 ?_ hsR ?_); (exact rfl); (exact rfl); (exact rfl))
          | (go_at_call 50; refine (HLD.out _).mono ?_; rintro e3 w3 ⟨rfl, B3⟩; have C3 := Lib.hid (C2.out.trans (B3.out.mono C2.out.size)); have R3 := Lib.hid (below_kept B3.out R2.out); have A3 := Lib.hid (below_kept B3.out A2.out)))
        refine wp_region_any (by kernel_rfl) ?_
        change wpAny _ _ _ _ _ _ _ (World.drew _)
        have B4 : Hid (Below w.heap.size w w3.drew) := C3.out.drew
        have R4 : Hid (w3.drew.heap[w.heap.size + 1]? = some (.cells R 33 (0, 0))) := R3.out
        have A4 : Hid (w3.drew.heap[w.heap.size]? = some (.cells A 36 (0, 0))) := A3.out
        obtain ⟨z, hz9⟩ : ∃ y, y = w3.drew := ⟨_, rfl⟩
        rw [← hz9] at B4 R4 A4 ⊢
        clear hz9
        refine wpAny_of_held (S := fun y => y.rangeAt b (2112 + i * 34) X.toList) _ _ _ _ ?_
        have SD : (fun y => y.rangeAt b (2112 + i * 34) X.toList) z := by exact HXR.out _ (HT.out _ B4.out)
        refine anyH_take 0 17 (.pointer (some ⟨b, 0, none⟩)) SD rfl (by kernel_rfl) (by kernel_rfl) (by kernel_rfl) (fun _ _ _ h => h) (by rfl) (by intro y hy; go_simp) ?_
        try simp only [Act.put, List.setIfInBounds_toArray, List.set_cons_zero, List.set_cons_succ]
        refine anyH_take 1 18 (.int .i64 (i : Int)) SD rfl (by kernel_rfl) (by kernel_rfl) (by kernel_rfl) (fun _ _ _ h => h) (by rfl) (by intro y hy; go_simp) ?_
        try simp only [Act.put, List.setIfInBounds_toArray, List.set_cons_zero, List.set_cons_succ]
        refine anyH_take 2 19 (.pointer (some ⟨b, 0, none⟩)) SD rfl (by kernel_rfl) (by kernel_rfl) (by kernel_rfl) (fun _ _ _ h => h) (by rfl) (by intro y hy; go_simp) ?_
        try simp only [Act.put, List.setIfInBounds_toArray, List.set_cons_zero, List.set_cons_succ]
        refine anyH_take 3 20 (.pointer (some ⟨b, 2112, none⟩)) SD rfl (by kernel_rfl) (by kernel_rfl) (by kernel_rfl) (fun _ _ _ h => h) (by rfl) (by intro y hy; go_simp) ?_
        try simp only [Act.put, List.setIfInBounds_toArray, List.set_cons_zero, List.set_cons_succ]
        refine anyH_take 4 21 (.pointer (some ⟨b, 2112 + i * 34, none⟩)) SD rfl (by kernel_rfl) (by kernel_rfl) (by kernel_rfl) (fun _ _ _ h => h) (by rfl) (by intro y hy; go_simp) ?_
        try simp only [Act.put, List.setIfInBounds_toArray, List.set_cons_zero, List.set_cons_succ]
        refine anyH_take 5 22 (.agg X) SD rfl (by kernel_rfl) (by kernel_rfl) (by kernel_rfl) (fun _ _ _ h => h) (by rfl) (fun y hy => exec_arr _ _ b (2112 + i * 34) _ _ rfl hy Try.underlying65 rfl hsX) ?_
        try simp only [Act.put, List.setIfInBounds_toArray, List.set_cons_zero, List.set_cons_succ]
        refine anyH_take 7 24 (.int .i64 (i : Int)) SD rfl (by kernel_rfl) (by kernel_rfl) (by kernel_rfl) (fun _ _ _ h => h) (by rfl) (by intro y hy; go_simp) ?_
        try simp only [Act.put, List.setIfInBounds_toArray, List.set_cons_zero, List.set_cons_succ]
        refine anyH_one 6 (by kernel_rfl) ?_
        refine wpOp_step rfl (fun Kc hKc => ?_)
        go_simp
        refine (pnew_at _).mono ?_
        rintro e5 w5 ⟨rfl, G5, B5⟩
        have C5 := Lib.hid (B4.out.trans (B5.out.mono B4.out.size))
        have R5 := Lib.hid (below_kept B5.out R4.out)
        have A5 := Lib.hid (below_kept B5.out A4.out)
        have SD5 : w5.rangeAt b (2112 + i * 34) X.toList := HXR.out _ (HT.out _ C5.out)
        have Y5 : Hid (w5.rangeAt z.heap.size (2112 + i * 34) Y.toList) := HYR.out _ _ G5.out
        dsimp only
        refine hKc _ _ ⟨SD5, ?_⟩
        clear hKc Kc
        try simp only [Act.put, List.setIfInBounds_toArray, List.set_cons_zero, List.set_cons_succ]
        refine anyH_one 8 (by kernel_rfl) ?_
        refine wpOp_step rfl (fun Kc hKc => ?_)
        go_simp
        refine hKc _ _ ⟨SD5, ?_⟩
        clear hKc Kc
        try simp only [Act.put, List.setIfInBounds_toArray, List.set_cons_zero, List.set_cons_succ]
        refine anyH_one 9 (by kernel_rfl) ?_
        refine wpOp_step rfl (fun Kc hKc => ?_)
        go_simp
        refine hKc _ _ ⟨SD5, ?_⟩
        clear hKc Kc
        try simp only [Act.put, List.setIfInBounds_toArray, List.set_cons_zero, List.set_cons_succ]
        refine anyH_one 10 (by kernel_rfl) ?_
        refine wpOp_step rfl (fun Kc hKc => ?_)
        go_simp
        refine hKc _ _ ⟨SD5, ?_⟩
        clear hKc Kc
        try simp only [Act.put, List.setIfInBounds_toArray, List.set_cons_zero, List.set_cons_succ]
        refine anyH_one 11 (by kernel_rfl) ?_
        refine op_load 11 _ _ rfl z.heap.size (2112 + i * 34) Y.toList _ rfl Y5.out Try.underlying65 rfl (by rw [Array.length_toList]; exact hsY) ?_
        refine ⟨SD5, ?_⟩
        try simp only [Act.put, List.setIfInBounds_toArray, List.set_cons_zero, List.set_cons_succ]
        refine anyH_one 12 (by kernel_rfl) ?_
        refine wpOp_step rfl (fun Kc hKc => ?_)
        go_simp
        refine hKc _ _ ⟨SD5, ?_⟩
        clear hKc Kc
        try simp only [Act.put, List.setIfInBounds_toArray, List.set_cons_zero, List.set_cons_succ]
        refine wpAnyH_done (by kernel_rfl) ?_ _
        go_wp2
        go_ret
        exact ⟨rfl, Lib.hid (HT.out _ C5.out), Lib.hid (only_of_below C5.out)⟩
      | true =>
        rw [hq] at hE heqz
        by_cases h0 : i = 0
        · have hi00 : (i : Int) = 0 := by omega
          have hE' : Tr.loadE t (i : Int) p r = 0 := by rw [hE, if_neg (by decide), if_pos hi00]
          rw [hI1 hE', hE', if_pos hi00]
          have HPU : Hid (∀ (y z : World), PT K y b t → z.heap[b]? = some (.cells ((Tr.tcs t).toArray.toList.take (2112 + i * 34) ++ (Tr.ndA (some (some r))).toList ++ (Tr.tcs t).toArray.toList.drop (2112 + i * 34 + (Tr.ndA (some (some r))).size)).toArray 68 (0, 0)) → PT K z b (Tr.saveT t 0 r)) := fun y z hy hz => by
            have q := HPUT.out y z t hy hz
            have e : (⟨t.b, Tr.up t.n i (some (some r))⟩ : Tr.T) = Tr.saveT t 0 r := by rw [h0]; rfl
            rw [e] at q
            exact q
          have HCS : Hid (∀ y, PT K y b t → (Tr.tcs t).toArray.size = 2418) := fun y hy => by rw [List.size_toArray, tcs_len hy.ok]
          generalize Tr.saveT t 0 r = t' at *
          generalize Tr.ndA (some (some r)) = V at *
          have him : ((i : Int) == 0) = true := by simp [h0]
          have himn : ((i : Int) != 0) = false := by simp [h0]
          have HI9 : Hid (i < 9) := hi9
          clear hE hE' hI0 hI1 hI h hk hz0 hkP hkL eA eP eL hin hpos hq HPUT hnz HLAC HLE HEM HLAS HLS HL1 hsL hi9 h0 hi00
          go_enter Try.func24, Try.ntmps24
          go_upto_region 3 with (first
            | (go_at_call 49; rw [← hw1]; clear hw1; refine (HIB.out _).mono ?_; rintro e2 w2 ⟨rfl, B2⟩; have C2 := Lib.hid (B1.out.trans (B2.out.mono B1.out.size)); have R2 := Lib.hid (below_kept B2.out R1.out); have A2 := Lib.hid (below_kept B2.out A1.out))
            | ((with_reducible refine row_load_g _ _ _ _ _ _ _ ?_ ?_ R2.out Try.underlying33 ?_ hsR ?_); (exact rfl); (exact rfl); (exact rfl))
            | (go_at_call 50; refine (HLD.out _).mono ?_; rintro e3 w3 ⟨rfl, B3⟩; have C3 := Lib.hid (C2.out.trans (B3.out.mono C2.out.size)); have R3 := Lib.hid (below_kept B3.out R2.out); have A3 := Lib.hid (below_kept B3.out A2.out)))
          refine wp_region_any (by kernel_rfl) ?_
          change wpAny _ _ _ _ _ _ _ (World.drew _)
          have B4 : Hid (Below w.heap.size w w3.drew) := C3.out.drew
          have R4 : Hid (w3.drew.heap[w.heap.size + 1]? = some (.cells R 33 (0, 0))) := R3.out
          have A4 : Hid (w3.drew.heap[w.heap.size]? = some (.cells A 36 (0, 0))) := A3.out
          obtain ⟨z, hz9⟩ : ∃ y, y = w3.drew := ⟨_, rfl⟩
          rw [← hz9] at B4 R4 A4 ⊢
          clear hz9
          refine wpAny_of_held (S := fun y => y.rangeAt b (2112 + i * 34) X.toList) _ _ _ _ ?_
          have SD : (fun y => y.rangeAt b (2112 + i * 34) X.toList) z := by exact HXR.out _ (HT.out _ B4.out)
          refine anyH_take 0 17 (.pointer (some ⟨b, 0, none⟩)) SD rfl (by kernel_rfl) (by kernel_rfl) (by kernel_rfl) (fun _ _ _ h => h) (by rfl) (by intro y hy; go_simp) ?_
          try simp only [Act.put, List.setIfInBounds_toArray, List.set_cons_zero, List.set_cons_succ]
          refine anyH_take 1 18 (.int .i64 (i : Int)) SD rfl (by kernel_rfl) (by kernel_rfl) (by kernel_rfl) (fun _ _ _ h => h) (by rfl) (by intro y hy; go_simp) ?_
          try simp only [Act.put, List.setIfInBounds_toArray, List.set_cons_zero, List.set_cons_succ]
          refine anyH_take 2 19 (.pointer (some ⟨b, 0, none⟩)) SD rfl (by kernel_rfl) (by kernel_rfl) (by kernel_rfl) (fun _ _ _ h => h) (by rfl) (by intro y hy; go_simp) ?_
          try simp only [Act.put, List.setIfInBounds_toArray, List.set_cons_zero, List.set_cons_succ]
          refine anyH_take 3 20 (.pointer (some ⟨b, 2112, none⟩)) SD rfl (by kernel_rfl) (by kernel_rfl) (by kernel_rfl) (fun _ _ _ h => h) (by rfl) (by intro y hy; go_simp) ?_
          try simp only [Act.put, List.setIfInBounds_toArray, List.set_cons_zero, List.set_cons_succ]
          refine anyH_take 4 21 (.pointer (some ⟨b, 2112 + i * 34, none⟩)) SD rfl (by kernel_rfl) (by kernel_rfl) (by kernel_rfl) (fun _ _ _ h => h) (by rfl) (by intro y hy; go_simp) ?_
          try simp only [Act.put, List.setIfInBounds_toArray, List.set_cons_zero, List.set_cons_succ]
          refine anyH_take 5 22 (.agg X) SD rfl (by kernel_rfl) (by kernel_rfl) (by kernel_rfl) (fun _ _ _ h => h) (by rfl) (fun y hy => exec_arr _ _ b (2112 + i * 34) _ _ rfl hy Try.underlying65 rfl hsX) ?_
          try simp only [Act.put, List.setIfInBounds_toArray, List.set_cons_zero, List.set_cons_succ]
          refine anyH_take 7 24 (.int .i64 (i : Int)) SD rfl (by kernel_rfl) (by kernel_rfl) (by kernel_rfl) (fun _ _ _ h => h) (by rfl) (by intro y hy; go_simp) ?_
          try simp only [Act.put, List.setIfInBounds_toArray, List.set_cons_zero, List.set_cons_succ]
          refine anyH_one 6 (by kernel_rfl) ?_
          refine wpOp_step rfl (fun Kc hKc => ?_)
          go_simp
          refine (pnew_at _).mono ?_
          rintro e5 w5 ⟨rfl, G5, B5⟩
          have C5 := Lib.hid (B4.out.trans (B5.out.mono B4.out.size))
          have R5 := Lib.hid (below_kept B5.out R4.out)
          have A5 := Lib.hid (below_kept B5.out A4.out)
          have SD5 : w5.rangeAt b (2112 + i * 34) X.toList := HXR.out _ (HT.out _ C5.out)
          have Y5 : Hid (w5.rangeAt z.heap.size (2112 + i * 34) Y.toList) := HYR.out _ _ G5.out
          dsimp only
          refine hKc _ _ ⟨SD5, ?_⟩
          clear hKc Kc
          try simp only [Act.put, List.setIfInBounds_toArray, List.set_cons_zero, List.set_cons_succ]
          refine anyH_one 8 (by kernel_rfl) ?_
          refine wpOp_step rfl (fun Kc hKc => ?_)
          go_simp
          refine hKc _ _ ⟨SD5, ?_⟩
          clear hKc Kc
          try simp only [Act.put, List.setIfInBounds_toArray, List.set_cons_zero, List.set_cons_succ]
          refine anyH_one 9 (by kernel_rfl) ?_
          refine wpOp_step rfl (fun Kc hKc => ?_)
          go_simp
          refine hKc _ _ ⟨SD5, ?_⟩
          clear hKc Kc
          try simp only [Act.put, List.setIfInBounds_toArray, List.set_cons_zero, List.set_cons_succ]
          refine anyH_one 10 (by kernel_rfl) ?_
          refine wpOp_step rfl (fun Kc hKc => ?_)
          go_simp
          refine hKc _ _ ⟨SD5, ?_⟩
          clear hKc Kc
          try simp only [Act.put, List.setIfInBounds_toArray, List.set_cons_zero, List.set_cons_succ]
          refine anyH_one 11 (by kernel_rfl) ?_
          refine op_load 11 _ _ rfl z.heap.size (2112 + i * 34) Y.toList _ rfl Y5.out Try.underlying65 rfl (by rw [Array.length_toList]; exact hsY) ?_
          refine ⟨SD5, ?_⟩
          try simp only [Act.put, List.setIfInBounds_toArray, List.set_cons_zero, List.set_cons_succ]
          refine anyH_one 12 (by kernel_rfl) ?_
          refine wpOp_step rfl (fun Kc hKc => ?_)
          go_simp
          refine hKc _ _ ⟨SD5, ?_⟩
          clear hKc Kc
          try simp only [Act.put, List.setIfInBounds_toArray, List.set_cons_zero, List.set_cons_succ]
          refine wpAnyH_done (by kernel_rfl) ?_ _
          clear SD SD5 Y5 G5
          go_upto_region 10 with (fail)
          refine wp_region_any (by kernel_rfl) ?_
          change wpAny _ _ _ _ _ _ _ (World.drew _)
          have BX : Hid (Below w.heap.size w w5.drew) := C5.out.drew
          have RX : Hid (w5.drew.heap[w.heap.size + 1]? = some (.cells R 33 (0, 0))) := R5.out
          obtain ⟨zz, hz9⟩ : ∃ y, y = w5.drew := ⟨_, rfl⟩
          rw [← hz9] at BX RX ⊢
          clear hz9
          refine wpAny_of_held (S := fun y => y.heap[w.heap.size + 1]? = some (.cells R 33 (0, 0))) _ _ _ _ ?_
          have SD : (fun y => y.heap[w.heap.size + 1]? = some (.cells R 33 (0, 0))) zz := RX.out
          have TX := Lib.hid (HT.out _ BX.out)
          refine anyH_take 0 42 (.pointer (some ⟨b, 0, none⟩)) SD rfl (by kernel_rfl) (by kernel_rfl) (by kernel_rfl) (fun _ _ _ h => h) (by rfl) (by intro y hy; go_simp) ?_
          try simp only [Act.put, List.setIfInBounds_toArray, List.set_cons_zero, List.set_cons_succ]
          refine anyH_take 1 43 (.int .i64 (i : Int)) SD rfl (by kernel_rfl) (by kernel_rfl) (by kernel_rfl) (fun _ _ _ h => h) (by rfl) (by intro y hy; go_simp) ?_
          try simp only [Act.put, List.setIfInBounds_toArray, List.set_cons_zero, List.set_cons_succ]
          refine anyH_take 2 44 (.agg R) SD rfl (by kernel_rfl) (by kernel_rfl) (by kernel_rfl) (fun _ _ _ h => h) (by rfl) (fun y hy => exec_arr _ _ (w.heap.size + 1) 0 _ _ rfl (rng_whole hy) Try.underlying33 rfl hsR) ?_
          try simp only [Act.put, List.setIfInBounds_toArray, List.set_cons_zero, List.set_cons_succ]
          refine anyH_take 3 45 (.agg V) SD rfl (by kernel_rfl) (by kernel_rfl) (by kernel_rfl) (fun _ _ _ h => h) (by rfl) (fun y hy => exec_b2 _ _ _ _ _ _ _ _ rfl rfl HBU.out) ?_
          try simp only [Act.put, List.setIfInBounds_toArray, List.set_cons_zero, List.set_cons_succ]
          refine anyH_take 4 46 (.pointer (some ⟨b, 0, none⟩)) SD rfl (by kernel_rfl) (by kernel_rfl) (by kernel_rfl) (fun _ _ _ h => h) (by rfl) (by intro y hy; go_simp) ?_
          try simp only [Act.put, List.setIfInBounds_toArray, List.set_cons_zero, List.set_cons_succ]
          refine anyH_take 5 47 (.pointer (some ⟨b, 2112, none⟩)) SD rfl (by kernel_rfl) (by kernel_rfl) (by kernel_rfl) (fun _ _ _ h => h) (by rfl) (by intro y hy; go_simp) ?_
          try simp only [Act.put, List.setIfInBounds_toArray, List.set_cons_zero, List.set_cons_succ]
          refine anyH_take 6 48 (.pointer (some ⟨b, 2112 + i * 34, none⟩)) SD rfl (by kernel_rfl) (by kernel_rfl) (by kernel_rfl) (fun _ _ _ h => h) (by rfl) (by intro y hy; go_simp) ?_
          try simp only [Act.put, List.setIfInBounds_toArray, List.set_cons_zero, List.set_cons_succ]
          refine anyH_one 7 (by kernel_rfl) ?_
          refine op_mid 7 _ _ _ rfl b (2112 + i * 34) _ _ V rfl rfl TX.out.box hsV (by rw [HVS.out, HCS.out _ TX.out]; have := HI9.out; omega) HV1.out (fun w6 G6 C6 => ⟨(C6.block _ HBN1.out).trans RX.out, ?_⟩)
          try simp only [Act.put, List.setIfInBounds_toArray, List.set_cons_zero, List.set_cons_succ]
          refine wpAnyH_done (by kernel_rfl) ?_ _
          go_wp2
          go_ret
          exact ⟨rfl, Lib.hid (HPU.out _ _ TX.out G6.out), Lib.hid ((only_of_below BX.out).trans C6.only)⟩
        · obtain ⟨m, hm⟩ : ∃ m, i = m + 1 := ⟨i - 1, by omega⟩
          have hm8 : m < 8 := by omega
          have hE2 : Tr.loadE t (i : Int) p r = if Tr.anyP p then 0 else 7 := by rw [hE, if_neg (by decide), if_neg (by omega)]
          have him : ((i : Int) == 0) = false := by simp [h0]
          have himn : ((i : Int) != 0) = true := by simp [h0]
          have HI9 : Hid (i < 9) := hi9
          cases ha : Tr.anyP p with
          | false =>
            rw [ha] at hE2 HEM
            have hE' : Tr.loadE t (i : Int) p r = 7 := hE2
            rw [hI0 (by rw [hE']; decide), hE']
            clear hE hE2 hE' hI0 hI1 hI h hk hz0 hkP hkL eA eP eL hin hpos hq HPUT hnz HLAC HVS HV1 hsV HBU hm h0
            go_enter Try.func24, Try.ntmps24
            go_upto_region 3 with (first
              | (go_at_call 49; rw [← hw1]; clear hw1; refine (HIB.out _).mono ?_; rintro e2 w2 ⟨rfl, B2⟩; have C2 := Lib.hid (B1.out.trans (B2.out.mono B1.out.size)); have R2 := Lib.hid (below_kept B2.out R1.out); have A2 := Lib.hid (below_kept B2.out A1.out))
              | ((with_reducible refine row_load_g _ _ _ _ _ _ _ ?_ ?_ R2.out Try.underlying33 ?_ hsR ?_); (exact rfl); (exact rfl); (exact rfl))
              | (go_at_call 50; refine (HLD.out _).mono ?_; rintro e3 w3 ⟨rfl, B3⟩; have C3 := Lib.hid (C2.out.trans (B3.out.mono C2.out.size)); have R3 := Lib.hid (below_kept B3.out R2.out); have A3 := Lib.hid (below_kept B3.out A2.out)))
            refine wp_region_any (by kernel_rfl) ?_
            change wpAny _ _ _ _ _ _ _ (World.drew _)
            have B4 : Hid (Below w.heap.size w w3.drew) := C3.out.drew
            have R4 : Hid (w3.drew.heap[w.heap.size + 1]? = some (.cells R 33 (0, 0))) := R3.out
            have A4 : Hid (w3.drew.heap[w.heap.size]? = some (.cells A 36 (0, 0))) := A3.out
            obtain ⟨z, hz9⟩ : ∃ y, y = w3.drew := ⟨_, rfl⟩
            rw [← hz9] at B4 R4 A4 ⊢
            clear hz9
            refine wpAny_of_held (S := fun y => y.rangeAt b (2112 + i * 34) X.toList) _ _ _ _ ?_
            have SD : (fun y => y.rangeAt b (2112 + i * 34) X.toList) z := by exact HXR.out _ (HT.out _ B4.out)
            refine anyH_take 0 17 (.pointer (some ⟨b, 0, none⟩)) SD rfl (by kernel_rfl) (by kernel_rfl) (by kernel_rfl) (fun _ _ _ h => h) (by rfl) (by intro y hy; go_simp) ?_
            try simp only [Act.put, List.setIfInBounds_toArray, List.set_cons_zero, List.set_cons_succ]
            refine anyH_take 1 18 (.int .i64 (i : Int)) SD rfl (by kernel_rfl) (by kernel_rfl) (by kernel_rfl) (fun _ _ _ h => h) (by rfl) (by intro y hy; go_simp) ?_
            try simp only [Act.put, List.setIfInBounds_toArray, List.set_cons_zero, List.set_cons_succ]
            refine anyH_take 2 19 (.pointer (some ⟨b, 0, none⟩)) SD rfl (by kernel_rfl) (by kernel_rfl) (by kernel_rfl) (fun _ _ _ h => h) (by rfl) (by intro y hy; go_simp) ?_
            try simp only [Act.put, List.setIfInBounds_toArray, List.set_cons_zero, List.set_cons_succ]
            refine anyH_take 3 20 (.pointer (some ⟨b, 2112, none⟩)) SD rfl (by kernel_rfl) (by kernel_rfl) (by kernel_rfl) (fun _ _ _ h => h) (by rfl) (by intro y hy; go_simp) ?_
            try simp only [Act.put, List.setIfInBounds_toArray, List.set_cons_zero, List.set_cons_succ]
            refine anyH_take 4 21 (.pointer (some ⟨b, 2112 + i * 34, none⟩)) SD rfl (by kernel_rfl) (by kernel_rfl) (by kernel_rfl) (fun _ _ _ h => h) (by rfl) (by intro y hy; go_simp) ?_
            try simp only [Act.put, List.setIfInBounds_toArray, List.set_cons_zero, List.set_cons_succ]
            refine anyH_take 5 22 (.agg X) SD rfl (by kernel_rfl) (by kernel_rfl) (by kernel_rfl) (fun _ _ _ h => h) (by rfl) (fun y hy => exec_arr _ _ b (2112 + i * 34) _ _ rfl hy Try.underlying65 rfl hsX) ?_
            try simp only [Act.put, List.setIfInBounds_toArray, List.set_cons_zero, List.set_cons_succ]
            refine anyH_take 7 24 (.int .i64 (i : Int)) SD rfl (by kernel_rfl) (by kernel_rfl) (by kernel_rfl) (fun _ _ _ h => h) (by rfl) (by intro y hy; go_simp) ?_
            try simp only [Act.put, List.setIfInBounds_toArray, List.set_cons_zero, List.set_cons_succ]
            refine anyH_one 6 (by kernel_rfl) ?_
            refine wpOp_step rfl (fun Kc hKc => ?_)
            go_simp
            refine (pnew_at _).mono ?_
            rintro e5 w5 ⟨rfl, G5, B5⟩
            have C5 := Lib.hid (B4.out.trans (B5.out.mono B4.out.size))
            have R5 := Lib.hid (below_kept B5.out R4.out)
            have A5 := Lib.hid (below_kept B5.out A4.out)
            have SD5 : w5.rangeAt b (2112 + i * 34) X.toList := HXR.out _ (HT.out _ C5.out)
            have Y5 : Hid (w5.rangeAt z.heap.size (2112 + i * 34) Y.toList) := HYR.out _ _ G5.out
            dsimp only
            refine hKc _ _ ⟨SD5, ?_⟩
            clear hKc Kc
            try simp only [Act.put, List.setIfInBounds_toArray, List.set_cons_zero, List.set_cons_succ]
            refine anyH_one 8 (by kernel_rfl) ?_
            refine wpOp_step rfl (fun Kc hKc => ?_)
            go_simp
            refine hKc _ _ ⟨SD5, ?_⟩
            clear hKc Kc
            try simp only [Act.put, List.setIfInBounds_toArray, List.set_cons_zero, List.set_cons_succ]
            refine anyH_one 9 (by kernel_rfl) ?_
            refine wpOp_step rfl (fun Kc hKc => ?_)
            go_simp
            refine hKc _ _ ⟨SD5, ?_⟩
            clear hKc Kc
            try simp only [Act.put, List.setIfInBounds_toArray, List.set_cons_zero, List.set_cons_succ]
            refine anyH_one 10 (by kernel_rfl) ?_
            refine wpOp_step rfl (fun Kc hKc => ?_)
            go_simp
            refine hKc _ _ ⟨SD5, ?_⟩
            clear hKc Kc
            try simp only [Act.put, List.setIfInBounds_toArray, List.set_cons_zero, List.set_cons_succ]
            refine anyH_one 11 (by kernel_rfl) ?_
            refine op_load 11 _ _ rfl z.heap.size (2112 + i * 34) Y.toList _ rfl Y5.out Try.underlying65 rfl (by rw [Array.length_toList]; exact hsY) ?_
            refine ⟨SD5, ?_⟩
            try simp only [Act.put, List.setIfInBounds_toArray, List.set_cons_zero, List.set_cons_succ]
            refine anyH_one 12 (by kernel_rfl) ?_
            refine wpOp_step rfl (fun Kc hKc => ?_)
            go_simp
            refine hKc _ _ ⟨SD5, ?_⟩
            clear hKc Kc
            try simp only [Act.put, List.setIfInBounds_toArray, List.set_cons_zero, List.set_cons_succ]
            refine wpAnyH_done (by kernel_rfl) ?_ _
            clear SD SD5 Y5 G5
            go_wp2_with (first
              | (go_at_call 51; refine (HLE.out _).mono ?_; rintro e6 w6 ⟨rfl, B6⟩; have C6 := Lib.hid (C5.out.trans (B6.out.mono C5.out.size)); have R6 := Lib.hid (below_kept B6.out R5.out); have A6 := Lib.hid (below_kept B6.out A5.out))
              | ((with_reducible refine row_load _ _ _ _ _ _ _ ?_ A5.out Try.underlying36 ?_ hsA ?_); (exact rfl); (exact rfl))
              | ((with_reducible refine row_store _ _ _ _ _ _ _ ?_ ?_ A6.out hsL HLAS.out HL1.out ?_); (exact rfl); (exact rfl); intro w7 A7 ch7; have C7 := Lib.hid (ch7.below C6.out (Nat.le_refl _)); have R7 := Lib.hid ((ch7.block _ HNN.out).trans R6.out))
              | ((with_reducible refine row_load _ _ _ _ _ _ _ ?_ A7.out Try.underlying36 ?_ hsL ?_); (exact rfl); (exact rfl))
              | (go_at_call 52; refine (HEM.out _).mono ?_; rintro e8 w8 ⟨rfl, B8⟩; have C8 := Lib.hid (C7.out.trans (B8.out.mono C7.out.size)); have R8 := Lib.hid (below_kept B8.out R7.out); have A8 := Lib.hid (below_kept B8.out A7.out)))
            go_ret
            exact ⟨rfl, Lib.hid (HT.out _ C8.out), Lib.hid (only_of_below C8.out)⟩
          | true =>
            rw [ha] at hE2 HEM
            have hE' : Tr.loadE t (i : Int) p r = 0 := hE2
            rw [hI1 hE', hE', if_neg (by omega)]
            have HU : Hid (∀ y, Calls Try.prog 53 #[.pointer (some ⟨b, 0, none⟩), .int .i64 (i : Int)] y fun e w' => ∃ c, e = .returned (.slice (some ⟨b, 8 * m * 33, none⟩) 8 c) ∧ w' = y) := fun y => by rw [hm]; exact under_any b m hm8 y
            obtain ⟨t1, ht1⟩ : ∃ t1 : Tr.T, t1 = ⟨Tr.bk t m (Tr.ldg p), t.n⟩ := ⟨_, rfl⟩
            have HPK : Hid (∀ (y z : World), PT K y b t → z.heap[b]? = some (.cells ((Tr.tcs t).take (8 * m * 33) ++ LA.toList ++ (Tr.tcs t).drop (8 * m * 33 + LA.toList.length)).toArray 68 (0, 0)) → PT K z b t1) := fun y z hy hz => by
              rw [HLAC.out] at hz
              rw [ht1]
              exact hy.putk m hm8 (Tr.ldg p) (Tr.ldg_ok hp) (fun j => by
                by_cases hj : j < 8
                · rw [Tr.ldg_at hp j hj]; exact Tr.ld1_z _
                · right
                  rw [List.getD_eq_getElem?_getD, List.getElem?_eq_none (by rw [(Tr.ldg_ok hp).1]; omega)]
                  rfl) hz
            have HB1 : Hid (t1.b = Tr.loadB t i p) := by
              show _ = _
              rw [ht1, hm]
              exact Tr.bk_load m p hp (fun k hk => hnz h0 hq k (by rw [hm]; exact hk))
            have hn1 : t1.n = t.n := by rw [ht1]
            have HPU : Hid (∀ (y z : World), PT K y b t1 → z.heap[b]? = some (.cells ((Tr.tcs t1).toArray.toList.take (2112 + i * 34) ++ (Tr.ndA (some (some r))).toList ++ (Tr.tcs t1).toArray.toList.drop (2112 + i * 34 + (Tr.ndA (some (some r))).size)).toArray 68 (0, 0)) → PT K z b ⟨Tr.loadB t i p, Tr.up t.n i (some (some r))⟩) := fun y z hy hz => by
              have q := HPUT.out y z t1 hy hz
              rw [HB1.out, hn1] at q
              exact q
            have HCS : Hid (∀ y, PT K y b t → (Tr.tcs t).length = 2418) := fun y hy => tcs_len hy.ok
            have HCS1 : Hid (∀ y, PT K y b t1 → (Tr.tcs t1).toArray.size = 2418) := fun y hy => by rw [List.size_toArray, tcs_len hy.ok]
            have HLL : Hid (LA.toList.length = 8 * 33) := by show _ = _; rw [Array.length_toList, HLS.out]
            have HLO : Hid (∀ v ∈ LA.toList, v.oneCell' = true) := fun v hv => by
              have := (Array.all_eq_true_iff_forall_mem.1 HL1.out) v (by simpa using hv)
              exact this
            have HM8 : Hid (m < 8) := hm8
            generalize (⟨Tr.loadB t i p, Tr.up t.n i (some (some r))⟩ : Tr.T) = t' at *
            generalize Tr.ndA (some (some r)) = V at *
            clear hE hE2 hE' hI0 hI1 hI h hk hz0 hkP hkL eA eP eL hin hpos hq HPUT hnz HLAC ht1 hm h0 hn1 HB1
            go_enter Try.func24, Try.ntmps24
            go_upto_region 3 with (first
              | (go_at_call 49; rw [← hw1]; clear hw1; refine (HIB.out _).mono ?_; rintro e2 w2 ⟨rfl, B2⟩; have C2 := Lib.hid (B1.out.trans (B2.out.mono B1.out.size)); have R2 := Lib.hid (below_kept B2.out R1.out); have A2 := Lib.hid (below_kept B2.out A1.out))
              | ((with_reducible refine row_load_g _ _ _ _ _ _ _ ?_ ?_ R2.out Try.underlying33 ?_ hsR ?_); (exact rfl); (exact rfl); (exact rfl))
              | (go_at_call 50; refine (HLD.out _).mono ?_; rintro e3 w3 ⟨rfl, B3⟩; have C3 := Lib.hid (C2.out.trans (B3.out.mono C2.out.size)); have R3 := Lib.hid (below_kept B3.out R2.out); have A3 := Lib.hid (below_kept B3.out A2.out)))
            refine wp_region_any (by kernel_rfl) ?_
            change wpAny _ _ _ _ _ _ _ (World.drew _)
            have B4 : Hid (Below w.heap.size w w3.drew) := C3.out.drew
            have R4 : Hid (w3.drew.heap[w.heap.size + 1]? = some (.cells R 33 (0, 0))) := R3.out
            have A4 : Hid (w3.drew.heap[w.heap.size]? = some (.cells A 36 (0, 0))) := A3.out
            obtain ⟨z, hz9⟩ : ∃ y, y = w3.drew := ⟨_, rfl⟩
            rw [← hz9] at B4 R4 A4 ⊢
            clear hz9
            refine wpAny_of_held (S := fun y => y.rangeAt b (2112 + i * 34) X.toList) _ _ _ _ ?_
            have SD : (fun y => y.rangeAt b (2112 + i * 34) X.toList) z := by exact HXR.out _ (HT.out _ B4.out)
            refine anyH_take 0 17 (.pointer (some ⟨b, 0, none⟩)) SD rfl (by kernel_rfl) (by kernel_rfl) (by kernel_rfl) (fun _ _ _ h => h) (by rfl) (by intro y hy; go_simp) ?_
            try simp only [Act.put, List.setIfInBounds_toArray, List.set_cons_zero, List.set_cons_succ]
            refine anyH_take 1 18 (.int .i64 (i : Int)) SD rfl (by kernel_rfl) (by kernel_rfl) (by kernel_rfl) (fun _ _ _ h => h) (by rfl) (by intro y hy; go_simp) ?_
            try simp only [Act.put, List.setIfInBounds_toArray, List.set_cons_zero, List.set_cons_succ]
            refine anyH_take 2 19 (.pointer (some ⟨b, 0, none⟩)) SD rfl (by kernel_rfl) (by kernel_rfl) (by kernel_rfl) (fun _ _ _ h => h) (by rfl) (by intro y hy; go_simp) ?_
            try simp only [Act.put, List.setIfInBounds_toArray, List.set_cons_zero, List.set_cons_succ]
            refine anyH_take 3 20 (.pointer (some ⟨b, 2112, none⟩)) SD rfl (by kernel_rfl) (by kernel_rfl) (by kernel_rfl) (fun _ _ _ h => h) (by rfl) (by intro y hy; go_simp) ?_
            try simp only [Act.put, List.setIfInBounds_toArray, List.set_cons_zero, List.set_cons_succ]
            refine anyH_take 4 21 (.pointer (some ⟨b, 2112 + i * 34, none⟩)) SD rfl (by kernel_rfl) (by kernel_rfl) (by kernel_rfl) (fun _ _ _ h => h) (by rfl) (by intro y hy; go_simp) ?_
            try simp only [Act.put, List.setIfInBounds_toArray, List.set_cons_zero, List.set_cons_succ]
            refine anyH_take 5 22 (.agg X) SD rfl (by kernel_rfl) (by kernel_rfl) (by kernel_rfl) (fun _ _ _ h => h) (by rfl) (fun y hy => exec_arr _ _ b (2112 + i * 34) _ _ rfl hy Try.underlying65 rfl hsX) ?_
            try simp only [Act.put, List.setIfInBounds_toArray, List.set_cons_zero, List.set_cons_succ]
            refine anyH_take 7 24 (.int .i64 (i : Int)) SD rfl (by kernel_rfl) (by kernel_rfl) (by kernel_rfl) (fun _ _ _ h => h) (by rfl) (by intro y hy; go_simp) ?_
            try simp only [Act.put, List.setIfInBounds_toArray, List.set_cons_zero, List.set_cons_succ]
            refine anyH_one 6 (by kernel_rfl) ?_
            refine wpOp_step rfl (fun Kc hKc => ?_)
            go_simp
            refine (pnew_at _).mono ?_
            rintro e5 w5 ⟨rfl, G5, B5⟩
            have C5 := Lib.hid (B4.out.trans (B5.out.mono B4.out.size))
            have R5 := Lib.hid (below_kept B5.out R4.out)
            have A5 := Lib.hid (below_kept B5.out A4.out)
            have SD5 : w5.rangeAt b (2112 + i * 34) X.toList := HXR.out _ (HT.out _ C5.out)
            have Y5 : Hid (w5.rangeAt z.heap.size (2112 + i * 34) Y.toList) := HYR.out _ _ G5.out
            dsimp only
            refine hKc _ _ ⟨SD5, ?_⟩
            clear hKc Kc
            try simp only [Act.put, List.setIfInBounds_toArray, List.set_cons_zero, List.set_cons_succ]
            refine anyH_one 8 (by kernel_rfl) ?_
            refine wpOp_step rfl (fun Kc hKc => ?_)
            go_simp
            refine hKc _ _ ⟨SD5, ?_⟩
            clear hKc Kc
            try simp only [Act.put, List.setIfInBounds_toArray, List.set_cons_zero, List.set_cons_succ]
            refine anyH_one 9 (by kernel_rfl) ?_
            refine wpOp_step rfl (fun Kc hKc => ?_)
            go_simp
            refine hKc _ _ ⟨SD5, ?_⟩
            clear hKc Kc
            try simp only [Act.put, List.setIfInBounds_toArray, List.set_cons_zero, List.set_cons_succ]
            refine anyH_one 10 (by kernel_rfl) ?_
            refine wpOp_step rfl (fun Kc hKc => ?_)
            go_simp
            refine hKc _ _ ⟨SD5, ?_⟩
            clear hKc Kc
            try simp only [Act.put, List.setIfInBounds_toArray, List.set_cons_zero, List.set_cons_succ]
            refine anyH_one 11 (by kernel_rfl) ?_
            refine op_load 11 _ _ rfl z.heap.size (2112 + i * 34) Y.toList _ rfl Y5.out Try.underlying65 rfl (by rw [Array.length_toList]; exact hsY) ?_
            refine ⟨SD5, ?_⟩
            try simp only [Act.put, List.setIfInBounds_toArray, List.set_cons_zero, List.set_cons_succ]
            refine anyH_one 12 (by kernel_rfl) ?_
            refine wpOp_step rfl (fun Kc hKc => ?_)
            go_simp
            refine hKc _ _ ⟨SD5, ?_⟩
            clear hKc Kc
            try simp only [Act.put, List.setIfInBounds_toArray, List.set_cons_zero, List.set_cons_succ]
            refine wpAnyH_done (by kernel_rfl) ?_ _
            clear SD SD5 Y5 G5
            go_upto_region 9 with (first
              | (go_at_call 51; refine (HLE.out _).mono ?_; rintro e6 w6 ⟨rfl, B6⟩; have C6 := Lib.hid (C5.out.trans (B6.out.mono C5.out.size)); have R6 := Lib.hid (below_kept B6.out R5.out); have A6 := Lib.hid (below_kept B6.out A5.out))
              | ((with_reducible refine row_load _ _ _ _ _ _ _ ?_ A5.out Try.underlying36 ?_ hsA ?_); (exact rfl); (exact rfl))
              | ((with_reducible refine row_store _ _ _ _ _ _ _ ?_ ?_ A6.out hsL HLAS.out HL1.out ?_); (exact rfl); (exact rfl); intro w7 A7 ch7; have C7 := Lib.hid (ch7.below C6.out (Nat.le_refl _)); have R7 := Lib.hid ((ch7.block _ HNN.out).trans R6.out))
              | ((with_reducible refine row_load _ _ _ _ _ _ _ ?_ A7.out Try.underlying36 ?_ hsL ?_); (exact rfl); (exact rfl))
              | (go_at_call 52; refine (HEM.out _).mono ?_; rintro e8 w8 ⟨rfl, B8⟩; have C8 := Lib.hid (C7.out.trans (B8.out.mono C7.out.size)); have R8 := Lib.hid (below_kept B8.out R7.out); have A8 := Lib.hid (below_kept B8.out A7.out)))
            refine wp_region_any (by kernel_rfl) ?_
            change wpAny _ _ _ _ _ _ _ (World.drew _)
            have B9 : Hid (Below w.heap.size w w8.drew) := C8.out.drew
            have R9 : Hid (w8.drew.heap[w.heap.size + 1]? = some (.cells R 33 (0, 0))) := R8.out
            have A9 : Hid (w8.drew.heap[w.heap.size]? = some (.cells LA 36 (0, 0))) := A8.out
            obtain ⟨z9, hz9⟩ : ∃ y, y = w8.drew := ⟨_, rfl⟩
            rw [← hz9] at B9 R9 A9 ⊢
            clear hz9
            refine wpAny_of_held (S := fun _ => True) _ _ _ _ ?_
            have SD : (fun _ => True) z9 := trivial
            have T9 := Lib.hid (HT.out _ B9.out)
            refine anyH_take 0 36 (.pointer (some ⟨b, 0, none⟩)) SD rfl (by kernel_rfl) (by kernel_rfl) (by kernel_rfl) (fun _ _ _ h => h) (by rfl) (by intro y hy; go_simp) ?_
            try simp only [Act.put, List.setIfInBounds_toArray, List.set_cons_zero, List.set_cons_succ]
            refine anyH_take 1 37 (.int .i64 (i : Int)) SD rfl (by kernel_rfl) (by kernel_rfl) (by kernel_rfl) (fun _ _ _ h => h) (by rfl) (by intro y hy; go_simp) ?_
            try simp only [Act.put, List.setIfInBounds_toArray, List.set_cons_zero, List.set_cons_succ]
            refine anyH_take 3 39 (.pointer (some ⟨w.heap.size, 0, none⟩)) SD rfl (by kernel_rfl) (by kernel_rfl) (by kernel_rfl) (fun _ _ _ h => h) (by rfl) (by intro y hy; go_simp) ?_
            try simp only [Act.put, List.setIfInBounds_toArray, List.set_cons_zero, List.set_cons_succ]
            refine anyH_take 4 40 (.slice (some ⟨w.heap.size, 0, none⟩) 8 8) SD rfl (by kernel_rfl) (by kernel_rfl) (by kernel_rfl) (fun _ _ _ h => h) (by rfl) (by intro y hy; go_simp) ?_
            try simp only [Act.put, List.setIfInBounds_toArray, List.set_cons_zero, List.set_cons_succ]
            refine anyH_one 2 (by kernel_rfl) ?_
            refine wpOp_step rfl (fun Kc hKc => ?_)
            go_simp
            refine (HU.out _).mono ?_
            rintro e9 w9 ⟨c9, rfl, rfl⟩
            dsimp only
            refine hKc _ _ ⟨trivial, ?_⟩
            clear hKc Kc
            try simp only [Act.put, List.setIfInBounds_toArray, List.set_cons_zero, List.set_cons_succ]
            refine anyH_one 5 (by kernel_rfl) ?_
            refine op_copyN 5 _ _ _ _ rfl 33 b (8 * m * 33) 8 _ _ ⟨w.heap.size, 0, none⟩ 68 (Tr.tcs t) LA.toList 33 rfl rfl T9.out.box Try.underlying40 Try.sizeRef33 HLL.out (fun j v hv => by rw [Addr.add_mid]; exact rng_whole A9.out j v hv) (by rw [HLL.out, HCS.out _ T9.out]; have := HM8.out; omega) HLO.out (fun w10 G10 C10 => ⟨trivial, ?_⟩)
            have T10 := Lib.hid (HPK.out _ _ T9.out G10.out)
            have R10 := Lib.hid ((C10.block _ HBN1.out).trans R9.out)
            have O10 := Lib.hid ((only_of_below B9.out).trans C10.only)
            clear G10
            try simp only [Act.put, List.setIfInBounds_toArray, List.set_cons_zero, List.set_cons_succ]
            refine wpAnyH_done (by kernel_rfl) ?_ _
            clear SD
            go_upto_region 10 with (fail)
            refine wp_region_any (by kernel_rfl) ?_
            change wpAny _ _ _ _ _ _ _ (World.drew _)
            have OX : Hid (Only b w w10.drew) := O10.out.drew
            have RX : Hid (w10.drew.heap[w.heap.size + 1]? = some (.cells R 33 (0, 0))) := R10.out
            have TX : Hid (PT K w10.drew b t1) := ⟨T10.out.box, T10.out.ok, T10.out.tz, T10.out.lo⟩
            obtain ⟨zz, hz9⟩ : ∃ y, y = w10.drew := ⟨_, rfl⟩
            rw [← hz9] at OX RX TX ⊢
            clear hz9
            refine wpAny_of_held (S := fun y => y.heap[w.heap.size + 1]? = some (.cells R 33 (0, 0))) _ _ _ _ ?_
            have SD : (fun y => y.heap[w.heap.size + 1]? = some (.cells R 33 (0, 0))) zz := RX.out
            refine anyH_take 0 42 (.pointer (some ⟨b, 0, none⟩)) SD rfl (by kernel_rfl) (by kernel_rfl) (by kernel_rfl) (fun _ _ _ h => h) (by rfl) (by intro y hy; go_simp) ?_
            try simp only [Act.put, List.setIfInBounds_toArray, List.set_cons_zero, List.set_cons_succ]
            refine anyH_take 1 43 (.int .i64 (i : Int)) SD rfl (by kernel_rfl) (by kernel_rfl) (by kernel_rfl) (fun _ _ _ h => h) (by rfl) (by intro y hy; go_simp) ?_
            try simp only [Act.put, List.setIfInBounds_toArray, List.set_cons_zero, List.set_cons_succ]
            refine anyH_take 2 44 (.agg R) SD rfl (by kernel_rfl) (by kernel_rfl) (by kernel_rfl) (fun _ _ _ h => h) (by rfl) (fun y hy => exec_arr _ _ (w.heap.size + 1) 0 _ _ rfl (rng_whole hy) Try.underlying33 rfl hsR) ?_
            try simp only [Act.put, List.setIfInBounds_toArray, List.set_cons_zero, List.set_cons_succ]
            refine anyH_take 3 45 (.agg V) SD rfl (by kernel_rfl) (by kernel_rfl) (by kernel_rfl) (fun _ _ _ h => h) (by rfl) (fun y hy => exec_b2 _ _ _ _ _ _ _ _ rfl rfl HBU.out) ?_
            try simp only [Act.put, List.setIfInBounds_toArray, List.set_cons_zero, List.set_cons_succ]
            refine anyH_take 4 46 (.pointer (some ⟨b, 0, none⟩)) SD rfl (by kernel_rfl) (by kernel_rfl) (by kernel_rfl) (fun _ _ _ h => h) (by rfl) (by intro y hy; go_simp) ?_
            try simp only [Act.put, List.setIfInBounds_toArray, List.set_cons_zero, List.set_cons_succ]
            refine anyH_take 5 47 (.pointer (some ⟨b, 2112, none⟩)) SD rfl (by kernel_rfl) (by kernel_rfl) (by kernel_rfl) (fun _ _ _ h => h) (by rfl) (by intro y hy; go_simp) ?_
            try simp only [Act.put, List.setIfInBounds_toArray, List.set_cons_zero, List.set_cons_succ]
            refine anyH_take 6 48 (.pointer (some ⟨b, 2112 + i * 34, none⟩)) SD rfl (by kernel_rfl) (by kernel_rfl) (by kernel_rfl) (fun _ _ _ h => h) (by rfl) (by intro y hy; go_simp) ?_
            try simp only [Act.put, List.setIfInBounds_toArray, List.set_cons_zero, List.set_cons_succ]
            refine anyH_one 7 (by kernel_rfl) ?_
            refine op_mid 7 _ _ _ rfl b (2112 + i * 34) _ _ V rfl rfl TX.out.box hsV (by rw [HVS.out, HCS1.out _ TX.out]; have := HI9.out; omega) HV1.out (fun w11 G11 C11 => ⟨(C11.block _ HBN1.out).trans RX.out, ?_⟩)
            try simp only [Act.put, List.setIfInBounds_toArray, List.set_cons_zero, List.set_cons_succ]
            refine wpAnyH_done (by kernel_rfl) ?_ _
            go_wp2
            go_ret
            exact ⟨rfl, Lib.hid (HPU.out _ _ TX.out G11.out), Lib.hid (OX.out.trans C11.only)⟩
    · rw [decide_eq_false hpos] at HLD hE
      have hE' : Tr.loadE t N p r = 7 := hE
      rw [hI0 (by rw [hE']; decide), hE']
      clear hE hE' hI0 hI1 hI h hk hz0 hkP hkL eA eP eL hin hpos HLAC HLE HEM HLAS HLS HL1 hsL
      go_enter Try.func24, Try.ntmps24
      go_wp2_with (first
        | (go_at_call 49; rw [← hw1]; clear hw1; refine (HIB.out _).mono ?_; rintro e2 w2 ⟨rfl, B2⟩; have C2 := Lib.hid (B1.out.trans (B2.out.mono B1.out.size)); have R2 := Lib.hid (below_kept B2.out R1.out); have A2 := Lib.hid (below_kept B2.out A1.out))
        | ((with_reducible refine row_load_g _ _ _ _ _ _ _ ?_ ?_ R2.out Try.underlying33 ?_ hsR ?_); (exact rfl); (exact rfl); (exact rfl))
        | (go_at_call 50; refine (HLD.out _).mono ?_; rintro e3 w3 ⟨rfl, B3⟩; have C3 := Lib.hid (C2.out.trans (B3.out.mono C2.out.size)); have R3 := Lib.hid (below_kept B3.out R2.out); have A3 := Lib.hid (below_kept B3.out A2.out)))
      go_ret
      exact ⟨rfl, Lib.hid (HT.out _ C3.out), Lib.hid (only_of_below C3.out)⟩
  · rw [decide_eq_false hin] at HIB hE
    have hE' : Tr.loadE t N p r = 7 := hE
    rw [hI0 (by rw [hE']; decide), hE']
    clear hE hE' hI0 hI1 hI h hk hz0 hkP hkL eA eP eL hin HLAC HLE HEM HLAS HLS HL1 hsL HLD
    go_enter Try.func24, Try.ntmps24
    go_wp2_with (first
      | (go_at_call 49; rw [← hw1]; clear hw1; refine (HIB.out _).mono ?_; rintro e2 w2 ⟨rfl, B2⟩; have C2 := Lib.hid (B1.out.trans (B2.out.mono B1.out.size)); have R2 := Lib.hid (below_kept B2.out R1.out); have A2 := Lib.hid (below_kept B2.out A1.out)))
    go_ret
    exact ⟨rfl, Lib.hid (HT.out _ C2.out), Lib.hid (only_of_below C2.out)⟩
end Go.Proofs.Ytfeemeddhhgigaa

/-
  The program's tree: contracts: soil, turn.
-/
import Derived.Test.YtfeemeddhhgigaaTrPh
namespace Go.Proofs.Ytfeemeddhhgigaa
open Go.RowKit

section
variable {P : Program} {ops : Array Oper} {rest : List Oper} {a : Act} {w : World} {Q : Exit → Act → World → Prop} {D : Option Tmp} {T : TypeId} {ps : String} {af : Array Edge}
theorem row_build1 (t : TypeId) (i : Nat) (x : Operand) (v : Value) (R : Array Value) (hx : a.eval x = v) (hr : P.built t [(i, v)] = some R) (h : wpList P ops Q rest (a.put D (.agg R)) w) :
    wpList P ops Q ({ dst := D, op := .build t #[(i, x)], type := T, pos := ps, after := af, guard := none } :: rest) a w :=
  wpList_plain rfl fun K hK => by
    have hrun := run_build (P := P) w t #[(i, v)] R hr
    unfold Oper.wp execOp
    simp only [hx, List.map_toArray, List.map_cons, List.map_nil, hrun, Sem.run_bind, Sem.run_pure, Result.andThen_ok]
    exact hK _ _ h
end
theorem OB.of_belowK {b B : Nat} {w w' : World} (h : Below B w w') : OB b B w w' := ⟨h.os, h.tape, h.output, h.size, fun k h1 _ => h.block k h1⟩
theorem OB.drew {b B : Nat} {w w' : World} (h : OB b B w w') : OB b B w w'.drew := ⟨h.os, h.tape, h.output, h.size, h.block⟩
namespace Tr
open Pg (Rf zr zp)
/-- Two nodes turn dirty, one behind the other. -/
def soT (t : T) (i : Nat) : Nat → T
  | 0 => t
  | 1 => ⟨t.b, up t.n i (some none)⟩
  | _ => touchT t i
def soD (t : T) (i : Nat) : Nat → List Rf
  | 0 => []
  | 1 => alv (nr (t.n i))
  | _ => touchD t i
def soI (i : Nat) : Nat → Nat
  | 0 => i
  | _ => 0
theorem soT_step (t : T) (i j : Nat) (hj : j < 2) : soT t i (j + 1) = ⟨(soT t i j).b, up (soT t i j).n (soI i j) (some none)⟩ := by
  obtain rfl | rfl : j = 0 ∨ j = 1 := by omega
  · rfl
  · rfl
theorem soD_step (t : T) (i j : Nat) (hj : j < 2) : soD t i (j + 1) = soD t i j ++ alv (nr ((soT t i j).n (soI i j))) := by
  obtain rfl | rfl : j = 0 ∨ j = 1 := by omega
  · rfl
  · show touchD t i = alv (nr (t.n i)) ++ alv (nr (up t.n i (some none) 0))
    unfold touchD
    by_cases h : i = 0
    · subst h
      rw [if_pos rfl, up_same]
      exact (List.append_nil _).symm
    · rw [if_neg h, up_other _ _ _ _ (fun e => h e.symm)]
theorem soD_len (t : T) (i : Nat) : ∀ j, (soD t i j).length ≤ 2
  | 0 => by simp [soD]
  | 1 => by
    have := alv_len (nr (t.n i))
    show (alv (nr (t.n i))).length ≤ 2
    omega
  | j + 2 => by
    have h1 := alv_len (nr (t.n i))
    have h2 := alv_len (nr (t.n 0))
    show (touchD t i).length ≤ 2
    unfold touchD
    split
    · omega
    · rw [List.length_append]; omega
theorem page_has {u : T} (h : TZ u) (m : Nat) (hm : m < 8) : decide (pageL u ((m + 1 : Nat) : Int) = zp) = !has u (m + 1) := by
  cases hh : has u (m + 1) with
  | true =>
    show _ = false
    refine decide_eq_false (fun e => ?_)
    obtain ⟨k, hk, hp⟩ := (has_iff u (m + 1) (by omega)).1 hh
    unfold lf at hk
    have h2 := page_leaf u m (k - 8 * m) hm (by omega)
    rw [show 8 * m + (k - 8 * m) = k by omega, e] at h2
    rw [← h2] at hp
    have h3 : zp.getD (k - 8 * m) zr = zr := by unfold zp; rw [List.getD_eq_getElem?_getD, List.getElem?_replicate]; split <;> rfl
    rw [h3] at hp
    exact zr_no hp
  | false =>
    show _ = true
    refine decide_eq_true (List.ext_getElem (by rw [page_len]; rfl) (fun j h1 h2 => ?_))
    rw [page_len] at h1
    have h3 := page_leaf u m j hm h1
    rw [List.getD_eq_getElem?_getD, List.getElem?_eq_getElem (by rw [page_len]; exact h1)] at h3
    have h4 : (pageL u ((m + 1 : Nat) : Int))[j] = u.b (8 * m + j) := h3
    rw [h4]
    have h5 : zp[j] = zr := by
      show (List.replicate 8 zr)[j]'h2 = zr
      exact List.getElem_replicate _
    rw [h5]
    refine (h.1 (8 * m + j)).resolve_left (fun hp => ?_)
    have : has u (m + 1) = true := (has_iff u (m + 1) (by omega)).2 ⟨8 * m + j, by unfold lf; omega, hp⟩
    rw [hh] at this
    cases this
theorem lf_int (k : Nat) (hk : k < 64) : Pg.lf (k : Int) = ((lf k : Nat) : Int) := by
  unfold Pg.lf lf
  rw [if_pos ⟨by omega, by omega⟩]
  omega
end Tr
def DtSay (K b : Nat) (t' : Tr.T) (D : List Pg.Rf) (w : World) (e : Ending) (w' : World) : Prop :=
  ∃ v, e = .returned v ∧ Hid (Fl w.heap.size 33 33 w' v (D.map rfA)) ∧ Hid (PT K w' b t') ∧ Hid (Only b w w')
set_option maxHeartbeats 4000000 in
set_option maxRecDepth 100000 in
theorem soil_any {K b : Nat} {t : Tr.T} (i g c : Nat) (hi : i < 9) (w : World) (h : PT K w b t) (hgb : g ≠ b) (hg0 : w.cell? ⟨g, 0, none⟩ = some (.int .i64 (i : Int))) (hg1 : w.cell? ⟨g, 1, none⟩ = some (.int .i64 0)) :
    Calls Try.prog 63 #[.pointer (some ⟨b, 0, none⟩), .slice (some ⟨g, 0, none⟩) 2 c] w (DtSay K b (Tr.touchT t i) (Tr.touchD t i) w) := by
  have hgl := World.block_lt_of_cell? w _ hg0
  have hbw : b < w.heap.size := h.lt
  have HSRC : Hid (∀ y j, OB b w.heap.size w y → j < 2 → y.cell? ⟨g, j, none⟩ = some (.int .i64 ((Tr.soI i j : Nat) : Int))) := fun y j hy hj => by
    rw [World.cell?_of_block (hy.block g hgl hgb)]
    obtain rfl | rfl : j = 0 ∨ j = 1 := by omega
    · exact hg0
    · exact hg1
  have HI9 : Hid (∀ j, Tr.soI i j < 9) := fun j => by
    cases j with
    | zero => exact hi
    | succ j => show 0 < 9; omega
  have HST := Lib.hid (Tr.soT_step t i)
  have HSD := Lib.hid (Tr.soD_step t i)
  have HDL := Lib.hid (Tr.soD_len t i)
  have HE1 : Hid (Tr.soT t i 2 = Tr.touchT t i) := rfl
  have HE2 : Hid (Tr.soD t i 2 = Tr.touchD t i) := rfl
  have HT0 : Hid (PT K w b (Tr.soT t i 0)) := h
  have hsX : (Try.prog.info? 65).map (·.size) = some (Tr.ndA (some none)).size := by
    rw [Try.sizeNodeP]
    have : (Tr.ndA (some none)).size = 34 := by unfold Tr.ndA Tr.ndc; rw [List.size_toArray, List.length_cons]; exact congrArg (· + 1) (cl_len Pg.ok_zr)
    rw [this]
  have HXS : Hid ((Tr.ndA (some none)).size = 34) := by show _ = _; unfold Tr.ndA Tr.ndc; rw [List.size_toArray, List.length_cons]; exact congrArg (· + 1) (cl_len Pg.ok_zr)
  have HX1 := Lib.hid (nda_one (some none))
  have HBU := Lib.hid build_nds
  unfold DtSay
  rw [← HE1.out, ← HE2.out]
  obtain ⟨X, hX⟩ : ∃ X, Tr.ndA (some none) = X := ⟨_, rfl⟩
  have HXE := Lib.hid hX
  rw [hX] at hsX HXS HX1 HBU
  clear h hg0 hg1 HE1 HE2 hX
  go_enter Try.func63, Try.ntmps63
  go_wp2
  go_loopw [5, 10] (fun v5 v10 wr => ∃ j : Nat, j ≤ 2 ∧ v10 = .int .i64 j ∧ Hid (Fl w.heap.size 33 33 wr v5 ((Tr.soD t i j).map rfA)) ∧ Hid (PT K wr b (Tr.soT t i j)) ∧ Hid (OB b w.heap.size w wr)) (fun _ v10 _ => 2 - (intOf v10).toNat)
  case atStart => exact ⟨0, by omega, rfl, fl_nil _ _ _ _, HT0, OB.refl _ _ _⟩
  case round =>
    clear HT0
    obtain ⟨j, hj, rfl, HF, HT, HO⟩ := hrel
    by_cases hlt : j < 2
    · have hj0 : 0 ≤ (j : Int) := by omega
      have hj1 : (j : Int) < 2 := by omega
      have d1 := HSRC.out _ j HO.out hlt
      have HM9 := Lib.hid (HI9.out j)
      have hm9 : ((Tr.soI i j : Nat) : Int) < 9 := by have := HM9.out; omega
      have hm0 : 0 ≤ ((Tr.soI i j : Nat) : Int) := by omega
      have HS2 := Lib.hid (HST.out j hlt)
      have HD2 : Hid ((Tr.soD t i (j + 1)).map rfA = (Tr.soD t i j).map rfA ++ (Tr.alv (Tr.nr ((Tr.soT t i j).n (Tr.soI i j)))).map rfA) := by show _ = _; rw [HSD.out j hlt, List.map_append]
      have HLN : Hid (((Tr.soD t i j).map rfA).length ≤ 2) := by show _ ≤ _; rw [List.length_map]; exact HDL.out j
      generalize Tr.soI i j = m at *
      have HPUT : Hid (∀ (y z : World), PT K y b (Tr.soT t i j) → z.heap[b]? = some (.cells ((Tr.tcs (Tr.soT t i j)).toArray.toList.take (2112 + m * 34) ++ X.toList ++ (Tr.tcs (Tr.soT t i j)).toArray.toList.drop (2112 + m * 34 + X.size)).toArray 68 (0, 0)) → PT K z b (Tr.soT t i (j + 1))) := fun y z hy hz => by
        rw [HS2.out]
        exact hy.putn m HM9.out (some none) (fun r e => by cases e) (Or.inr rfl) X HXE.out hz
      obtain ⟨u, hu⟩ : ∃ u, Tr.soT t i j = u := ⟨_, rfl⟩
      rw [hu] at HT HPUT HD2
      clear HS2 hu
      obtain ⟨R, Z, eA, _, hk, hz0⟩ := rfz (nr_ok HT.out.ok m)
      have hzz := HT.out.tz.2 m
      have HRS := Lib.hid hk.size
      have HR1 := Lib.hid hk.one
      have hsR := row_size Try.sizeRef33 HRS
      have HR : Hid (wr.rangeAt b (2112 + m * 34 + 1) R.toList) := by rw [← eA]; exact HT.out.rf m HM9.out
      have HT1 : Hid (∀ (y : World) (g c : Nat), y.heap[g]? = some (.cells R 33 (0, 0)) → Calls Try.prog 45 #[.slice (some ⟨g, 0, none⟩) 1 c] y (ToSay (Tr.alv (Tr.nr (u.n m))) y)) := fun y g c hy => told_one _ (nr_ok HT.out.ok m) hzz y g c R eA hy
      have HAL := Lib.hid (alv_len (Tr.nr (u.n m)))
      have HCS : Hid ((Tr.tcs u).toArray.size = 2418) := by show _ = _; rw [List.size_toArray, tcs_len HT.out.ok]
      unfold ToSay at HT1
      generalize Tr.alv (Tr.nr (u.n m)) = V at *
      have HDJ : Hid (Fl w.heap.size 33 33 wr _ ((Tr.soD t i j).map rfA)) := HF
      generalize (Tr.soD t i j).map rfA = M at *
      clear hk hz0 eA hzz HST HSD HDL HSRC HI9 hlt HF
      go_wp2_with (first
        | ((with_reducible refine rng_load _ _ _ _ _ _ ?_ HR.out Try.underlying33 ?_ hsR ?_); (exact rfl); (exact rfl))
        | ((with_reducible refine bs1_g _ _ _ R 33 40 Try.underlying40 Try.infoRf (rfa_size pg_zr) HRS.out ?_ ?_ _ ?_ ?_); (decide); (decide); (exact rfl))
        | (go_at_call 45; refine (HT1.out _ _ _ (heap_alloc_new _ _)).mono ?_; rintro e3 w3 ⟨v3', rfl, F3, B3⟩; have C3 := Lib.hid (((Below.refl _ wr).alloc (Nat.le_refl _) _).trans (B3.out.mono (((Below.refl wr.heap.size wr).alloc (Nat.le_refl _) _).size))); have FF := Lib.hid (HDJ.out.old C3.out); have T3 := Lib.hid (HT.out.old C3.out); have O3 := Lib.hid (HO.out.trans (OB.of_below (b := b) C3.out HO.out.size)))
        | (at_builtin; (with_reducible refine app_fl2 _ _ _ 33 40 Try.underlying40 Try.infoRf (rfa_size pg_zr) ?_ ?_ _ _ w.heap.size _ _ _ _ _ ?_ ?_ FF.out F3.out (one_rfs _) ?_ O3.out.size ?_); (decide); (decide); (exact rfl); (exact rfl); (have q1 := HAL.out; have q2 := HLN.out; rw [List.length_map]; omega); intro v9 y9 HF9 HB9; have T9 := Lib.hid (T3.out.keep (HB9.out.block b hbw)); have O9 := Lib.hid (O3.out.trans (OB.of_belowK (b := b) HB9.out)))
        | ((with_reducible refine row_build1 _ _ _ _ _ ?_ HBU.out ?_); (exact rfl))
        | ((with_reducible refine mid_store _ _ _ b (2112 + m * 34) _ _ _ ?_ ?_ T9.out.box hsX ?_ HX1.out ?_); (exact rfl); (exact rfl); (rw [HXS.out, HCS.out]; have := HM9.out; omega); intro w5 G5 ch5))
      have T5 := Lib.hid (HPUT.out _ _ T9.out G5.out)
      have F5 := Lib.hid (HF9.out.only ch5.only (HF9.out.off_box T9.out.box (by decide)))
      exact ⟨⟨j + 1, by omega, by go_num, by rw [HD2.out]; exact F5, T5, O9.out.trans (OB.of_only ch5.only O9.out.size)⟩, by simp [intOf]; omega⟩
    · have E : j = 2 := by omega
      subst E
      clear hlt
      go_wp2
      go_ret
      exact ⟨_, rfl, HF, HT, Lib.hid (HO.out.only (Nat.le_refl _))⟩
set_option maxHeartbeats 4000000 in
set_option maxRecDepth 100000 in
theorem turn_any {K b : Nat} {t : Tr.T} (k : Nat) (hk : k < 64) (r : Pg.Rf) (hr : Pg.Ok r) (hz : 0 < r.1 ∨ r = Pg.zr) (w : World) (h : PT K w b t) :
    Calls Try.prog 54 #[.pointer (some ⟨b, 0, none⟩), .int .i64 (k : Int), .agg (rfA r)] w (DtSay K b (Tr.act t k r) (Tr.dead t k) w) := by
  obtain ⟨hl1, hl9⟩ := Tr.lf_in hk
  obtain ⟨l, hl⟩ : ∃ l, Tr.lf k = l := ⟨_, rfl⟩
  obtain ⟨m, hm⟩ : ∃ m, l = m + 1 := ⟨l - 1, by omega⟩
  have HLF : Hid (∀ y, Calls Try.prog 65 #[.int .i64 (k : Int)] y (fun e w' => e = .returned (.tuple #[.int .i64 (l : Int), .int .i64 (Pg.lp (k : Int))]) ∧ Hid (Below y.heap.size y w'))) := fun y => by
    have q := pleaf_any (k : Int) y
    unfold LeafSay at q
    rw [Tr.lf_int k hk, hl] at q
    exact q
  have HSO : Hid (∀ (y : World) (g c : Nat), PT K y b t → g ≠ b → y.cell? ⟨g, 0, none⟩ = some (.int .i64 (l : Int)) → y.cell? ⟨g, 1, none⟩ = some (.int .i64 0) → Calls Try.prog 63 #[.pointer (some ⟨b, 0, none⟩), .slice (some ⟨g, 0, none⟩) 2 c] y (DtSay K b (Tr.touchT t l) (Tr.touchD t l) y)) := fun y g c hy h1 h2 h3 => soil_any l g c (by omega) y hy h1 h2 h3
  obtain ⟨R, Z, eA, _, hkR, hz0⟩ := rfz hr
  have HRS := Lib.hid hkR.size
  have HR1 := Lib.hid hkR.one
  have hsR := row_size Try.sizeRef33 HRS
  obtain ⟨S, Z2, eS, _, hkS, _⟩ := rfz (h.ok.1 k)
  have HSS := Lib.hid hkS.size
  have HS1 := Lib.hid hkS.one
  have hsS := row_size Try.sizeRef33 HSS
  have HBK : Hid (∀ y, PT K y b t → y.rangeAt b (k * 33) S.toList) := fun y hy => by rw [← eS]; exact hy.blk k hk
  have HT1 : Hid (∀ (y : World) (g c : Nat), y.heap[g]? = some (.cells S 33 (0, 0)) → Calls Try.prog 45 #[.slice (some ⟨g, 0, none⟩) 1 c] y (ToSay (Tr.alv (t.b k)) y)) := fun y g c hy => told_one _ (h.ok.1 k) (h.tz.1 k) y g c S eS hy
  have HT0 : Hid (∀ y, Below w.heap.size w y → PT K y b t) := fun y hy => h.old hy
  obtain ⟨t1, ht1⟩ : ∃ t1 : Tr.T, t1 = Tr.touchT t l := ⟨_, rfl⟩
  obtain ⟨t2, ht2⟩ : ∃ t2 : Tr.T, t2 = ⟨Tr.up t1.b k r, t1.n⟩ := ⟨_, rfl⟩
  have HPUT : Hid (∀ (y z : World), PT K y b t1 → z.heap[b]? = some (.cells ((Tr.tcs t1).toArray.toList.take (k * 33) ++ R.toList ++ (Tr.tcs t1).toArray.toList.drop (k * 33 + R.size)).toArray 68 (0, 0)) → PT K z b t2) := fun y z hy hz2 => by
    rw [ht2]
    exact hy.putb k hk r hr hz R eA hz2
  have HPG : Hid (∀ y, PT K y b t2 → Calls Try.prog 25 #[.pointer (some ⟨b, 0, none⟩), .int .i64 (l : Int)] y (PgSay (Tr.pageL t2 (l : Int)) y)) := fun y hy => ppage_any (l : Int) y hy
  have HEM : Hid (∀ u, PT K u b t2 → ∀ y, Calls Try.prog 52 #[PV (Tr.pageL t2 (l : Int))] y (BoSay (!Tr.has t2 l) y)) := fun u hu y => by
    have q := empty_any (Tr.pageL t2 (l : Int)) (Tr.page_ok hu.ok _) y
    have e : decide (Tr.pageL t2 (l : Int) = Pg.zp) = !Tr.has t2 l := by
      have := Tr.page_has hu.tz m (by omega)
      rw [← hm] at this
      exact this
    rw [e] at q
    exact q
  have hn0 : t2.n l = some none := by
    rw [ht2, ht1]
    show Tr.up (Tr.up t.n l (some none)) 0 (some none) l = some none
    rw [Tr.up_other _ _ _ _ (by omega), Tr.up_same]
  have HGO : Hid (∀ y, PT K y b t2 → PT K (y.setCell ⟨b, 2112 + l * 34, none⟩ (.int .i64 0)) b ⟨t2.b, Tr.up t2.n l none⟩ ∧ y.cell? ⟨b, 2112 + l * 34, none⟩ = some (.int .i64 2)) := fun y hy => by
    refine ⟨hy.setst l (by omega) none (by rw [hn0]; rfl), ?_⟩
    have := hy.st l (by omega)
    rw [hn0] at this
    exact this
  have hhas : Tr.has t2 l = Tr.has ⟨Tr.up t.b k r, t.n⟩ l := by rw [ht2, ht1]; rfl
  have HA1 : Hid (Tr.has t2 l = true → t2 = Tr.act t k r) := fun e => by
    rw [hhas] at e
    unfold Tr.act
    rw [hl, if_pos e, ht2, ht1]
    rfl
  have HA2 : Hid (Tr.has t2 l = false → (⟨t2.b, Tr.up t2.n l none⟩ : Tr.T) = Tr.act t k r) := fun e => by
    rw [hhas] at e
    unfold Tr.act
    rw [hl, if_neg (by rw [e]; exact Bool.false_ne_true), ht2, ht1]
    show (⟨Tr.up t.b k r, Tr.up (Tr.up (Tr.up t.n l (some none)) 0 (some none)) l none⟩ : Tr.T) = _
    rw [Tr.up_comm _ 0 l _ _ (by omega), Tr.up_up]
  have HDE : Hid ((Tr.dead t k).map rfA = (Tr.alv (t.b k)).map rfA ++ (Tr.touchD t l).map rfA) := by
    show _ = _
    unfold Tr.dead Tr.touchD
    rw [hl, if_neg (by omega), List.append_assoc, List.map_append]
  have HAL := Lib.hid (alv_len (t.b k))
  have HDL : Hid ((Tr.touchD t l).length ≤ 2) := Tr.soD_len t l 2
  have hbw : b < w.heap.size := h.lt
  have HBN : Hid (w.heap.size ≠ b) := by show _ ≠ _; omega
  have HC1 : Hid (∀ y, PT K y b t1 → (Tr.tcs t1).toArray.size = 2418) := fun y hy => by rw [List.size_toArray, tcs_len hy.ok]
  have hk0 : 0 ≤ (k : Int) := by omega
  have hk1 : (k : Int) < 64 := by omega
  have hl0 : 0 ≤ (l : Int) := by omega
  have hl2 : (l : Int) < 9 := by omega
  have HK64 : Hid (k < 64) := hk
  rw [eA]
  have B0 : Hid (Below w.heap.size w (w.alloc (.cells R 33))) := (Below.refl _ w).alloc (Nat.le_refl _) _
  have R0 : Hid ((w.alloc (.cells R 33)).heap[w.heap.size]? = some (.cells R 33 (0, 0))) := heap_alloc_new w _
  obtain ⟨w0, hw0⟩ : ∃ x, x = w.alloc (.cells R 33) := ⟨_, rfl⟩
  rw [← hw0] at B0 R0
  have HZ0 : Hid (w.heap.size < w0.heap.size) := lt_of_block R0.out
  have hb0 : Hid (b < w0.heap.size) := by have := HZ0.out; show _ < _; omega
  have HRX : Hid (∀ y, OB b w0.heap.size w0 y → y.heap[w.heap.size]? = some (.cells R 33 (0, 0))) := fun y hy => (hy.block _ HZ0.out HBN.out).trans R0.out
  generalize Pg.lp (k : Int) = lpk at *
  rw [← ht1] at HSO
  unfold DtSay at HSO ⊢
  unfold ToSay at HT1
  unfold PgSay at HPG
  unfold BoSay at HEM
  generalize Tr.dead t k = DEAD at *
  generalize Tr.touchD t l = V2 at *
  generalize Tr.alv (t.b k) = V1 at *
  generalize Tr.act t k r = t3 at *
  generalize PV (Tr.pageL t2 (l : Int)) = pv at *
  generalize (⟨t2.b, Tr.up t2.n l none⟩ : Tr.T) = t4 at *
  clear h hkR hz0 hkS eS eA hn0 hhas ht1 ht2 hz hr hk hl1 hl9 hl hm
  cases hh : Tr.has t2 l with
  | true =>
    have HA := Lib.hid (HA1.out hh)
    rw [hh] at HEM
    clear HA1 HA2 hh
    go_enter Try.func54, Try.ntmps54
    go_upto_region 3 with (first
      | (go_at_call 65; rw [← hw0]; clear hw0; refine (HLF.out _).mono ?_; rintro e1 w1 ⟨rfl, B1⟩; have T1 := Lib.hid ((HT0.out _ B0.out).old B1.out); have P1 := Lib.hid (OB.of_below (b := b) B1.out (Nat.le_refl _)); have HB1 := Lib.hid (HBK.out _ T1.out))
      | ((with_reducible refine rng_load _ _ _ _ _ _ ?_ HB1.out Try.underlying33 ?_ hsS ?_); (exact rfl); (exact rfl))
      | ((with_reducible refine bs1_g _ _ _ S 33 40 Try.underlying40 Try.infoRf (rfa_size pg_zr) HSS.out ?_ ?_ _ ?_ ?_); (decide); (decide); (exact rfl))
      | (go_at_call 45; refine (HT1.out _ _ _ (heap_alloc_new _ _)).mono ?_; rintro e3 w3 ⟨v3, rfl, F3', B3⟩; have C3 := Lib.hid (((Below.refl _ w1).alloc (Nat.le_refl _) _).trans (B3.out.mono (((Below.refl w1.heap.size w1).alloc (Nat.le_refl _) _).size))); have T3 := Lib.hid (T1.out.old C3.out); have P3 := Lib.hid (P1.out.trans (OB.of_below (b := b) C3.out P1.out.size)); have F3 := Lib.hid (F3'.out.mono (Nat.le_trans P1.out.size ((Below.refl w1.heap.size w1).alloc (Nat.le_refl _) (.cells S 33)).size)); have T3a : Hid (PT K (w3.alloc (.cells #[.int .i64 (l : Int), .int .i64 0] 3)) b t) := T3.out.old ((Below.refl _ w3).alloc (Nat.le_refl _) _); have c30 : (w3.alloc (.cells #[.int .i64 (l : Int), .int .i64 0] 3)).cell? ⟨w3.heap.size, 0, none⟩ = some (.int .i64 (l : Int)) := (by rw [cell_of_row _ _ _ _ _ _ (heap_alloc_new _ _)]; rfl); have c31 : (w3.alloc (.cells #[.int .i64 (l : Int), .int .i64 0] 3)).cell? ⟨w3.heap.size, 1, none⟩ = some (.int .i64 0) := (by rw [cell_of_row _ _ _ _ _ _ (heap_alloc_new _ _)]; rfl); have n3 : w3.heap.size ≠ b := (by have := P3.out.size; have := hb0.out; omega))
      | (go_at_call 63; refine (HSO.out _ _ _ T3a.out n3 c30 c31).mono ?_; rintro e4 w4 ⟨v4, rfl, F4', T4, O4⟩; have A3 : Hid (Below w3.heap.size w3 (w3.alloc (.cells #[.int .i64 (l : Int), .int .i64 0] 3))) := ((Below.refl _ w3).alloc (Nat.le_refl _) _); have P3a := Lib.hid (P3.out.trans (OB.of_below (b := b) A3.out P3.out.size)); have P4 := Lib.hid (P3a.out.trans (OB.of_only O4.out P3a.out.size)); have F3b := Lib.hid ((F3.out.old A3.out).only O4.out ((F3.out.old A3.out).off_box T3a.out.box (by decide))))
      | (at_builtin; (with_reducible refine app_fl2 _ _ _ 33 40 Try.underlying40 Try.infoRf (rfa_size pg_zr) ?_ ?_ _ _ w0.heap.size _ _ _ _ _ ?_ ?_ F3b.out F4'.out (one_rfs _) ?_ P4.out.size ?_); (decide); (decide); (exact rfl); (exact rfl); (have q1 := HAL.out; have q2 := HDL.out; rw [List.length_map, List.length_map]; omega); intro v9 y9 HF9 HB9; have T9 := Lib.hid (T4.out.keep (HB9.out.block b hb0.out)); have P9 := Lib.hid (P4.out.trans (OB.of_belowK (b := b) HB9.out)); have R9 := Lib.hid (HRX.out _ P9.out)))
    clear c30 c31 n3
    refine wp_region_any (by kernel_rfl) ?_
    change wpAny _ _ _ _ _ _ _ (World.drew _)
    have TZ : Hid (PT K y9.drew b t1) := ⟨T9.out.box, T9.out.ok, T9.out.tz, T9.out.lo⟩
    have RZ : Hid (y9.drew.heap[w.heap.size]? = some (.cells R 33 (0, 0))) := R9.out
    have PZ : Hid (OB b w0.heap.size w0 y9.drew) := P9.out.drew
    have FZ : Hid (Fl w0.heap.size 33 33 y9.drew v9 (V1.map rfA ++ V2.map rfA)) := HF9.out
    obtain ⟨z, hz9⟩ : ∃ y, y = y9.drew := ⟨_, rfl⟩
    rw [← hz9] at TZ RZ PZ FZ ⊢
    clear hz9
    refine wpAny_of_held (S := fun y => y.heap[w.heap.size]? = some (.cells R 33 (0, 0))) _ _ _ _ ?_
    have SD : (fun y => y.heap[w.heap.size]? = some (.cells R 33 (0, 0))) z := RZ.out
    refine anyH_take 0 28 (.pointer (some ⟨b, 0, none⟩)) SD rfl (by kernel_rfl) (by kernel_rfl) (by kernel_rfl) (fun _ _ _ h => h) (by rfl) (by intro y hy; go_simp) ?_
    try simp only [Act.put, List.setIfInBounds_toArray, List.set_cons_zero, List.set_cons_succ]
    refine anyH_take 1 29 (.int .i64 (k : Int)) SD rfl (by kernel_rfl) (by kernel_rfl) (by kernel_rfl) (fun _ _ _ h => h) (by rfl) (by intro y hy; go_simp) ?_
    try simp only [Act.put, List.setIfInBounds_toArray, List.set_cons_zero, List.set_cons_succ]
    refine anyH_take 2 30 (.agg R) SD rfl (by kernel_rfl) (by kernel_rfl) (by kernel_rfl) (fun _ _ _ h => h) (by rfl) (fun y hy => exec_arr _ _ w.heap.size 0 _ _ rfl (rng_whole hy) Try.underlying33 rfl hsR) ?_
    try simp only [Act.put, List.setIfInBounds_toArray, List.set_cons_zero, List.set_cons_succ]
    refine anyH_take 3 31 (.pointer (some ⟨b, 0, none⟩)) SD rfl (by kernel_rfl) (by kernel_rfl) (by kernel_rfl) (fun _ _ _ h => h) (by rfl) (by intro y hy; go_simp) ?_
    try simp only [Act.put, List.setIfInBounds_toArray, List.set_cons_zero, List.set_cons_succ]
    refine anyH_take 4 32 (.pointer (some ⟨b, 0, none⟩)) SD rfl (by kernel_rfl) (by kernel_rfl) (by kernel_rfl) (fun _ _ _ h => h) (by rfl) (by intro y hy; go_simp) ?_
    try simp only [Act.put, List.setIfInBounds_toArray, List.set_cons_zero, List.set_cons_succ]
    refine anyH_take 5 33 (.pointer (some ⟨b, k * 33, none⟩)) SD rfl (by kernel_rfl) (by kernel_rfl) (by kernel_rfl) (fun _ _ _ h => h) (by rfl) (by intro y hy; go_simp) ?_
    try simp only [Act.put, List.setIfInBounds_toArray, List.set_cons_zero, List.set_cons_succ]
    refine anyH_one 6 (by kernel_rfl) ?_
    refine op_mid 6 _ _ _ rfl b (k * 33) _ _ R rfl rfl TZ.out.box hsR (by rw [HRS.out, HC1.out _ TZ.out]; have := HK64.out; omega) HR1.out (fun w5 G5 C5 => ⟨(C5.block _ HBN.out).trans RZ.out, ?_⟩)
    try simp only [Act.put, List.setIfInBounds_toArray, List.set_cons_zero, List.set_cons_succ]
    refine wpAnyH_done (by kernel_rfl) ?_ _
    have T5 := Lib.hid (HPUT.out _ _ TZ.out G5.out)
    have P5 := Lib.hid (PZ.out.trans (OB.of_only C5.only PZ.out.size))
    have F5 := Lib.hid (FZ.out.only C5.only (FZ.out.off_box TZ.out.box (by decide)))
    have HP5 := Lib.hid (HPG.out _ T5.out)
    have HE5 := Lib.hid (HEM.out _ T5.out)
    clear G5
    go_wp2_with (first
      | (go_at_call 25; refine HP5.out.mono ?_; rintro e6 w6 ⟨rfl, B6⟩)
      | (go_at_call 52; refine (HE5.out _).mono ?_; rintro e7 w7 ⟨rfl, B7⟩))
    have C7 := Lib.hid (B6.out.trans (B7.out.mono B6.out.size))
    have P7 := Lib.hid (P5.out.trans (OB.of_below (b := b) C7.out P5.out.size))
    go_ret
    refine ⟨_, rfl, Lib.hid ?_, Lib.hid ?_, Lib.hid ((only_of_below B0.out).trans (P7.out.only (Nat.le_refl _)))⟩
    · rw [HDE.out]; exact (F5.out.old C7.out).mono B0.out.size
    · rw [← HA.out]; exact T5.out.old C7.out
  | false =>
    have HA := Lib.hid (HA2.out hh)
    rw [hh] at HEM
    clear HA1 HA2 hh
    go_enter Try.func54, Try.ntmps54
    go_upto_region 3 with (first
      | (go_at_call 65; rw [← hw0]; clear hw0; refine (HLF.out _).mono ?_; rintro e1 w1 ⟨rfl, B1⟩; have T1 := Lib.hid ((HT0.out _ B0.out).old B1.out); have P1 := Lib.hid (OB.of_below (b := b) B1.out (Nat.le_refl _)); have HB1 := Lib.hid (HBK.out _ T1.out))
      | ((with_reducible refine rng_load _ _ _ _ _ _ ?_ HB1.out Try.underlying33 ?_ hsS ?_); (exact rfl); (exact rfl))
      | ((with_reducible refine bs1_g _ _ _ S 33 40 Try.underlying40 Try.infoRf (rfa_size pg_zr) HSS.out ?_ ?_ _ ?_ ?_); (decide); (decide); (exact rfl))
      | (go_at_call 45; refine (HT1.out _ _ _ (heap_alloc_new _ _)).mono ?_; rintro e3 w3 ⟨v3, rfl, F3', B3⟩; have C3 := Lib.hid (((Below.refl _ w1).alloc (Nat.le_refl _) _).trans (B3.out.mono (((Below.refl w1.heap.size w1).alloc (Nat.le_refl _) _).size))); have T3 := Lib.hid (T1.out.old C3.out); have P3 := Lib.hid (P1.out.trans (OB.of_below (b := b) C3.out P1.out.size)); have F3 := Lib.hid (F3'.out.mono (Nat.le_trans P1.out.size ((Below.refl w1.heap.size w1).alloc (Nat.le_refl _) (.cells S 33)).size)); have T3a : Hid (PT K (w3.alloc (.cells #[.int .i64 (l : Int), .int .i64 0] 3)) b t) := T3.out.old ((Below.refl _ w3).alloc (Nat.le_refl _) _); have c30 : (w3.alloc (.cells #[.int .i64 (l : Int), .int .i64 0] 3)).cell? ⟨w3.heap.size, 0, none⟩ = some (.int .i64 (l : Int)) := (by rw [cell_of_row _ _ _ _ _ _ (heap_alloc_new _ _)]; rfl); have c31 : (w3.alloc (.cells #[.int .i64 (l : Int), .int .i64 0] 3)).cell? ⟨w3.heap.size, 1, none⟩ = some (.int .i64 0) := (by rw [cell_of_row _ _ _ _ _ _ (heap_alloc_new _ _)]; rfl); have n3 : w3.heap.size ≠ b := (by have := P3.out.size; have := hb0.out; omega))
      | (go_at_call 63; refine (HSO.out _ _ _ T3a.out n3 c30 c31).mono ?_; rintro e4 w4 ⟨v4, rfl, F4', T4, O4⟩; have A3 : Hid (Below w3.heap.size w3 (w3.alloc (.cells #[.int .i64 (l : Int), .int .i64 0] 3))) := ((Below.refl _ w3).alloc (Nat.le_refl _) _); have P3a := Lib.hid (P3.out.trans (OB.of_below (b := b) A3.out P3.out.size)); have P4 := Lib.hid (P3a.out.trans (OB.of_only O4.out P3a.out.size)); have F3b := Lib.hid ((F3.out.old A3.out).only O4.out ((F3.out.old A3.out).off_box T3a.out.box (by decide))))
      | (at_builtin; (with_reducible refine app_fl2 _ _ _ 33 40 Try.underlying40 Try.infoRf (rfa_size pg_zr) ?_ ?_ _ _ w0.heap.size _ _ _ _ _ ?_ ?_ F3b.out F4'.out (one_rfs _) ?_ P4.out.size ?_); (decide); (decide); (exact rfl); (exact rfl); (have q1 := HAL.out; have q2 := HDL.out; rw [List.length_map, List.length_map]; omega); intro v9 y9 HF9 HB9; have T9 := Lib.hid (T4.out.keep (HB9.out.block b hb0.out)); have P9 := Lib.hid (P4.out.trans (OB.of_belowK (b := b) HB9.out)); have R9 := Lib.hid (HRX.out _ P9.out)))
    clear c30 c31 n3
    refine wp_region_any (by kernel_rfl) ?_
    change wpAny _ _ _ _ _ _ _ (World.drew _)
    have TZ : Hid (PT K y9.drew b t1) := ⟨T9.out.box, T9.out.ok, T9.out.tz, T9.out.lo⟩
    have RZ : Hid (y9.drew.heap[w.heap.size]? = some (.cells R 33 (0, 0))) := R9.out
    have PZ : Hid (OB b w0.heap.size w0 y9.drew) := P9.out.drew
    have FZ : Hid (Fl w0.heap.size 33 33 y9.drew v9 (V1.map rfA ++ V2.map rfA)) := HF9.out
    obtain ⟨z, hz9⟩ : ∃ y, y = y9.drew := ⟨_, rfl⟩
    rw [← hz9] at TZ RZ PZ FZ ⊢
    clear hz9
    refine wpAny_of_held (S := fun y => y.heap[w.heap.size]? = some (.cells R 33 (0, 0))) _ _ _ _ ?_
    have SD : (fun y => y.heap[w.heap.size]? = some (.cells R 33 (0, 0))) z := RZ.out
    refine anyH_take 0 28 (.pointer (some ⟨b, 0, none⟩)) SD rfl (by kernel_rfl) (by kernel_rfl) (by kernel_rfl) (fun _ _ _ h => h) (by rfl) (by intro y hy; go_simp) ?_
    try simp only [Act.put, List.setIfInBounds_toArray, List.set_cons_zero, List.set_cons_succ]
    refine anyH_take 1 29 (.int .i64 (k : Int)) SD rfl (by kernel_rfl) (by kernel_rfl) (by kernel_rfl) (fun _ _ _ h => h) (by rfl) (by intro y hy; go_simp) ?_
    try simp only [Act.put, List.setIfInBounds_toArray, List.set_cons_zero, List.set_cons_succ]
    refine anyH_take 2 30 (.agg R) SD rfl (by kernel_rfl) (by kernel_rfl) (by kernel_rfl) (fun _ _ _ h => h) (by rfl) (fun y hy => exec_arr _ _ w.heap.size 0 _ _ rfl (rng_whole hy) Try.underlying33 rfl hsR) ?_
    try simp only [Act.put, List.setIfInBounds_toArray, List.set_cons_zero, List.set_cons_succ]
    refine anyH_take 3 31 (.pointer (some ⟨b, 0, none⟩)) SD rfl (by kernel_rfl) (by kernel_rfl) (by kernel_rfl) (fun _ _ _ h => h) (by rfl) (by intro y hy; go_simp) ?_
    try simp only [Act.put, List.setIfInBounds_toArray, List.set_cons_zero, List.set_cons_succ]
    refine anyH_take 4 32 (.pointer (some ⟨b, 0, none⟩)) SD rfl (by kernel_rfl) (by kernel_rfl) (by kernel_rfl) (fun _ _ _ h => h) (by rfl) (by intro y hy; go_simp) ?_
    try simp only [Act.put, List.setIfInBounds_toArray, List.set_cons_zero, List.set_cons_succ]
    refine anyH_take 5 33 (.pointer (some ⟨b, k * 33, none⟩)) SD rfl (by kernel_rfl) (by kernel_rfl) (by kernel_rfl) (fun _ _ _ h => h) (by rfl) (by intro y hy; go_simp) ?_
    try simp only [Act.put, List.setIfInBounds_toArray, List.set_cons_zero, List.set_cons_succ]
    refine anyH_one 6 (by kernel_rfl) ?_
    refine op_mid 6 _ _ _ rfl b (k * 33) _ _ R rfl rfl TZ.out.box hsR (by rw [HRS.out, HC1.out _ TZ.out]; have := HK64.out; omega) HR1.out (fun w5 G5 C5 => ⟨(C5.block _ HBN.out).trans RZ.out, ?_⟩)
    try simp only [Act.put, List.setIfInBounds_toArray, List.set_cons_zero, List.set_cons_succ]
    refine wpAnyH_done (by kernel_rfl) ?_ _
    have T5 := Lib.hid (HPUT.out _ _ TZ.out G5.out)
    have P5 := Lib.hid (PZ.out.trans (OB.of_only C5.only PZ.out.size))
    have F5 := Lib.hid (FZ.out.only C5.only (FZ.out.off_box TZ.out.box (by decide)))
    have HP5 := Lib.hid (HPG.out _ T5.out)
    have HE5 := Lib.hid (HEM.out _ T5.out)
    clear G5
    go_wp2_with (first
      | (go_at_call 25; refine HP5.out.mono ?_; rintro e6 w6 ⟨rfl, B6⟩)
      | (go_at_call 52; refine (HE5.out _).mono ?_; rintro e7 w7 ⟨rfl, B7⟩; have C7 := Lib.hid (B6.out.trans (B7.out.mono B6.out.size)); have P7 := Lib.hid (P5.out.trans (OB.of_below (b := b) C7.out P5.out.size)); have T7 := Lib.hid (T5.out.old C7.out); have d7 := (HGO.out _ T7.out).2; have f7 : w7.frozen? ⟨b, 2112 + l * 34, none⟩ = false := frozen_of_row w7 b _ _ _ T7.out.box; have T8 := Lib.hid (HGO.out _ T7.out).1; have F7 := Lib.hid (F5.out.old C7.out)))
    have C8 := Chg.setCell w7 ⟨b, 2112 + l * 34, none⟩ (.int .i64 0)
    go_ret
    refine ⟨_, rfl, Lib.hid ?_, Lib.hid ?_, Lib.hid (((only_of_below B0.out).trans (P7.out.only (Nat.le_refl _))).trans C8.only)⟩
    · rw [HDE.out]; exact (F7.out.only C8.only (F7.out.off_box T7.out.box (by decide))).mono B0.out.size
    · rw [← HA.out]; exact T8.out
end Go.Proofs.Ytfeemeddhhgigaa

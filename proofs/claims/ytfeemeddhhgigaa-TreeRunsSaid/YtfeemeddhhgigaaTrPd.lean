/-
  The program's tree: contracts: New, Dirty, Mapped, Refs.
-/
import Derived.Test.YtfeemeddhhgigaaTrPc
namespace Go.Proofs.Ytfeemeddhhgigaa
open Go.RowKit

section
variable {P : Program} {ops : Array Oper} {rest : List Oper} {a : Act} {w : World} {Q : Exit → Act → World → Prop} {D : Option Tmp} {T : TypeId} {ps : String} {af : Array Edge}
/-- A row appended to another one. -/
theorem app_fl2 (t e : TypeId) (Z : Array Value) (s b : Nat) (hu : P.underlying t = some (.slice e)) (hi : (P.info? e).map (fun i => (i.zero, i.size, i.bytes)) = some (some (.agg Z), s, b)) (hZ : Z.size = s) (h0 : 0 < s) (hb : b ≤ 1000) (so xo : Operand) (K K2 : Nat) (v x : Value) (L M : List (Array Value)) (hs : a.eval so = v) (hx : a.eval xo = x) (hO : Fl K e s w v L) (hM : Fl K2 e s w x M) (h1 : ∀ A ∈ M, A.all (·.oneCell') = true) (hl : L.length + M.length ≤ 100000) (hK : K ≤ w.heap.size)
    (h : ∀ v' w', Hid (Fl K e s w' v' (L ++ M)) → Hid (Below K w w') → wpList P ops Q rest (a.put D v') w') :
    wpList P ops Q ({ dst := D, op := .call { callee := .builtin .append, args := #[so, xo], argTypes := #[t, t] }, type := T, pos := ps, after := af, guard := none } :: rest) a w := by
  obtain ⟨i0, hi1, hz0, hz1, hz2⟩ := info_parts hi
  have flen : ∀ (l : List (Array Value)), (∀ A ∈ l, A.size = s) → (fl l).length = l.length * s := by
    intro l
    induction l with
    | nil => intro _; simp [fl]
    | cons A l ih =>
      intro h
      rw [fl, List.length_append, ih (fun B hB => h B (by simp [hB])), Array.length_toList, h A (by simp), List.length_cons, Nat.add_mul, Nat.one_mul, Nat.add_comm]
  have fone : ∀ (l : List (Array Value)), (∀ A ∈ l, A.all (·.oneCell') = true) → ∀ u ∈ fl l, u.oneCell' = true := by
    intro l
    induction l with
    | nil => intro _ u hu; rw [fl] at hu; cases hu
    | cons A l ih =>
      intro h u hu
      rw [fl] at hu
      rcases List.mem_append.1 hu with q | q
      · have := h A (by simp)
        rw [Array.all_eq_true] at this
        obtain ⟨j, hj, rfl⟩ := List.mem_iff_getElem.1 q
        exact this j (by simpa using hj)
      · exact ih (fun B hB => h B (by simp [hB])) u q
  rcases hM.1.2 with ⟨q1, q2⟩ | ⟨g, cap, cur, q1, q2, q3, q4, q5, q6, q7⟩
  · have hM0 : M = [] := List.length_eq_zero_iff.1 q2
    subst hM0
    refine wpList_append_own_none rfl so xo t rfl K e i0 s hu hi1 v L.length (fl L) hs hO.1 (hx.trans q1) ?_
    exact h v w (show Fl K e s w v (L ++ []) by rw [List.append_nil]; exact hO) (Below.refl _ _)
  · subst q1
    have hM2 := flen M hM.2
    refine wpList_append_own w rfl so xo t rfl K e i0 (.agg Z) s b hu hi1 hz0 hz1 hz2 (show Z.size = s from hZ) h0 v L.length (fl L) hs hO.1 ⟨g, 0, none⟩ M.length cap (fl M) hx hM2 (fun j u hj => ?_) (fone M h1) (by unfold maxLen; omega) ?_ hK (fun v' w' ho hg _ => ?_)
    · rw [Addr.add_mid, Nat.zero_add, cell_of_row _ g j _ _ _ q3]
      have hj2 := (List.getElem?_eq_some_iff.1 hj).1
      rw [← q7, List.getElem?_take, if_pos (by rw [hM2] at hj2; exact hj2)] at hj
      simpa using hj
    · have : (L.length + M.length) * b ≤ (L.length + M.length) * 1000 := Nat.mul_le_mul_left _ hb
      omega
    · have hF : Fl K e s w' v' (L ++ M) := ⟨by rw [fl_append, List.length_append]; exact ho, fun B hB => by
        rcases List.mem_append.1 hB with q | q
        · exact hO.2 B q
        · exact hM.2 B q⟩
      exact h v' w' hF ((Below.refl K w).grown hg hK (fun j hj => (own_type hO.1 j hj).1))
end
namespace Tr
open Pg (Rf zr)
def t0 : T := ⟨fun _ => zr, fun _ => none⟩
theorem t0_new : (⟨t0.b, up t0.n 0 (some (some zr))⟩ : T) = new := by
  unfold t0 new
  congr 1
/-- Another standing of a node, in the cells. -/
theorem tcs_st (t : T) (h : TOk t) (i : Nat) (hi : i < 9) (x : Nd) (hx : nr x = nr (t.n i)) : (tcs t).toArray.setIfInBounds (2112 + i * 34) (.int .i64 (stn x)) = (tcs ⟨t.b, up t.n i x⟩).toArray := by
  rw [← tcs_n t h i hi x]
  have e := tcs_n t h i hi (t.n i)
  have e1 : (⟨t.b, up t.n i (t.n i)⟩ : T) = t := by rw [up_id]
  rw [e1] at e
  have hl := tcs_len h
  have e2 : tcs t = (tcs t).take (2112 + i * 34) ++ ndc (t.n i) ++ (tcs t).drop (2112 + i * 34 + 34) := by
    have := congrArg Array.toList e
    simpa [ndA] using this.symm
  apply Array.ext'
  have ht : ((tcs t).take (2112 + i * 34)).length = 2112 + i * 34 := by rw [List.length_take]; omega
  rw [Array.toList_setIfInBounds]
  show (tcs t).set (2112 + i * 34) (.int .i64 (stn x)) = (tcs t).take (2112 + i * 34) ++ ndc x ++ (tcs t).drop (2112 + i * 34 + 34)
  conv => lhs; rw [e2]
  rw [List.append_assoc, List.set_append_right _ _ (by omega), ht, Nat.sub_self, List.append_assoc]
  unfold ndc
  rw [hx]
  rfl
theorem some_range (f : Nat → Rf) (h : ∀ k, 0 < (f k).1 ∨ f k = zr) : ∀ n, some_ ((List.range n).map f) = flat (fun k => alv (f k)) n
  | 0 => rfl
  | n + 1 => by
    rw [List.range_succ, List.map_append, flat_succ, ← some_range f h n]
    unfold some_
    rw [List.filter_append]
    congr 1
    show [f n].filter _ = _
    rw [List.filter_cons, List.filter_nil]
    unfold alv
    rcases h n with h | h
    · have hne : f n ≠ zr := fun e => by rw [e] at h; exact absurd h zr_no
      rw [if_pos (by simp [hne]), if_pos h]
    · rw [h]; simp [zr_no]
theorem some_one {r : Rf} (h : 0 < r.1 ∨ r = zr) : some_ [r] = alv r := by
  have := some_range (fun _ => r) (fun _ => h) 1
  have e : flat (fun _ => alv r) 1 = alv r := by rw [flat_succ, flat_zero, List.nil_append]
  rw [e] at this
  exact this
def BL (t : T) : List Rf := (List.range 64).map t.b
theorem bl_some {t : T} (h : TZ t) : some_ (BL t) = blocks t := some_range t.b h.1 64
theorem BL_len (t : T) : (BL t).length = 64 := by unfold BL; rw [List.length_map, List.length_range]
theorem BL_at (t : T) (i : Nat) (hi : i < 64) : (BL t).getD i zr = t.b i := by unfold BL; rw [List.getD_eq_getElem?_getD, List.getElem?_map, List.getElem?_range hi]; rfl
theorem blocks_le (t : T) : (blocks t).length ≤ 64 := by unfold blocks; rw [blocks_len]; exact cntb_le t 64
end Tr
theorem PT.setst {K b : Nat} {w : World} {t : Tr.T} (h : PT K w b t) (i : Nat) (hi : i < 9) (x : Tr.Nd) (hx : Tr.nr x = Tr.nr (t.n i)) : PT K (w.setCell ⟨b, 2112 + i * 34, none⟩ (.int .i64 (Tr.stn x))) b ⟨t.b, Tr.up t.n i x⟩ := by
  have hok : ∀ r, x = some (some r) → Pg.Ok r := fun r e => by
    have := nr_ok h.ok i
    rw [← hx, e] at this
    exact this
  refine ⟨?_, h.ok.setn i x hok, h.tz.setn i x (by rw [hx]; exact h.tz.2 i), h.lo⟩
  rw [heap_setCell_same w b _ _ _ _ h.box, Tr.tcs_st t h.ok i hi x hx]
theorem PT.told {K b : Nat} {w : World} {t : Tr.T} (h : PT K w b t) (c : Nat) : Calls Try.prog 45 #[.slice (some ⟨b, 0, none⟩) 64 c] w (ToSay (Tr.blocks t) w) := by
  have := told_any (Tr.BL t) (some ⟨b, 0, none⟩) c 64 (Tr.BL_len t) (by omega) (fun r hr => by
    unfold Tr.BL at hr
    obtain ⟨k, _, rfl⟩ := List.mem_map.1 hr
    exact h.ok.1 k) w (fun i hi => ⟨b, rfl, by rw [Tr.BL_at t i hi]; exact h.blk i hi⟩)
  rw [Tr.bl_some h.tz] at this
  exact this
/-- One ref, in a row of its own. -/
theorem told_one (r : Pg.Rf) (hr : Pg.Ok r) (hz : 0 < r.1 ∨ r = Pg.zr) (w : World) (g c : Nat) (A : Array Value) (eA : rfA r = A) (hg : w.heap[g]? = some (.cells A 33 (0, 0))) : Calls Try.prog 45 #[.slice (some ⟨g, 0, none⟩) 1 c] w (ToSay (Tr.alv r) w) := by
  have := told_any [r] (some ⟨g, 0, none⟩) c 1 rfl (by omega) (fun x hx => by rw [List.mem_singleton] at hx; rw [hx]; exact hr) w (fun i hi => by
    obtain rfl : i = 0 := by omega
    refine ⟨g, rfl, ?_⟩
    rw [Nat.zero_mul]
    show w.rangeAt g 0 (rfA r).toList
    rw [eA]
    exact rng_whole hg)
  rw [Tr.some_one hz] at this
  exact this
theorem Try.builtTree : Try.prog.built 68 [] = some (Tr.tcs Tr.t0).toArray := by kernel_rfl
theorem t0_ok : TOk Tr.t0 := ⟨fun _ => pg_zr, fun i r h => by cases h⟩
theorem t0_tz : Tr.TZ Tr.t0 := ⟨fun _ => Or.inr rfl, fun _ => Or.inr rfl⟩
set_option maxHeartbeats 4000000 in
set_option maxRecDepth 100000 in
theorem pnew_any (K : Nat) (w : World) (hK : K ≤ w.heap.size) :
    Calls Try.prog 10 #[] w fun e w' => ∃ b, e = .returned (.pointer (some ⟨b, 0, none⟩)) ∧ Hid (PT K w' b Tr.new) ∧ Hid (Below w.heap.size w w') ∧ Hid (w.heap.size ≤ b) := by
  have HBT := Lib.hid Try.builtTree
  have P0 : Hid (PT K (w.alloc (.cells (Tr.tcs Tr.t0).toArray 68)) w.heap.size Tr.t0) := Lib.hid ⟨heap_alloc_new w _, t0_ok, t0_tz, hK⟩
  have B0 : Hid (Below w.heap.size w (w.alloc (.cells (Tr.tcs Tr.t0).toArray 68))) := (Below.refl _ w).alloc (Nat.le_refl _) _
  have c0 : (w.alloc (.cells (Tr.tcs Tr.t0).toArray 68)).cell? ⟨w.heap.size, 2112, none⟩ = some (.int .i64 0) := P0.out.st 0 (by omega)
  have e : (Tr.tcs Tr.t0).toArray.setIfInBounds 2112 (.int .i64 1) = (Tr.tcs Tr.new).toArray := by
    have := Tr.tcs_st Tr.t0 t0_ok 0 (by omega) (some (some Pg.zr)) rfl
    rw [Tr.t0_new] at this
    exact this
  have H1 : Hid (PT K (w.alloc (.cells ((Tr.tcs Tr.t0).toArray.setIfInBounds 2112 (.int .i64 1)) 68)) w.heap.size Tr.new) := Lib.hid ⟨by rw [e]; exact heap_alloc_new w _, new_ok, Tr.new_inv.tz, hK⟩
  have B1 : Hid (Below w.heap.size w (w.alloc (.cells ((Tr.tcs Tr.t0).toArray.setIfInBounds 2112 (.int .i64 1)) 68))) := (Below.refl _ w).alloc (Nat.le_refl _) _
  clear e
  generalize (Tr.tcs Tr.t0).toArray = A at *
  go_enter Try.func10, Try.ntmps10
  go_wp2_with ((with_reducible refine row_build0 _ _ HBT.out ?_))
  go_ret
  exact ⟨_, rfl, H1, B1, Lib.hid (Nat.le_refl _)⟩
set_option maxHeartbeats 4000000 in
set_option maxRecDepth 100000 in
theorem pmapped_any {K b : Nat} {t : Tr.T} (w : World) (h : PT K w b t) :
    Calls Try.prog 18 #[.pointer (some ⟨b, 0, none⟩)] w fun e w' => e = .returned (.int .i64 (Tr.mapped t : Int)) ∧ Hid (Below w.heap.size w w') := by
  have HT := Lib.hid (h.told 64)
  have HL : Hid ((Tr.blocks t).length = Tr.mapped t) := by show _ = _; unfold Tr.blocks; rw [Tr.blocks_len]; rfl
  generalize Tr.mapped t = n at *
  generalize Tr.blocks t = B at *
  clear h
  go_enter Try.func18, Try.ntmps18
  go_wp2_with (first
    | (go_at_call 45; refine HT.out.mono ?_; rintro e1 w1 ⟨v1, rfl, F1, B1⟩; obtain ⟨p1, c1, e9⟩ := F1.out.len; rw [List.length_map, HL.out] at e9; subst e9))
  go_ret
  exact ⟨rfl, B1⟩
theorem stn_cases (x : Tr.Nd) : (Tr.stn x = 2 ∧ Tr.dty x = true) ∨ (Tr.stn x = 0 ∧ Tr.dty x = false) ∨ (Tr.stn x = 1 ∧ Tr.dty x = false) := by
  cases x with
  | none => exact Or.inr (Or.inl ⟨rfl, rfl⟩)
  | some x =>
    cases x with
    | none => exact Or.inl ⟨rfl, rfl⟩
    | some r => exact Or.inr (Or.inr ⟨rfl, rfl⟩)
set_option maxHeartbeats 4000000 in
set_option maxRecDepth 100000 in
theorem pdirty_any {K b : Nat} {t : Tr.T} (w : World) (h : PT K w b t) :
    Calls Try.prog 20 #[.pointer (some ⟨b, 0, none⟩)] w (DiSay t w) := by
  have HD : Hid (∀ y (i : Nat), i < 9 → Below w.heap.size w y → y.cell? ⟨b, 2112 + i * 34, none⟩ = some (.int .i64 (Tr.stn (t.n i)))) := fun y i hi hy => (h.old hy).st i hi
  have HD0 : Hid (∀ y, Below w.heap.size w y → y.cell? ⟨b, 2112, none⟩ = some (.int .i64 (Tr.stn (t.n 0)))) := fun y hy => HD.out y 0 (by omega) hy
  clear h
  go_enter Try.func20, Try.ntmps20
  go_wp2
  go_loopw [3, 4] (fun v3 v4 wr => ∃ j : Nat, 1 ≤ j ∧ j ≤ 9 ∧ v4 = .int .i64 j ∧ Hid (IxO w.heap.size wr v3 (Tr.flat (Tr.fd t) (j - 1))) ∧ Hid (Below w.heap.size w wr)) (fun _ v4 _ => 9 - (intOf v4).toNat)
  case atStart => exact ⟨1, Nat.le_refl _, by omega, rfl, ixo_nil _ _, Below.refl _ _⟩
  case round =>
    obtain ⟨j, hj1, hj9, rfl, HO, HB⟩ := hrel
    have HL : Hid ((Tr.flat (Tr.fd t) (j - 1)).length ≤ 10000) := by have := Tr.fd_len t (j - 1); show _ ≤ _; omega
    by_cases hlt : j < 9
    · have hi0 : 0 ≤ (j : Int) := by omega
      have hi1 : (j : Int) < 9 := by omega
      have d1 := HD.out wr j (by omega) HB.out
      have HST : Hid (Tr.flat (Tr.fd t) (j + 1 - 1) = Tr.flat (Tr.fd t) (j - 1) ++ if Tr.dty (t.n j) then [j] else []) := by
        obtain ⟨m, rfl⟩ : ∃ m, j = m + 1 := ⟨j - 1, by omega⟩
        show Tr.flat (Tr.fd t) (m + 1) = Tr.flat (Tr.fd t) m ++ _
        rw [Tr.flat_succ]; rfl
      have hcs := stn_cases (t.n j)
      generalize Tr.dty (t.n j) = bb at *
      generalize Tr.stn (t.n j) = s at *
      rcases hcs with ⟨rfl, rfl⟩ | hcs
      · go_wp2_with (first
          | (at_builtin; refine app_ix _ _ w.heap.size _ (Tr.flat (Tr.fd t) (j - 1)) j rfl rfl HO.out HL.out HB.out.size ?_; intro v5' w5 O5 B5))
        exact ⟨⟨j + 1, by omega, by omega, by go_num, by rw [HST.out]; exact O5, HB.out.trans B5.out⟩, by simp [intOf]; omega⟩
      · have hb : bb = false := by rcases hcs with q | q <;> exact q.2
        subst hb
        have hs2 : (s == 2) = false := by rcases hcs with q | q <;> simp [q.1]
        clear hcs
        go_wp2
        exact ⟨⟨j + 1, by omega, by omega, by go_num, by rw [HST.out, if_neg Bool.false_ne_true, List.append_nil]; exact HO, HB⟩, by simp [intOf]; omega⟩
    · have E : j = 9 := by omega
      subst E
      have d1 := HD0.out wr HB.out
      have HE : Hid (Tr.dirtyL t = Tr.flat (Tr.fd t) 8 ++ if Tr.dty (t.n 0) then [0] else []) := rfl
      unfold DiSay
      have hcs := stn_cases (t.n 0)
      generalize Tr.dty (t.n 0) = bb at *
      generalize Tr.stn (t.n 0) = s at *
      rcases hcs with ⟨rfl, rfl⟩ | hcs
      · go_wp2_with (first
          | (at_builtin; refine app_ix _ _ w.heap.size _ (Tr.flat (Tr.fd t) 8) 0 rfl rfl HO.out HL.out HB.out.size ?_; intro v5' w5 O5 B5))
        go_ret
        exact ⟨_, rfl, Lib.hid (by rw [HE.out]; exact O5.out), Lib.hid (HB.out.trans B5.out)⟩
      · have hb : bb = false := by rcases hcs with q | q <;> exact q.2
        subst hb
        have hs2 : (s == 2) = false := by rcases hcs with q | q <;> simp [q.1]
        clear hcs
        go_wp2
        go_ret
        exact ⟨_, rfl, Lib.hid (by rw [HE.out, if_neg Bool.false_ne_true, List.append_nil]; exact HO.out), HB⟩
end Go.Proofs.Ytfeemeddhhgigaa

/-
  works: what each law of this layer asks.
-/
import Derived.Test.YtfeemeddhhgigaaTrQb
namespace Go.Proofs.Ytfeemeddhhgigaa
open Go.RowKit

section
variable {P : Program} {ops : Array Oper} {rest : List Oper} {a : Act} {w : World} {Q : Exit → Act → World → Prop} {D : Option Tmp} {T : TypeId} {ps : String} {af : Array Edge} {gd : Option (Nat × Bool)}
/-- Two rows, one behind the other. -/
theorem bs2_g (t e : TypeId) (x y : Operand) (Z A B : Array Value) (s b : Nat) (hw : Region.wanted { dst := D, op := .buildSlice t 2 #[(0, x), (1, y)], type := T, pos := ps, after := af, guard := gd } (yielded ops a.tmps) = true) (hu : P.underlying t = some (.slice e)) (hi : (P.info? e).map (fun i => (i.zero, i.size, i.bytes)) = some (some (.agg Z), s, b)) (hZ : Z.size = s) (hA : A.size = s) (hB : B.size = s) (h0 : 0 < s) (hl : s ≤ 1000) (hx : a.eval x = .agg A) (hy : a.eval y = .agg B)
    (h : wpList P ops Q rest (a.put D (.slice (some ⟨w.heap.size, 0, none⟩) 2 2)) (w.alloc (.cells (A.toList ++ B.toList).toArray e))) :
    wpList P ops Q ({ dst := D, op := .buildSlice t 2 #[(0, x), (1, y)], type := T, pos := ps, after := af, guard := gd } :: rest) a w :=
  BigFrame.wpList_want hw fun K hK => by
    obtain ⟨i, hi1, hi2, hi3, hi4⟩ := info_parts hi
    have hz2 : ((Array.range (2 * Z.size)).map (Z[· % Z.size]!)).size = 2 * s := by simp [hZ]
    generalize hZZ : (Array.range (2 * Z.size)).map (Z[· % Z.size]!) = ZZ at *
    have hf : Instr.fill (fun i => some (i * s, s)) ZZ [(0, .agg A), (1, .agg B)] = some (A.toList ++ B.toList).toArray := by
      have e2 : (Value.agg A).cells = A := rfl
      have e3 : (Value.agg B).cells = B := rfl
      rw [fill_step (fun i => some (i * s, s)) 0 (.agg A) (0 * s) s ZZ _ rfl hA (by omega), fill_step (fun i => some (i * s, s)) 1 (.agg B) (1 * s) s _ [] rfl hB (by
        rw [e2]
        simp only [List.size_toArray, List.length_append, List.length_take, List.length_drop, Array.length_toList]
        omega)]
      unfold Instr.fill
      congr 1
      apply Array.ext'
      rw [e2, e3]
      show ((ZZ.toList.take (0 * s) ++ A.toList ++ ZZ.toList.drop (0 * s + s)).take (1 * s) ++ B.toList) ++ (ZZ.toList.take (0 * s) ++ A.toList ++ ZZ.toList.drop (0 * s + s)).drop (1 * s + s) = A.toList ++ B.toList
      rw [Nat.zero_mul, List.take_zero, List.nil_append, Nat.one_mul, Nat.zero_add, List.take_append_of_le_length (by rw [Array.length_toList]; omega), List.take_of_length_le (by rw [Array.length_toList]; omega), List.drop_of_length_le (l := A.toList ++ ZZ.toList.drop s) (by rw [List.length_append, List.length_drop, Array.length_toList, Array.length_toList]; omega), List.append_nil]
    have hrun := run_buildSlice (P := P) w t e 2 #[(0, .agg A), (1, .agg B)] (A.toList ++ B.toList).toArray i (.agg Z) hu hi1 hi2 (by rw [hi3]; omega) (by rw [hi3]; omega) (by
      have e3 : (Value.agg Z).cells = Z := rfl
      rw [hi3, e3, ← hZ, hZZ, hZ]
      exact hf)
    unfold Oper.wp execOp
    simp only [hx, hy, List.map_toArray, List.map_cons, List.map_nil, hrun, Sem.run_bind, Sem.run_pure, Result.andThen_ok]
    exact hK _ _ h
end
theorem fl_two (w : World) (e : TypeId) (s : Nat) (A B : Array Value) (hA : A.size = s) (hB : B.size = s) : Fl w.heap.size e s (w.alloc (.cells (A.toList ++ B.toList).toArray e)) (.slice (some ⟨w.heap.size, 0, none⟩) 2 2) [A, B] := by
  refine ⟨⟨?_, Or.inr ⟨w.heap.size, 2, (A.toList ++ B.toList).toArray, rfl, Nat.le_refl _, heap_alloc_new w _, Nat.le_refl _, by unfold maxLen; omega, ?_, ?_⟩⟩, fun X hX => ?_⟩
  · show (A.toList ++ (B.toList ++ [])).length = 2 * s
    rw [List.append_nil, List.length_append, Array.length_toList, Array.length_toList, hA, hB]; omega
  · rw [List.size_toArray, List.length_append, Array.length_toList, Array.length_toList, hA, hB]; omega
  · show List.take (2 * s) (A.toList ++ B.toList) = A.toList ++ (B.toList ++ [])
    rw [List.append_nil, List.take_of_length_le (by rw [List.length_append, Array.length_toList, Array.length_toList, hA, hB]; omega)]
  · simp only [List.mem_cons, List.mem_nil_iff, or_false] at hX
    rcases hX with rfl | rfl
    · exact hA
    · exact hB
namespace Tr
def w1T : T := setI new 9 (rf 7)
def w2T : T := saveI w1T 0 (rf 8)
def w3T : T := saveI w2T 2 (rf 8)
def w4T : T := saveI w3T 0 (rf 9)
def w5T : T := setI w4T 10 (rf 11)
theorem wk2 : saveE w1T 0 (rf 8) = 16 := by decide +kernel
theorem wk3 : saveE w2T 2 (rf 8) = 0 := by decide +kernel
theorem wk4 : saveE w3T 0 (rf 9) = 0 := by decide +kernel
theorem wk5 : setD w4T 10 (rf 11) = [rf 8, rf 9] := by decide +kernel
theorem wk6 : refs w5T = [rf 7, rf 11] := by decide +kernel
theorem wk7 : mapped w5T = 2 := by decide +kernel
end Tr
def YesH (w : World) (e : Ending) (w' : World) : Prop := e = .returned (.bool true) ∧ Hid (Below w.heap.size w w')
theorem in64_of (x : Int) (h : -1000 ≤ x ∧ x ≤ 1000) : Pk.In64 x := by unfold Pk.In64; omega
set_option maxHeartbeats 8000000 in
set_option maxRecDepth 100000 in
theorem works_any (w : World) : Calls Try.prog 9 #[] w (YesH w) := by
  have K7 := rf_ok 7 (in64_of 7 (by omega))
  have K8 := rf_ok 8 (in64_of 8 (by omega))
  have K9 := rf_ok 9 (in64_of 9 (by omega))
  have K11 := rf_ok 11 (in64_of 11 (by omega))
  have HS1 : Hid (∀ y b, Pp w y b Tr.new → Calls Try.prog 29 #[.pointer (some ⟨b, 0, none⟩), .int .i64 9, .agg (rfA (Tr.rf 7))] y (fun e w' => ∃ v, e = .returned v ∧ Hid (Pp w w' b Tr.w1T))) := fun y b hy => (pp_set 9 _ K7 hy).mono fun _ _ ⟨v, h1, _, h3, _⟩ => ⟨v, h1, h3⟩
  have HV1 : Hid (∀ y b, Pp w y b Tr.w1T → Calls Try.prog 22 #[.pointer (some ⟨b, 0, none⟩), .int .i64 0, .agg (rfA (Tr.rf 8))] y (fun e w' => e = .returned (.int .i64 16) ∧ Hid (Pp w w' b Tr.w2T))) := fun y b hy => (pp_saved 0 _ K8 hy).mono fun _ _ ⟨h1, h2, _⟩ => ⟨by rw [h1, Tr.wk2], h2⟩
  have HV2 : Hid (∀ y b, Pp w y b Tr.w2T → Calls Try.prog 22 #[.pointer (some ⟨b, 0, none⟩), .int .i64 2, .agg (rfA (Tr.rf 8))] y (fun e w' => e = .returned (.int .i64 0) ∧ Hid (Pp w w' b Tr.w3T))) := fun y b hy => (pp_saved 2 _ K8 hy).mono fun _ _ ⟨h1, h2, _⟩ => ⟨by rw [h1, Tr.wk3], h2⟩
  have HV3 : Hid (∀ y b, Pp w y b Tr.w3T → Calls Try.prog 22 #[.pointer (some ⟨b, 0, none⟩), .int .i64 0, .agg (rfA (Tr.rf 9))] y (fun e w' => e = .returned (.int .i64 0) ∧ Hid (Pp w w' b Tr.w4T))) := fun y b hy => (pp_saved 0 _ K9 hy).mono fun _ _ ⟨h1, h2, _⟩ => ⟨by rw [h1, Tr.wk4], h2⟩
  have HS2 : Hid (∀ y b, Pp w y b Tr.w4T → Calls Try.prog 29 #[.pointer (some ⟨b, 0, none⟩), .int .i64 10, .agg (rfA (Tr.rf 11))] y (fun e w' => ∃ v, e = .returned v ∧ Hid (Fl y.heap.size 33 33 w' v [rfA (Tr.rf 8), rfA (Tr.rf 9)]) ∧ Hid (Pp w w' b Tr.w5T))) := fun y b hy => (pp_set 10 _ K11 hy).mono fun _ _ ⟨v, h1, h2, h3, _⟩ => ⟨v, h1, by rw [Tr.wk5] at h2; exact h2, h3⟩
  have HRF : Hid (∀ y b, Pp w y b Tr.w5T → Calls Try.prog 14 #[.pointer (some ⟨b, 0, none⟩)] y (fun e w' => ∃ v, e = .returned v ∧ Hid (Fl y.heap.size 33 33 w' v [rfA (Tr.rf 7), rfA (Tr.rf 11)]) ∧ Hid (Below y.heap.size y w'))) := fun y b hy => (prefs_any y hy.at_).mono fun _ _ ⟨v, h1, h2, h3⟩ => ⟨v, h1, by rw [Tr.wk6] at h2; exact h2, h3⟩
  have HMP : Hid (∀ y b, Pp w y b Tr.w5T → Calls Try.prog 18 #[.pointer (some ⟨b, 0, none⟩)] y (fun e w' => e = .returned (.int .i64 2) ∧ Hid (Below y.heap.size y w'))) := fun y b hy => (pmapped_any y hy.at_).mono fun _ _ ⟨h1, h2⟩ => ⟨by rw [h1, Tr.wk7]; rfl, h2⟩
  have HQ1 : Hid (∀ (y : World) B C u v, Fl B 33 33 y u [rfA (Tr.rf 8), rfA (Tr.rf 9)] → Fl C 33 33 y v [rfA (Tr.rf 8), rfA (Tr.rf 9)] → Calls Try.prog 26 #[u, v] y (fun e w' => e = .returned (.bool true) ∧ Hid (Below y.heap.size y w'))) := fun y B C u v hu hv => by
    have ho : ∀ r ∈ [Tr.rf 8, Tr.rf 9], Pg.Ok r := fun r hr => by
      simp only [List.mem_cons, List.mem_nil_iff, or_false] at hr
      rcases hr with rfl | rfl
      · exact K8
      · exact K9
    have q := samerefs_any (L := [Tr.rf 8, Tr.rf 9]) (M := [Tr.rf 8, Tr.rf 9]) ho ho (by simp) y hu hv
    rw [decide_eq_true rfl] at q
    exact q
  have HQ2 : Hid (∀ (y : World) B C u v, Fl B 33 33 y u [rfA (Tr.rf 7), rfA (Tr.rf 11)] → Fl C 33 33 y v [rfA (Tr.rf 7), rfA (Tr.rf 11)] → Calls Try.prog 26 #[u, v] y (fun e w' => e = .returned (.bool true) ∧ Hid (Below y.heap.size y w'))) := fun y B C u v hu hv => by
    have ho : ∀ r ∈ [Tr.rf 7, Tr.rf 11], Pg.Ok r := fun r hr => by
      simp only [List.mem_cons, List.mem_nil_iff, or_false] at hr
      rcases hr with rfl | rfl
      · exact K7
      · exact K11
    have q := samerefs_any (L := [Tr.rf 7, Tr.rf 11]) (M := [Tr.rf 7, Tr.rf 11]) ho ho (by simp) y hu hv
    rw [decide_eq_true rfl] at q
    exact q
  have HL7 : Hid (∀ y, Calls Try.prog 21 #[.int .i64 7] y fun e w' => e = .returned (.agg (rfA (Tr.rf 7))) ∧ Hid (Below y.heap.size y w')) := fun y => lref_any 7 y
  have HL8 : Hid (∀ y, Calls Try.prog 21 #[.int .i64 8] y fun e w' => e = .returned (.agg (rfA (Tr.rf 8))) ∧ Hid (Below y.heap.size y w')) := fun y => lref_any 8 y
  have HL9 : Hid (∀ y, Calls Try.prog 21 #[.int .i64 9] y fun e w' => e = .returned (.agg (rfA (Tr.rf 9))) ∧ Hid (Below y.heap.size y w')) := fun y => lref_any 9 y
  have HL11 : Hid (∀ y, Calls Try.prog 21 #[.int .i64 11] y fun e w' => e = .returned (.agg (rfA (Tr.rf 11))) ∧ Hid (Below y.heap.size y w')) := fun y => lref_any 11 y
  have Z7 := Lib.hid (rfa_size K7); have Z8 := Lib.hid (rfa_size K8); have Z9 := Lib.hid (rfa_size K9); have Z11 := Lib.hid (rfa_size K11)
  generalize rfA (Tr.rf 7) = R7 at *
  generalize rfA (Tr.rf 8) = R8 at *
  generalize rfA (Tr.rf 9) = R9 at *
  generalize rfA (Tr.rf 11) = R11 at *
  generalize Tr.w1T = t1 at *
  generalize Tr.w2T = t2 at *
  generalize Tr.w3T = t3 at *
  generalize Tr.w4T = t4 at *
  generalize Tr.w5T = t5 at *
  have HNW : Hid (Calls Try.prog 10 #[] w fun e w' => ∃ b, e = .returned (.pointer (some ⟨b, 0, none⟩)) ∧ Hid (Pp w w' b Tr.new)) := (pp_new w w (Below.refl _ _)).mono fun _ _ ⟨b, h1, h2, _⟩ => ⟨b, h1, h2⟩
  generalize Tr.new = t0 at *
  clear K7 K8 K9 K11
  unfold YesH
  go_enter Try.func9, Try.ntmps9
  go_upto_region 2 with (go_at_call 10; refine HNW.out.mono ?_; rintro e1 w1 ⟨b, rfl, P1⟩)
  go_upto_region 3 with (first
    | (go_at_call 21; refine (HL7.out _).mono ?_; rintro e2 w2 ⟨rfl, B2⟩; have P2 := Lib.hid (P1.out.next B2.out))
    | (go_at_call 29; refine (HS1.out _ _ P2.out).mono ?_; rintro e3 w3 ⟨v3, rfl, P3⟩))
  clear P1 P2 HS1 HNW
  go_upto_region 4 with (first
    | (go_at_call 21; refine (HL8.out _).mono ?_; rintro e4 w4 ⟨rfl, B4⟩; have P4 := Lib.hid (P3.out.next B4.out))
    | (go_at_call 22; refine (HV1.out _ _ P4.out).mono ?_; rintro e5 w5 ⟨rfl, P5⟩))
  clear P3 P4 HV1
  go_upto_region 5 with (first
    | (go_at_call 21; refine (HL8.out _).mono ?_; rintro e6 w6 ⟨rfl, B6⟩; have P6 := Lib.hid (P5.out.next B6.out))
    | (go_at_call 22; refine (HV2.out _ _ P6.out).mono ?_; rintro e7 w7 ⟨rfl, P7⟩))
  clear P5 P6 HV2
  go_upto_region 6 with (first
    | (go_at_call 21; refine (HL9.out _).mono ?_; rintro e8 w8 ⟨rfl, B8⟩; have P8 := Lib.hid (P7.out.next B8.out))
    | (go_at_call 22; refine (HV3.out _ _ P8.out).mono ?_; rintro e9 w9 ⟨rfl, P9⟩))
  clear P7 P8 HV3
  go_upto_region 7 with (first
    | (go_at_call 21; refine (HL11.out _).mono ?_; rintro e10 w10 ⟨rfl, B10⟩; have P10 := Lib.hid (P9.out.next B10.out))
    | (go_at_call 29; refine (HS2.out _ _ P10.out).mono ?_; rintro e11 w11 ⟨v11, rfl, F11, P11⟩))
  clear P9 P10 HS2
  go_wp2_with (first
    | (go_at_call 21; with_reducible refine (HL8.out _).mono ?_; rintro e12 w12 ⟨rfl, B12⟩)
    | (go_at_call 21; with_reducible refine (HL9.out _).mono ?_; rintro e13 w13 ⟨rfl, B13⟩)
    | (go_at_call 21; with_reducible refine (HL7.out _).mono ?_; rintro e14 w14 ⟨rfl, B14⟩)
    | (go_at_call 21; with_reducible refine (HL11.out _).mono ?_; rintro e15 w15 ⟨rfl, B15⟩)
    | ((with_reducible refine bs2_g _ _ _ _ _ R8 R9 33 40 ?_ Try.underlying40 Try.infoRf (rfa_size pg_zr) Z8.out Z9.out ?_ ?_ ?_ ?_ ?_); (exact rfl); (decide); (decide); (exact rfl); (exact rfl); have FT := Lib.hid (fl_two w13 33 33 R8 R9 Z8.out Z9.out); have A13 : Hid (Below w13.heap.size w13 (w13.alloc (.cells (R8.toList ++ R9.toList).toArray 33))) := ((Below.refl _ w13).alloc (Nat.le_refl _) _); have C13 := Lib.hid ((B12.out.trans (B13.out.mono B12.out.size)).trans (A13.out.mono (Nat.le_trans B12.out.size B13.out.size))); have FD := Lib.hid (F11.out.old C13.out); have P13 := Lib.hid (P11.out.next C13.out))
    | (go_at_call 26; with_reducible refine (HQ1.out _ _ _ _ _ FD.out FT.out).mono ?_; rintro e16 w16 ⟨rfl, B16⟩; have P16 := Lib.hid (P13.out.next B16.out))
    | (go_at_call 14; with_reducible refine (HRF.out _ _ P16.out).mono ?_; rintro e17 w17 ⟨v17, rfl, F17, B17⟩; have P17 := Lib.hid (P16.out.next B17.out))
    | ((with_reducible refine bs2_g _ _ _ _ _ R7 R11 33 40 ?_ Try.underlying40 Try.infoRf (rfa_size pg_zr) Z7.out Z11.out ?_ ?_ ?_ ?_ ?_); (exact rfl); (decide); (decide); (exact rfl); (exact rfl); have FU := Lib.hid (fl_two w15 33 33 R7 R11 Z7.out Z11.out); have A15 : Hid (Below w15.heap.size w15 (w15.alloc (.cells (R7.toList ++ R11.toList).toArray 33))) := ((Below.refl _ w15).alloc (Nat.le_refl _) _); have C15 := Lib.hid ((B14.out.trans (B15.out.mono B14.out.size)).trans (A15.out.mono (Nat.le_trans B14.out.size B15.out.size))); have FR := Lib.hid (F17.out.old C15.out); have P15 := Lib.hid (P17.out.next C15.out))
    | (go_at_call 26; with_reducible refine (HQ2.out _ _ _ _ _ FR.out FU.out).mono ?_; rintro e18 w18 ⟨rfl, B18⟩; have P18 := Lib.hid (P15.out.next B18.out))
    | (go_at_call 18; with_reducible refine (HMP.out _ _ P18.out).mono ?_; rintro e19 w19 ⟨rfl, B19⟩; have P19 := Lib.hid (P18.out.next B19.out)))
  go_ret
  exact ⟨rfl, Lib.hid P19.out.old⟩
end Go.Proofs.Ytfeemeddhhgigaa
